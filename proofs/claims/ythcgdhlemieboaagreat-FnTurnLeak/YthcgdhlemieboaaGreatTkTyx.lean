/- The labels of steps being done, as the model says them. -/
import Derived.Test.YthcgdhlemieboaaGreatTkTyp
import Derived.Test.YthcgdhlemieboaaGreatTkLbl
import Derived.Test.YthcgdhlemieboaaGreatTkRpp
import Derived.Test.YthcgdhlemieboaaGreatTkDol
import Derived.Test.YthcgdhlemieboaaGreatTkCpx
namespace Go.Proofs.YthcgdhlemieboaaGreat
open Go.RowKit
set_option linter.unusedSimpArgs false
set_option linter.unusedVariables false
attribute [local go_sem] World.cell?_alloc_some

theorem infoLab1 : (Tryz.prog.info? 59).map (fun i => (i.zero, i.size, i.bytes)) = some (some (.agg #[.int .i64 0, .int .i64 0]), 2, 16) := by kernel_rfl
structure Gx (ov : Value) (w w' : World) : Prop where
  os : w'.os = w.os
  tape : w'.tape = w.tape
  output : w'.output = w.output
  size : w.heap.size ≤ w'.heap.size
  block : ∀ b, b < w.heap.size → ov.ownBlock ≠ some b → w'.heap[b]? = w.heap[b]?
theorem Gx.of {ov : Value} {w w' : World} (h : Below w.heap.size w w') : Gx ov w w' := ⟨h.os, h.tape, h.output, h.size, fun b hb _ => h.block b hb⟩
theorem Gx.then {ov ov1 : Value} {N : Nat} {w w1 w2 : World} (h : Gx ov w w1) (k : Gx ov1 w1 w2) (hn : Nx N ov ov1) (hN : w.heap.size ≤ N) : Gx ov w w2 :=
  ⟨k.os.trans h.os, k.tape.trans h.tape, k.output.trans h.output, Nat.le_trans h.size k.size, fun b hb hne => (k.block b (Nat.lt_of_lt_of_le hb h.size) (hn.ne hne (by omega))).trans (h.block b hb hne)⟩
theorem Gx.grow {ov ov1 : Value} {N : Nat} {w w1 w2 : World} (h : Gx ov w w1) (k : w1.grownBy w2 ov1.ownBlock) (hn : Nx N ov ov1) (hN : w.heap.size ≤ N) : Gx ov w w2 :=
  h.then (ov1 := ov1) ⟨k.os, k.tape, k.output, k.size, fun b hb hne => k.block b hb (fun e => hne e.symm)⟩ hn hN
theorem Gx.below {B : Nat} {ov : Value} {w w' : World} (h : Gx ov w w') (hv : ∀ b, ov.ownBlock = some b → B ≤ b) (hB : B ≤ w.heap.size) : Below B w w' :=
  ⟨h.os, h.tape, h.output, h.size, fun b hb => h.block b (by omega) (fun e => by have := hv b e; omega)⟩
theorem C2.gx {ov : Value} {w w' : World} {b : Nat} {v0 v1 : Value} (h : C2 w b v0 v1) (k : Gx ov w w') (hne : ov.ownBlock ≠ some b) : C2 w' b v0 v1 :=
  h.same (k.block b (World.block_lt_of_cell? w _ h.1.1) hne)
theorem rowl_some {w : World} {base : Nat} {e : TypeId} {sz : Nat} {v : Value} {n : Nat} {xs : List Value} (h : w.ownsRow base e sz v n xs) (hv : v ≠ .slice none 0 0) : ∃ g c, v = .slice (some ⟨g, 0, none⟩) n c ∧ base ≤ g ∧ g < w.heap.size := by
  obtain ⟨h0, ⟨h1, _⟩ | ⟨g, cap, cur, hv', hg, hh, r⟩⟩ := id h
  · exact (hv h1).elim
  · exact ⟨g, cap, hv', hg, (World.ownsRow.lt h g (by rw [hv']; rfl)).2⟩

theorem l1All_any (w : World) : Calls Tryz.prog 77 #[] w fun e w' => e = .returned (.int .i64 7) ∧ w' = w := by
  go_enter Tryz.func77, Tryz.ntmps77
  go_wp2
  go_ret
  exact ⟨rfl, rfl⟩

theorem l11Any_any (w : World) : Calls Tryz.prog 88 #[] w fun e w' => e = .returned (.agg #[.int .i64 7, .int .i64 7]) ∧ Below w.heap.size w w' := by
  have A := (Below.refl w.heap.size w).alloc (Nat.le_refl _) (.cells #[.int .i64 0, .int .i64 0] 59)
  have G := C2.new w (.int .i64 0) (.int .i64 0) 59
  generalize hW : w.alloc (.cells #[.int .i64 0, .int .i64 0] 59) = w0 at A G
  have HW : Hid _ := hW
  have HA : Hid _ := A
  have HG : Hid (C2 w0 w.heap.size (.int .i64 0) (.int .i64 0)) := G
  obtain ⟨⟨c0, c1⟩, f0, f1⟩ := G
  clear hW A
  go_enter Tryz.func88, Tryz.ntmps88
  go_wp2_with fail
  rw [HW.out]
  go_at_call 77; refine (l1All_any _).mono ?_; rintro e w1 ⟨rfl, hw1⟩
  rw [hw1]
  clear hw1 w1
  go_wp2_with fail
  go_at_call 77; refine (l1All_any _).mono ?_; rintro e w1 ⟨rfl, hw1⟩
  rw [hw1]
  clear hw1 w1
  go_wp2
  obtain ⟨⟨q0, q1⟩, -⟩ := (HG.out.set0 (.int .i64 7)).set1 (.int .i64 7)
  exact bodyPost_ret (v := .agg #[.int .i64 7, .int .i64 7]) (by simp [results, Tryz.results88, go_sem, q0, q1]) rfl ⟨rfl, (HA.out.setCell (Nat.le_refl _) _).setCell (Nat.le_refl _) _⟩

set_option maxHeartbeats 8000000 in
set_option maxRecDepth 20000 in
theorem l11At_any (W : World) (B : Nat) (hWB : W.heap.size ≤ B) {ls : List (Int × Int)} (hls : labsB ls = true) {lv : Value} (hL : LRep W lv ls) (pa : Option Addr) (pn pc : Nat) : ∀ (d : Nat) (T : Tr d) (deep : Int) (here : Int × Int) (tv ov : Value) (zs : List (Int × Int)) (w : World), Rep W d tv T → Below W.heap.size W w → B ≤ w.heap.size → stB ls.length d deep T = true → okL here → zs.length + cnt d T ≤ 1048576 → w.ownsRow B 59 2 ov zs.length (pcells zs) → ov ≠ .slice none 0 0 →
    Calls Tryz.prog 87 #[.agg #[lv, .slice pa pn pc], tv, .agg #[.int .i64 here.1, .int .i64 here.2], ov] w fun e w' => ∃ v', e = .returned v' ∧ w'.ownsRow B 59 2 v' (zs.length + cnt d T) (pcells (zs ++ atT ls d T here)) ∧ Gx ov w w' ∧ Nx w.heap.size ov v' ∧ v' ≠ .slice none 0 0 := by
  intro d
  obtain ⟨j0, hj0, hy0, hy1, hy2⟩ := info_parts infoLab1
  obtain ⟨la, lc, rfl, hll, hlm, hlcell⟩ := hL
  induction d with
  | zero =>
    intro T deep here tv ov zs w h hb hB hst hok hc hor hnn
    obtain ⟨a, c, rfl⟩ := h
    obtain ⟨g, gc, rfl, hg0, hg1⟩ := rowl_some hor hnn
    have A : Below w.heap.size w ((w.alloc (.cells #[.slice la ls.length lc, .slice pa pn pc] 26)).alloc (.cells #[.int .i64 here.1, .int .i64 here.2] 59)) := ((Below.refl _ _).alloc (Nat.le_refl _) _).alloc (by simp) _
    have HOR : Hid _ := rowp_frame hor (fun k hk => A.block k (World.ownsRow.lt hor k hk).2)
    have HA : Hid _ := A
    clear hor A
    go_enter Tryz.func87, Tryz.ntmps87
    go_wp2
    refine wp_loop_rounds 1 ?_
    rw [rounds_succ]
    go_wp2
    go_ret
    exact ⟨_, rfl, by have e : zs ++ atT ls 0 T here = zs := List.append_nil zs; rw [e]; exact HOR.out, Gx.of HA.out, Nx.refl _ _, by simp⟩
  | succ d ih =>
    intro (l : List (Pay × Tr d × Tr d)) deep here tv ov zs w h hb hB hst hok hc hor hnn
    obtain ⟨a, c, rfl, hlc, hcm, hcell⟩ := h
    have hlm' : (l.length : Int) ≤ 9223372036854775807 := by unfold maxLen at hcm; omega
    have HC : Hid (∀ i (hi : i < l.length), ∃ (p : Pay) (T1 T2 : Tr d) (b off : Nat) (taa : Option Addr) (tac : Nat) (eaa : Option Addr) (eac : Nat), l[i] = (p, T1, T2) ∧ a = some ⟨b, off, none⟩ ∧ StepAt W b (off + i * 8) p (.slice taa (ln d T1) tac) (.slice eaa (ln d T2) eac) ∧ Rep W d (.slice taa (ln d T1) tac) T1 ∧ Rep W d (.slice eaa (ln d T2) eac) T2) := (show ∀ i (hi : i < l.length), _ by
      intro i hi
      obtain ⟨b, off, t, e, ha, hS, r1, r2⟩ := hcell i hi
      obtain ⟨ta, tc, rfl⟩ := r1.slice
      obtain ⟨ea, ec, rfl⟩ := r2.slice
      exact ⟨_, _, _, b, off, ta, tc, ea, ec, rfl, ha, hS, r1, r2⟩)
    have HLS : Hid (∀ i (hi : i < l.length), payB ls.length l[i].1 (decide (ln d l[i].2.1 + ln d l[i].2.2 = 0)) = true ∧ stB ls.length d (deep - 1) l[i].2.1 = true ∧ stB ls.length d (deep - 1) l[i].2.2 = true) := (show ∀ i (hi : i < l.length), _ by
      intro i hi
      have hs' : (l.all fun x => decide (1 ≤ deep) && payB ls.length x.1 (decide (ln d x.2.1 + ln d x.2.2 = 0)) && (stB ls.length d (deep - 1) x.2.1 && stB ls.length d (deep - 1) x.2.2)) = true := hst
      have hx := List.all_eq_true.1 hs' l[i] (List.getElem_mem hi)
      simp only [Bool.and_eq_true_iff] at hx
      exact ⟨hx.1.2, hx.2.1, hx.2.2⟩)
    have HLC : Hid _ := hlcell
    have IH : Hid _ := ih
    have HBW : Hid (Below W.heap.size W w) := hb
    have hWs : W.heap.size ≤ w.heap.size := hb.size
    obtain ⟨g00, gc00, hov, hg00, hg01⟩ := rowl_some hor hnn
    have A : Below w.heap.size w ((w.alloc (.cells #[.slice la ls.length lc, .slice pa pn pc] 26)).alloc (.cells #[.int .i64 here.1, .int .i64 here.2] 59)) := ((Below.refl _ _).alloc (Nat.le_refl _) _).alloc (by simp) _
    have G1 : C2 ((w.alloc (.cells #[.slice la ls.length lc, .slice pa pn pc] 26)).alloc (.cells #[.int .i64 here.1, .int .i64 here.2] 59)) w.heap.size (.slice la ls.length lc) (.slice pa pn pc) := (C2.new w _ _ 26).same (Below.heap_alloc _ _ _ (by simp))
    have G2 : C2 ((w.alloc (.cells #[.slice la ls.length lc, .slice pa pn pc] 26)).alloc (.cells #[.int .i64 here.1, .int .i64 here.2] 59)) (w.heap.size + 1) (.int .i64 here.1) (.int .i64 here.2) := by
      have := C2.new (w.alloc (.cells #[.slice la ls.length lc, .slice pa pn pc] 26)) (.int .i64 here.1) (.int .i64 here.2) 59
      simpa using this
    have H0 : Hid (((w.alloc (.cells #[.slice la ls.length lc, .slice pa pn pc] 26)).alloc (.cells #[.int .i64 here.1, .int .i64 here.2] 59)).ownsRow B 59 2 ov zs.length (pcells zs) ∧ C2 _ w.heap.size _ _ ∧ C2 _ (w.heap.size + 1) _ _ ∧ Gx ov w _ ∧ w.heap.size + 2 ≤ ((w.alloc (.cells #[.slice la ls.length lc, .slice pa pn pc] 26)).alloc (.cells #[.int .i64 here.1, .int .i64 here.2] 59)).heap.size) := ⟨rowp_frame hor (fun k hk => A.block k (World.ownsRow.lt hor k hk).2), G1, G2, Gx.of A, by simp⟩
    have HOV : Hid (∀ b, ov.ownBlock = some b → B ≤ b ∧ b < w.heap.size) := World.ownsRow.lt hor
    have HNN : Hid _ := hnn
    clear ih hcell hb hst hor A G1 G2 hlcell hnn
    subst hov
    go_enter Tryz.func87, Tryz.ntmps87
    go_wp2
    go_loopw [3, 9] (fun o j wr => ∃ (i : Nat), i ≤ l.length ∧ j = .int .i64 i ∧ wr.ownsRow B 59 2 o (zs.length + cnt (d + 1) (l.take i : List (Pay × Tr d × Tr d))) (pcells (zs ++ atT ls (d + 1) (l.take i : List (Pay × Tr d × Tr d)) here)) ∧ C2 wr w.heap.size (.slice la ls.length lc) (.slice pa pn pc) ∧ C2 wr (w.heap.size + 1) (.int .i64 here.1) (.int .i64 here.2) ∧ Gx (.slice (some ⟨g00, 0, none⟩) zs.length gc00) w wr ∧ Nx (w.heap.size + 2) (.slice (some ⟨g00, 0, none⟩) zs.length gc00) o ∧ w.heap.size + 2 ≤ wr.heap.size ∧ o ≠ .slice none 0 0) (fun _ j _ => l.length - (intOf j).toNat)
    case atStart => exact ⟨0, by omega, rfl, by have e : zs ++ atT ls (d + 1) (l.take 0 : List (Pay × Tr d × Tr d)) here = zs := List.append_nil zs; rw [e]; exact H0.out.1, H0.out.2.1, H0.out.2.2.1, H0.out.2.2.2.1, Nx.refl _ _, H0.out.2.2.2.2, HNN.out⟩
    case round =>
      clear H0
      obtain ⟨i, hi, rfl, hor, hP, hH, hGx, hNx, hsz, hnn⟩ := hrel
      obtain ⟨n0, hn0⟩ : ∃ n0, zs.length + cnt (d + 1) (l.take i : List (Pay × Tr d × Tr d)) = n0 := ⟨_, rfl⟩
      obtain ⟨A0, hA0⟩ : ∃ A0, atT ls (d + 1) (l.take i : List (Pay × Tr d × Tr d)) here = A0 := ⟨_, rfl⟩
      rw [hn0, hA0] at hor
      obtain ⟨g, gc, hov, hg0, hg1⟩ := rowl_some hor hnn
      subst hov
      have NE0 : Hid (g ≠ w.heap.size ∧ g ≠ w.heap.size + 1) := ⟨fun e => hNx.ne (b := g) (fun e' => by have : g00 = g := Option.some.inj e'; omega) (by omega) rfl, fun e => hNx.ne (b := g) (fun e' => by have : g00 = g := Option.some.inj e'; omega) (by omega) rfl⟩
      by_cases hlt : i < l.length
      · obtain ⟨p, T1, T2, b, off, taa, tac, eaa, eac, hx, rfl, hS, r1, r2⟩ := HC.out i hlt
        obtain ⟨hp, st1, st2⟩ := HLS.out i hlt
        have q1 := cnt_take l i hlt
        have q2 := atT_take ls l i hlt here
        have q4 := cnt_take_le l (i + 1)
        rw [hx] at hp st1 st2 q1 q2
        dsimp only at hp st1 st2 q1 q2
        have lA0 : A0.length = cnt (d + 1) (l.take i : List (Pay × Tr d × Tr d)) := by rw [← hA0]; exact atT_length ls (d + 1) _ here
        rw [hA0] at q2
        have BWr : Below W.heap.size W wr := HBW.out.trans ((hGx.below (B := B) (fun k e => by have : g00 = k := Option.some.inj e; omega) hB).mono hWB)
        obtain ⟨pk, v, pvk, pva, pvb, ph⟩ := p
        obtain ⟨k0, k1, k2, k3, k4, k5, k6, k7⟩ := hS.on (w' := wr) (fun a v h => cell_later BWr h)
        dsimp only at hp k1 q2
        have hvn : vIn ls.length v = true := by unfold payB at hp; simp only [Bool.and_eq_true_iff] at hp; exact hp.1
        obtain ⟨hv0, hv1⟩ : 0 ≤ v ∧ v < ls.length := by simpa [vIn] using hvn
        obtain ⟨m, rfl⟩ := Int.eq_ofNat_of_zero_le hv0
        have hm : m < ls.length := by omega
        have hlb : lab ls (m : Int) = ls[m] := by simp [lab, hm]
        obtain ⟨lb, lf, rfl, q0', q1'⟩ := HLC.out m hm
        have hlbW : lb < W.heap.size := World.block_lt_of_cell? _ _ q0'
        rw [← hlb] at q0' q1'
        replace q0' := cell_later BWr q0'
        replace q1' := cell_later BWr q1'
        have hb1 : lb < wr.heap.size := World.block_lt_of_cell? _ _ q0'
        have hb0 : b < wr.heap.size := World.block_lt_of_cell? _ _ k1
        have hbW : b < W.heap.size := stepAt_lt hS
        have hlW : lb < W.heap.size := hlbW
        have hok' : okL (anL here (lab ls (m : Int))) := anL_ok hok (lab_ok hls _)
        have HBO : Hid _ := anL_bo hok (lab_ok hls (m : Int))
        have HQ1 : Hid _ := q1
        have HQ2 : Hid _ := q2
        have i0' : (0 : Int) ≤ (i : Int) := by omega
        have i1' : (i : Int) < (l.length : Int) := by omega
        have m0' : (0 : Int) ≤ (m : Int) := by omega
        have m1' : (m : Int) < (ls.length : Int) := by omega
        have HOR : Hid (wr.ownsRow B 59 2 (.slice (some ⟨g, 0, none⟩) n0 gc) n0 (pcells (zs ++ A0))) := hor
        have HGX : Hid (Gx (.slice (some ⟨g00, 0, none⟩) zs.length gc00) w wr) := hGx
        have HNX : Hid (Nx (w.heap.size + 2) (.slice (some ⟨g00, 0, none⟩) zs.length gc00) (.slice (some ⟨g, 0, none⟩) n0 gc)) := hNx
        have HBWr : Hid (Below W.heap.size W wr) := BWr
        have HPb : Hid (C2 wr w.heap.size (.slice (some ⟨lb, lf, none⟩) ls.length lc) (.slice pa pn pc)) := hP
        have HHb : Hid (C2 wr (w.heap.size + 1) (.int .i64 here.1) (.int .i64 here.2)) := hH
        have HK1 : Hid _ := k1
        have HK6 : Hid _ := k6
        have HK7 : Hid _ := k7
        have HL0 : Hid _ := q0'
        have HL1 : Hid _ := q1'
        obtain ⟨⟨p0, p1⟩, -⟩ := hP
        obtain ⟨⟨h0, h1⟩, -⟩ := hH
        clear hor hGx hNx BWr k0 k1 k2 k3 k4 k5 k6 k7 q0' q1' q1 q2 hx hS hp hlb hvn hv0 hv1
        go_wp2_with (at_builtin; refine wpList_append_own_at _ rfl _ _ 23 rfl B 59 j0 _ 2 16 Tryz.underlying23 hj0 hy0 hy1 hy2 rfl (by decide) _ _ _ rfl (HOR.out.alloc _) ⟨wr.heap.size, 0, none⟩ 1 1 [.int .i64 here.1, .int .i64 here.2] rfl rfl ?c1 ?c2 ?c3 ?c4 ?c5 ?_)
        case c1 => exact cells_new2 _ _ _ _ _ rfl
        case c2 => simp [Value.oneCell']
        case c3 => have := HQ1.out; unfold maxLen; omega
        case c4 => have := HQ1.out; omega
        case c5 => simp; omega
        intro v1 w1 own1 grow1 hn1 hat1
        have nn1 : v1 ≠ .slice none 0 0 := by intro e; have := hn1; simp [e] at this
        obtain ⟨g1, gc1, rfl, hg10, hg11⟩ := rowl_some own1 nn1
        have z1 : wr.heap.size < w1.heap.size := by have := grow1.size; simp at this; omega
        have gb : ∀ q, q < wr.heap.size → g ≠ q → w1.heap[q]? = wr.heap[q]? := fun q hq hne => (grow1.block q (by simp; omega) (fun e => hne (Option.some.inj e.symm))).trans (Below.heap_alloc _ _ _ hq)
        have g1q : ∀ q, q < wr.heap.size → g ≠ q → g1 ≠ q := fun q hq hne e => by
          rcases hat1 with h | h
          · exact hne ((Option.some.inj (show some g1 = some g from h)).symm.trans e)
          · have : g1 = wr.heap.size + 1 := Option.some.inj h
            omega
        have hgB : ∀ q, q < B → g ≠ q := fun q hq e => by omega
        have NX1 : Nx (w.heap.size + 2) (.slice (some ⟨g00, 0, none⟩) zs.length gc00) (.slice (some ⟨g1, 0, none⟩) (n0 + 1) gc1) := by
          rcases hat1 with h | h
          · rcases HNX.out with k | k
            · exact .inl (h.trans k)
            · exact .inr fun b hb => k b (h ▸ hb)
          · exact .inr fun b hb => by rw [h] at hb; have := Option.some.inj hb; omega
        have BW1 : Hid (Below W.heap.size W w1) := (HBWr.out.alloc HBWr.out.size _).grown grow1 (by simp; have := HBWr.out.size; omega) (fun j hj => by have : g = j := Option.some.inj hj; omega)
        have GX1 : Hid (Gx (.slice (some ⟨g00, 0, none⟩) zs.length gc00) w w1) := ⟨grow1.os.trans HGX.out.os, grow1.tape.trans HGX.out.tape, grow1.output.trans HGX.out.output, by have := HGX.out.size; omega, fun q hq hne => (gb q (by omega) (fun e => (HNX.out.ne (b := q) hne (by omega)) (by rw [e]; rfl))).trans (HGX.out.block q hq hne)⟩
        have CP1 : Hid (C2 w1 w.heap.size (.slice (some ⟨lb, lf, none⟩) ls.length lc) (.slice pa pn pc)) := HPb.out.same (gb _ (by omega) (fun e => NE0.out.1 e))
        have CH1 : Hid (C2 w1 (w.heap.size + 1) (.int .i64 here.1) (.int .i64 here.2)) := HHb.out.same (gb _ (by omega) (fun e => NE0.out.2 e))
        have NE1 : Hid ((Value.slice (some ⟨g1, 0, none⟩) (n0 + 1) gc1).ownBlock ≠ some w.heap.size ∧ (Value.slice (some ⟨g1, 0, none⟩) (n0 + 1) gc1).ownBlock ≠ some (w.heap.size + 1)) := ⟨fun e => g1q _ (by omega) (fun e' => NE0.out.1 e') (Option.some.inj e), fun e => g1q _ (by omega) (fun e' => NE0.out.2 e') (Option.some.inj e)⟩
        have hW1 : W.heap.size ≤ w1.heap.size := BW1.out.size
        have hln : (zs ++ A0 ++ [here]).length = n0 + 1 := by simp [lA0]; omega
        have hbd : n0 + 1 + cnt d T1 + cnt d T2 ≤ 1048576 := by have := HQ1.out; omega
        have HO1 : Hid (w1.ownsRow B 59 2 (.slice (some ⟨g1, 0, none⟩) (n0 + 1) gc1) (zs ++ A0 ++ [here]).length (pcells (zs ++ A0 ++ [here]))) := (show w1.ownsRow B 59 2 (.slice (some ⟨g1, 0, none⟩) (n0 + 1) gc1) (zs ++ A0 ++ [here]).length (pcells (zs ++ A0 ++ [here])) by rw [hln, pcells_app]; exact own1)
        have p0 := CP1.out.1.1
        have p1 := CP1.out.1.2
        have h0 := CH1.out.1.1
        have h1 := CH1.out.1.2
        have k1 : w1.cell? ⟨b, off + i * 8 + 1, none⟩ = some (.int .i64 (m : Int)) := (World.cell?_of_block (gb b hb0 (hgB b (by omega)))).trans HK1.out
        have k6 : w1.cell? ⟨b, off + i * 8 + 6, none⟩ = some (.slice taa (ln d T1) tac) := (World.cell?_of_block (gb b hb0 (hgB b (by omega)))).trans HK6.out
        have k7 : w1.cell? ⟨b, off + i * 8 + 7, none⟩ = some (.slice eaa (ln d T2) eac) := (World.cell?_of_block (gb b hb0 (hgB b (by omega)))).trans HK7.out
        have q0' : w1.cell? ⟨lb, lf + m * 2, none⟩ = some (.int .i64 (lab ls (m : Int)).1) := (World.cell?_of_block (gb lb hb1 (hgB lb (by omega)))).trans HL0.out
        have q1' : w1.cell? ⟨lb, lf + m * 2 + 1, none⟩ = some (.int .i64 (lab ls (m : Int)).2) := (World.cell?_of_block (gb lb hb1 (hgB lb (by omega)))).trans HL1.out
        have hg1b : g1 ≠ b := g1q b hb0 (hgB b (by omega))
        have HNX1 : Hid (Nx (w.heap.size + 2) (.slice (some ⟨g00, 0, none⟩) zs.length gc00) (.slice (some ⟨g1, 0, none⟩) (n0 + 1) gc1)) := NX1
        have hb0' : b < w1.heap.size := by omega
        have hb1' : lb < w1.heap.size := by omega
        have hh0 : w.heap.size < w1.heap.size := by omega
        have hh1 : w.heap.size + 1 < w1.heap.size := by omega
        clear own1 grow1 hn1 hat1 nn1 NX1 HOR HGX HNX HBWr HPb HHb HK1 HK6 HK7 HL0 HL1 gb g1q
        go_wp2_with fail
        refine wp_region_held (S := fun wz => Below w1.heap.size w1 wz) (by kernel_rfl) ?_
        change wpAnyH _ _ _ _ _ _ _ _ (World.drew _)
        have hHeld : Below w1.heap.size w1 w1.drew := (Below.refl _ _).drew
        obtain ⟨x0, hx0⟩ : ∃ x, x = w1.drew := ⟨_, rfl⟩
        have zx0 : w1.heap.size ≤ x0.heap.size := by rw [hx0]; exact hHeld.size
        rw [← hx0] at hHeld ⊢
        clear hx0
        refine' wpAnyH_take (i := 0) (v := .agg #[.int .i64 here.1, .int .i64 here.2]) rfl (by kernel_rfl) (by kernel_rfl) (by kernel_rfl) (fun _ _ _ h => h) (Or.inl ⟨by rfl, ?hy9⟩) hHeld ?hn9
        case hy9 => (intro wz hSw; have k0' := (hSw.cell (p := ⟨w.heap.size + 1, 0, none⟩) hh1).trans h0; have k1' := (hSw.cell (p := ⟨w.heap.size + 1, 1, none⟩) hh1).trans h1; go_simp)
        try simp only [nrm, Act.put]
        refine' wpAnyH_take (i := 1) (v := _) rfl (by kernel_rfl) (by kernel_rfl) (by kernel_rfl) (fun _ _ _ h => h) (Or.inl ⟨by rfl, ?hy10⟩) hHeld ?hn10
        case hy10 => (intro wz hSw; go_simp; first | done | with_reducible rfl)
        try simp only [nrm, Act.put]
        refine' wpAnyH_take (i := 2) (v := .slice (some ⟨lb, lf, none⟩) ls.length lc) rfl (by kernel_rfl) (by kernel_rfl) (by kernel_rfl) (fun _ _ _ h => h) (Or.inl ⟨by rfl, ?hy11⟩) hHeld ?hn11
        case hy11 => (intro wz hSw; have k0' := (hSw.cell (p := ⟨w.heap.size, 0, none⟩) hh0).trans p0; go_simp)
        try simp only [nrm, Act.put]
        refine' wpAnyH_take (i := 3) (v := _) rfl (by kernel_rfl) (by kernel_rfl) (by kernel_rfl) (fun _ _ _ h => h) (Or.inl ⟨by rfl, ?hy12⟩) hHeld ?hn12
        case hy12 => (intro wz hSw; go_simp; first | done | with_reducible rfl)
        try simp only [nrm, Act.put]
        refine' wpAnyH_take (i := 4) (v := _) rfl (by kernel_rfl) (by kernel_rfl) (by kernel_rfl) (fun _ _ _ h => h) (Or.inl ⟨by rfl, ?hy13⟩) hHeld ?hn13
        case hy13 => (intro wz hSw; go_simp; first | done | with_reducible rfl)
        try simp only [nrm, Act.put]
        refine' wpAnyH_take (i := 5) (v := _) rfl (by kernel_rfl) (by kernel_rfl) (by kernel_rfl) (fun _ _ _ h => h) (Or.inl ⟨by rfl, ?hy14⟩) hHeld ?hn14
        case hy14 => (intro wz hSw; go_simp; first | done | with_reducible rfl)
        try simp only [nrm, Act.put]
        refine' wpAnyH_take (i := 6) (v := _) rfl (by kernel_rfl) (by kernel_rfl) (by kernel_rfl) (fun _ _ _ h => h) (Or.inl ⟨by rfl, ?hy15⟩) hHeld ?hn15
        case hy15 => (intro wz hSw; go_simp; first | done | with_reducible rfl)
        try simp only [nrm, Act.put]
        refine' wpAnyH_take (i := 7) (v := .int .i64 (m : Int)) rfl (by kernel_rfl) (by kernel_rfl) (by kernel_rfl) (fun _ _ _ h => h) (Or.inl ⟨by rfl, ?hy16⟩) hHeld ?hn16
        case hy16 => (intro wz hSw; have k0' := (hSw.cell (p := ⟨b, off + i * 8 + 1, none⟩) hb0').trans k1; go_simp)
        try simp only [nrm, Act.put]
        refine' wpAnyH_take (i := 8) (v := .pointer (some ⟨lb, lf + m * 2, none⟩)) rfl (by kernel_rfl) (by kernel_rfl) (by kernel_rfl) (fun _ _ _ h => h) (Or.inl ⟨by rfl, ?hy17⟩) hHeld ?hn17
        case hy17 => (intro wz hSw; go_simp)
        try simp only [nrm, Act.put]
        refine' wpAnyH_take (i := 9) (v := .agg #[.int .i64 (lab ls (m : Int)).1, .int .i64 (lab ls (m : Int)).2]) rfl (by kernel_rfl) (by kernel_rfl) (by kernel_rfl) (fun _ _ _ h => h) (Or.inl ⟨by rfl, ?hy18⟩) hHeld ?hn18
        case hy18 => (intro wz hSw; have k0' := (hSw.cell (p := ⟨lb, lf + m * 2, none⟩) hb1').trans q0'; have k1' := (hSw.cell (p := ⟨lb, lf + m * 2 + 1, none⟩) hb1').trans q1'; go_simp)
        try simp only [nrm, Act.put]
        refine wpAnyH_ready (rs := [10, 11]) (by kernel_rfl) (by simp) ?_
        refine AllReadyH.cons rfl (fun K hK => ?_) (AllReadyH.cons rfl (fun K hK => ?_) AllReadyH.nil)
        · go_simp
          refine (sLabelBoth_any _ _ _ _ _).mono ?_
          rintro e' x1 ⟨rfl, Bx1⟩
          rw [HBO.out.1, HBO.out.2]
          refine hK.out _ _ (hHeld.trans (Bx1.mono hHeld.size)) (fun hHeld => ?_)
          clear hK K
          refine wpAnyH_ready (rs := [11]) (by kernel_rfl) (by simp) ?_
          refine AllReadyH.cons rfl (fun K hK => ?_) AllReadyH.nil
          go_simp
          obtain ⟨x2, hx2⟩ : ∃ x2, x2 = x1.alloc (.cells #[.int .i64 0, .int .i64 0] 59) := ⟨_, rfl⟩
          rw [← hx2]
          have Bx2 : Below x1.heap.size x1 x2 := by rw [hx2]; exact (Below.refl _ _).alloc (Nat.le_refl _) _
          have Gx2 : C2 x2 x1.heap.size (.int .i64 0) (.int .i64 0) := by rw [hx2]; exact C2.new x1 _ _ _
          have zx2 : w1.heap.size ≤ x1.heap.size := hHeld.size
          clear hx2
          refine hK.out _ _ (hHeld.trans (Bx2.mono hHeld.size)) (fun hHeld => ?_)
          clear hK K
          refine wpAnyH_ready (rs := [12]) (by kernel_rfl) (by simp) ?_
          refine AllReadyH.cons rfl (fun K hK => ?_) AllReadyH.nil
          obtain ⟨⟨q0, q1⟩, fz0, fz1⟩ := id Gx2
          go_simp
          have Gf := (Gx2.set0 (.int .i64 (anL here (lab ls (m : Int))).1)).set1 (.int .i64 (anL here (lab ls (m : Int))).2)
          have Bf : Below w1.heap.size w1 ((x2.setCell ⟨x1.heap.size, 0, none⟩ (.int .i64 (anL here (lab ls (m : Int))).1)).setCell ⟨x1.heap.size, 1, none⟩ (.int .i64 (anL here (lab ls (m : Int))).2)) := (hHeld.setCell (by show w1.heap.size ≤ x1.heap.size; omega) _).setCell (by show w1.heap.size ≤ x1.heap.size; omega) _
          generalize ((x2.setCell ⟨x1.heap.size, 0, none⟩ (.int .i64 (anL here (lab ls (m : Int))).1)).setCell ⟨x1.heap.size, 1, none⟩ (.int .i64 (anL here (lab ls (m : Int))).2)) = xf at Gf Bf ⊢
          refine hK.out _ _ (Bf) (fun hHeld => ?_)
          clear hK K
          refine wpAnyH_done (by kernel_rfl) ?_ _
          obtain ⟨b10, hb10⟩ : ∃ n, n = x1.heap.size := ⟨_, rfl⟩
          rw [← hb10] at Gf ⊢
          have hb10l : w1.heap.size ≤ b10 := by omega
          have hb10u : b10 < xf.heap.size := World.block_lt_of_cell? _ _ Gf.1.1
          have zf : w1.heap.size ≤ xf.heap.size := Bf.size
          have BWf : Below W.heap.size W xf.drew := Below.then BW1.out Bf.drew hW1
          have NE6 : Hid ((Value.slice (some ⟨g1, 0, none⟩) (n0 + 1) gc1).ownBlock ≠ some w.heap.size ∧ (Value.slice (some ⟨g1, 0, none⟩) (n0 + 1) gc1).ownBlock ≠ some b ∧ (Value.slice (some ⟨g1, 0, none⟩) (n0 + 1) gc1).ownBlock ≠ some b10) := ⟨NE1.out.1, fun e => by have : g1 = b := Option.some.inj e; omega, fun e => by have : g1 = b10 := Option.some.inj e; omega⟩
          have c0_6 : xf.cell? ⟨w.heap.size, 0, none⟩ = some (.slice (some ⟨lb, lf, none⟩) ls.length lc) := (World.cell?_of_block (Bf.block _ (by omega))).trans p0
          have c1_6 : xf.cell? ⟨w.heap.size, 1, none⟩ = some (.slice pa pn pc) := (World.cell?_of_block (Bf.block _ (by omega))).trans p1
          have k6_6 : xf.cell? ⟨b, off + i * 8 + 6, none⟩ = some (.slice taa (ln d T1) tac) := (World.cell?_of_block (Bf.block _ (by omega))).trans k6
          have k7f : Hid (xf.cell? ⟨b, off + i * 8 + 7, none⟩ = some (.slice eaa (ln d T2) eac)) := (World.cell?_of_block (Bf.block _ (by omega))).trans k7
          obtain ⟨⟨d0_6, d1_6⟩, -⟩ := Gf
          have OW6 : xf.drew.ownsRow B 59 2 (.slice (some ⟨g1, 0, none⟩) (n0 + 1) gc1) (zs ++ A0 ++ [here]).length (pcells (zs ++ A0 ++ [here])) := rowp_frame HO1.out (fun k hk => Bf.block k (World.ownsRow.lt HO1.out k hk).2)
          have C6 : Hid _ := IH.out T1 (deep - 1) (anL here (lab ls (m : Int))) (.slice taa (ln d T1) tac) (.slice (some ⟨g1, 0, none⟩) (n0 + 1) gc1) (zs ++ A0 ++ [here]) xf.drew r1 BWf (by show B ≤ xf.heap.size; omega) st1 hok' (by rw [hln]; omega) OW6 (by simp)
          have HH0 : Hid _ := (World.cell?_of_block (a := ⟨w.heap.size + 1, 0, none⟩) (Bf.block (w.heap.size + 1) (by omega))).trans h0
          have HH1 : Hid _ := (World.cell?_of_block (a := ⟨w.heap.size + 1, 1, none⟩) (Bf.block (w.heap.size + 1) (by omega))).trans h1
          have HFF : Hid (C2 xf w.heap.size (.slice (some ⟨lb, lf, none⟩) ls.length lc) (.slice pa pn pc) ∧ C2 xf (w.heap.size + 1) (.int .i64 here.1) (.int .i64 here.2)) := ⟨CP1.out.same (Bf.block _ (by omega)), CH1.out.same (Bf.block _ (by omega))⟩
          have HBf : Hid (Below w1.heap.size w1 xf) := Bf
          clear OW6 BWf p0 p1 h0 h1 k6 k7 k1 q0' q1' Bf hb10
          go_wp2_with fail
          refine wp_region_held (S := (fun wz => (wz.cell? ⟨w.heap.size, 0, none⟩ = some (.slice (some ⟨lb, lf, none⟩) ls.length lc) ∧ wz.cell? ⟨w.heap.size, 1, none⟩ = some (.slice pa pn pc)) ∧ wz.cell? ⟨b, off + i * 8 + 6, none⟩ = some (.slice taa (ln d T1) tac) ∧ (wz.cell? ⟨b10, 0, none⟩ = some (.int .i64 (anL here (lab ls (m : Int))).1) ∧ wz.cell? ⟨b10, 1, none⟩ = some (.int .i64 (anL here (lab ls (m : Int))).2)))) (by kernel_rfl) ?_
          change wpAnyH _ _ _ _ _ _ _ _ (World.drew _)
          have hHeld := (show (fun wz => (wz.cell? ⟨w.heap.size, 0, none⟩ = some (.slice (some ⟨lb, lf, none⟩) ls.length lc) ∧ wz.cell? ⟨w.heap.size, 1, none⟩ = some (.slice pa pn pc)) ∧ wz.cell? ⟨b, off + i * 8 + 6, none⟩ = some (.slice taa (ln d T1) tac) ∧ (wz.cell? ⟨b10, 0, none⟩ = some (.int .i64 (anL here (lab ls (m : Int))).1) ∧ wz.cell? ⟨b10, 1, none⟩ = some (.int .i64 (anL here (lab ls (m : Int))).2))) (World.drew xf) from ⟨⟨c0_6, c1_6⟩, k6_6, d0_6, d1_6⟩)
          refine' wpAnyH_take (i := 0) (v := .agg #[.slice (some ⟨lb, lf, none⟩) ls.length lc, .slice pa pn pc]) rfl (by kernel_rfl) (by kernel_rfl) (by kernel_rfl) (fun _ _ _ h => h) (Or.inl ⟨by rfl, ?hy5001⟩) hHeld ?hn5001
          case hy5001 => (intro wz hSw; obtain ⟨⟨j0, j1⟩, _, _⟩ := hSw; go_simp)
          try simp only [nrm, Act.put]
          refine' wpAnyH_take (i := 1) (v := _) rfl (by kernel_rfl) (by kernel_rfl) (by kernel_rfl) (fun _ _ _ h => h) (Or.inl ⟨by rfl, ?hy5002⟩) hHeld ?hn5002
          case hy5002 => (intro wz hSw; (try dsimp only at hSw); go_simp; first | done | with_reducible rfl)
          try simp only [nrm, Act.put]
          refine' wpAnyH_take (i := 2) (v := _) rfl (by kernel_rfl) (by kernel_rfl) (by kernel_rfl) (fun _ _ _ h => h) (Or.inl ⟨by rfl, ?hy5003⟩) hHeld ?hn5003
          case hy5003 => (intro wz hSw; (try dsimp only at hSw); go_simp; first | done | with_reducible rfl)
          try simp only [nrm, Act.put]
          refine' wpAnyH_take (i := 3) (v := _) rfl (by kernel_rfl) (by kernel_rfl) (by kernel_rfl) (fun _ _ _ h => h) (Or.inl ⟨by rfl, ?hy5004⟩) hHeld ?hn5004
          case hy5004 => (intro wz hSw; (try dsimp only at hSw); go_simp; first | done | with_reducible rfl)
          try simp only [nrm, Act.put]
          refine' wpAnyH_take (i := 4) (v := _) rfl (by kernel_rfl) (by kernel_rfl) (by kernel_rfl) (fun _ _ _ h => h) (Or.inl ⟨by rfl, ?hy5005⟩) hHeld ?hn5005
          case hy5005 => (intro wz hSw; (try dsimp only at hSw); go_simp; first | done | with_reducible rfl)
          try simp only [nrm, Act.put]
          refine' wpAnyH_take (i := 5) (v := .slice taa (ln d T1) tac) rfl (by kernel_rfl) (by kernel_rfl) (by kernel_rfl) (fun _ _ _ h => h) (Or.inl ⟨by rfl, ?hy5006⟩) hHeld ?hn5006
          case hy5006 => (intro wz hSw; obtain ⟨_, j0, _⟩ := hSw; go_simp)
          try simp only [nrm, Act.put]
          refine' wpAnyH_take (i := 6) (v := .agg #[.int .i64 (anL here (lab ls (m : Int))).1, .int .i64 (anL here (lab ls (m : Int))).2]) rfl (by kernel_rfl) (by kernel_rfl) (by kernel_rfl) (fun _ _ _ h => h) (Or.inl ⟨by rfl, ?hy5007⟩) hHeld ?hn5007
          case hy5007 => (intro wz hSw; obtain ⟨_, _, j0, j1⟩ := hSw; go_simp)
          try simp only [nrm, Act.put]
          refine' wpAnyH_take (i := 7) (v := _) rfl (by kernel_rfl) (by kernel_rfl) (by kernel_rfl) (fun _ _ _ h => h) (Or.inl ⟨by rfl, ?hy5008⟩) hHeld ?hn5008
          case hy5008 => (intro wz hSw; (try dsimp only at hSw); go_simp; first | done | with_reducible rfl)
          try simp only [nrm, Act.put]
          refine wpAnyH_ready (rs := [8]) (by kernel_rfl) (by simp) ?_
          refine AllReadyH.cons rfl (fun K hK => ?_) AllReadyH.nil
          go_simp
          refine Calls.mono C6.out ?_; rintro e' x6 ⟨v6, rfl, own6, gx6, nx6, nn6⟩
          refine hK.out _ _ (by exact ⟨⟨(World.cell?_of_block (gx6.block w.heap.size (by show w.heap.size < xf.heap.size; omega) (NE6.out.1))).trans hHeld.1.1, (World.cell?_of_block (gx6.block w.heap.size (by show w.heap.size < xf.heap.size; omega) (NE6.out.1))).trans hHeld.1.2⟩, (World.cell?_of_block (gx6.block b (by show b < xf.heap.size; omega) (NE6.out.2.1))).trans hHeld.2.1, (World.cell?_of_block (gx6.block b10 (by show b10 < xf.heap.size; omega) (NE6.out.2.2))).trans hHeld.2.2.1, (World.cell?_of_block (gx6.block b10 (by show b10 < xf.heap.size; omega) (NE6.out.2.2))).trans hHeld.2.2.2⟩) (fun hHeld => ?_)
          clear hK K
          refine' wpAnyH_take (i := 9) (v := _) rfl (by kernel_rfl) (by kernel_rfl) (by kernel_rfl) (fun _ _ _ h => h) (Or.inl ⟨by rfl, ?hy5009⟩) hHeld ?hn5009
          case hy5009 => (intro wz hSw; (try dsimp only at hSw); go_simp; first | done | with_reducible rfl)
          try simp only [nrm, Act.put]
          refine wpAnyH_done (by kernel_rfl) ?_ _
          obtain ⟨g6, gc6, rfl, hg60, hg61⟩ := rowl_some own6 nn6
          have z6 : xf.heap.size ≤ x6.heap.size := gx6.size
          have GX6 : Gx (.slice (some ⟨g1, 0, none⟩) (n0 + 1) gc1) w1 x6 := ⟨gx6.os.trans HBf.out.os, gx6.tape.trans HBf.out.tape, gx6.output.trans HBf.out.output, by omega, fun b hb hne => (gx6.block b (by show b < xf.heap.size; omega) hne).trans (HBf.out.block b hb)⟩
          have BW6 : Below W.heap.size W x6 := BW1.out.trans (GX6.below (B := W.heap.size) (fun k e => by have : g1 = k := Option.some.inj e; omega) hW1)
          have NX6 : Nx xf.heap.size (.slice (some ⟨g1, 0, none⟩) (n0 + 1) gc1) (Value.slice (some ⟨g6, 0, none⟩) ((zs ++ A0 ++ [here]).length + cnt d T1) gc6) := nx6
          have n6 : ∀ q, q < xf.heap.size → g1 ≠ q → g6 ≠ q := fun q h1 h2 e => NX6.ne (b := q) (fun e' => h2 (Option.some.inj e')) h1 (by rw [e]; rfl)
          have NE7 : Hid ((Value.slice (some ⟨g6, 0, none⟩) ((zs ++ A0 ++ [here]).length + cnt d T1) gc6).ownBlock ≠ some w.heap.size ∧ (Value.slice (some ⟨g6, 0, none⟩) ((zs ++ A0 ++ [here]).length + cnt d T1) gc6).ownBlock ≠ some b ∧ (Value.slice (some ⟨g6, 0, none⟩) ((zs ++ A0 ++ [here]).length + cnt d T1) gc6).ownBlock ≠ some b10) := ⟨fun e => n6 _ (by omega) (fun e' => NE6.out.1 (by rw [e']; rfl)) (Option.some.inj e), fun e => n6 _ (by omega) (fun e' => NE6.out.2.1 (by rw [e']; rfl)) (Option.some.inj e), fun e => n6 _ (by omega) (fun e' => NE6.out.2.2 (by rw [e']; rfl)) (Option.some.inj e)⟩
          have c0_7 := hHeld.1.1
          have c1_7 := hHeld.1.2
          have d0_7 := hHeld.2.2.1
          have d1_7 := hHeld.2.2.2
          have k7_7 : x6.cell? ⟨b, off + i * 8 + 7, none⟩ = some (.slice eaa (ln d T2) eac) := (World.cell?_of_block (gx6.block b (by show b < xf.heap.size; omega) NE6.out.2.1)).trans k7f.out
          have HF6 : Hid (C2 x6 w.heap.size (.slice (some ⟨lb, lf, none⟩) ls.length lc) (.slice pa pn pc) ∧ C2 x6 (w.heap.size + 1) (.int .i64 here.1) (.int .i64 here.2)) := ⟨HFF.out.1.same (gx6.block _ (by show w.heap.size < xf.heap.size; omega) NE6.out.1), HFF.out.2.same (gx6.block _ (by show w.heap.size + 1 < xf.heap.size; omega) NE1.out.2)⟩
          have E6 : (zs ++ A0 ++ [here]).length + cnt d T1 = (zs ++ A0 ++ [here] ++ atT ls d T1 (anL here (lab ls (m : Int)))).length := by rw [List.length_append (bs := atT ls d T1 (anL here (lab ls (m : Int)))), atT_length]
          rw [E6] at own6 NE7 NX6 ⊢
          have OW7 : x6.drew.ownsRow B 59 2 (.slice (some ⟨g6, 0, none⟩) (zs ++ A0 ++ [here] ++ atT ls d T1 (anL here (lab ls (m : Int)))).length gc6) (zs ++ A0 ++ [here] ++ atT ls d T1 (anL here (lab ls (m : Int)))).length (pcells (zs ++ A0 ++ [here] ++ atT ls d T1 (anL here (lab ls (m : Int))))) := own6
          have C7 : Hid _ := IH.out T2 (deep - 1) (anL here (lab ls (m : Int))) (.slice eaa (ln d T2) eac) _ _ x6.drew r2 BW6.drew (by show B ≤ x6.heap.size; omega) st2 hok' (by rw [← E6, hln]; omega) OW7 (by simp)
          have HGX6 : Hid _ := GX6
          have HNX6 : Hid (Nx xf.heap.size (.slice (some ⟨g1, 0, none⟩) (n0 + 1) gc1) (Value.slice (some ⟨g6, 0, none⟩) (zs ++ A0 ++ [here] ++ atT ls d T1 (anL here (lab ls (m : Int)))).length gc6)) := NX6
          have hn61 : g6 ≠ w.heap.size + 1 := n6 _ (by omega) (fun e' => NE1.out.2 (by rw [e']; rfl))
          obtain ⟨n6l, hn6l⟩ : ∃ n, (zs ++ A0 ++ [here] ++ atT ls d T1 (anL here (lab ls (m : Int)))).length = n := ⟨_, rfl⟩
          have HN6 : Hid _ := hn6l
          rw [hn6l] at C7 NE7 HNX6 ⊢
          clear own6 gx6 nx6 nn6 GX6 NX6 n6 OW7 C6 BW6 hHeld HFF HBf hn6l E6
          go_wp2_with fail
          refine wp_region_held (S := (fun wz => (wz.cell? ⟨w.heap.size, 0, none⟩ = some (.slice (some ⟨lb, lf, none⟩) ls.length lc) ∧ wz.cell? ⟨w.heap.size, 1, none⟩ = some (.slice pa pn pc)) ∧ wz.cell? ⟨b, off + i * 8 + 7, none⟩ = some (.slice eaa (ln d T2) eac) ∧ (wz.cell? ⟨b10, 0, none⟩ = some (.int .i64 (anL here (lab ls (m : Int))).1) ∧ wz.cell? ⟨b10, 1, none⟩ = some (.int .i64 (anL here (lab ls (m : Int))).2)))) (by kernel_rfl) ?_
          change wpAnyH _ _ _ _ _ _ _ _ (World.drew _)
          have hHeld := (show (fun wz => (wz.cell? ⟨w.heap.size, 0, none⟩ = some (.slice (some ⟨lb, lf, none⟩) ls.length lc) ∧ wz.cell? ⟨w.heap.size, 1, none⟩ = some (.slice pa pn pc)) ∧ wz.cell? ⟨b, off + i * 8 + 7, none⟩ = some (.slice eaa (ln d T2) eac) ∧ (wz.cell? ⟨b10, 0, none⟩ = some (.int .i64 (anL here (lab ls (m : Int))).1) ∧ wz.cell? ⟨b10, 1, none⟩ = some (.int .i64 (anL here (lab ls (m : Int))).2))) (World.drew x6) from ⟨⟨c0_7, c1_7⟩, k7_7, d0_7, d1_7⟩)
          refine' wpAnyH_take (i := 0) (v := .agg #[.slice (some ⟨lb, lf, none⟩) ls.length lc, .slice pa pn pc]) rfl (by kernel_rfl) (by kernel_rfl) (by kernel_rfl) (fun _ _ _ h => h) (Or.inl ⟨by rfl, ?hy5010⟩) hHeld ?hn5010
          case hy5010 => (intro wz hSw; obtain ⟨⟨j0, j1⟩, _, _⟩ := hSw; go_simp)
          try simp only [nrm, Act.put]
          refine' wpAnyH_take (i := 1) (v := _) rfl (by kernel_rfl) (by kernel_rfl) (by kernel_rfl) (fun _ _ _ h => h) (Or.inl ⟨by rfl, ?hy5011⟩) hHeld ?hn5011
          case hy5011 => (intro wz hSw; (try dsimp only at hSw); go_simp; first | done | with_reducible rfl)
          try simp only [nrm, Act.put]
          refine' wpAnyH_take (i := 2) (v := _) rfl (by kernel_rfl) (by kernel_rfl) (by kernel_rfl) (fun _ _ _ h => h) (Or.inl ⟨by rfl, ?hy5012⟩) hHeld ?hn5012
          case hy5012 => (intro wz hSw; (try dsimp only at hSw); go_simp; first | done | with_reducible rfl)
          try simp only [nrm, Act.put]
          refine' wpAnyH_take (i := 3) (v := _) rfl (by kernel_rfl) (by kernel_rfl) (by kernel_rfl) (fun _ _ _ h => h) (Or.inl ⟨by rfl, ?hy5013⟩) hHeld ?hn5013
          case hy5013 => (intro wz hSw; (try dsimp only at hSw); go_simp; first | done | with_reducible rfl)
          try simp only [nrm, Act.put]
          refine' wpAnyH_take (i := 4) (v := _) rfl (by kernel_rfl) (by kernel_rfl) (by kernel_rfl) (fun _ _ _ h => h) (Or.inl ⟨by rfl, ?hy5014⟩) hHeld ?hn5014
          case hy5014 => (intro wz hSw; (try dsimp only at hSw); go_simp; first | done | with_reducible rfl)
          try simp only [nrm, Act.put]
          refine' wpAnyH_take (i := 5) (v := .slice eaa (ln d T2) eac) rfl (by kernel_rfl) (by kernel_rfl) (by kernel_rfl) (fun _ _ _ h => h) (Or.inl ⟨by rfl, ?hy5015⟩) hHeld ?hn5015
          case hy5015 => (intro wz hSw; obtain ⟨_, j0, _⟩ := hSw; go_simp)
          try simp only [nrm, Act.put]
          refine' wpAnyH_take (i := 6) (v := .agg #[.int .i64 (anL here (lab ls (m : Int))).1, .int .i64 (anL here (lab ls (m : Int))).2]) rfl (by kernel_rfl) (by kernel_rfl) (by kernel_rfl) (fun _ _ _ h => h) (Or.inl ⟨by rfl, ?hy5016⟩) hHeld ?hn5016
          case hy5016 => (intro wz hSw; obtain ⟨_, _, j0, j1⟩ := hSw; go_simp)
          try simp only [nrm, Act.put]
          refine' wpAnyH_take (i := 7) (v := _) rfl (by kernel_rfl) (by kernel_rfl) (by kernel_rfl) (fun _ _ _ h => h) (Or.inl ⟨by rfl, ?hy5017⟩) hHeld ?hn5017
          case hy5017 => (intro wz hSw; (try dsimp only at hSw); go_simp; first | done | with_reducible rfl)
          try simp only [nrm, Act.put]
          refine wpAnyH_ready (rs := [8]) (by kernel_rfl) (by simp) ?_
          refine AllReadyH.cons rfl (fun K hK => ?_) AllReadyH.nil
          go_simp
          refine Calls.mono C7.out ?_; rintro e' x7 ⟨v7, rfl, own7, gx7, nx7, nn7⟩
          refine hK.out _ _ (by exact ⟨⟨(World.cell?_of_block (gx7.block w.heap.size (by show w.heap.size < x6.heap.size; omega) (NE7.out.1))).trans hHeld.1.1, (World.cell?_of_block (gx7.block w.heap.size (by show w.heap.size < x6.heap.size; omega) (NE7.out.1))).trans hHeld.1.2⟩, (World.cell?_of_block (gx7.block b (by show b < x6.heap.size; omega) (NE7.out.2.1))).trans hHeld.2.1, (World.cell?_of_block (gx7.block b10 (by show b10 < x6.heap.size; omega) (NE7.out.2.2))).trans hHeld.2.2.1, (World.cell?_of_block (gx7.block b10 (by show b10 < x6.heap.size; omega) (NE7.out.2.2))).trans hHeld.2.2.2⟩) (fun hHeld => ?_)
          clear hK K
          refine' wpAnyH_take (i := 9) (v := _) rfl (by kernel_rfl) (by kernel_rfl) (by kernel_rfl) (fun _ _ _ h => h) (Or.inl ⟨by rfl, ?hy5018⟩) hHeld ?hn5018
          case hy5018 => (intro wz hSw; (try dsimp only at hSw); go_simp; first | done | with_reducible rfl)
          try simp only [nrm, Act.put]
          refine wpAnyH_done (by kernel_rfl) ?_ _
          obtain ⟨g7, gc7, rfl, hg70, hg71⟩ := rowl_some own7 nn7
          have z7 : x6.heap.size ≤ x7.heap.size := gx7.size
          have EQ : zs.length + cnt (d + 1) (l.take (i + 1) : List (Pay × Tr d × Tr d)) = n6l + cnt d T2 := by
            have e := HN6.out
            simp [atT_length, lA0] at e
            have := HQ1.out
            omega
          have EL : zs ++ atT ls (d + 1) (l.take (i + 1) : List (Pay × Tr d × Tr d)) here = zs ++ A0 ++ [here] ++ atT ls d T1 (anL here (lab ls (m : Int))) ++ atT ls d T2 (anL here (lab ls (m : Int))) := by
            rw [HQ2.out]; simp
          have HREL : Hid (x7.ownsRow B 59 2 (.slice (some ⟨g7, 0, none⟩) (n6l + cnt d T2) gc7) (zs.length + cnt (d + 1) (l.take (i + 1) : List (Pay × Tr d × Tr d))) (pcells (zs ++ atT ls (d + 1) (l.take (i + 1) : List (Pay × Tr d × Tr d)) here))) := (show x7.ownsRow B 59 2 (.slice (some ⟨g7, 0, none⟩) (n6l + cnt d T2) gc7) (zs.length + cnt (d + 1) (l.take (i + 1) : List (Pay × Tr d × Tr d))) (pcells (zs ++ atT ls (d + 1) (l.take (i + 1) : List (Pay × Tr d × Tr d)) here)) by rw [EQ, EL]; exact own7)
          have HF7 : Hid (C2 x7 w.heap.size (.slice (some ⟨lb, lf, none⟩) ls.length lc) (.slice pa pn pc) ∧ C2 x7 (w.heap.size + 1) (.int .i64 here.1) (.int .i64 here.2)) := ⟨HF6.out.1.same (gx7.block _ (by show w.heap.size < x6.heap.size; omega) NE7.out.1), HF6.out.2.same (gx7.block _ (by show w.heap.size + 1 < x6.heap.size; omega) (fun e => hn61 (Option.some.inj e)))⟩
          have NXa : Nx (w.heap.size + 2) (.slice (some ⟨g00, 0, none⟩) zs.length gc00) (Value.slice (some ⟨g6, 0, none⟩) n6l gc6) := Nx.trans HNX1.out HNX6.out (by omega)
          have NXb : Hid (Nx (w.heap.size + 2) (.slice (some ⟨g00, 0, none⟩) zs.length gc00) (Value.slice (some ⟨g7, 0, none⟩) (n6l + cnt d T2) gc7)) := Nx.trans NXa nx7 (by show w.heap.size + 2 ≤ x6.heap.size; omega)
          have GXb : Hid (Gx (.slice (some ⟨g00, 0, none⟩) zs.length gc00) w x7) := Gx.then (GX1.out.then HGX6.out HNX1.out (by omega)) (⟨gx7.os, gx7.tape, gx7.output, gx7.size, gx7.block⟩ : Gx _ x6 x7) NXa (by omega)
          clear own7 gx7 nx7 nn7 NXa EQ EL hHeld C7 HGX6 HNX6
          go_wp2
          exact ⟨⟨i + 1, by omega, by simp, HREL.out, HF7.out.1, HF7.out.2, GXb.out, NXb.out, by omega, by simp⟩, by simp [intOf]; omega⟩
        · go_simp
          obtain ⟨x1, hx1⟩ : ∃ x1, x1 = x0.alloc (.cells #[.int .i64 0, .int .i64 0] 59) := ⟨_, rfl⟩
          rw [← hx1]
          have Bx1 : Below x0.heap.size x0 x1 := by rw [hx1]; exact (Below.refl _ _).alloc (Nat.le_refl _) _
          have Gx1 : C2 x1 x0.heap.size (.int .i64 0) (.int .i64 0) := by rw [hx1]; exact C2.new x0 _ _ _
          have zx1 : w1.heap.size ≤ x0.heap.size := hHeld.size
          clear hx1
          refine hK.out _ _ (hHeld.trans (Bx1.mono hHeld.size)) (fun hHeld => ?_)
          clear hK K
          refine wpAnyH_ready (rs := [10]) (by kernel_rfl) (by simp) ?_
          refine AllReadyH.cons rfl (fun K hK => ?_) AllReadyH.nil
          go_simp
          refine (sLabelBoth_any _ _ _ _ _).mono ?_
          rintro e' x2 ⟨rfl, Bx2⟩
          rw [HBO.out.1, HBO.out.2]
          have Gx2 : C2 x2 (x0.heap.size) (.int .i64 0) (.int .i64 0) := Gx1.same (Bx2.block _ (World.block_lt_of_cell? _ _ Gx1.1.1))
          refine hK.out _ _ (hHeld.trans (Bx2.mono hHeld.size)) (fun hHeld => ?_)
          clear hK K
          refine wpAnyH_ready (rs := [12]) (by kernel_rfl) (by simp) ?_
          refine AllReadyH.cons rfl (fun K hK => ?_) AllReadyH.nil
          obtain ⟨⟨q0, q1⟩, fz0, fz1⟩ := id Gx2
          go_simp
          have Gf := (Gx2.set0 (.int .i64 (anL here (lab ls (m : Int))).1)).set1 (.int .i64 (anL here (lab ls (m : Int))).2)
          have Bf : Below w1.heap.size w1 ((x2.setCell ⟨x0.heap.size, 0, none⟩ (.int .i64 (anL here (lab ls (m : Int))).1)).setCell ⟨x0.heap.size, 1, none⟩ (.int .i64 (anL here (lab ls (m : Int))).2)) := (hHeld.setCell (by show w1.heap.size ≤ x0.heap.size; omega) _).setCell (by show w1.heap.size ≤ x0.heap.size; omega) _
          generalize ((x2.setCell ⟨x0.heap.size, 0, none⟩ (.int .i64 (anL here (lab ls (m : Int))).1)).setCell ⟨x0.heap.size, 1, none⟩ (.int .i64 (anL here (lab ls (m : Int))).2)) = xf at Gf Bf ⊢
          refine hK.out _ _ (Bf) (fun hHeld => ?_)
          clear hK K
          refine wpAnyH_done (by kernel_rfl) ?_ _
          obtain ⟨b10, hb10⟩ : ∃ n, n = x0.heap.size := ⟨_, rfl⟩
          rw [← hb10] at Gf ⊢
          have hb10l : w1.heap.size ≤ b10 := by omega
          have hb10u : b10 < xf.heap.size := World.block_lt_of_cell? _ _ Gf.1.1
          have zf : w1.heap.size ≤ xf.heap.size := Bf.size
          have BWf : Below W.heap.size W xf.drew := Below.then BW1.out Bf.drew hW1
          have NE6 : Hid ((Value.slice (some ⟨g1, 0, none⟩) (n0 + 1) gc1).ownBlock ≠ some w.heap.size ∧ (Value.slice (some ⟨g1, 0, none⟩) (n0 + 1) gc1).ownBlock ≠ some b ∧ (Value.slice (some ⟨g1, 0, none⟩) (n0 + 1) gc1).ownBlock ≠ some b10) := ⟨NE1.out.1, fun e => by have : g1 = b := Option.some.inj e; omega, fun e => by have : g1 = b10 := Option.some.inj e; omega⟩
          have c0_6 : xf.cell? ⟨w.heap.size, 0, none⟩ = some (.slice (some ⟨lb, lf, none⟩) ls.length lc) := (World.cell?_of_block (Bf.block _ (by omega))).trans p0
          have c1_6 : xf.cell? ⟨w.heap.size, 1, none⟩ = some (.slice pa pn pc) := (World.cell?_of_block (Bf.block _ (by omega))).trans p1
          have k6_6 : xf.cell? ⟨b, off + i * 8 + 6, none⟩ = some (.slice taa (ln d T1) tac) := (World.cell?_of_block (Bf.block _ (by omega))).trans k6
          have k7f : Hid (xf.cell? ⟨b, off + i * 8 + 7, none⟩ = some (.slice eaa (ln d T2) eac)) := (World.cell?_of_block (Bf.block _ (by omega))).trans k7
          obtain ⟨⟨d0_6, d1_6⟩, -⟩ := Gf
          have OW6 : xf.drew.ownsRow B 59 2 (.slice (some ⟨g1, 0, none⟩) (n0 + 1) gc1) (zs ++ A0 ++ [here]).length (pcells (zs ++ A0 ++ [here])) := rowp_frame HO1.out (fun k hk => Bf.block k (World.ownsRow.lt HO1.out k hk).2)
          have C6 : Hid _ := IH.out T1 (deep - 1) (anL here (lab ls (m : Int))) (.slice taa (ln d T1) tac) (.slice (some ⟨g1, 0, none⟩) (n0 + 1) gc1) (zs ++ A0 ++ [here]) xf.drew r1 BWf (by show B ≤ xf.heap.size; omega) st1 hok' (by rw [hln]; omega) OW6 (by simp)
          have HH0 : Hid _ := (World.cell?_of_block (a := ⟨w.heap.size + 1, 0, none⟩) (Bf.block (w.heap.size + 1) (by omega))).trans h0
          have HH1 : Hid _ := (World.cell?_of_block (a := ⟨w.heap.size + 1, 1, none⟩) (Bf.block (w.heap.size + 1) (by omega))).trans h1
          have HFF : Hid (C2 xf w.heap.size (.slice (some ⟨lb, lf, none⟩) ls.length lc) (.slice pa pn pc) ∧ C2 xf (w.heap.size + 1) (.int .i64 here.1) (.int .i64 here.2)) := ⟨CP1.out.same (Bf.block _ (by omega)), CH1.out.same (Bf.block _ (by omega))⟩
          have HBf : Hid (Below w1.heap.size w1 xf) := Bf
          clear OW6 BWf p0 p1 h0 h1 k6 k7 k1 q0' q1' Bf hb10
          go_wp2_with fail
          refine wp_region_held (S := (fun wz => (wz.cell? ⟨w.heap.size, 0, none⟩ = some (.slice (some ⟨lb, lf, none⟩) ls.length lc) ∧ wz.cell? ⟨w.heap.size, 1, none⟩ = some (.slice pa pn pc)) ∧ wz.cell? ⟨b, off + i * 8 + 6, none⟩ = some (.slice taa (ln d T1) tac) ∧ (wz.cell? ⟨b10, 0, none⟩ = some (.int .i64 (anL here (lab ls (m : Int))).1) ∧ wz.cell? ⟨b10, 1, none⟩ = some (.int .i64 (anL here (lab ls (m : Int))).2)))) (by kernel_rfl) ?_
          change wpAnyH _ _ _ _ _ _ _ _ (World.drew _)
          have hHeld := (show (fun wz => (wz.cell? ⟨w.heap.size, 0, none⟩ = some (.slice (some ⟨lb, lf, none⟩) ls.length lc) ∧ wz.cell? ⟨w.heap.size, 1, none⟩ = some (.slice pa pn pc)) ∧ wz.cell? ⟨b, off + i * 8 + 6, none⟩ = some (.slice taa (ln d T1) tac) ∧ (wz.cell? ⟨b10, 0, none⟩ = some (.int .i64 (anL here (lab ls (m : Int))).1) ∧ wz.cell? ⟨b10, 1, none⟩ = some (.int .i64 (anL here (lab ls (m : Int))).2))) (World.drew xf) from ⟨⟨c0_6, c1_6⟩, k6_6, d0_6, d1_6⟩)
          refine' wpAnyH_take (i := 0) (v := .agg #[.slice (some ⟨lb, lf, none⟩) ls.length lc, .slice pa pn pc]) rfl (by kernel_rfl) (by kernel_rfl) (by kernel_rfl) (fun _ _ _ h => h) (Or.inl ⟨by rfl, ?hy5019⟩) hHeld ?hn5019
          case hy5019 => (intro wz hSw; obtain ⟨⟨j0, j1⟩, _, _⟩ := hSw; go_simp)
          try simp only [nrm, Act.put]
          refine' wpAnyH_take (i := 1) (v := _) rfl (by kernel_rfl) (by kernel_rfl) (by kernel_rfl) (fun _ _ _ h => h) (Or.inl ⟨by rfl, ?hy5020⟩) hHeld ?hn5020
          case hy5020 => (intro wz hSw; (try dsimp only at hSw); go_simp; first | done | with_reducible rfl)
          try simp only [nrm, Act.put]
          refine' wpAnyH_take (i := 2) (v := _) rfl (by kernel_rfl) (by kernel_rfl) (by kernel_rfl) (fun _ _ _ h => h) (Or.inl ⟨by rfl, ?hy5021⟩) hHeld ?hn5021
          case hy5021 => (intro wz hSw; (try dsimp only at hSw); go_simp; first | done | with_reducible rfl)
          try simp only [nrm, Act.put]
          refine' wpAnyH_take (i := 3) (v := _) rfl (by kernel_rfl) (by kernel_rfl) (by kernel_rfl) (fun _ _ _ h => h) (Or.inl ⟨by rfl, ?hy5022⟩) hHeld ?hn5022
          case hy5022 => (intro wz hSw; (try dsimp only at hSw); go_simp; first | done | with_reducible rfl)
          try simp only [nrm, Act.put]
          refine' wpAnyH_take (i := 4) (v := _) rfl (by kernel_rfl) (by kernel_rfl) (by kernel_rfl) (fun _ _ _ h => h) (Or.inl ⟨by rfl, ?hy5023⟩) hHeld ?hn5023
          case hy5023 => (intro wz hSw; (try dsimp only at hSw); go_simp; first | done | with_reducible rfl)
          try simp only [nrm, Act.put]
          refine' wpAnyH_take (i := 5) (v := .slice taa (ln d T1) tac) rfl (by kernel_rfl) (by kernel_rfl) (by kernel_rfl) (fun _ _ _ h => h) (Or.inl ⟨by rfl, ?hy5024⟩) hHeld ?hn5024
          case hy5024 => (intro wz hSw; obtain ⟨_, j0, _⟩ := hSw; go_simp)
          try simp only [nrm, Act.put]
          refine' wpAnyH_take (i := 6) (v := .agg #[.int .i64 (anL here (lab ls (m : Int))).1, .int .i64 (anL here (lab ls (m : Int))).2]) rfl (by kernel_rfl) (by kernel_rfl) (by kernel_rfl) (fun _ _ _ h => h) (Or.inl ⟨by rfl, ?hy5025⟩) hHeld ?hn5025
          case hy5025 => (intro wz hSw; obtain ⟨_, _, j0, j1⟩ := hSw; go_simp)
          try simp only [nrm, Act.put]
          refine' wpAnyH_take (i := 7) (v := _) rfl (by kernel_rfl) (by kernel_rfl) (by kernel_rfl) (fun _ _ _ h => h) (Or.inl ⟨by rfl, ?hy5026⟩) hHeld ?hn5026
          case hy5026 => (intro wz hSw; (try dsimp only at hSw); go_simp; first | done | with_reducible rfl)
          try simp only [nrm, Act.put]
          refine wpAnyH_ready (rs := [8]) (by kernel_rfl) (by simp) ?_
          refine AllReadyH.cons rfl (fun K hK => ?_) AllReadyH.nil
          go_simp
          refine Calls.mono C6.out ?_; rintro e' x6 ⟨v6, rfl, own6, gx6, nx6, nn6⟩
          refine hK.out _ _ (by exact ⟨⟨(World.cell?_of_block (gx6.block w.heap.size (by show w.heap.size < xf.heap.size; omega) (NE6.out.1))).trans hHeld.1.1, (World.cell?_of_block (gx6.block w.heap.size (by show w.heap.size < xf.heap.size; omega) (NE6.out.1))).trans hHeld.1.2⟩, (World.cell?_of_block (gx6.block b (by show b < xf.heap.size; omega) (NE6.out.2.1))).trans hHeld.2.1, (World.cell?_of_block (gx6.block b10 (by show b10 < xf.heap.size; omega) (NE6.out.2.2))).trans hHeld.2.2.1, (World.cell?_of_block (gx6.block b10 (by show b10 < xf.heap.size; omega) (NE6.out.2.2))).trans hHeld.2.2.2⟩) (fun hHeld => ?_)
          clear hK K
          refine' wpAnyH_take (i := 9) (v := _) rfl (by kernel_rfl) (by kernel_rfl) (by kernel_rfl) (fun _ _ _ h => h) (Or.inl ⟨by rfl, ?hy5027⟩) hHeld ?hn5027
          case hy5027 => (intro wz hSw; (try dsimp only at hSw); go_simp; first | done | with_reducible rfl)
          try simp only [nrm, Act.put]
          refine wpAnyH_done (by kernel_rfl) ?_ _
          obtain ⟨g6, gc6, rfl, hg60, hg61⟩ := rowl_some own6 nn6
          have z6 : xf.heap.size ≤ x6.heap.size := gx6.size
          have GX6 : Gx (.slice (some ⟨g1, 0, none⟩) (n0 + 1) gc1) w1 x6 := ⟨gx6.os.trans HBf.out.os, gx6.tape.trans HBf.out.tape, gx6.output.trans HBf.out.output, by omega, fun b hb hne => (gx6.block b (by show b < xf.heap.size; omega) hne).trans (HBf.out.block b hb)⟩
          have BW6 : Below W.heap.size W x6 := BW1.out.trans (GX6.below (B := W.heap.size) (fun k e => by have : g1 = k := Option.some.inj e; omega) hW1)
          have NX6 : Nx xf.heap.size (.slice (some ⟨g1, 0, none⟩) (n0 + 1) gc1) (Value.slice (some ⟨g6, 0, none⟩) ((zs ++ A0 ++ [here]).length + cnt d T1) gc6) := nx6
          have n6 : ∀ q, q < xf.heap.size → g1 ≠ q → g6 ≠ q := fun q h1 h2 e => NX6.ne (b := q) (fun e' => h2 (Option.some.inj e')) h1 (by rw [e]; rfl)
          have NE7 : Hid ((Value.slice (some ⟨g6, 0, none⟩) ((zs ++ A0 ++ [here]).length + cnt d T1) gc6).ownBlock ≠ some w.heap.size ∧ (Value.slice (some ⟨g6, 0, none⟩) ((zs ++ A0 ++ [here]).length + cnt d T1) gc6).ownBlock ≠ some b ∧ (Value.slice (some ⟨g6, 0, none⟩) ((zs ++ A0 ++ [here]).length + cnt d T1) gc6).ownBlock ≠ some b10) := ⟨fun e => n6 _ (by omega) (fun e' => NE6.out.1 (by rw [e']; rfl)) (Option.some.inj e), fun e => n6 _ (by omega) (fun e' => NE6.out.2.1 (by rw [e']; rfl)) (Option.some.inj e), fun e => n6 _ (by omega) (fun e' => NE6.out.2.2 (by rw [e']; rfl)) (Option.some.inj e)⟩
          have c0_7 := hHeld.1.1
          have c1_7 := hHeld.1.2
          have d0_7 := hHeld.2.2.1
          have d1_7 := hHeld.2.2.2
          have k7_7 : x6.cell? ⟨b, off + i * 8 + 7, none⟩ = some (.slice eaa (ln d T2) eac) := (World.cell?_of_block (gx6.block b (by show b < xf.heap.size; omega) NE6.out.2.1)).trans k7f.out
          have HF6 : Hid (C2 x6 w.heap.size (.slice (some ⟨lb, lf, none⟩) ls.length lc) (.slice pa pn pc) ∧ C2 x6 (w.heap.size + 1) (.int .i64 here.1) (.int .i64 here.2)) := ⟨HFF.out.1.same (gx6.block _ (by show w.heap.size < xf.heap.size; omega) NE6.out.1), HFF.out.2.same (gx6.block _ (by show w.heap.size + 1 < xf.heap.size; omega) NE1.out.2)⟩
          have E6 : (zs ++ A0 ++ [here]).length + cnt d T1 = (zs ++ A0 ++ [here] ++ atT ls d T1 (anL here (lab ls (m : Int)))).length := by rw [List.length_append (bs := atT ls d T1 (anL here (lab ls (m : Int)))), atT_length]
          rw [E6] at own6 NE7 NX6 ⊢
          have OW7 : x6.drew.ownsRow B 59 2 (.slice (some ⟨g6, 0, none⟩) (zs ++ A0 ++ [here] ++ atT ls d T1 (anL here (lab ls (m : Int)))).length gc6) (zs ++ A0 ++ [here] ++ atT ls d T1 (anL here (lab ls (m : Int)))).length (pcells (zs ++ A0 ++ [here] ++ atT ls d T1 (anL here (lab ls (m : Int))))) := own6
          have C7 : Hid _ := IH.out T2 (deep - 1) (anL here (lab ls (m : Int))) (.slice eaa (ln d T2) eac) _ _ x6.drew r2 BW6.drew (by show B ≤ x6.heap.size; omega) st2 hok' (by rw [← E6, hln]; omega) OW7 (by simp)
          have HGX6 : Hid _ := GX6
          have HNX6 : Hid (Nx xf.heap.size (.slice (some ⟨g1, 0, none⟩) (n0 + 1) gc1) (Value.slice (some ⟨g6, 0, none⟩) (zs ++ A0 ++ [here] ++ atT ls d T1 (anL here (lab ls (m : Int)))).length gc6)) := NX6
          have hn61 : g6 ≠ w.heap.size + 1 := n6 _ (by omega) (fun e' => NE1.out.2 (by rw [e']; rfl))
          obtain ⟨n6l, hn6l⟩ : ∃ n, (zs ++ A0 ++ [here] ++ atT ls d T1 (anL here (lab ls (m : Int)))).length = n := ⟨_, rfl⟩
          have HN6 : Hid _ := hn6l
          rw [hn6l] at C7 NE7 HNX6 ⊢
          clear own6 gx6 nx6 nn6 GX6 NX6 n6 OW7 C6 BW6 hHeld HFF HBf hn6l E6
          go_wp2_with fail
          refine wp_region_held (S := (fun wz => (wz.cell? ⟨w.heap.size, 0, none⟩ = some (.slice (some ⟨lb, lf, none⟩) ls.length lc) ∧ wz.cell? ⟨w.heap.size, 1, none⟩ = some (.slice pa pn pc)) ∧ wz.cell? ⟨b, off + i * 8 + 7, none⟩ = some (.slice eaa (ln d T2) eac) ∧ (wz.cell? ⟨b10, 0, none⟩ = some (.int .i64 (anL here (lab ls (m : Int))).1) ∧ wz.cell? ⟨b10, 1, none⟩ = some (.int .i64 (anL here (lab ls (m : Int))).2)))) (by kernel_rfl) ?_
          change wpAnyH _ _ _ _ _ _ _ _ (World.drew _)
          have hHeld := (show (fun wz => (wz.cell? ⟨w.heap.size, 0, none⟩ = some (.slice (some ⟨lb, lf, none⟩) ls.length lc) ∧ wz.cell? ⟨w.heap.size, 1, none⟩ = some (.slice pa pn pc)) ∧ wz.cell? ⟨b, off + i * 8 + 7, none⟩ = some (.slice eaa (ln d T2) eac) ∧ (wz.cell? ⟨b10, 0, none⟩ = some (.int .i64 (anL here (lab ls (m : Int))).1) ∧ wz.cell? ⟨b10, 1, none⟩ = some (.int .i64 (anL here (lab ls (m : Int))).2))) (World.drew x6) from ⟨⟨c0_7, c1_7⟩, k7_7, d0_7, d1_7⟩)
          refine' wpAnyH_take (i := 0) (v := .agg #[.slice (some ⟨lb, lf, none⟩) ls.length lc, .slice pa pn pc]) rfl (by kernel_rfl) (by kernel_rfl) (by kernel_rfl) (fun _ _ _ h => h) (Or.inl ⟨by rfl, ?hy5028⟩) hHeld ?hn5028
          case hy5028 => (intro wz hSw; obtain ⟨⟨j0, j1⟩, _, _⟩ := hSw; go_simp)
          try simp only [nrm, Act.put]
          refine' wpAnyH_take (i := 1) (v := _) rfl (by kernel_rfl) (by kernel_rfl) (by kernel_rfl) (fun _ _ _ h => h) (Or.inl ⟨by rfl, ?hy5029⟩) hHeld ?hn5029
          case hy5029 => (intro wz hSw; (try dsimp only at hSw); go_simp; first | done | with_reducible rfl)
          try simp only [nrm, Act.put]
          refine' wpAnyH_take (i := 2) (v := _) rfl (by kernel_rfl) (by kernel_rfl) (by kernel_rfl) (fun _ _ _ h => h) (Or.inl ⟨by rfl, ?hy5030⟩) hHeld ?hn5030
          case hy5030 => (intro wz hSw; (try dsimp only at hSw); go_simp; first | done | with_reducible rfl)
          try simp only [nrm, Act.put]
          refine' wpAnyH_take (i := 3) (v := _) rfl (by kernel_rfl) (by kernel_rfl) (by kernel_rfl) (fun _ _ _ h => h) (Or.inl ⟨by rfl, ?hy5031⟩) hHeld ?hn5031
          case hy5031 => (intro wz hSw; (try dsimp only at hSw); go_simp; first | done | with_reducible rfl)
          try simp only [nrm, Act.put]
          refine' wpAnyH_take (i := 4) (v := _) rfl (by kernel_rfl) (by kernel_rfl) (by kernel_rfl) (fun _ _ _ h => h) (Or.inl ⟨by rfl, ?hy5032⟩) hHeld ?hn5032
          case hy5032 => (intro wz hSw; (try dsimp only at hSw); go_simp; first | done | with_reducible rfl)
          try simp only [nrm, Act.put]
          refine' wpAnyH_take (i := 5) (v := .slice eaa (ln d T2) eac) rfl (by kernel_rfl) (by kernel_rfl) (by kernel_rfl) (fun _ _ _ h => h) (Or.inl ⟨by rfl, ?hy5033⟩) hHeld ?hn5033
          case hy5033 => (intro wz hSw; obtain ⟨_, j0, _⟩ := hSw; go_simp)
          try simp only [nrm, Act.put]
          refine' wpAnyH_take (i := 6) (v := .agg #[.int .i64 (anL here (lab ls (m : Int))).1, .int .i64 (anL here (lab ls (m : Int))).2]) rfl (by kernel_rfl) (by kernel_rfl) (by kernel_rfl) (fun _ _ _ h => h) (Or.inl ⟨by rfl, ?hy5034⟩) hHeld ?hn5034
          case hy5034 => (intro wz hSw; obtain ⟨_, _, j0, j1⟩ := hSw; go_simp)
          try simp only [nrm, Act.put]
          refine' wpAnyH_take (i := 7) (v := _) rfl (by kernel_rfl) (by kernel_rfl) (by kernel_rfl) (fun _ _ _ h => h) (Or.inl ⟨by rfl, ?hy5035⟩) hHeld ?hn5035
          case hy5035 => (intro wz hSw; (try dsimp only at hSw); go_simp; first | done | with_reducible rfl)
          try simp only [nrm, Act.put]
          refine wpAnyH_ready (rs := [8]) (by kernel_rfl) (by simp) ?_
          refine AllReadyH.cons rfl (fun K hK => ?_) AllReadyH.nil
          go_simp
          refine Calls.mono C7.out ?_; rintro e' x7 ⟨v7, rfl, own7, gx7, nx7, nn7⟩
          refine hK.out _ _ (by exact ⟨⟨(World.cell?_of_block (gx7.block w.heap.size (by show w.heap.size < x6.heap.size; omega) (NE7.out.1))).trans hHeld.1.1, (World.cell?_of_block (gx7.block w.heap.size (by show w.heap.size < x6.heap.size; omega) (NE7.out.1))).trans hHeld.1.2⟩, (World.cell?_of_block (gx7.block b (by show b < x6.heap.size; omega) (NE7.out.2.1))).trans hHeld.2.1, (World.cell?_of_block (gx7.block b10 (by show b10 < x6.heap.size; omega) (NE7.out.2.2))).trans hHeld.2.2.1, (World.cell?_of_block (gx7.block b10 (by show b10 < x6.heap.size; omega) (NE7.out.2.2))).trans hHeld.2.2.2⟩) (fun hHeld => ?_)
          clear hK K
          refine' wpAnyH_take (i := 9) (v := _) rfl (by kernel_rfl) (by kernel_rfl) (by kernel_rfl) (fun _ _ _ h => h) (Or.inl ⟨by rfl, ?hy5036⟩) hHeld ?hn5036
          case hy5036 => (intro wz hSw; (try dsimp only at hSw); go_simp; first | done | with_reducible rfl)
          try simp only [nrm, Act.put]
          refine wpAnyH_done (by kernel_rfl) ?_ _
          obtain ⟨g7, gc7, rfl, hg70, hg71⟩ := rowl_some own7 nn7
          have z7 : x6.heap.size ≤ x7.heap.size := gx7.size
          have EQ : zs.length + cnt (d + 1) (l.take (i + 1) : List (Pay × Tr d × Tr d)) = n6l + cnt d T2 := by
            have e := HN6.out
            simp [atT_length, lA0] at e
            have := HQ1.out
            omega
          have EL : zs ++ atT ls (d + 1) (l.take (i + 1) : List (Pay × Tr d × Tr d)) here = zs ++ A0 ++ [here] ++ atT ls d T1 (anL here (lab ls (m : Int))) ++ atT ls d T2 (anL here (lab ls (m : Int))) := by
            rw [HQ2.out]; simp
          have HREL : Hid (x7.ownsRow B 59 2 (.slice (some ⟨g7, 0, none⟩) (n6l + cnt d T2) gc7) (zs.length + cnt (d + 1) (l.take (i + 1) : List (Pay × Tr d × Tr d))) (pcells (zs ++ atT ls (d + 1) (l.take (i + 1) : List (Pay × Tr d × Tr d)) here))) := (show x7.ownsRow B 59 2 (.slice (some ⟨g7, 0, none⟩) (n6l + cnt d T2) gc7) (zs.length + cnt (d + 1) (l.take (i + 1) : List (Pay × Tr d × Tr d))) (pcells (zs ++ atT ls (d + 1) (l.take (i + 1) : List (Pay × Tr d × Tr d)) here)) by rw [EQ, EL]; exact own7)
          have HF7 : Hid (C2 x7 w.heap.size (.slice (some ⟨lb, lf, none⟩) ls.length lc) (.slice pa pn pc) ∧ C2 x7 (w.heap.size + 1) (.int .i64 here.1) (.int .i64 here.2)) := ⟨HF6.out.1.same (gx7.block _ (by show w.heap.size < x6.heap.size; omega) NE7.out.1), HF6.out.2.same (gx7.block _ (by show w.heap.size + 1 < x6.heap.size; omega) (fun e => hn61 (Option.some.inj e)))⟩
          have NXa : Nx (w.heap.size + 2) (.slice (some ⟨g00, 0, none⟩) zs.length gc00) (Value.slice (some ⟨g6, 0, none⟩) n6l gc6) := Nx.trans HNX1.out HNX6.out (by omega)
          have NXb : Hid (Nx (w.heap.size + 2) (.slice (some ⟨g00, 0, none⟩) zs.length gc00) (Value.slice (some ⟨g7, 0, none⟩) (n6l + cnt d T2) gc7)) := Nx.trans NXa nx7 (by show w.heap.size + 2 ≤ x6.heap.size; omega)
          have GXb : Hid (Gx (.slice (some ⟨g00, 0, none⟩) zs.length gc00) w x7) := Gx.then (GX1.out.then HGX6.out HNX1.out (by omega)) (⟨gx7.os, gx7.tape, gx7.output, gx7.size, gx7.block⟩ : Gx _ x6 x7) NXa (by omega)
          clear own7 gx7 nx7 nn7 NXa EQ EL hHeld C7 HGX6 HNX6
          go_wp2
          exact ⟨⟨i + 1, by omega, by simp, HREL.out, HF7.out.1, HF7.out.2, GXb.out, NXb.out, by omega, by simp⟩, by simp [intOf]; omega⟩
      · have : i = l.length := by omega
        subst this
        rw [List.take_length] at hn0 hA0
        have HO : Hid (wr.ownsRow B 59 2 (.slice (some ⟨g, 0, none⟩) n0 gc) (zs.length + cnt (d + 1) (l : List (Pay × Tr d × Tr d))) (pcells (zs ++ atT ls (d + 1) (l : List (Pay × Tr d × Tr d)) here))) := (show wr.ownsRow B 59 2 (.slice (some ⟨g, 0, none⟩) n0 gc) (zs.length + cnt (d + 1) (l : List (Pay × Tr d × Tr d))) (pcells (zs ++ atT ls (d + 1) (l : List (Pay × Tr d × Tr d)) here)) by rw [hn0, hA0]; exact hor)
        have HGX : Hid (Gx (.slice (some ⟨g00, 0, none⟩) zs.length gc00) w wr) := hGx
        have HNX : Hid (Nx (w.heap.size + 2) (.slice (some ⟨g00, 0, none⟩) zs.length gc00) (.slice (some ⟨g, 0, none⟩) n0 gc)) := hNx
        clear hor hGx hNx hP hH
        go_wp2
        go_ret
        exact ⟨_, rfl, HO.out, HGX.out, Nx.mono HNX.out (by omega), by simp⟩

end Go.Proofs.YthcgdhlemieboaaGreat

namespace Go.Proofs.YthcgdhlemieboaaGreat
open Go.RowKit
set_option linter.unusedSimpArgs false
set_option linter.unusedVariables false
attribute [local go_sem] World.cell?_alloc_some

set_option maxHeartbeats 4000000 in
set_option maxRecDepth 20000 in
theorem l11Val_any {ls : List (Int × Int)} (hls : labsB ls = true) (vk va vb : Int) (pa : Option Addr) (pn pc : Nat) {lv : Value} {w : World} (hL : LRep w lv ls) (hv : valB ls.length vk va vb = true) :
    Calls Tryz.prog 91 #[.agg #[lv, .slice pa pn pc], .agg #[.int .i64 vk, .int .i64 va, .int .i64 vb]] w fun e w' => e = .returned (.agg #[.int .i64 (valL ls vk va vb).1, .int .i64 (valL ls vk va vb).2]) ∧ Below w.heap.size w w' := by
  obtain ⟨la, lc, rfl, hll, hlm, hcell⟩ := hL
  have hk4 : vk = 1 ∨ vk = 2 ∨ (vk = 3 ∨ vk = 4) := by
    unfold valB at hv
    split at hv
    · exact .inl ‹_›
    · split at hv
      · exact .inr (.inl ‹_›)
      · split at hv
        · exact .inr (.inr ‹_›)
        · cases hv
  have A : Below w.heap.size w (((w.alloc (.cells #[.slice la ls.length lc, .slice pa pn pc] 26)).alloc (.cells #[.int .i64 vk, .int .i64 va, .int .i64 vb] 64)).alloc (.cells #[.int .i64 0, .int .i64 0] 59)) := (((Below.refl _ _).alloc (Nat.le_refl _) _).alloc (by simp) _).alloc (by simp; omega) _
  have p0 : (((w.alloc (.cells #[.slice la ls.length lc, .slice pa pn pc] 26)).alloc (.cells #[.int .i64 vk, .int .i64 va, .int .i64 vb] 64)).alloc (.cells #[.int .i64 0, .int .i64 0] 59)).cell? ⟨w.heap.size, 0, none⟩ = some (.slice la ls.length lc) := by simp [go_sem]
  have x0 : (((w.alloc (.cells #[.slice la ls.length lc, .slice pa pn pc] 26)).alloc (.cells #[.int .i64 vk, .int .i64 va, .int .i64 vb] 64)).alloc (.cells #[.int .i64 0, .int .i64 0] 59)).cell? ⟨w.heap.size + 1, 0, none⟩ = some (.int .i64 vk) := by simp [go_sem]
  have x1 : (((w.alloc (.cells #[.slice la ls.length lc, .slice pa pn pc] 26)).alloc (.cells #[.int .i64 vk, .int .i64 va, .int .i64 vb] 64)).alloc (.cells #[.int .i64 0, .int .i64 0] 59)).cell? ⟨w.heap.size + 1, 1, none⟩ = some (.int .i64 va) := by simp [go_sem]
  have x2 : (((w.alloc (.cells #[.slice la ls.length lc, .slice pa pn pc] 26)).alloc (.cells #[.int .i64 vk, .int .i64 va, .int .i64 vb] 64)).alloc (.cells #[.int .i64 0, .int .i64 0] 59)).cell? ⟨w.heap.size + 1, 2, none⟩ = some (.int .i64 vb) := by simp [go_sem]
  have RB : C2 (((w.alloc (.cells #[.slice la ls.length lc, .slice pa pn pc] 26)).alloc (.cells #[.int .i64 vk, .int .i64 va, .int .i64 vb] 64)).alloc (.cells #[.int .i64 0, .int .i64 0] 59)) (w.heap.size + 1 + 1) (.int .i64 0) (.int .i64 0) := by
    have := C2.new ((w.alloc (.cells #[.slice la ls.length lc, .slice pa pn pc] 26)).alloc (.cells #[.int .i64 vk, .int .i64 va, .int .i64 vb] 64)) (.int .i64 0) (.int .i64 0) 59
    simpa using this
  have z0 : (((w.alloc (.cells #[.slice la ls.length lc, .slice pa pn pc] 26)).alloc (.cells #[.int .i64 vk, .int .i64 va, .int .i64 vb] 64)).alloc (.cells #[.int .i64 0, .int .i64 0] 59)).heap.size = w.heap.size + 3 := by simp
  generalize hW0 : (((w.alloc (.cells #[.slice la ls.length lc, .slice pa pn pc] 26)).alloc (.cells #[.int .i64 vk, .int .i64 va, .int .i64 vb] 64)).alloc (.cells #[.int .i64 0, .int .i64 0] 59)) = w0 at *
  have HW0 : Hid _ := hW0
  have HCL : Hid _ := hcell
  have HA : Hid (Below w.heap.size w w0) := A
  have HRB0 : Hid (C2 w0 (w.heap.size + 1 + 1) (.int .i64 0) (.int .i64 0)) := RB
  have HZ0 : Hid (w0.heap.size = w.heap.size + 3) := z0
  clear hW0 hcell A RB z0
  go_enter Tryz.func91, Tryz.ntmps91
  go_wp2_with fail
  rw [HW0.out]
  go_at_call 88; refine (l11Any_any _).mono ?_; rintro e w1 ⟨rfl, hb1⟩
  have hz1 : w.heap.size + 3 ≤ w1.heap.size := by have := hb1.size; have := HZ0.out; omega
  go_upto_region 2 with fail
  have G2 := C2.new w1 (.int .i64 7) (.int .i64 7) 59
  have hB2 : Below w0.heap.size w0 (w1.alloc (.cells #[.int .i64 7, .int .i64 7] 59)) := Below.then hb1 ((Below.refl _ _).alloc (Nat.le_refl _) _) hb1.size
  generalize w1.alloc (.cells #[.int .i64 7, .int .i64 7] 59) = w2 at G2 hB2 ⊢
  obtain ⟨o5, ho5⟩ : ∃ o, o = w1.heap.size := ⟨_, rfl⟩
  rw [← ho5] at G2 hz1 ⊢
  have hbk : ∀ q, q < w.heap.size + 3 → w2.heap[q]? = w0.heap[q]? := fun q hq => hB2.block q (by have := HZ0.out; omega)
  replace p0 := (World.cell?_of_block (hbk w.heap.size (by omega))).trans p0
  replace x0 := (World.cell?_of_block (hbk (w.heap.size + 1) (by omega))).trans x0
  replace x1 := (World.cell?_of_block (hbk (w.heap.size + 1) (by omega))).trans x1
  replace x2 := (World.cell?_of_block (hbk (w.heap.size + 1) (by omega))).trans x2
  have HRB : Hid (C2 w2 (w.heap.size + 1 + 1) (.int .i64 0) (.int .i64 0)) := HRB0.out.same (hbk _ (by omega))
  have B0 : Hid (Below w.heap.size w w2) := Below.then HA.out hB2 HA.out.size
  have hw2 : w.heap.size + 3 ≤ w2.heap.size := by have := hB2.size; have := HZ0.out; omega
  have HG2 : Hid (C2 w2 o5 (.int .i64 topL.1) (.int .i64 topL.2)) := G2
  have HCW : Hid (∀ i (hi : i < ls.length), ∃ lb lf, la = some ⟨lb, lf, none⟩ ∧ lb < w.heap.size + 3 ∧ w2.cell? ⟨lb, lf + i * 2, none⟩ = some (.int .i64 (lab ls (i : Int)).1) ∧ w2.cell? ⟨lb, lf + i * 2 + 1, none⟩ = some (.int .i64 (lab ls (i : Int)).2)) := (show ∀ i (hi : i < ls.length), _ by
    intro i hi
    obtain ⟨lb, lf, ha, c0, c1⟩ := HCL.out i hi
    have e : lab ls (i : Int) = ls[i] := by simp [lab, hi]
    have hl : lb < w.heap.size := World.block_lt_of_cell? _ _ c0
    rw [e]
    exact ⟨lb, lf, ha, by omega, cell_later B0.out c0, cell_later B0.out c1⟩)
  have hN0 : w.heap.size < w.heap.size + 3 := by omega
  have hN1 : w.heap.size + 1 < w.heap.size + 3 := by omega
  clear HCL HRB0 HA hB2 hbk HZ0 HW0 hb1 ho5 w1 w0 G2
  rcases hk4 with hk | hk | hk
  · subst hk
    have HE : Hid (valL ls 1 va vb = topL) := (show valL ls 1 va vb = topL by simp [valL])
    have G0 := HG2.out
    have B2 : Below (w.heap.size + 3) w2 w2 := Below.refl _ _
    obtain ⟨⟨o0, o1⟩, -, -⟩ := G0
    obtain ⟨⟨r0, r1⟩, g0, g1⟩ := HRB.out.same (B2.block (w.heap.size + 1 + 1) (by omega))
    have HRX : Hid _ := HRB.out.same (B2.block (w.heap.size + 1 + 1) (by omega))
    have HBB : Hid (Below (w.heap.size + 3) w2 w2) := B2
    go_wp2
    obtain ⟨⟨q0, q1⟩, -⟩ := (C2.set0 (.int .i64 topL.1) HRX.out).set1 (.int .i64 topL.2)
    exact bodyPost_ret (v := .agg #[.int .i64 topL.1, .int .i64 topL.2]) (by simp [results, Tryz.results91, go_sem, q0, q1]) rfl ⟨by rw [HE.out], ((B0.out.trans (HBB.out.mono (by omega))).setCell (by show w.heap.size ≤ w.heap.size + 1 + 1; omega) _).setCell (by show w.heap.size ≤ w.heap.size + 1 + 1; omega) _⟩
  · subst hk
    have hv' : vIn ls.length va = true := by simp [valB] at hv; exact hv.1
    obtain ⟨h1, h2⟩ : 0 ≤ va ∧ va < ls.length := by simpa [vIn] using hv'
    obtain ⟨m, rfl⟩ := Int.eq_ofNat_of_zero_le h1
    have hm : m < ls.length := by omega
    obtain ⟨lb, lf, rfl, hNl, m0, m1⟩ := HCW.out m hm
    have HE : Hid (valL ls 2 (m : Int) vb = anL topL (lab ls (m : Int))) := (show valL ls 2 (m : Int) vb = anL topL (lab ls (m : Int)) by rw [anL_top (lab_ok hls _)]; simp [valL])
    clear hv hv' HCW
    go_wp2_with fail
    refine wp_region_held (S := fun wz => Below (w.heap.size + 3) w2 wz) (by kernel_rfl) ?_
    change wpAnyH _ _ _ _ _ _ _ _ (World.drew _)
    have hHeld : Below (w.heap.size + 3) w2 w2.drew := (Below.refl _ _).drew
    have G0 : C2 w2.drew o5 (.int .i64 topL.1) (.int .i64 topL.2) := HG2.out
    have im0 : (0 : Int) ≤ (m : Int) := by omega
    have im1 : (m : Int) < (ls.length : Int) := by omega
    refine' wpAnyH_take (i := 1) (v := _) rfl (by kernel_rfl) (by kernel_rfl) (by kernel_rfl) (fun _ _ _ h => h) (Or.inl ⟨by rfl, ?hy9⟩) hHeld ?hn9
    case hy9 => (intro wz hSw; go_simp; first | done | with_reducible rfl)
    try simp only [nrm, Act.put]
    refine' wpAnyH_take (i := 2) (v := .slice (some ⟨lb, lf, none⟩) ls.length lc) rfl (by kernel_rfl) (by kernel_rfl) (by kernel_rfl) (fun _ _ _ h => h) (Or.inl ⟨by rfl, ?hy10⟩) hHeld ?hn10
    case hy10 => (intro wz hSw; have j0 := (hSw.cell (p := ⟨w.heap.size, 0, none⟩) hN0).trans p0; go_simp)
    try simp only [nrm, Act.put]
    refine' wpAnyH_take (i := 3) (v := _) rfl (by kernel_rfl) (by kernel_rfl) (by kernel_rfl) (fun _ _ _ h => h) (Or.inl ⟨by rfl, ?hy11⟩) hHeld ?hn11
    case hy11 => (intro wz hSw; go_simp; first | done | with_reducible rfl)
    try simp only [nrm, Act.put]
    refine' wpAnyH_take (i := 4) (v := .int .i64 (m : Int)) rfl (by kernel_rfl) (by kernel_rfl) (by kernel_rfl) (fun _ _ _ h => h) (Or.inl ⟨by rfl, ?hy12⟩) hHeld ?hn12
    case hy12 => (intro wz hSw; have j0 := (hSw.cell (p := ⟨w.heap.size + 1, 1, none⟩) hN1).trans x1; go_simp)
    try simp only [nrm, Act.put]
    refine' wpAnyH_take (i := 5) (v := _) rfl (by kernel_rfl) (by kernel_rfl) (by kernel_rfl) (fun _ _ _ h => h) (Or.inl ⟨by rfl, ?hy13⟩) hHeld ?hn13
    case hy13 => (intro wz hSw; go_simp; first | done | with_reducible rfl)
    try simp only [nrm, Act.put]
    refine' wpAnyH_take (i := 6) (v := .agg #[.int .i64 (lab ls (m : Int)).1, .int .i64 (lab ls (m : Int)).2]) rfl (by kernel_rfl) (by kernel_rfl) (by kernel_rfl) (fun _ _ _ h => h) (Or.inl ⟨by rfl, ?hy14⟩) hHeld ?hn14
    case hy14 => (intro wz hSw; have j0 := (hSw.cell (p := ⟨lb, lf + m * 2, none⟩) hNl).trans m0; have j1 := (hSw.cell (p := ⟨lb, lf + m * 2 + 1, none⟩) hNl).trans m1; go_simp)
    try simp only [nrm, Act.put]
    refine wpAnyH_ready (rs := [0]) (by kernel_rfl) (by simp) ?_
    refine AllReadyH.cons rfl (fun K hK => ?_) AllReadyH.nil
    obtain ⟨⟨o0, o1⟩, -, -⟩ := id G0
    go_simp
    clear o0 o1
    refine hK.out _ _ (hHeld) (fun hHeld => ?_)
    clear hK K
    refine wpAnyH_ready (rs := [7]) (by kernel_rfl) (by simp) ?_
    refine AllReadyH.cons rfl (fun K hK => ?_) AllReadyH.nil
    go_simp
    refine (sLabelBoth_any _ _ _ _ _).mono ?_
    rintro e' a1 ⟨rfl, Ba1⟩
    rw [(anL_bo topL_ok (lab_ok hls (m : Int))).1, (anL_bo topL_ok (lab_ok hls (m : Int))).2]
    have Ga1 : C2 a1 o5 (.int .i64 topL.1) (.int .i64 topL.2) := G0.same (Ba1.block _ (World.block_lt_of_cell? _ _ G0.1.1))
    refine hK.out _ _ (hHeld.trans (Ba1.mono (by have := hHeld.size; omega))) (fun hHeld => ?_)
    clear hK K
    refine wpAnyH_ready (rs := [8]) (by kernel_rfl) (by simp) ?_
    refine AllReadyH.cons rfl (fun K hK => ?_) AllReadyH.nil
    obtain ⟨⟨o0, o1⟩, fz0, fz1⟩ := id Ga1
    go_simp
    have Gf1 := (Ga1.set0 (.int .i64 (anL topL (lab ls (m : Int))).1)).set1 (.int .i64 (anL topL (lab ls (m : Int))).2)
    have Bf1 : Below (w.heap.size + 3) w2 ((a1.setCell ⟨o5, 0, none⟩ (.int .i64 (anL topL (lab ls (m : Int))).1)).setCell ⟨o5, 1, none⟩ (.int .i64 (anL topL (lab ls (m : Int))).2)) := (hHeld.setCell (by show w.heap.size + 3 ≤ o5; omega) _).setCell (by show w.heap.size + 3 ≤ o5; omega) _
    generalize ((a1.setCell ⟨o5, 0, none⟩ (.int .i64 (anL topL (lab ls (m : Int))).1)).setCell ⟨o5, 1, none⟩ (.int .i64 (anL topL (lab ls (m : Int))).2)) = y1 at Gf1 Bf1 ⊢
    clear o0 o1 fz0 fz1 Ba1 Ga1
    refine hK.out _ _ (Bf1) (fun hHeld => ?_)
    clear hK K
    refine wpAnyH_done (by kernel_rfl) ?_ _
    have x0y : y1.cell? ⟨w.heap.size + 1, 0, none⟩ = some (.int .i64 2) := (World.cell?_of_block (Bf1.block (w.heap.size + 1) (by omega))).trans x0
    obtain ⟨⟨o0, o1⟩, -, -⟩ := Gf1
    obtain ⟨⟨r0, r1⟩, g0, g1⟩ := HRB.out.same (Bf1.block (w.heap.size + 1 + 1) (by omega))
    have HRX : Hid _ := HRB.out.same (Bf1.block (w.heap.size + 1 + 1) (by omega))
    have HBB : Hid (Below (w.heap.size + 3) w2 y1) := Bf1
    go_wp2
    obtain ⟨⟨q0, q1⟩, -⟩ := (C2.set0 (.int .i64 (anL topL (lab ls (m : Int))).1) HRX.out).set1 (.int .i64 (anL topL (lab ls (m : Int))).2)
    exact bodyPost_ret (v := .agg #[.int .i64 (anL topL (lab ls (m : Int))).1, .int .i64 (anL topL (lab ls (m : Int))).2]) (by simp [results, Tryz.results91, go_sem, q0, q1]) rfl ⟨by rw [HE.out], ((B0.out.trans (HBB.out.mono (by omega))).setCell (by show w.heap.size ≤ w.heap.size + 1 + 1; omega) _).setCell (by show w.heap.size ≤ w.heap.size + 1 + 1; omega) _⟩
  · have hv' : (vIn ls.length va && vIn ls.length vb) = true := by rcases hk with rfl | rfl <;> simpa [valB] using hv
    obtain ⟨h1, h2⟩ : (0 ≤ va ∧ va < ls.length) ∧ (0 ≤ vb ∧ vb < ls.length) := by simpa [vIn] using hv'
    obtain ⟨m, rfl⟩ := Int.eq_ofNat_of_zero_le h1.1
    obtain ⟨q, rfl⟩ := Int.eq_ofNat_of_zero_le h2.1
    have hm : m < ls.length := by omega
    have hq : q < ls.length := by omega
    obtain ⟨lb, lf, rfl, hNl, m0, m1⟩ := HCW.out m hm
    obtain ⟨lb', lf', hb', hNl', q0', q1'⟩ := HCW.out q hq
    simp only [Option.some.injEq, Addr.mk.injEq] at hb'
    obtain ⟨rfl, rfl, -⟩ := hb'
    have HE : Hid (valL ls vk (m : Int) (q : Int) = anL (anL topL (lab ls (m : Int))) (lab ls (q : Int))) := (show valL ls vk (m : Int) (q : Int) = anL (anL topL (lab ls (m : Int))) (lab ls (q : Int)) by rw [anL_top (lab_ok hls _)]; rcases hk with rfl | rfl <;> simp [valL])
    clear hv hv' HCW hNl'
    rcases hk with rfl | rfl
    · go_wp2_with fail
      refine wp_region_held (S := fun wz => Below (w.heap.size + 3) w2 wz) (by kernel_rfl) ?_
      change wpAnyH _ _ _ _ _ _ _ _ (World.drew _)
      have hHeld : Below (w.heap.size + 3) w2 w2.drew := (Below.refl _ _).drew
      have G0 : C2 w2.drew o5 (.int .i64 topL.1) (.int .i64 topL.2) := HG2.out
      have im0 : (0 : Int) ≤ (m : Int) := by omega
      have im1 : (m : Int) < (ls.length : Int) := by omega
      refine' wpAnyH_take (i := 1) (v := _) rfl (by kernel_rfl) (by kernel_rfl) (by kernel_rfl) (fun _ _ _ h => h) (Or.inl ⟨by rfl, ?hy15⟩) hHeld ?hn15
      case hy15 => (intro wz hSw; go_simp; first | done | with_reducible rfl)
      try simp only [nrm, Act.put]
      refine' wpAnyH_take (i := 2) (v := .slice (some ⟨lb, lf, none⟩) ls.length lc) rfl (by kernel_rfl) (by kernel_rfl) (by kernel_rfl) (fun _ _ _ h => h) (Or.inl ⟨by rfl, ?hy16⟩) hHeld ?hn16
      case hy16 => (intro wz hSw; have j0 := (hSw.cell (p := ⟨w.heap.size, 0, none⟩) hN0).trans p0; go_simp)
      try simp only [nrm, Act.put]
      refine' wpAnyH_take (i := 3) (v := _) rfl (by kernel_rfl) (by kernel_rfl) (by kernel_rfl) (fun _ _ _ h => h) (Or.inl ⟨by rfl, ?hy17⟩) hHeld ?hn17
      case hy17 => (intro wz hSw; go_simp; first | done | with_reducible rfl)
      try simp only [nrm, Act.put]
      refine' wpAnyH_take (i := 4) (v := .int .i64 (m : Int)) rfl (by kernel_rfl) (by kernel_rfl) (by kernel_rfl) (fun _ _ _ h => h) (Or.inl ⟨by rfl, ?hy18⟩) hHeld ?hn18
      case hy18 => (intro wz hSw; have j0 := (hSw.cell (p := ⟨w.heap.size + 1, 1, none⟩) hN1).trans x1; go_simp)
      try simp only [nrm, Act.put]
      refine' wpAnyH_take (i := 5) (v := _) rfl (by kernel_rfl) (by kernel_rfl) (by kernel_rfl) (fun _ _ _ h => h) (Or.inl ⟨by rfl, ?hy19⟩) hHeld ?hn19
      case hy19 => (intro wz hSw; go_simp; first | done | with_reducible rfl)
      try simp only [nrm, Act.put]
      refine' wpAnyH_take (i := 6) (v := .agg #[.int .i64 (lab ls (m : Int)).1, .int .i64 (lab ls (m : Int)).2]) rfl (by kernel_rfl) (by kernel_rfl) (by kernel_rfl) (fun _ _ _ h => h) (Or.inl ⟨by rfl, ?hy20⟩) hHeld ?hn20
      case hy20 => (intro wz hSw; have j0 := (hSw.cell (p := ⟨lb, lf + m * 2, none⟩) hNl).trans m0; have j1 := (hSw.cell (p := ⟨lb, lf + m * 2 + 1, none⟩) hNl).trans m1; go_simp)
      try simp only [nrm, Act.put]
      refine wpAnyH_ready (rs := [0]) (by kernel_rfl) (by simp) ?_
      refine AllReadyH.cons rfl (fun K hK => ?_) AllReadyH.nil
      obtain ⟨⟨o0, o1⟩, -, -⟩ := id G0
      go_simp
      clear o0 o1
      refine hK.out _ _ (hHeld) (fun hHeld => ?_)
      clear hK K
      refine wpAnyH_ready (rs := [7]) (by kernel_rfl) (by simp) ?_
      refine AllReadyH.cons rfl (fun K hK => ?_) AllReadyH.nil
      go_simp
      refine (sLabelBoth_any _ _ _ _ _).mono ?_
      rintro e' a1 ⟨rfl, Ba1⟩
      rw [(anL_bo topL_ok (lab_ok hls (m : Int))).1, (anL_bo topL_ok (lab_ok hls (m : Int))).2]
      have Ga1 : C2 a1 o5 (.int .i64 topL.1) (.int .i64 topL.2) := G0.same (Ba1.block _ (World.block_lt_of_cell? _ _ G0.1.1))
      refine hK.out _ _ (hHeld.trans (Ba1.mono (by have := hHeld.size; omega))) (fun hHeld => ?_)
      clear hK K
      refine wpAnyH_ready (rs := [8]) (by kernel_rfl) (by simp) ?_
      refine AllReadyH.cons rfl (fun K hK => ?_) AllReadyH.nil
      obtain ⟨⟨o0, o1⟩, fz0, fz1⟩ := id Ga1
      go_simp
      have Gf1 := (Ga1.set0 (.int .i64 (anL topL (lab ls (m : Int))).1)).set1 (.int .i64 (anL topL (lab ls (m : Int))).2)
      have Bf1 : Below (w.heap.size + 3) w2 ((a1.setCell ⟨o5, 0, none⟩ (.int .i64 (anL topL (lab ls (m : Int))).1)).setCell ⟨o5, 1, none⟩ (.int .i64 (anL topL (lab ls (m : Int))).2)) := (hHeld.setCell (by show w.heap.size + 3 ≤ o5; omega) _).setCell (by show w.heap.size + 3 ≤ o5; omega) _
      generalize ((a1.setCell ⟨o5, 0, none⟩ (.int .i64 (anL topL (lab ls (m : Int))).1)).setCell ⟨o5, 1, none⟩ (.int .i64 (anL topL (lab ls (m : Int))).2)) = y1 at Gf1 Bf1 ⊢
      clear o0 o1 fz0 fz1 Ba1 Ga1
      refine hK.out _ _ (Bf1) (fun hHeld => ?_)
      clear hK K
      refine wpAnyH_done (by kernel_rfl) ?_ _
      have G1' : C2 y1 o5 (.int .i64 (anL topL (lab ls (m : Int))).1) (.int .i64 (anL topL (lab ls (m : Int))).2) := Gf1
      have B1' : Below (w.heap.size + 3) w2 y1 := Bf1
      have x0y : y1.cell? ⟨w.heap.size + 1, 0, none⟩ = some (.int .i64 3) := (World.cell?_of_block (Bf1.block (w.heap.size + 1) (by omega))).trans x0
      clear hHeld Gf1 Bf1
      go_wp2_with fail
      refine wp_region_held (S := fun wz => Below (w.heap.size + 3) w2 wz) (by kernel_rfl) ?_
      change wpAnyH _ _ _ _ _ _ _ _ (World.drew _)
      have hHeld : Below (w.heap.size + 3) w2 y1.drew := B1'.drew
      have G0 : C2 y1.drew o5 (.int .i64 (anL topL (lab ls (m : Int))).1) (.int .i64 (anL topL (lab ls (m : Int))).2) := G1'
      have okA := anL_ok topL_ok (lab_ok hls (m : Int))
      have q0 := q0'
      have q1 := q1'
      have iq0 : (0 : Int) ≤ (q : Int) := by omega
      have iq1 : (q : Int) < (ls.length : Int) := by omega
      refine' wpAnyH_take (i := 1) (v := _) rfl (by kernel_rfl) (by kernel_rfl) (by kernel_rfl) (fun _ _ _ h => h) (Or.inl ⟨by rfl, ?hy21⟩) hHeld ?hn21
      case hy21 => (intro wz hSw; go_simp; first | done | with_reducible rfl)
      try simp only [nrm, Act.put]
      refine' wpAnyH_take (i := 2) (v := .slice (some ⟨lb, lf, none⟩) ls.length lc) rfl (by kernel_rfl) (by kernel_rfl) (by kernel_rfl) (fun _ _ _ h => h) (Or.inl ⟨by rfl, ?hy22⟩) hHeld ?hn22
      case hy22 => (intro wz hSw; have j0 := (hSw.cell (p := ⟨w.heap.size, 0, none⟩) hN0).trans p0; go_simp)
      try simp only [nrm, Act.put]
      refine' wpAnyH_take (i := 3) (v := _) rfl (by kernel_rfl) (by kernel_rfl) (by kernel_rfl) (fun _ _ _ h => h) (Or.inl ⟨by rfl, ?hy23⟩) hHeld ?hn23
      case hy23 => (intro wz hSw; go_simp; first | done | with_reducible rfl)
      try simp only [nrm, Act.put]
      refine' wpAnyH_take (i := 4) (v := .int .i64 (q : Int)) rfl (by kernel_rfl) (by kernel_rfl) (by kernel_rfl) (fun _ _ _ h => h) (Or.inl ⟨by rfl, ?hy24⟩) hHeld ?hn24
      case hy24 => (intro wz hSw; have j0 := (hSw.cell (p := ⟨w.heap.size + 1, 2, none⟩) hN1).trans x2; go_simp)
      try simp only [nrm, Act.put]
      refine' wpAnyH_take (i := 5) (v := _) rfl (by kernel_rfl) (by kernel_rfl) (by kernel_rfl) (fun _ _ _ h => h) (Or.inl ⟨by rfl, ?hy25⟩) hHeld ?hn25
      case hy25 => (intro wz hSw; go_simp; first | done | with_reducible rfl)
      try simp only [nrm, Act.put]
      refine' wpAnyH_take (i := 6) (v := .agg #[.int .i64 (lab ls (q : Int)).1, .int .i64 (lab ls (q : Int)).2]) rfl (by kernel_rfl) (by kernel_rfl) (by kernel_rfl) (fun _ _ _ h => h) (Or.inl ⟨by rfl, ?hy26⟩) hHeld ?hn26
      case hy26 => (intro wz hSw; have j0 := (hSw.cell (p := ⟨lb, lf + q * 2, none⟩) hNl).trans q0; have j1 := (hSw.cell (p := ⟨lb, lf + q * 2 + 1, none⟩) hNl).trans q1; go_simp)
      try simp only [nrm, Act.put]
      refine wpAnyH_ready (rs := [0]) (by kernel_rfl) (by simp) ?_
      refine AllReadyH.cons rfl (fun K hK => ?_) AllReadyH.nil
      obtain ⟨⟨o0, o1⟩, -, -⟩ := id G0
      go_simp
      clear o0 o1
      refine hK.out _ _ (hHeld) (fun hHeld => ?_)
      clear hK K
      refine wpAnyH_ready (rs := [7]) (by kernel_rfl) (by simp) ?_
      refine AllReadyH.cons rfl (fun K hK => ?_) AllReadyH.nil
      go_simp
      refine (sLabelBoth_any _ _ _ _ _).mono ?_
      rintro e' a2 ⟨rfl, Ba2⟩
      rw [(anL_bo okA (lab_ok hls (q : Int))).1, (anL_bo okA (lab_ok hls (q : Int))).2]
      have Ga2 : C2 a2 o5 (.int .i64 (anL topL (lab ls (m : Int))).1) (.int .i64 (anL topL (lab ls (m : Int))).2) := G0.same (Ba2.block _ (World.block_lt_of_cell? _ _ G0.1.1))
      refine hK.out _ _ (hHeld.trans (Ba2.mono (by have := hHeld.size; omega))) (fun hHeld => ?_)
      clear hK K
      refine wpAnyH_ready (rs := [8]) (by kernel_rfl) (by simp) ?_
      refine AllReadyH.cons rfl (fun K hK => ?_) AllReadyH.nil
      obtain ⟨⟨o0, o1⟩, fz0, fz1⟩ := id Ga2
      go_simp
      have Gf2 := (Ga2.set0 (.int .i64 (anL (anL topL (lab ls (m : Int))) (lab ls (q : Int))).1)).set1 (.int .i64 (anL (anL topL (lab ls (m : Int))) (lab ls (q : Int))).2)
      have Bf2 : Below (w.heap.size + 3) w2 ((a2.setCell ⟨o5, 0, none⟩ (.int .i64 (anL (anL topL (lab ls (m : Int))) (lab ls (q : Int))).1)).setCell ⟨o5, 1, none⟩ (.int .i64 (anL (anL topL (lab ls (m : Int))) (lab ls (q : Int))).2)) := (hHeld.setCell (by show w.heap.size + 3 ≤ o5; omega) _).setCell (by show w.heap.size + 3 ≤ o5; omega) _
      generalize ((a2.setCell ⟨o5, 0, none⟩ (.int .i64 (anL (anL topL (lab ls (m : Int))) (lab ls (q : Int))).1)).setCell ⟨o5, 1, none⟩ (.int .i64 (anL (anL topL (lab ls (m : Int))) (lab ls (q : Int))).2)) = y2 at Gf2 Bf2 ⊢
      clear o0 o1 fz0 fz1 Ba2 Ga2
      refine hK.out _ _ (Bf2) (fun hHeld => ?_)
      clear hK K
      refine wpAnyH_done (by kernel_rfl) ?_ _
      obtain ⟨⟨o0, o1⟩, -, -⟩ := Gf2
      obtain ⟨⟨r0, r1⟩, g0, g1⟩ := HRB.out.same (Bf2.block (w.heap.size + 1 + 1) (by omega))
      have HRX : Hid _ := HRB.out.same (Bf2.block (w.heap.size + 1 + 1) (by omega))
      have HBB : Hid (Below (w.heap.size + 3) w2 y2) := Bf2
      go_wp2
      obtain ⟨⟨q0, q1⟩, -⟩ := (C2.set0 (.int .i64 (anL (anL topL (lab ls (m : Int))) (lab ls (q : Int))).1) HRX.out).set1 (.int .i64 (anL (anL topL (lab ls (m : Int))) (lab ls (q : Int))).2)
      exact bodyPost_ret (v := .agg #[.int .i64 (anL (anL topL (lab ls (m : Int))) (lab ls (q : Int))).1, .int .i64 (anL (anL topL (lab ls (m : Int))) (lab ls (q : Int))).2]) (by simp [results, Tryz.results91, go_sem, q0, q1]) rfl ⟨by rw [HE.out], ((B0.out.trans (HBB.out.mono (by omega))).setCell (by show w.heap.size ≤ w.heap.size + 1 + 1; omega) _).setCell (by show w.heap.size ≤ w.heap.size + 1 + 1; omega) _⟩
    · go_wp2_with fail
      refine wp_region_held (S := fun wz => Below (w.heap.size + 3) w2 wz) (by kernel_rfl) ?_
      change wpAnyH _ _ _ _ _ _ _ _ (World.drew _)
      have hHeld : Below (w.heap.size + 3) w2 w2.drew := (Below.refl _ _).drew
      have G0 : C2 w2.drew o5 (.int .i64 topL.1) (.int .i64 topL.2) := HG2.out
      have im0 : (0 : Int) ≤ (m : Int) := by omega
      have im1 : (m : Int) < (ls.length : Int) := by omega
      refine' wpAnyH_take (i := 1) (v := _) rfl (by kernel_rfl) (by kernel_rfl) (by kernel_rfl) (fun _ _ _ h => h) (Or.inl ⟨by rfl, ?hy27⟩) hHeld ?hn27
      case hy27 => (intro wz hSw; go_simp; first | done | with_reducible rfl)
      try simp only [nrm, Act.put]
      refine' wpAnyH_take (i := 2) (v := .slice (some ⟨lb, lf, none⟩) ls.length lc) rfl (by kernel_rfl) (by kernel_rfl) (by kernel_rfl) (fun _ _ _ h => h) (Or.inl ⟨by rfl, ?hy28⟩) hHeld ?hn28
      case hy28 => (intro wz hSw; have j0 := (hSw.cell (p := ⟨w.heap.size, 0, none⟩) hN0).trans p0; go_simp)
      try simp only [nrm, Act.put]
      refine' wpAnyH_take (i := 3) (v := _) rfl (by kernel_rfl) (by kernel_rfl) (by kernel_rfl) (fun _ _ _ h => h) (Or.inl ⟨by rfl, ?hy29⟩) hHeld ?hn29
      case hy29 => (intro wz hSw; go_simp; first | done | with_reducible rfl)
      try simp only [nrm, Act.put]
      refine' wpAnyH_take (i := 4) (v := .int .i64 (m : Int)) rfl (by kernel_rfl) (by kernel_rfl) (by kernel_rfl) (fun _ _ _ h => h) (Or.inl ⟨by rfl, ?hy30⟩) hHeld ?hn30
      case hy30 => (intro wz hSw; have j0 := (hSw.cell (p := ⟨w.heap.size + 1, 1, none⟩) hN1).trans x1; go_simp)
      try simp only [nrm, Act.put]
      refine' wpAnyH_take (i := 5) (v := _) rfl (by kernel_rfl) (by kernel_rfl) (by kernel_rfl) (fun _ _ _ h => h) (Or.inl ⟨by rfl, ?hy31⟩) hHeld ?hn31
      case hy31 => (intro wz hSw; go_simp; first | done | with_reducible rfl)
      try simp only [nrm, Act.put]
      refine' wpAnyH_take (i := 6) (v := .agg #[.int .i64 (lab ls (m : Int)).1, .int .i64 (lab ls (m : Int)).2]) rfl (by kernel_rfl) (by kernel_rfl) (by kernel_rfl) (fun _ _ _ h => h) (Or.inl ⟨by rfl, ?hy32⟩) hHeld ?hn32
      case hy32 => (intro wz hSw; have j0 := (hSw.cell (p := ⟨lb, lf + m * 2, none⟩) hNl).trans m0; have j1 := (hSw.cell (p := ⟨lb, lf + m * 2 + 1, none⟩) hNl).trans m1; go_simp)
      try simp only [nrm, Act.put]
      refine wpAnyH_ready (rs := [0]) (by kernel_rfl) (by simp) ?_
      refine AllReadyH.cons rfl (fun K hK => ?_) AllReadyH.nil
      obtain ⟨⟨o0, o1⟩, -, -⟩ := id G0
      go_simp
      clear o0 o1
      refine hK.out _ _ (hHeld) (fun hHeld => ?_)
      clear hK K
      refine wpAnyH_ready (rs := [7]) (by kernel_rfl) (by simp) ?_
      refine AllReadyH.cons rfl (fun K hK => ?_) AllReadyH.nil
      go_simp
      refine (sLabelBoth_any _ _ _ _ _).mono ?_
      rintro e' a1 ⟨rfl, Ba1⟩
      rw [(anL_bo topL_ok (lab_ok hls (m : Int))).1, (anL_bo topL_ok (lab_ok hls (m : Int))).2]
      have Ga1 : C2 a1 o5 (.int .i64 topL.1) (.int .i64 topL.2) := G0.same (Ba1.block _ (World.block_lt_of_cell? _ _ G0.1.1))
      refine hK.out _ _ (hHeld.trans (Ba1.mono (by have := hHeld.size; omega))) (fun hHeld => ?_)
      clear hK K
      refine wpAnyH_ready (rs := [8]) (by kernel_rfl) (by simp) ?_
      refine AllReadyH.cons rfl (fun K hK => ?_) AllReadyH.nil
      obtain ⟨⟨o0, o1⟩, fz0, fz1⟩ := id Ga1
      go_simp
      have Gf1 := (Ga1.set0 (.int .i64 (anL topL (lab ls (m : Int))).1)).set1 (.int .i64 (anL topL (lab ls (m : Int))).2)
      have Bf1 : Below (w.heap.size + 3) w2 ((a1.setCell ⟨o5, 0, none⟩ (.int .i64 (anL topL (lab ls (m : Int))).1)).setCell ⟨o5, 1, none⟩ (.int .i64 (anL topL (lab ls (m : Int))).2)) := (hHeld.setCell (by show w.heap.size + 3 ≤ o5; omega) _).setCell (by show w.heap.size + 3 ≤ o5; omega) _
      generalize ((a1.setCell ⟨o5, 0, none⟩ (.int .i64 (anL topL (lab ls (m : Int))).1)).setCell ⟨o5, 1, none⟩ (.int .i64 (anL topL (lab ls (m : Int))).2)) = y1 at Gf1 Bf1 ⊢
      clear o0 o1 fz0 fz1 Ba1 Ga1
      refine hK.out _ _ (Bf1) (fun hHeld => ?_)
      clear hK K
      refine wpAnyH_done (by kernel_rfl) ?_ _
      have G1' : C2 y1 o5 (.int .i64 (anL topL (lab ls (m : Int))).1) (.int .i64 (anL topL (lab ls (m : Int))).2) := Gf1
      have B1' : Below (w.heap.size + 3) w2 y1 := Bf1
      have x0y : y1.cell? ⟨w.heap.size + 1, 0, none⟩ = some (.int .i64 4) := (World.cell?_of_block (Bf1.block (w.heap.size + 1) (by omega))).trans x0
      clear hHeld Gf1 Bf1
      go_wp2_with fail
      refine wp_region_held (S := fun wz => Below (w.heap.size + 3) w2 wz) (by kernel_rfl) ?_
      change wpAnyH _ _ _ _ _ _ _ _ (World.drew _)
      have hHeld : Below (w.heap.size + 3) w2 y1.drew := B1'.drew
      have G0 : C2 y1.drew o5 (.int .i64 (anL topL (lab ls (m : Int))).1) (.int .i64 (anL topL (lab ls (m : Int))).2) := G1'
      have okA := anL_ok topL_ok (lab_ok hls (m : Int))
      have q0 := q0'
      have q1 := q1'
      have iq0 : (0 : Int) ≤ (q : Int) := by omega
      have iq1 : (q : Int) < (ls.length : Int) := by omega
      refine' wpAnyH_take (i := 1) (v := _) rfl (by kernel_rfl) (by kernel_rfl) (by kernel_rfl) (fun _ _ _ h => h) (Or.inl ⟨by rfl, ?hy33⟩) hHeld ?hn33
      case hy33 => (intro wz hSw; go_simp; first | done | with_reducible rfl)
      try simp only [nrm, Act.put]
      refine' wpAnyH_take (i := 2) (v := .slice (some ⟨lb, lf, none⟩) ls.length lc) rfl (by kernel_rfl) (by kernel_rfl) (by kernel_rfl) (fun _ _ _ h => h) (Or.inl ⟨by rfl, ?hy34⟩) hHeld ?hn34
      case hy34 => (intro wz hSw; have j0 := (hSw.cell (p := ⟨w.heap.size, 0, none⟩) hN0).trans p0; go_simp)
      try simp only [nrm, Act.put]
      refine' wpAnyH_take (i := 3) (v := _) rfl (by kernel_rfl) (by kernel_rfl) (by kernel_rfl) (fun _ _ _ h => h) (Or.inl ⟨by rfl, ?hy35⟩) hHeld ?hn35
      case hy35 => (intro wz hSw; go_simp; first | done | with_reducible rfl)
      try simp only [nrm, Act.put]
      refine' wpAnyH_take (i := 4) (v := .int .i64 (q : Int)) rfl (by kernel_rfl) (by kernel_rfl) (by kernel_rfl) (fun _ _ _ h => h) (Or.inl ⟨by rfl, ?hy36⟩) hHeld ?hn36
      case hy36 => (intro wz hSw; have j0 := (hSw.cell (p := ⟨w.heap.size + 1, 2, none⟩) hN1).trans x2; go_simp)
      try simp only [nrm, Act.put]
      refine' wpAnyH_take (i := 5) (v := _) rfl (by kernel_rfl) (by kernel_rfl) (by kernel_rfl) (fun _ _ _ h => h) (Or.inl ⟨by rfl, ?hy37⟩) hHeld ?hn37
      case hy37 => (intro wz hSw; go_simp; first | done | with_reducible rfl)
      try simp only [nrm, Act.put]
      refine' wpAnyH_take (i := 6) (v := .agg #[.int .i64 (lab ls (q : Int)).1, .int .i64 (lab ls (q : Int)).2]) rfl (by kernel_rfl) (by kernel_rfl) (by kernel_rfl) (fun _ _ _ h => h) (Or.inl ⟨by rfl, ?hy38⟩) hHeld ?hn38
      case hy38 => (intro wz hSw; have j0 := (hSw.cell (p := ⟨lb, lf + q * 2, none⟩) hNl).trans q0; have j1 := (hSw.cell (p := ⟨lb, lf + q * 2 + 1, none⟩) hNl).trans q1; go_simp)
      try simp only [nrm, Act.put]
      refine wpAnyH_ready (rs := [0]) (by kernel_rfl) (by simp) ?_
      refine AllReadyH.cons rfl (fun K hK => ?_) AllReadyH.nil
      obtain ⟨⟨o0, o1⟩, -, -⟩ := id G0
      go_simp
      clear o0 o1
      refine hK.out _ _ (hHeld) (fun hHeld => ?_)
      clear hK K
      refine wpAnyH_ready (rs := [7]) (by kernel_rfl) (by simp) ?_
      refine AllReadyH.cons rfl (fun K hK => ?_) AllReadyH.nil
      go_simp
      refine (sLabelBoth_any _ _ _ _ _).mono ?_
      rintro e' a2 ⟨rfl, Ba2⟩
      rw [(anL_bo okA (lab_ok hls (q : Int))).1, (anL_bo okA (lab_ok hls (q : Int))).2]
      have Ga2 : C2 a2 o5 (.int .i64 (anL topL (lab ls (m : Int))).1) (.int .i64 (anL topL (lab ls (m : Int))).2) := G0.same (Ba2.block _ (World.block_lt_of_cell? _ _ G0.1.1))
      refine hK.out _ _ (hHeld.trans (Ba2.mono (by have := hHeld.size; omega))) (fun hHeld => ?_)
      clear hK K
      refine wpAnyH_ready (rs := [8]) (by kernel_rfl) (by simp) ?_
      refine AllReadyH.cons rfl (fun K hK => ?_) AllReadyH.nil
      obtain ⟨⟨o0, o1⟩, fz0, fz1⟩ := id Ga2
      go_simp
      have Gf2 := (Ga2.set0 (.int .i64 (anL (anL topL (lab ls (m : Int))) (lab ls (q : Int))).1)).set1 (.int .i64 (anL (anL topL (lab ls (m : Int))) (lab ls (q : Int))).2)
      have Bf2 : Below (w.heap.size + 3) w2 ((a2.setCell ⟨o5, 0, none⟩ (.int .i64 (anL (anL topL (lab ls (m : Int))) (lab ls (q : Int))).1)).setCell ⟨o5, 1, none⟩ (.int .i64 (anL (anL topL (lab ls (m : Int))) (lab ls (q : Int))).2)) := (hHeld.setCell (by show w.heap.size + 3 ≤ o5; omega) _).setCell (by show w.heap.size + 3 ≤ o5; omega) _
      generalize ((a2.setCell ⟨o5, 0, none⟩ (.int .i64 (anL (anL topL (lab ls (m : Int))) (lab ls (q : Int))).1)).setCell ⟨o5, 1, none⟩ (.int .i64 (anL (anL topL (lab ls (m : Int))) (lab ls (q : Int))).2)) = y2 at Gf2 Bf2 ⊢
      clear o0 o1 fz0 fz1 Ba2 Ga2
      refine hK.out _ _ (Bf2) (fun hHeld => ?_)
      clear hK K
      refine wpAnyH_done (by kernel_rfl) ?_ _
      obtain ⟨⟨o0, o1⟩, -, -⟩ := Gf2
      obtain ⟨⟨r0, r1⟩, g0, g1⟩ := HRB.out.same (Bf2.block (w.heap.size + 1 + 1) (by omega))
      have HRX : Hid _ := HRB.out.same (Bf2.block (w.heap.size + 1 + 1) (by omega))
      have HBB : Hid (Below (w.heap.size + 3) w2 y2) := Bf2
      go_wp2
      obtain ⟨⟨q0, q1⟩, -⟩ := (C2.set0 (.int .i64 (anL (anL topL (lab ls (m : Int))) (lab ls (q : Int))).1) HRX.out).set1 (.int .i64 (anL (anL topL (lab ls (m : Int))) (lab ls (q : Int))).2)
      exact bodyPost_ret (v := .agg #[.int .i64 (anL (anL topL (lab ls (m : Int))) (lab ls (q : Int))).1, .int .i64 (anL (anL topL (lab ls (m : Int))) (lab ls (q : Int))).2]) (by simp [results, Tryz.results91, go_sem, q0, q1]) rfl ⟨by rw [HE.out], ((B0.out.trans (HBB.out.mono (by omega))).setCell (by show w.heap.size ≤ w.heap.size + 1 + 1; omega) _).setCell (by show w.heap.size ≤ w.heap.size + 1 + 1; omega) _⟩

end Go.Proofs.YthcgdhlemieboaaGreat

namespace Go.Proofs.YthcgdhlemieboaaGreat
open Go.RowKit
set_option linter.unusedSimpArgs false
set_option linter.unusedVariables false
attribute [local go_sem] World.cell?_alloc_some

set_option maxHeartbeats 4000000 in
set_option maxRecDepth 20000 in
theorem l11Fine_any {ls : List (Int × Int)} (hls : labsB ls = true) (p : Pay) (z : Bool) (here : Int × Int) (hok : okL here) (pa ta ea : Option Addr) (pn pc tn tc en ec : Nat) {lv : Value} {w : World} (hL : LRep w lv ls) (hp : payB ls.length p z = true) :
    Calls Tryz.prog 76 #[.agg #[lv, .slice pa pn pc], .agg #[.int .i64 p.k, .int .i64 p.v, .int .i64 p.vk, .int .i64 p.va, .int .i64 p.vb, .int .i64 p.h, .slice ta tn tc, .slice ea en ec], .agg #[.int .i64 here.1, .int .i64 here.2]] w fun e w' => e = .returned (.bool (fineB ls p here)) ∧ Below w.heap.size w w' := by
  have hLr := hL
  obtain ⟨la, lc, rfl, hll, hlm, hcell⟩ := hL
  have A : Below w.heap.size w (((w.alloc (.cells #[.slice la ls.length lc, .slice pa pn pc] 26)).alloc (.cells #[.int .i64 p.k, .int .i64 p.v, .int .i64 p.vk, .int .i64 p.va, .int .i64 p.vb, .int .i64 p.h, .slice ta tn tc, .slice ea en ec] 66)).alloc (.cells #[.int .i64 here.1, .int .i64 here.2] 59)) := (((Below.refl _ _).alloc (Nat.le_refl _) _).alloc (by simp) _).alloc (by simp; omega) _
  have p0 : (((w.alloc (.cells #[.slice la ls.length lc, .slice pa pn pc] 26)).alloc (.cells #[.int .i64 p.k, .int .i64 p.v, .int .i64 p.vk, .int .i64 p.va, .int .i64 p.vb, .int .i64 p.h, .slice ta tn tc, .slice ea en ec] 66)).alloc (.cells #[.int .i64 here.1, .int .i64 here.2] 59)).cell? ⟨w.heap.size, 0, none⟩ = some (.slice la ls.length lc) := by simp [go_sem]
  have p1 : (((w.alloc (.cells #[.slice la ls.length lc, .slice pa pn pc] 26)).alloc (.cells #[.int .i64 p.k, .int .i64 p.v, .int .i64 p.vk, .int .i64 p.va, .int .i64 p.vb, .int .i64 p.h, .slice ta tn tc, .slice ea en ec] 66)).alloc (.cells #[.int .i64 here.1, .int .i64 here.2] 59)).cell? ⟨w.heap.size, 1, none⟩ = some (.slice pa pn pc) := by simp [go_sem]
  have s0 : (((w.alloc (.cells #[.slice la ls.length lc, .slice pa pn pc] 26)).alloc (.cells #[.int .i64 p.k, .int .i64 p.v, .int .i64 p.vk, .int .i64 p.va, .int .i64 p.vb, .int .i64 p.h, .slice ta tn tc, .slice ea en ec] 66)).alloc (.cells #[.int .i64 here.1, .int .i64 here.2] 59)).cell? ⟨w.heap.size + 1, 0, none⟩ = some (.int .i64 p.k) := by simp [go_sem]
  have s1 : (((w.alloc (.cells #[.slice la ls.length lc, .slice pa pn pc] 26)).alloc (.cells #[.int .i64 p.k, .int .i64 p.v, .int .i64 p.vk, .int .i64 p.va, .int .i64 p.vb, .int .i64 p.h, .slice ta tn tc, .slice ea en ec] 66)).alloc (.cells #[.int .i64 here.1, .int .i64 here.2] 59)).cell? ⟨w.heap.size + 1, 1, none⟩ = some (.int .i64 p.v) := by simp [go_sem]
  have s2 : (((w.alloc (.cells #[.slice la ls.length lc, .slice pa pn pc] 26)).alloc (.cells #[.int .i64 p.k, .int .i64 p.v, .int .i64 p.vk, .int .i64 p.va, .int .i64 p.vb, .int .i64 p.h, .slice ta tn tc, .slice ea en ec] 66)).alloc (.cells #[.int .i64 here.1, .int .i64 here.2] 59)).cell? ⟨w.heap.size + 1, 2, none⟩ = some (.int .i64 p.vk) := by simp [go_sem]
  have s3 : (((w.alloc (.cells #[.slice la ls.length lc, .slice pa pn pc] 26)).alloc (.cells #[.int .i64 p.k, .int .i64 p.v, .int .i64 p.vk, .int .i64 p.va, .int .i64 p.vb, .int .i64 p.h, .slice ta tn tc, .slice ea en ec] 66)).alloc (.cells #[.int .i64 here.1, .int .i64 here.2] 59)).cell? ⟨w.heap.size + 1, 3, none⟩ = some (.int .i64 p.va) := by simp [go_sem]
  have s4 : (((w.alloc (.cells #[.slice la ls.length lc, .slice pa pn pc] 26)).alloc (.cells #[.int .i64 p.k, .int .i64 p.v, .int .i64 p.vk, .int .i64 p.va, .int .i64 p.vb, .int .i64 p.h, .slice ta tn tc, .slice ea en ec] 66)).alloc (.cells #[.int .i64 here.1, .int .i64 here.2] 59)).cell? ⟨w.heap.size + 1, 4, none⟩ = some (.int .i64 p.vb) := by simp [go_sem]
  have s5 : (((w.alloc (.cells #[.slice la ls.length lc, .slice pa pn pc] 26)).alloc (.cells #[.int .i64 p.k, .int .i64 p.v, .int .i64 p.vk, .int .i64 p.va, .int .i64 p.vb, .int .i64 p.h, .slice ta tn tc, .slice ea en ec] 66)).alloc (.cells #[.int .i64 here.1, .int .i64 here.2] 59)).cell? ⟨w.heap.size + 1, 5, none⟩ = some (.int .i64 p.h) := by simp [go_sem]
  have h0 : (((w.alloc (.cells #[.slice la ls.length lc, .slice pa pn pc] 26)).alloc (.cells #[.int .i64 p.k, .int .i64 p.v, .int .i64 p.vk, .int .i64 p.va, .int .i64 p.vb, .int .i64 p.h, .slice ta tn tc, .slice ea en ec] 66)).alloc (.cells #[.int .i64 here.1, .int .i64 here.2] 59)).cell? ⟨w.heap.size + 1 + 1, 0, none⟩ = some (.int .i64 here.1) := by simp [go_sem]
  have h1 : (((w.alloc (.cells #[.slice la ls.length lc, .slice pa pn pc] 26)).alloc (.cells #[.int .i64 p.k, .int .i64 p.v, .int .i64 p.vk, .int .i64 p.va, .int .i64 p.vb, .int .i64 p.h, .slice ta tn tc, .slice ea en ec] 66)).alloc (.cells #[.int .i64 here.1, .int .i64 here.2] 59)).cell? ⟨w.heap.size + 1 + 1, 1, none⟩ = some (.int .i64 here.2) := by simp [go_sem]
  have z0 : (((w.alloc (.cells #[.slice la ls.length lc, .slice pa pn pc] 26)).alloc (.cells #[.int .i64 p.k, .int .i64 p.v, .int .i64 p.vk, .int .i64 p.va, .int .i64 p.vb, .int .i64 p.h, .slice ta tn tc, .slice ea en ec] 66)).alloc (.cells #[.int .i64 here.1, .int .i64 here.2] 59)).heap.size = w.heap.size + 3 := by simp
  generalize hW0 : (((w.alloc (.cells #[.slice la ls.length lc, .slice pa pn pc] 26)).alloc (.cells #[.int .i64 p.k, .int .i64 p.v, .int .i64 p.vk, .int .i64 p.va, .int .i64 p.vb, .int .i64 p.h, .slice ta tn tc, .slice ea en ec] 66)).alloc (.cells #[.int .i64 here.1, .int .i64 here.2] 59)) = w0 at *
  have HW0 : Hid _ := hW0
  have HA : Hid (Below w.heap.size w w0) := A
  have HL : Hid (∀ wz, Below w0.heap.size w0 wz → LRep wz (.slice la ls.length lc) ls) := (show ∀ wz, _ from fun wz hb => (hLr.below A).below hb)
  have hvn : vIn ls.length p.v = true := by unfold payB at hp; simp only [Bool.and_eq_true_iff] at hp; exact hp.1
  obtain ⟨hv0, hv1⟩ : 0 ≤ p.v ∧ p.v < ls.length := by simpa [vIn] using hvn
  obtain ⟨m, hm0⟩ := Int.eq_ofNat_of_zero_le hv0
  have hm : m < ls.length := by omega
  obtain ⟨lb, lf, rfl, m0, m1⟩ := hcell m hm
  have e : lab ls (m : Int) = ls[m] := by simp [lab, hm]
  have nl : lb < w0.heap.size := by have : lb < w.heap.size := World.block_lt_of_cell? _ _ m0; omega
  rw [← e] at m0 m1
  replace m0 := cell_later A m0
  replace m1 := cell_later A m1
  have n0 : w.heap.size < w0.heap.size := by omega
  have n1 : w.heap.size + 1 < w0.heap.size := by omega
  have n2 : w.heap.size + 1 + 1 < w0.heap.size := by omega
  have im0 : (0 : Int) ≤ (m : Int) := by omega
  have im1 : (m : Int) < (ls.length : Int) := by omega
  have hlo := lab_ok hls (m : Int)
  obtain ⟨pk, pv, vk, va, vb, ph⟩ := p
  dsimp only at *
  subst hm0
  clear hW0 A hcell hLr e z0 hvn hv0 hv1
  have hk3 : pk = 1 ∨ pk = 3 ∨ pk = 2 := by
    unfold payB at hp
    simp only [Bool.and_eq_true_iff] at hp
    have := hp.2
    split at this
    · exact .inl ‹_›
    · split at this
      · exact .inr (.inl ‹_›)
      · split at this
        · exact .inr (.inr ‹_›)
        · cases this
  rcases hk3 with hk | hk | hk
  · subst hk
    have hv : valB ls.length vk va vb = true := by
      unfold payB at hp
      simp at hp
      exact hp.2.1.1
    have HE : Hid (fineB ls ⟨1, (m : Int), vk, va, vb, ph⟩ here = flL (anL here (valL ls vk va vb)) (lab ls (m : Int))) := (show fineB ls ⟨1, (m : Int), vk, va, vb, ph⟩ here = flL (anL here (valL ls vk va vb)) (lab ls (m : Int)) by simp [fineB])
    have HB1 : Hid _ := anL_bo hok (valL_ok hls vk va vb)
    have HF1 : Hid _ := flL_B (anL_ok hok (valL_ok hls vk va vb)) hlo
    go_enter Tryz.func76, Tryz.ntmps76
    go_wp2_with fail
    rw [HW0.out]
    refine wp_region_held (S := (fun wz => Below w0.heap.size w0 wz)) (by kernel_rfl) ?_
    change wpAnyH _ _ _ _ _ _ _ _ (World.drew _)
    have hHeld := (show Below w0.heap.size w0 (World.drew w0) from (Below.refl _ _).drew)
    refine' wpAnyH_take (i := 0) (v := .agg #[.int .i64 here.1, .int .i64 here.2]) rfl (by kernel_rfl) (by kernel_rfl) (by kernel_rfl) (fun _ _ _ h => h) (Or.inl ⟨by rfl, ?hy9001⟩) hHeld ?hn9001
    case hy9001 => (intro wz hSw; have j0 := (hSw.cell (p := ⟨w.heap.size + 1 + 1, 0, none⟩) n2).trans h0; have j1 := (hSw.cell (p := ⟨w.heap.size + 1 + 1, 1, none⟩) n2).trans h1; go_simp)
    try simp only [nrm, Act.put]
    refine' wpAnyH_take (i := 1) (v := .agg #[.slice (some ⟨lb, lf, none⟩) ls.length lc, .slice pa pn pc]) rfl (by kernel_rfl) (by kernel_rfl) (by kernel_rfl) (fun _ _ _ h => h) (Or.inl ⟨by rfl, ?hy9002⟩) hHeld ?hn9002
    case hy9002 => (intro wz hSw; have j0 := (hSw.cell (p := ⟨w.heap.size, 0, none⟩) n0).trans p0; have j1 := (hSw.cell (p := ⟨w.heap.size, 1, none⟩) n0).trans p1; go_simp)
    try simp only [nrm, Act.put]
    refine' wpAnyH_take (i := 2) (v := _) rfl (by kernel_rfl) (by kernel_rfl) (by kernel_rfl) (fun _ _ _ h => h) (Or.inl ⟨by rfl, ?hy9003⟩) hHeld ?hn9003
    case hy9003 => (intro wz hSw; (try dsimp only at hSw); go_simp; first | done | with_reducible rfl)
    try simp only [nrm, Act.put]
    refine' wpAnyH_take (i := 3) (v := .agg #[.int .i64 vk, .int .i64 va, .int .i64 vb]) rfl (by kernel_rfl) (by kernel_rfl) (by kernel_rfl) (fun _ _ _ h => h) (Or.inl ⟨by rfl, ?hy9004⟩) hHeld ?hn9004
    case hy9004 => (intro wz hSw; have j2 := (hSw.cell (p := ⟨w.heap.size + 1, 2, none⟩) n1).trans s2; have j3 := (hSw.cell (p := ⟨w.heap.size + 1, 3, none⟩) n1).trans s3; have j4 := (hSw.cell (p := ⟨w.heap.size + 1, 4, none⟩) n1).trans s4; go_simp)
    try simp only [nrm, Act.put]
    refine' wpAnyH_take (i := 6) (v := _) rfl (by kernel_rfl) (by kernel_rfl) (by kernel_rfl) (fun _ _ _ h => h) (Or.inl ⟨by rfl, ?hy9005⟩) hHeld ?hn9005
    case hy9005 => (intro wz hSw; (try dsimp only at hSw); go_simp; first | done | with_reducible rfl)
    try simp only [nrm, Act.put]
    refine' wpAnyH_take (i := 7) (v := .slice (some ⟨lb, lf, none⟩) ls.length lc) rfl (by kernel_rfl) (by kernel_rfl) (by kernel_rfl) (fun _ _ _ h => h) (Or.inl ⟨by rfl, ?hy9006⟩) hHeld ?hn9006
    case hy9006 => (intro wz hSw; have j0 := (hSw.cell (p := ⟨w.heap.size, 0, none⟩) n0).trans p0; go_simp)
    try simp only [nrm, Act.put]
    refine' wpAnyH_take (i := 8) (v := _) rfl (by kernel_rfl) (by kernel_rfl) (by kernel_rfl) (fun _ _ _ h => h) (Or.inl ⟨by rfl, ?hy9007⟩) hHeld ?hn9007
    case hy9007 => (intro wz hSw; (try dsimp only at hSw); go_simp; first | done | with_reducible rfl)
    try simp only [nrm, Act.put]
    refine' wpAnyH_take (i := 9) (v := .int .i64 (m : Int)) rfl (by kernel_rfl) (by kernel_rfl) (by kernel_rfl) (fun _ _ _ h => h) (Or.inl ⟨by rfl, ?hy9008⟩) hHeld ?hn9008
    case hy9008 => (intro wz hSw; have j0 := (hSw.cell (p := ⟨w.heap.size + 1, 1, none⟩) n1).trans s1; go_simp)
    try simp only [nrm, Act.put]
    refine' wpAnyH_take (i := 10) (v := _) rfl (by kernel_rfl) (by kernel_rfl) (by kernel_rfl) (fun _ _ _ h => h) (Or.inl ⟨by rfl, ?hy9009⟩) hHeld ?hn9009
    case hy9009 => (intro wz hSw; (try dsimp only at hSw); go_simp; first | done | with_reducible rfl)
    try simp only [nrm, Act.put]
    refine' wpAnyH_take (i := 11) (v := .agg #[.int .i64 (lab ls (m : Int)).1, .int .i64 (lab ls (m : Int)).2]) rfl (by kernel_rfl) (by kernel_rfl) (by kernel_rfl) (fun _ _ _ h => h) (Or.inl ⟨by rfl, ?hy9010⟩) hHeld ?hn9010
    case hy9010 => (intro wz hSw; have j0 := (hSw.cell (p := ⟨lb, lf + m * 2, none⟩) nl).trans m0; have j1 := (hSw.cell (p := ⟨lb, lf + m * 2 + 1, none⟩) nl).trans m1; go_simp)
    try simp only [nrm, Act.put]
    refine wpAnyH_ready (rs := [4]) (by kernel_rfl) (by simp) ?_
    refine AllReadyH.cons rfl (fun K hK => ?_) AllReadyH.nil
    go_simp
    refine (l11Val_any hls vk va vb pa pn pc (HL.out _ hHeld) hv).mono ?_; rintro e' w9 ⟨rfl, hbx⟩
    refine hK.out _ _ (Below.then hHeld hbx hHeld.size) (fun hHeld => ?_)
    clear hK K
    refine wpAnyH_ready (rs := [5]) (by kernel_rfl) (by simp) ?_
    refine AllReadyH.cons rfl (fun K hK => ?_) AllReadyH.nil
    go_simp
    refine (sLabelBoth_any _ _ _ _ _).mono ?_; rintro e' w9 ⟨rfl, hbx⟩; rw [HB1.out.1, HB1.out.2]
    refine hK.out _ _ (Below.then hHeld hbx hHeld.size) (fun hHeld => ?_)
    clear hK K
    refine wpAnyH_ready (rs := [12]) (by kernel_rfl) (by simp) ?_
    refine AllReadyH.cons rfl (fun K hK => ?_) AllReadyH.nil
    go_simp
    refine (sLabelFlows_any _ _ _ _ _).mono ?_; rintro e' w9 ⟨rfl, hbx⟩; rw [HF1.out]
    refine hK.out _ _ (Below.then hHeld hbx hHeld.size) (fun hHeld => ?_)
    clear hK K
    refine' wpAnyH_take (i := 13) (v := _) rfl (by kernel_rfl) (by kernel_rfl) (by kernel_rfl) (fun _ _ _ h => h) (Or.inl ⟨by rfl, ?hy9011⟩) hHeld ?hn9011
    case hy9011 => (intro wz hSw; (try dsimp only at hSw); go_simp; first | done | with_reducible rfl)
    try simp only [nrm, Act.put]
    refine wpAnyH_done (by kernel_rfl) ?_ _
    have HB9 : Hid (Below w0.heap.size w0 w9) := hHeld
    generalize flL (anL here (valL ls vk va vb)) (lab ls (m : Int)) = res at *
    clear hHeld
    go_wp2
    go_ret
    exact ⟨by rw [HE.out]; rfl, Below.then HA.out HB9.out HA.out.size⟩
  · subst hk
    have hh : vIn 3 ph = true := by
      unfold payB at hp
      simp at hp
      exact hp.2.1.2
    obtain ⟨hh0, hh2'⟩ : 0 ≤ ph ∧ ph < 3 := by simpa [vIn] using hh
    have hh2 : ph ≤ 2 := by omega
    have hab := andI_bd hok.1.1 hok.1.2 hlo.1.1 hlo.1.2
    have HE : Hid (fineB ls ⟨3, (m : Int), vk, va, vb, ph⟩ here = hasB (andI here.1 (lab ls (m : Int)).1) ph) := (show fineB ls ⟨3, (m : Int), vk, va, vb, ph⟩ here = hasB (andI here.1 (lab ls (m : Int)).1) ph by simp [fineB])
    go_enter Tryz.func76, Tryz.ntmps76
    go_wp2_with fail
    rw [HW0.out]
    refine wp_region_held (S := (fun wz => Below w0.heap.size w0 wz)) (by kernel_rfl) ?_
    change wpAnyH _ _ _ _ _ _ _ _ (World.drew _)
    have hHeld := (show Below w0.heap.size w0 (World.drew w0) from (Below.refl _ _).drew)
    refine' wpAnyH_take (i := 0) (v := _) rfl (by kernel_rfl) (by kernel_rfl) (by kernel_rfl) (fun _ _ _ h => h) (Or.inl ⟨by rfl, ?hy9012⟩) hHeld ?hn9012
    case hy9012 => (intro wz hSw; (try dsimp only at hSw); go_simp; first | done | with_reducible rfl)
    try simp only [nrm, Act.put]
    refine' wpAnyH_take (i := 1) (v := .int .i64 here.1) rfl (by kernel_rfl) (by kernel_rfl) (by kernel_rfl) (fun _ _ _ h => h) (Or.inl ⟨by rfl, ?hy9013⟩) hHeld ?hn9013
    case hy9013 => (intro wz hSw; have j0 := (hSw.cell (p := ⟨w.heap.size + 1 + 1, 0, none⟩) n2).trans h0; go_simp)
    try simp only [nrm, Act.put]
    refine' wpAnyH_take (i := 2) (v := _) rfl (by kernel_rfl) (by kernel_rfl) (by kernel_rfl) (fun _ _ _ h => h) (Or.inl ⟨by rfl, ?hy9014⟩) hHeld ?hn9014
    case hy9014 => (intro wz hSw; (try dsimp only at hSw); go_simp; first | done | with_reducible rfl)
    try simp only [nrm, Act.put]
    refine' wpAnyH_take (i := 3) (v := .slice (some ⟨lb, lf, none⟩) ls.length lc) rfl (by kernel_rfl) (by kernel_rfl) (by kernel_rfl) (fun _ _ _ h => h) (Or.inl ⟨by rfl, ?hy9015⟩) hHeld ?hn9015
    case hy9015 => (intro wz hSw; have j0 := (hSw.cell (p := ⟨w.heap.size, 0, none⟩) n0).trans p0; go_simp)
    try simp only [nrm, Act.put]
    refine' wpAnyH_take (i := 4) (v := _) rfl (by kernel_rfl) (by kernel_rfl) (by kernel_rfl) (fun _ _ _ h => h) (Or.inl ⟨by rfl, ?hy9016⟩) hHeld ?hn9016
    case hy9016 => (intro wz hSw; (try dsimp only at hSw); go_simp; first | done | with_reducible rfl)
    try simp only [nrm, Act.put]
    refine' wpAnyH_take (i := 5) (v := .int .i64 (m : Int)) rfl (by kernel_rfl) (by kernel_rfl) (by kernel_rfl) (fun _ _ _ h => h) (Or.inl ⟨by rfl, ?hy9017⟩) hHeld ?hn9017
    case hy9017 => (intro wz hSw; have j0 := (hSw.cell (p := ⟨w.heap.size + 1, 1, none⟩) n1).trans s1; go_simp)
    try simp only [nrm, Act.put]
    refine' wpAnyH_take (i := 6) (v := _) rfl (by kernel_rfl) (by kernel_rfl) (by kernel_rfl) (fun _ _ _ h => h) (Or.inl ⟨by rfl, ?hy9018⟩) hHeld ?hn9018
    case hy9018 => (intro wz hSw; (try dsimp only at hSw); go_simp; first | done | with_reducible rfl)
    try simp only [nrm, Act.put]
    refine' wpAnyH_take (i := 7) (v := _) rfl (by kernel_rfl) (by kernel_rfl) (by kernel_rfl) (fun _ _ _ h => h) (Or.inl ⟨by rfl, ?hy9019⟩) hHeld ?hn9019
    case hy9019 => (intro wz hSw; (try dsimp only at hSw); go_simp; first | done | with_reducible rfl)
    try simp only [nrm, Act.put]
    refine' wpAnyH_take (i := 8) (v := .int .i64 (lab ls (m : Int)).1) rfl (by kernel_rfl) (by kernel_rfl) (by kernel_rfl) (fun _ _ _ h => h) (Or.inl ⟨by rfl, ?hy9020⟩) hHeld ?hn9020
    case hy9020 => (intro wz hSw; have j0 := (hSw.cell (p := ⟨lb, lf + m * 2, none⟩) nl).trans m0; go_simp)
    try simp only [nrm, Act.put]
    refine' wpAnyH_take (i := 10) (v := _) rfl (by kernel_rfl) (by kernel_rfl) (by kernel_rfl) (fun _ _ _ h => h) (Or.inl ⟨by rfl, ?hy9021⟩) hHeld ?hn9021
    case hy9021 => (intro wz hSw; (try dsimp only at hSw); go_simp; first | done | with_reducible rfl)
    try simp only [nrm, Act.put]
    refine' wpAnyH_take (i := 11) (v := .int .i64 ph) rfl (by kernel_rfl) (by kernel_rfl) (by kernel_rfl) (fun _ _ _ h => h) (Or.inl ⟨by rfl, ?hy9022⟩) hHeld ?hn9022
    case hy9022 => (intro wz hSw; have j0 := (hSw.cell (p := ⟨w.heap.size + 1, 5, none⟩) n1).trans s5; go_simp)
    try simp only [nrm, Act.put]
    refine wpAnyH_ready (rs := [9]) (by kernel_rfl) (by simp) ?_
    refine AllReadyH.cons rfl (fun K hK => ?_) AllReadyH.nil
    go_simp
    refine (l1Both_any _ _ _ hok.1.1 hok.1.2 hlo.1.1 hlo.1.2).mono ?_; rintro e' w8 ⟨rfl, hw8⟩
    refine hK.out _ _ (by first | (rw [hw9]; first | exact hHeld | (rw [hw8] at hHeld; exact hHeld)) | (rw [hw8]; exact hHeld)) (fun hHeld => ?_)
    clear hK K
    refine wpAnyH_ready (rs := [12]) (by kernel_rfl) (by simp) ?_
    refine AllReadyH.cons rfl (fun K hK => ?_) AllReadyH.nil
    go_simp
    refine (l1Has_any _ _ _ hab.1 hab.2 hh0 hh2).mono ?_; rintro e' w9 ⟨rfl, hw9⟩
    refine hK.out _ _ (by first | (rw [hw9]; first | exact hHeld | (rw [hw8] at hHeld; exact hHeld)) | (rw [hw8]; exact hHeld)) (fun hHeld => ?_)
    clear hK K
    refine' wpAnyH_take (i := 13) (v := _) rfl (by kernel_rfl) (by kernel_rfl) (by kernel_rfl) (fun _ _ _ h => h) (Or.inl ⟨by rfl, ?hy9023⟩) hHeld ?hn9023
    case hy9023 => (intro wz hSw; (try dsimp only at hSw); go_simp; first | done | with_reducible rfl)
    try simp only [nrm, Act.put]
    refine wpAnyH_done (by kernel_rfl) ?_ _
    have HB9 : Hid (Below w0.heap.size w0 w9) := hHeld
    generalize hasB (andI here.1 (lab ls (m : Int)).1) ph = res at *
    clear hHeld
    go_wp2
    go_ret
    exact ⟨by rw [HE.out]; rfl, Below.then HA.out HB9.out HA.out.size⟩
  · subst hk
    have HE : Hid (fineB ls ⟨2, (m : Int), vk, va, vb, ph⟩ here = true) := (show fineB ls ⟨2, (m : Int), vk, va, vb, ph⟩ here = true by simp [fineB])
    go_enter Tryz.func76, Tryz.ntmps76
    go_wp2
    rw [HW0.out]
    go_ret
    exact ⟨by rw [HE.out]; rfl, HA.out⟩

def TaPost (w : World) (xs : List (Int × Int)) (e : Ending) (w' : World) : Prop := ∃ v, e = .returned v ∧ Below w.heap.size w w' ∧ w'.ownsRow w.heap.size 59 2 v xs.length (pcells xs) ∧ v ≠ .slice none 0 0

set_option maxHeartbeats 4000000 in
set_option maxRecDepth 20000 in
theorem sTypeAt_any {d : Nat} {T : Tr d} {lv sv : Value} {ls : List (Int × Int)} {w : World} (hL : LRep w lv ls) (hR : Rep w d sv T) (hc : cnt d T ≤ 1048576) :
    Calls Tryz.prog 75 #[.agg #[lv, sv]] w (TaPost w (if progB ls d T then atT ls d T topL else [])) := by
  have A : Below w.heap.size w (w.alloc (.cells #[lv, sv] 26)) := (Below.refl _ _).alloc (Nat.le_refl _) _
  have L1 := hL.below A
  have R1 := hR.below A
  have C1 : Hid _ := sProgOk_any L1 R1 hc
  have HLR1 : Hid (LRep _ lv ls ∧ Rep _ d sv T) := ⟨L1, R1⟩
  obtain ⟨la, lc, rfl, -⟩ := hL
  obtain ⟨sa, sc, rfl⟩ := hR.slice
  generalize hz : (if progB ls d T = true then atT ls d T topL else []) = xs
  have HZ : Hid _ := hz
  clear hz L1 R1 A hR
  go_enter Tryz.func75, Tryz.ntmps75
  go_wp2_with fail
  go_at_call 13; refine Calls.mono C1.out ?_; rintro e w1 ⟨rfl, hb1⟩
  have p0 : w1.cell? ⟨w.heap.size, 0, none⟩ = some (.slice la ls.length lc) := cell_later hb1 (by simp)
  have p1 : w1.cell? ⟨w.heap.size, 1, none⟩ = some (.slice sa (ln d T) sc) := cell_later hb1 (by simp)
  have HB1 : Hid (Below w.heap.size w w1) := Below.then ((Below.refl _ _).alloc (Nat.le_refl _) _) hb1 (by simp)
  have n0 : w.heap.size < w1.heap.size := by have := hb1.size; simp at this; omega
  have HLR : Hid (LRep w1 (.slice la ls.length lc) ls ∧ Rep w1 d (.slice sa (ln d T) sc) T) := ⟨HLR1.out.1.below hb1, HLR1.out.2.below hb1⟩
  clear hb1 C1 HLR1
  cases hp : progB ls d T
  · have HE : Hid (xs = []) := (show xs = [] by rw [← HZ.out, hp]; rfl)
    go_wp2
    go_ret
    exact ⟨_, rfl, HB1.out.alloc HB1.out.size _, by rw [HE.out]; exact World.ownsRow_made w1 #[] 0 HB1.out.size (by unfold maxLen; omega) (by simp), by simp⟩
  · have HE : Hid (xs = atT ls d T topL) := (show xs = atT ls d T topL by rw [← HZ.out, hp]; rfl)
    have hls := progB_labs hp
    go_wp2_with fail
    refine wp_region_held (S := fun wz => Below w1.heap.size w1 wz) (by kernel_rfl) ?_
    change wpAnyH _ _ _ _ _ _ _ _ (World.drew _)
    have hHeld : Below w1.heap.size w1 w1.drew := (Below.refl _ _).drew
    obtain ⟨x0, hx0⟩ : ∃ x, x = w1.drew := ⟨_, rfl⟩
    have zx0 : w1.heap.size ≤ x0.heap.size := by rw [hx0]; exact hHeld.size
    rw [← hx0] at hHeld ⊢
    clear hx0
    refine' wpAnyH_take (i := 0) (v := .agg #[.slice la ls.length lc, .slice sa (ln d T) sc]) rfl (by kernel_rfl) (by kernel_rfl) (by kernel_rfl) (fun _ _ _ h => h) (Or.inl ⟨by rfl, ?hy39⟩) hHeld ?hn39
    case hy39 => (intro wz hSw; have j0 := (hSw.cell (p := ⟨w.heap.size, 0, none⟩) n0).trans p0; have j1 := (hSw.cell (p := ⟨w.heap.size, 1, none⟩) n0).trans p1; go_simp)
    try simp only [nrm, Act.put]
    refine' wpAnyH_take (i := 1) (v := _) rfl (by kernel_rfl) (by kernel_rfl) (by kernel_rfl) (fun _ _ _ h => h) (Or.inl ⟨by rfl, ?hy40⟩) hHeld ?hn40
    case hy40 => (intro wz hSw; go_simp; first | done | with_reducible rfl)
    try simp only [nrm, Act.put]
    refine' wpAnyH_take (i := 2) (v := .slice sa (ln d T) sc) rfl (by kernel_rfl) (by kernel_rfl) (by kernel_rfl) (fun _ _ _ h => h) (Or.inl ⟨by rfl, ?hy41⟩) hHeld ?hn41
    case hy41 => (intro wz hSw; have j1 := (hSw.cell (p := ⟨w.heap.size, 1, none⟩) n0).trans p1; go_simp)
    try simp only [nrm, Act.put]
    refine wpAnyH_ready (rs := [3, 4]) (by kernel_rfl) (by simp) ?_
    refine AllReadyH.cons rfl (fun K hK => ?_) (AllReadyH.cons rfl (fun K hK => ?_) AllReadyH.nil)
    · go_simp
      refine (l11Any_any _).mono ?_
      rintro e' x1 ⟨rfl, Bx1⟩
      have zx1 : x0.heap.size ≤ x1.heap.size := Bx1.size
      refine hK.out _ _ (hHeld.trans (Bx1.mono hHeld.size)) (fun hHeld => ?_)
      clear hK K
      refine wpAnyH_ready (rs := [4]) (by kernel_rfl) (by simp) ?_
      refine AllReadyH.cons rfl (fun K hK => ?_) AllReadyH.nil
      go_simp
      obtain ⟨x2, hx2⟩ : ∃ x2, x2 = x1.alloc (.cells #[] 59) := ⟨_, rfl⟩
      rw [← hx2]
      have Bx2 : Below x1.heap.size x1 x2 := by rw [hx2]; exact (Below.refl _ _).alloc (Nat.le_refl _) _
      have zx2 : x1.heap.size ≤ x2.heap.size := Bx2.size
      have Lx2 : x2.ownsRow w1.heap.size 59 2 (.slice (some ⟨x1.heap.size, 0, none⟩) 0 0) 0 [] := by rw [hx2]; exact World.ownsRow_made x1 #[] 0 (by omega) (by unfold maxLen; omega) (by simp)
      clear hx2
      refine hK.out _ _ (hHeld.trans (Bx2.mono hHeld.size)) (fun hHeld => ?_)
      clear hK K
      refine wpAnyH_ready (rs := [5]) (by kernel_rfl) (by simp) ?_
      refine AllReadyH.cons rfl (fun K hK => ?_) AllReadyH.nil
      go_simp
      refine (l11At_any w1 w1.heap.size (Nat.le_refl _) hls HLR.out.1 sa (ln d T) sc d T 3 topL _ _ [] _ HLR.out.2 hHeld hHeld.size (progB_st hp) topL_ok (by simp; have := progB_cnt hp; omega) Lx2 (by simp)).mono ?_
      rintro e' xe ⟨v', rfl, owe, gxe, nxe, nne⟩
      have Be : Below w1.heap.size w1 xe := hHeld.trans (gxe.below (fun k e => (World.ownsRow.lt Lx2 k e).1) hHeld.size)
      obtain ⟨ge, ce, rfl, hge0, hge1⟩ := rowl_some owe nne
      refine hK.out _ _ (Be) (fun hHeld => ?_)
      clear hK K
      refine' wpAnyH_take (i := 6) (v := _) rfl (by kernel_rfl) (by kernel_rfl) (by kernel_rfl) (fun _ _ _ h => h) (Or.inl ⟨by rfl, ?hy42⟩) hHeld ?hn42
      case hy42 => (intro wz hSw; go_simp; first | done | with_reducible rfl)
      try simp only [nrm, Act.put]
      refine wpAnyH_done (by kernel_rfl) ?_ _
      have HOE : Hid (xe.ownsRow w1.heap.size 59 2 (.slice (some ⟨ge, 0, none⟩) (cnt d T) ce) (cnt d T) (pcells (atT ls d T topL))) := (show xe.ownsRow w1.heap.size 59 2 (.slice (some ⟨ge, 0, none⟩) (cnt d T) ce) (cnt d T) (pcells (atT ls d T topL)) by simpa using owe)
      have HBE : Hid (Below w1.heap.size w1 xe) := Be
      clear owe gxe nxe nne hHeld Be
      go_wp2
      go_ret
      exact ⟨_, rfl, Below.then HB1.out HBE.out HB1.out.size, by rw [HE.out, atT_length]; exact World.ownsRow.mono HOE.out (show w.heap.size ≤ w1.heap.size by omega), by simp⟩
    · go_simp
      obtain ⟨x1, hx1⟩ : ∃ x1, x1 = x0.alloc (.cells #[] 59) := ⟨_, rfl⟩
      rw [← hx1]
      have Bx1 : Below x0.heap.size x0 x1 := by rw [hx1]; exact (Below.refl _ _).alloc (Nat.le_refl _) _
      have zx1 : x0.heap.size ≤ x1.heap.size := Bx1.size
      have Lx1 : x1.ownsRow w1.heap.size 59 2 (.slice (some ⟨x0.heap.size, 0, none⟩) 0 0) 0 [] := by rw [hx1]; exact World.ownsRow_made x0 #[] 0 (by omega) (by unfold maxLen; omega) (by simp)
      clear hx1
      refine hK.out _ _ (hHeld.trans (Bx1.mono hHeld.size)) (fun hHeld => ?_)
      clear hK K
      refine wpAnyH_ready (rs := [3]) (by kernel_rfl) (by simp) ?_
      refine AllReadyH.cons rfl (fun K hK => ?_) AllReadyH.nil
      go_simp
      refine (l11Any_any _).mono ?_
      rintro e' x2 ⟨rfl, Bx2⟩
      have zx2 : x1.heap.size ≤ x2.heap.size := Bx2.size
      have Lx2 : x2.ownsRow w1.heap.size 59 2 (.slice (some ⟨x0.heap.size, 0, none⟩) 0 0) 0 [] := rowp_frame Lx1 (fun k hk => Bx2.block k (World.ownsRow.lt Lx1 k hk).2)
      refine hK.out _ _ (hHeld.trans (Bx2.mono hHeld.size)) (fun hHeld => ?_)
      clear hK K
      refine wpAnyH_ready (rs := [5]) (by kernel_rfl) (by simp) ?_
      refine AllReadyH.cons rfl (fun K hK => ?_) AllReadyH.nil
      go_simp
      refine (l11At_any w1 w1.heap.size (Nat.le_refl _) hls HLR.out.1 sa (ln d T) sc d T 3 topL _ _ [] _ HLR.out.2 hHeld hHeld.size (progB_st hp) topL_ok (by simp; have := progB_cnt hp; omega) Lx2 (by simp)).mono ?_
      rintro e' xe ⟨v', rfl, owe, gxe, nxe, nne⟩
      have Be : Below w1.heap.size w1 xe := hHeld.trans (gxe.below (fun k e => (World.ownsRow.lt Lx2 k e).1) hHeld.size)
      obtain ⟨ge, ce, rfl, hge0, hge1⟩ := rowl_some owe nne
      refine hK.out _ _ (Be) (fun hHeld => ?_)
      clear hK K
      refine' wpAnyH_take (i := 6) (v := _) rfl (by kernel_rfl) (by kernel_rfl) (by kernel_rfl) (fun _ _ _ h => h) (Or.inl ⟨by rfl, ?hy43⟩) hHeld ?hn43
      case hy43 => (intro wz hSw; go_simp; first | done | with_reducible rfl)
      try simp only [nrm, Act.put]
      refine wpAnyH_done (by kernel_rfl) ?_ _
      have HOE : Hid (xe.ownsRow w1.heap.size 59 2 (.slice (some ⟨ge, 0, none⟩) (cnt d T) ce) (cnt d T) (pcells (atT ls d T topL))) := (show xe.ownsRow w1.heap.size 59 2 (.slice (some ⟨ge, 0, none⟩) (cnt d T) ce) (cnt d T) (pcells (atT ls d T topL)) by simpa using owe)
      have HBE : Hid (Below w1.heap.size w1 xe) := Be
      clear owe gxe nxe nne hHeld Be
      go_wp2
      go_ret
      exact ⟨_, rfl, Below.then HB1.out HBE.out HB1.out.size, by rw [HE.out, atT_length]; exact World.ownsRow.mono HOE.out (show w.heap.size ≤ w1.heap.size by omega), by simp⟩
def whyR (ls : List (Int × Int)) (d : Nat) (T : Tr d) : Int × Bool := if progB ls d T then (match badI ls (prs ls d T topL) with | some i => ((i : Int), true) | none => (0, false)) else (0, false)
theorem badI_none {ls : List (Int × Int)} {P : List (Pay × (Int × Int))} (h : ∀ j (hj : j < P.length), fineB ls P[j].1 P[j].2 = true) : badI ls P = none := by
  unfold badI
  rw [List.findIdx?_eq_none_iff]
  intro x hx
  obtain ⟨j, hj, rfl⟩ := List.getElem_of_mem hx
  simp [h j hj]
theorem badI_some {ls : List (Int × Int)} {P : List (Pay × (Int × Int))} {i : Nat} (hi : i < P.length) (h : ∀ j (hj : j < P.length), j < i → fineB ls P[j].1 P[j].2 = true) (hf : fineB ls P[i].1 P[i].2 = false) : badI ls P = some i := by
  unfold badI
  rw [List.findIdx?_eq_some_iff_getElem]
  refine ⟨hi, by simp [hf], fun j hj => ?_⟩
  simp [h j (by omega) hj]

set_option maxHeartbeats 4000000 in
set_option maxRecDepth 20000 in
theorem sTypeWhy_any {d : Nat} {T : Tr d} {lv sv : Value} {ls : List (Int × Int)} {w : World} (hL : LRep w lv ls) (hR : Rep w d sv T) (hc : cnt d T ≤ 1048576) :
    Calls Tryz.prog 56 #[.agg #[lv, sv]] w fun e w' => e = .returned (.tuple #[.int .i64 (whyR ls d T).1, .bool (whyR ls d T).2]) ∧ Below w.heap.size w w' := by
  have A : Below w.heap.size w (w.alloc (.cells #[lv, sv] 26)) := (Below.refl _ _).alloc (Nat.le_refl _) _
  have L1 := hL.below A
  have R1 := hR.below A
  have C1 : Hid _ := sProgOk_any L1 R1 hc
  have HLR1 : Hid (LRep _ lv ls ∧ Rep _ d sv T) := ⟨L1, R1⟩
  obtain ⟨la, lc, rfl, -⟩ := hL
  obtain ⟨sa, sc, rfl⟩ := hR.slice
  obtain ⟨rz, hz⟩ : ∃ rz, whyR ls d T = rz := ⟨_, rfl⟩
  rw [hz]
  have HZ : Hid (whyR ls d T = rz) := hz
  clear hz L1 R1 A hR
  go_enter Tryz.func56, Tryz.ntmps56
  go_wp2_with fail
  go_at_call 13; refine Calls.mono C1.out ?_; rintro e w1 ⟨rfl, hb1⟩
  have p0 : w1.cell? ⟨w.heap.size, 0, none⟩ = some (.slice la ls.length lc) := cell_later hb1 (by simp)
  have p1 : w1.cell? ⟨w.heap.size, 1, none⟩ = some (.slice sa (ln d T) sc) := cell_later hb1 (by simp)
  have HB1 : Hid (Below w.heap.size w w1) := Below.then ((Below.refl _ _).alloc (Nat.le_refl _) _) hb1 (by simp)
  have n0 : w.heap.size < w1.heap.size := by have := hb1.size; simp at this; omega
  have HLR : Hid (LRep w1 (.slice la ls.length lc) ls ∧ Rep w1 d (.slice sa (ln d T) sc) T) := ⟨HLR1.out.1.below hb1, HLR1.out.2.below hb1⟩
  clear hb1 C1 HLR1
  cases hp : progB ls d T
  · have HE : Hid (rz = (0, false)) := (show rz = (0, false) by rw [← HZ.out]; simp [whyR, hp])
    go_wp2
    exact bodyPost_ret (v := .tuple #[.int .i64 0, .bool false]) (by simp [results, Tryz.results56, go_sem]) rfl ⟨by rw [HE.out], HB1.out⟩
  · have hls := progB_labs hp
    have hst := progB_st hp
    have hc8 := progB_cnt hp
    have C2' : Hid _ := l2All_any w1 d T _ w1 HLR.out.2 (Below.refl _ _) (by omega)
    go_wp2_with fail
    go_at_call 74; refine Calls.mono C2'.out ?_; rintro e w2 ⟨v2, xs, rfl, hb2, own2, fl2, nn2⟩
    obtain ⟨g2, c2, rfl, hg20, hg21⟩ := row_some own2 nn2
    replace p0 := cell_later hb2 p0
    replace p1 := cell_later hb2 p1
    have HB2 : Hid (Below w.heap.size w w2) := Below.then HB1.out hb2 HB1.out.size
    have HBl : Hid (Below w1.heap.size w1 w2) := hb2
    have z2 : w1.heap.size ≤ w2.heap.size := hb2.size
    have HO2 : Hid (w2.ownsRow w1.heap.size 66 8 (.slice (some ⟨g2, 0, none⟩) (cnt d T) c2) (cnt d T) xs) := own2
    have HF2 : Hid _ := fl2
    have C3' : Hid _ := sTypeAt_any (HLR.out.1.below hb2) (HLR.out.2.below hb2) hc
    clear hb2 own2 fl2 nn2 C2'
    rw [hp] at C3'
    go_wp2_with fail
    go_at_call 75; refine Calls.mono C3'.out ?_; rintro e w3 ⟨v3, rfl, hb3, own3, nn3⟩
    simp only [if_true] at own3
    obtain ⟨P, hP⟩ : ∃ P, prs ls d T topL = P := ⟨_, rfl⟩
    have lP : P.length = cnt d T := by rw [← hP]; exact prs_length ls d T topL
    have eA : atT ls d T topL = P.map (·.2) := by rw [← hP]; rfl
    have eF : P.map (·.1) = (flat d T).map (·.2.1) := by rw [← hP]; exact prs_fst ls d T topL
    have okP : ∀ x ∈ P, okL x.2 := by rw [← hP]; exact prs_ok hls d T topL topL_ok
    rw [eA, List.length_map, lP] at own3
    obtain ⟨g3, c3, rfl, hg30, hg31⟩ := rowl_some own3 nn3
    have HE : Hid (rz = (match badI ls P with | some i => ((i : Int), true) | none => (0, false))) := (show rz = _ by rw [← HZ.out]; simp [whyR, hp, hP])
    replace p0 := cell_later hb3 p0
    replace p1 := cell_later hb3 p1
    have HB3 : Hid (Below w.heap.size w w3) := Below.then HB2.out hb3 HB2.out.size
    have z3 : w2.heap.size ≤ w3.heap.size := hb3.size
    have HO3 : Hid (w3.ownsRow w2.heap.size 59 2 (.slice (some ⟨g3, 0, none⟩) (cnt d T) c3) (cnt d T) (pcells (P.map (·.2)))) := own3
    have HO2' : Hid (w3.ownsRow w1.heap.size 66 8 (.slice (some ⟨g2, 0, none⟩) (cnt d T) c2) (cnt d T) xs) := rowp_frame HO2.out (fun k hk => hb3.block k (World.ownsRow.lt HO2.out k hk).2)
    have HLw3 : Hid (LRep w3 (.slice la ls.length lc) ls) := (HLR.out.1.below HBl.out).below hb3
    have HSG : Hid (∀ i (hi : i < P.length), ∃ (pp : Pay) (z : Bool) (ah : Int × Int) (ta : Option Addr) (tn tc : Nat) (ea : Option Addr) (en ec : Nat), P[i] = (pp, ah) ∧ okL ah ∧ payB ls.length pp z = true ∧ StepAt w3 g2 (i * 8) pp (.slice ta tn tc) (.slice ea en ec) ∧ w3.cell? ⟨g3, i * 2, none⟩ = some (.int .i64 ah.1) ∧ w3.cell? ⟨g3, i * 2 + 1, none⟩ = some (.int .i64 ah.2)) := (show ∀ i (hi : i < P.length), _ by
      intro i hi
      have hf : i < (flat d T).length := by rw [flat_length]; omega
      obtain ⟨t, e, hcs, r1, r2⟩ := FlatR.get HF2.out (List.getElem?_eq_getElem hf)
      obtain ⟨ta, tc, rfl⟩ := r1.slice
      obtain ⟨ea, ec, rfl⟩ := r2.slice
      have hq : P[i].1 = (flat d T)[i].2.1 := by
        have : (P.map (·.1))[i]'(by simpa using hi) = ((flat d T).map (·.2.1))[i]'(by simpa using hf) := by simp only [eF]
        simpa using this
      have hpp := (st_flat d T ls.length 3 hst (flat d T)[i] (List.getElem_mem hf)).1
      obtain ⟨q0, q1⟩ := pcells_get (P.map (·.2)) i (by simpa using hi)
      have c0 := HO3.out.cells rfl (i * 2) _ q0
      have c1 := HO3.out.cells rfl (i * 2 + 1) _ q1
      rw [Addr.add_mid, Nat.zero_add] at c0 c1
      refine ⟨P[i].1, _, P[i].2, ta, _, tc, ea, _, ec, rfl, okP _ (List.getElem_mem hi), by rw [hq]; exact hpp, by rw [hq]; exact row_cells HO2'.out hcs, by simpa using c0, by simpa using c1⟩)
    clear hb3 own3 nn3 C3' HO2 HF2 HO3 HO2' HLR HBl HB1 HB2 HZ okP eF eA hP hst
    obtain ⟨N, hN⟩ : ∃ N, cnt d T = N := ⟨_, rfl⟩
    rw [hN] at lP hc8 hc ⊢
    clear hN
    have hNm : (N : Int) ≤ 9223372036854775807 := by omega
    go_wp2
    go_loopw [6] (fun j wr => ∃ i : Nat, i ≤ N ∧ j = .int .i64 i ∧ Below w3.heap.size w3 wr ∧ ∀ j (hj : j < P.length), j < i → fineB ls P[j].1 P[j].2 = true) (fun j _ => N - (intOf j).toNat)
    case atStart => exact ⟨0, by omega, rfl, Below.refl _ _, fun j _ h => by omega⟩
    case round =>
      obtain ⟨i, hi, rfl, hbr, hfi⟩ := hrel
      have HFI : Hid _ := hfi
      have HBR : Hid (Below w3.heap.size w3 wr) := hbr
      have zr : w3.heap.size ≤ wr.heap.size := hbr.size
      clear hfi
      by_cases hlt : i < N
      · obtain ⟨pp, zb, ah, ta, tn, tc, ea, en, ec, hPi, hah, hpay, hSt, c0, c1⟩ := HSG.out i (by omega)
        obtain ⟨k0, k1, k2, k3, k4, k5, k6, k7⟩ := hSt.on (w' := wr) (fun a v h => cell_later hbr h)
        replace c0 := cell_later hbr c0
        replace c1 := cell_later hbr c1
        replace p0 := cell_later hbr p0
        replace p1 := cell_later hbr p1
        have HLw : Hid (LRep wr (.slice la ls.length lc) ls) := HLw3.out.below hbr
        have HPI : Hid (fineB ls P[i].1 P[i].2 = fineB ls pp ah) := (show fineB ls P[i].1 P[i].2 = fineB ls pp ah by rw [hPi])
        have ng2 : g2 < wr.heap.size := by omega
        have ng3 : g3 < wr.heap.size := by omega
        replace n0 : w.heap.size < wr.heap.size := by omega
        have i0' : (0 : Int) ≤ (i : Int) := by omega
        have i1' : (i : Int) < (N : Int) := by omega
        clear hbr hPi hSt
        go_wp2_with fail
        refine wp_region_held (S := (fun wz => Below wr.heap.size wr wz)) (by kernel_rfl) ?_
        change wpAnyH _ _ _ _ _ _ _ _ (World.drew _)
        have hHeld := (show Below wr.heap.size wr (World.drew wr) from (Below.refl _ _).drew)
        refine' wpAnyH_take (i := 0) (v := .agg #[.slice la ls.length lc, .slice sa (ln d T) sc]) rfl (by kernel_rfl) (by kernel_rfl) (by kernel_rfl) (fun _ _ _ h => h) (Or.inl ⟨by rfl, ?hy9024⟩) hHeld ?hn9024
        case hy9024 => (intro wz hSw; have j0 := (hSw.cell (p := ⟨w.heap.size, 0, none⟩) n0).trans p0; have j1 := (hSw.cell (p := ⟨w.heap.size, 1, none⟩) n0).trans p1; go_simp)
        try simp only [nrm, Act.put]
        refine' wpAnyH_take (i := 1) (v := _) rfl (by kernel_rfl) (by kernel_rfl) (by kernel_rfl) (fun _ _ _ h => h) (Or.inl ⟨by rfl, ?hy9025⟩) hHeld ?hn9025
        case hy9025 => (intro wz hSw; (try dsimp only at hSw); go_simp; first | done | with_reducible rfl)
        try simp only [nrm, Act.put]
        refine' wpAnyH_take (i := 2) (v := _) rfl (by kernel_rfl) (by kernel_rfl) (by kernel_rfl) (fun _ _ _ h => h) (Or.inl ⟨by rfl, ?hy9026⟩) hHeld ?hn9026
        case hy9026 => (intro wz hSw; (try dsimp only at hSw); go_simp; first | done | with_reducible rfl)
        try simp only [nrm, Act.put]
        refine' wpAnyH_take (i := 3) (v := _) rfl (by kernel_rfl) (by kernel_rfl) (by kernel_rfl) (fun _ _ _ h => h) (Or.inl ⟨by rfl, ?hy9027⟩) hHeld ?hn9027
        case hy9027 => (intro wz hSw; (try dsimp only at hSw); go_simp; first | done | with_reducible rfl)
        try simp only [nrm, Act.put]
        refine' wpAnyH_take (i := 4) (v := .agg #[.int .i64 pp.k, .int .i64 pp.v, .int .i64 pp.vk, .int .i64 pp.va, .int .i64 pp.vb, .int .i64 pp.h, .slice ta tn tc, .slice ea en ec]) rfl (by kernel_rfl) (by kernel_rfl) (by kernel_rfl) (fun _ _ _ h => h) (Or.inl ⟨by rfl, ?hy9028⟩) hHeld ?hn9028
        case hy9028 => (intro wz hSw; have j0 := (hSw.cell (p := ⟨g2, i * 8, none⟩) ng2).trans k0; have j1 := (hSw.cell (p := ⟨g2, i * 8 + 1, none⟩) ng2).trans k1; have j2 := (hSw.cell (p := ⟨g2, i * 8 + 2, none⟩) ng2).trans k2; have j3 := (hSw.cell (p := ⟨g2, i * 8 + 3, none⟩) ng2).trans k3; have j4 := (hSw.cell (p := ⟨g2, i * 8 + 4, none⟩) ng2).trans k4; have j5 := (hSw.cell (p := ⟨g2, i * 8 + 5, none⟩) ng2).trans k5; have j6 := (hSw.cell (p := ⟨g2, i * 8 + 6, none⟩) ng2).trans k6; have j7 := (hSw.cell (p := ⟨g2, i * 8 + 7, none⟩) ng2).trans k7; go_simp)
        try simp only [nrm, Act.put]
        refine' wpAnyH_take (i := 5) (v := _) rfl (by kernel_rfl) (by kernel_rfl) (by kernel_rfl) (fun _ _ _ h => h) (Or.inl ⟨by rfl, ?hy9029⟩) hHeld ?hn9029
        case hy9029 => (intro wz hSw; (try dsimp only at hSw); go_simp; first | done | with_reducible rfl)
        try simp only [nrm, Act.put]
        refine' wpAnyH_take (i := 6) (v := _) rfl (by kernel_rfl) (by kernel_rfl) (by kernel_rfl) (fun _ _ _ h => h) (Or.inl ⟨by rfl, ?hy9030⟩) hHeld ?hn9030
        case hy9030 => (intro wz hSw; (try dsimp only at hSw); go_simp; first | done | with_reducible rfl)
        try simp only [nrm, Act.put]
        refine' wpAnyH_take (i := 7) (v := _) rfl (by kernel_rfl) (by kernel_rfl) (by kernel_rfl) (fun _ _ _ h => h) (Or.inl ⟨by rfl, ?hy9031⟩) hHeld ?hn9031
        case hy9031 => (intro wz hSw; (try dsimp only at hSw); go_simp; first | done | with_reducible rfl)
        try simp only [nrm, Act.put]
        refine' wpAnyH_take (i := 8) (v := .agg #[.int .i64 ah.1, .int .i64 ah.2]) rfl (by kernel_rfl) (by kernel_rfl) (by kernel_rfl) (fun _ _ _ h => h) (Or.inl ⟨by rfl, ?hy9032⟩) hHeld ?hn9032
        case hy9032 => (intro wz hSw; have j0 := (hSw.cell (p := ⟨g3, i * 2, none⟩) ng3).trans c0; have j1 := (hSw.cell (p := ⟨g3, i * 2 + 1, none⟩) ng3).trans c1; go_simp)
        try simp only [nrm, Act.put]
        refine wpAnyH_ready (rs := [9]) (by kernel_rfl) (by simp) ?_
        refine AllReadyH.cons rfl (fun K hK => ?_) AllReadyH.nil
        go_simp
        refine (l11Fine_any hls pp _ ah hah sa ta ea (ln d T) sc tn tc en ec (LRep.below hHeld HLw.out) hpay).mono ?_; rintro e' w9 ⟨rfl, hbx⟩
        refine hK.out _ _ (Below.then hHeld hbx hHeld.size) (fun hHeld => ?_)
        clear hK K
        refine' wpAnyH_take (i := 10) (v := _) rfl (by kernel_rfl) (by kernel_rfl) (by kernel_rfl) (fun _ _ _ h => h) (Or.inl ⟨by rfl, ?hy9033⟩) hHeld ?hn9033
        case hy9033 => (intro wz hSw; (try dsimp only at hSw); go_simp; first | done | with_reducible rfl)
        try simp only [nrm, Act.put]
        refine wpAnyH_done (by kernel_rfl) ?_ _
        have HB9 : Hid (Below w3.heap.size w3 w9) := Below.then HBR.out hHeld HBR.out.size
        clear hHeld HBR p0 p1 c0 c1 k0 k1 k2 k3 k4 k5 k6 k7
        generalize hres : fineB ls pp ah = res at *
        have HRS : Hid _ := hres
        clear hres
        cases res
        · have HEE : Hid (rz = ((i : Int), true)) := (show rz = ((i : Int), true) by rw [HE.out, badI_some (by omega) HFI.out HPI.out])
          go_wp2
          exact bodyPost_ret (v := .tuple #[.int .i64 (i : Int), .bool true]) (by simp [results, Tryz.results56, go_sem]) rfl ⟨by rw [HEE.out], Below.then HB3.out HB9.out HB3.out.size⟩
        · go_wp2
          refine ⟨⟨i + 1, by omega, by simp, HB9.out, fun j hj hji => ?_⟩, by simp [intOf]; omega⟩
          by_cases hje : j = i
          · subst hje; exact HPI.out
          · exact HFI.out j hj (by omega)
      · have : i = N := by omega
        subst this
        have HEE : Hid (rz = (0, false)) := (show rz = (0, false) by rw [HE.out, badI_none (fun j hj => HFI.out j hj (by omega))])
        clear hbr
        go_wp2
        exact bodyPost_ret (v := .tuple #[.int .i64 0, .bool false]) (by simp [results, Tryz.results56, go_sem]) rfl ⟨by rw [HEE.out], Below.then HB3.out HBR.out HB3.out.size⟩

end Go.Proofs.YthcgdhlemieboaaGreat

/- Steps done by the model. -/
import Derived.Test.YthcgdhlemieboaaGreatTkDox
import Derived.Test.YthcgdhlemieboaaGreatTkCpy
namespace Go.Proofs.YthcgdhlemieboaaGreat
open Go.RowKit
set_option linter.unusedSimpArgs false
set_option linter.unusedVariables false
attribute [local go_sem] World.cell?_alloc_some

theorem wp_append_at' {P : Program} (w : World) {o : Oper} {a : Act} {K : Act → World → Prop} {Q : Exit → Act → World → Prop} (s x : Operand) (t : TypeId)
    (ho : o.op = .call { callee := .builtin .append, args := #[s, x], argTypes := #[t, t] })
    (base : Nat) (e : TypeId) (i : TypeInfo) (z : Value) (size bytes : Nat) (ht : P.underlying t = some (.slice e)) (hi : P.info? e = some i) (hz : i.zero = some z)
    (hsize : i.size = size) (hby : i.bytes = bytes) (hzs : z.cells.size = size) (hsz : 0 < size)
    (v : Value) (n : Nat) (xs : List Value) (hs : a.eval s = v) (hown : w.ownsRow base e size v n xs)
    (ad : Addr) (m c : Nat) (news : List Value) (hx : a.eval x = .slice (some ad) m c) (hl : news.length = m * size) (hnews : ∀ j u, news[j]? = some u → w.cell? (ad.add j) = some u) (h1 : ∀ u ∈ news, u.oneCell' = true)
    (h63 : n + m ≤ maxLen) (hbytes : (n + m) * bytes ≤ 140737488355328) (hbase : base ≤ w.heap.size)
    (h : ∀ v' w', w'.ownsRow base e size v' (n + m) (xs ++ news) → w.grownBy w' v.ownBlock → (v' = .slice none 0 0 ↔ v = .slice none 0 0 ∧ m = 0) → (v'.ownBlock = v.ownBlock ∨ v'.ownBlock = some w.heap.size) → K (a.put o.dst v') w') : o.wp P a w K Q := by
  obtain ⟨v', w', hr, h2, h3, h4, h5⟩ := run_append_own_at (P := P) w base t o.type e i z size bytes ht hi hz hsize hby hzs hsz v n xs hown ad m c news hl hnews h1 h63 hbytes hbase
  unfold Oper.wp execOp
  simp only [ho, resolve, invoke, builtin, Sem.run_bind, Sem.run_pure, Result.andThen_ok, List.map_toArray, List.map_cons, List.map_nil, hs, hx, hr]
  exact h v' w' h2 h3 h4 h5

theorem R3.set' {B : Nat} {w : World} {g n nc : Nat} {wv sv : Value} {s : RSt} (h : R3 B w (.slice (some ⟨g, 0, none⟩) n nc) wv sv s) (m : Nat) (x : Int) : R3 B (w.setCell ⟨g, m, none⟩ (.int .i64 x)) (.slice (some ⟨g, 0, none⟩) n nc) wv sv ⟨s.n.set m x, s.ws, s.ss⟩ := by
  obtain ⟨a, c, e⟩ := rowg_slice h.n
  obtain ⟨-, rfl, -⟩ : _ ∧ n = s.n.length ∧ _ := by simpa using e
  have := h.set m x
  simpa using this

set_option maxHeartbeats 8000000 in
set_option maxRecDepth 20000 in
theorem l3Do_any (W : World) (B : Nat) (hWB : W.heap.size ≤ B) : ∀ (d : Nat) (T : Tr d) (deep : Int) (tv nv wv sv : Value) (s : RSt) (w : World), Rep W d tv T → Below W.heap.size W w → B ≤ w.heap.size → stB s.n.length d deep T = true → tenB s.n = true → s.ws.length + cnt d T ≤ 1048576 → s.ss.length + cnt d T ≤ 1048576 → R3 B w nv wv sv s →
    Calls Tryz.prog 62 #[tv, .agg #[nv, wv, sv]] w fun e w' => ∃ wv' sv', e = .returned (.agg #[nv, wv', sv']) ∧ R3 B w' nv wv' sv' (doT d T s) ∧ Kx nv wv sv w w' ∧ Nx w.heap.size wv wv' ∧ Nx w.heap.size sv sv' := by
  intro d
  obtain ⟨i0, hi0, hz0, hz1, hz2⟩ := info_parts infoWrite
  obtain ⟨i1, hj0, hy0, hy1, hy2⟩ := info_parts infoSaid
  induction d with
  | zero =>
    intro T deep tv nv wv sv s w h hb hB hst ht hc1 hc2 hR
    obtain ⟨a, c, rfl⟩ := h
    obtain ⟨na, nc, rfl⟩ := rowg_slice hR.n
    obtain ⟨wa, wc, rfl⟩ := rowg_slice hR.ws
    obtain ⟨sa, sc, rfl⟩ := rowg_slice hR.ss
    have HR : Hid _ := hR
    clear hR
    go_enter Tryz.func62, Tryz.ntmps62
    go_wp2
    refine wp_loop_rounds 1 ?_
    rw [rounds_succ]
    go_wp2
    refine bodyPost_ret (v := .agg #[.slice na s.n.length nc, .slice wa s.ws.length wc, .slice sa s.ss.length sc]) (by simp [results, Tryz.results62, go_sem]) rfl ⟨_, _, rfl, ?_, ?_, Nx.refl _ _, Nx.refl _ _⟩
    · refine R3.below HR.out ?_
      repeat' (first | exact Below.refl _ _ | assumption | (refine Below.drew ?_) | (refine Below.then ?_ (by assumption) ?_) | (refine Below.alloc ?_ ?_ _) | (refine Below.setCell ?_ ?_ _) | (simp; done) | (simp at *; omega) | omega)
    · refine Kx.of ?_
      repeat' (first | exact Below.refl _ _ | assumption | (refine Below.drew ?_) | (refine Below.then ?_ (by assumption) ?_) | (refine Below.alloc ?_ ?_ _) | (refine Below.setCell ?_ ?_ _) | (simp; done) | (simp at *; omega) | omega)
  | succ d ih =>
    intro (l : List (Pay × Tr d × Tr d)) deep tv nv wv sv s w h hb hB hst ht hc1 hc2 hR
    obtain ⟨a, c, rfl, hlc, hcm, hcell⟩ := h
    have hlm : (l.length : Int) ≤ 9223372036854775807 := by unfold maxLen at hcm; omega
    obtain ⟨na, nc, hnv⟩ := rowg_slice hR.n
    obtain ⟨wa, wc, hwv⟩ := rowg_slice hR.ws
    obtain ⟨sa, sc, hsv⟩ := rowg_slice hR.ss
    have HC : Hid (∀ i (hi : i < l.length), ∃ (p : Pay) (T1 T2 : Tr d) (b off : Nat) (ta : Option Addr) (tc : Nat) (ea : Option Addr) (ec : Nat), l[i] = (p, T1, T2) ∧ a = some ⟨b, off, none⟩ ∧ StepAt W b (off + i * 8) p (.slice ta (ln d T1) tc) (.slice ea (ln d T2) ec) ∧ Rep W d (.slice ta (ln d T1) tc) T1 ∧ Rep W d (.slice ea (ln d T2) ec) T2) := (show ∀ i (hi : i < l.length), _ by
      intro i hi
      obtain ⟨b, off, t, e, ha, hS, r1, r2⟩ := hcell i hi
      obtain ⟨ta, tc, rfl⟩ := r1.slice
      obtain ⟨ea, ec, rfl⟩ := r2.slice
      exact ⟨_, _, _, b, off, ta, tc, ea, ec, rfl, ha, hS, r1, r2⟩)
    have HL : Hid (∀ i (hi : i < l.length), payB s.n.length l[i].1 (decide (ln d l[i].2.1 + ln d l[i].2.2 = 0)) = true ∧ stB s.n.length d (deep - 1) l[i].2.1 = true ∧ stB s.n.length d (deep - 1) l[i].2.2 = true ∧ stB s.n.length (d + 1) deep (l.take i : List (Pay × Tr d × Tr d)) = true) := (show ∀ i (hi : i < l.length), _ by
      intro i hi
      have hs' : (l.all fun x => decide (1 ≤ deep) && payB s.n.length x.1 (decide (ln d x.2.1 + ln d x.2.2 = 0)) && (stB s.n.length d (deep - 1) x.2.1 && stB s.n.length d (deep - 1) x.2.2)) = true := hst
      have hx := List.all_eq_true.1 hs' l[i] (List.getElem_mem hi)
      simp only [Bool.and_eq_true_iff] at hx
      refine ⟨hx.1.2, hx.2.1, hx.2.2, ?_⟩
      show List.all (l.take i) _ = true
      exact List.all_eq_true.2 fun y hy => List.all_eq_true.1 hs' y (List.mem_of_mem_take hy))
    have IH : Hid _ := ih
    have HB : Hid (Below W.heap.size W w) := hb
    have hWs : W.heap.size ≤ w.heap.size := hb.size
    have HOK : Hid (∀ i, i ≤ l.length → stB s.n.length (d + 1) deep (l.take i : List (Pay × Tr d × Tr d)) = true → (doT (d + 1) (l.take i : List (Pay × Tr d × Tr d)) s).n.length = s.n.length ∧ tenB (doT (d + 1) (l.take i : List (Pay × Tr d × Tr d)) s).n = true ∧ (doT (d + 1) (l.take i : List (Pay × Tr d × Tr d)) s).ws.length ≤ s.ws.length + cnt (d + 1) (l.take i : List (Pay × Tr d × Tr d)) ∧ (doT (d + 1) (l.take i : List (Pay × Tr d × Tr d)) s).ss.length ≤ s.ss.length + cnt (d + 1) (l.take i : List (Pay × Tr d × Tr d))) := (show ∀ i, i ≤ l.length → _ from fun i _ h => doT_ok (d + 1) _ s.n.length deep s h rfl ht)
    have HR : Hid (R3 B w nv wv sv s) := hR
    have hnL := World.ownsRow.lt hR.n
    have hwL := World.ownsRow.lt hR.ws
    have hsL := World.ownsRow.lt hR.ss
    have HLT : Hid ((∀ b, nv.ownBlock = some b → B ≤ b ∧ b < w.heap.size) ∧ (∀ b, wv.ownBlock = some b → B ≤ b ∧ b < w.heap.size) ∧ (∀ b, sv.ownBlock = some b → B ≤ b ∧ b < w.heap.size)) := ⟨hnL, hwL, hsL⟩
    have A : Below w.heap.size w ((w.alloc (.cells #[nv, wv, sv] 51)).alloc (.cells #[.slice none 0 0, .slice none 0 0, .slice none 0 0] 51)) := ((Below.refl _ _).alloc (Nat.le_refl _) _).alloc (by simp) _
    have G1 : C3 ((w.alloc (.cells #[nv, wv, sv] 51)).alloc (.cells #[.slice none 0 0, .slice none 0 0, .slice none 0 0] 51)) w.heap.size nv wv sv := (C3.new w nv wv sv 51).below ((Below.refl _ _).alloc (Nat.le_refl _) _)
    have G2 : C3 ((w.alloc (.cells #[nv, wv, sv] 51)).alloc (.cells #[.slice none 0 0, .slice none 0 0, .slice none 0 0] 51)) (w.heap.size + 1) (.slice none 0 0) (.slice none 0 0) (.slice none 0 0) := by
      have := C3.new (w.alloc (.cells #[nv, wv, sv] 51)) (.slice none 0 0) (.slice none 0 0) (.slice none 0 0) 51
      simpa using this
    have H0 : Hid (R3 B _ nv wv sv s ∧ C3 _ w.heap.size nv wv sv ∧ C3 _ (w.heap.size + 1) (.slice none 0 0) (.slice none 0 0) (.slice none 0 0) ∧ Kx nv wv sv w _) := ⟨R3.below hR A, G1, G2, Kx.of A⟩
    have hz0' : ((w.alloc (.cells #[nv, wv, sv] 51)).alloc (.cells #[.slice none 0 0, .slice none 0 0, .slice none 0 0] 51)).heap.size = w.heap.size + 2 := by simp
    have HZ0 : Hid _ := hz0'
    clear ih hcell hb hst hR hnL hwL hsL A G1 G2 hz0'
    subst hnv hwv hsv
    go_enter Tryz.func62, Tryz.ntmps62
    go_wp2
    go_loopw [5] (fun j wr => ∃ (i : Nat) (wv' sv' : Value), i ≤ l.length ∧ j = .int .i64 i ∧ R3 B wr (.slice na s.n.length nc) wv' sv' (doT (d + 1) (l.take i : List (Pay × Tr d × Tr d)) s) ∧ C3 wr w.heap.size (.slice na s.n.length nc) wv' sv' ∧ C3 wr (w.heap.size + 1) (.slice none 0 0) (.slice none 0 0) (.slice none 0 0) ∧ Kx (.slice na s.n.length nc) (.slice wa s.ws.length wc) (.slice sa s.ss.length sc) w wr ∧ Nx (w.heap.size + 2) (.slice wa s.ws.length wc) wv' ∧ Nx (w.heap.size + 2) (.slice sa s.ss.length sc) sv' ∧ w.heap.size + 2 ≤ wr.heap.size) (fun j _ => l.length - (intOf j).toNat)
    case atStart => exact ⟨0, _, _, by omega, rfl, H0.out.1, H0.out.2.1, H0.out.2.2.1, H0.out.2.2.2, Nx.refl _ _, Nx.refl _ _, by rw [HZ0.out]; omega⟩
    case round =>
      obtain ⟨i, wv', sv', hi, rfl, hR3, hG1, hG2, hKx, hNw, hNs, hsz⟩ := hrel
      obtain ⟨wa', wc', hwv'⟩ := rowg_slice hR3.ws
      obtain ⟨sa', sc', hsv'⟩ := rowg_slice hR3.ss
      subst hwv' hsv'
      have NE : Hid (((Value.slice na s.n.length nc).ownBlock ≠ some w.heap.size ∧ (Value.slice na s.n.length nc).ownBlock ≠ some (w.heap.size + 1)) ∧ Value.ownBlock (.slice wa' _ wc') ≠ some w.heap.size ∧ Value.ownBlock (.slice sa' _ sc') ≠ some w.heap.size ∧ Value.ownBlock (.slice sa' _ sc') ≠ some (w.heap.size + 1) ∧ Value.ownBlock (.slice wa' _ wc') ≠ some (w.heap.size + 1)) :=
        ⟨⟨fun e => by have := HLT.out.1 _ e; omega, fun e => by have := HLT.out.1 _ e; omega⟩, hNw.ne (fun e => by have := HLT.out.2.1 _ e; omega) (by omega), hNs.ne (fun e => by have := HLT.out.2.2 _ e; omega) (by omega), hNs.ne (fun e => by have := HLT.out.2.2 _ e; omega) (by omega), hNw.ne (fun e => by have := HLT.out.2.1 _ e; omega) (by omega)⟩
      by_cases hlt : i < l.length
      · obtain ⟨p, T1, T2, b, off, ta, tc, ea, ec, hx, rfl, hS, r1, r2⟩ := HC.out i hlt
        obtain ⟨hp, hs1, hs2, hst⟩ := HL.out i hlt
        obtain ⟨o1, o2, o3, o4⟩ := HOK.out i hi hst
        have q1 := cnt_take l i hlt
        have q2 := cnt_take_le l (i + 1)
        have q3 := doT_take l i hlt s
        rw [hx] at hp hs1 hs2 q1 q3
        dsimp only at hp hs1 hs2 q1
        obtain ⟨si, hsi⟩ : ∃ x, doT (d + 1) (l.take i : List (Pay × Tr d × Tr d)) s = x := ⟨_, rfl⟩
        rw [hsi] at hR3 hG1 hNw hNs NE o1 o2 o3 o4 q3
        clear hsi hst
        have BW : Below W.heap.size W wr := HB.out.trans ((hKx.below (fun b e => (HLT.out.1 b e).1) (fun b e => (HLT.out.2.1 b e).1) (fun b e => (HLT.out.2.2 b e).1) hB).mono hWB)
        obtain ⟨pk, pv, pvk, pva, pvb, ph⟩ := p
        obtain ⟨k0, k1, k2, k3, k4, k5, k6, k7⟩ := hS.on (w' := wr) (fun a v h => cell_later BW h)
        dsimp only at hp k0 k1 k2 k3 k4 k5
        have hvn : vIn s.n.length pv = true := by unfold payB at hp; simp only [Bool.and_eq_true_iff] at hp; exact hp.1
        obtain ⟨hv0, hv1⟩ : 0 ≤ pv ∧ pv < s.n.length := by simpa [vIn] using hvn
        obtain ⟨m, rfl⟩ := Int.eq_ofNat_of_zero_le hv0
        have hm : m < si.n.length := by omega
        obtain ⟨g, hna, hgB, hh⟩ : ∃ g, na = some ⟨g, 0, none⟩ ∧ B ≤ g ∧ ∃ cur, wr.heap[g]? = some (.cells cur 3 (0, 0)) := by
          obtain ⟨_, ⟨h1, h2⟩ | ⟨g, cap, cur, hv, hg, hh, _⟩⟩ := id hR3.n
          · omega
          · simp at hv
            exact ⟨g, hv.1, hg, cur, hh⟩
        subst hna
        have hfz : wr.frozen? ⟨g, m, none⟩ = false := by obtain ⟨cur, hh⟩ := hh; simp [World.frozen?, hh]
        have hnc : wr.cell? ⟨g, m, none⟩ = some (.int .i64 si.n[m]) := by
          have := hR3.n.cells (g := g) rfl m (.int .i64 si.n[m]) (by simp [hm])
          rwa [Addr.add_mid, Nat.zero_add] at this
        have hgx : si.n.getD m 0 = si.n[m] := by simp [hm]
        have hgl : g < wr.heap.size := World.block_lt_of_cell? wr _ hnc
        have hgw : g < w.heap.size := (HLT.out.1 g rfl).2
        have i0' : (0 : Int) ≤ (i : Int) := by omega
        have i1' : (i : Int) < (l.length : Int) := by omega
        have hm0 : (0 : Int) ≤ (m : Int) := by omega
        have HRG : Hid (R3 B wr (Value.slice (some ⟨g, 0, none⟩) s.n.length nc) (.slice wa' si.ws.length wc') (.slice sa' si.ss.length sc') si) := hR3
        have HG1 : Hid (C3 wr w.heap.size (Value.slice (some ⟨g, 0, none⟩) s.n.length nc) (.slice wa' si.ws.length wc') (.slice sa' si.ss.length sc')) := hG1
        have HG2 : Hid (C3 wr (w.heap.size + 1) (.slice none 0 0) (.slice none 0 0) (.slice none 0 0)) := hG2
        have HKX : Hid (Kx (Value.slice (some ⟨g, 0, none⟩) s.n.length nc) (.slice wa s.ws.length wc) (.slice sa s.ss.length sc) w wr) := hKx
        have HNW : Hid (Nx (w.heap.size + 2) (.slice wa s.ws.length wc) (.slice wa' si.ws.length wc')) := hNw
        have HNS : Hid (Nx (w.heap.size + 2) (.slice sa s.ss.length sc) (.slice sa' si.ss.length sc')) := hNs
        have HBW : Hid (Below W.heap.size W wr) := BW
        have R1 : Hid _ := r1
        have R2 : Hid _ := r2
        have HQ3 : Hid _ := q3
        have hb1' : s.ws.length + cnt (d + 1) (l.take i : List (Pay × Tr d × Tr d)) + 1 + cnt d T1 + cnt d T2 ≤ 1048576 := by omega
        have hb2' : s.ss.length + cnt (d + 1) (l.take i : List (Pay × Tr d × Tr d)) + 1 + cnt d T1 + cnt d T2 ≤ 1048576 := by omega
        generalize cnt (d + 1) (l.take i : List (Pay × Tr d × Tr d)) = ci at o3 o4 hb1' hb2'
        have ho2 : tenB si.n = true := o2
        have HO2 : Hid _ := ho2
        have HHP : Hid _ := hp
        have HS1 : Hid (stB si.n.length d (deep - 1) T1 = true) := (show stB si.n.length d (deep - 1) T1 = true by rw [o1]; exact hs1)
        have HS2 : Hid (stB si.n.length d (deep - 1) T2 = true) := (show stB si.n.length d (deep - 1) T2 = true by rw [o1]; exact hs2)
        have HO1 : Hid (si.n.length = s.n.length) := o1
        obtain ⟨⟨c0, c1, c2⟩, f0, f1, f2⟩ := hG1
        clear hR3 hG2 hKx hNw hNs BW r1 r2 q1 q2 q3 o2 ho2 hs1 hs2 hS hh o1 hvn
        have A8 : ∀ k : Int, Below wr.heap.size wr (wr.alloc (.cells #[.int .i64 k, .int .i64 (m : Int), .int .i64 pvk, .int .i64 pva, .int .i64 pvb, .int .i64 ph, .slice ta (ln d T1) tc, .slice ea (ln d T2) ec] 66)) := fun k => (Below.refl _ _).alloc (Nat.le_refl _) _
        have HA8 : Hid _ := A8
        clear A8
        by_cases h1 : pk = 1
        · subst h1
          have hv : valB si.n.length pvk pva pvb = true := by
            have := HHP.out
            unfold payB at this
            simp at this
            rw [HO1.out]
            exact this.2.1.1
          have C1 : Hid _ := l3Num_any pvk pva pvb (w := wr.alloc (.cells #[.int .i64 1, .int .i64 (m : Int), .int .i64 pvk, .int .i64 pva, .int .i64 pvb, .int .i64 ph, .slice ta (ln d T1) tc, .slice ea (ln d T2) ec] 66)) ((R3.rep HRG.out).below (HA8.out 1)) hv HO2.out
          obtain ⟨x, hxv⟩ : ∃ x, numV pvk pva pvb si.n = x := ⟨_, rfl⟩
          rw [hxv] at C1
          have HD1 : Hid (doT (d + 1) (l.take (i + 1) : List (Pay × Tr d × Tr d)) s = ⟨si.n.set m x, si.ws ++ [((m : Int), x)], si.ss⟩) := (show doT (d + 1) (l.take (i + 1) : List (Pay × Tr d × Tr d)) s = ⟨si.n.set m x, si.ws ++ [((m : Int), x)], si.ss⟩ by rw [HQ3.out]; simp [stepS, hxv])
          have ST := C8.new wr (.int .i64 1) (.int .i64 (m : Int)) (.int .i64 pvk) (.int .i64 pva) (.int .i64 pvb) (.int .i64 ph) (.slice ta (ln d T1) tc) (.slice ea (ln d T2) ec) 66
          have HST : Hid _ := ST
          clear ST hv hxv hgx
          generalize si.n[m] = xo at *
          go_wp2_with fail
          go_at_call 80; refine Calls.mono C1.out ?_; rintro e w1 ⟨rfl, hb1⟩
          have B1 : Below wr.heap.size wr w1 := Below.then (HA8.out 1) hb1 (by simp)
          have s1 : wr.heap.size + 1 ≤ w1.heap.size := by have := hb1.size; simpa using this
          obtain ⟨⟨-, st1, -⟩, -⟩ := C8.below HST.out hb1
          have RR1 := R3.below HRG.out B1
          have RR2 : Hid (R3 B (w1.setCell ⟨g, m, none⟩ (.int .i64 x)) (Value.slice (some ⟨g, 0, none⟩) s.n.length nc) (.slice wa' si.ws.length wc') (.slice sa' si.ss.length sc') ⟨si.n.set m x, si.ws, si.ss⟩) := RR1.set' m x
          have GG1 := C3.below HG1.out B1
          have GG2 := C3.below HG2.out B1
          have HGG1 : Hid (C3 w1 w.heap.size (Value.slice (some ⟨g, 0, none⟩) s.n.length nc) (.slice wa' si.ws.length wc') (.slice sa' si.ss.length sc')) := GG1
          have HGG2 : Hid (C3 w1 (w.heap.size + 1) (.slice none 0 0) (.slice none 0 0) (.slice none 0 0)) := GG2
          have HK1 : Hid (Kx (Value.slice (some ⟨g, 0, none⟩) s.n.length nc) (.slice wa s.ws.length wc) (.slice sa s.ss.length sc) w (w1.setCell ⟨g, m, none⟩ (.int .i64 x))) := (HKX.out.trans (Kx.of B1) HNW.out HNS.out (by omega)).set _ _ (.inr rfl)
          replace hnc := cell_later B1 hnc
          replace hfz : w1.frozen? ⟨g, m, none⟩ = false := (B1.frozen (p := ⟨g, m, none⟩) hgl).trans hfz
          have hg1 : ¬ g = w.heap.size := by omega
          have hg2 : ¬ g = wr.heap.size := by omega
          clear hb1 C1 HST RR1 k0 k1 k2 k3 k4 k5 k6 k7 c0 c1 c2 f0 f1 f2 GG2 B1
          obtain ⟨⟨c0, c1, c2⟩, f0, f1, f2⟩ := GG1
          go_wp2_with (at_builtin; refine wpList_append_own_at _ rfl _ _ 48 rfl B 107 i0 _ 2 16 Tryz.underlying48 hi0 hz0 hz1 hz2 rfl (by decide) _ _ _ rfl (RR2.out.ws.alloc _) ⟨w1.heap.size, 0, none⟩ 1 1 [.int .i64 (m : Int), .int .i64 x] rfl rfl ?c1 ?c2 ?c3 ?c4 ?c5 ?_)
          case c1 => exact cells_new2 (w1.setCell ⟨g, m, none⟩ (.int .i64 x)) _ _ _ _ (by simp [World.setCell])
          case c2 => simp [Value.oneCell']
          case c3 => (show si.ws.length + 1 ≤ maxLen; unfold maxLen; omega)
          case c4 => (show (si.ws.length + 1) * 16 ≤ _; omega)
          case c5 => simp [World.setCell]; omega
          intro v5 w5 own5 grow5 nn5 at5
          have RR5 : R3 B w5 (Value.slice (some ⟨g, 0, none⟩) s.n.length nc) v5 (.slice sa' si.ss.length sc') ⟨si.n.set m x, si.ws ++ [((m : Int), x)], si.ss⟩ := R3.push (a := ((m : Int), x)) (R3.below RR2.out ((Below.refl _ _).alloc (Nat.le_refl _) _)) own5 grow5 (by simpa [World.setCell] using at5)
          have s5 : w1.heap.size + 1 ≤ w5.heap.size := by have := grow5.size; simpa [World.setCell] using this
          have blk : ∀ b, b < w1.heap.size → b ≠ g → Value.ownBlock (.slice wa' si.ws.length wc') ≠ some b → w5.heap[b]? = w1.heap[b]? := fun b hb hne hnw => (grow5.block b (by simp [World.setCell]; omega) (fun q => hnw q.symm)).trans ((Below.heap_alloc _ _ _ (by simpa [World.setCell] using hb)).trans (Below.heap_setCell _ _ _ _ hne))
          have G5 : C3 w5 w.heap.size (Value.slice (some ⟨g, 0, none⟩) s.n.length nc) (.slice wa' si.ws.length wc') (.slice sa' si.ss.length sc') := C3.frame HGG1.out (blk _ (by omega) (by omega) NE.out.2.1)
          have G6 : C3 w5 (w.heap.size + 1) (.slice none 0 0) (.slice none 0 0) (.slice none 0 0) := C3.frame HGG2.out (blk _ (by omega) (by omega) NE.out.2.2.2.2)
          have K5 : Kx (Value.slice (some ⟨g, 0, none⟩) s.n.length nc) (.slice wa s.ws.length wc) (.slice sa s.ss.length sc) w w5 := Kx.grow (v1 := .slice wa' si.ws.length wc') (N := w.heap.size + 2) (HK1.out.more (w2 := (w1.setCell ⟨g, m, none⟩ (.int .i64 x)).alloc (.cells #[.int .i64 (m : Int), .int .i64 x] 107)) rfl rfl rfl (by simp) (fun b hb _ _ _ => Below.heap_alloc _ _ _ (by simp [World.setCell]; omega))) grow5 (.inl HNW.out) (by omega)
          have N5 : Nx (w.heap.size + 2) (.slice wa s.ws.length wc) v5 := HNW.out.trans (M := w.heap.size + 2) (at5.imp id (fun k b hb => by rw [k] at hb; cases hb; first | omega | (simp [World.setCell]; omega))) (Nat.le_refl _)
          obtain ⟨va5, vc5, hv5⟩ := rowg_slice RR5.ws
          subst hv5
          have HRR5 : Hid _ := RR5
          have HG5 : Hid _ := G5
          have HG6 : Hid _ := G6
          have HK5 : Hid _ := K5
          have HN5 : Hid _ := N5
          clear own5 grow5 nn5 at5 RR5 blk K5 N5 G6 HK1 HGG1 HGG2 c0 c1 c2 f0 f1 f2 RR2
          obtain ⟨⟨c0, c1, c2⟩, f0, f1, f2⟩ := G5
          have hl5 : (si.ws ++ [((m : Int), x)]).length = si.ws.length + 1 := by simp
          have HL5 : Hid _ := hl5
          clear hl5
          generalize (si.ws ++ [((m : Int), x)]).length = L5 at *
          go_wp2
          have ne5 : Value.ownBlock (.slice va5 L5 vc5) ≠ some w.heap.size := Nx.ne HN5.out (fun e => by have := HLT.out.2.1 _ e; omega) (by omega)
          refine ⟨⟨i + 1, .slice va5 L5 vc5, .slice sa' si.ss.length sc', by omega, by simp, ?_, C3.set1 _ HG5.out, C3.far HG6.out (a := ⟨w.heap.size, 1, none⟩) (by simp) _, HK5.out.set _ _ (.inl (Nat.le_refl _)), HN5.out, HNS.out, by simp [World.setCell]; omega⟩, by simp [intOf]; omega⟩
          rw [HD1.out]
          exact R3.far HRR5.out _ _ NE.out.1.1 ne5 NE.out.2.2.1
        by_cases h3 : pk = 3
        · subst h3
          obtain ⟨x, hxx⟩ : ∃ x, si.n[m] = x := ⟨_, rfl⟩
          have HD1 : Hid (doT (d + 1) (l.take (i + 1) : List (Pay × Tr d × Tr d)) s = ⟨si.n, si.ws, si.ss ++ [(ph, x)]⟩) := (show doT (d + 1) (l.take (i + 1) : List (Pay × Tr d × Tr d)) s = ⟨si.n, si.ws, si.ss ++ [(ph, x)]⟩ by rw [HQ3.out]; unfold stepS; simp [List.getElem?_eq_getElem hm, hxx])
          rw [hxx] at hnc
          clear hgx hxx
          have BD : Below wr.heap.size wr (wr.alloc (.cells #[.int .i64 3, .int .i64 (m : Int), .int .i64 pvk, .int .i64 pva, .int .i64 pvb, .int .i64 ph, .slice ta (ln d T1) tc, .slice ea (ln d T2) ec] 66)).drew := (HA8.out 3).drew
          have sd : (wr.alloc (.cells #[.int .i64 3, .int .i64 (m : Int), .int .i64 pvk, .int .i64 pva, .int .i64 pvb, .int .i64 ph, .slice ta (ln d T1) tc, .slice ea (ln d T2) ec] 66)).drew.heap.size = wr.heap.size + 1 := by simp [World.drew]
          have ST := C8.new wr (.int .i64 3) (.int .i64 (m : Int)) (.int .i64 pvk) (.int .i64 pva) (.int .i64 pvb) (.int .i64 ph) (.slice ta (ln d T1) tc) (.slice ea (ln d T2) ec) 66
          have hHeld : (wr.alloc (.cells #[.int .i64 3, .int .i64 (m : Int), .int .i64 pvk, .int .i64 pva, .int .i64 pvb, .int .i64 ph, .slice ta (ln d T1) tc, .slice ea (ln d T2) ec] 66)).drew.cell? ⟨w.heap.size, 0, none⟩ = some (Value.slice (some ⟨g, 0, none⟩) s.n.length nc) ∧ (wr.alloc (.cells #[.int .i64 3, .int .i64 (m : Int), .int .i64 pvk, .int .i64 pva, .int .i64 pvb, .int .i64 ph, .slice ta (ln d T1) tc, .slice ea (ln d T2) ec] 66)).drew.cell? ⟨wr.heap.size, 1, none⟩ = some (.int .i64 (m : Int)) ∧ (wr.alloc (.cells #[.int .i64 3, .int .i64 (m : Int), .int .i64 pvk, .int .i64 pva, .int .i64 pvb, .int .i64 ph, .slice ta (ln d T1) tc, .slice ea (ln d T2) ec] 66)).drew.cell? ⟨wr.heap.size, 5, none⟩ = some (.int .i64 ph) ∧ (wr.alloc (.cells #[.int .i64 3, .int .i64 (m : Int), .int .i64 pvk, .int .i64 pva, .int .i64 pvb, .int .i64 ph, .slice ta (ln d T1) tc, .slice ea (ln d T2) ec] 66)).drew.cell? ⟨g, m, none⟩ = some (.int .i64 x) := ⟨cell_later BD c0, ST.1.2.1, ST.1.2.2.2.2.2.1, cell_later BD hnc⟩
          have HHeld : Hid _ := hHeld
          have NEr : Hid (Value.ownBlock (.slice sa' si.ss.length sc') ≠ some wr.heap.size) := (show Value.ownBlock (.slice sa' si.ss.length sc') ≠ some wr.heap.size from fun e => by have := World.ownsRow.lt HRG.out.ss _ e; omega)
          have NEs : Hid (Value.ownBlock (.slice sa s.ss.length sc) ≠ some w.heap.size) := (show Value.ownBlock (.slice sa s.ss.length sc) ≠ some w.heap.size from fun e => by have := HLT.out.2.2 _ e; omega)
          clear ST hHeld hfz
          go_wp2_with fail
          refine wp_region_held (S := (fun wz => wz.cell? ⟨w.heap.size, 0, none⟩ = some (Value.slice (some ⟨g, 0, none⟩) s.n.length nc) ∧ wz.cell? ⟨wr.heap.size, 1, none⟩ = some (.int .i64 (m : Int)) ∧ wz.cell? ⟨wr.heap.size, 5, none⟩ = some (.int .i64 ph) ∧ wz.cell? ⟨g, m, none⟩ = some (.int .i64 x))) (by kernel_rfl) ?_
          change wpAnyH _ _ _ _ _ _ _ _ (World.drew _)
          have hHeld := HHeld.out
          have HBD : Hid _ := BD
          clear HHeld BD
          generalize (wr.alloc (.cells #[.int .i64 3, .int .i64 (m : Int), .int .i64 pvk, .int .i64 pva, .int .i64 pvb, .int .i64 ph, .slice ta (ln d T1) tc, .slice ea (ln d T2) ec] 66)).drew = wd at *
          have RD : Hid (R3 B wd (Value.slice (some ⟨g, 0, none⟩) s.n.length nc) (.slice wa' si.ws.length wc') (.slice sa' si.ss.length sc') si) := R3.below HRG.out HBD.out
          have HGD : Hid (C3 wd w.heap.size (Value.slice (some ⟨g, 0, none⟩) s.n.length nc) (.slice wa' si.ws.length wc') (.slice sa' si.ss.length sc')) := C3.below HG1.out HBD.out
          have HGD2 : Hid (C3 wd (w.heap.size + 1) (.slice none 0 0) (.slice none 0 0) (.slice none 0 0)) := C3.below HG2.out HBD.out
          have HKD : Hid (Kx (Value.slice (some ⟨g, 0, none⟩) s.n.length nc) (.slice wa s.ws.length wc) (.slice sa s.ss.length sc) w wd) := HKX.out.trans (Kx.of HBD.out) HNW.out HNS.out (by omega)
          have HD : Hid _ := hHeld
          have d2 : wd.cell? ⟨w.heap.size, 2, none⟩ = some (.slice sa' si.ss.length sc') := HGD.out.1.2.2
          clear k0 k1 k2 k3 k4 k5 k6 k7 c0 c1 c2 f0 f1 f2 hnc
          refine' wpAnyH_take (i := 0) (v := _) rfl (by kernel_rfl) (by kernel_rfl) (by kernel_rfl) (fun _ _ _ h => h) (Or.inl ⟨by rfl, ?hz1⟩) hHeld ?hm1
          case hz1 => (intro wz hSw; obtain ⟨j0, j1, j2, j3⟩ := hSw; go_simp; first | done | with_reducible rfl)
          try simp only [nrm, Act.put]
          refine' wpAnyH_take (i := 2) (v := _) rfl (by kernel_rfl) (by kernel_rfl) (by kernel_rfl) (fun _ _ _ h => h) (Or.inl ⟨by rfl, ?hz2⟩) hHeld ?hm2
          case hz2 => (intro wz hSw; obtain ⟨j0, j1, j2, j3⟩ := hSw; go_simp; first | done | with_reducible rfl)
          try simp only [nrm, Act.put]
          refine' wpAnyH_take (i := 3) (v := _) rfl (by kernel_rfl) (by kernel_rfl) (by kernel_rfl) (fun _ _ _ h => h) (Or.inl ⟨by rfl, ?hz3⟩) hHeld ?hm3
          case hz3 => (intro wz hSw; obtain ⟨j0, j1, j2, j3⟩ := hSw; go_simp; first | done | with_reducible rfl)
          try simp only [nrm, Act.put]
          refine' wpAnyH_take (i := 4) (v := _) rfl (by kernel_rfl) (by kernel_rfl) (by kernel_rfl) (fun _ _ _ h => h) (Or.inl ⟨by rfl, ?hz4⟩) hHeld ?hm4
          case hz4 => (intro wz hSw; obtain ⟨j0, j1, j2, j3⟩ := hSw; go_simp; first | done | with_reducible rfl)
          try simp only [nrm, Act.put]
          refine' wpAnyH_take (i := 5) (v := _) rfl (by kernel_rfl) (by kernel_rfl) (by kernel_rfl) (fun _ _ _ h => h) (Or.inl ⟨by rfl, ?hz5⟩) hHeld ?hm5
          case hz5 => (intro wz hSw; obtain ⟨j0, j1, j2, j3⟩ := hSw; go_simp; first | done | with_reducible rfl)
          try simp only [nrm, Act.put]
          refine' wpAnyH_take (i := 6) (v := _) rfl (by kernel_rfl) (by kernel_rfl) (by kernel_rfl) (fun _ _ _ h => h) (Or.inl ⟨by rfl, ?hz6⟩) hHeld ?hm6
          case hz6 => (intro wz hSw; obtain ⟨j0, j1, j2, j3⟩ := hSw; go_simp; first | done | with_reducible rfl)
          try simp only [nrm, Act.put]
          refine' wpAnyH_take (i := 7) (v := _) rfl (by kernel_rfl) (by kernel_rfl) (by kernel_rfl) (fun _ _ _ h => h) (Or.inl ⟨by rfl, ?hz7⟩) hHeld ?hm7
          case hz7 => (intro wz hSw; obtain ⟨j0, j1, j2, j3⟩ := hSw; go_simp; first | done | with_reducible rfl)
          try simp only [nrm, Act.put]
          refine' wpAnyH_take (i := 8) (v := _) rfl (by kernel_rfl) (by kernel_rfl) (by kernel_rfl) (fun _ _ _ h => h) (Or.inl ⟨by rfl, ?hz8⟩) hHeld ?hm8
          case hz8 => (intro wz hSw; obtain ⟨j0, j1, j2, j3⟩ := hSw; go_simp; first | done | with_reducible rfl)
          try simp only [nrm, Act.put]
          refine' wpAnyH_take (i := 9) (v := _) rfl (by kernel_rfl) (by kernel_rfl) (by kernel_rfl) (fun _ _ _ h => h) (Or.inl ⟨by rfl, ?hz9⟩) hHeld ?hm9
          case hz9 => (intro wz hSw; obtain ⟨j0, j1, j2, j3⟩ := hSw; go_simp; first | done | with_reducible rfl)
          try simp only [nrm, Act.put]
          refine' wpAnyH_take (i := 10) (v := _) rfl (by kernel_rfl) (by kernel_rfl) (by kernel_rfl) (fun _ _ _ h => h) (Or.inl ⟨by rfl, ?hz10⟩) hHeld ?hm10
          case hz10 => (intro wz hSw; obtain ⟨j0, j1, j2, j3⟩ := hSw; go_simp; first | done | with_reducible rfl)
          try simp only [nrm, Act.put]
          refine wpAnyH_ready (rs := [1, 11]) (by kernel_rfl) (by simp) ?_
          refine AllReadyH.cons rfl (fun K hK => ?_) (AllReadyH.cons rfl (fun K hK => ?_) AllReadyH.nil)
          · go_simp
            refine hK.out _ _ hHeld (fun hHeld => ?_)
            clear hK K
            refine wpAnyH_ready (rs := [11]) (by kernel_rfl) (by simp) ?_
            refine AllReadyH.cons rfl (fun K hK => ?_) AllReadyH.nil
            go_simp
            refine hK.out _ _ ⟨cell_later ((Below.refl _ _).alloc (Nat.le_refl _) _) hHeld.1, cell_later ((Below.refl _ _).alloc (Nat.le_refl _) _) hHeld.2.1, cell_later ((Below.refl _ _).alloc (Nat.le_refl _) _) hHeld.2.2.1, cell_later ((Below.refl _ _).alloc (Nat.le_refl _) _) hHeld.2.2.2⟩ (fun hHeld => ?_)
            clear hK K
            refine wpAnyH_ready (rs := [12]) (by kernel_rfl) (by simp) ?_
            refine AllReadyH.cons rfl (fun K hK => ?_) AllReadyH.nil
            rw [if_pos (by rfl)]
            refine wp_append_at' _ _ _ 49 rfl B 93 i1 _ 2 16 Tryz.underlying49 hj0 hy0 hy1 hy2 rfl (by decide) (.slice sa' si.ss.length sc') si.ss.length (pcells si.ss) rfl (World.ownsRow.alloc RD.out.ss _) ⟨wr.heap.size + 1, 0, none⟩ 1 1 [.int .i64 ph, .int .i64 x] rfl rfl ?c1 ?c2 ?c3 ?c4 ?c5 ?_
            case c1 => exact cells_new2 wd _ _ _ _ sd.symm
            case c2 => simp [Value.oneCell']
            case c3 => unfold maxLen; omega
            case c4 => omega
            case c5 => simp; omega
            intro v5 w5 own5 grow5 nn5 at5
            have RT : R3 B w5 (Value.slice (some ⟨g, 0, none⟩) s.n.length nc) (.slice wa' si.ws.length wc') v5 ⟨si.n, si.ws, si.ss ++ [(ph, x)]⟩ := (RD.out.below ((Below.refl _ _).alloc (Nat.le_refl _) _)).tell (a := (ph, x)) own5 grow5 at5
            have s5 : wd.heap.size + 1 ≤ w5.heap.size := by have := grow5.size; simpa using this
            have blk : ∀ b, b < wd.heap.size → (Value.slice sa' si.ss.length sc').ownBlock ≠ some b → w5.heap[b]? = wd.heap[b]? := fun b hb hne => (grow5.block b (by simp; omega) (fun q => hne q.symm)).trans (Below.heap_alloc _ _ _ hb)
            have cel : ∀ (a : Addr) (u : Value), wd.cell? a = some u → (Value.slice sa' si.ss.length sc').ownBlock ≠ some a.block → w5.cell? a = some u := fun a u hc hne => (World.cell?_of_block (blk a.block (World.block_lt_of_cell? wd a hc) hne)).trans hc
            have G5 : C3 w5 w.heap.size (Value.slice (some ⟨g, 0, none⟩) s.n.length nc) (.slice wa' si.ws.length wc') (.slice sa' si.ss.length sc') := C3.frame HGD.out (blk _ (by omega) NE.out.2.2.1)
            have G6 : C3 w5 (w.heap.size + 1) (.slice none 0 0) (.slice none 0 0) (.slice none 0 0) := C3.frame HGD2.out (blk _ (by omega) NE.out.2.2.2.1)
            have hHeld5 : w5.cell? ⟨w.heap.size, 0, none⟩ = some (Value.slice (some ⟨g, 0, none⟩) s.n.length nc) ∧ w5.cell? ⟨wr.heap.size, 1, none⟩ = some (.int .i64 (m : Int)) ∧ w5.cell? ⟨wr.heap.size, 5, none⟩ = some (.int .i64 ph) ∧ w5.cell? ⟨g, m, none⟩ = some (.int .i64 x) := ⟨G5.1.1, cel _ _ HD.out.2.1 (NEr.out), cel _ _ HD.out.2.2.1 NEr.out, cel _ _ HD.out.2.2.2 (HRG.out.ns g rfl)⟩
            have KX5 : Kx (Value.slice (some ⟨g, 0, none⟩) s.n.length nc) (.slice wa s.ws.length wc) (.slice sa s.ss.length sc) w w5 := HKD.out.more grow5.os grow5.tape grow5.output (by omega) (fun b hb _ _ a3 => blk b (by omega) (HNS.out.ne a3 (by omega)))
            have NX5 : Nx (w.heap.size + 2) (.slice sa s.ss.length sc) v5 := HNS.out.trans (M := w.heap.size + 2) (at5.imp id (fun k b hb => by rw [k] at hb; cases hb; simp; omega)) (Nat.le_refl _)
            obtain ⟨va5, vc5, rfl⟩ := rowg_slice own5
            have HRT : Hid _ := RT
            have HK5 : Hid _ := KX5
            have HN5 : Hid _ := NX5
            have HG5 : Hid _ := G5
            have HG6 : Hid _ := G6
            refine hK.out _ _ hHeld5 (fun hHeld => ?_)
            clear hK K
            clear own5 grow5 nn5 at5 RT blk cel KX5 NX5
            refine' wpAnyH_take (i := 13) (v := _) rfl (by kernel_rfl) (by kernel_rfl) (by kernel_rfl) (fun _ _ _ h => h) (Or.inl ⟨by rfl, ?hz11⟩) hHeld ?hm11
            case hz11 => (intro wz hSw; obtain ⟨j0, j1, j2, j3⟩ := hSw; go_simp; first | done | with_reducible rfl)
            try simp only [nrm, Act.put]
            obtain ⟨⟨e0, e1, e2⟩, u0, u1, u2⟩ := G5
            refine wpAnyH_ready (rs := [14]) (by kernel_rfl) (by simp) ?_
            refine AllReadyH.cons rfl (fun K hK => ?_) AllReadyH.nil
            go_simp
            refine hK.out _ _ ⟨(World.cell?_setCell_other _ _ _ _ (by simp)).trans hHeld.1, (World.cell?_setCell_other _ _ _ _ (by simp <;> omega)).trans hHeld.2.1, (World.cell?_setCell_other _ _ _ _ (by simp <;> omega)).trans hHeld.2.2.1, (World.cell?_setCell_other _ _ _ _ (by simp <;> omega)).trans hHeld.2.2.2⟩ (fun hHeld => ?_)
            clear hK K
            refine wpAnyH_done (by kernel_rfl) ?_ _
            have Gb : C3 (w5.setCell ⟨w.heap.size, 2, none⟩ (.slice va5 (si.ss.length + 1) vc5)) w.heap.size (Value.slice (some ⟨g, 0, none⟩) s.n.length nc) (.slice wa' si.ws.length wc') (.slice va5 (si.ss.length + 1) vc5) := C3.set2 _ HG5.out
            have Gr : C3 (w5.setCell ⟨w.heap.size, 2, none⟩ (.slice va5 (si.ss.length + 1) vc5)) (w.heap.size + 1) (.slice none 0 0) (.slice none 0 0) (.slice none 0 0) := C3.far HG6.out (a := ⟨w.heap.size, 2, none⟩) (by simp) _
            have ne5 : (Value.slice va5 (si.ss.length + 1) vc5).ownBlock ≠ some w.heap.size := Nx.ne HN5.out NEs.out (by omega)
            have Rr : R3 B (w5.setCell ⟨w.heap.size, 2, none⟩ (.slice va5 (si.ss.length + 1) vc5)) (Value.slice (some ⟨g, 0, none⟩) s.n.length nc) (.slice wa' si.ws.length wc') (.slice va5 (si.ss.length + 1) vc5) ⟨si.n, si.ws, si.ss ++ [(ph, x)]⟩ := HRT.out.far _ _ NE.out.1.1 NE.out.2.1 ne5
            have Kr : Kx (Value.slice (some ⟨g, 0, none⟩) s.n.length nc) (.slice wa s.ws.length wc) (.slice sa s.ss.length sc) w (w5.setCell ⟨w.heap.size, 2, none⟩ (.slice va5 (si.ss.length + 1) vc5)) := HK5.out.set _ _ (.inl (Nat.le_refl _))
            have Sr : w.heap.size + 2 ≤ (w5.setCell ⟨w.heap.size, 2, none⟩ (.slice va5 (si.ss.length + 1) vc5)).heap.size := by simp [World.setCell]; omega
            generalize w5.setCell ⟨w.heap.size, 2, none⟩ (.slice va5 (si.ss.length + 1) vc5) = w6 at *
            have HGb : Hid _ := Gb
            have HGr : Hid _ := Gr
            have HRr : Hid _ := Rr
            have HKr : Hid _ := Kr
            clear e0 e1 e2 u0 u1 u2 hHeld hHeld5 Gb Gr Rr Kr G6
            go_wp2
            exact ⟨⟨i + 1, .slice wa' si.ws.length wc', .slice va5 (si.ss.length + 1) vc5, by omega, by simp, by rw [HD1.out]; exact HRr.out, HGb.out, HGr.out, HKr.out, HNW.out, HN5.out, Sr⟩, by simp [intOf]; omega⟩
          · go_simp
            refine hK.out _ _ ⟨cell_later ((Below.refl _ _).alloc (Nat.le_refl _) _) hHeld.1, cell_later ((Below.refl _ _).alloc (Nat.le_refl _) _) hHeld.2.1, cell_later ((Below.refl _ _).alloc (Nat.le_refl _) _) hHeld.2.2.1, cell_later ((Below.refl _ _).alloc (Nat.le_refl _) _) hHeld.2.2.2⟩ (fun hHeld => ?_)
            clear hK K
            refine wpAnyH_ready (rs := [1]) (by kernel_rfl) (by simp) ?_
            refine AllReadyH.cons rfl (fun K hK => ?_) AllReadyH.nil
            go_simp
            refine hK.out _ _ hHeld (fun hHeld => ?_)
            clear hK K
            refine wpAnyH_ready (rs := [12]) (by kernel_rfl) (by simp) ?_
            refine AllReadyH.cons rfl (fun K hK => ?_) AllReadyH.nil
            rw [if_pos (by rfl)]
            refine wp_append_at' _ _ _ 49 rfl B 93 i1 _ 2 16 Tryz.underlying49 hj0 hy0 hy1 hy2 rfl (by decide) (.slice sa' si.ss.length sc') si.ss.length (pcells si.ss) rfl (World.ownsRow.alloc RD.out.ss _) ⟨wr.heap.size + 1, 0, none⟩ 1 1 [.int .i64 ph, .int .i64 x] rfl rfl ?c1b ?c2b ?c3b ?c4b ?c5b ?_
            case c1b => exact cells_new2 wd _ _ _ _ sd.symm
            case c2b => simp [Value.oneCell']
            case c3b => unfold maxLen; omega
            case c4b => omega
            case c5b => simp; omega
            intro v5 w5 own5 grow5 nn5 at5
            have RT : R3 B w5 (Value.slice (some ⟨g, 0, none⟩) s.n.length nc) (.slice wa' si.ws.length wc') v5 ⟨si.n, si.ws, si.ss ++ [(ph, x)]⟩ := (RD.out.below ((Below.refl _ _).alloc (Nat.le_refl _) _)).tell (a := (ph, x)) own5 grow5 at5
            have s5 : wd.heap.size + 1 ≤ w5.heap.size := by have := grow5.size; simpa using this
            have blk : ∀ b, b < wd.heap.size → (Value.slice sa' si.ss.length sc').ownBlock ≠ some b → w5.heap[b]? = wd.heap[b]? := fun b hb hne => (grow5.block b (by simp; omega) (fun q => hne q.symm)).trans (Below.heap_alloc _ _ _ hb)
            have cel : ∀ (a : Addr) (u : Value), wd.cell? a = some u → (Value.slice sa' si.ss.length sc').ownBlock ≠ some a.block → w5.cell? a = some u := fun a u hc hne => (World.cell?_of_block (blk a.block (World.block_lt_of_cell? wd a hc) hne)).trans hc
            have G5 : C3 w5 w.heap.size (Value.slice (some ⟨g, 0, none⟩) s.n.length nc) (.slice wa' si.ws.length wc') (.slice sa' si.ss.length sc') := C3.frame HGD.out (blk _ (by omega) NE.out.2.2.1)
            have G6 : C3 w5 (w.heap.size + 1) (.slice none 0 0) (.slice none 0 0) (.slice none 0 0) := C3.frame HGD2.out (blk _ (by omega) NE.out.2.2.2.1)
            have hHeld5 : w5.cell? ⟨w.heap.size, 0, none⟩ = some (Value.slice (some ⟨g, 0, none⟩) s.n.length nc) ∧ w5.cell? ⟨wr.heap.size, 1, none⟩ = some (.int .i64 (m : Int)) ∧ w5.cell? ⟨wr.heap.size, 5, none⟩ = some (.int .i64 ph) ∧ w5.cell? ⟨g, m, none⟩ = some (.int .i64 x) := ⟨G5.1.1, cel _ _ HD.out.2.1 (NEr.out), cel _ _ HD.out.2.2.1 NEr.out, cel _ _ HD.out.2.2.2 (HRG.out.ns g rfl)⟩
            have KX5 : Kx (Value.slice (some ⟨g, 0, none⟩) s.n.length nc) (.slice wa s.ws.length wc) (.slice sa s.ss.length sc) w w5 := HKD.out.more grow5.os grow5.tape grow5.output (by omega) (fun b hb _ _ a3 => blk b (by omega) (HNS.out.ne a3 (by omega)))
            have NX5 : Nx (w.heap.size + 2) (.slice sa s.ss.length sc) v5 := HNS.out.trans (M := w.heap.size + 2) (at5.imp id (fun k b hb => by rw [k] at hb; cases hb; simp; omega)) (Nat.le_refl _)
            obtain ⟨va5, vc5, rfl⟩ := rowg_slice own5
            have HRT : Hid _ := RT
            have HK5 : Hid _ := KX5
            have HN5 : Hid _ := NX5
            have HG5 : Hid _ := G5
            have HG6 : Hid _ := G6
            refine hK.out _ _ hHeld5 (fun hHeld => ?_)
            clear hK K
            clear own5 grow5 nn5 at5 RT blk cel KX5 NX5
            refine' wpAnyH_take (i := 13) (v := _) rfl (by kernel_rfl) (by kernel_rfl) (by kernel_rfl) (fun _ _ _ h => h) (Or.inl ⟨by rfl, ?hz12⟩) hHeld ?hm12
            case hz12 => (intro wz hSw; obtain ⟨j0, j1, j2, j3⟩ := hSw; go_simp; first | done | with_reducible rfl)
            try simp only [nrm, Act.put]
            obtain ⟨⟨e0, e1, e2⟩, u0, u1, u2⟩ := G5
            refine wpAnyH_ready (rs := [14]) (by kernel_rfl) (by simp) ?_
            refine AllReadyH.cons rfl (fun K hK => ?_) AllReadyH.nil
            go_simp
            refine hK.out _ _ ⟨(World.cell?_setCell_other _ _ _ _ (by simp)).trans hHeld.1, (World.cell?_setCell_other _ _ _ _ (by simp <;> omega)).trans hHeld.2.1, (World.cell?_setCell_other _ _ _ _ (by simp <;> omega)).trans hHeld.2.2.1, (World.cell?_setCell_other _ _ _ _ (by simp <;> omega)).trans hHeld.2.2.2⟩ (fun hHeld => ?_)
            clear hK K
            refine wpAnyH_done (by kernel_rfl) ?_ _
            have Gb : C3 (w5.setCell ⟨w.heap.size, 2, none⟩ (.slice va5 (si.ss.length + 1) vc5)) w.heap.size (Value.slice (some ⟨g, 0, none⟩) s.n.length nc) (.slice wa' si.ws.length wc') (.slice va5 (si.ss.length + 1) vc5) := C3.set2 _ HG5.out
            have Gr : C3 (w5.setCell ⟨w.heap.size, 2, none⟩ (.slice va5 (si.ss.length + 1) vc5)) (w.heap.size + 1) (.slice none 0 0) (.slice none 0 0) (.slice none 0 0) := C3.far HG6.out (a := ⟨w.heap.size, 2, none⟩) (by simp) _
            have ne5 : (Value.slice va5 (si.ss.length + 1) vc5).ownBlock ≠ some w.heap.size := Nx.ne HN5.out NEs.out (by omega)
            have Rr : R3 B (w5.setCell ⟨w.heap.size, 2, none⟩ (.slice va5 (si.ss.length + 1) vc5)) (Value.slice (some ⟨g, 0, none⟩) s.n.length nc) (.slice wa' si.ws.length wc') (.slice va5 (si.ss.length + 1) vc5) ⟨si.n, si.ws, si.ss ++ [(ph, x)]⟩ := HRT.out.far _ _ NE.out.1.1 NE.out.2.1 ne5
            have Kr : Kx (Value.slice (some ⟨g, 0, none⟩) s.n.length nc) (.slice wa s.ws.length wc) (.slice sa s.ss.length sc) w (w5.setCell ⟨w.heap.size, 2, none⟩ (.slice va5 (si.ss.length + 1) vc5)) := HK5.out.set _ _ (.inl (Nat.le_refl _))
            have Sr : w.heap.size + 2 ≤ (w5.setCell ⟨w.heap.size, 2, none⟩ (.slice va5 (si.ss.length + 1) vc5)).heap.size := by simp [World.setCell]; omega
            generalize w5.setCell ⟨w.heap.size, 2, none⟩ (.slice va5 (si.ss.length + 1) vc5) = w6 at *
            have HGb : Hid _ := Gb
            have HGr : Hid _ := Gr
            have HRr : Hid _ := Rr
            have HKr : Hid _ := Kr
            clear e0 e1 e2 u0 u1 u2 hHeld hHeld5 Gb Gr Rr Kr G6
            go_wp2
            exact ⟨⟨i + 1, .slice wa' si.ws.length wc', .slice va5 (si.ss.length + 1) vc5, by omega, by simp, by rw [HD1.out]; exact HRr.out, HGb.out, HGr.out, HKr.out, HNW.out, HN5.out, Sr⟩, by simp [intOf]; omega⟩
        by_cases h2 : pk = 2
        case neg =>
          have := HHP.out
          unfold payB at this
          simp [h1, h2, h3] at this
        subst h2
        have HX : Hid _ := HA8.out 2
        have BW8 : Below W.heap.size W (wr.alloc (.cells #[.int .i64 2, .int .i64 (m : Int), .int .i64 pvk, .int .i64 pva, .int .i64 pvb, .int .i64 ph, .slice ta (ln d T1) tc, .slice ea (ln d T2) ec] 66)) := Below.then HBW.out HX.out HBW.out.size
        have R8 := R3.below HRG.out HX.out
        have s8 : (wr.alloc (.cells #[.int .i64 2, .int .i64 (m : Int), .int .i64 pvk, .int .i64 pva, .int .i64 pvb, .int .i64 ph, .slice ta (ln d T1) tc, .slice ea (ln d T2) ec] 66)).heap.size = wr.heap.size + 1 := by simp
        by_cases hx0 : si.n[m] = 0
        · have hx0' : si.n[m] = 0 := hx0
          have C1 : Hid _ := IH.out T2 (deep - 1) _ _ _ _ si _ R2.out BW8 (by omega) HS2.out HO2.out (by omega) (by omega) R8
          have HD1 : Hid (doT (d + 1) (l.take (i + 1) : List (Pay × Tr d × Tr d)) s = doT d T2 si) := (show doT (d + 1) (l.take (i + 1) : List (Pay × Tr d × Tr d)) s = doT d T2 si by rw [HQ3.out]; unfold stepS; simp [List.getElem?_eq_getElem hm, hx0])
          have G8 : Hid (C3 (wr.alloc (.cells #[.int .i64 2, .int .i64 (m : Int), .int .i64 pvk, .int .i64 pva, .int .i64 pvb, .int .i64 ph, .slice ta (ln d T1) tc, .slice ea (ln d T2) ec] 66)) w.heap.size (Value.slice (some ⟨g, 0, none⟩) s.n.length nc) (.slice wa' si.ws.length wc') (.slice sa' si.ss.length sc')) := C3.below HG1.out HX.out
          have G9 : Hid (C3 (wr.alloc (.cells #[.int .i64 2, .int .i64 (m : Int), .int .i64 pvk, .int .i64 pva, .int .i64 pvb, .int .i64 ph, .slice ta (ln d T1) tc, .slice ea (ln d T2) ec] 66)) (w.heap.size + 1) (.slice none 0 0) (.slice none 0 0) (.slice none 0 0)) := C3.below HG2.out HX.out
          have K8 : Hid (Kx (Value.slice (some ⟨g, 0, none⟩) s.n.length nc) (.slice wa s.ws.length wc) (.slice sa s.ss.length sc) w (wr.alloc (.cells #[.int .i64 2, .int .i64 (m : Int), .int .i64 pvk, .int .i64 pva, .int .i64 pvb, .int .i64 ph, .slice ta (ln d T1) tc, .slice ea (ln d T2) ec] 66))) := HKX.out.trans (Kx.of HX.out) HNW.out HNS.out (by omega)
          have S8 : Hid _ := s8
          clear R8 BW8 s8 hgx
          generalize si.n[m] = x at *
          go_wp2_with fail
          go_at_call 62; refine Calls.mono C1.out ?_
          rintro e w2 ⟨wv2, sv2, rfl, rr2, kx2, nx2, ny2⟩
          have s2 : wr.heap.size + 1 ≤ w2.heap.size := by have := kx2.size; rw [S8.out] at this; exact this
          have G2' : C3 w2 w.heap.size (Value.slice (some ⟨g, 0, none⟩) s.n.length nc) (.slice wa' si.ws.length wc') (.slice sa' si.ss.length sc') := C3.frame G8.out (kx2.block _ (by rw [S8.out]; omega) NE.out.1.1 NE.out.2.1 NE.out.2.2.1)
          have G3' : C3 w2 (w.heap.size + 1) (.slice none 0 0) (.slice none 0 0) (.slice none 0 0) := C3.frame G9.out (kx2.block _ (by rw [S8.out]; omega) NE.out.1.2 NE.out.2.2.2.2 NE.out.2.2.2.1)
          have K2' : Kx (Value.slice (some ⟨g, 0, none⟩) s.n.length nc) (.slice wa s.ws.length wc) (.slice sa s.ss.length sc) w w2 := K8.out.trans kx2 HNW.out HNS.out (by omega)
          have N2' : Nx (w.heap.size + 2) (.slice wa s.ws.length wc) wv2 := HNW.out.trans nx2 (by rw [S8.out]; omega)
          have N3' : Nx (w.heap.size + 2) (.slice sa s.ss.length sc) sv2 := HNS.out.trans ny2 (by rw [S8.out]; omega)
          obtain ⟨va2, vc2, hv2⟩ := rowg_slice rr2.ws
          obtain ⟨vb2, vd2, hv3⟩ := rowg_slice rr2.ss
          have HRR : Hid _ := rr2
          have HG2' : Hid _ := G2'
          have HG3' : Hid _ := G3'
          have HK2 : Hid _ := K2'
          have HN2 : Hid _ := N2'
          have HN3 : Hid _ := N3'
          clear rr2 kx2 nx2 ny2 G3' K2' N2' N3' C1 G8 G9 K8 c0 c1 c2 f0 f1 f2 k0 k1 k2 k3 k4 k5 k6 k7
          obtain ⟨⟨c0, c1, c2⟩, f0, f1, f2⟩ := G2'
          generalize (doT d T2 si).ws.length = L1 at hv2
          generalize (doT d T2 si).ss.length = L2 at hv3
          subst hv2 hv3
          go_wp2
          have ne2 : Value.ownBlock (.slice va2 L1 vc2) ≠ some w.heap.size := Nx.ne HN2.out (fun e => by have := HLT.out.2.1 _ e; omega) (by omega)
          have ne3 : Value.ownBlock (.slice vb2 L2 vd2) ≠ some w.heap.size := Nx.ne HN3.out (fun e => by have := HLT.out.2.2 _ e; omega) (by omega)
          refine ⟨⟨i + 1, .slice va2 L1 vc2, .slice vb2 L2 vd2, by omega, by simp, ?_, C3.set2 _ (C3.set1 _ (C3.set0 _ HG2'.out)), C3.far (C3.far (C3.far HG3'.out (a := ⟨w.heap.size, 0, none⟩) (by simp) _) (a := ⟨w.heap.size, 1, none⟩) (by simp) _) (a := ⟨w.heap.size, 2, none⟩) (by simp) _, ((HK2.out.set _ _ (.inl (Nat.le_refl _))).set _ _ (.inl (Nat.le_refl _))).set _ _ (.inl (Nat.le_refl _)), HN2.out, HN3.out, by simp [World.setCell]; omega⟩, by simp [intOf]; omega⟩
          rw [HD1.out]
          exact ((R3.far HRR.out _ _ NE.out.1.1 ne2 ne3).far _ _ NE.out.1.1 ne2 ne3).far _ _ NE.out.1.1 ne2 ne3
        · have hx0' : ¬ si.n[m] = 0 := hx0
          have C1 : Hid _ := IH.out T1 (deep - 1) _ _ _ _ si _ R1.out BW8 (by omega) HS1.out HO2.out (by omega) (by omega) R8
          have HD1 : Hid (doT (d + 1) (l.take (i + 1) : List (Pay × Tr d × Tr d)) s = doT d T1 si) := (show doT (d + 1) (l.take (i + 1) : List (Pay × Tr d × Tr d)) s = doT d T1 si by rw [HQ3.out]; unfold stepS; simp [List.getElem?_eq_getElem hm, hx0])
          have G8 : Hid (C3 (wr.alloc (.cells #[.int .i64 2, .int .i64 (m : Int), .int .i64 pvk, .int .i64 pva, .int .i64 pvb, .int .i64 ph, .slice ta (ln d T1) tc, .slice ea (ln d T2) ec] 66)) w.heap.size (Value.slice (some ⟨g, 0, none⟩) s.n.length nc) (.slice wa' si.ws.length wc') (.slice sa' si.ss.length sc')) := C3.below HG1.out HX.out
          have G9 : Hid (C3 (wr.alloc (.cells #[.int .i64 2, .int .i64 (m : Int), .int .i64 pvk, .int .i64 pva, .int .i64 pvb, .int .i64 ph, .slice ta (ln d T1) tc, .slice ea (ln d T2) ec] 66)) (w.heap.size + 1) (.slice none 0 0) (.slice none 0 0) (.slice none 0 0)) := C3.below HG2.out HX.out
          have K8 : Hid (Kx (Value.slice (some ⟨g, 0, none⟩) s.n.length nc) (.slice wa s.ws.length wc) (.slice sa s.ss.length sc) w (wr.alloc (.cells #[.int .i64 2, .int .i64 (m : Int), .int .i64 pvk, .int .i64 pva, .int .i64 pvb, .int .i64 ph, .slice ta (ln d T1) tc, .slice ea (ln d T2) ec] 66))) := HKX.out.trans (Kx.of HX.out) HNW.out HNS.out (by omega)
          have S8 : Hid _ := s8
          clear R8 BW8 s8 hgx
          generalize si.n[m] = x at *
          go_wp2_with fail
          go_at_call 62; refine Calls.mono C1.out ?_
          rintro e w2 ⟨wv2, sv2, rfl, rr2, kx2, nx2, ny2⟩
          have s2 : wr.heap.size + 1 ≤ w2.heap.size := by have := kx2.size; rw [S8.out] at this; exact this
          have G2' : C3 w2 w.heap.size (Value.slice (some ⟨g, 0, none⟩) s.n.length nc) (.slice wa' si.ws.length wc') (.slice sa' si.ss.length sc') := C3.frame G8.out (kx2.block _ (by rw [S8.out]; omega) NE.out.1.1 NE.out.2.1 NE.out.2.2.1)
          have G3' : C3 w2 (w.heap.size + 1) (.slice none 0 0) (.slice none 0 0) (.slice none 0 0) := C3.frame G9.out (kx2.block _ (by rw [S8.out]; omega) NE.out.1.2 NE.out.2.2.2.2 NE.out.2.2.2.1)
          have K2' : Kx (Value.slice (some ⟨g, 0, none⟩) s.n.length nc) (.slice wa s.ws.length wc) (.slice sa s.ss.length sc) w w2 := K8.out.trans kx2 HNW.out HNS.out (by omega)
          have N2' : Nx (w.heap.size + 2) (.slice wa s.ws.length wc) wv2 := HNW.out.trans nx2 (by rw [S8.out]; omega)
          have N3' : Nx (w.heap.size + 2) (.slice sa s.ss.length sc) sv2 := HNS.out.trans ny2 (by rw [S8.out]; omega)
          obtain ⟨va2, vc2, hv2⟩ := rowg_slice rr2.ws
          obtain ⟨vb2, vd2, hv3⟩ := rowg_slice rr2.ss
          have HRR : Hid _ := rr2
          have HG2' : Hid _ := G2'
          have HG3' : Hid _ := G3'
          have HK2 : Hid _ := K2'
          have HN2 : Hid _ := N2'
          have HN3 : Hid _ := N3'
          clear rr2 kx2 nx2 ny2 G3' K2' N2' N3' C1 G8 G9 K8 c0 c1 c2 f0 f1 f2 k0 k1 k2 k3 k4 k5 k6 k7
          obtain ⟨⟨c0, c1, c2⟩, f0, f1, f2⟩ := G2'
          generalize (doT d T1 si).ws.length = L1 at hv2
          generalize (doT d T1 si).ss.length = L2 at hv3
          subst hv2 hv3
          go_wp2
          have ne2 : Value.ownBlock (.slice va2 L1 vc2) ≠ some w.heap.size := Nx.ne HN2.out (fun e => by have := HLT.out.2.1 _ e; omega) (by omega)
          have ne3 : Value.ownBlock (.slice vb2 L2 vd2) ≠ some w.heap.size := Nx.ne HN3.out (fun e => by have := HLT.out.2.2 _ e; omega) (by omega)
          refine ⟨⟨i + 1, .slice va2 L1 vc2, .slice vb2 L2 vd2, by omega, by simp, ?_, C3.set2 _ (C3.set1 _ (C3.set0 _ HG2'.out)), C3.far (C3.far (C3.far HG3'.out (a := ⟨w.heap.size, 0, none⟩) (by simp) _) (a := ⟨w.heap.size, 1, none⟩) (by simp) _) (a := ⟨w.heap.size, 2, none⟩) (by simp) _, ((HK2.out.set _ _ (.inl (Nat.le_refl _))).set _ _ (.inl (Nat.le_refl _))).set _ _ (.inl (Nat.le_refl _)), HN2.out, HN3.out, by simp [World.setCell]; omega⟩, by simp [intOf]; omega⟩
          rw [HD1.out]
          exact ((R3.far HRR.out _ _ NE.out.1.1 ne2 ne3).far _ _ NE.out.1.1 ne2 ne3).far _ _ NE.out.1.1 ne2 ne3
      · have hie : i = l.length := by omega
        subst hie
        rw [List.take_length] at *
        have HR3 : Hid _ := hR3
        have HG1 : Hid _ := hG1
        have HG2 : Hid _ := hG2
        have HKX : Hid _ := hKx
        have HNW : Hid _ := hNw
        have HNS : Hid _ := hNs
        obtain ⟨si, hsi⟩ : ∃ x, doT (d + 1) (l : List (Pay × Tr d × Tr d)) s = x := ⟨_, rfl⟩
        rw [hsi] at HR3 HG1 HNW HNS NE hG1
        have HSI : Hid _ := hsi
        clear hsi
        obtain ⟨⟨c0, c1, c2⟩, f0, f1, f2⟩ := hG1
        obtain ⟨⟨y0, y1, y2⟩, g0, g1, g2⟩ := hG2
        clear hR3 hKx hNw hNs
        go_wp2
        have GF := C3.set2 (.slice sa' si.ss.length sc') (C3.set1 (.slice wa' si.ws.length wc') (C3.set0 (.slice na s.n.length nc) HG2.out))
        obtain ⟨⟨t0, t1, t2⟩, -⟩ := GF
        refine bodyPost_ret (v := .agg #[.slice na s.n.length nc, .slice wa' si.ws.length wc', .slice sa' si.ss.length sc']) (by simp [results, Tryz.results62, go_sem, t0, t1, t2]) rfl ⟨_, _, rfl, ?_, ?_, Nx.mono HNW.out (by omega), Nx.mono HNS.out (by omega)⟩
        · rw [HSI.out]
          exact ((R3.far HR3.out ⟨w.heap.size + 1, 0, none⟩ _ NE.out.1.2 NE.out.2.2.2.2 NE.out.2.2.2.1).far ⟨w.heap.size + 1, 1, none⟩ _ NE.out.1.2 NE.out.2.2.2.2 NE.out.2.2.2.1).far ⟨w.heap.size + 1, 2, none⟩ _ NE.out.1.2 NE.out.2.2.2.2 NE.out.2.2.2.1
        · exact ((Kx.set HKX.out ⟨w.heap.size + 1, 0, none⟩ _ (.inl (by simp))).set ⟨w.heap.size + 1, 1, none⟩ _ (.inl (by simp))).set ⟨w.heap.size + 1, 2, none⟩ _ (.inl (by simp))

end Go.Proofs.YthcgdhlemieboaaGreat

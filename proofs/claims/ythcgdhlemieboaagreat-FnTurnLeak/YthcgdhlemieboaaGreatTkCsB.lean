/- All steps in one row, as the program counts them. -/
import Derived.Test.YthcgdhlemieboaaGreatTkPcx
import Derived.Maps.AppendAt
import Derived.OwnWalk
namespace Go.Proofs.YthcgdhlemieboaaGreat
open Go.RowKit
set_option linter.unusedSimpArgs false
set_option linter.unusedVariables false

theorem infoStep : (Tryz.prog.info? 66).map (fun i => (i.zero, i.size, i.bytes)) = some (some (.agg #[.int .i64 0, .int .i64 0, .int .i64 0, .int .i64 0, .int .i64 0, .int .i64 0, .slice none 0 0, .slice none 0 0]), 8, 96) := by kernel_rfl
theorem row_slice {w : World} {base : Nat} {v : Value} {n : Nat} {xs : List Value} (h : w.ownsRow base 66 8 v n xs) : ∃ a c, v = .slice a n c := by
  obtain ⟨_, ⟨rfl, rfl⟩ | ⟨g, cap, cur, rfl, _⟩⟩ := h
  · exact ⟨_, _, rfl⟩
  · exact ⟨_, _, rfl⟩
theorem use_method2 {n T g : Nat} {v : Value} {nm : String} {w : World} {X : Result (FuncId × Value)} (hX : Sem.run Tryz.prog (method n T v nm) w = X) (h : Sem.run Tryz.prog (method n T v nm) w = .ok (g, v) w) : X = .ok (g, v) w := hX.symm.trans h
def fitB (n : Int) (p : Pay) : Bool := if p.k = 1 then vIn n p.v && valFit n p.vk p.va p.vb else if p.k = 2 then vIn n p.v else vIn n p.v && vIn 3 p.h
def formB (p : Pay) (z : Bool) : Bool := stForm p.k (valForm p.vk p.vb) (decide (p.vk = 0 ∧ p.va = 0 ∧ p.vb = 0)) (decide (p.h = 0)) z
theorem payB_eq (n : Int) (p : Pay) (z : Bool) : payB n p z = (formB p z && fitB n p) := payB_form n p z
theorem piece_any (p : Pay) (ta ea : Option Addr) (lt tc le ec : Nat) (w : World) :
    Calls Tryz.prog 83 #[.agg #[.int .i64 p.k, .int .i64 p.v, .int .i64 p.vk, .int .i64 p.va, .int .i64 p.vb, .int .i64 p.h, .slice ta lt tc, .slice ea le ec]] w
      fun e w' => e = .returned (.tuple #[stPc p.k p.v p.vk p.va p.vb p.h (.slice ta lt tc) (.slice ea le ec), .bool (formB p (decide (lt + le = 0)))]) ∧ Below w.heap.size w w' :=
  stPiece_of _ _ _ _ _ _ _ _ _ _ _ _ _ _ _ _ rfl rfl (by simp)
theorem form_kind {p : Pay} {z : Bool} (h : formB p z = true) : (p.k = 1 ∧ valForm p.vk p.vb = true) ∨ p.k = 2 ∨ p.k = 3 := by
  unfold formB stForm at h
  by_cases h1 : p.k = 1
  · rw [if_pos h1] at h; simp at h; exact .inl ⟨h1, h.1.1⟩
  rw [if_neg h1] at h
  by_cases h2 : p.k = 2
  · exact .inr (.inl h2)
  rw [if_neg h2] at h
  by_cases h3 : p.k = 3
  · exact .inr (.inr h3)
  · rw [if_neg h3] at h; cases h

def Kp (w : World) (v : Value) (w' : World) : Prop := w.heap.size ≤ w'.heap.size ∧ ∀ k, k < w.heap.size → some k ≠ v.ownBlock → w'.heap[k]? = w.heap[k]?
def Ob (w : World) (v v' : Value) : Prop := ∀ k, v'.ownBlock = some k → v.ownBlock = some k ∨ w.heap.size ≤ k
theorem Kp.refl (w : World) (v : Value) : Kp w v w := ⟨Nat.le_refl _, fun _ _ _ => rfl⟩
theorem Ob.refl (w : World) (v : Value) : Ob w v v := fun _ h => .inl h
theorem Ob.nil (w : World) (v : Value) : Ob w v (.slice none 0 0) := fun _ h => by cases h
theorem Kp.trans {w w1 w2 : World} {v v1 : Value} (h : Kp w v w1) (ho : Ob w v v1) (k : Kp w1 v1 w2) : Kp w v w2 :=
  ⟨Nat.le_trans h.1 k.1, fun i hi hne => (k.2 i (Nat.lt_of_lt_of_le hi h.1) (fun e => by rcases ho i e.symm with h' | h'; exact hne h'.symm; omega)).trans (h.2 i hi hne)⟩
theorem Ob.trans {w w1 : World} {v v1 v2 : Value} (hs : w.heap.size ≤ w1.heap.size) (h : Ob w v v1) (k : Ob w1 v1 v2) : Ob w v v2 := fun i e => by
  rcases k i e with h' | h'
  · exact h i h'
  · exact .inr (by omega)
theorem Kp.below {w w1 w2 : World} {v : Value} (h : Kp w v w1) (k : Below w1.heap.size w1 w2) : Kp w v w2 :=
  ⟨Nat.le_trans h.1 k.size, fun i hi hne => (k.block i (Nat.lt_of_lt_of_le hi h.1)).trans (h.2 i hi hne)⟩
theorem Kp.of_below {w w1 : World} (k : Below w.heap.size w w1) (v : Value) : Kp w v w1 := (Kp.refl w v).below k
theorem Kp.of_grown {w w1 : World} {v : Value} (k : w.grownBy w1 v.ownBlock) : Kp w v w1 := ⟨k.size, fun i hi hne => k.block i hi hne⟩
theorem Ob.of_at {w : World} {v v' : Value} (h : v'.ownBlock = v.ownBlock ∨ v'.ownBlock = some w.heap.size) : Ob w v v' := fun i e => by
  rcases h with h | h
  · exact .inl (h ▸ e)
  · rw [h] at e; cases e; exact .inr (Nat.le_refl _)
theorem Kp.cell {w w' : World} {v : Value} (h : Kp w v w') {a : Addr} {u : Value} (hc : w.cell? a = some u) (hne : some a.block ≠ v.ownBlock) : w'.cell? a = some u :=
  (World.cell?_of_block (h.2 a.block (World.block_lt_of_cell? w a hc) hne)).trans hc
theorem row_below {w w' : World} {base : Nat} {e : TypeId} {size : Nat} {v : Value} {n : Nat} {xs : List Value} (h : w.ownsRow base e size v n xs) (hb : Below w.heap.size w w') : w'.ownsRow base e size v n xs := by
  obtain ⟨h0, h1 | ⟨g, cap, cur, hv, hg, hh, r⟩⟩ := h
  · exact ⟨h0, .inl h1⟩
  · have hlt : g < w.heap.size := by
      rcases Nat.lt_or_ge g w.heap.size with h | h
      · exact h
      · rw [Array.getElem?_eq_none h] at hh; cases hh
    exact ⟨h0, .inr ⟨g, cap, cur, hv, hg, (hb.block g hlt).trans hh, r⟩⟩
theorem cells8_new (w : World) (p : Pay) (t e : Value) (T : TypeId) : ∀ j u, (cells8 p t e)[j]? = some u → (w.alloc (.cells #[.int .i64 p.k, .int .i64 p.v, .int .i64 p.vk, .int .i64 p.va, .int .i64 p.vb, .int .i64 p.h, t, e] T)).cell? ((⟨w.heap.size, 0, none⟩ : Addr).add j) = some u := by
  intro j u hj
  match j, hj with
  | 0, hj | 1, hj | 2, hj | 3, hj | 4, hj | 5, hj | 6, hj | 7, hj => simp [cells8] at hj; subst hj; simp [Addr.add]
  | (j + 8), hj => simp [cells8] at hj
theorem cells8_one (p : Pay) (ta ea : Option Addr) (lt tc le ec : Nat) : ∀ u ∈ cells8 p (.slice ta lt tc) (.slice ea le ec), u.oneCell' = true := by
  intro u hu
  simp [cells8] at hu
  rcases hu with rfl | rfl | rfl | rfl | rfl | rfl | rfl | rfl <;> rfl

theorem cs_nil (v : Value) (a : Option Addr) (c : Nat) (vars deep : Int) (w : World) :
    Calls Tryz.prog 66 #[v, .slice a 0 c, .int .i64 vars, .int .i64 deep] w fun e w' => e = .returned (.tuple #[v, .bool true]) ∧ w' = w := by
  go_enter Tryz.func66, Tryz.ntmps66
  go_wp2
  refine wp_loop_rounds 1 ?_
  rw [rounds_succ]
  go_wp2
  refine bodyPost_ret (v := .tuple #[v, .bool true]) (by simp [results, Tryz.results66, go_sem]) rfl ⟨rfl, rfl⟩

set_option maxHeartbeats 8000000 in
set_option maxRecDepth 20000 in
theorem cs_any (W : World) (vars : Int) : ∀ (d : Nat) (T : Tr d) (s : Value) (deep : Int) (v : Value) (n : Nat) (xs : List Value) (w : World), Rep W d s T → Below W.heap.size W w → w.ownsRow W.heap.size 66 8 v n xs → n ≤ 8 → 1 ≤ deep → deep ≤ 4 →
    Calls Tryz.prog 66 #[v, s, .int .i64 vars, .int .i64 deep] w fun e w' => (Below W.heap.size W w' ∧ Kp w v w') ∧
      (((stB vars d (4 - deep) T && decide (n + cnt d T ≤ 8)) = true ∧ ∃ v' xs', e = .returned (.tuple #[v', .bool true]) ∧ Ob w v v' ∧ w'.ownsRow W.heap.size 66 8 v' (n + cnt d T) (xs ++ xs') ∧ FlatR W (flat d T) xs') ∨
        ((stB vars d (4 - deep) T && decide (n + cnt d T ≤ 8)) = false ∧ e = .returned (.tuple #[.slice none 0 0, .bool false]))) := by
  intro d
  induction d with
  | zero =>
    intro T s deep v n xs w h hb ho hn h1 h4
    obtain ⟨a, c, rfl⟩ := h
    refine (cs_nil v a c vars deep w).mono ?_
    rintro e w' ⟨rfl, rfl⟩
    exact ⟨⟨hb, Kp.refl _ _⟩, .inl ⟨by simp [stB, cnt, hn], v, [], rfl, Ob.refl _ _, by simpa [cnt] using ho, rfl⟩⟩
  | succ d ih =>
    intro (l : List (Pay × Tr d × Tr d)) s deep v n xs w h hb ho hn h1 h4
    obtain ⟨a, c, rfl, hlc, hcm, hcell⟩ := h
    have hlm : (l.length : Int) ≤ 9223372036854775807 := by unfold maxLen at hcm; omega
    have HC : Hid (∀ i (hi : i < l.length), ∃ (p : Pay) (T1 T2 : Tr d) (b off : Nat) (ta : Option Addr) (tc : Nat) (ea : Option Addr) (ec : Nat), l[i] = (p, T1, T2) ∧ a = some ⟨b, off, none⟩ ∧ StepAt W b (off + i * 8) p (.slice ta (ln d T1) tc) (.slice ea (ln d T2) ec) ∧ Rep W d (.slice ta (ln d T1) tc) T1 ∧ Rep W d (.slice ea (ln d T2) ec) T2) := (show ∀ i (hi : i < l.length), _ by
      intro i hi
      obtain ⟨b, off, t, e, ha, hS, r1, r2⟩ := hcell i hi
      obtain ⟨ta, tc, rfl⟩ := r1.slice
      obtain ⟨ea, ec, rfl⟩ := r2.slice
      exact ⟨_, _, _, b, off, ta, tc, ea, ec, rfl, ha, hS, r1, r2⟩)
    have IH : Hid _ := ih
    obtain ⟨i0, hi0, hz0, hz1, hz2⟩ := info_parts infoStep
    clear ih hcell
    go_enter Tryz.func66, Tryz.ntmps66
    go_wp2
    go_loopw [0, 18] (fun o j wr => ∃ (i : Nat) (v' : Value) (xs' : List Value), i ≤ l.length ∧ j = .int .i64 i ∧ o = v' ∧ Below W.heap.size W wr ∧ Kp w v wr ∧ Ob w v v' ∧ wr.ownsRow W.heap.size 66 8 v' (n + cnt (d + 1) (l.take i : List (Pay × Tr d × Tr d))) (xs ++ xs') ∧ FlatR W (flat (d + 1) (l.take i : List (Pay × Tr d × Tr d))) xs' ∧
        stB vars (d + 1) (4 - deep) (l.take i : List (Pay × Tr d × Tr d)) = true ∧ n + cnt (d + 1) (l.take i : List (Pay × Tr d × Tr d)) ≤ 8) (fun _ j _ => l.length - (intOf j).toNat)
    case atStart => exact ⟨0, v, [], by omega, rfl, rfl, hb, Kp.refl _ _, Ob.refl _ _, by simpa [cnt] using ho, rfl, rfl, by simpa [cnt] using hn⟩
    case round =>
      obtain ⟨i, v', xs', hi, rfl, rfl, hbr, hkp, hob, hor, hfl, hst, hcn⟩ := hrel
      by_cases hlt : i < l.length
      · obtain ⟨p, T1, T2, b, off, ta, tc, ea, ec, hx, rfl, hS, r1, r2⟩ := HC.out i hlt
        obtain ⟨k0, k1, k2, k3, k4, k5, k6, k7⟩ := hS.on (w' := wr) (fun a v h => cell_later hbr h)
        have i0' : (0 : Int) ≤ (i : Int) := by omega
        have i1' : (i : Int) < (l.length : Int) := by omega
        have q1 := cnt_take l i hlt
        have q2 := flat_take l i hlt
        have q3 := stB_take (n := vars) (deep := 4 - deep) l i hlt
        rw [hx] at q1 q2 q3
        dsimp only at q1 q2 q3
        rw [payB_eq, hst, Bool.true_and] at q3
        have q4 := cnt_take_le l (i + 1)
        have q5 := stB_take_false (n := vars) (deep := 4 - deep) l (i + 1)
        obtain ⟨ga, gc, hg⟩ := row_slice hor
        subst hg
        -- what is still to be said when it is false
        have FAIL : ((decide (1 ≤ 4 - deep) && (formB p (decide (ln d T1 + ln d T2 = 0)) && fitB vars p) && (stB vars d (4 - deep - 1) T1 && stB vars d (4 - deep - 1) T2)) = false ∨ 8 < n + cnt (d + 1) (l.take i : List (Pay × Tr d × Tr d)) + 1 + cnt d T1 + cnt d T2) → (stB vars (d + 1) (4 - deep) (l : List (Pay × Tr d × Tr d)) && decide (n + cnt (d + 1) (l : List (Pay × Tr d × Tr d)) ≤ 8)) = false := by
          rintro (h | h)
          · rw [q5 (q3.trans h)]; rfl
          · have : ¬ n + cnt (d + 1) (l : List (Pay × Tr d × Tr d)) ≤ 8 := by omega
            simp [this]
        have HF : Hid _ := FAIL
        have HQ1 : Hid _ := q1
        have HQ2 : Hid _ := q2
        have HQ3 : Hid _ := q3
        have HO : Hid _ := hor
        have HFL : Hid _ := hfl
        have HBR : Hid (Below W.heap.size W wr) := hbr
        have HKP : Hid _ := hkp
        have HOB : Hid _ := hob
        have hsz : W.heap.size ≤ wr.heap.size := hbr.size
        clear FAIL q1 q2 q3 q4 q5 hor hfl hbr hS hkp hob
        generalize hN : n + cnt (d + 1) (l.take i : List (Pay × Tr d × Tr d)) = N at *
        go_wp2_with fail
        go_at_call 83; refine (piece_any _ _ _ _ _ _ _ _).mono ?_; rintro e w3 ⟨rfl, hb3⟩; obtain ⟨hc3, hf3⟩ := bcell hb3; have hs3 : wr.heap.size < w3.heap.size := (by have := hb3.size; simp at this; omega)
        have B3' : Below wr.heap.size wr w3 := Below.then ((Below.refl _ _).alloc (Nat.le_refl _) _) hb3 (by simp)
        have B3 : Below W.heap.size W w3 := Below.then HBR.out B3' hsz
        have K3 : Kp w v w3 := Kp.below HKP.out B3'
        clear k0 k1 k2 k3 k4 k5 k6 k7
        cases hform : formB p (decide (ln d T1 + ln d T2 = 0))
        · go_wp2
          refine bodyPost_ret (v := .tuple #[.slice none 0 0, .bool false]) (by simp [results, Tryz.results66, go_sem]) rfl ⟨⟨B3, K3⟩, .inr ⟨HF.out (.inl (by rw [hform]; simp)), rfl⟩⟩
        · have kinds := form_kind hform
          obtain ⟨ty, val, hpc, hk⟩ : ∃ ty val, stPc p.k p.v p.vk p.va p.vb p.h (.slice ta (ln d T1) tc) (.slice ea (ln d T2) ec) = .iface ty val ∧ ((ty = 141 ∧ val = .agg #[.int .i64 p.v, valPc p.vk p.va p.vb] ∧ p.k = 1 ∧ valForm p.vk p.vb = true) ∨
              (ty = 143 ∧ val = .agg #[.int .i64 p.v, .slice ta (ln d T1) tc, .slice ea (ln d T2) ec] ∧ p.k = 2) ∨ (ty = 145 ∧ val = .agg #[.int .i64 p.v, .int .i64 p.h] ∧ p.k = 3)) := by
            rcases kinds with ⟨hk, hv⟩ | hk | hk
            · exact ⟨_, _, by rw [stPc, if_pos hk], .inl ⟨rfl, rfl, hk, hv⟩⟩
            · exact ⟨_, _, by rw [stPc, if_neg (by omega), if_pos hk], .inr (.inl ⟨rfl, rfl, hk⟩)⟩
            · exact ⟨_, _, by rw [stPc, if_neg (by omega), if_neg (by omega), if_pos hk], .inr (.inr ⟨rfl, rfl, hk⟩)⟩
          rw [hpc]
          clear hpc kinds
          have HK : Hid _ := hk
          clear hk
          go_wp2_with fail
          generalize hX : Sem.run Tryz.prog (method _ _ _ _) _ = X
          have hx : ∃ g, X = .ok (g, val) w3 ∧ (Sem.run Tryz.prog (callFunc g #[val, .int .i64 vars]) w3 = .ok (.enter g #[val, .int .i64 vars]) w3) ∧ Hid (∀ wx, Calls Tryz.prog g #[val, .int .i64 vars] wx fun e w' => e = .returned (.bool (fitB vars p)) ∧ Below wx.heap.size wx w') := by
            rcases HK.out with ⟨rfl, rfl, hk, hv⟩ | ⟨rfl, rfl, hk⟩ | ⟨rfl, rfl, hk⟩
            · exact ⟨119, use_method2 hX (by kernel_rfl), (by kernel_rfl), (show ∀ wx, _ by intro wx; rw [fitB, if_pos hk]; exact setFits_any _ _ _ _ _ _ hv)⟩
            · exact ⟨120, use_method2 hX (by kernel_rfl), (by kernel_rfl), (show ∀ wx, _ by intro wx; rw [fitB, if_neg (by omega), if_pos hk]; exact ifFits_any _ _ (.bool true) (.bool true) _ _ _ _ _ _ _)⟩
            · exact ⟨121, use_method2 hX (by kernel_rfl), (by kernel_rfl), (show ∀ wx, _ by intro wx; rw [fitB, if_neg (by omega), if_neg (by omega)]; exact tellFits_any _ _ _ _)⟩
          obtain ⟨g, rfl, hcf, cg⟩ := hx
          clear hX HK
          go_wp2_with fail
          clear hcf
          refine (cg.out _).mono ?_; rintro e w4 ⟨rfl, hb4⟩; obtain ⟨hc4, hf4⟩ := bcell hb4; have hs4 : wr.heap.size < w4.heap.size := (by have := hb4.size; omega)
          have B4' : Below wr.heap.size wr w4 := Below.then B3' hb4 (by omega)
          have B4 : Below W.heap.size W w4 := Below.then HBR.out B4' hsz
          have K4 : Kp w v w4 := Kp.below HKP.out B4'
          clear K3 cg
          cases hfit : fitB vars p
          · go_wp2
            refine bodyPost_ret (v := .tuple #[.slice none 0 0, .bool false]) (by simp [results, Tryz.results66, go_sem]) rfl ⟨⟨B4, K4⟩, .inr ⟨HF.out (.inl (by rw [hfit]; simp)), rfl⟩⟩
          by_cases hd4 : 3 < deep
          · have hno : decide (1 ≤ 4 - deep) = false := by simp; omega
            have HNO : Hid _ := hno
            clear hno
            go_wp2
            refine bodyPost_ret (v := .tuple #[.slice none 0 0, .bool false]) (by simp [results, Tryz.results66, go_sem]) rfl ⟨⟨B4, K4⟩, .inr ⟨HF.out (.inl (by rw [HNO.out]; simp)), rfl⟩⟩
          by_cases h8 : (N : Int) = 8
          · go_wp2
            refine bodyPost_ret (v := .tuple #[.slice none 0 0, .bool false]) (by simp [results, Tryz.results66, go_sem]) rfl ⟨⟨B4, K4⟩, .inr ⟨HF.out (.inr (by omega)), rfl⟩⟩
          have h8n : ((N : Int) == 8) = false := by simp; omega
          have hd4' : decide (3 < deep) = false := by simpa using hd4
          have HO4 := row_below HO.out B4'
          have gblk : ∀ k, (Value.slice ga N gc).ownBlock = some k → k < wr.heap.size := fun k hk => (World.ownsRow.lt HO.out k hk).2
          have hw1 := w64 (deep + 1) (by omega)
          have hW4 : W.heap.size ≤ w4.heap.size := B4.size
          go_wp2_with (at_builtin; refine wpList_append_own_at _ rfl _ _ 24 rfl W.heap.size 66 i0 _ 8 96 Tryz.underlying24 hi0 hz0 hz1 hz2 rfl (by decide) _ _ _ rfl (HO4.alloc _) ⟨w4.heap.size, 0, none⟩ 1 1 (cells8 p (.slice ta (ln d T1) tc) (.slice ea (ln d T2) ec)) rfl rfl ?c1 ?c2 ?c3 ?c4 ?c5 ?_)
          case c1 => exact cells8_new _ _ _ _ _
          case c2 => exact cells8_one _ _ _ _ _ _ _
          case c3 => unfold maxLen; omega
          case c4 => omega
          case c5 => simp; omega
          intro v5 w5 hown5 hgrow5 _ hat5
          have B5' : Below w4.heap.size w4 (w4.alloc (.cells #[.int .i64 p.k, .int .i64 p.v, .int .i64 p.vk, .int .i64 p.va, .int .i64 p.vb, .int .i64 p.h, .slice ta (ln d T1) tc, .slice ea (ln d T2) ec] 66)) := (Below.refl _ _).alloc (Nat.le_refl _) _
          have B5 : Below W.heap.size W w5 := (Below.then B4 B5' hW4).grown hgrow5 (by simp; omega) (fun j hj => (World.ownsRow.lt HO.out j hj).1)
          have K5 : Kp w v w5 := Kp.trans (Kp.below K4 B5') HOB.out (Kp.of_grown hgrow5)
          have O5 : Ob w v v5 := Ob.trans (Kp.below K4 B5').1 HOB.out (Ob.of_at (by simpa using hat5))
          have nb : some wr.heap.size ≠ (Value.slice ga N gc).ownBlock := fun e => by have := gblk _ e.symm; omega
          have x6 : w5.cell? ⟨wr.heap.size, 6, none⟩ = some (.slice ta (ln d T1) tc) := hgrow5.cell (cell_later B5' (cell_later hb4 (cell_later hb3 (by simp)))) nb
          have x7 : w5.cell? ⟨wr.heap.size, 7, none⟩ = some (.slice ea (ln d T2) ec) := hgrow5.cell (cell_later B5' (cell_later hb4 (cell_later hb3 (by simp)))) nb
          have s5 : w4.heap.size < w5.heap.size := by have := hgrow5.size; simp at this; omega
          have ob5 : ∀ k, v5.ownBlock = some k → k < w5.heap.size := fun k hk => (World.ownsRow.lt hown5 k hk).2
          have H5 : Hid (w5.ownsRow W.heap.size 66 8 v5 (N + 1) (xs ++ (xs' ++ cells8 p (.slice ta (ln d T1) tc) (.slice ea (ln d T2) ec)))) := hown5
          clear hgrow5 hat5 hown5 hb3 hb4 hc3 hf3 hc4 hf4 B4' B3' B3 B4 K4 HO4 HO gblk nb B5' HKP HBR HOB
          go_wp2_with fail
          have W5 : W.heap.size ≤ w5.heap.size := B5.size
          have A5 : Below w5.heap.size w5 (w5.alloc (.cells #[.slice ta (ln d T1) tc, .slice ea (ln d T2) ec] 24)) := (Below.refl _ _).alloc (Nat.le_refl _) _
          have I1 := IH.out T1 (.slice ta (ln d T1) tc) (deep + 1) v5 (N + 1) _ _ r1 (Below.then B5 A5 W5) (row_below H5.out A5) (by omega) (by omega) (by omega)
          have I1' : Hid _ := I1
          clear I1
          refine wp_loop_rounds 3 ?_
          rw [rounds_succ]
          go_wp2_with fail
          refine Calls.mono I1'.out ?_
          rintro e w6 ⟨⟨B6, K6⟩, ⟨ok6, v6, xs6, rfl, O6, own6, fl6⟩ | ⟨no6, rfl⟩⟩
          case inr =>
            have KK : Kp w v w6 := Kp.trans (Kp.below K5 A5) O5 K6
            have HNO : Hid _ := no6
            clear no6 K6 O5 K5
            go_wp2
            refine bodyPost_ret (v := .tuple #[.slice none 0 0, .bool false]) (by simp [results, Tryz.results66, go_sem]) rfl ⟨⟨B6, KK⟩, .inr ⟨HF.out (by
              have no6 := HNO.out
              rw [show (4 : Int) - (deep + 1) = 4 - deep - 1 by omega] at no6
              cases hq : stB vars d (4 - deep - 1) T1
              · exact .inl (by simp)
              · rw [hq] at no6; simp at no6; exact .inr (by omega)), rfl⟩⟩
          have e6 : w6.cell? ⟨w5.heap.size, 1, none⟩ = some (.slice ea (ln d T2) ec) := K6.cell (by simp) (fun e => by have := ob5 _ e.symm; simp at this)
          have K6' : Kp w v w6 := Kp.trans (Kp.below K5 A5) O5 K6
          have O6' : Ob w v v6 := Ob.trans (Kp.below K5 A5).1 O5 O6
          rw [show (4 : Int) - (deep + 1) = 4 - deep - 1 by omega] at ok6
          simp only [Bool.and_eq_true, decide_eq_true_eq] at ok6
          have I2 := IH.out T2 (.slice ea (ln d T2) ec) (deep + 1) v6 _ _ w6 r2 B6 own6 (by omega) (by omega) (by omega)
          have I2' : Hid _ := I2
          have OK6 : Hid _ := ok6
          have FL6 : Hid _ := fl6
          clear I2 K6 O6 K5 O5 I1' own6 ok6 fl6 x6 x7 A5 H5
          go_wp2_with fail
          rw [rounds_succ]
          go_wp2_with fail
          refine Calls.mono I2'.out ?_
          rintro e w7 ⟨⟨B7, K7⟩, ⟨ok7, v7, xs7, rfl, O7, own7, fl7⟩ | ⟨no7, rfl⟩⟩
          case inr =>
            have KK : Kp w v w7 := Kp.trans K6' O6' K7
            have HNO : Hid _ := no7
            clear no7 K7 O6' K6'
            go_wp2
            refine bodyPost_ret (v := .tuple #[.slice none 0 0, .bool false]) (by simp [results, Tryz.results66, go_sem]) rfl ⟨⟨B7, KK⟩, .inr ⟨HF.out (by
              have no7 := HNO.out
              rw [show (4 : Int) - (deep + 1) = 4 - deep - 1 by omega] at no7
              cases hq : stB vars d (4 - deep - 1) T2
              · exact .inl (by simp)
              · rw [hq] at no7; simp at no7; exact .inr (by omega)), rfl⟩⟩
          have K7' : Kp w v w7 := Kp.trans K6' O6' K7
          have O7' : Ob w v v7 := Ob.trans K6'.1 O6' O7
          rw [show (4 : Int) - (deep + 1) = 4 - deep - 1 by omega] at ok7
          simp only [Bool.and_eq_true, decide_eq_true_eq] at ok7
          have OK7 : Hid _ := ok7
          have FL7 : Hid _ := fl7
          have OW7 : Hid _ := own7
          clear K7 O7 K6' O6' I2' own7 ok7 fl7 e6
          go_wp2_with fail
          rw [rounds_succ]
          go_wp2_with fail
          have ecn : n + cnt (d + 1) (l.take (i + 1) : List (Pay × Tr d × Tr d)) = N + 1 + cnt d T1 + cnt d T2 := by rw [HQ1.out]; omega
          have ok6 := OK6.out
          have ok7 := OK7.out
          refine ⟨⟨i + 1, v7, xs' ++ (cells8 p (.slice ta (ln d T1) tc) (.slice ea (ln d T2) ec) ++ (xs6 ++ xs7)), by omega, by simp, rfl, B7, K7', O7', ?_, ?_, ?_, ?_⟩, ?_⟩
          · have ow : World.ownsRow w7 W.heap.size 66 8 v7 (N + 1 + cnt d T1 + cnt d T2) _ := OW7.out
            rw [ecn]
            simp only [List.append_assoc] at ow ⊢
            exact ow
          · rw [HQ2.out]
            exact FlatR.app HFL.out ⟨_, _, _, rfl, r1, r2, FlatR.app FL6.out FL7.out⟩
          · rw [HQ3.out, hform, hfit, ok6.1, ok7.1]; simp; omega
          · omega
          · simp [intOf]; omega
      · have : i = l.length := by omega
        subst this
        rw [List.take_length] at hor hfl hst hcn
        have HO : Hid _ := hor
        have HFL : Hid _ := hfl
        have HST : Hid _ := hst
        have HCN : Hid _ := hcn
        have HBR : Hid _ := hbr
        have HKP : Hid _ := hkp
        have HOB : Hid _ := hob
        clear hor hfl hst hcn hbr hkp hob
        go_wp2
        refine bodyPost_ret (v := .tuple #[u0, .bool true]) (by simp [results, Tryz.results66, go_sem]) rfl ⟨⟨HBR.out, HKP.out⟩, .inl ⟨by rw [HST.out]; simpa using HCN.out, u0, xs', rfl, HOB.out, HO.out, HFL.out⟩⟩

end Go.Proofs.YthcgdhlemieboaaGreat

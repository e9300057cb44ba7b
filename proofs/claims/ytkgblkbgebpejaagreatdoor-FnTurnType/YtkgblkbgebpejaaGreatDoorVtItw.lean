/- TypeWhy, by the program itself: its fault is asked for by errors.Is and errors.As. -/
import Derived.Test.YtkgblkbgebpejaaGreatDoorVtIcs
import Derived.Test.YtkgblkbgebpejaaGreatDoorVtTyo
import Derived.Test.YtkgblkbgebpejaaGreatDoorVtTyx
namespace Go.Proofs.YtkgblkbgebpejaaGreatDoor
open Go.RowKit
set_option linter.unusedSimpArgs false
set_option linter.unusedVariables false
attribute [local go_sem] World.cell?_alloc_some

theorem errR_three (s0 s1 : Addr) (ls : List (Int × Int)) (d : Nat) (T : Tr d) : (errR s0 s1 ls d T = .nilIface ∧ whyR ls d T = (0, false)) ∨ (errR s0 s1 ls d T = .iface 189 (.pointer (some s0)) ∧ whyR ls d T = (0, false)) ∨
    ∃ i : Nat, errR s0 s1 ls d T = .iface 67 (.agg #[.int .i64 (i : Int), .iface 189 (.pointer (some s1))]) ∧ whyR ls d T = ((i : Int), true) := by
  unfold errR whyR
  cases hp : progB ls d T
  · exact .inr (.inl ⟨rfl, rfl⟩)
  · cases hb : badI ls (prs ls d T topL) with
    | none => exact .inl ⟨rfl, rfl⟩
    | some i => exact .inr (.inr ⟨i, rfl, rfl⟩)
/-- What package variables hold: two errors of errors.New's make, and the type of errors. -/
def Gd (w : World) (s0 s1 : Addr) : Prop := w.cell? ⟨1, 0, none⟩ = some (.iface 189 (.pointer (some s0))) ∧ w.cell? ⟨0, 0, none⟩ = some (.iface 189 (.pointer (some s1))) ∧
  w.cell? ⟨2, 0, none⟩ = some (.iface 145 (.agg #[.pointer (some ⟨3, 61, none⟩)])) ∧ s0 ≠ s1 ∧ (∃ c t, w.heap[s0.block]? = some (.cells c t (0, 0))) ∧ ∃ c t, w.heap[s1.block]? = some (.cells c t (0, 0))
theorem Gd.below {w w' : World} {s0 s1 : Addr} (h : Gd w s0 s1) (hb : Below w.heap.size w w') : Gd w' s0 s1 := by
  obtain ⟨h0, h1, h2, hn, ⟨c0, t0, e0⟩, c1, t1, e1⟩ := h
  have lt : ∀ {b : Nat} {o : Obj}, w.heap[b]? = some o → b < w.heap.size := fun h => (Array.getElem?_eq_some_iff.1 h).1
  exact ⟨cell_later hb h0, cell_later hb h1, cell_later hb h2, hn, ⟨c0, t0, (hb.block _ (lt e0)).trans e0⟩, c1, t1, (hb.block _ (lt e1)).trans e1⟩

set_option maxHeartbeats 8000000 in
set_option maxRecDepth 20000 in
theorem typeWhy_any {d : Nat} {T : Tr d} {lv sv : Value} {ls : List (Int × Int)} {w : World} {s0 s1 : Addr} (hL : LRep w lv ls) (hR : Rep w d sv T) (hg : Gd w s0 s1) :
    Calls Tryz.prog 8 #[.agg #[lv, sv]] w fun e w' => e = .returned (.tuple #[.int .i64 (whyR ls d T).1, .bool (whyR ls d T).2]) ∧ Below w.heap.size w w' := by
  have A : Below w.heap.size w (w.alloc (.cells #[lv, sv] 26)) := (Below.refl _ _).alloc (Nat.le_refl _) _
  have C1 : Hid _ := typingOf_any (hL.below A) (hR.below A) (cell_later A hg.1) (cell_later A hg.2.1)
  have HG : Hid (∀ wz, Below w.heap.size w wz → Gd wz s0 s1) := (show ∀ wz, _ from fun wz hb => hg.below hb)
  have HA : Hid (Below w.heap.size w (w.alloc (.cells #[lv, sv] 26))) := A
  obtain ⟨la, lc, rfl, -⟩ := hL
  obtain ⟨sa, sc, rfl⟩ := hR.slice
  clear hR A hg
  go_enter Tryz.func8, Tryz.ntmps8
  go_wp2_with fail
  go_at_call 26; refine Calls.mono C1.out ?_
  rintro e w1 ⟨va, vn, vc, da, dn, dc, aa, ac, sa', sc', bd, rfl, hb, -, -⟩
  have HB1 : Hid (Below w.heap.size w w1) := Below.then HA.out hb HA.out.size
  have hg1 := (HG.out w1 HB1.out).2.1
  generalize (atR ls d T).length = an
  generalize (seR ls d T).length = sn
  clear hb C1 HA
  have HEC := errR_three s0 s1 ls d T
  rcases bd with _ | ib
  · rcases HEC with ⟨he, hv⟩ | ⟨he, hv⟩ | ⟨i, he, hv⟩
    · rw [he]
      have HV : Hid _ := hv
      clear he hv
      try simp only [fval]
      have B2 : Below w1.heap.size w1 ((w1.alloc (.cells #[.slice va vn vc, .slice da dn dc, .slice aa an ac, .slice sa' sn sc', .nilIface] 63)).alloc (.cells #[.int .i64 0, .nilIface] 67)) := ((Below.refl _ _).alloc (Nat.le_refl _) _).alloc (by simp) _
      have G2 := C2.new (w1.alloc (.cells #[.slice va vn vc, .slice da dn dc, .slice aa an ac, .slice sa' sn sc', .nilIface] 63)) (.int .i64 0) .nilIface 67
      rw [show (w1.alloc (.cells #[.slice va vn vc, .slice da dn dc, .slice aa an ac, .slice sa' sn sc', .nilIface] 63)).heap.size = w1.heap.size + 1 by simp] at G2
      obtain ⟨w2, hw2⟩ : ∃ W, (w1.alloc (.cells #[.slice va vn vc, .slice da dn dc, .slice aa an ac, .slice sa' sn sc', .nilIface] 63)).alloc (.cells #[.int .i64 0, .nilIface] 67) = W := ⟨_, rfl⟩
      rw [hw2] at B2 G2
      have HW2 : Hid _ := hw2
      have HB2 : Hid (Below w.heap.size w w2) := Below.then HB1.out B2 HB1.out.size
      have hle : w.heap.size ≤ w1.heap.size := HB1.out.size
      have HG2 : Hid (C2 w2 (w1.heap.size + 1) (.int .i64 0) .nilIface) := G2
      have KI : Hid _ := is_nil s1 w2
      clear hw2 B2 G2
      go_wp2_with fail
      rw [HW2.out]
      (try go_at_call 27); refine Calls.mono KI.out ?_
      rintro e w3 ⟨rfl, rfl⟩
      clear HW2 KI
      go_wp2
      exact bodyPost_ret (v := .tuple #[.int .i64 0, .bool false]) (by simp [results, Tryz.results8, go_sem]) rfl ⟨by rw [HV.out], HB2.out⟩
    · rw [he]
      have HV : Hid _ := hv
      clear he hv
      try simp only [fval]
      have B2 : Below w1.heap.size w1 ((w1.alloc (.cells #[.slice va vn vc, .slice da dn dc, .slice aa an ac, .slice sa' sn sc', .nilIface] 63)).alloc (.cells #[.int .i64 0, .nilIface] 67)) := ((Below.refl _ _).alloc (Nat.le_refl _) _).alloc (by simp) _
      have G2 := C2.new (w1.alloc (.cells #[.slice va vn vc, .slice da dn dc, .slice aa an ac, .slice sa' sn sc', .nilIface] 63)) (.int .i64 0) .nilIface 67
      rw [show (w1.alloc (.cells #[.slice va vn vc, .slice da dn dc, .slice aa an ac, .slice sa' sn sc', .nilIface] 63)).heap.size = w1.heap.size + 1 by simp] at G2
      obtain ⟨w2, hw2⟩ : ∃ W, (w1.alloc (.cells #[.slice va vn vc, .slice da dn dc, .slice aa an ac, .slice sa' sn sc', .nilIface] 63)).alloc (.cells #[.int .i64 0, .nilIface] 67) = W := ⟨_, rfl⟩
      rw [hw2] at B2 G2
      have HW2 : Hid _ := hw2
      have HB2 : Hid (Below w.heap.size w w2) := Below.then HB1.out B2 HB1.out.size
      have hle : w.heap.size ≤ w1.heap.size := HB1.out.size
      have HG2 : Hid (C2 w2 (w1.heap.size + 1) (.int .i64 0) .nilIface) := G2
      obtain ⟨_, _, _, hne, ⟨c0, t0, e0⟩, c1, t1, e1⟩ := HG.out w2 HB2.out
      have KI : Hid _ := is_other s0 s1 c0 c1 t0 t1 w2 hne e0 e1
      clear hne e0 e1
      clear hw2 B2 G2
      go_wp2_with fail
      rw [HW2.out]
      (try go_at_call 27); refine Calls.mono KI.out ?_
      rintro e w3 ⟨rfl, rfl⟩
      clear HW2 KI
      go_wp2
      exact bodyPost_ret (v := .tuple #[.int .i64 0, .bool false]) (by simp [results, Tryz.results8, go_sem]) rfl ⟨by rw [HV.out], HB2.out⟩
    · rw [he]
      have HV : Hid _ := hv
      clear he hv
      try simp only [fval]
      have B2 : Below w1.heap.size w1 ((w1.alloc (.cells #[.slice va vn vc, .slice da dn dc, .slice aa an ac, .slice sa' sn sc', .nilIface] 63)).alloc (.cells #[.int .i64 0, .nilIface] 67)) := ((Below.refl _ _).alloc (Nat.le_refl _) _).alloc (by simp) _
      have G2 := C2.new (w1.alloc (.cells #[.slice va vn vc, .slice da dn dc, .slice aa an ac, .slice sa' sn sc', .nilIface] 63)) (.int .i64 0) .nilIface 67
      rw [show (w1.alloc (.cells #[.slice va vn vc, .slice da dn dc, .slice aa an ac, .slice sa' sn sc', .nilIface] 63)).heap.size = w1.heap.size + 1 by simp] at G2
      obtain ⟨w2, hw2⟩ : ∃ W, (w1.alloc (.cells #[.slice va vn vc, .slice da dn dc, .slice aa an ac, .slice sa' sn sc', .nilIface] 63)).alloc (.cells #[.int .i64 0, .nilIface] 67) = W := ⟨_, rfl⟩
      rw [hw2] at B2 G2
      have HW2 : Hid _ := hw2
      have HB2 : Hid (Below w.heap.size w w2) := Below.then HB1.out B2 HB1.out.size
      have hle : w.heap.size ≤ w1.heap.size := HB1.out.size
      have HG2 : Hid (C2 w2 (w1.heap.size + 1) (.int .i64 0) .nilIface) := G2
      have KI : Hid _ := is_fault (i : Int) s1 w2
      clear hw2 B2 G2
      go_wp2_with fail
      rw [HW2.out]
      (try go_at_call 27); refine Calls.mono KI.out ?_
      rintro e w3 ⟨rfl, hb3⟩
      have HB3 : Hid (Below w.heap.size w w3) := Below.then HB2.out hb3 HB2.out.size
      obtain ⟨⟨z0, z1⟩, f0, f1⟩ := HG2.out.same (hb3.block _ (World.block_lt_of_cell? _ _ HG2.out.1.1))
      have KA : Hid _ := as_hit (w1.heap.size + 1) (i : Int) (.pointer (some s1)) _ _ w3 (HG.out w3 HB3.out).2.2.1 z0 z1 f0 f1
      clear HW2 KI hb3 z0 z1 f0 f1
      go_wp2_with fail
      (try go_at_call 28); refine Calls.mono KA.out ?_
      rintro e w4 ⟨rfl, hc, hb4⟩
      have HB4 : Hid (Below w.heap.size w w4) := HB3.out.trans (hb4.mono (by omega))
      clear hb4 KA
      go_wp2
      exact bodyPost_ret (v := .tuple #[.int .i64 (i : Int), .bool true]) (by simp [results, Tryz.results8, go_sem]) rfl ⟨by rw [HV.out], HB4.out⟩
  · rcases HEC with ⟨he, hv⟩ | ⟨he, hv⟩ | ⟨i, he, hv⟩
    · rw [he]
      have HV : Hid _ := hv
      clear he hv
      try simp only [fval]
      have B2 : Below w1.heap.size w1 ((w1.alloc (.cells #[.slice va vn vc, .slice da dn dc, .slice aa an ac, .slice sa' sn sc', .iface 67 (.agg #[.int .i64 (ib : Int), .iface 189 (.pointer (some s1))])] 63)).alloc (.cells #[.int .i64 0, .nilIface] 67)) := ((Below.refl _ _).alloc (Nat.le_refl _) _).alloc (by simp) _
      have G2 := C2.new (w1.alloc (.cells #[.slice va vn vc, .slice da dn dc, .slice aa an ac, .slice sa' sn sc', .iface 67 (.agg #[.int .i64 (ib : Int), .iface 189 (.pointer (some s1))])] 63)) (.int .i64 0) .nilIface 67
      rw [show (w1.alloc (.cells #[.slice va vn vc, .slice da dn dc, .slice aa an ac, .slice sa' sn sc', .iface 67 (.agg #[.int .i64 (ib : Int), .iface 189 (.pointer (some s1))])] 63)).heap.size = w1.heap.size + 1 by simp] at G2
      obtain ⟨w2, hw2⟩ : ∃ W, (w1.alloc (.cells #[.slice va vn vc, .slice da dn dc, .slice aa an ac, .slice sa' sn sc', .iface 67 (.agg #[.int .i64 (ib : Int), .iface 189 (.pointer (some s1))])] 63)).alloc (.cells #[.int .i64 0, .nilIface] 67) = W := ⟨_, rfl⟩
      rw [hw2] at B2 G2
      have HW2 : Hid _ := hw2
      have HB2 : Hid (Below w.heap.size w w2) := Below.then HB1.out B2 HB1.out.size
      have hle : w.heap.size ≤ w1.heap.size := HB1.out.size
      have HG2 : Hid (C2 w2 (w1.heap.size + 1) (.int .i64 0) .nilIface) := G2
      have KI : Hid _ := is_nil s1 w2
      clear hw2 B2 G2
      go_wp2_with fail
      rw [HW2.out]
      (try go_at_call 27); refine Calls.mono KI.out ?_
      rintro e w3 ⟨rfl, rfl⟩
      clear HW2 KI
      go_wp2
      exact bodyPost_ret (v := .tuple #[.int .i64 0, .bool false]) (by simp [results, Tryz.results8, go_sem]) rfl ⟨by rw [HV.out], HB2.out⟩
    · rw [he]
      have HV : Hid _ := hv
      clear he hv
      try simp only [fval]
      have B2 : Below w1.heap.size w1 ((w1.alloc (.cells #[.slice va vn vc, .slice da dn dc, .slice aa an ac, .slice sa' sn sc', .iface 67 (.agg #[.int .i64 (ib : Int), .iface 189 (.pointer (some s1))])] 63)).alloc (.cells #[.int .i64 0, .nilIface] 67)) := ((Below.refl _ _).alloc (Nat.le_refl _) _).alloc (by simp) _
      have G2 := C2.new (w1.alloc (.cells #[.slice va vn vc, .slice da dn dc, .slice aa an ac, .slice sa' sn sc', .iface 67 (.agg #[.int .i64 (ib : Int), .iface 189 (.pointer (some s1))])] 63)) (.int .i64 0) .nilIface 67
      rw [show (w1.alloc (.cells #[.slice va vn vc, .slice da dn dc, .slice aa an ac, .slice sa' sn sc', .iface 67 (.agg #[.int .i64 (ib : Int), .iface 189 (.pointer (some s1))])] 63)).heap.size = w1.heap.size + 1 by simp] at G2
      obtain ⟨w2, hw2⟩ : ∃ W, (w1.alloc (.cells #[.slice va vn vc, .slice da dn dc, .slice aa an ac, .slice sa' sn sc', .iface 67 (.agg #[.int .i64 (ib : Int), .iface 189 (.pointer (some s1))])] 63)).alloc (.cells #[.int .i64 0, .nilIface] 67) = W := ⟨_, rfl⟩
      rw [hw2] at B2 G2
      have HW2 : Hid _ := hw2
      have HB2 : Hid (Below w.heap.size w w2) := Below.then HB1.out B2 HB1.out.size
      have hle : w.heap.size ≤ w1.heap.size := HB1.out.size
      have HG2 : Hid (C2 w2 (w1.heap.size + 1) (.int .i64 0) .nilIface) := G2
      obtain ⟨_, _, _, hne, ⟨c0, t0, e0⟩, c1, t1, e1⟩ := HG.out w2 HB2.out
      have KI : Hid _ := is_other s0 s1 c0 c1 t0 t1 w2 hne e0 e1
      clear hne e0 e1
      clear hw2 B2 G2
      go_wp2_with fail
      rw [HW2.out]
      (try go_at_call 27); refine Calls.mono KI.out ?_
      rintro e w3 ⟨rfl, rfl⟩
      clear HW2 KI
      go_wp2
      exact bodyPost_ret (v := .tuple #[.int .i64 0, .bool false]) (by simp [results, Tryz.results8, go_sem]) rfl ⟨by rw [HV.out], HB2.out⟩
    · rw [he]
      have HV : Hid _ := hv
      clear he hv
      try simp only [fval]
      have B2 : Below w1.heap.size w1 ((w1.alloc (.cells #[.slice va vn vc, .slice da dn dc, .slice aa an ac, .slice sa' sn sc', .iface 67 (.agg #[.int .i64 (ib : Int), .iface 189 (.pointer (some s1))])] 63)).alloc (.cells #[.int .i64 0, .nilIface] 67)) := ((Below.refl _ _).alloc (Nat.le_refl _) _).alloc (by simp) _
      have G2 := C2.new (w1.alloc (.cells #[.slice va vn vc, .slice da dn dc, .slice aa an ac, .slice sa' sn sc', .iface 67 (.agg #[.int .i64 (ib : Int), .iface 189 (.pointer (some s1))])] 63)) (.int .i64 0) .nilIface 67
      rw [show (w1.alloc (.cells #[.slice va vn vc, .slice da dn dc, .slice aa an ac, .slice sa' sn sc', .iface 67 (.agg #[.int .i64 (ib : Int), .iface 189 (.pointer (some s1))])] 63)).heap.size = w1.heap.size + 1 by simp] at G2
      obtain ⟨w2, hw2⟩ : ∃ W, (w1.alloc (.cells #[.slice va vn vc, .slice da dn dc, .slice aa an ac, .slice sa' sn sc', .iface 67 (.agg #[.int .i64 (ib : Int), .iface 189 (.pointer (some s1))])] 63)).alloc (.cells #[.int .i64 0, .nilIface] 67) = W := ⟨_, rfl⟩
      rw [hw2] at B2 G2
      have HW2 : Hid _ := hw2
      have HB2 : Hid (Below w.heap.size w w2) := Below.then HB1.out B2 HB1.out.size
      have hle : w.heap.size ≤ w1.heap.size := HB1.out.size
      have HG2 : Hid (C2 w2 (w1.heap.size + 1) (.int .i64 0) .nilIface) := G2
      have KI : Hid _ := is_fault (i : Int) s1 w2
      clear hw2 B2 G2
      go_wp2_with fail
      rw [HW2.out]
      (try go_at_call 27); refine Calls.mono KI.out ?_
      rintro e w3 ⟨rfl, hb3⟩
      have HB3 : Hid (Below w.heap.size w w3) := Below.then HB2.out hb3 HB2.out.size
      obtain ⟨⟨z0, z1⟩, f0, f1⟩ := HG2.out.same (hb3.block _ (World.block_lt_of_cell? _ _ HG2.out.1.1))
      have KA : Hid _ := as_hit (w1.heap.size + 1) (i : Int) (.pointer (some s1)) _ _ w3 (HG.out w3 HB3.out).2.2.1 z0 z1 f0 f1
      clear HW2 KI hb3 z0 z1 f0 f1
      go_wp2_with fail
      (try go_at_call 28); refine Calls.mono KA.out ?_
      rintro e w4 ⟨rfl, hc, hb4⟩
      have HB4 : Hid (Below w.heap.size w w4) := HB3.out.trans (hb4.mono (by omega))
      clear hb4 KA
      go_wp2
      exact bodyPost_ret (v := .tuple #[.int .i64 (i : Int), .bool true]) (by simp [results, Tryz.results8, go_sem]) rfl ⟨by rw [HV.out], HB4.out⟩

end Go.Proofs.YtkgblkbgebpejaaGreatDoor

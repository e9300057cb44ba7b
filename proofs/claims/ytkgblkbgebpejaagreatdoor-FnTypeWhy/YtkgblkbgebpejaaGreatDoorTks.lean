/- Whether a program is fine, the labels of being done, and who trusts what is set: by the program. -/
import Derived.Test.YtkgblkbgebpejaaGreatDoorTyo
import Derived.Test.YtkgblkbgebpejaaGreatDoorTyx
namespace Go.Proofs.YtkgblkbgebpejaaGreatDoor
open Go.RowKit
set_option linter.unusedSimpArgs false
set_option linter.unusedVariables false
attribute [local go_sem] World.cell?_alloc_some

theorem errR_cases (s0 s1 : Addr) (ls : List (Int × Int)) (d : Nat) (T : Tr d) : (errR s0 s1 ls d T = .nilIface ∧ (progB ls d T && !(whyR ls d T).2) = true) ∨ (∃ u v, errR s0 s1 ls d T = .iface u v ∧ (progB ls d T && !(whyR ls d T).2) = false) := by
  unfold errR whyR
  cases hp : progB ls d T
  · exact .inr ⟨_, _, rfl, by simp⟩
  · cases hb : badI ls (prs ls d T topL) with
    | none => exact .inl ⟨rfl, by simp⟩
    | some i => exact .inr ⟨_, _, rfl, by simp⟩

set_option maxHeartbeats 4000000 in
set_option maxRecDepth 20000 in
theorem typeOk_any {d : Nat} {T : Tr d} {lv sv : Value} {ls : List (Int × Int)} {w : World} {s0 s1 : Addr} (hL : LRep w lv ls) (hR : Rep w d sv T) (hg0 : w.cell? ⟨1, 0, none⟩ = some (.iface 189 (.pointer (some s0)))) (hg1 : w.cell? ⟨0, 0, none⟩ = some (.iface 189 (.pointer (some s1)))) :
    Calls Tryz.prog 10 #[.agg #[lv, sv]] w fun e w' => e = .returned (.bool (progB ls d T && !(whyR ls d T).2)) ∧ Below w.heap.size w w' := by
  have A : Below w.heap.size w (w.alloc (.cells #[lv, sv] 26)) := (Below.refl _ _).alloc (Nat.le_refl _) _
  have C1 : Hid _ := typingOf_any (hL.below A) (hR.below A) (cell_later A hg0) (cell_later A hg1)
  obtain ⟨la, lc, rfl, -⟩ := id hL
  obtain ⟨sa, sc, rfl⟩ := id hR.slice
  have HA : Hid _ := A
  have hec := errR_cases s0 s1 ls d T
  obtain ⟨ok, hok⟩ : ∃ x, (progB ls d T && !(whyR ls d T).2) = x := ⟨_, rfl⟩
  rw [hok] at hec ⊢
  have HEC : Hid _ := hec
  clear hok hec
  clear hL hR hg0 hg1 A
  go_enter Tryz.func10, Tryz.ntmps10
  go_wp2_with fail
  go_at_call 26; refine Calls.mono C1.out ?_; rintro e w1 ⟨va, vn, vc, da, dn, dc, aa, ac, sa, sc, bd, rfl, hb, -, -⟩
  have HB : Hid (Below w.heap.size w (w1.alloc (.cells #[.slice none 0 0] 3))) := (Below.then (show Below w.heap.size w (w.alloc (.cells #[_, _] 26)) from (Below.refl _ _).alloc (Nat.le_refl _) _) hb (by simp)).alloc (by have := hb.size; simp at this; omega) _
  have HB1 : Hid (Below w.heap.size w w1) := (Below.then (show Below w.heap.size w (w.alloc (.cells #[_, _] 26)) from (Below.refl _ _).alloc (Nat.le_refl _) _) hb (by simp))
  have hz1 : w.heap.size ≤ w1.heap.size := HB1.out.size
  have HZ1 : Hid _ := hz1
  clear hb C1 HB hz1 HA
  rcases bd with _ | ib
  · rcases HEC.out with ⟨he, hv⟩ | ⟨u, v, he, hv⟩
    · have HV : Hid _ := hv
      rw [he]
      clear hv HEC he
      try simp only [fval]
      go_wp2_with fail
      have HBF : Hid _ := HB1.out.alloc HZ1.out (.cells #[.slice va vn vc, .slice da dn dc, .slice aa (atR ls d T).length ac, .slice sa (seR ls d T).length sc, .nilIface] 63)
      exact bodyPost_ret (v := .bool true) (by simp [results, Tryz.results10, go_sem]) rfl ⟨by rw [HV.out], HBF.out⟩
    · have HV : Hid _ := hv
      rw [he]
      clear hv HEC he
      try simp only [fval]
      go_wp2_with fail
      have HBF : Hid _ := HB1.out.alloc HZ1.out (.cells #[.slice va vn vc, .slice da dn dc, .slice aa (atR ls d T).length ac, .slice sa (seR ls d T).length sc, .nilIface] 63)
      exact bodyPost_ret (v := .bool false) (by simp [results, Tryz.results10, go_sem]) rfl ⟨by rw [HV.out], HBF.out⟩
  · rcases HEC.out with ⟨he, hv⟩ | ⟨u, v, he, hv⟩
    · have HV : Hid _ := hv
      rw [he]
      clear hv HEC he
      try simp only [fval]
      go_wp2_with fail
      have HBF : Hid _ := HB1.out.alloc HZ1.out (.cells #[.slice va vn vc, .slice da dn dc, .slice aa (atR ls d T).length ac, .slice sa (seR ls d T).length sc, .iface 67 (.agg #[.int .i64 (ib : Int), .iface 189 (.pointer (some s1))])] 63)
      exact bodyPost_ret (v := .bool true) (by simp [results, Tryz.results10, go_sem]) rfl ⟨by rw [HV.out], HBF.out⟩
    · have HV : Hid _ := hv
      rw [he]
      clear hv HEC he
      try simp only [fval]
      go_wp2_with fail
      have HBF : Hid _ := HB1.out.alloc HZ1.out (.cells #[.slice va vn vc, .slice da dn dc, .slice aa (atR ls d T).length ac, .slice sa (seR ls d T).length sc, .iface 67 (.agg #[.int .i64 (ib : Int), .iface 189 (.pointer (some s1))])] 63)
      exact bodyPost_ret (v := .bool false) (by simp [results, Tryz.results10, go_sem]) rfl ⟨by rw [HV.out], HBF.out⟩

/-- A new row of labels, or of numbers, is answered. -/
def LaPost (w : World) (xs : List (Int × Int)) (e : Ending) (w' : World) : Prop := ∃ v, e = .returned v ∧ Below w.heap.size w w' ∧ w'.ownsRow w.heap.size 58 2 v xs.length (pcells xs)
def NaPost (w : World) (xs : List Int) (e : Ending) (w' : World) : Prop := ∃ v, e = .returned v ∧ Below w.heap.size w w' ∧ w'.ownsRow w.heap.size 3 1 v xs.length (xs.map (Value.int .i64))

end Go.Proofs.YtkgblkbgebpejaaGreatDoor

/- The law of LabelFlows, walked. -/
import Derived.Test.YtbkgkpfekbnpiaaDrg
import Derived.Deep.LoopGhost
namespace Go.Proofs.Ytbkgkpfekbnpiaa
open Go.RowKit
set_option linter.unusedSimpArgs false
set_option linter.unusedVariables false

theorem hb_then {w a b : World} (HB : Hid (Below w.heap.size w a)) (hbx : Below a.heap.size a b) : Hid (Below w.heap.size w b) := below_then2 hbx HB

theorem lcHas_any (s h : Int) (w : World) (s0 : 0 ≤ s) (s7 : s ≤ 7) (h0 : 0 ≤ h) (h1 : h ≤ 2) :
    Calls Try.prog 21 #[.int .i64 s, .int .i64 h] w fun e w' => e = .returned (.bool (hasB s h)) ∧ w' = w := by
  rw [← has_mod s0]
  go_enter Try.func21, Try.ntmps21
  go_wp2
  go_ret
  exact ⟨rfl, rfl⟩

theorem flB_self {k t : Int} (h : okB k t = true) : flB k t k t = true := by
  have hi := okB_iff.1 h
  have e : ∀ a : Int, 0 ≤ a → a ≤ 7 → covB a a = true := all8 (P := fun a => covB a a = true) (by decide +kernel)
  simp [flB, h, e k hi.1.1 hi.1.2, e t hi.2.1 hi.2.2]
def inTo2 (ak at' bk bt : Int) (k : Nat) : Bool := inTo bk ak k && inTo bt at' k
theorem flB_inTo {ak at' bk bt : Int} (ha : okB ak at' = true) (hb : okB bk bt = true) : flB ak at' bk bt = inTo2 ak at' bk bt 3 := by
  have ia := okB_iff.1 ha
  have ib := okB_iff.1 hb
  simp [flB, inTo2, ha, hb, inTo_three ib.1.1 ib.1.2 ia.1.1 ia.1.2, inTo_three ib.2.1 ib.2.2 ia.2.1 ia.2.2]
theorem inTo2_succ (ak at' bk bt : Int) (k : Nat) : inTo2 ak at' bk bt (k + 1) = (inTo2 ak at' bk bt k && (!hasB bk k || hasB ak k) && (!hasB bt k || hasB at' k)) := by
  unfold inTo2
  rw [inTo_succ, inTo_succ]
  cases inTo bk ak k <;> cases inTo bt at' k <;> simp

set_option maxHeartbeats 4000000 in
theorem fnLabelFlows_walk (a0 : Option Addr) (len0 cap0 : Nat) (z0 : List Int) (w : World) (h : IsRow .u8 w a0 len0 cap0 z0) :
    Calls Try.prog 3 #[.slice a0 len0 cap0] w fun e w' => e = .returned (.bool true) ∧ Below w.heap.size w w' := by
  by_cases hl : (1048576 : Int) < (len0 : Int)
  · go_enter Try.func3, Try.ntmps3
    go_wp2
    go_ret
    exact ⟨rfl, Below.refl _ _⟩
  · go_enter Try.func3, Try.ntmps3
    go_wp2_with fail
    refine (drawFlows_any _ a0 len0 cap0 z0 h).mono ?_
    rintro e w1 ⟨ak, at', bk, bt, rfl, ⟨sa, sb, sc, sd⟩, hb⟩
    have HB : Hid (Below w.heap.size w w1) := hb
    clear hb
    go_wp2_with fail
    have c0 := ((Pair.new w1 ak at' 24).alloc (.cells #[.int .i64 bk, .int .i64 bt] 24))
    have c1 := Pair.new (w1.alloc (.cells #[.int .i64 ak, .int .i64 at'] 24)) bk bt 24
    simp at c1
    have HB0 : Hid (Below w.heap.size w ((w1.alloc (.cells #[.int .i64 ak, .int .i64 at'] 24)).alloc (.cells #[.int .i64 bk, .int .i64 bt] 24))) := by
      have := HB.out
      have hsz := this.size
      exact (this.alloc (by omega) _).alloc (by simp; omega) _
    obtain ⟨x0, x1, _, _⟩ := c0
    obtain ⟨y0, y1, _, _⟩ := c1
    refine (labelFlows_any _ _ _ _ _).mono ?_
    rintro e w2 ⟨rfl, hbx⟩
    replace x0 := cell_later hbx x0; replace x1 := cell_later hbx x1; replace y0 := cell_later hbx y0; replace y1 := cell_later hbx y1
    replace HB := hb_then HB0 hbx
    clear hbx HB0
    generalize w1.heap.size = N at *
    cases ha : okB ak at'
    · go_wp2_with (first
        | (go_at_call 18; refine (labelFlows_any _ _ _ _ _).mono ?_; rintro e w9 ⟨rfl, hbx⟩; replace x0 := cell_later hbx x0; replace x1 := cell_later hbx x1; replace y0 := cell_later hbx y0; replace y1 := cell_later hbx y1; replace HB := hb_then HB hbx; clear hbx)
        | (go_at_call 19; refine (sLabelFlows_any _ _ _ _ _).mono ?_; rintro e w9 ⟨rfl, hbx⟩; replace x0 := cell_later hbx x0; replace x1 := cell_later hbx x1; replace y0 := cell_later hbx y0; replace y1 := cell_later hbx y1; replace HB := hb_then HB hbx; clear hbx)
        | (go_at_call 20; refine (sLabelOk_any _ _ _).mono ?_; rintro e w9 ⟨rfl, hbx⟩; replace x0 := cell_later hbx x0; replace x1 := cell_later hbx x1; replace y0 := cell_later hbx y0; replace y1 := cell_later hbx y1; replace HB := hb_then HB hbx; clear hbx)
        | (go_at_call 21; refine (lcHas_any _ _ _ (by omega) (by omega) (by omega) (by omega)).mono ?_; rintro e w9 ⟨rfl, rfl⟩))
      go_ret
      exact ⟨by simp, HB.out⟩
    · cases hb : okB bk bt
      · go_wp2_with (first
        | (go_at_call 18; refine (labelFlows_any _ _ _ _ _).mono ?_; rintro e w9 ⟨rfl, hbx⟩; replace x0 := cell_later hbx x0; replace x1 := cell_later hbx x1; replace y0 := cell_later hbx y0; replace y1 := cell_later hbx y1; replace HB := hb_then HB hbx; clear hbx)
        | (go_at_call 19; refine (sLabelFlows_any _ _ _ _ _).mono ?_; rintro e w9 ⟨rfl, hbx⟩; replace x0 := cell_later hbx x0; replace x1 := cell_later hbx x1; replace y0 := cell_later hbx y0; replace y1 := cell_later hbx y1; replace HB := hb_then HB hbx; clear hbx)
        | (go_at_call 20; refine (sLabelOk_any _ _ _).mono ?_; rintro e w9 ⟨rfl, hbx⟩; replace x0 := cell_later hbx x0; replace x1 := cell_later hbx x1; replace y0 := cell_later hbx y0; replace y1 := cell_later hbx y1; replace HB := hb_then HB hbx; clear hbx)
        | (go_at_call 21; refine (lcHas_any _ _ _ (by omega) (by omega) (by omega) (by omega)).mono ?_; rintro e w9 ⟨rfl, rfl⟩))
        go_ret
        exact ⟨by simp, HB.out⟩
      · have ia := okB_iff.1 ha
        have ib := okB_iff.1 hb
        have HF : Hid (flB ak at' bk bt = inTo2 ak at' bk bt 3) := flB_inTo ha hb
        have HG : Hid (flB ak at' ak at' = true) := flB_self ha
        go_wp2_with (first
        | (go_at_call 18; refine (labelFlows_any _ _ _ _ _).mono ?_; rintro e w9 ⟨rfl, hbx⟩; replace x0 := cell_later hbx x0; replace x1 := cell_later hbx x1; replace y0 := cell_later hbx y0; replace y1 := cell_later hbx y1; replace HB := hb_then HB hbx; clear hbx)
        | (go_at_call 19; refine (sLabelFlows_any _ _ _ _ _).mono ?_; rintro e w9 ⟨rfl, hbx⟩; replace x0 := cell_later hbx x0; replace x1 := cell_later hbx x1; replace y0 := cell_later hbx y0; replace y1 := cell_later hbx y1; replace HB := hb_then HB hbx; clear hbx)
        | (go_at_call 20; refine (sLabelOk_any _ _ _).mono ?_; rintro e w9 ⟨rfl, hbx⟩; replace x0 := cell_later hbx x0; replace x1 := cell_later hbx x1; replace y0 := cell_later hbx y0; replace y1 := cell_later hbx y1; replace HB := hb_then HB hbx; clear hbx)
        | (go_at_call 21; refine (lcHas_any _ _ _ (by omega) (by omega) (by omega) (by omega)).mono ?_; rintro e w9 ⟨rfl, rfl⟩))
        have HB' := HB
        clear HB
        go_loop [6, 7] (fun t i => ∃ k : Nat, k ≤ 3 ∧ i = .int .i64 k ∧ t = .bool (inTo2 ak at' bk bt k)) (fun _ i => 3 - (intOf i).toNat)
        case atStart => exact ⟨0, by omega, rfl, rfl⟩
        case round =>
          obtain ⟨k, hk, rfl, rfl⟩ := hrel
          by_cases hlt : k < 3
          · have HS : Hid (inTo2 ak at' bk bt (k + 1) = (inTo2 ak at' bk bt k && (!hasB bk k || hasB ak k) && (!hasB bt k || hasB at' k))) := inTo2_succ ak at' bk bt k
            cases hw : inTo2 ak at' bk bt k
            · go_wp2_with (first
        | (go_at_call 18; refine (labelFlows_any _ _ _ _ _).mono ?_; rintro e w9 ⟨rfl, hbx⟩; replace x0 := cell_later hbx x0; replace x1 := cell_later hbx x1; replace y0 := cell_later hbx y0; replace y1 := cell_later hbx y1; replace HB := hb_then HB hbx; clear hbx)
        | (go_at_call 19; refine (sLabelFlows_any _ _ _ _ _).mono ?_; rintro e w9 ⟨rfl, hbx⟩; replace x0 := cell_later hbx x0; replace x1 := cell_later hbx x1; replace y0 := cell_later hbx y0; replace y1 := cell_later hbx y1; replace HB := hb_then HB hbx; clear hbx)
        | (go_at_call 20; refine (sLabelOk_any _ _ _).mono ?_; rintro e w9 ⟨rfl, hbx⟩; replace x0 := cell_later hbx x0; replace x1 := cell_later hbx x1; replace y0 := cell_later hbx y0; replace y1 := cell_later hbx y1; replace HB := hb_then HB hbx; clear hbx)
        | (go_at_call 21; refine (lcHas_any _ _ _ (by omega) (by omega) (by omega) (by omega)).mono ?_; rintro e w9 ⟨rfl, rfl⟩))
              go_round
              case rel => exact ⟨k + 1, by omega, by go_num, by rw [HS.out]; simp [hw]⟩
              case measure => simp [intOf]; omega
            · cases h1 : hasB bk k
              · cases h3 : hasB bt k
                · go_wp2_with (first
        | (go_at_call 18; refine (labelFlows_any _ _ _ _ _).mono ?_; rintro e w9 ⟨rfl, hbx⟩; replace x0 := cell_later hbx x0; replace x1 := cell_later hbx x1; replace y0 := cell_later hbx y0; replace y1 := cell_later hbx y1; replace HB := hb_then HB hbx; clear hbx)
        | (go_at_call 19; refine (sLabelFlows_any _ _ _ _ _).mono ?_; rintro e w9 ⟨rfl, hbx⟩; replace x0 := cell_later hbx x0; replace x1 := cell_later hbx x1; replace y0 := cell_later hbx y0; replace y1 := cell_later hbx y1; replace HB := hb_then HB hbx; clear hbx)
        | (go_at_call 20; refine (sLabelOk_any _ _ _).mono ?_; rintro e w9 ⟨rfl, hbx⟩; replace x0 := cell_later hbx x0; replace x1 := cell_later hbx x1; replace y0 := cell_later hbx y0; replace y1 := cell_later hbx y1; replace HB := hb_then HB hbx; clear hbx)
        | (go_at_call 21; refine (lcHas_any _ _ _ (by omega) (by omega) (by omega) (by omega)).mono ?_; rintro e w9 ⟨rfl, rfl⟩))
                  go_round
                  case rel => exact ⟨k + 1, by omega, by go_num, by rw [HS.out]; simp [hw, h1, h3]⟩
                  case measure => simp [intOf]; omega
                · cases h4 : hasB at' k
                  · go_wp2_with (first
        | (go_at_call 18; refine (labelFlows_any _ _ _ _ _).mono ?_; rintro e w9 ⟨rfl, hbx⟩; replace x0 := cell_later hbx x0; replace x1 := cell_later hbx x1; replace y0 := cell_later hbx y0; replace y1 := cell_later hbx y1; replace HB := hb_then HB hbx; clear hbx)
        | (go_at_call 19; refine (sLabelFlows_any _ _ _ _ _).mono ?_; rintro e w9 ⟨rfl, hbx⟩; replace x0 := cell_later hbx x0; replace x1 := cell_later hbx x1; replace y0 := cell_later hbx y0; replace y1 := cell_later hbx y1; replace HB := hb_then HB hbx; clear hbx)
        | (go_at_call 20; refine (sLabelOk_any _ _ _).mono ?_; rintro e w9 ⟨rfl, hbx⟩; replace x0 := cell_later hbx x0; replace x1 := cell_later hbx x1; replace y0 := cell_later hbx y0; replace y1 := cell_later hbx y1; replace HB := hb_then HB hbx; clear hbx)
        | (go_at_call 21; refine (lcHas_any _ _ _ (by omega) (by omega) (by omega) (by omega)).mono ?_; rintro e w9 ⟨rfl, rfl⟩))
                    go_round
                    case rel => exact ⟨k + 1, by omega, by go_num, by rw [HS.out]; simp [hw, h1, h3, h4]⟩
                    case measure => simp [intOf]; omega
                  · go_wp2_with (first
        | (go_at_call 18; refine (labelFlows_any _ _ _ _ _).mono ?_; rintro e w9 ⟨rfl, hbx⟩; replace x0 := cell_later hbx x0; replace x1 := cell_later hbx x1; replace y0 := cell_later hbx y0; replace y1 := cell_later hbx y1; replace HB := hb_then HB hbx; clear hbx)
        | (go_at_call 19; refine (sLabelFlows_any _ _ _ _ _).mono ?_; rintro e w9 ⟨rfl, hbx⟩; replace x0 := cell_later hbx x0; replace x1 := cell_later hbx x1; replace y0 := cell_later hbx y0; replace y1 := cell_later hbx y1; replace HB := hb_then HB hbx; clear hbx)
        | (go_at_call 20; refine (sLabelOk_any _ _ _).mono ?_; rintro e w9 ⟨rfl, hbx⟩; replace x0 := cell_later hbx x0; replace x1 := cell_later hbx x1; replace y0 := cell_later hbx y0; replace y1 := cell_later hbx y1; replace HB := hb_then HB hbx; clear hbx)
        | (go_at_call 21; refine (lcHas_any _ _ _ (by omega) (by omega) (by omega) (by omega)).mono ?_; rintro e w9 ⟨rfl, rfl⟩))
                    go_round
                    case rel => exact ⟨k + 1, by omega, by go_num, by rw [HS.out]; simp [hw, h1, h3, h4]⟩
                    case measure => simp [intOf]; omega
              · cases h2 : hasB ak k
                · go_wp2_with (first
        | (go_at_call 18; refine (labelFlows_any _ _ _ _ _).mono ?_; rintro e w9 ⟨rfl, hbx⟩; replace x0 := cell_later hbx x0; replace x1 := cell_later hbx x1; replace y0 := cell_later hbx y0; replace y1 := cell_later hbx y1; replace HB := hb_then HB hbx; clear hbx)
        | (go_at_call 19; refine (sLabelFlows_any _ _ _ _ _).mono ?_; rintro e w9 ⟨rfl, hbx⟩; replace x0 := cell_later hbx x0; replace x1 := cell_later hbx x1; replace y0 := cell_later hbx y0; replace y1 := cell_later hbx y1; replace HB := hb_then HB hbx; clear hbx)
        | (go_at_call 20; refine (sLabelOk_any _ _ _).mono ?_; rintro e w9 ⟨rfl, hbx⟩; replace x0 := cell_later hbx x0; replace x1 := cell_later hbx x1; replace y0 := cell_later hbx y0; replace y1 := cell_later hbx y1; replace HB := hb_then HB hbx; clear hbx)
        | (go_at_call 21; refine (lcHas_any _ _ _ (by omega) (by omega) (by omega) (by omega)).mono ?_; rintro e w9 ⟨rfl, rfl⟩))
                  go_round
                  case rel => exact ⟨k + 1, by omega, by go_num, by rw [HS.out]; simp [hw, h1, h2]⟩
                  case measure => simp [intOf]; omega
                · cases h3 : hasB bt k
                  · go_wp2_with (first
        | (go_at_call 18; refine (labelFlows_any _ _ _ _ _).mono ?_; rintro e w9 ⟨rfl, hbx⟩; replace x0 := cell_later hbx x0; replace x1 := cell_later hbx x1; replace y0 := cell_later hbx y0; replace y1 := cell_later hbx y1; replace HB := hb_then HB hbx; clear hbx)
        | (go_at_call 19; refine (sLabelFlows_any _ _ _ _ _).mono ?_; rintro e w9 ⟨rfl, hbx⟩; replace x0 := cell_later hbx x0; replace x1 := cell_later hbx x1; replace y0 := cell_later hbx y0; replace y1 := cell_later hbx y1; replace HB := hb_then HB hbx; clear hbx)
        | (go_at_call 20; refine (sLabelOk_any _ _ _).mono ?_; rintro e w9 ⟨rfl, hbx⟩; replace x0 := cell_later hbx x0; replace x1 := cell_later hbx x1; replace y0 := cell_later hbx y0; replace y1 := cell_later hbx y1; replace HB := hb_then HB hbx; clear hbx)
        | (go_at_call 21; refine (lcHas_any _ _ _ (by omega) (by omega) (by omega) (by omega)).mono ?_; rintro e w9 ⟨rfl, rfl⟩))
                    go_round
                    case rel => exact ⟨k + 1, by omega, by go_num, by rw [HS.out]; simp [hw, h1, h2, h3]⟩
                    case measure => simp [intOf]; omega
                  · cases h4 : hasB at' k
                    · go_wp2_with (first
        | (go_at_call 18; refine (labelFlows_any _ _ _ _ _).mono ?_; rintro e w9 ⟨rfl, hbx⟩; replace x0 := cell_later hbx x0; replace x1 := cell_later hbx x1; replace y0 := cell_later hbx y0; replace y1 := cell_later hbx y1; replace HB := hb_then HB hbx; clear hbx)
        | (go_at_call 19; refine (sLabelFlows_any _ _ _ _ _).mono ?_; rintro e w9 ⟨rfl, hbx⟩; replace x0 := cell_later hbx x0; replace x1 := cell_later hbx x1; replace y0 := cell_later hbx y0; replace y1 := cell_later hbx y1; replace HB := hb_then HB hbx; clear hbx)
        | (go_at_call 20; refine (sLabelOk_any _ _ _).mono ?_; rintro e w9 ⟨rfl, hbx⟩; replace x0 := cell_later hbx x0; replace x1 := cell_later hbx x1; replace y0 := cell_later hbx y0; replace y1 := cell_later hbx y1; replace HB := hb_then HB hbx; clear hbx)
        | (go_at_call 21; refine (lcHas_any _ _ _ (by omega) (by omega) (by omega) (by omega)).mono ?_; rintro e w9 ⟨rfl, rfl⟩))
                      go_round
                      case rel => exact ⟨k + 1, by omega, by go_num, by rw [HS.out]; simp [hw, h1, h2, h3, h4]⟩
                      case measure => simp [intOf]; omega
                    · go_wp2_with (first
        | (go_at_call 18; refine (labelFlows_any _ _ _ _ _).mono ?_; rintro e w9 ⟨rfl, hbx⟩; replace x0 := cell_later hbx x0; replace x1 := cell_later hbx x1; replace y0 := cell_later hbx y0; replace y1 := cell_later hbx y1; replace HB := hb_then HB hbx; clear hbx)
        | (go_at_call 19; refine (sLabelFlows_any _ _ _ _ _).mono ?_; rintro e w9 ⟨rfl, hbx⟩; replace x0 := cell_later hbx x0; replace x1 := cell_later hbx x1; replace y0 := cell_later hbx y0; replace y1 := cell_later hbx y1; replace HB := hb_then HB hbx; clear hbx)
        | (go_at_call 20; refine (sLabelOk_any _ _ _).mono ?_; rintro e w9 ⟨rfl, hbx⟩; replace x0 := cell_later hbx x0; replace x1 := cell_later hbx x1; replace y0 := cell_later hbx y0; replace y1 := cell_later hbx y1; replace HB := hb_then HB hbx; clear hbx)
        | (go_at_call 21; refine (lcHas_any _ _ _ (by omega) (by omega) (by omega) (by omega)).mono ?_; rintro e w9 ⟨rfl, rfl⟩))
                      go_round
                      case rel => exact ⟨k + 1, by omega, by go_num, by rw [HS.out]; simp [hw, h1, h2, h3, h4]⟩
                      case measure => simp [intOf]; omega
          · have : k = 3 := by omega
            subst this
            have HB := HB'
            clear HB'
            cases hf : flB ak at' bk bt
            all_goals
              have hf3 := HF.out
              rw [hf] at hf3
              replace hf3 := hf3.symm
              go_wp2_with (first
        | (go_at_call 18; refine (labelFlows_any _ _ _ _ _).mono ?_; rintro e w9 ⟨rfl, hbx⟩; replace x0 := cell_later hbx x0; replace x1 := cell_later hbx x1; replace y0 := cell_later hbx y0; replace y1 := cell_later hbx y1; replace HB := hb_then HB hbx; clear hbx)
        | (go_at_call 19; refine (sLabelFlows_any _ _ _ _ _).mono ?_; rintro e w9 ⟨rfl, hbx⟩; replace x0 := cell_later hbx x0; replace x1 := cell_later hbx x1; replace y0 := cell_later hbx y0; replace y1 := cell_later hbx y1; replace HB := hb_then HB hbx; clear hbx)
        | (go_at_call 20; refine (sLabelOk_any _ _ _).mono ?_; rintro e w9 ⟨rfl, hbx⟩; replace x0 := cell_later hbx x0; replace x1 := cell_later hbx x1; replace y0 := cell_later hbx y0; replace y1 := cell_later hbx y1; replace HB := hb_then HB hbx; clear hbx)
        | (go_at_call 21; refine (lcHas_any _ _ _ (by omega) (by omega) (by omega) (by omega)).mono ?_; rintro e w9 ⟨rfl, rfl⟩))
              go_ret
              exact ⟨by simp [HG.out, hf, hf3], HB.out⟩

end Go.Proofs.Ytbkgkpfekbnpiaa

/- A program that is marked, and a step. -/
import Derived.Test.YtlhfbhidgabgbaaFrs
import Derived.Test.YtlhfbhidgabgbaaHld
import Derived.Test.YtlhfbhidgabgbaaAtS
import Derived.Test.YtlhfbhidgabgbaaSqx
namespace Go.Proofs.Ytlhfbhidgabgbaa
open Go.RowKit
set_option linter.unusedSimpArgs false
set_option linter.unusedVariables false
attribute [local go_sem] World.cell?_alloc_some

set_option maxHeartbeats 2000000 in
theorem markLabelS_any {lv : Value} {ls : List (Int × Int)} {bs : List Nat} {k : Int} {w : World} (h : LOwn w lv ls bs) (hk0 : 0 ≤ k) (hk1 : k + 2 * ls.length ≤ 33554432) :
    Calls Try.prog 66 #[lv, .int .i64 k] w fun e w' => e = .returned (.int .i64 (k + 2 * ls.length)) ∧ Fr bs w w' := by
  rcases h with ⟨h0, ⟨a, c, rfl, _⟩, rfl⟩ | ⟨h0, g, c, rfl, hlc, hcm, ht, rfl, -⟩
  · have hz : ls = [] := List.eq_nil_of_length_eq_zero h0
    subst hz
    go_enter Try.func66, Try.ntmps66
    go_wp2
    refine wp_loop_rounds 1 ?_
    rw [rounds_succ]
    go_wp2
    go_ret
    exact ⟨by simp, Fr.refl _ _⟩
  · have HT : Hid _ := ht
    clear ht
    go_enter Try.func66, Try.ntmps66
    go_wp2
    go_loopw [1, 5] (fun o j wr => ∃ (i : Nat) (z : Int), i ≤ ls.length ∧ j = .int .i64 i ∧ o = .int .i64 z ∧ Hid (z = k + 2 * (i : Int)) ∧ Fr [g] w wr ∧ Hid (wr.there g 0 (ls.length * 2))) (fun _ j _ => ls.length - (intOf j).toNat)
    case atStart => exact ⟨0, k, by omega, rfl, rfl, (show k = k + 2 * ((0 : Nat) : Int) by simp), Fr.refl _ _, HT⟩
    case round =>
      obtain ⟨i, z, hi, rfl, rfl, HZ, hfr, HTR⟩ := hrel
      by_cases hlt : i < ls.length
      · have hth : wr.there g 0 (ls.length * 2) := HTR.out
        have t0 := hth (i * 2) (by omega)
        have t1 := hth (i * 2 + 1) (by omega)
        rw [Nat.zero_add] at t0 t1
        obtain ⟨u0, x0⟩ := Option.isSome_iff_exists.1 t0.1
        obtain ⟨u1, x1⟩ := Option.isSome_iff_exists.1 t1.1
        have f0 := t0.2
        have f1 := t1.2
        have hz := HZ.out
        have v1 := w64 (z + 1) (by omega)
        have v2 := w64 (z + 2) (by omega)
        have e2 : z + 1 + 1 = z + 2 := by omega
        have i0' : (0 : Int) ≤ (i : Int) := by omega
        have i1' : (i : Int) < (ls.length : Int) := by omega
        have HE : Hid (z + 2 = k + 2 * ((i + 1 : Nat) : Int)) := (show z + 2 = k + 2 * ((i + 1 : Nat) : Int) by omega)
        have HFR : Hid (Fr [g] w wr) := hfr
        clear hth t0 t1 hz hfr
        go_wp2
        refine ⟨⟨i + 1, z + 2, by omega, by simp, rfl, HE, (HFR.out.setCell (p := ⟨g, i * 2, none⟩) (by simp) _).setCell (p := ⟨g, i * 2 + 1, none⟩) (by simp) _, ?_⟩, by simp [intOf]; omega⟩
        exact World.there_setCells (World.there_setCells HTR.out g (i * 2) [.int .i64 z]) g (i * 2 + 1) [.int .i64 (z + 1)]
      · have hie : i = ls.length := by omega
        subst hie
        have HFR : Hid _ := hfr
        clear hfr
        go_wp2
        go_ret
        exact ⟨by rw [HZ.out]; rfl, HFR.out⟩

theorem markProg_any {d : Nat} {T : Tr d} {lv sv : Value} {ls : List (Int × Int)} {b1 b2 : List Nat} {w : World} (hL : LOwn w lv ls b1) (hR : Own w d sv T b2) (hlt : ∀ b ∈ b1 ++ b2, b < w.heap.size) (hnd : b2.Nodup) (hdj : ∀ b ∈ b1, b ∉ b2) (hs1 : ls.length ≤ 1048576) (hs2 : cnt d T ≤ 1048576) :
    Calls Try.prog 33 #[.agg #[lv, sv], .int .i64 1] w fun e w' => e = .returned (.int .i64 (1 + 2 * ls.length + 6 * cnt d T)) ∧ Fs (b1 ++ b2) w w' := by
  have A : Below w.heap.size w (w.alloc (.cells #[lv, sv] 26)) := (Below.refl _ _).alloc (Nat.le_refl _) _
  have L1 : LOwn (w.alloc (.cells #[lv, sv] 26)) lv ls b1 := LOwn.frame (fun b hb => A.block b (hlt b (List.mem_append_left _ hb))) hL
  have R1 : Own (w.alloc (.cells #[lv, sv] 26)) d sv T b2 := hR.below A (fun b hb => hlt b (List.mem_append_right _ hb))
  have C1 : Hid _ := markLabelS_any L1 (k := 1) (by omega) (by omega)
  obtain ⟨la, lc, rfl, -⟩ := hL.rep
  obtain ⟨sa, sc, rfl⟩ := hR.slice
  have nw : w.heap.size ∉ b1 := fun h => by have := hlt _ (List.mem_append_left _ h); omega
  clear hL hR L1
  go_enter Try.func33, Try.ntmps33
  go_wp2_with fail
  go_at_call 66; refine Calls.mono C1.out ?_
  rintro e w1 ⟨rfl, fr1⟩
  have x1 : w1.cell? ⟨w.heap.size, 1, none⟩ = some (.slice sa (ln d T) sc) := (World.cell?_of_block (fr1.block w.heap.size nw)).trans (by go_simp)
  have R2 : Own w1 d (.slice sa (ln d T) sc) T b2 := R1.frame (fun b hb => fr1.block b (fun h => hdj b h hb))
  have C2 : Hid _ := markStepS_any d T _ b2 (1 + 2 * ls.length) w1 R2 hnd (by omega) (by omega)
  have HF1 : Hid _ := fr1
  clear fr1 C1 R1 R2
  go_wp2_with fail
  go_at_call 67; refine Calls.mono C2.out ?_
  rintro e w2 ⟨rfl, fr2, -⟩
  clear x1 C2
  go_wp2
  go_ret
  exact ⟨rfl, ((Fs.of_below A).trans ((Fs.of_fr HF1.out).mono (fun x hx => List.mem_append_left _ hx))).trans ((Fs.of_fr fr2).mono (fun x hx => List.mem_append_right _ hx))⟩

theorem eqStep_same {k : Nat} {T1 T2 : Tr k} {p : Pay} {t e t' e' : Value} {w : World} (h1 : Rep w k t T1) (h2 : Rep w k e T2) (h1' : Rep w k t' T1) (h2' : Rep w k e' T2) :
    Calls Try.prog 93 #[stepOf p t e, stepOf p t' e'] w fun r w' => r = .returned (.bool true) ∧ Below w.heap.size w w' := by
  obtain ⟨ta, tc, rfl⟩ := h1.slice
  obtain ⟨ea, ec, rfl⟩ := h2.slice
  obtain ⟨ta', tc', rfl⟩ := h1'.slice
  obtain ⟨ea', ec', rfl⟩ := h2'.slice
  exact eqStep_of p ta ea ta' ea' _ tc _ ec tc' ec' w (fun wx hb => eqStepS_same k T1 _ _ wx (h1.below hb) (h1'.below hb)) (fun wx hb => eqStepS_same k T2 _ _ wx (h2.below hb) (h2'.below hb))

/-- The step that ProgAt answers, without memory. -/
def atX (ls : List (Int × Int)) (d : Nat) (T : Tr d) (n : Int) : Sg := if (progB ls d T && vIn (cnt d T) n) = true then ((flat d T)[n.toNat]?).getD ⟨0, ⟨0, 0, 0, 0, 0, 0⟩, (), ()⟩ else ⟨0, ⟨0, 0, 0, 0, 0, 0⟩, (), ()⟩
theorem atX_cnt {ls : List (Int × Int)} {d : Nat} {T : Tr d} {n : Int} (hc : cnt d T ≤ 1048576) : cnt (atX ls d T n).1 (atX ls d T n).2.2.1 ≤ 1048576 ∧ cnt (atX ls d T n).1 (atX ls d T n).2.2.2 ≤ 1048576 := by
  by_cases hb : (progB ls d T && vIn (cnt d T) n) = true
  · cases h : (flat d T)[n.toNat]? with
    | none =>
      have hX : atX ls d T n = ⟨0, ⟨0, 0, 0, 0, 0, 0⟩, (), ()⟩ := by unfold atX; rw [if_pos hb, h]; rfl
      rw [hX]
      exact ⟨Nat.zero_le _, Nat.zero_le _⟩
    | some x =>
      have := flat_cnt d T x (List.mem_of_getElem? h)
      have hX : atX ls d T n = x := by unfold atX; rw [if_pos hb, h]; rfl
      rw [hX]
      omega
  · have hX : atX ls d T n = ⟨0, ⟨0, 0, 0, 0, 0, 0⟩, (), ()⟩ := by unfold atX; rw [if_neg hb]
    rw [hX]
    exact ⟨Nat.zero_le _, Nat.zero_le _⟩
theorem AtPost.step {w w' : World} {ls : List (Int × Int)} {d : Nat} {T : Tr d} {n : Int} {e : Ending} (h : AtPost w ls d T n e w') :
    Below w.heap.size w w' ∧ ∃ (t' e' : Value) (b1 b2 : List Nat), e = .returned (.tuple #[stepOf (atX ls d T n).2.1 t' e', .bool (progB ls d T && vIn (cnt d T) n)]) ∧ Own w' (atX ls d T n).1 t' (atX ls d T n).2.2.1 b1 ∧ Own w' (atX ls d T n).1 e' (atX ls d T n).2.2.2 b2 ∧ (∀ b ∈ b1 ++ b2, w.heap.size ≤ b ∧ b < w'.heap.size) ∧ (b1 ++ b2).Nodup := by
  obtain ⟨hb, ⟨ht, x, t', e', b1, b2, hx, he, o1, o2, rg, nd⟩ | ⟨hf, he⟩⟩ := h
  · refine ⟨hb, t', e', b1, b2, ?_⟩
    have hX : atX ls d T n = x := by unfold atX; rw [if_pos ht, hx]; rfl
    rw [hX, ht]
    exact ⟨he, o1, o2, rg, nd⟩
  · refine ⟨hb, .slice none 0 0, .slice none 0 0, [], [], ?_⟩
    have hX : atX ls d T n = ⟨0, ⟨0, 0, 0, 0, 0, 0⟩, (), ()⟩ := by unfold atX; rw [if_neg (by rw [hf]; simp)]
    rw [hX, hf]
    exact ⟨he, ⟨⟨_, _, rfl⟩, rfl⟩, ⟨⟨_, _, rfl⟩, rfl⟩, by simp, by simp⟩

end Go.Proofs.Ytlhfbhidgabgbaa

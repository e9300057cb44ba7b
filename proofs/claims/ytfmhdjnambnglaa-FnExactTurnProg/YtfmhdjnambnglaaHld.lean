/- Steps that are held against numbers, one behind the other. -/
import Derived.Test.YtfmhdjnambnglaaMkB
namespace Go.Proofs.Ytfmhdjnambnglaa
open Go.RowKit
set_option linter.unusedSimpArgs false
set_option linter.unusedVariables false

set_option maxHeartbeats 4000000 in
set_option maxRecDepth 20000 in
theorem heldStepS_any : ∀ (d : Nat) (T : Tr d) (s : Value) (k : Int) (w : World), Rep w d s (mkT d k T) → 0 ≤ k → k + 6 * cnt d T ≤ 33554432 →
    Calls Try.prog 89 #[s, .int .i64 k] w fun e w' => e = .returned (.int .i64 (k + 6 * cnt d T)) ∧ Below w.heap.size w w' := by
  intro d
  induction d with
  | zero =>
    intro T s k w h _ _
    obtain ⟨a, c, rfl⟩ := h
    go_enter Try.func89, Try.ntmps89
    go_wp2
    refine wp_loop_rounds 1 ?_
    rw [rounds_succ]
    go_wp2
    go_ret
    exact ⟨by simp [cnt], Below.refl _ _⟩
  | succ d ih =>
    intro (l : List (Pay × Tr d × Tr d)) s k w h hk0 hk1
    obtain ⟨a, c, rfl, hlc, hcm, hcell⟩ := h
    have hml : (mkL (mkT d) (cnt d) k l).length = l.length := mkL_length _ _ _ _
    have hcell' : ∀ i (hi : i < l.length), ∃ b off t e, a = some ⟨b, off, none⟩ ∧ StepAt w b (off + i * 8) (mkP (k + 6 * (cnt (d + 1) (l.take i : List (Pay × Tr d × Tr d)) : Nat))) t e ∧ Rep w d t (mkT d (k + 6 * (cnt (d + 1) (l.take i : List (Pay × Tr d × Tr d)) : Nat) + 6) l[i].2.1) ∧ Rep w d e (mkT d (k + 6 * (cnt (d + 1) (l.take i : List (Pay × Tr d × Tr d)) : Nat) + 6 + 6 * cnt d l[i].2.1) l[i].2.2) := by
      intro i hi
      have hi' : i < (mkL (mkT d) (cnt d) k l).length := by rw [hml]; exact hi
      obtain ⟨b, off, t, e, ha, hS, r1, r2⟩ := hcell i hi'
      have hg := mkL_get (mkT d) l k i hi hi'
      have hS' : StepAt w b (off + i * 8) (mkL (mkT d) (cnt d) k l)[i].1 t e := hS
      have r1' : Rep w d t (mkL (mkT d) (cnt d) k l)[i].2.1 := r1
      have r2' : Rep w d e (mkL (mkT d) (cnt d) k l)[i].2.2 := r2
      rw [hg] at hS' r1' r2'
      exact ⟨b, off, t, e, ha, hS', r1', r2'⟩
    have HC : Hid _ := hcell'
    have hsl : (Value.slice a (mkL (mkT d) (cnt d) k l).length c) = .slice a l.length c := by rw [hml]
    have hlc' : l.length ≤ c := by rw [← hml]; exact hlc
    have hlm : (l.length : Int) ≤ 9223372036854775807 := by unfold maxLen at hcm; omega
    show Calls Try.prog 89 #[.slice a (mkL (mkT d) (cnt d) k l).length c, .int .i64 k] w _
    rw [hsl]
    have IH : Hid _ := ih
    clear ih hcell hcell' hsl hml hlc
    go_enter Try.func89, Try.ntmps89
    go_wp2
    go_loopw [1, 5] (fun o j wr => ∃ (i : Nat) (z : Int), i ≤ l.length ∧ j = .int .i64 i ∧ o = .int .i64 z ∧ Hid (z = k + 6 * (cnt (d + 1) (l.take i : List (Pay × Tr d × Tr d)) : Nat)) ∧ Below w.heap.size w wr) (fun _ j _ => l.length - (intOf j).toNat)
    case atStart => exact ⟨0, k, by omega, rfl, rfl, (show k = k + 6 * (cnt (d + 1) (l.take 0 : List (Pay × Tr d × Tr d)) : Nat) by simp [cnt]), Below.refl _ _⟩
    case round =>
      obtain ⟨i, z, hi, rfl, rfl, HZ, hbr⟩ := hrel
      have hsz : w.heap.size ≤ wr.heap.size := hbr.size
      by_cases hlt : i < l.length
      · obtain ⟨b, off, t, e, rfl, hS, r1, r2⟩ := HC.out i hlt
        obtain ⟨p, T1, T2, hx⟩ : ∃ p T1 T2, l[i] = (p, T1, T2) := ⟨_, _, _, rfl⟩
        have q1 := cnt_take l i hlt
        rw [hx] at q1 r1 r2
        dsimp only at q1 r1 r2
        have hz := HZ.out
        rw [← hz] at hS r1 r2
        obtain ⟨ta, tc, hta⟩ := r1.slice
        obtain ⟨ea, ec, hea⟩ := r2.slice
        subst hta hea
        obtain ⟨x0, x1, x2, x3, x4, x5, x6, x7⟩ := hS.on (w' := wr) (fun a v h => cell_later hbr h)
        simp only [mkP] at x0 x1 x2 x3 x4 x5
        have q2 := cnt_take_le l (i + 1)
        have hzb : 0 ≤ z ∧ z ≤ 33554432 := by omega
        have i0' : (0 : Int) ≤ (i : Int) := by omega
        have i1' : (i : Int) < (l.length : Int) := by omega
        have v1 := w64 (z + 1) (by omega)
        have v2 := w64 (z + 2) (by omega)
        have v3 := w64 (z + 3) (by omega)
        have v4 := w64 (z + 4) (by omega)
        have v5 := w64 (z + 5) (by omega)
        have v6 := w64 (z + 6) (by omega)
        have e2 : z + 1 + 1 = z + 2 := by omega
        have e3 : z + 2 + 1 = z + 3 := by omega
        have e4 : z + 3 + 1 = z + 4 := by omega
        have e5 : z + 4 + 1 = z + 5 := by omega
        have e6 : z + 5 + 1 = z + 6 := by omega
        have C1 : Hid _ := IH.out T1 _ (z + 6) wr (r1.below hbr) (by omega) (by omega)
        have R2 : Hid _ := r2
        have HQ1 : Hid _ := q1
        clear hS r1 r2 q1 hz
        go_wp2_with fail
        go_at_call 89; refine Calls.mono C1.out ?_
        rintro e' w1 ⟨rfl, hb1⟩
        have B1 : Below w.heap.size w w1 := Below.then hbr hb1 hsz
        replace x7 := cell_later hb1 x7
        have hz := HZ.out
        have q1 := HQ1.out
        have n1 : ¬ z + 6 + 6 * (cnt d T1 : Int) < 0 := by omega
        have n1' : 0 ≤ z + 6 + 6 * (cnt d T1 : Int) := by omega
        have C2 : Hid _ := IH.out T2 _ (z + 6 + 6 * cnt d T1) w1 (Rep.below B1 R2.out) (by omega) (by omega)
        clear x0 x1 x2 x3 x4 x5 x6 hb1 C1 hz q1 e2 e3 e4 e5 e6 v1 v2 v3 v4 v5 v6 hbr
        go_wp2_with fail
        go_at_call 89; refine Calls.mono C2.out ?_
        rintro e' w2 ⟨rfl, hb2⟩
        have B2 : Below w.heap.size w w2 := Below.then B1 hb2 B1.size
        have hz := HZ.out
        have q1 := HQ1.out
        have n2 : ¬ z + 6 + 6 * (cnt d T1 : Int) + 6 * (cnt d T2 : Int) < 0 := by omega
        have n2' : 0 ≤ z + 6 + 6 * (cnt d T1 : Int) + 6 * (cnt d T2 : Int) := by omega
        have HE : Hid (z + 6 + 6 * (cnt d T1 : Int) + 6 * (cnt d T2 : Int) = k + 6 * (cnt (d + 1) (l.take (i + 1) : List (Pay × Tr d × Tr d)) : Nat)) := (show z + 6 + 6 * (cnt d T1 : Int) + 6 * (cnt d T2 : Int) = k + 6 * (cnt (d + 1) (l.take (i + 1) : List (Pay × Tr d × Tr d)) : Nat) by rw [q1]; omega)
        clear hb2 x7 C2 hz q1 n1 n1' B1
        generalize z + 6 + 6 * (cnt d T1 : Int) + 6 * (cnt d T2 : Int) = zz at *
        go_wp2
        exact ⟨⟨i + 1, zz, by omega, by simp, rfl, HE, B2⟩, by simp [intOf]; omega⟩
      · have hie : i = l.length := by omega
        subst hie
        have HB : Hid _ := hbr
        clear hbr
        go_wp2
        go_ret
        have hz := HZ.out
        rw [List.take_length] at hz
        exact ⟨by rw [hz]; rfl, HB.out⟩

end Go.Proofs.Ytfmhdjnambnglaa

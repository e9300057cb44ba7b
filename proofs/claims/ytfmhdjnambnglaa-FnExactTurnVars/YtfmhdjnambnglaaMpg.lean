/- A program that is marked, and held against its marks. -/
import Derived.Test.YtfmhdjnambnglaaFrs
import Derived.Test.YtfmhdjnambnglaaHld
import Derived.Test.YtfmhdjnambnglaaMrl
import Derived.Test.YtfmhdjnambnglaaTpc
namespace Go.Proofs.Ytfmhdjnambnglaa
open Go.RowKit
set_option linter.unusedSimpArgs false
set_option linter.unusedVariables false
attribute [local go_sem] World.cell?_alloc_some

theorem markProg_all {d : Nat} {T : Tr d} {lv sv : Value} {ls : List (Int × Int)} {b1 b2 : List Nat} {w : World} (hL : LOwn w lv ls b1) (hR : Own w d sv T b2) (hlt : ∀ b ∈ b1 ++ b2, b < w.heap.size) (hnd : b2.Nodup) (hdj : ∀ b ∈ b1, b ∉ b2) (hs1 : ls.length ≤ 1048576) (hs2 : cnt d T ≤ 1048576) :
    Calls Try.prog 44 #[.agg #[lv, sv], .int .i64 1] w fun e w' => e = .returned (.int .i64 (1 + 2 * ls.length + 6 * cnt d T)) ∧ Fs (b1 ++ b2) w w' ∧ LOwn w' lv (pf 1 ls.length) b1 ∧ Own w' d sv (mkT d (1 + 2 * ls.length) T) b2 := by
  have A : Below w.heap.size w (w.alloc (.cells #[lv, sv] 43)) := (Below.refl _ _).alloc (Nat.le_refl _) _
  have L1 : LOwn (w.alloc (.cells #[lv, sv] 43)) lv ls b1 := LOwn.frame (fun b hb => A.block b (hlt b (List.mem_append_left _ hb))) hL
  have R1 : Own (w.alloc (.cells #[lv, sv] 43)) d sv T b2 := hR.below A (fun b hb => hlt b (List.mem_append_right _ hb))
  have C1 : Hid _ := markLabelS_all L1 (k := 1) (by omega) (by omega)
  obtain ⟨la, lc, rfl, -⟩ := hL.rep
  obtain ⟨sa, sc, rfl⟩ := hR.slice
  have nw : w.heap.size ∉ b1 := fun h => by have := hlt _ (List.mem_append_left _ h); omega
  clear hL hR L1
  go_enter Try.func44, Try.ntmps44
  go_wp2_with fail
  go_at_call 86; refine Calls.mono C1.out ?_
  rintro e w1 ⟨rfl, fr1, ol1⟩
  have x1 : w1.cell? ⟨w.heap.size, 1, none⟩ = some (.slice sa (ln d T) sc) := (World.cell?_of_block (fr1.block w.heap.size nw)).trans (by go_simp)
  have R2 : Own w1 d (.slice sa (ln d T) sc) T b2 := R1.frame (fun b hb => fr1.block b (fun h => hdj b h hb))
  have C2 : Hid _ := markStepS_any d T _ b2 (1 + 2 * ls.length) w1 R2 hnd (by omega) (by omega)
  have HF1 : Hid _ := fr1
  have HO1 : Hid _ := ol1
  clear fr1 C1 R1 R2 ol1
  go_wp2_with fail
  go_at_call 87; refine Calls.mono C2.out ?_
  rintro e w2 ⟨rfl, fr2, ot2⟩
  have HO2 : Hid _ := ot2
  clear x1 C2 ot2
  go_wp2
  go_ret
  exact ⟨rfl, ((Fs.of_below A).trans ((Fs.of_fr HF1.out).mono (fun x hx => List.mem_append_left _ hx))).trans ((Fs.of_fr fr2).mono (fun x hx => List.mem_append_right _ hx)), LOwn.frame (fun b hb => fr2.block b (hdj b hb)) HO1.out, HO2.out⟩

theorem heldProg_any {d : Nat} {T : Tr d} {lv sv : Value} {n : Nat} {w : World} (hL : LRep w lv (pf 1 n)) (hR : Rep w d sv (mkT d (1 + 2 * n) T)) (hs1 : n ≤ 1048576) (hs2 : cnt d T ≤ 1048576) :
    Calls Try.prog 46 #[.agg #[lv, sv], .int .i64 1] w fun e w' => e = .returned (.int .i64 (1 + 2 * n + 6 * cnt d T)) ∧ Below w.heap.size w w' := by
  have A : Below w.heap.size w (w.alloc (.cells #[lv, sv] 43)) := (Below.refl _ _).alloc (Nat.le_refl _) _
  have C1 : Hid _ := heldLabelS_any (n := n) (k := 1) (hL.below A) (by omega) (by omega)
  have HR : Hid (∀ w', Below w.heap.size w w' → Rep w' d sv (mkT d (1 + 2 * n) T)) := (show ∀ w', _ from fun w' hb => hR.below hb)
  obtain ⟨la, lc, rfl, -⟩ := hL
  obtain ⟨sa, sc, rfl⟩ := hR.slice
  clear hR
  have n1 : ¬ 1 + 2 * (n : Int) < 0 := by omega
  have n2 : ¬ 1 + 2 * (n : Int) + 6 * (cnt d T : Int) < 0 := by omega
  go_enter Try.func46, Try.ntmps46
  go_wp2_with fail
  go_at_call 88; refine Calls.mono C1.out ?_
  rintro r w1 ⟨rfl, hb1⟩
  have B1 : Below w.heap.size w w1 := Below.then A hb1 (by simp)
  have x7 : w1.cell? ⟨w.heap.size, 1, none⟩ = some (.slice sa (ln d (mkT d (1 + 2 * n) T)) sc) := cell_later hb1 (by go_simp)
  have C2 : Hid _ := heldStepS_any d T _ (1 + 2 * n) w1 (HR.out w1 B1) (by omega) (by omega)
  clear hb1 C1 A
  go_wp2_with fail
  go_at_call 89; refine Calls.mono C2.out ?_
  rintro r w2 ⟨rfl, hb2⟩
  have B2 : Below w.heap.size w w2 := Below.then B1 hb2 B1.size
  clear x7 C2 hb2
  go_wp2
  go_ret
  exact ⟨rfl, B2⟩

theorem tp_small {zs : List Int} {ls : List (Int × Int)} {d : Nat} {T : Tr d} (h1 : ls.length ≤ 1048576) (h2 : cnt d T ≤ 1048576) : (tpL zs ls d T).length ≤ 1048576 ∧ cnt d (tpT zs ls d T) ≤ 1048576 := by
  unfold tpL tpT
  split
  · rw [turnLs_len, cnt_mapT]; exact ⟨h1, h2⟩
  · rw [cnt_noT]; exact ⟨by simp, by omega⟩
theorem tv_small {zs : List Int} {ls : List (Int × Int)} {d : Nat} {T : Tr d} (h1 : ls.length ≤ 1048576) (h2 : cnt d T ≤ 1048576) : (tvL zs ls d T).length ≤ 1048576 ∧ cnt d (tvT zs ls d T) ≤ 1048576 := by
  unfold tvL tvT
  split
  · rw [movL_len, cnt_mapT]; exact ⟨h1, h2⟩
  · rw [cnt_noT]; exact ⟨by simp, by omega⟩

end Go.Proofs.Ytfmhdjnambnglaa

/- A program that came in: its labels, and its steps in steps, as they lie in memory. -/
import Derived.Test.YtlhfbhidgabgbaaTre
import Derived.Lib.SmallJoins
import Derived.OpenShut
import Derived.ChangeArms
import Derived.Deep.MidRow
namespace Go.Proofs.Ytlhfbhidgabgbaa
open Go.RowKit Go.Joins
set_option linter.unusedSimpArgs false
set_option linter.unusedVariables false

theorem list_of {α : Type} (P : Nat → α → Prop) : ∀ n : Nat, (∀ i, i < n → ∃ x, P i x) → ∃ l : List α, l.length = n ∧ ∀ i (hi : i < l.length), P i l[i]
  | 0, _ => ⟨[], rfl, fun i hi => by simp at hi⟩
  | n + 1, h => by
    obtain ⟨l, hl, hP⟩ := list_of P n (fun i hi => h i (by omega))
    obtain ⟨x, hx⟩ := h n (by omega)
    refine ⟨l ++ [x], by simp [hl], fun i hi => ?_⟩
    by_cases hin : i < l.length
    · rw [List.getElem_append_left hin]; exact hP i hin
    · have : i = n := by simp at hi; omega
      subst this
      rw [List.getElem_append_right (by omega)]
      simpa using hx
theorem rep_nil (w : World) (a : Option Addr) (c : Nat) (hc : c ≤ maxLen) : ∀ d : Nat, ∃ T : Tr d, Rep w d (.slice a 0 c) T
  | 0 => ⟨(), a, c, rfl⟩
  | d + 1 => ⟨([] : List (Pay × Tr d × Tr d)), a, c, rfl, Nat.zero_le _, hc, fun i hi => by simp at hi⟩
section
variable {H : Type} {enc : TypeId × Value → H} {w : World} {base : Nat} {spare : Nat → Bool} {held : Bool}
theorem cells_get {a : Addr} {n : Nat} {cs : List Value} (h : w.cells? base a n = some cs) : cs.length = n ∧ ∀ j, j < n → w.cell? (a.add j) = cs[j]? := by
  unfold World.cells? at h
  split at h
  · refine ⟨by simpa using mapM_some_length h, fun j hj => mapM_some_get h j j (by simp [hj])⟩
  · cases h
theorem spot_none {a : Addr} {v : Value} (h : w.cell? a = some v) : ∃ b off, a = ⟨b, off, none⟩ := by
  obtain ⟨b, off, s⟩ := a
  cases s with
  | none => exact ⟨b, off, rfl⟩
  | some s =>
    unfold World.cell? at h
    split at h
    · simp at h
    · cases h
theorem len8 {cs : List Value} (h : cs.length = 8) : ∃ a b c d e f g i, cs = [a, b, c, d, e, f, g, i] := by
  match cs, h with
  | [a, b, c, d, e, f, g, i], _ => exact ⟨a, b, c, d, e, f, g, i, rfl⟩
theorem len2 {cs : List Value} (h : cs.length = 2) : ∃ a b, cs = [a, b] := by
  match cs, h with
  | [a, b], _ => exact ⟨a, b, rfl⟩
theorem k1 : Try.prog.cellsOf 3 = 1 := by kernel_rfl
theorem k3 : Try.prog.cellsOf 121 = 3 := by kernel_rfl
theorem kS : Try.prog.cellsOf 51 = 1 := by kernel_rfl
theorem k8 : Try.prog.cellsOf 123 = 8 := by kernel_rfl
theorem k2 : Try.prog.cellsOf 125 = 2 := by kernel_rfl

/-- The cells of a step that came in. -/
theorem open_step {n : Nat} {cs : List Value} {x : DataW H × List MemPlace} (h : DataW.trod enc Try.prog w base spare held n 123 cs = some x) :
    ∃ (m : Nat) (p : Pay) (t e : Value) (y z : DataW H × List MemPlace), n = m + 1 ∧ cs = [.int .i64 p.k, .int .i64 p.v, .int .i64 p.vk, .int .i64 p.va, .int .i64 p.vb, .int .i64 p.h, t, e] ∧
      DataW.trod enc Try.prog w base spare held m 51 [t] = some y ∧ DataW.trod enc Try.prog w base spare held m 51 [e] = some z := by
  obtain ⟨xs, m, hn, -, hl, hxl, hf⟩ := DataW.trod_struct Try.underlying123 h
  rw [k8] at hl
  obtain ⟨a0, a1, a2, a3, a4, a5, a6, a7, rfl⟩ := len8 hl
  have f0 : DataW.trod enc Try.prog w base spare held m 3 (List.take (Try.prog.cellsOf 3) (List.drop 0 [a0, a1, a2, a3, a4, a5, a6, a7])) = xs[0]? := hf 0 _ rfl
  rw [k1] at f0
  simp only [List.drop, List.take] at f0
  have f1 : DataW.trod enc Try.prog w base spare held m 3 (List.take (Try.prog.cellsOf 3) (List.drop 1 [a0, a1, a2, a3, a4, a5, a6, a7])) = xs[1]? := hf 1 _ rfl
  rw [k1] at f1
  simp only [List.drop, List.take] at f1
  have f2 : DataW.trod enc Try.prog w base spare held m 121 (List.take (Try.prog.cellsOf 121) (List.drop 2 [a0, a1, a2, a3, a4, a5, a6, a7])) = xs[2]? := hf 2 _ rfl
  rw [k3] at f2
  simp only [List.drop, List.take] at f2
  have f3 : DataW.trod enc Try.prog w base spare held m 3 (List.take (Try.prog.cellsOf 3) (List.drop 5 [a0, a1, a2, a3, a4, a5, a6, a7])) = xs[3]? := hf 3 _ rfl
  rw [k1] at f3
  simp only [List.drop, List.take] at f3
  have f4 : DataW.trod enc Try.prog w base spare held m 51 (List.take (Try.prog.cellsOf 51) (List.drop 6 [a0, a1, a2, a3, a4, a5, a6, a7])) = xs[4]? := hf 4 _ rfl
  rw [kS] at f4
  simp only [List.drop, List.take] at f4
  have f5 : DataW.trod enc Try.prog w base spare held m 51 (List.take (Try.prog.cellsOf 51) (List.drop 7 [a0, a1, a2, a3, a4, a5, a6, a7])) = xs[5]? := hf 5 _ rfl
  rw [kS] at f5
  simp only [List.drop, List.take] at f5
  have hs : ∀ i, i < 6 → ∃ y, xs[i]? = some y := fun i hi => ⟨xs[i]'(by rw [hxl]; exact hi), List.getElem?_eq_getElem _⟩
  obtain ⟨y0, e0⟩ := hs 0 (by decide)
  obtain ⟨y1, e1⟩ := hs 1 (by decide)
  obtain ⟨y2, e2⟩ := hs 2 (by decide)
  obtain ⟨y3, e3⟩ := hs 3 (by decide)
  obtain ⟨y4, e4⟩ := hs 4 (by decide)
  obtain ⟨y5, e5⟩ := hs 5 (by decide)
  rw [e0] at f0
  rw [e1] at f1
  rw [e2] at f2
  rw [e3] at f3
  rw [e4] at f4
  rw [e5] at f5
  obtain ⟨k, g0, -, -⟩ := DataW.trod_int Try.underlying3 f0
  obtain ⟨v, g1, -, -⟩ := DataW.trod_int Try.underlying3 f1
  obtain ⟨h', g3, -, -⟩ := DataW.trod_int Try.underlying3 f3
  obtain ⟨zs, m2, -, -, -, hzl, hg⟩ := DataW.trod_struct Try.underlying121 f2
  have j0 : DataW.trod enc Try.prog w base spare held m2 3 (List.take (Try.prog.cellsOf 3) (List.drop 0 [a2, a3, a4])) = zs[0]? := hg 0 _ rfl
  rw [k1] at j0
  simp only [List.drop, List.take] at j0
  have j1 : DataW.trod enc Try.prog w base spare held m2 3 (List.take (Try.prog.cellsOf 3) (List.drop 1 [a2, a3, a4])) = zs[1]? := hg 1 _ rfl
  rw [k1] at j1
  simp only [List.drop, List.take] at j1
  have j2 : DataW.trod enc Try.prog w base spare held m2 3 (List.take (Try.prog.cellsOf 3) (List.drop 2 [a2, a3, a4])) = zs[2]? := hg 2 _ rfl
  rw [k1] at j2
  simp only [List.drop, List.take] at j2
  have hs2 : ∀ i, i < 3 → ∃ y, zs[i]? = some y := fun i hi => ⟨zs[i]'(by rw [hzl]; exact hi), List.getElem?_eq_getElem _⟩
  obtain ⟨z0, d0⟩ := hs2 0 (by decide)
  obtain ⟨z1, d1⟩ := hs2 1 (by decide)
  obtain ⟨z2, d2⟩ := hs2 2 (by decide)
  rw [d0] at j0
  rw [d1] at j1
  rw [d2] at j2
  obtain ⟨vk, i0, -, -⟩ := DataW.trod_int Try.underlying3 j0
  obtain ⟨va, i1, -, -⟩ := DataW.trod_int Try.underlying3 j1
  obtain ⟨vb, i2, -, -⟩ := DataW.trod_int Try.underlying3 j2
  simp only [List.cons.injEq, and_true] at g0 g1 g3 i0 i1 i2
  subst g0 g1 g3 i0 i1 i2
  exact ⟨m, ⟨k, v, vk, va, vb, h'⟩, a6, a7, y4, y5, hn, rfl, f4, f5⟩

theorem open_steps : ∀ (fuel : Nat) (v : Value) (y : DataW H × List MemPlace), DataW.trod enc Try.prog w base spare held fuel 51 [v] = some y → ∃ T : Tr (fuel / 2), Rep w (fuel / 2) v T := by
  intro fuel
  induction fuel using Nat.strongRecOn with
  | ind fuel ih =>
    intro v y h
    rcases DataW.trod_slice Try.underlying51 h with ⟨hcs, _⟩ | ⟨a, len, cap, elems, rest, n, hf, hcs, _, hb, hl, hm, hel, hcell, _⟩
    · simp only [List.cons.injEq, and_true] at hcs
      subst hcs
      exact rep_nil w none 0 (by decide) _
    · simp only [List.cons.injEq, and_true] at hcs
      subst hcs
      rcases Nat.eq_zero_or_pos len with rfl | hpos
      · exact rep_nil w _ cap hm _
      · rw [k8] at hcell
        have hc : ∀ i, i < len → ∃ (cs : List Value) (m : Nat) (p : Pay) (t e : Value) (y z : DataW H × List MemPlace), w.cells? base (a.add (i * 8)) 8 = some cs ∧ n = m + 1 ∧ cs = [.int .i64 p.k, .int .i64 p.v, .int .i64 p.vk, .int .i64 p.va, .int .i64 p.vb, .int .i64 p.h, t, e] ∧
            DataW.trod enc Try.prog w base spare held m 51 [t] = some y ∧ DataW.trod enc Try.prog w base spare held m 51 [e] = some z := by
          intro i hi
          have h1 := hcell i hi
          rw [List.getElem?_eq_getElem (by omega), Option.bind_eq_some_iff] at h1
          obtain ⟨cs, h2, h3⟩ := h1
          obtain ⟨m, p, t, e, y, z, h4, h5, h6, h7⟩ := open_step h3
          exact ⟨cs, m, p, t, e, y, z, h2, h4, h5, h6, h7⟩
        obtain ⟨cs0, m, p0, t0, e0, y0, z0, hc0, hnm, hcs0, -, -⟩ := hc 0 hpos
        obtain ⟨hl0, hg0⟩ := cells_get hc0
        have ha := hg0 0 (by decide)
        rw [hcs0] at ha
        obtain ⟨b, off, rfl⟩ := spot_none (w := w) (a := a) (v := .int .i64 p0.k) (by simpa [Addr.add] using ha)
        subst hnm
        subst hf
        have hdiv : (m + 1 + 1) / 2 = m / 2 + 1 := by omega
        rw [hdiv]
        obtain ⟨l, hll, hP⟩ := list_of (fun i (x : Pay × Tr (m / 2) × Tr (m / 2)) => ∃ t e, StepAt w b (off + i * 8) x.1 t e ∧ Rep w (m / 2) t x.2.1 ∧ Rep w (m / 2) e x.2.2) len (by
          intro i hi
          obtain ⟨cs, m', p, t, e, y, z, hci, hnm', hcs, ht, he⟩ := hc i hi
          obtain rfl : m = m' := by omega
          obtain ⟨T1, r1⟩ := ih m (by omega) t y ht
          obtain ⟨T2, r2⟩ := ih m (by omega) e z he
          obtain ⟨hli, hgi⟩ := cells_get hci
          have hq : ∀ j, j < 8 → w.cell? ⟨b, off + i * 8 + j, none⟩ = cs[j]? := fun j hj => by
            have := hgi j hj
            rwa [Addr.add_mid, Addr.add_mid] at this
          subst hcs
          exact ⟨(p, T1, T2), t, e, ⟨hq 0 (by decide), hq 1 (by decide), hq 2 (by decide), hq 3 (by decide), hq 4 (by decide), hq 5 (by decide), hq 6 (by decide), hq 7 (by decide)⟩, r1, r2⟩)
        refine ⟨(l : List (Pay × Tr (m / 2) × Tr (m / 2))), some ⟨b, off, none⟩, cap, by rw [hll], by rw [hll]; exact hl, hm, fun i hi => ?_⟩
        obtain ⟨t, e, hS, r1, r2⟩ := hP i hi
        exact ⟨b, off, t, e, rfl, hS, r1, r2⟩

theorem open_label {n : Nat} {cs : List Value} {x : DataW H × List MemPlace} (h : DataW.trod enc Try.prog w base spare held n 125 cs = some x) :
    ∃ k t : Int, cs = [.int .i64 k, .int .i64 t] := by
  obtain ⟨xs, m, hn, -, hl, hxl, hf⟩ := DataW.trod_struct Try.underlying125 h
  rw [k2] at hl
  obtain ⟨a0, a1, rfl⟩ := len2 hl
  have f0 : DataW.trod enc Try.prog w base spare held m 3 (List.take (Try.prog.cellsOf 3) (List.drop 0 [a0, a1])) = xs[0]? := hf 0 _ rfl
  rw [k1] at f0
  simp only [List.drop, List.take] at f0
  have f1 : DataW.trod enc Try.prog w base spare held m 3 (List.take (Try.prog.cellsOf 3) (List.drop 1 [a0, a1])) = xs[1]? := hf 1 _ rfl
  rw [k1] at f1
  simp only [List.drop, List.take] at f1
  have hs : ∀ i, i < 2 → ∃ y, xs[i]? = some y := fun i hi => ⟨xs[i]'(by rw [hxl]; exact hi), List.getElem?_eq_getElem _⟩
  obtain ⟨y0, e0⟩ := hs 0 (by decide)
  obtain ⟨y1, e1⟩ := hs 1 (by decide)
  rw [e0] at f0
  rw [e1] at f1
  obtain ⟨k, g0, -, -⟩ := DataW.trod_int Try.underlying3 f0
  obtain ⟨v, g1, -, -⟩ := DataW.trod_int Try.underlying3 f1
  simp only [List.cons.injEq, and_true] at g0 g1
  subst g0 g1
  exact ⟨k, v, rfl⟩

theorem open_labels {fuel : Nat} {v : Value} {y : DataW H × List MemPlace} (h : DataW.trod enc Try.prog w base spare held fuel 50 [v] = some y) : ∃ ls : List (Int × Int), LRep w v ls := by
  rcases DataW.trod_slice Try.underlying50 h with ⟨hcs, _⟩ | ⟨a, len, cap, elems, rest, n, hf, hcs, _, hb, hl, hm, hel, hcell, _⟩
  · simp only [List.cons.injEq, and_true] at hcs
    subst hcs
    exact ⟨[], none, 0, rfl, by decide, by decide, fun i hi => by simp at hi⟩
  · simp only [List.cons.injEq, and_true] at hcs
    subst hcs
    rcases Nat.eq_zero_or_pos len with rfl | hpos
    · exact ⟨[], _, cap, rfl, Nat.zero_le _, hm, fun i hi => by simp at hi⟩
    · rw [k2] at hcell
      have hc : ∀ i, i < len → ∃ (cs : List Value) (k t : Int), w.cells? base (a.add (i * 2)) 2 = some cs ∧ cs = [.int .i64 k, .int .i64 t] := by
        intro i hi
        have h1 := hcell i hi
        rw [List.getElem?_eq_getElem (by omega), Option.bind_eq_some_iff] at h1
        obtain ⟨cs, h2, h3⟩ := h1
        obtain ⟨k, t, h5⟩ := open_label h3
        exact ⟨cs, k, t, h2, h5⟩
      obtain ⟨cs0, k0, t0, hc0, hcs0⟩ := hc 0 hpos
      obtain ⟨hl0, hg0⟩ := cells_get hc0
      have ha := hg0 0 (by decide)
      rw [hcs0] at ha
      obtain ⟨b, off, rfl⟩ := spot_none (w := w) (a := a) (v := .int .i64 k0) (by simpa [Addr.add] using ha)
      obtain ⟨l, hll, hP⟩ := list_of (fun i (x : Int × Int) => w.cell? ⟨b, off + i * 2, none⟩ = some (.int .i64 x.1) ∧ w.cell? ⟨b, off + i * 2 + 1, none⟩ = some (.int .i64 x.2)) len (by
        intro i hi
        obtain ⟨cs, k, t, hci, hcs⟩ := hc i hi
        obtain ⟨hli, hgi⟩ := cells_get hci
        have hq : ∀ j, j < 2 → w.cell? ⟨b, off + i * 2 + j, none⟩ = cs[j]? := fun j hj => by
          have := hgi j hj
          rwa [Addr.add_mid, Addr.add_mid] at this
        subst hcs
        exact ⟨(k, t), hq 0 (by decide), hq 1 (by decide)⟩)
      refine ⟨l, some ⟨b, off, none⟩, cap, by rw [hll], by rw [hll]; exact hl, hm, fun i hi => ?_⟩
      obtain ⟨h0, h1⟩ := hP i hi
      exact ⟨b, off, rfl, h0, h1⟩
end

end Go.Proofs.Ytlhfbhidgabgbaa

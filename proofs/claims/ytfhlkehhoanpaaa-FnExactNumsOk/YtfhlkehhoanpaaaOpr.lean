/- What came of a program, as an argument: rows of numbers, of pairs, of truths. -/
import Derived.Test.YtfhlkehhoanpaaaOpn
import Derived.Test.YtfhlkehhoanpaaaVrw
import Derived.Deep.Grids
namespace Go.Proofs.Ytfhlkehhoanpaaa
open Go.RowKit Go.Joins Go.ChangeShapes
set_option linter.unusedSimpArgs false
set_option linter.unusedVariables false

section
variable {H : Type} {enc : TypeId × Value → H} {w : World} {base : Nat} {spare : Nat → Bool} {held : Bool}
theorem kWr : Try.prog.cellsOf 151 = 2 := by kernel_rfl
theorem kSa : Try.prog.cellsOf 153 = 2 := by kernel_rfl
theorem open_write {n : Nat} {cs : List Value} {x : DataW H × List MemPlace} (h : DataW.trod enc Try.prog w base spare held n 151 cs = some x) :
    ∃ k t : Int, cs = [.int .i64 k, .int .i64 t] := by
  obtain ⟨xs, m, hn, -, hl, hxl, hf⟩ := DataW.trod_struct Try.underlying151 h
  rw [kWr] at hl
  obtain ⟨a0, a1, rfl⟩ := len2 hl
  have f0 : DataW.trod enc Try.prog w base spare held m 3 (List.take (Try.prog.cellsOf 3) (List.drop 0 [a0, a1])) = xs[0]? := hf 0 _ rfl
  rw [k1] at f0
  simp only [List.drop, List.take] at f0
  have f1 : DataW.trod enc Try.prog w base spare held m 3 (List.take (Try.prog.cellsOf 3) (List.drop 1 [a0, a1])) = xs[1]? := hf 1 _ rfl
  rw [k1] at f1
  simp only [List.drop, List.take] at f1
  have hs : ∀ i, i < 2 → ∃ y, xs[i]? = some y := fun i hi => ⟨xs[i]'(by rw [hxl]; exact hi), List.getElem?_eq_getElem _⟩
  obtain ⟨y0, e0⟩ := hs 0 (by decide)
  obtain ⟨y1, e1⟩ := hs 1 (by decide)
  rw [e0] at f0
  rw [e1] at f1
  obtain ⟨k, g0, -, -⟩ := DataW.trod_int Try.underlying3 f0
  obtain ⟨v, g1, -, -⟩ := DataW.trod_int Try.underlying3 f1
  simp only [List.cons.injEq, and_true] at g0 g1
  subst g0 g1
  exact ⟨k, v, rfl⟩
theorem open_writes {fuel : Nat} {v : Value} {y : DataW H × List MemPlace} (h : DataW.trod enc Try.prog w base spare held fuel 76 [v] = some y) : ∃ ls : List (Int × Int), LRep w v ls := by
  rcases DataW.trod_slice Try.underlying76 h with ⟨hcs, _⟩ | ⟨a, len, cap, elems, rest, n, hf, hcs, _, hb, hl, hm, hel, hcell, _⟩
  · simp only [List.cons.injEq, and_true] at hcs
    subst hcs
    exact ⟨[], none, 0, rfl, by decide, by decide, fun i hi => by simp at hi⟩
  · simp only [List.cons.injEq, and_true] at hcs
    subst hcs
    rcases Nat.eq_zero_or_pos len with rfl | hpos
    · exact ⟨[], _, cap, rfl, Nat.zero_le _, hm, fun i hi => by simp at hi⟩
    · rw [kWr] at hcell
      have hc : ∀ i, i < len → ∃ (cs : List Value) (k t : Int), w.cells? base (a.add (i * 2)) 2 = some cs ∧ cs = [.int .i64 k, .int .i64 t] := by
        intro i hi
        have h1 := hcell i hi
        rw [List.getElem?_eq_getElem (by omega), Option.bind_eq_some_iff] at h1
        obtain ⟨cs, h2, h3⟩ := h1
        obtain ⟨k, t, h5⟩ := open_write h3
        exact ⟨cs, k, t, h2, h5⟩
      obtain ⟨cs0, k0, t0, hc0, hcs0⟩ := hc 0 hpos
      obtain ⟨hl0, hg0⟩ := cells_get hc0
      have ha := hg0 0 (by decide)
      rw [hcs0] at ha
      obtain ⟨b, off, rfl⟩ := spot_none (w := w) (a := a) (v := .int .i64 k0) (by simpa [Addr.add] using ha)
      obtain ⟨l, hll, hP⟩ := list_of (fun i (x : Int × Int) => w.cell? ⟨b, off + i * 2, none⟩ = some (.int .i64 x.1) ∧ w.cell? ⟨b, off + i * 2 + 1, none⟩ = some (.int .i64 x.2)) len (by
        intro i hi
        obtain ⟨cs, k, t, hci, hcs⟩ := hc i hi
        obtain ⟨hli, hgi⟩ := cells_get hci
        have hq : ∀ j, j < 2 → w.cell? ⟨b, off + i * 2 + j, none⟩ = cs[j]? := fun j hj => by
          have := hgi j hj
          rwa [Addr.add_mid, Addr.add_mid] at this
        subst hcs
        exact ⟨(k, t), hq 0 (by decide), hq 1 (by decide)⟩)
      refine ⟨l, some ⟨b, off, none⟩, cap, by rw [hll], by rw [hll]; exact hl, hm, fun i hi => ?_⟩
      obtain ⟨h0, h1⟩ := hP i hi
      exact ⟨b, off, rfl, h0, h1⟩

theorem open_said {n : Nat} {cs : List Value} {x : DataW H × List MemPlace} (h : DataW.trod enc Try.prog w base spare held n 153 cs = some x) :
    ∃ k t : Int, cs = [.int .i64 k, .int .i64 t] := by
  obtain ⟨xs, m, hn, -, hl, hxl, hf⟩ := DataW.trod_struct Try.underlying153 h
  rw [kSa] at hl
  obtain ⟨a0, a1, rfl⟩ := len2 hl
  have f0 : DataW.trod enc Try.prog w base spare held m 3 (List.take (Try.prog.cellsOf 3) (List.drop 0 [a0, a1])) = xs[0]? := hf 0 _ rfl
  rw [k1] at f0
  simp only [List.drop, List.take] at f0
  have f1 : DataW.trod enc Try.prog w base spare held m 3 (List.take (Try.prog.cellsOf 3) (List.drop 1 [a0, a1])) = xs[1]? := hf 1 _ rfl
  rw [k1] at f1
  simp only [List.drop, List.take] at f1
  have hs : ∀ i, i < 2 → ∃ y, xs[i]? = some y := fun i hi => ⟨xs[i]'(by rw [hxl]; exact hi), List.getElem?_eq_getElem _⟩
  obtain ⟨y0, e0⟩ := hs 0 (by decide)
  obtain ⟨y1, e1⟩ := hs 1 (by decide)
  rw [e0] at f0
  rw [e1] at f1
  obtain ⟨k, g0, -, -⟩ := DataW.trod_int Try.underlying3 f0
  obtain ⟨v, g1, -, -⟩ := DataW.trod_int Try.underlying3 f1
  simp only [List.cons.injEq, and_true] at g0 g1
  subst g0 g1
  exact ⟨k, v, rfl⟩
theorem open_saids {fuel : Nat} {v : Value} {y : DataW H × List MemPlace} (h : DataW.trod enc Try.prog w base spare held fuel 77 [v] = some y) : ∃ ls : List (Int × Int), LRep w v ls := by
  rcases DataW.trod_slice Try.underlying77 h with ⟨hcs, _⟩ | ⟨a, len, cap, elems, rest, n, hf, hcs, _, hb, hl, hm, hel, hcell, _⟩
  · simp only [List.cons.injEq, and_true] at hcs
    subst hcs
    exact ⟨[], none, 0, rfl, by decide, by decide, fun i hi => by simp at hi⟩
  · simp only [List.cons.injEq, and_true] at hcs
    subst hcs
    rcases Nat.eq_zero_or_pos len with rfl | hpos
    · exact ⟨[], _, cap, rfl, Nat.zero_le _, hm, fun i hi => by simp at hi⟩
    · rw [kSa] at hcell
      have hc : ∀ i, i < len → ∃ (cs : List Value) (k t : Int), w.cells? base (a.add (i * 2)) 2 = some cs ∧ cs = [.int .i64 k, .int .i64 t] := by
        intro i hi
        have h1 := hcell i hi
        rw [List.getElem?_eq_getElem (by omega), Option.bind_eq_some_iff] at h1
        obtain ⟨cs, h2, h3⟩ := h1
        obtain ⟨k, t, h5⟩ := open_said h3
        exact ⟨cs, k, t, h2, h5⟩
      obtain ⟨cs0, k0, t0, hc0, hcs0⟩ := hc 0 hpos
      obtain ⟨hl0, hg0⟩ := cells_get hc0
      have ha := hg0 0 (by decide)
      rw [hcs0] at ha
      obtain ⟨b, off, rfl⟩ := spot_none (w := w) (a := a) (v := .int .i64 k0) (by simpa [Addr.add] using ha)
      obtain ⟨l, hll, hP⟩ := list_of (fun i (x : Int × Int) => w.cell? ⟨b, off + i * 2, none⟩ = some (.int .i64 x.1) ∧ w.cell? ⟨b, off + i * 2 + 1, none⟩ = some (.int .i64 x.2)) len (by
        intro i hi
        obtain ⟨cs, k, t, hci, hcs⟩ := hc i hi
        obtain ⟨hli, hgi⟩ := cells_get hci
        have hq : ∀ j, j < 2 → w.cell? ⟨b, off + i * 2 + j, none⟩ = cs[j]? := fun j hj => by
          have := hgi j hj
          rwa [Addr.add_mid, Addr.add_mid] at this
        subst hcs
        exact ⟨(k, t), hq 0 (by decide), hq 1 (by decide)⟩)
      refine ⟨l, some ⟨b, off, none⟩, cap, by rw [hll], by rw [hll]; exact hl, hm, fun i hi => ?_⟩
      obtain ⟨h0, h1⟩ := hP i hi
      exact ⟨b, off, rfl, h0, h1⟩


theorem open_introw {fuel : Nat} {v : Value} {y : DataW H × List MemPlace} (h : DataW.trod enc Try.prog w base spare held fuel 41 [v] = some y) : ∃ zs : List Int, GRep (Value.int .i64) w v zs ∧ ∀ z ∈ zs, I64 z := by
  rcases open_ints Try.underlying41 Try.underlying3 k1 h with ⟨hcs, _⟩ | ⟨a, len, cap, zs, hcs, hb, hl, hm, hz, _, hcell, hwf⟩
  · simp only [List.cons.injEq, and_true] at hcs
    subst hcs
    exact ⟨[], ⟨none, 0, rfl, by decide, by decide, fun i hi => by simp at hi⟩, by simp⟩
  · simp only [List.cons.injEq, and_true] at hcs
    subst hcs
    have hlz : len ≤ zs.length := by rw [hz]; split <;> omega
    have htl : (zs.take len).length = len := by simp; omega
    refine ⟨zs.take len, ⟨some a, cap, by rw [htl], by rw [htl]; exact hl, hm, fun i hi => ?_⟩, fun z hz' => bounds_i64 (hwf z (List.mem_of_mem_take hz'))⟩
    have hi' : i < len := by omega
    have hc := hcell i (by omega)
    obtain ⟨b, off, hab⟩ := spot_none hc
    obtain ⟨b0, off0, rfl⟩ : ∃ b off, a = ⟨b, off, none⟩ := by
      have h0 := hcell 0 (by omega)
      obtain ⟨b, off, hab⟩ := spot_none h0
      exact ⟨b, off, by simpa [Addr.add] using hab⟩
    rw [Addr.add_mid] at hc
    exact ⟨b0, off0, rfl, by rw [hc]; simp [List.getD_eq_getElem?_getD, List.getElem?_eq_getElem (show i < zs.length by omega)]⟩
theorem open_boolrow {fuel : Nat} {v : Value} {y : DataW H × List MemPlace} (h : DataW.trod enc Try.prog w base (fun _ => true) held fuel 58 [v] = some y) : ∃ zs : List Bool, GRep Value.bool w v zs := by
  rcases Go.Deep.open_bools Try.underlying58 Try.underlying4 (by kernel_rfl) h with ⟨hcs, _⟩ | ⟨a, len, cap, B, hcs, hb, hl, hm, _, hcell⟩
  · simp only [List.cons.injEq, and_true] at hcs
    subst hcs
    exact ⟨[], none, 0, rfl, by decide, by decide, fun i hi => by simp at hi⟩
  · simp only [List.cons.injEq, and_true] at hcs
    subst hcs
    refine ⟨(List.range len).map B, some a, cap, by simp, by simpa using hl, hm, fun i hi => ?_⟩
    have hi' : i < len := by simpa using hi
    have hc := hcell i (by omega)
    obtain ⟨b0, off0, rfl⟩ : ∃ b off, a = ⟨b, off, none⟩ := by
      have h0 := hcell 0 (by omega)
      obtain ⟨b, off, hab⟩ := spot_none h0
      exact ⟨b, off, by simpa [Addr.add] using hab⟩
    rw [Addr.add_mid] at hc
    exact ⟨b0, off0, rfl, by simpa using hc⟩
end

end Go.Proofs.Ytfhlkehhoanpaaa

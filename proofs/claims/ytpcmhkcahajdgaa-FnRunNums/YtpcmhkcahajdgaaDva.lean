/- Drawn values. -/
import Derived.Test.YtpcmhkcahajdgaaL71
namespace Go.Proofs.Ytpcmhkcahajdgaa
open Go.RowKit
set_option linter.unusedSimpArgs false
set_option linter.unusedVariables false
attribute [local go_sem] World.cell?_alloc_some

theorem pick2 (w : World) (r m : Nat) (n : Int) (h : Rd2 w r m) (hp : m ≤ 1000000) (n1 : 1 ≤ n) (n2 : n ≤ 1000000) :
    Calls Try.prog 65 #[.pointer (some ⟨r, 0, none⟩), .int .i64 n] w fun e w' => ∃ k, e = .returned (.int .i64 k) ∧ 0 ≤ k ∧ k < n ∧ Rd2 w' r (m + 1) ∧ Oth r w w' := by
  obtain ⟨p, hp', h⟩ := h
  refine (pick_r w r p n h (by omega) n1 n2).mono ?_
  rintro e w' ⟨k, h1, h2, h3, h4, h5⟩
  exact ⟨k, h1, h2, h3, ⟨p + 1, by omega, h4⟩, h5⟩
theorem Rd2.oth {w w' : World} {r m : Nat} (h : Rd2 w r m) (k : Below w.heap.size w w') : Rd2 w' r m := by
  obtain ⟨p, hp, h⟩ := h
  exact ⟨p, hp, h.below k⟩
/-- Three cells of one block, that may be written. -/
def Cq3 (w : World) (b : Nat) (v0 v1 v2 : Value) : Prop :=
  (w.cell? ⟨b, 0, none⟩ = some v0 ∧ w.cell? ⟨b, 1, none⟩ = some v1 ∧ w.cell? ⟨b, 2, none⟩ = some v2) ∧ (w.frozen? ⟨b, 0, none⟩ = false ∧ w.frozen? ⟨b, 1, none⟩ = false ∧ w.frozen? ⟨b, 2, none⟩ = false)
theorem Cq3.oth {w w' : World} {b r : Nat} {v0 v1 v2 : Value} (h : Cq3 w b v0 v1 v2) (k : Oth r w w') (hb : b ≠ r) : Cq3 w' b v0 v1 v2 :=
  ⟨⟨k.cell hb h.1.1, k.cell hb h.1.2.1, k.cell hb h.1.2.2⟩, k.frozen hb h.1.1 h.2.1, k.frozen hb h.1.2.1 h.2.2.1, k.frozen hb h.1.2.2 h.2.2.2⟩
theorem Cq3.new (w : World) (v0 v1 v2 : Value) (T : TypeId) : Cq3 (w.alloc (.cells #[v0, v1, v2] T)) w.heap.size v0 v1 v2 := by
  refine ⟨⟨?_, ?_, ?_⟩, ?_, ?_, ?_⟩ <;> simp
theorem Cq3.put {w : World} {b : Nat} {v0 v1 v2 : Value} (h : Cq3 w b v0 v1 v2) (u0 u1 u2 : Value) : Cq3 (((w.setCell ⟨b, 0, none⟩ u0).setCell ⟨b, 1, none⟩ u1).setCell ⟨b, 2, none⟩ u2) b u0 u1 u2 := by
  obtain ⟨⟨c0, c1, c2⟩, f⟩ := h
  refine ⟨⟨?_, ?_, ?_⟩, by simpa only [World.frozen?_setCell] using f⟩
  · exact (World.cell?_setCell_other _ _ _ _ (by simp)).trans ((World.cell?_setCell_other _ _ _ _ (by simp)).trans (World.cell?_setCell_same _ _ _ c0))
  · exact (World.cell?_setCell_other _ _ _ _ (by simp)).trans (World.cell?_setCell_same _ _ _ ((World.cell?_setCell_other _ _ _ _ (by simp)).trans c1))
  · exact World.cell?_setCell_same _ _ _ ((World.cell?_setCell_other _ _ _ _ (by simp)).trans ((World.cell?_setCell_other _ _ _ _ (by simp)).trans c2))

set_option maxHeartbeats 4000000 in
theorem l71Val_any (w : World) (r m : Nat) (vars : Int) (h : Rd2 w r m) (hm : m ≤ 900000) (n1 : 1 ≤ vars) (n2 : vars ≤ 100) :
    Calls Try.prog 125 #[.pointer (some ⟨r, 0, none⟩), .int .i64 vars] w fun e w' => ∃ vk va vb, e = .returned (.agg #[.int .i64 vk, .int .i64 va, .int .i64 vb]) ∧ Rd2 w' r (m + 3) ∧ Oth r w w' := by
  have hlt := h.lt
  have A : Below w.heap.size w (w.alloc (.cells #[.int .i64 0, .int .i64 0, .int .i64 0] 32)) := (Below.refl _ _).alloc (Nat.le_refl _) _
  have Z := Cq3.new w (.int .i64 0) (.int .i64 0) (.int .i64 0) 32
  have C1 : Hid _ := pick2 _ r m 5 (h.oth A) (by omega) (by omega) (by omega)
  have HZ : Hid _ := Z
  have hne : w.heap.size ≠ r := by omega
  clear Z
  go_enter Try.func125, Try.ntmps125
  go_wp2_with fail
  go_at_call 65; refine Calls.mono C1.out ?_
  rintro e w1 ⟨k, rfl, k0, k5, rd1, ot1⟩
  have Z1 : Cq3 w1 w.heap.size (.int .i64 0) (.int .i64 0) (.int .i64 0) := Cq3.oth HZ.out ot1 hne
  have O1 : Hid (Oth r w w1) := (Oth.of_below A).trans ot1
  clear ot1 C1 A HZ
  have hk : k = 0 ∨ (k = 1 ∨ k = 2) ∨ k = 3 ∨ k = 4 := by omega
  clear k0 k5
  rcases hk with rfl | hk | hk | hk
  · have C2 : Hid _ := pick2 w1 r (m + 1) 10 rd1 (by omega) (by omega) (by omega)
    go_wp2_with fail
    go_at_call 65; refine Calls.mono C2.out ?_
    rintro e w2 ⟨a, rfl, _, _, rd2, ot2⟩
    have Z2 := Z1.oth ot2 hne
    have Z3 := Z2.put (.int .i64 1) (.int .i64 a) (.int .i64 0)
    obtain ⟨⟨x0, x1, x2⟩, y0, y1, y2⟩ := Z2
    clear Z1 C2
    go_wp2
    obtain ⟨⟨c0, c1, c2⟩, -⟩ := Z3
    refine bodyPost_ret (v := .agg #[.int .i64 1, .int .i64 a, .int .i64 0]) (by simp [results, Try.results125, go_sem, c0, c1, c2]) rfl ⟨1, a, 0, rfl, ?_, ?_⟩
    · exact (rd2.same (fun n hn => by rw [Below.heap_setCell _ _ _ _ (by show n ≠ w.heap.size; omega), Below.heap_setCell _ _ _ _ (by show n ≠ w.heap.size; omega), Below.heap_setCell _ _ _ _ (by show n ≠ w.heap.size; omega)])).mono (by omega)
    · exact (((O1.out.trans ot2).new (p := ⟨w.heap.size, 0, none⟩) (Nat.le_refl _) _).new (p := ⟨w.heap.size, 1, none⟩) (Nat.le_refl _) _).new (p := ⟨w.heap.size, 2, none⟩) (Nat.le_refl _) _
  · have C2 : Hid _ := pick2 w1 r (m + 1) vars rd1 (by omega) (by omega) (by omega)
    rcases hk with rfl | rfl
    all_goals
      go_wp2_with fail
      go_at_call 65; refine Calls.mono C2.out ?_
      rintro e w2 ⟨a, rfl, _, _, rd2, ot2⟩
      have Z2 := Z1.oth ot2 hne
      have Z3 := Z2.put (.int .i64 2) (.int .i64 a) (.int .i64 0)
      obtain ⟨⟨x0, x1, x2⟩, y0, y1, y2⟩ := Z2
      clear Z1 C2
      go_wp2
      obtain ⟨⟨c0, c1, c2⟩, -⟩ := Z3
      refine bodyPost_ret (v := .agg #[.int .i64 2, .int .i64 a, .int .i64 0]) (by simp [results, Try.results125, go_sem, c0, c1, c2]) rfl ⟨2, a, 0, rfl, ?_, ?_⟩
      · exact (rd2.same (fun n hn => by rw [Below.heap_setCell _ _ _ _ (by show n ≠ w.heap.size; omega), Below.heap_setCell _ _ _ _ (by show n ≠ w.heap.size; omega), Below.heap_setCell _ _ _ _ (by show n ≠ w.heap.size; omega)])).mono (by omega)
      · exact (((O1.out.trans ot2).new (p := ⟨w.heap.size, 0, none⟩) (Nat.le_refl _) _).new (p := ⟨w.heap.size, 1, none⟩) (Nat.le_refl _) _).new (p := ⟨w.heap.size, 2, none⟩) (Nat.le_refl _) _
  · subst hk
    have C2 : Hid _ := pick2 w1 r (m + 1) vars rd1 (by omega) (by omega) (by omega)
    go_wp2_with fail
    go_at_call 65; refine Calls.mono C2.out ?_
    rintro e w2 ⟨a, rfl, _, _, rd2, ot2⟩
    have Cq3' : Hid _ := pick2 w2 r (m + 2) vars rd2 (by omega) (by omega) (by omega)
    have Z2 := Z1.oth ot2 hne
    clear Z1 C2
    go_wp2_with fail
    go_at_call 65; refine Calls.mono Cq3'.out ?_
    rintro e w3 ⟨a', rfl, _, _, rd3, ot3⟩
    have Z3' := Z2.oth ot3 hne
    have Z3 := Z3'.put (.int .i64 3) (.int .i64 a) (.int .i64 a')
    obtain ⟨⟨x0, x1, x2⟩, y0, y1, y2⟩ := Z3'
    clear Z2 Cq3'
    go_wp2
    obtain ⟨⟨c0, c1, c2⟩, -⟩ := Z3
    refine bodyPost_ret (v := .agg #[.int .i64 3, .int .i64 a, .int .i64 a']) (by simp [results, Try.results125, go_sem, c0, c1, c2]) rfl ⟨3, a, a', rfl, ?_, ?_⟩
    · exact (rd3.same (fun n hn => by rw [Below.heap_setCell _ _ _ _ (by show n ≠ w.heap.size; omega), Below.heap_setCell _ _ _ _ (by show n ≠ w.heap.size; omega), Below.heap_setCell _ _ _ _ (by show n ≠ w.heap.size; omega)])).mono (by omega)
    · exact ((((O1.out.trans ot2).trans ot3).new (p := ⟨w.heap.size, 0, none⟩) (Nat.le_refl _) _).new (p := ⟨w.heap.size, 1, none⟩) (Nat.le_refl _) _).new (p := ⟨w.heap.size, 2, none⟩) (Nat.le_refl _) _
  · subst hk
    have C2 : Hid _ := pick2 w1 r (m + 1) vars rd1 (by omega) (by omega) (by omega)
    go_wp2_with fail
    go_at_call 65; refine Calls.mono C2.out ?_
    rintro e w2 ⟨a, rfl, _, _, rd2, ot2⟩
    have Cq3' : Hid _ := pick2 w2 r (m + 2) vars rd2 (by omega) (by omega) (by omega)
    have Z2 := Z1.oth ot2 hne
    clear Z1 C2
    go_wp2_with fail
    go_at_call 65; refine Calls.mono Cq3'.out ?_
    rintro e w3 ⟨a', rfl, _, _, rd3, ot3⟩
    have Z3' := Z2.oth ot3 hne
    have Z3 := Z3'.put (.int .i64 4) (.int .i64 a) (.int .i64 a')
    obtain ⟨⟨x0, x1, x2⟩, y0, y1, y2⟩ := Z3'
    clear Z2 Cq3'
    go_wp2
    obtain ⟨⟨c0, c1, c2⟩, -⟩ := Z3
    refine bodyPost_ret (v := .agg #[.int .i64 4, .int .i64 a, .int .i64 a']) (by simp [results, Try.results125, go_sem, c0, c1, c2]) rfl ⟨4, a, a', rfl, ?_, ?_⟩
    · exact (rd3.same (fun n hn => by rw [Below.heap_setCell _ _ _ _ (by show n ≠ w.heap.size; omega), Below.heap_setCell _ _ _ _ (by show n ≠ w.heap.size; omega), Below.heap_setCell _ _ _ _ (by show n ≠ w.heap.size; omega)])).mono (by omega)
    · exact ((((O1.out.trans ot2).trans ot3).new (p := ⟨w.heap.size, 0, none⟩) (Nat.le_refl _) _).new (p := ⟨w.heap.size, 1, none⟩) (Nat.le_refl _) _).new (p := ⟨w.heap.size, 2, none⟩) (Nat.le_refl _) _

end Go.Proofs.Ytpcmhkcahajdgaa

/- The program's steps that are turned: boxes. -/
import Derived.Test.YtfmhdjnambnglaaVsTsh
import Derived.Test.YtfmhdjnambnglaaVsAtP
import Derived.Deep.DeepCutAuto
import Derived.Deep.RegionHeld3
import Derived.Deep.DrawnRows
namespace Go.Proofs.Ytfmhdjnambnglaa
open Go.RowKit
set_option linter.unusedSimpArgs false
set_option linter.unusedVariables false
attribute [local go_sem] World.cell?_alloc_some

/-- Eight cells in a box, and a box behind it that may be written. -/
def X8 (W : World) (N : Nat) (v0 v1 v2 v3 v4 v5 v6 v7 : Value) : Prop := C8 W N v0 v1 v2 v3 v4 v5 v6 v7 ∧ ∃ z0 z1 z2 z3 z4 z5 z6 z7, C8 W (N + 1) z0 z1 z2 z3 z4 z5 z6 z7
theorem X8.below {w w' : World} {N : Nat} {v0 v1 v2 v3 v4 v5 v6 v7 : Value} (h : X8 w N v0 v1 v2 v3 v4 v5 v6 v7) (hb : Below w.heap.size w w') : X8 w' N v0 v1 v2 v3 v4 v5 v6 v7 := by
  obtain ⟨h1, z0, z1, z2, z3, z4, z5, z6, z7, h2⟩ := h
  exact ⟨h1.below hb, z0, z1, z2, z3, z4, z5, z6, z7, h2.below hb⟩
theorem X8.of {w w' : World} {N : Nat} {v0 v1 v2 v3 v4 v5 v6 v7 u0 u1 u2 u3 u4 u5 u6 u7 : Value} (h : X8 w N v0 v1 v2 v3 v4 v5 v6 v7) (h1 : C8 w' N u0 u1 u2 u3 u4 u5 u6 u7) (hb : w'.heap[N + 1]? = w.heap[N + 1]?) : X8 w' N u0 u1 u2 u3 u4 u5 u6 u7 := by
  obtain ⟨_, z0, z1, z2, z3, z4, z5, z6, z7, ⟨c0, c1, c2, c3, c4, c5, c6, c7⟩, f0, f1, f2, f3, f4, f5, f6, f7⟩ := h
  have hc : ∀ o, w'.cell? ⟨N + 1, o, none⟩ = w.cell? ⟨N + 1, o, none⟩ := fun o => World.cell?_of_block hb
  have hf : ∀ o, w'.frozen? ⟨N + 1, o, none⟩ = w.frozen? ⟨N + 1, o, none⟩ := fun o => World.frozen?_of_block (a := ⟨N + 1, o, none⟩) hb
  exact ⟨h1, z0, z1, z2, z3, z4, z5, z6, z7, ⟨(hc 0).trans c0, (hc 1).trans c1, (hc 2).trans c2, (hc 3).trans c3, (hc 4).trans c4, (hc 5).trans c5, (hc 6).trans c6, (hc 7).trans c7⟩, (hf 0).trans f0, (hf 1).trans f1, (hf 2).trans f2, (hf 3).trans f3, (hf 4).trans f4, (hf 5).trans f5, (hf 6).trans f6, (hf 7).trans f7⟩
theorem far1 (w : World) (N o : Nat) (u : Value) : (w.setCell ⟨N, o, none⟩ u).heap[N + 1]? = w.heap[N + 1]? := Below.heap_setCell _ _ _ _ (by simp)
theorem X8.new (w : World) (v0 v1 v2 v3 v4 v5 v6 v7 : Value) (T : TypeId) : X8 ((w.alloc (.cells #[v0, v1, v2, v3, v4, v5, v6, v7] T)).alloc (.cells #[.int .i64 0, .int .i64 0, .int .i64 0, .int .i64 0, .int .i64 0, .int .i64 0, .slice none 0 0, .slice none 0 0] T)) w.heap.size v0 v1 v2 v3 v4 v5 v6 v7 := by
  have h1 := C8.new w v0 v1 v2 v3 v4 v5 v6 v7 T
  have h2 := C8.new (w.alloc (.cells #[v0, v1, v2, v3, v4, v5, v6, v7] T)) (.int .i64 0) (.int .i64 0) (.int .i64 0) (.int .i64 0) (.int .i64 0) (.int .i64 0) (.slice none 0 0) (.slice none 0 0) T
  rw [show (w.alloc (.cells #[v0, v1, v2, v3, v4, v5, v6, v7] T)).heap.size = w.heap.size + 1 by simp] at h2
  exact ⟨h1.below ((Below.refl _ _).alloc (Nat.le_refl _) _), _, _, _, _, _, _, _, _, h2⟩
/-- What a row of steps turned by the program is. -/
def Tf (F g : FuncId) (f : Pay → Pay) (rv : Value) (k : Nat) (T : Tr k) (wx : World) (s : Value) : Prop := Calls Try.prog F #[s, rv, .func (.func g) #[] #[]] wx fun e w' => ∃ v' bs, e = .returned v' ∧ Below wx.heap.size wx w' ∧ Own w' k v' (mapT f k T) bs ∧ (∀ b ∈ bs, wx.heap.size ≤ b ∧ b < w'.heap.size) ∧ bs.Nodup
def payV (q : Pay) (t e : Value) : Value := .agg #[.int .i64 q.k, .int .i64 q.v, .int .i64 q.vk, .int .i64 q.va, .int .i64 q.vb, .int .i64 q.h, t, e]
/-- What a step turned by the program is. -/
def SfP (f : Pay → Pay) (k : Nat) (p : Pay) (T1 T2 : Tr k) (w : World) (x : Ending) (w' : World) : Prop := ∃ t' e' b1 b2, x = .returned (payV (f p) t' e') ∧ Below w.heap.size w w' ∧ Own w' k t' (mapT f k T1) b1 ∧ Own w' k e' (mapT f k T2) b2 ∧ (∀ b ∈ b1 ++ b2, w.heap.size ≤ b ∧ b < w'.heap.size) ∧ (b1 ++ b2).Nodup
def Sf (g : FuncId) (f : Pay → Pay) (rv : Value) (k : Nat) (p : Pay) (t e : Value) (T1 T2 : Tr k) (w : World) : Prop := Calls Try.prog g #[payV p t e, rv] w (SfP f k p T1 T2 w)

end Go.Proofs.Ytfmhdjnambnglaa

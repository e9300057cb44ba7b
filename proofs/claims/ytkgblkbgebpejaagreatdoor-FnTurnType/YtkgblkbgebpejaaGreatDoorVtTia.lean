/- Steps done by the model. -/
import Derived.Test.YtkgblkbgebpejaaGreatDoorVtDox
import Derived.Test.YtkgblkbgebpejaaGreatDoorVtCpy
import Derived.Test.YtkgblkbgebpejaaGreatDoorVtDpr
import Derived.Test.YtkgblkbgebpejaaGreatDoorVtTsh
import Derived.Test.YtkgblkbgebpejaaGreatDoorVtAtP
import Derived.Deep.DeepCutAuto
import Derived.Deep.RegionHeld3
import Derived.Deep.DrawnRows
namespace Go.Proofs.YtkgblkbgebpejaaGreatDoor
open Go.RowKit
set_option linter.unusedSimpArgs false
set_option linter.unusedVariables false
attribute [local go_sem] World.cell?_alloc_some

theorem wp_append_at' {P : Program} (w : World) {o : Oper} {a : Act} {K : Act → World → Prop} {Q : Exit → Act → World → Prop} (s x : Operand) (t : TypeId)
    (ho : o.op = .call { callee := .builtin .append, args := #[s, x], argTypes := #[t, t] })
    (base : Nat) (e : TypeId) (i : TypeInfo) (z : Value) (size bytes : Nat) (ht : P.underlying t = some (.slice e)) (hi : P.info? e = some i) (hz : i.zero = some z)
    (hsize : i.size = size) (hby : i.bytes = bytes) (hzs : z.cells.size = size) (hsz : 0 < size)
    (v : Value) (n : Nat) (xs : List Value) (hs : a.eval s = v) (hown : w.ownsRow base e size v n xs)
    (ad : Addr) (m c : Nat) (news : List Value) (hx : a.eval x = .slice (some ad) m c) (hl : news.length = m * size) (hnews : ∀ j u, news[j]? = some u → w.cell? (ad.add j) = some u) (h1 : ∀ u ∈ news, u.oneCell' = true)
    (h63 : n + m ≤ maxLen) (hbytes : (n + m) * bytes ≤ 140737488355328) (hbase : base ≤ w.heap.size)
    (h : ∀ v' w', w'.ownsRow base e size v' (n + m) (xs ++ news) → w.grownBy w' v.ownBlock → (v' = .slice none 0 0 ↔ v = .slice none 0 0 ∧ m = 0) → (v'.ownBlock = v.ownBlock ∨ v'.ownBlock = some w.heap.size) → K (a.put o.dst v') w') : o.wp P a w K Q := by
  obtain ⟨v', w', hr, h2, h3, h4, h5⟩ := run_append_own_at (P := P) w base t o.type e i z size bytes ht hi hz hsize hby hzs hsz v n xs hown ad m c news hl hnews h1 h63 hbytes hbase
  unfold Oper.wp execOp
  simp only [ho, resolve, invoke, builtin, Sem.run_bind, Sem.run_pure, Result.andThen_ok, List.map_toArray, List.map_cons, List.map_nil, hs, hx, hr]
  exact h v' w' h2 h3 h4 h5

end Go.Proofs.YtkgblkbgebpejaaGreatDoor

namespace Go.Proofs.YtkgblkbgebpejaaGreatDoor
open Go.RowKit
set_option linter.unusedSimpArgs false
set_option linter.unusedVariables false
attribute [local go_sem] World.cell?_alloc_some

/-- What comes of a program; nothing, if it is not so. -/
def runS (ls : List (Int × Int)) (d : Nat) (T : Tr d) (zs : List Int) : RSt := if numsB ls d T zs = true then doT d T ⟨zs, [], []⟩ else ⟨[], [], []⟩

end Go.Proofs.YtkgblkbgebpejaaGreatDoor

namespace Go.Proofs.YtkgblkbgebpejaaGreatDoor
open Go.RowKit
set_option linter.unusedSimpArgs false
set_option linter.unusedVariables false
attribute [local go_sem] World.cell?_alloc_some

theorem Oth.grown {r : Nat} {a w w' : World} {row : Option Nat} (h : Oth r a w) (hg : w.grownBy w' row) (hr : ∀ k, row = some k → a.heap.size ≤ k) : Oth r a w' :=
  ⟨hg.os.trans h.os, hg.tape.trans h.tape, hg.output.trans h.output, Nat.le_trans h.size hg.size, fun k hk hne => (hg.block k (Nat.lt_of_lt_of_le hk h.size) (fun e => by have := hr k e.symm; omega)).trans (h.block k hk hne)⟩
theorem rowq_oth {r : Nat} {w w' : World} {base : Nat} {e : TypeId} {sz : Nat} {v : Value} {n : Nat} {xs : List Value} (h : w.ownsRow base e sz v n xs) (k : Oth r w w') (hr : r < base) : w'.ownsRow base e sz v n xs :=
  rowg_frame h (fun b e => k.block b (World.ownsRow.lt h b e).2 (by have := (World.ownsRow.lt h b e).1; omega))
end Go.Proofs.YtkgblkbgebpejaaGreatDoor

namespace Go.Proofs.YtkgblkbgebpejaaGreatDoor
open Go.RowKit
set_option linter.unusedSimpArgs false
set_option linter.unusedVariables false
attribute [local go_sem] World.cell?_alloc_some

end Go.Proofs.YtkgblkbgebpejaaGreatDoor

namespace Go.Proofs.YtkgblkbgebpejaaGreatDoor
open Go.RowKit
set_option linter.unusedSimpArgs false
set_option linter.unusedVariables false
attribute [local go_sem] World.cell?_alloc_some

/-- Eight cells in a box, and a box behind it that may be written. -/
def X8 (W : World) (N : Nat) (v0 v1 v2 v3 v4 v5 v6 v7 : Value) : Prop := C8 W N v0 v1 v2 v3 v4 v5 v6 v7 ∧ ∃ z0 z1 z2 z3 z4 z5 z6 z7, C8 W (N + 1) z0 z1 z2 z3 z4 z5 z6 z7
theorem X8.below {w w' : World} {N : Nat} {v0 v1 v2 v3 v4 v5 v6 v7 : Value} (h : X8 w N v0 v1 v2 v3 v4 v5 v6 v7) (hb : Below w.heap.size w w') : X8 w' N v0 v1 v2 v3 v4 v5 v6 v7 := by
  obtain ⟨h1, z0, z1, z2, z3, z4, z5, z6, z7, h2⟩ := h
  exact ⟨h1.below hb, z0, z1, z2, z3, z4, z5, z6, z7, h2.below hb⟩
theorem X8.of {w w' : World} {N : Nat} {v0 v1 v2 v3 v4 v5 v6 v7 u0 u1 u2 u3 u4 u5 u6 u7 : Value} (h : X8 w N v0 v1 v2 v3 v4 v5 v6 v7) (h1 : C8 w' N u0 u1 u2 u3 u4 u5 u6 u7) (hb : w'.heap[N + 1]? = w.heap[N + 1]?) : X8 w' N u0 u1 u2 u3 u4 u5 u6 u7 := by
  obtain ⟨_, z0, z1, z2, z3, z4, z5, z6, z7, ⟨c0, c1, c2, c3, c4, c5, c6, c7⟩, f0, f1, f2, f3, f4, f5, f6, f7⟩ := h
  have hc : ∀ o, w'.cell? ⟨N + 1, o, none⟩ = w.cell? ⟨N + 1, o, none⟩ := fun o => World.cell?_of_block hb
  have hf : ∀ o, w'.frozen? ⟨N + 1, o, none⟩ = w.frozen? ⟨N + 1, o, none⟩ := fun o => World.frozen?_of_block (a := ⟨N + 1, o, none⟩) hb
  exact ⟨h1, z0, z1, z2, z3, z4, z5, z6, z7, ⟨(hc 0).trans c0, (hc 1).trans c1, (hc 2).trans c2, (hc 3).trans c3, (hc 4).trans c4, (hc 5).trans c5, (hc 6).trans c6, (hc 7).trans c7⟩, (hf 0).trans f0, (hf 1).trans f1, (hf 2).trans f2, (hf 3).trans f3, (hf 4).trans f4, (hf 5).trans f5, (hf 6).trans f6, (hf 7).trans f7⟩
theorem far1 (w : World) (N o : Nat) (u : Value) : (w.setCell ⟨N, o, none⟩ u).heap[N + 1]? = w.heap[N + 1]? := Below.heap_setCell _ _ _ _ (by simp)
theorem X8.new (w : World) (v0 v1 v2 v3 v4 v5 v6 v7 : Value) (T : TypeId) : X8 ((w.alloc (.cells #[v0, v1, v2, v3, v4, v5, v6, v7] T)).alloc (.cells #[.int .i64 0, .int .i64 0, .int .i64 0, .int .i64 0, .int .i64 0, .int .i64 0, .slice none 0 0, .slice none 0 0] T)) w.heap.size v0 v1 v2 v3 v4 v5 v6 v7 := by
  have h1 := C8.new w v0 v1 v2 v3 v4 v5 v6 v7 T
  have h2 := C8.new (w.alloc (.cells #[v0, v1, v2, v3, v4, v5, v6, v7] T)) (.int .i64 0) (.int .i64 0) (.int .i64 0) (.int .i64 0) (.int .i64 0) (.int .i64 0) (.slice none 0 0) (.slice none 0 0) T
  rw [show (w.alloc (.cells #[v0, v1, v2, v3, v4, v5, v6, v7] T)).heap.size = w.heap.size + 1 by simp] at h2
  exact ⟨h1.below ((Below.refl _ _).alloc (Nat.le_refl _) _), _, _, _, _, _, _, _, _, h2⟩
/-- What a row of steps turned by the program is. -/
def Tf (F g : FuncId) (f : Pay → Pay) (rv : Value) (k : Nat) (T : Tr k) (wx : World) (s : Value) : Prop := Calls Tryz.prog F #[s, rv, .func (.func g) #[] #[]] wx fun e w' => ∃ v' bs, e = .returned v' ∧ Below wx.heap.size wx w' ∧ Own w' k v' (mapT f k T) bs ∧ (∀ b ∈ bs, wx.heap.size ≤ b ∧ b < w'.heap.size) ∧ bs.Nodup
def payV (q : Pay) (t e : Value) : Value := .agg #[.int .i64 q.k, .int .i64 q.v, .int .i64 q.vk, .int .i64 q.va, .int .i64 q.vb, .int .i64 q.h, t, e]
/-- What a step turned by the program is. -/
def SfP (f : Pay → Pay) (k : Nat) (p : Pay) (T1 T2 : Tr k) (w : World) (x : Ending) (w' : World) : Prop := ∃ t' e' b1 b2, x = .returned (payV (f p) t' e') ∧ Below w.heap.size w w' ∧ Own w' k t' (mapT f k T1) b1 ∧ Own w' k e' (mapT f k T2) b2 ∧ (∀ b ∈ b1 ++ b2, w.heap.size ≤ b ∧ b < w'.heap.size) ∧ (b1 ++ b2).Nodup
def Sf (g : FuncId) (f : Pay → Pay) (rv : Value) (k : Nat) (p : Pay) (t e : Value) (T1 T2 : Tr k) (w : World) : Prop := Calls Tryz.prog g #[payV p t e, rv] w (SfP f k p T1 T2 w)

end Go.Proofs.YtkgblkbgebpejaaGreatDoor

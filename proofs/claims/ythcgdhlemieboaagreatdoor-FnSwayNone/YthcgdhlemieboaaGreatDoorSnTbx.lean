/- A typing in its box: five cells, and three rows that grow; what a call may change. -/
import Derived.Test.YthcgdhlemieboaaGreatDoorSnTyp
import Derived.Test.YthcgdhlemieboaaGreatDoorSnDpr
import Derived.Test.YthcgdhlemieboaaGreatDoorSnRtx
namespace Go.Proofs.YthcgdhlemieboaaGreatDoor
open Go.RowKit
set_option linter.unusedSimpArgs false
set_option linter.unusedVariables false

structure Mv (X : Nat → Prop) (w w' : World) (X' : Nat → Prop) : Prop where
  os : w'.os = w.os
  tape : w'.tape = w.tape
  output : w'.output = w.output
  size : w.heap.size ≤ w'.heap.size
  block : ∀ b, b < w.heap.size → ¬ X b → w'.heap[b]? = w.heap[b]?
  own : ∀ b, X' b → X b ∨ w.heap.size ≤ b
theorem Mv.of {X : Nat → Prop} {w w' : World} (h : Below w.heap.size w w') : Mv X w w' X := ⟨h.os, h.tape, h.output, h.size, fun b hb _ => h.block b hb, fun b h => .inl h⟩
theorem Mv.refl (X : Nat → Prop) (w : World) : Mv X w w X := Mv.of (Below.refl _ _)
theorem Mv.trans {X X1 X2 : Nat → Prop} {w w1 w2 : World} (h : Mv X w w1 X1) (k : Mv X1 w1 w2 X2) : Mv X w w2 X2 := by
  refine ⟨k.os.trans h.os, k.tape.trans h.tape, k.output.trans h.output, Nat.le_trans h.size k.size, fun b hb hx => ?_, fun b hx => ?_⟩
  · rw [k.block b (Nat.lt_of_lt_of_le hb h.size) (fun h1 => by rcases h.own b h1 with h2 | h2; exact hx h2; omega)]
    exact h.block b hb hx
  · rcases k.own b hx with h1 | h1
    · exact h.own b h1
    · exact .inr (Nat.le_trans h.size h1)
theorem Mv.set {X X' : Nat → Prop} {w w1 : World} (h : Mv X w w1 X') (a : Addr) (u : Value) (ha : X' a.block) : Mv X w (w1.setCell a u) X' := by
  refine ⟨h.os, h.tape, h.output, ?_, fun b hb hx => ?_, h.own⟩
  · show w.heap.size ≤ (w1.setCell a u).heap.size
    have : (w1.setCell a u).heap.size = w1.heap.size := by simp [World.setCell]
    rw [this]; exact h.size
  · rw [Below.heap_setCell _ _ _ _ (fun e => by subst e; rcases h.own _ ha with h1 | h1; exact hx h1; omega)]
    exact h.block b hb hx
theorem Mv.below {X X' : Nat → Prop} {w w' : World} {B : Nat} (h : Mv X w w' X') (hX : ∀ b, X b → B ≤ b) (hB : B ≤ w.heap.size) : Below B w w' :=
  ⟨h.os, h.tape, h.output, h.size, fun b hb => h.block b (by omega) (fun hx => by have := hX b hx; omega)⟩
theorem Mv.cell {X X' : Nat → Prop} {w w' : World} (h : Mv X w w' X') {a : Addr} {v : Value} (hc : w.cell? a = some v) (hx : ¬ X a.block) : w'.cell? a = some v :=
  (World.cell?_of_block (h.block _ (World.block_lt_of_cell? w a hc) hx)).trans hc

theorem pcells_lenT (ls : List (Int × Int)) : (pcells ls).length = ls.length * 2 := by
  unfold pcells
  induction ls with
  | nil => rfl
  | cons a l ih => simp only [List.flatMap_cons, List.length_append, List.length_cons, List.length_nil]; rw [ih]; omega
structure Tv where
  vv : Value
  dv : Value
  av : Value
  sv : Value
  fv : Value
structure Td where
  ds : List (Int × Int)
  aw : List (Int × Int)
  ss : List Int
def Tv.X (t : Tv) (D b : Nat) : Prop := b = D ∨ t.dv.ownBlock = some b ∨ t.av.ownBlock = some b ∨ t.sv.ownBlock = some b
structure Tg (B : Nat) (w : World) (D : Nat) (t : Tv) (s : Td) : Prop where
  c0 : w.cell? ⟨D, 0, none⟩ = some t.vv
  c1 : w.cell? ⟨D, 1, none⟩ = some t.dv
  c2 : w.cell? ⟨D, 2, none⟩ = some t.av
  c3 : w.cell? ⟨D, 3, none⟩ = some t.sv
  c4 : w.cell? ⟨D, 4, none⟩ = some t.fv
  fz : ∀ i, i < 5 → w.frozen? ⟨D, i, none⟩ = false
  ds : w.ownsRow B 68 2 t.dv s.ds.length (pcells s.ds)
  aw : w.ownsRow B 68 2 t.av s.aw.length (pcells s.aw)
  ss : w.ownsRow B 3 1 t.sv s.ss.length (s.ss.map (Value.int .i64))
  da : ∀ b, t.dv.ownBlock = some b → t.av.ownBlock ≠ some b
  dsn : ∀ b, t.dv.ownBlock = some b → t.sv.ownBlock ≠ some b
  asn : ∀ b, t.av.ownBlock = some b → t.sv.ownBlock ≠ some b
  dD : t.dv.ownBlock ≠ some D
  aD : t.av.ownBlock ≠ some D
  sD : t.sv.ownBlock ≠ some D
theorem rowt_frame {w w' : World} {base : Nat} {e : TypeId} {sz : Nat} {v : Value} {n : Nat} {xs : List Value} (h : w.ownsRow base e sz v n xs) (hb : ∀ b, v.ownBlock = some b → w'.heap[b]? = w.heap[b]?) : w'.ownsRow base e sz v n xs := by
  refine ⟨h.1, ?_⟩
  rcases h.2 with hn | ⟨g, cap, cur, rfl, hb', hg, rest⟩
  · exact .inl hn
  · exact .inr ⟨g, cap, cur, rfl, hb', (hb g rfl).trans hg, rest⟩
theorem rowt_slice {w : World} {base : Nat} {e : TypeId} {sz : Nat} {v : Value} {n : Nat} {xs : List Value} (h : w.ownsRow base e sz v n xs) : ∃ a c, v = .slice a n c := by
  rcases h.2 with ⟨rfl, rfl⟩ | ⟨g, cap, cur, rfl, _⟩
  · exact ⟨_, _, rfl⟩
  · exact ⟨_, _, rfl⟩
theorem Tg.lt {B : Nat} {w : World} {D : Nat} {t : Tv} {s : Td} (h : Tg B w D t s) : D < w.heap.size := World.block_lt_of_cell? w _ h.c4
theorem Tg.xlt {B : Nat} {w : World} {D : Nat} {t : Tv} {s : Td} (h : Tg B w D t s) : ∀ b, t.X D b → b < w.heap.size := by
  rintro b (rfl | e | e | e)
  · exact h.lt
  · exact (World.ownsRow.lt h.ds b e).2
  · exact (World.ownsRow.lt h.aw b e).2
  · exact (World.ownsRow.lt h.ss b e).2
theorem Tg.xge {B : Nat} {w : World} {D : Nat} {t : Tv} {s : Td} (h : Tg B w D t s) {N : Nat} (hB : N ≤ B) (hD : N ≤ D) : ∀ b, t.X D b → N ≤ b := by
  rintro b (rfl | e | e | e)
  · exact hD
  · exact Nat.le_trans hB (World.ownsRow.lt h.ds b e).1
  · exact Nat.le_trans hB (World.ownsRow.lt h.aw b e).1
  · exact Nat.le_trans hB (World.ownsRow.lt h.ss b e).1
theorem Tg.frame {B : Nat} {w w' : World} {D : Nat} {t : Tv} {s : Td} (h : Tg B w D t s) (hb : ∀ b, b < w.heap.size → t.X D b → w'.heap[b]? = w.heap[b]?) : Tg B w' D t s := by
  have e := hb D h.lt (.inl rfl)
  exact ⟨(World.cell?_of_block e).trans h.c0, (World.cell?_of_block e).trans h.c1, (World.cell?_of_block e).trans h.c2, (World.cell?_of_block e).trans h.c3, (World.cell?_of_block e).trans h.c4, fun i hi => (World.frozen?_of_block (a := ⟨D, i, none⟩) e).trans (h.fz i hi),
    rowt_frame h.ds (fun b q => hb b (World.ownsRow.lt h.ds b q).2 (.inr (.inl q))), rowt_frame h.aw (fun b q => hb b (World.ownsRow.lt h.aw b q).2 (.inr (.inr (.inl q)))), rowt_frame h.ss (fun b q => hb b (World.ownsRow.lt h.ss b q).2 (.inr (.inr (.inr q)))), h.da, h.dsn, h.asn, h.dD, h.aD, h.sD⟩
theorem Tg.below {B : Nat} {w w' : World} {D : Nat} {t : Tv} {s : Td} (h : Tg B w D t s) (hb : Below w.heap.size w w') : Tg B w' D t s := h.frame (fun b hl _ => hb.block b hl)
theorem ne_setD {w : World} {D : Nat} {i : Nat} {u : Value} : ∀ b, b ≠ D → (w.setCell ⟨D, i, none⟩ u).heap[b]? = w.heap[b]? := fun b hb => Below.heap_setCell _ _ _ _ hb
theorem newo {v v' : Value} {x D : Nat} (ha : v'.ownBlock = v.ownBlock ∨ v'.ownBlock = some x) (hD : v.ownBlock ≠ some D) (hx : D < x) : v'.ownBlock ≠ some D := by
  rcases ha with ha | ha
  · rw [ha]; exact hD
  · rw [ha]; intro e; have := Option.some.inj e; omega
theorem Tg.push {B : Nat} {w xa w' : World} {D : Nat} {t : Tv} {s : Td} {v' : Value} {a : Int × Int} (h0 : Tg B w D t s) (hA : Below w.heap.size w xa) (ho : w'.ownsRow B 68 2 v' (s.ds.length + 1) (pcells s.ds ++ [.int .i64 a.1, .int .i64 a.2])) (hg : xa.grownBy w' t.dv.ownBlock) (ha : v'.ownBlock = t.dv.ownBlock ∨ v'.ownBlock = some xa.heap.size) :
    Tg B (w'.setCell ⟨D, 1, none⟩ v') D { t with dv := v' } { s with ds := s.ds ++ [a] } ∧ Mv (t.X D) w (w'.setCell ⟨D, 1, none⟩ v') (({ t with dv := v' } : Tv).X D) := by
  have h := h0.below hA
  have hD := h.lt
  have gr : ∀ b, b < xa.heap.size → t.dv.ownBlock ≠ some b → w'.heap[b]? = xa.heap[b]? := fun b hb hne => hg.block b hb (fun e => hne e.symm)
  have eD := gr D hD h.dD
  have k : ∀ i, w'.cell? ⟨D, i, none⟩ = xa.cell? ⟨D, i, none⟩ := fun i => World.cell?_of_block eD
  have ne := @ne_setD w' D 1 v'
  have nd : ∀ b, t.dv.ownBlock ≠ some b → b < xa.heap.size → v'.ownBlock ≠ some b := fun b h1 h2 => newo ha h1 h2
  refine ⟨⟨(World.cell?_setCell_other _ _ _ _ (by simp)).trans ((k 0).trans h.c0), World.cell?_setCell_same _ _ _ ((k 1).trans h.c1), (World.cell?_setCell_other _ _ _ _ (by simp)).trans ((k 2).trans h.c2), (World.cell?_setCell_other _ _ _ _ (by simp)).trans ((k 3).trans h.c3), (World.cell?_setCell_other _ _ _ _ (by simp)).trans ((k 4).trans h.c4), fun i hi => by rw [World.frozen?_setCell]; exact (World.frozen?_of_block (a := ⟨D, i, none⟩) eD).trans (h.fz i hi), ?_, ?_, ?_, fun b e q => ?_, fun b e q => ?_, h.asn, newo ha h.dD hD, h.aD, h.sD⟩, ?_⟩
  · refine rowt_frame (w := w') ?_ (fun b q => ne b (fun e => newo ha h.dD hD (e ▸ q)))
    show w'.ownsRow B 68 2 v' (s.ds ++ [a]).length (pcells (s.ds ++ [a]))
    rw [pcells_app]; simpa using ho
  · exact rowt_frame h.aw (fun b q => (ne b (fun e => h.aD (e ▸ q))).trans (gr b (World.ownsRow.lt h.aw b q).2 (fun e => h.da b e q)))
  · exact rowt_frame h.ss (fun b q => (ne b (fun e => h.sD (e ▸ q))).trans (gr b (World.ownsRow.lt h.ss b q).2 (fun e => h.dsn b e q)))
  · exact nd b (fun e1 => h.da b e1 q) (World.ownsRow.lt h.aw b q).2 e
  · exact nd b (fun e1 => h.dsn b e1 q) (World.ownsRow.lt h.ss b q).2 e
  · have m1 : Mv (t.X D) xa w' (({ t with dv := v' } : Tv).X D) := by
      refine ⟨hg.os, hg.tape, hg.output, hg.size, fun b hb hx => gr b hb (fun e => hx (.inr (.inl e))), ?_⟩
      rintro b (rfl | e | e | e)
      · exact .inl (.inl rfl)
      · rcases ha with ha | ha
        · exact .inl (.inr (.inl (ha ▸ e)))
        · have e : v'.ownBlock = some b := e
          rw [ha] at e; exact .inr (by have := Option.some.inj e; omega)
      · exact .inl (.inr (.inr (.inl e)))
      · exact .inl (.inr (.inr (.inr e)))
    exact ((Mv.of hA).trans m1).set _ _ (.inl rfl)
theorem Tg.count {B : Nat} {w xa w' : World} {D : Nat} {t : Tv} {s : Td} {v' : Value} {a : Int × Int} (h0 : Tg B w D t s) (hA : Below w.heap.size w xa) (ho : w'.ownsRow B 68 2 v' (s.aw.length + 1) (pcells s.aw ++ [.int .i64 a.1, .int .i64 a.2])) (hg : xa.grownBy w' t.av.ownBlock) (ha : v'.ownBlock = t.av.ownBlock ∨ v'.ownBlock = some xa.heap.size) :
    Tg B (w'.setCell ⟨D, 2, none⟩ v') D { t with av := v' } { s with aw := s.aw ++ [a] } ∧ Mv (t.X D) w (w'.setCell ⟨D, 2, none⟩ v') (({ t with av := v' } : Tv).X D) := by
  have h := h0.below hA
  have hD := h.lt
  have gr : ∀ b, b < xa.heap.size → t.av.ownBlock ≠ some b → w'.heap[b]? = xa.heap[b]? := fun b hb hne => hg.block b hb (fun e => hne e.symm)
  have eD := gr D hD h.aD
  have k : ∀ i, w'.cell? ⟨D, i, none⟩ = xa.cell? ⟨D, i, none⟩ := fun i => World.cell?_of_block eD
  have ne := @ne_setD w' D 2 v'
  have nd : ∀ b, t.av.ownBlock ≠ some b → b < xa.heap.size → v'.ownBlock ≠ some b := fun b h1 h2 => newo ha h1 h2
  refine ⟨⟨(World.cell?_setCell_other _ _ _ _ (by simp)).trans ((k 0).trans h.c0), (World.cell?_setCell_other _ _ _ _ (by simp)).trans ((k 1).trans h.c1), World.cell?_setCell_same _ _ _ ((k 2).trans h.c2), (World.cell?_setCell_other _ _ _ _ (by simp)).trans ((k 3).trans h.c3), (World.cell?_setCell_other _ _ _ _ (by simp)).trans ((k 4).trans h.c4), fun i hi => by rw [World.frozen?_setCell]; exact (World.frozen?_of_block (a := ⟨D, i, none⟩) eD).trans (h.fz i hi), ?_, ?_, ?_, fun b e q => ?_, h.dsn, fun b e q => ?_, h.dD, newo ha h.aD hD, h.sD⟩, ?_⟩
  · exact rowt_frame h.ds (fun b q => (ne b (fun e => h.dD (e ▸ q))).trans (gr b (World.ownsRow.lt h.ds b q).2 (fun e => h.da b q e)))
  · refine rowt_frame (w := w') ?_ (fun b q => ne b (fun e => newo ha h.aD hD (e ▸ q)))
    show w'.ownsRow B 68 2 v' (s.aw ++ [a]).length (pcells (s.aw ++ [a]))
    rw [pcells_app]; simpa using ho
  · exact rowt_frame h.ss (fun b q => (ne b (fun e => h.sD (e ▸ q))).trans (gr b (World.ownsRow.lt h.ss b q).2 (fun e => h.asn b e q)))
  · exact nd b (fun e1 => h.da b e e1) (World.ownsRow.lt h.ds b e).2 q
  · exact nd b (fun e1 => h.asn b e1 q) (World.ownsRow.lt h.ss b q).2 e
  · have m1 : Mv (t.X D) xa w' (({ t with av := v' } : Tv).X D) := by
      refine ⟨hg.os, hg.tape, hg.output, hg.size, fun b hb hx => gr b hb (fun e => hx (.inr (.inr (.inl e)))), ?_⟩
      rintro b (rfl | e | e | e)
      · exact .inl (.inl rfl)
      · exact .inl (.inr (.inl e))
      · rcases ha with ha | ha
        · exact .inl (.inr (.inr (.inl (ha ▸ e))))
        · have e : v'.ownBlock = some b := e
          rw [ha] at e; exact .inr (by have := Option.some.inj e; omega)
      · exact .inl (.inr (.inr (.inr e)))
    exact ((Mv.of hA).trans m1).set _ _ (.inl rfl)
theorem Tg.told {B : Nat} {w xa w' : World} {D : Nat} {t : Tv} {s : Td} {v' : Value} {a : Int} (h0 : Tg B w D t s) (hA : Below w.heap.size w xa) (ho : w'.ownsRow B 3 1 v' (s.ss.length + 1) (s.ss.map (Value.int .i64) ++ [.int .i64 a])) (hg : xa.grownBy w' t.sv.ownBlock) (ha : v'.ownBlock = t.sv.ownBlock ∨ v'.ownBlock = some xa.heap.size) :
    Tg B (w'.setCell ⟨D, 3, none⟩ v') D { t with sv := v' } { s with ss := s.ss ++ [a] } ∧ Mv (t.X D) w (w'.setCell ⟨D, 3, none⟩ v') (({ t with sv := v' } : Tv).X D) := by
  have h := h0.below hA
  have hD := h.lt
  have gr : ∀ b, b < xa.heap.size → t.sv.ownBlock ≠ some b → w'.heap[b]? = xa.heap[b]? := fun b hb hne => hg.block b hb (fun e => hne e.symm)
  have eD := gr D hD h.sD
  have k : ∀ i, w'.cell? ⟨D, i, none⟩ = xa.cell? ⟨D, i, none⟩ := fun i => World.cell?_of_block eD
  have ne := @ne_setD w' D 3 v'
  have nd : ∀ b, t.sv.ownBlock ≠ some b → b < xa.heap.size → v'.ownBlock ≠ some b := fun b h1 h2 => newo ha h1 h2
  refine ⟨⟨(World.cell?_setCell_other _ _ _ _ (by simp)).trans ((k 0).trans h.c0), (World.cell?_setCell_other _ _ _ _ (by simp)).trans ((k 1).trans h.c1), (World.cell?_setCell_other _ _ _ _ (by simp)).trans ((k 2).trans h.c2), World.cell?_setCell_same _ _ _ ((k 3).trans h.c3), (World.cell?_setCell_other _ _ _ _ (by simp)).trans ((k 4).trans h.c4), fun i hi => by rw [World.frozen?_setCell]; exact (World.frozen?_of_block (a := ⟨D, i, none⟩) eD).trans (h.fz i hi), ?_, ?_, ?_, h.da, fun b e q => ?_, fun b e q => ?_, h.dD, h.aD, newo ha h.sD hD⟩, ?_⟩
  · exact rowt_frame h.ds (fun b q => (ne b (fun e => h.dD (e ▸ q))).trans (gr b (World.ownsRow.lt h.ds b q).2 (fun e => h.dsn b q e)))
  · exact rowt_frame h.aw (fun b q => (ne b (fun e => h.aD (e ▸ q))).trans (gr b (World.ownsRow.lt h.aw b q).2 (fun e => h.asn b q e)))
  · refine rowt_frame (w := w') ?_ (fun b q => ne b (fun e => newo ha h.sD hD (e ▸ q)))
    show w'.ownsRow B 3 1 v' (s.ss ++ [a]).length ((s.ss ++ [a]).map (Value.int .i64))
    simpa using ho
  · exact nd b (fun e1 => h.dsn b e e1) (World.ownsRow.lt h.ds b e).2 q
  · exact nd b (fun e1 => h.asn b e e1) (World.ownsRow.lt h.aw b e).2 q
  · have m1 : Mv (t.X D) xa w' (({ t with sv := v' } : Tv).X D) := by
      refine ⟨hg.os, hg.tape, hg.output, hg.size, fun b hb hx => gr b hb (fun e => hx (.inr (.inr (.inr e)))), ?_⟩
      rintro b (rfl | e | e | e)
      · exact .inl (.inl rfl)
      · exact .inl (.inr (.inl e))
      · exact .inl (.inr (.inr (.inl e)))
      · rcases ha with ha | ha
        · exact .inl (.inr (.inr (.inr (ha ▸ e))))
        · have e : v'.ownBlock = some b := e
          rw [ha] at e; exact .inr (by have := Option.some.inj e; omega)
    exact ((Mv.of hA).trans m1).set _ _ (.inl rfl)
theorem Tg.fault {B : Nat} {w : World} {D : Nat} {t : Tv} {s : Td} (h : Tg B w D t s) (u : Value) :
    Tg B (w.setCell ⟨D, 4, none⟩ u) D { t with fv := u } s ∧ Mv (t.X D) w (w.setCell ⟨D, 4, none⟩ u) (({ t with fv := u } : Tv).X D) := by
  have ne := @ne_setD w D 4 u
  refine ⟨⟨(World.cell?_setCell_other _ _ _ _ (by simp)).trans h.c0, (World.cell?_setCell_other _ _ _ _ (by simp)).trans h.c1, (World.cell?_setCell_other _ _ _ _ (by simp)).trans h.c2, (World.cell?_setCell_other _ _ _ _ (by simp)).trans h.c3, World.cell?_setCell_same _ _ _ h.c4, fun i hi => by rw [World.frozen?_setCell]; exact h.fz i hi, rowt_frame h.ds (fun b q => ne b (fun e => h.dD (e ▸ q))), rowt_frame h.aw (fun b q => ne b (fun e => h.aD (e ▸ q))), rowt_frame h.ss (fun b q => ne b (fun e => h.sD (e ▸ q))), h.da, h.dsn, h.asn, h.dD, h.aD, h.sD⟩, ?_⟩
  have m : Mv (t.X D) w w (({ t with fv := u } : Tv).X D) := ⟨rfl, rfl, rfl, Nat.le_refl _, fun _ _ _ => rfl, fun b h => .inl h⟩
  exact m.set _ _ (.inl rfl)
theorem Tg.pop {B : Nat} {w : World} {D g c n : Nat} {t : Tv} {s : Td} {ds : List (Int × Int)} {a : Int × Int} (h : Tg B w D t s) (hds : s.ds = ds ++ [a]) (hv : t.dv = .slice (some ⟨g, 0, none⟩) n c) (hn : n = ds.length + 1) :
    Tg B (w.setCell ⟨D, 1, none⟩ (.slice (some ⟨g, 0, none⟩) ds.length c)) D { t with dv := .slice (some ⟨g, 0, none⟩) ds.length c } { s with ds := ds } ∧ Mv (t.X D) w (w.setCell ⟨D, 1, none⟩ (.slice (some ⟨g, 0, none⟩) ds.length c)) (({ t with dv := .slice (some ⟨g, 0, none⟩) ds.length c } : Tv).X D) := by
  subst hn
  have e0 : t.dv.ownBlock = some g := by rw [hv]; rfl
  have ne := @ne_setD w D 1 (.slice (some ⟨g, 0, none⟩) ds.length c)
  have hg : g ≠ D := fun e => h.dD (e ▸ e0)
  have ho := h.ds
  rw [hv, hds, pcells_app] at ho
  have ho' : w.ownsRow B 68 2 (.slice (some ⟨g, 0, none⟩) ds.length c) ds.length (pcells ds) := ownsRow_pop (last := [.int .i64 a.1, .int .i64 a.2]) (pcells_lenT ds) (by simpa using ho)
  refine ⟨⟨(World.cell?_setCell_other _ _ _ _ (by simp)).trans h.c0, World.cell?_setCell_same _ _ _ h.c1, (World.cell?_setCell_other _ _ _ _ (by simp)).trans h.c2, (World.cell?_setCell_other _ _ _ _ (by simp)).trans h.c3, (World.cell?_setCell_other _ _ _ _ (by simp)).trans h.c4, fun i hi => by rw [World.frozen?_setCell]; exact h.fz i hi, rowt_frame ho' (fun b q => ne b (fun e => hg (by have := Option.some.inj q; exact this.trans e))), rowt_frame h.aw (fun b q => ne b (fun e => h.aD (e ▸ q))), rowt_frame h.ss (fun b q => ne b (fun e => h.sD (e ▸ q))), fun b q => h.da b (e0.trans q), fun b q => h.dsn b (e0.trans q), h.asn, fun q => h.dD (e0.trans q), h.aD, h.sD⟩, ?_⟩
  have m : Mv (t.X D) w w (({ t with dv := .slice (some ⟨g, 0, none⟩) ds.length c } : Tv).X D) := ⟨rfl, rfl, rfl, Nat.le_refl _, fun _ _ _ => rfl, by
    rintro b (rfl | e | e | e)
    · exact .inl (.inl rfl)
    · exact .inl (.inr (.inl (e0.trans e)))
    · exact .inl (.inr (.inr (.inl e)))
    · exact .inl (.inr (.inr (.inr e)))⟩
  exact m.set _ _ (.inl rfl)
theorem Tg.put {B : Nat} {w : World} {D g n c : Nat} {t : Tv} {s : Td} (h : Tg B w D t s) (m : Nat) (x : Int) (hv : t.sv = .slice (some ⟨g, 0, none⟩) n c) :
    Tg B (w.setCell ⟨g, m, none⟩ (.int .i64 x)) D t { s with ss := s.ss.set m x } ∧ Mv (t.X D) w (w.setCell ⟨g, m, none⟩ (.int .i64 x)) (t.X D) := by
  have e0 : t.sv.ownBlock = some g := by rw [hv]; rfl
  have hg : g ≠ D := fun e => h.sD (e ▸ e0)
  have ne : ∀ b, b ≠ g → (w.setCell ⟨g, m, none⟩ (.int .i64 x)).heap[b]? = w.heap[b]? := fun b hb => Below.heap_setCell _ _ _ _ hb
  have nD := ne D (Ne.symm hg)
  have ho := h.ss
  rw [hv] at ho
  obtain ⟨a0, c0, e2⟩ := rowt_slice ho
  have en : n = s.ss.length := by simp at e2; exact e2.2.1
  subst en
  have hst := (ho.stored m (.int .i64 x)).1
  have hmap : (s.ss.map (Value.int .i64)).set m (.int .i64 x) = (s.ss.set m x).map (Value.int .i64) := by rw [List.map_set]
  rw [hmap] at hst
  refine ⟨⟨(World.cell?_of_block nD).trans h.c0, (World.cell?_of_block nD).trans h.c1, (World.cell?_of_block nD).trans h.c2, (World.cell?_of_block nD).trans h.c3, (World.cell?_of_block nD).trans h.c4, fun i hi => (World.frozen?_of_block (a := ⟨D, i, none⟩) nD).trans (h.fz i hi), rowt_frame h.ds (fun b q => ne b (fun e => h.dsn b q (e ▸ e0))), rowt_frame h.aw (fun b q => ne b (fun e => h.asn b q (e ▸ e0))), ?_, h.da, h.dsn, h.asn, h.dD, h.aD, h.sD⟩, (Mv.refl _ _).set _ _ (.inr (.inr (.inr e0)))⟩
  show World.ownsRow _ B 3 1 t.sv (s.ss.set m x).length _
  rw [List.length_set, hv]; exact hst
end Go.Proofs.YthcgdhlemieboaaGreatDoor

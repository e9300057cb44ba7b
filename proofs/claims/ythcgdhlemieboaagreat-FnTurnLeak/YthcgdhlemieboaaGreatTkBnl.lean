/- What is being bent: a program in memory that is being changed. -/
import Derived.Test.YthcgdhlemieboaaGreatTkRpp
import Derived.Test.YthcgdhlemieboaaGreatTkTsh
namespace Go.Proofs.YthcgdhlemieboaaGreat
open Go.RowKit
set_option linter.unusedSimpArgs false
set_option linter.unusedVariables false
attribute [local go_sem] World.cell?_alloc_some

def BnPost (w : World) (r m : Nat) (e : Ending) (w' : World) : Prop := ∃ (lv sv : Value) (ls : List (Int × Int)) (d : Nat) (l : List (Pay × Tr d × Tr d)), e = .returned (.agg #[lv, sv]) ∧ LRepP (fun b => w.heap.size ≤ b) w' lv ls ∧ RepP (fun b => w.heap.size ≤ b) w' (d + 1) sv (l : List (Pay × Tr d × Tr d)) ∧ (1 ≤ ls.length ∧ ls.length ≤ 8) ∧ cnt (d + 1) (l : List (Pay × Tr d × Tr d)) ≤ 400 ∧ Rd2 w' r (m + 4) ∧ Oth r w w'
theorem infoLab : (Tryz.prog.info? 59).map (fun i => (i.zero, i.size, i.bytes)) = some (some (.agg #[.int .i64 0, .int .i64 0]), 2, 16) := by kernel_rfl
structure Bn (w : World) (r : Nat) (x : World) (o : Nat) (lo so : Value) (ls : List (Int × Int)) (d : Nat) (l : List (Pay × Tr d × Tr d)) (ys : List Value) (k : Nat) : Prop where
  box : C2 x o lo so
  res : C2 x (w.heap.size + 1) (.slice none 0 0) (.slice none 0 0)
  ho : w.heap.size + 1 < o
  lab : x.ownsRow 0 59 2 lo ls.length (pcells ls)
  lb : ∀ b, lo.ownBlock = some b → w.heap.size + 1 < b ∧ b ≠ o
  row : RowP (fun b => w.heap.size + 1 < b ∧ b ≠ o ∧ lo.ownBlock ≠ some b) x d so l ys
  rd : Rd2 x r k
  oth : Oth r w x
theorem C2.lt' {w : World} {b : Nat} {v0 v1 : Value} (h : C2 w b v0 v1) : b < w.heap.size := World.block_lt_of_cell? w _ h.1.1
theorem Bn.on {w : World} {r : Nat} {x x' : World} {o : Nat} {lo so : Value} {ls : List (Int × Int)} {d : Nat} {l : List (Pay × Tr d × Tr d)} {ys : List Value} {k k' : Nat} (h : Bn w r x o lo so ls d l ys k) (hr : r < w.heap.size) (hx : Oth r x x') (hrd : Rd2 x' r k') : Bn w r x' o lo so ls d l ys k' := by
  have hO := h.ho
  refine ⟨h.box.oth hx (by omega), h.res.oth hx (by omega), h.ho, rowp_frame h.lab (fun b hb => hx.block b (World.ownsRow.lt h.lab b hb).2 (by have := h.lb b hb; omega)), h.lb, h.row.frame (fun b p hl => ⟨hx.block b hl (by have := p.1; omega), p⟩), hrd, h.oth.trans hx⟩
theorem rd2_same {w w' : World} {r m : Nat} (h : Rd2 w r m) (hr : ∀ n, n ≤ r → w'.heap[n]? = w.heap[n]?) : Rd2 w' r m := Rd2.same h hr

theorem pcells_length (ls : List (Int × Int)) : (pcells ls).length = 2 * ls.length := by
  induction ls with
  | nil => rfl
  | cons a ls ih => simp [pcells] at ih ⊢; omega
theorem pcells_one (ls : List (Int × Int)) : ∀ u ∈ pcells ls, u.oneCell' = true := by
  intro u hu
  simp [pcells] at hu
  obtain ⟨a, b, _, h | h⟩ := hu <;> subst h <;> rfl

theorem Bn.rd' {w : World} {r : Nat} {x x' : World} {m : Nat} (h : Rd2 x r m) (hb : ∀ n, n ≤ r → x'.heap[n]? = x.heap[n]?) : Rd2 x' r m := Rd2.same h hb
theorem Bn.push {w : World} {r : Nat} {x xa x' : World} {o : Nat} {lo so v' : Value} {ls : List (Int × Int)} {d : Nat} {l : List (Pay × Tr d × Tr d)} {ys : List Value} {k : Nat} (h0 : Bn w r x o lo so ls d l ys k) (hr : r < w.heap.size) (hA : Below x.heap.size x xa) (p : Pay)
    (ho : x'.ownsRow 0 66 8 v' (l.length + 1) (ys ++ cells8 p (.slice none 0 0) (.slice none 0 0))) (hg : xa.grownBy x' so.ownBlock) (hv : v'.ownBlock = so.ownBlock ∨ v'.ownBlock = some xa.heap.size) :
    Bn w r (x'.setCell ⟨o, 1, none⟩ v') o lo v' ls d (l ++ [(p, noT d, noT d)]) (ys ++ cells8 p (.slice none 0 0) (.slice none 0 0)) k := by
  have h : Bn w r xa o lo so ls d l ys k := h0.on hr (Oth.of_below hA) (h0.rd.oth hA)
  have hO := h.ho
  have hOl := h.box.lt'
  have hRl := h.res.lt'
  have hsb : ∀ b, so.ownBlock = some b → w.heap.size + 1 < b ∧ b ≠ o ∧ lo.ownBlock ≠ some b := h.row.2.1
  have hset : ∀ b, b ≠ o → (x'.setCell ⟨o, 1, none⟩ v').heap[b]? = x'.heap[b]? := fun b hb => Below.heap_setCell _ _ _ _ hb
  have gr : ∀ b, b < xa.heap.size → so.ownBlock ≠ some b → x'.heap[b]? = xa.heap[b]? := fun b hb hne => hg.block b hb (fun e => hne e.symm)
  refine ⟨(h.box.same (gr o hOl (fun e => (hsb o e).2.1 rfl))).set1 v', h.res.same ((hset _ (by omega)).trans (gr _ hRl (fun e => by have := (hsb _ e).1; omega))), h.ho,
    rowp_frame h.lab (fun b hb => (hset b (h.lb b hb).2).trans (gr b (World.ownsRow.lt h.lab b hb).2 (fun e => (hsb b e).2.2 hb))), h.lb, ?_, ?_, ?_⟩
  · have q := RowP.push h.row ⟨by omega, by omega, fun e => by have := (World.ownsRow.lt h.lab _ e).2; omega⟩ (p, noT d, noT d) ho hg hv (RepP.zero _ (ln_noT d)) (RepP.zero _ (ln_noT d))
    exact q.frame (fun b pb hl => ⟨hset b pb.2.1, pb⟩)
  · exact h.rd.same (fun n hn => (hset n (by omega)).trans (gr n (by omega) (fun e => by have := (hsb n e).1; omega)))
  · exact (h.oth.grown hg (fun b hb => by have := (hsb b hb).1; omega)).new (by show w.heap.size ≤ o; omega) _
theorem Bn.wrap {w : World} {r : Nat} {x : World} {o : Nat} {lo so : Value} {ls : List (Int × Int)} {d : Nat} {l : List (Pay × Tr d × Tr d)} {ys : List Value} {k : Nat} (h : Bn w r x o lo so ls d l ys k) (hr : r < w.heap.size) (p : Pay) :
    Bn w r ((x.alloc (.cells (cells8 p so (.slice none 0 0)).toArray 66)).setCell ⟨o, 1, none⟩ (.slice (some ⟨x.heap.size, 0, none⟩) 1 1)) o lo (.slice (some ⟨x.heap.size, 0, none⟩) 1 1) ls (d + 1) [(p, (l : Tr (d + 1)), noT (d + 1))] (cells8 p so (.slice none 0 0)) k := by
  have hA : Below x.heap.size x (x.alloc (.cells (cells8 p so (.slice none 0 0)).toArray 66)) := (Below.refl _ _).alloc (Nat.le_refl _) _
  have hsl : ∃ a c, so = .slice a l.length c := rowg_slice h.row.1
  have hown : (x.alloc (.cells (cells8 p so (.slice none 0 0)).toArray 66)).ownsRow 0 66 8 (.slice (some ⟨x.heap.size, 0, none⟩) 1 1) 1 (cells8 p so (.slice none 0 0)) := by
    have := World.ownsRow_lit (base := 0) (e := 66) (size := 8) x (cells8 p so (.slice none 0 0)).toArray 1 (Nat.zero_le _) (by unfold maxLen; omega) (by simp [cells8])
    simpa using this
  have hz : (x.alloc (.cells (cells8 p so (.slice none 0 0)).toArray 66)).heap.size = x.heap.size + 1 := by simp
  generalize x.alloc (.cells (cells8 p so (.slice none 0 0)).toArray 66) = xa at *
  have hO := h.ho
  have hOl := h.box.lt'
  have hRl := h.res.lt'
  have hset : ∀ b, b ≠ o → (xa.setCell ⟨o, 1, none⟩ (.slice (some ⟨x.heap.size, 0, none⟩) 1 1)).heap[b]? = xa.heap[b]? := fun b hb => Below.heap_setCell _ _ _ _ hb
  refine ⟨(h.box.same (hA.block o hOl)).set1 _, h.res.same ((hset _ (by omega)).trans (hA.block _ hRl)), h.ho,
    rowp_frame h.lab (fun b hb => (hset b (h.lb b hb).2).trans (hA.block b (World.ownsRow.lt h.lab b hb).2)), h.lb, ⟨rowp_frame hown (fun b hb => hset b (by have : x.heap.size = b := Option.some.inj hb; omega)), fun b hb => ?_, fun q hq => ?_⟩, ?_, ?_⟩
  · have : x.heap.size = b := Option.some.inj hb
    subst this
    exact ⟨by omega, by omega, fun e => by have := (World.ownsRow.lt h.lab _ e).2; omega⟩
  · have hq0 : q = 0 := by simp at hq; omega
    subst hq0
    refine ⟨so, .slice none 0 0, fun j hj => by simp, ?_, RepP.zero _ (ln_noT _)⟩
    exact h.row.repP.frame (fun b pb hl => ⟨(hset b pb.2.1).trans (hA.block b hl), pb, fun e => by have : b = x.heap.size := Option.some.inj e; omega⟩)
  · exact h.rd.same (fun n hn => (hset n (by omega)).trans (hA.block n (by omega)))
  · exact ((h.oth.trans (Oth.of_below hA))).new (by show w.heap.size ≤ o; omega) _
theorem Bn.labs {w : World} {r : Nat} {x xa x' : World} {o : Nat} {lo so v' : Value} {ls ls' : List (Int × Int)} {d : Nat} {l : List (Pay × Tr d × Tr d)} {ys : List Value} {k : Nat} (h0 : Bn w r x o lo so ls d l ys k) (hr : r < w.heap.size) (hA : Below x.heap.size x xa)
    (ho : x'.ownsRow 0 59 2 v' ls'.length (pcells ls')) (hg : xa.grownBy x' lo.ownBlock) (hv : v'.ownBlock = lo.ownBlock ∨ v'.ownBlock = some xa.heap.size) :
    Bn w r (x'.setCell ⟨o, 0, none⟩ v') o v' so ls' d l ys k := by
  have h : Bn w r xa o lo so ls d l ys k := h0.on hr (Oth.of_below hA) (h0.rd.oth hA)
  have hO := h.ho
  have hOl := h.box.lt'
  have hRl := h.res.lt'
  have hset : ∀ b, b ≠ o → (x'.setCell ⟨o, 0, none⟩ v').heap[b]? = x'.heap[b]? := fun b hb => Below.heap_setCell _ _ _ _ hb
  have gr : ∀ b, b < xa.heap.size → lo.ownBlock ≠ some b → x'.heap[b]? = xa.heap[b]? := fun b hb hne => hg.block b hb (fun e => hne e.symm)
  have vb : ∀ b, v'.ownBlock = some b → w.heap.size + 1 < b ∧ b ≠ o := fun b hb => by
    rcases hv with hv | hv
    · exact h.lb b (hv.symm.trans hb)
    · rw [hv] at hb; have := Option.some.inj hb; omega
  refine ⟨(h.box.same (gr o hOl (fun e => (h.lb o e).2 rfl))).set0 v', h.res.same ((hset _ (by omega)).trans (gr _ hRl (fun e => by have := (h.lb _ e).1; omega))), h.ho, rowp_frame ho (fun b hb => hset b (vb b hb).2), vb, ?_, ?_, ?_⟩
  · exact h.row.frame (fun b pb hl => ⟨(hset b pb.2.1).trans (gr b hl pb.2.2), pb.1, pb.2.1, fun e => by
      rcases hv with hv | hv
      · exact pb.2.2 (hv.symm.trans e)
      · rw [hv] at e; have := Option.some.inj e; omega⟩)
  · exact h.rd.same (fun n hn => (hset n (by omega)).trans (gr n (by omega) (fun e => by have := (h.lb n e).1; omega)))
  · exact (h.oth.grown hg (fun b hb => by have := (h.lb b hb).1; omega)).new (by show w.heap.size ≤ o; omega) _
theorem Bn.spoil {w : World} {r : Nat} {x : World} {o g c : Nat} {so : Value} {a : Int × Int} {tl : List (Int × Int)} {d : Nat} {l : List (Pay × Tr d × Tr d)} {ys : List Value} {k : Nat} (h : Bn w r x o (.slice (some ⟨g, 0, none⟩) (a :: tl).length c) so (a :: tl) d l ys k) (hr : r < w.heap.size) (z : Int) :
    Bn w r (x.setCell ⟨g, 0, none⟩ (.int .i64 z)) o (.slice (some ⟨g, 0, none⟩) (a :: tl).length c) so ((z, a.2) :: tl) d l ys k := by
  have hb := h.lb g rfl
  have hO := h.ho
  have hset : ∀ b, b ≠ g → (x.setCell ⟨g, 0, none⟩ (.int .i64 z)).heap[b]? = x.heap[b]? := fun b hb => Below.heap_setCell _ _ _ _ hb
  refine ⟨h.box.same (hset o (fun e => hb.2 e.symm)), h.res.same (hset _ (by omega)), h.ho, ?_, h.lb, h.row.frame (fun b pb hl => ⟨hset b (fun e => pb.2.2 (by rw [e]; rfl)), pb⟩), h.rd.same (fun n hn => hset n (by omega)), h.oth.new (by show w.heap.size ≤ g; omega) _⟩
  have := (World.ownsRow.stored h.lab 0 (.int .i64 z)).1
  exact this
theorem row_lrepP {P : Nat → Prop} {w : World} {v : Value} {ls : List (Int × Int)} (h : w.ownsRow 0 59 2 v ls.length (pcells ls)) (hP : ∀ b, v.ownBlock = some b → P b) : LRepP P w v ls := by
  obtain ⟨h0, ⟨hv, hn⟩ | ⟨g, cap, cur, hv, hg, hh, hc, hm, hs, ht⟩⟩ := id h
  · subst hv
    exact ⟨none, 0, by rw [hn], by omega, by unfold maxLen; omega, fun i hi => by omega⟩
  · subst hv
    refine ⟨_, cap, rfl, hc, hm, fun i hi => ?_⟩
    obtain ⟨g0, g1⟩ := pcells_get ls i hi
    have c0 := h.cells rfl (i * 2) _ g0
    have c1 := h.cells rfl (i * 2 + 1) _ g1
    rw [Addr.add_mid] at c0 c1
    exact ⟨g, 0, rfl, hP g rfl, c0, by rw [Nat.add_assoc]; exact c1⟩
theorem Bn.fin {w : World} {r m : Nat} {x : World} {o : Nat} {lo so : Value} {ls : List (Int × Int)} {d : Nat} {l : List (Pay × Tr d × Tr d)} {ys : List Value} {k : Nat} (h : Bn w r x o lo so ls d l ys k) (hr : r < w.heap.size) (hk : k ≤ m + 4) (hl : 1 ≤ ls.length ∧ ls.length ≤ 8) (hc : cnt (d + 1) (l : List (Pay × Tr d × Tr d)) ≤ 400) :
    C2 ((x.setCell ⟨w.heap.size + 1, 0, none⟩ lo).setCell ⟨w.heap.size + 1, 1, none⟩ so) (w.heap.size + 1) lo so ∧ BnPost w r m (.returned (.agg #[lo, so])) ((x.setCell ⟨w.heap.size + 1, 0, none⟩ lo).setCell ⟨w.heap.size + 1, 1, none⟩ so) := by
  have hset : ∀ b, b ≠ w.heap.size + 1 → ((x.setCell ⟨w.heap.size + 1, 0, none⟩ lo).setCell ⟨w.heap.size + 1, 1, none⟩ so).heap[b]? = x.heap[b]? := fun b hb => (Below.heap_setCell _ _ _ _ hb).trans (Below.heap_setCell _ _ _ _ hb)
  refine ⟨(h.res.set0 lo).set1 so, lo, so, ls, d, l, rfl, ?_, ?_, hl, hc, ?_, ?_⟩
  · refine (row_lrepP (P := fun b => w.heap.size + 1 < b) h.lab (fun b hb => (h.lb b hb).1)).frame (fun b pb _ => ⟨hset b (by omega), by omega⟩)
  · exact h.row.repP.frame (fun b pb _ => ⟨hset b (by have := pb.1; omega), by have := pb.1; omega⟩)
  · exact (h.rd.same (fun n hn => hset n (by omega))).mono hk
  · exact (h.oth.new (by show w.heap.size ≤ w.heap.size + 1; omega) _).new (by show w.heap.size ≤ w.heap.size + 1; omega) _

end Go.Proofs.YthcgdhlemieboaaGreat

/- Contracts of LabelBoth and LabelEither, of the program and of the model. -/
import Derived.Test.YtpcmhkcahajdgaaFlo
namespace Go.Proofs.Ytpcmhkcahajdgaa
open Go.RowKit
set_option linter.unusedSimpArgs false
set_option linter.unusedVariables false
attribute [local go_sem ↓] Go.wp_at_zero Go.wp_at_succ

/-- What a cell holds. -/
def cellAt (w : World) (a : Addr) : Value := (w.cell? a).getD undef

theorem cellAt_of {w : World} {a : Addr} (h : (w.cell? a).isSome = true) : w.cell? a = some (cellAt w a) := by
  obtain ⟨u, hu⟩ := Option.isSome_iff_exists.1 h
  rw [cellAt, hu]; rfl

theorem at_later {w wx : World} {a : Addr} (hb : Below w.heap.size w wx) (h : w.cell? a = some (cellAt w a)) : wx.cell? a = some (cellAt wx a) := by
  have := cell_later hb h
  rw [cellAt, this]; rfl

theorem at_drew {w : World} {a : Addr} (h : w.cell? a = some (cellAt w a)) : w.drew.cell? a = some (cellAt w.drew a) := by
  apply cellAt_of; simp [h]

theorem at_set {w : World} {a b : Addr} {v : Value} (h : w.cell? a = some (cellAt w a)) : (w.setCell b v).cell? a = some (cellAt (w.setCell b v) a) := by
  apply cellAt_of
  by_cases e : b = a
  · subst e
    rw [World.cell?_setCell_same w b v h]; rfl
  · rw [World.cell?_setCell_other w b a v e, h]; rfl

theorem frozen_later {w wx : World} {a : Addr} {v : Value} (hb : Below w.heap.size w wx) (h : w.cell? a = some v) (hf : w.frozen? a = false) : wx.frozen? a = false :=
  (hb.frozen (World.block_lt_of_cell? _ _ h)).trans hf

theorem isSome_later {w wx : World} {a : Addr} (hb : Below w.heap.size w wx) (h : (w.cell? a).isSome = true) : (wx.cell? a).isSome = true := by
  obtain ⟨u, hu⟩ := Option.isSome_iff_exists.1 h
  rw [cell_later hb hu]; rfl

theorem set2a {w : World} {b : Nat} {v0 v1 : Value} (h0 : (w.cell? ⟨b, 0, none⟩).isSome = true) : cellAt ((w.setCell ⟨b, 0, none⟩ v0).setCell ⟨b, 1, none⟩ v1) ⟨b, 0, none⟩ = v0 := by
  obtain ⟨u, hu⟩ := Option.isSome_iff_exists.1 h0
  rw [cellAt, World.cell?_setCell_other _ _ _ _ (by simp), World.cell?_setCell_same _ _ _ hu]; rfl

theorem set2b {w : World} {b : Nat} {v0 v1 : Value} (h1 : (w.cell? ⟨b, 1, none⟩).isSome = true) : cellAt ((w.setCell ⟨b, 0, none⟩ v0).setCell ⟨b, 1, none⟩ v1) ⟨b, 1, none⟩ = v1 := by
  obtain ⟨u, hu⟩ := Option.isSome_iff_exists.1 h1
  rw [cellAt, World.cell?_setCell_same _ _ _ ((World.cell?_setCell_other _ _ _ _ (by simp)).trans hu)]; rfl

theorem at_undrew {w : World} {a : Addr} : cellAt w.drew a = cellAt w a := by simp [cellAt]

def boK (ak at' bk bt : Int) : Int := if okB ak at' && okB bk bt then andI ak bk else 0

def boT (ak at' bk bt : Int) : Int := if okB ak at' && okB bk bt then andI at' bt else 0

def eiK (ak at' bk bt : Int) : Int := if okB ak at' && okB bk bt then orI ak bk else 0

def eiT (ak at' bk bt : Int) : Int := if okB ak at' && okB bk bt then orI at' bt else 0

end Go.Proofs.Ytpcmhkcahajdgaa

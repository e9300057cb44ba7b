/- What came of a program: its size, laid anew, compared, marked and held. -/
import Derived.Test.YtfhlkehhoanpaaaMrw
namespace Go.Proofs.Ytfhlkehhoanpaaa
open Go.RowKit
set_option linter.unusedSimpArgs false
set_option linter.unusedVariables false
attribute [local go_sem] World.cell?_alloc_some

/-- Three cells of one block, that may be written. -/
def C3 (w : World) (b : Nat) (v0 v1 v2 : Value) : Prop :=
  (w.cell? ⟨b, 0, none⟩ = some v0 ∧ w.cell? ⟨b, 1, none⟩ = some v1 ∧ w.cell? ⟨b, 2, none⟩ = some v2) ∧ w.frozen? ⟨b, 0, none⟩ = false ∧ w.frozen? ⟨b, 1, none⟩ = false ∧ w.frozen? ⟨b, 2, none⟩ = false
theorem C3.frame {w w' : World} {b : Nat} {v0 v1 v2 : Value} (h : C3 w b v0 v1 v2) (hb : w'.heap[b]? = w.heap[b]?) : C3 w' b v0 v1 v2 := by
  obtain ⟨⟨c0, c1, c2⟩, f0, f1, f2⟩ := h
  have hc : ∀ o, w'.cell? ⟨b, o, none⟩ = w.cell? ⟨b, o, none⟩ := fun o => World.cell?_of_block hb
  have hf : ∀ o, w'.frozen? ⟨b, o, none⟩ = w.frozen? ⟨b, o, none⟩ := fun o => World.frozen?_of_block (a := ⟨b, o, none⟩) hb
  exact ⟨⟨(hc 0).trans c0, (hc 1).trans c1, (hc 2).trans c2⟩, (hf 0).trans f0, (hf 1).trans f1, (hf 2).trans f2⟩
theorem C3.lt {w : World} {b : Nat} {v0 v1 v2 : Value} (h : C3 w b v0 v1 v2) : b < w.heap.size := World.block_lt_of_cell? w _ h.1.1
theorem C3.below {w w' : World} {b : Nat} {v0 v1 v2 : Value} (h : C3 w b v0 v1 v2) (hb : Below w.heap.size w w') : C3 w' b v0 v1 v2 := h.frame (hb.block b h.lt)
theorem C3.new (w : World) (v0 v1 v2 : Value) (T : TypeId) : C3 (w.alloc (.cells #[v0, v1, v2] T)) w.heap.size v0 v1 v2 := by
  refine ⟨⟨?_, ?_, ?_⟩, ?_, ?_, ?_⟩ <;> simp
theorem C3.far {w : World} {b : Nat} {v0 v1 v2 : Value} (h : C3 w b v0 v1 v2) {a : Addr} (ha : a.block ≠ b) (u : Value) : C3 (w.setCell a u) b v0 v1 v2 := h.frame (Below.heap_setCell _ _ _ _ (fun e => ha e.symm))
theorem C3.set0 {w : World} {b : Nat} {v0 v1 v2 : Value} (u : Value) (h : C3 w b v0 v1 v2) : C3 (w.setCell ⟨b, 0, none⟩ u) b u v1 v2 := by
  obtain ⟨⟨c0, c1, c2⟩, f⟩ := h
  refine ⟨⟨?_, ?_, ?_⟩, by simpa only [World.frozen?_setCell] using f⟩
  · exact World.cell?_setCell_same _ _ _ c0
  · exact (World.cell?_setCell_other _ _ _ _ (by simp)).trans c1
  · exact (World.cell?_setCell_other _ _ _ _ (by simp)).trans c2
theorem C3.set1 {w : World} {b : Nat} {v0 v1 v2 : Value} (u : Value) (h : C3 w b v0 v1 v2) : C3 (w.setCell ⟨b, 1, none⟩ u) b v0 u v2 := by
  obtain ⟨⟨c0, c1, c2⟩, f⟩ := h
  refine ⟨⟨?_, ?_, ?_⟩, by simpa only [World.frozen?_setCell] using f⟩
  · exact (World.cell?_setCell_other _ _ _ _ (by simp)).trans c0
  · exact World.cell?_setCell_same _ _ _ c1
  · exact (World.cell?_setCell_other _ _ _ _ (by simp)).trans c2
theorem C3.set2 {w : World} {b : Nat} {v0 v1 v2 : Value} (u : Value) (h : C3 w b v0 v1 v2) : C3 (w.setCell ⟨b, 2, none⟩ u) b v0 v1 u := by
  obtain ⟨⟨c0, c1, c2⟩, f⟩ := h
  refine ⟨⟨?_, ?_, ?_⟩, by simpa only [World.frozen?_setCell] using f⟩
  · exact (World.cell?_setCell_other _ _ _ _ (by simp)).trans c0
  · exact (World.cell?_setCell_other _ _ _ _ (by simp)).trans c1
  · exact World.cell?_setCell_same _ _ _ c2

set_option maxHeartbeats 1000000 in
theorem szRun_any {nv wv sv : Value} {zs : List Int} {ws ss : List (Int × Int)} {left : Int} {w : World} (hN : GRep (Value.int .i64) w nv zs) (hW : LRep w wv ws) (hS : LRep w sv ss) (h0 : 0 ≤ left) (h1 : left ≤ 1048576) :
    Calls Try.prog 53 #[.agg #[nv, wv, sv], .int .i64 left] w fun e w' => e = .returned (.int .i64 (szR left (zs.length + ws.length + ss.length))) ∧ Below w.heap.size w w' := by
  have A : Below w.heap.size w (w.alloc (.cells #[nv, wv, sv] 79)) := (Below.refl _ _).alloc (Nat.le_refl _) _
  have HW : Hid (∀ w', Below w.heap.size w w' → LRep w' wv ws) := (show ∀ w', _ from fun w' hb => hW.below hb)
  have HS : Hid (∀ w', Below w.heap.size w w' → LRep w' sv ss) := (show ∀ w', _ from fun w' hb => hS.below hb)
  obtain ⟨na, nc, rfl, hnl, hnm, -⟩ := hN
  obtain ⟨wa, wc, rfl, -⟩ := hW
  obtain ⟨sa, sc, rfl, -⟩ := hS
  have C1 : Hid _ := szIntS_any (a := na) (c := nc) (w := w.alloc (.cells #[.slice na zs.length nc, .slice wa ws.length wc, .slice sa ss.length sc] 79)) (Nat.le_trans hnl hnm) h0 h1
  have G := C3.new w (.slice na zs.length nc) (.slice wa ws.length wc) (.slice sa ss.length sc) 79
  have HG : Hid _ := G
  clear G
  go_enter Try.func53, Try.ntmps53
  go_wp2_with fail
  go_at_call 92; refine Calls.mono C1.out ?_; rintro e w1 ⟨rfl, hb1⟩
  have B1 : Below w.heap.size w w1 := Below.then A hb1 (by simp)
  have G1 := C3.below HG.out hb1
  have HG1 : Hid _ := G1
  obtain ⟨⟨p0, p1, p2⟩, -⟩ := G1
  clear hb1 A C1 HG
  by_cases hm : (zs.length : Int) ≤ left
  case neg =>
    rw [szR_neg hm]
    have HE : Hid (szR left (zs.length + ws.length + ss.length) = -1) := (show szR left (zs.length + ws.length + ss.length) = -1 from szR_neg (by omega))
    go_wp2
    go_ret
    exact ⟨by rw [HE.out]; rfl, B1⟩
  rw [szR_pos hm]
  have l0 : 0 ≤ left - zs.length := by omega
  have l1 : ¬ (left - zs.length < 0) := by omega
  have C2 : Hid _ := szWriteS_any (left := left - zs.length) (HW.out w1 B1) l0 (by omega)
  go_wp2_with fail
  go_at_call 93; refine Calls.mono C2.out ?_; rintro e w2 ⟨rfl, hb2⟩
  have B2 : Below w.heap.size w w2 := Below.then B1 hb2 B1.size
  have G2 := C3.below HG1.out hb2
  clear hb2 C2 p0 p1 p2 HG1
  obtain ⟨⟨p0, p1, p2⟩, -⟩ := G2
  by_cases hm2 : (ws.length : Int) ≤ left - zs.length
  case neg =>
    rw [szR_neg hm2]
    have HE : Hid (szR left (zs.length + ws.length + ss.length) = -1) := (show szR left (zs.length + ws.length + ss.length) = -1 from szR_neg (by omega))
    go_wp2
    go_ret
    exact ⟨by rw [HE.out]; rfl, B2⟩
  rw [szR_pos hm2]
  have l2 : 0 ≤ left - zs.length - ws.length := by omega
  have l3 : ¬ (left - zs.length - ws.length < 0) := by omega
  have C3' : Hid _ := szSaidS_any (left := left - zs.length - ws.length) (HS.out w2 B2) l2 (by omega)
  go_wp2_with fail
  go_at_call 94; refine Calls.mono C3'.out ?_; rintro e w3 ⟨rfl, hb3⟩
  have B3 : Below w.heap.size w w3 := Below.then B2 hb3 B2.size
  clear hb3 C3' p0 p1 p2
  by_cases hm3 : (ss.length : Int) ≤ left - zs.length - ws.length
  case neg =>
    rw [szR_neg hm3]
    have HE : Hid (szR left (zs.length + ws.length + ss.length) = -1) := (show szR left (zs.length + ws.length + ss.length) = -1 from szR_neg (by omega))
    go_wp2
    go_ret
    exact ⟨by rw [HE.out]; rfl, B3⟩
  rw [szR_pos hm3]
  have l4 : 0 ≤ left - zs.length - ws.length - ss.length := by omega
  have l5 : ¬ (left - zs.length - ws.length - ss.length < 0) := by omega
  have HE : Hid (left - zs.length - ws.length - ss.length = szR left (zs.length + ws.length + ss.length)) := (show left - zs.length - ws.length - ss.length = szR left (zs.length + ws.length + ss.length) by rw [szR_pos (by omega)]; omega)
  go_wp2
  go_ret
  exact ⟨by rw [← HE.out]; rfl, B3⟩

/-- What came of a program, in blocks of its own. -/
structure ROwn (w : World) (nv wv sv : Value) (zs : List Int) (ws ss : List (Int × Int)) (b0 b1 b2 : List Nat) : Prop where
  n : GOwn (Value.int .i64) w nv zs b0
  wr : LOwn w wv ws b1
  sd : LOwn w sv ss b2
theorem ROwn.frame {w w' : World} {nv wv sv : Value} {zs : List Int} {ws ss : List (Int × Int)} {b0 b1 b2 : List Nat} (h : ROwn w nv wv sv zs ws ss b0 b1 b2) (hb : ∀ b ∈ b0 ++ b1 ++ b2, w'.heap[b]? = w.heap[b]?) : ROwn w' nv wv sv zs ws ss b0 b1 b2 :=
  ⟨GOwn.frame (fun b h => hb b (by simp [h])) h.n, LOwn.frame (fun b h => hb b (by simp [h])) h.wr, LOwn.frame (fun b h => hb b (by simp [h])) h.sd⟩
/-- A block is in one of them alone. -/
def Apart (b0 b1 b2 : List Nat) : Prop := (∀ b ∈ b0, b ∉ b1 ∧ b ∉ b2) ∧ ∀ b ∈ b1, b ∉ b2

set_option maxHeartbeats 4000000 in
theorem toRun_any {nv wv sv : Value} {zs : List Int} {ws ss : List (Int × Int)} {w : World} (hN : GRep (Value.int .i64) w nv zs) (hW : LRep w wv ws) (hS : LRep w sv ss) (l0 : zs.length ≤ 1048576) (l1 : ws.length ≤ 1048576) (l2 : ss.length ≤ 1048576) :
    Calls Try.prog 54 #[.agg #[nv, wv, sv]] w fun e w' => ∃ nv' wv' sv' b0 b1 b2, e = .returned (.agg #[nv', wv', sv']) ∧ Below w.heap.size w w' ∧ ROwn w' nv' wv' sv' zs ws ss b0 b1 b2 ∧ (∀ b ∈ b0 ++ b1 ++ b2, w.heap.size ≤ b ∧ b < w'.heap.size) ∧ Apart b0 b1 b2 := by
  have A : Below w.heap.size w (((w.alloc (.cells #[nv, wv, sv] 79)).alloc (.cells #[.slice none 0 0, .slice none 0 0, .slice none 0 0] 47)).alloc (.cells #[.slice none 0 0, .slice none 0 0, .slice none 0 0] 47)) :=
    (((Below.refl _ _).alloc (Nat.le_refl _) _).alloc (by simp) _).alloc (by simp; omega) _
  have C1 : Hid _ := toIntS_any (hN.below A) l0
  have HW : Hid (∀ w', Below w.heap.size w w' → LRep w' wv ws) := (show ∀ w', _ from fun w' hb => hW.below hb)
  have HS : Hid (∀ w', Below w.heap.size w w' → LRep w' sv ss) := (show ∀ w', _ from fun w' hb => hS.below hb)
  obtain ⟨na, nc, rfl, -⟩ := hN
  obtain ⟨wa, wc, rfl, -⟩ := hW
  obtain ⟨sa, sc, rfl, -⟩ := hS
  generalize hW3 : (((w.alloc (.cells #[.slice na zs.length nc, .slice wa ws.length wc, .slice sa ss.length sc] 79)).alloc (.cells #[.slice none 0 0, .slice none 0 0, .slice none 0 0] 47)).alloc (.cells #[.slice none 0 0, .slice none 0 0, .slice none 0 0] 47)) = W3 at A C1
  have s0 : W3.heap.size = w.heap.size + 3 := by rw [← hW3]; simp
  have g1 : C3 W3 w.heap.size (.slice na zs.length nc) (.slice wa ws.length wc) (.slice sa ss.length sc) := by
    rw [← hW3]; exact ((C3.new w _ _ _ _).below ((Below.refl _ _).alloc (Nat.le_refl _) _)).below ((Below.refl _ _).alloc (Nat.le_refl _) _)
  have g2 : C3 W3 (w.heap.size + 1) (.slice none 0 0) (.slice none 0 0) (.slice none 0 0) := by
    rw [← hW3]
    have := (C3.new (w.alloc (.cells #[.slice na zs.length nc, .slice wa ws.length wc, .slice sa ss.length sc] 79)) (.slice none 0 0) (.slice none 0 0) (.slice none 0 0) 47).below ((Below.refl _ _).alloc (Nat.le_refl _) (.cells #[.slice none 0 0, .slice none 0 0, .slice none 0 0] 47))
    simpa using this
  have g3 : C3 W3 (w.heap.size + 1 + 1) (.slice none 0 0) (.slice none 0 0) (.slice none 0 0) := by
    rw [← hW3]
    have := (C3.new ((w.alloc (.cells #[.slice na zs.length nc, .slice wa ws.length wc, .slice sa ss.length sc] 79)).alloc (.cells #[.slice none 0 0, .slice none 0 0, .slice none 0 0] 47)) (.slice none 0 0) (.slice none 0 0) (.slice none 0 0) 47)
    simpa using this
  have HG1 : Hid _ := g1
  have HG2 : Hid _ := g2
  have HG3 : Hid _ := g3
  have HW3 : Hid _ := hW3
  clear g1 g2 g3 hW3
  go_enter Try.func54, Try.ntmps54
  go_wp2_with fail
  rw [HW3.out]
  clear HW3
  go_at_call 45; refine Calls.mono C1.out ?_
  rintro e w1 ⟨nv', b0, rfl, hb1, o1, r1⟩
  obtain ⟨na', nc', rfl, -⟩ := o1.rep
  have G1 := C3.below HG1.out hb1
  have G2 := C3.below HG2.out hb1
  have G3 := C3.below HG3.out hb1
  have B1 : Below w.heap.size w w1 := Below.then A hb1 A.size
  have s1 : w.heap.size + 3 ≤ w1.heap.size := by have := hb1.size; omega
  have R1 : Hid (∀ b ∈ b0, w.heap.size + 3 ≤ b ∧ b < w1.heap.size) := (show ∀ b ∈ b0, _ from fun b hb => by have := r1 b hb; omega)
  have O1 : Hid _ := o1
  have K1 : Hid _ := G1
  have K2 : Hid _ := G2
  have K3 : Hid _ := G3
  clear hb1 A C1 r1 o1 HG1 HG2 HG3
  obtain ⟨⟨x0, x1, x2⟩, -⟩ := G1
  obtain ⟨⟨z0, z1, z2⟩, f0, f1, f2⟩ := G3
  clear G2
  go_wp2_with fail
  clear x0 x1 x2 z0 z1 z2 f0 f1 f2
  have B2 : Below w.heap.size w (w1.setCell ⟨w.heap.size + 1 + 1, 0, none⟩ (.slice na' zs.length nc')) := B1.setCell (by simp; omega) _
  have C2 : Hid _ := toWriteS_any (HW.out _ B2) l1
  have G1 := C3.far K1.out (a := ⟨w.heap.size + 1 + 1, 0, none⟩) (by simp; omega) (.slice na' zs.length nc')
  have G2 := C3.far K2.out (a := ⟨w.heap.size + 1 + 1, 0, none⟩) (by simp) (.slice na' zs.length nc')
  have G3 := C3.set0 (.slice na' zs.length nc') K3.out
  have s2 : (w1.setCell ⟨w.heap.size + 1 + 1, 0, none⟩ (.slice na' zs.length nc')).heap.size = w1.heap.size := by simp [World.setCell]
  have o1 : GOwn (Value.int .i64) (w1.setCell ⟨w.heap.size + 1 + 1, 0, none⟩ (.slice na' zs.length nc')) (.slice na' zs.length nc') zs b0 := GOwn.frame (fun b hb => Below.heap_setCell _ _ _ _ (by have := R1.out b hb; show b ≠ w.heap.size + 1 + 1; omega)) O1.out
  clear O1 K1 K2 K3 B1
  go_at_call 95; refine Calls.mono C2.out ?_
  generalize (w1.setCell ⟨w.heap.size + 1 + 1, 0, none⟩ (.slice na' zs.length nc')) = w2 at *
  rintro e w3 ⟨wv', b1, rfl, hb3, o2, r2⟩
  obtain ⟨wa', wc', rfl, -⟩ := o2.rep
  have R2 : Hid (∀ b ∈ b1, w1.heap.size ≤ b ∧ b < w3.heap.size) := (show ∀ b ∈ b1, _ from fun b hb => by have := r2 b hb; omega)
  replace G1 := G1.below hb3
  replace G2 := G2.below hb3
  replace G3 := G3.below hb3
  have B3 : Below w.heap.size w w3 := Below.then B2 hb3 B2.size
  have s3 : w1.heap.size ≤ w3.heap.size := by have := hb3.size; omega
  have O1 : Hid (GOwn (Value.int .i64) w3 (.slice na' zs.length nc') zs b0) := GOwn.frame (fun b hb => hb3.block b (by have := R1.out b hb; omega)) o1
  have O2 : Hid _ := o2
  have K1 : Hid _ := G1
  have K2 : Hid _ := G2
  have K3 : Hid _ := G3
  clear hb3 o1 o2 r2 B2 C2 s2
  obtain ⟨⟨x0, x1, x2⟩, -⟩ := G1
  obtain ⟨⟨z0, z1, z2⟩, f0, f1, f2⟩ := G3
  clear G2
  go_wp2_with fail
  clear x0 x1 x2 z0 z1 z2 f0 f1 f2
  have B4 : Below w.heap.size w (w3.setCell ⟨w.heap.size + 1 + 1, 1, none⟩ (.slice wa' ws.length wc')) := B3.setCell (by simp; omega) _
  have C4 : Hid _ := toSaidS_any (HS.out _ B4) l2
  have G2 := C3.far K2.out (a := ⟨w.heap.size + 1 + 1, 1, none⟩) (by simp) (.slice wa' ws.length wc')
  have G3 := C3.set1 (.slice wa' ws.length wc') K3.out
  have s4 : (w3.setCell ⟨w.heap.size + 1 + 1, 1, none⟩ (.slice wa' ws.length wc')).heap.size = w3.heap.size := by simp [World.setCell]
  have o1 : GOwn (Value.int .i64) (w3.setCell ⟨w.heap.size + 1 + 1, 1, none⟩ (.slice wa' ws.length wc')) (.slice na' zs.length nc') zs b0 := GOwn.frame (fun b hb => Below.heap_setCell _ _ _ _ (by have := R1.out b hb; show b ≠ w.heap.size + 1 + 1; omega)) O1.out
  have o2 : LOwn (w3.setCell ⟨w.heap.size + 1 + 1, 1, none⟩ (.slice wa' ws.length wc')) (.slice wa' ws.length wc') ws b1 := LOwn.frame (fun b hb => Below.heap_setCell _ _ _ _ (by have := R2.out b hb; show b ≠ w.heap.size + 1 + 1; omega)) O2.out
  clear O1 O2 K1 K2 K3 B3
  go_at_call 96; refine Calls.mono C4.out ?_
  generalize (w3.setCell ⟨w.heap.size + 1 + 1, 1, none⟩ (.slice wa' ws.length wc')) = w4 at *
  rintro e w5 ⟨sv', b2, rfl, hb5, o3, r3⟩
  obtain ⟨sa', sc', rfl, -⟩ := o3.rep
  have R3 : Hid (∀ b ∈ b2, w3.heap.size ≤ b ∧ b < w5.heap.size) := (show ∀ b ∈ b2, _ from fun b hb => by have := r3 b hb; omega)
  replace G2 := G2.below hb5
  replace G3 := G3.below hb5
  have B5 : Below w.heap.size w w5 := Below.then B4 hb5 B4.size
  have s5 : w3.heap.size ≤ w5.heap.size := by have := hb5.size; omega
  have O1 : Hid (GOwn (Value.int .i64) w5 (.slice na' zs.length nc') zs b0) := GOwn.frame (fun b hb => hb5.block b (by have := R1.out b hb; omega)) o1
  have O2 : Hid (LOwn w5 (.slice wa' ws.length wc') ws b1) := LOwn.frame (fun b hb => hb5.block b (by have := R2.out b hb; omega)) o2
  have O3 : Hid _ := o3
  have K2 : Hid _ := G2
  clear hb5 o1 o2 o3 r3 B4 C4 s4
  obtain ⟨⟨z0, z1, z2⟩, f0, f1, f2⟩ := G3
  obtain ⟨⟨y0, y1, y2⟩, g0, g1, g2⟩ := G2
  go_wp2
  have hh : ∀ b, w.heap.size + 3 ≤ b → ((((w5.setCell ⟨w.heap.size + 1 + 1, 2, none⟩ (.slice sa' ss.length sc')).setCell ⟨w.heap.size + 1, 0, none⟩ (.slice na' zs.length nc')).setCell ⟨w.heap.size + 1, 1, none⟩ (.slice wa' ws.length wc')).setCell ⟨w.heap.size + 1, 2, none⟩ (.slice sa' ss.length sc')).heap[b]? = w5.heap[b]? := fun b h => by
    rw [Below.heap_setCell _ _ _ _ (by show b ≠ w.heap.size + 1; omega), Below.heap_setCell _ _ _ _ (by show b ≠ w.heap.size + 1; omega), Below.heap_setCell _ _ _ _ (by show b ≠ w.heap.size + 1; omega), Below.heap_setCell _ _ _ _ (by show b ≠ w.heap.size + 1 + 1; omega)]
  have sF : ((((w5.setCell ⟨w.heap.size + 1 + 1, 2, none⟩ (.slice sa' ss.length sc')).setCell ⟨w.heap.size + 1, 0, none⟩ (.slice na' zs.length nc')).setCell ⟨w.heap.size + 1, 1, none⟩ (.slice wa' ws.length wc')).setCell ⟨w.heap.size + 1, 2, none⟩ (.slice sa' ss.length sc')).heap.size = w5.heap.size := by simp [World.setCell]
  have GF := C3.set2 (.slice sa' ss.length sc') (C3.set1 (.slice wa' ws.length wc') (C3.set0 (.slice na' zs.length nc') (C3.far K2.out (a := ⟨w.heap.size + 1 + 1, 2, none⟩) (by simp) (.slice sa' ss.length sc'))))
  obtain ⟨⟨t0, t1, t2⟩, -⟩ := GF
  have R1' := R1.out
  have R2' := R2.out
  have R3' := R3.out
  refine bodyPost_ret (v := .agg #[.slice na' zs.length nc', .slice wa' ws.length wc', .slice sa' ss.length sc']) (by simp [results, Try.results54, go_sem, t0, t1, t2]) rfl ⟨_, _, _, b0, b1, b2, rfl, ?_, ⟨GOwn.frame (fun b hb => hh b (by have := R1' b hb; omega)) O1.out, LOwn.frame (fun b hb => hh b (by have := R2' b hb; omega)) O2.out, LOwn.frame (fun b hb => hh b (by have := R3' b hb; omega)) O3.out⟩, ?_, ?_⟩
  · exact (((B5.setCell (by show w.heap.size ≤ w.heap.size + 1 + 1; omega) _).setCell (by show w.heap.size ≤ w.heap.size + 1; omega) _).setCell (by show w.heap.size ≤ w.heap.size + 1; omega) _).setCell (by show w.heap.size ≤ w.heap.size + 1; omega) _
  · intro b hb
    rw [sF]
    rcases List.mem_append.1 hb with hb | hb
    · rcases List.mem_append.1 hb with hb | hb
      · have := R1' b hb; omega
      · have := R2' b hb; omega
    · have := R3' b hb; omega
  · refine ⟨fun b hb => ⟨fun h => ?_, fun h => ?_⟩, fun b hb h => ?_⟩
    · have := R1' b hb; have := R2' b h; omega
    · have := R1' b hb; have := R3' b h; omega
    · have := R2' b hb; have := R3' b h; omega

theorem eqRun_same {nv wv sv nv' wv' sv' : Value} {zs : List Int} {ws ss : List (Int × Int)} {w : World} (hN : GRep (Value.int .i64) w nv zs) (hW : LRep w wv ws) (hS : LRep w sv ss) (hN' : GRep (Value.int .i64) w nv' zs) (hW' : LRep w wv' ws) (hS' : LRep w sv' ss) :
    Calls Try.prog 48 #[.agg #[nv, wv, sv], .agg #[nv', wv', sv']] w fun e w' => e = .returned (.bool true) ∧ Below w.heap.size w w' := by
  have A : Below w.heap.size w ((w.alloc (.cells #[nv, wv, sv] 47)).alloc (.cells #[nv', wv', sv'] 47)) := ((Below.refl _ _).alloc (Nat.le_refl _) _).alloc (by simp) _
  have C1 : Hid _ := eqIntS_same (hN.below A) (hN'.below A)
  have C2 : Hid (∀ wx, Below w.heap.size w wx → Calls Try.prog 57 #[wv, wv'] wx fun e w' => e = .returned (.bool true) ∧ Below wx.heap.size wx w') := (show ∀ wx, _ from fun wx hb => eqWriteS_same (hW.below hb) (hW'.below hb))
  have C3' : Hid (∀ wx, Below w.heap.size w wx → Calls Try.prog 87 #[sv, sv'] wx fun e w' => e = .returned (.bool true) ∧ Below wx.heap.size wx w') := (show ∀ wx, _ from fun wx hb => eqSaidS_same (hS.below hb) (hS'.below hb))
  obtain ⟨na, nc, rfl, -⟩ := hN
  obtain ⟨wa, wc, rfl, -⟩ := hW
  obtain ⟨sa, sc, rfl, -⟩ := hS
  obtain ⟨na', nc', rfl, -⟩ := hN'
  obtain ⟨wa', wc', rfl, -⟩ := hW'
  obtain ⟨sa', sc', rfl, -⟩ := hS'
  have g1 : Hid _ := (C3.new w (.slice na zs.length nc) (.slice wa ws.length wc) (.slice sa ss.length sc) 47).below ((Below.refl _ _).alloc (Nat.le_refl _) (.cells #[.slice na' zs.length nc', .slice wa' ws.length wc', .slice sa' ss.length sc'] 47))
  have g2 : Hid _ := C3.new (w.alloc (.cells #[.slice na zs.length nc, .slice wa ws.length wc, .slice sa ss.length sc] 47)) (.slice na' zs.length nc') (.slice wa' ws.length wc') (.slice sa' ss.length sc') 47
  go_enter Try.func48, Try.ntmps48
  go_wp2_with fail
  go_at_call 47; refine Calls.mono C1.out ?_; rintro e w1 ⟨rfl, hb1⟩
  have B1 : Below w.heap.size w w1 := Below.then A hb1 (by simp; omega)
  have G1 := C3.below g1.out hb1
  have G2 := C3.below g2.out hb1
  rw [show (w.alloc (.cells #[.slice na zs.length nc, .slice wa ws.length wc, .slice sa ss.length sc] 47)).heap.size = w.heap.size + 1 by simp] at G2
  have K1 : Hid _ := G1
  have K2 : Hid _ := G2
  clear hb1 A C1 g1 g2
  obtain ⟨⟨x0, x1, x2⟩, -⟩ := G1
  obtain ⟨⟨y0, y1, y2⟩, -⟩ := G2
  go_wp2_with fail
  go_at_call 57; refine (C2.out _ B1).mono ?_; rintro e w2 ⟨rfl, hb2⟩
  have B2 : Below w.heap.size w w2 := Below.then B1 hb2 B1.size
  have G1 := C3.below K1.out hb2
  have G2 := C3.below K2.out hb2
  clear hb2 B1 K1 K2 x0 x1 x2 y0 y1 y2
  obtain ⟨⟨x0, x1, x2⟩, -⟩ := G1
  obtain ⟨⟨y0, y1, y2⟩, -⟩ := G2
  go_wp2_with fail
  go_at_call 87; refine (C3'.out _ B2).mono ?_; rintro e w3 ⟨rfl, hb3⟩
  have B3 : Below w.heap.size w w3 := Below.then B2 hb3 B2.size
  clear hb3 B2 x0 x1 x2 y0 y1 y2
  go_wp2
  go_ret
  exact ⟨rfl, B3⟩

theorem markRun_any {nv wv sv : Value} {zs : List Int} {ws ss : List (Int × Int)} {b0 b1 b2 : List Nat} {w : World} (h : ROwn w nv wv sv zs ws ss b0 b1 b2) (hlt : ∀ b ∈ b0 ++ b1 ++ b2, b < w.heap.size) (ha : Apart b0 b1 b2) (l0 : zs.length ≤ 1048576) (l1 : ws.length ≤ 1048576) (l2 : ss.length ≤ 1048576) :
    Calls Try.prog 51 #[.agg #[nv, wv, sv], .int .i64 1] w fun e w' => e = .returned (.int .i64 (1 + zs.length + 2 * ws.length + 2 * ss.length)) ∧ Fs (b0 ++ b1 ++ b2) w w' ∧ ROwn w' nv wv sv (nf 1 zs.length) (pf (1 + zs.length) ws.length) (pf (1 + zs.length + 2 * ws.length) ss.length) b0 b1 b2 := by
  have A : Below w.heap.size w (w.alloc (.cells #[nv, wv, sv] 47)) := (Below.refl _ _).alloc (Nat.le_refl _) _
  have R := h.frame (w' := w.alloc (.cells #[nv, wv, sv] 47)) (fun b hb => A.block b (hlt b hb))
  have C1 : Hid _ := markIntS_any R.n (k := 1) (by omega) (by omega)
  have HR : Hid _ := R
  obtain ⟨na, nc, rfl, -⟩ := h.n.rep
  obtain ⟨wa, wc, rfl, -⟩ := h.wr.rep
  obtain ⟨sa, sc, rfl, -⟩ := h.sd.rep
  have G := C3.new w (.slice na zs.length nc) (.slice wa ws.length wc) (.slice sa ss.length sc) 47
  have HG : Hid _ := G
  have n0 : w.heap.size ∉ b0 := fun h => by have := hlt w.heap.size (by simp [h]); omega
  have n1 : w.heap.size ∉ b1 := fun h => by have := hlt w.heap.size (by simp [h]); omega
  clear h R G
  go_enter Try.func51, Try.ntmps51
  go_wp2_with fail
  go_at_call 50; refine Calls.mono C1.out ?_
  rintro e w1 ⟨rfl, fr1, m1⟩
  have G1 := C3.frame HG.out (fr1.block w.heap.size n0)
  have W1 : LOwn w1 (.slice wa ws.length wc) ws b1 := LOwn.frame (fun b hb => fr1.block b (fun h => (ha.1 b h).1 hb)) HR.out.wr
  have S1 : LOwn w1 (.slice sa ss.length sc) ss b2 := LOwn.frame (fun b hb => fr1.block b (fun h => (ha.1 b h).2 hb)) HR.out.sd
  have C2 : Hid _ := markWriteS_any W1 (k := 1 + zs.length) (by omega) (by omega)
  have HF1 : Hid _ := fr1
  have HM1 : Hid _ := m1
  have HS1 : Hid _ := S1
  have HG1 : Hid _ := G1
  clear fr1 C1 m1 W1 S1 HG HR
  obtain ⟨⟨x0, x1, x2⟩, -⟩ := G1
  go_wp2_with fail
  go_at_call 60; refine Calls.mono C2.out ?_
  rintro e w2 ⟨rfl, fr2, m2⟩
  have G2 := C3.frame HG1.out (fr2.block w.heap.size n1)
  have M1 : GOwn (Value.int .i64) w2 (.slice na zs.length nc) (nf 1 zs.length) b0 := GOwn.frame (fun b hb => fr2.block b (fun h => (ha.1 b hb).1 h)) HM1.out
  have S2 : LOwn w2 (.slice sa ss.length sc) ss b2 := LOwn.frame (fun b hb => fr2.block b (fun h => ha.2 b h hb)) HS1.out
  have C3' : Hid _ := markSaidS_any S2 (k := 1 + zs.length + 2 * ws.length) (by omega) (by omega)
  have HF2 : Hid _ := fr2
  have HM1' : Hid _ := M1
  have HM2 : Hid _ := m2
  clear fr2 C2 m2 M1 S2 HG1 HM1 HS1 x0 x1 x2
  obtain ⟨⟨x0, x1, x2⟩, -⟩ := G2
  go_wp2_with fail
  go_at_call 90; refine Calls.mono C3'.out ?_
  rintro e w3 ⟨rfl, fr3, m3⟩
  have HF3 : Hid _ := fr3
  have HM3 : Hid _ := m3
  clear x0 x1 x2 C3' fr3 m3
  go_wp2
  go_ret
  refine ⟨rfl, (((Fs.of_below A).trans ((Fs.of_fr HF1.out).mono (fun x hx => by simp [hx]))).trans ((Fs.of_fr HF2.out).mono (fun x hx => by simp [hx]))).trans ((Fs.of_fr HF3.out).mono (fun x hx => by simp [hx])), ?_, ?_, HM3.out⟩
  · exact GOwn.frame (fun b hb => HF3.out.block b (fun h => (ha.1 b hb).2 h)) HM1'.out
  · exact LOwn.frame (fun b hb => HF3.out.block b (fun h => ha.2 b hb h)) HM2.out

theorem heldRun_any {nv wv sv : Value} {n0 n1 n2 : Nat} {w : World} (hN : GRep (Value.int .i64) w nv (nf 1 n0)) (hW : LRep w wv (pf (1 + n0) n1)) (hS : LRep w sv (pf (1 + n0 + 2 * n1) n2)) (l0 : n0 ≤ 1048576) (l1 : n1 ≤ 1048576) (l2 : n2 ≤ 1048576) :
    Calls Try.prog 52 #[.agg #[nv, wv, sv], .int .i64 1] w fun e w' => e = .returned (.int .i64 (1 + n0 + 2 * n1 + 2 * n2)) ∧ Below w.heap.size w w' := by
  obtain ⟨na, nc, hv0, -⟩ := id hN
  obtain ⟨wa, wc, hv1, -⟩ := id hW
  obtain ⟨sa, sc, hv2, -⟩ := id hS
  rw [show (nf 1 n0).length = n0 by simp [nf]] at hv0
  rw [show (pf (1 + n0) n1).length = n1 by simp [pf]] at hv1
  rw [show (pf (1 + n0 + 2 * n1) n2).length = n2 by simp [pf]] at hv2
  subst hv0 hv1 hv2
  have A : Below w.heap.size w (w.alloc (.cells #[.slice na n0 nc, .slice wa n1 wc, .slice sa n2 sc] 47)) := (Below.refl _ _).alloc (Nat.le_refl _) _
  have C1 : Hid _ := heldIntS_any (hN.below A) (by omega) (by omega)
  have C2 : Hid (∀ wx, Below w.heap.size w wx → Calls Try.prog 61 #[.slice wa n1 wc, .int .i64 (1 + n0)] wx fun e w' => e = .returned (.int .i64 (1 + n0 + 2 * n1)) ∧ Below wx.heap.size wx w') := (show ∀ wx, _ from fun wx hb => heldWriteS_any (hW.below hb) (by omega) (by omega))
  have C3' : Hid (∀ wx, Below w.heap.size w wx → Calls Try.prog 91 #[.slice sa n2 sc, .int .i64 (1 + n0 + 2 * n1)] wx fun e w' => e = .returned (.int .i64 (1 + n0 + 2 * n1 + 2 * n2)) ∧ Below wx.heap.size wx w') := (show ∀ wx, _ from fun wx hb => heldSaidS_any (hS.below hb) (by omega) (by omega))
  clear hN hW hS
  have z1 : ¬ (1 + (n0 : Int) < 0) := by omega
  have z1' : 0 ≤ 1 + (n0 : Int) := by omega
  have z2 : ¬ (1 + (n0 : Int) + 2 * n1 < 0) := by omega
  have z2' : 0 ≤ 1 + (n0 : Int) + 2 * n1 := by omega
  have z3 : ¬ (1 + (n0 : Int) + 2 * n1 + 2 * n2 < 0) := by omega
  have z3' : 0 ≤ 1 + (n0 : Int) + 2 * n1 + 2 * n2 := by omega
  have G := C3.new w (.slice na n0 nc) (.slice wa n1 wc) (.slice sa n2 sc) 47
  have HG : Hid _ := G
  clear G
  go_enter Try.func52, Try.ntmps52
  go_wp2_with fail
  go_at_call 55
  refine Calls.mono C1.out ?_; rintro e w1 ⟨rfl, hb1⟩
  have B1 : Below w.heap.size w w1 := Below.then A hb1 (by simp)
  have G1 := C3.below HG.out hb1
  have HG1 : Hid _ := G1
  clear hb1 A C1 HG
  obtain ⟨⟨x0, x1, x2⟩, -⟩ := G1
  go_wp2_with fail
  go_at_call 61; refine (C2.out _ B1).mono ?_; rintro e w2 ⟨rfl, hb2⟩
  have B2 : Below w.heap.size w w2 := Below.then B1 hb2 B1.size
  have G2 := C3.below HG1.out hb2
  clear hb2 B1 HG1 x0 x1 x2
  obtain ⟨⟨x0, x1, x2⟩, -⟩ := G2
  go_wp2_with fail
  go_at_call 91; refine (C3'.out _ B2).mono ?_; rintro e w3 ⟨rfl, hb3⟩
  have B3 : Below w.heap.size w w3 := Below.then B2 hb3 B2.size
  clear hb3 B2 x0 x1 x2
  go_wp2
  go_ret
  exact ⟨rfl, B3⟩

end Go.Proofs.Ytfhlkehhoanpaaa

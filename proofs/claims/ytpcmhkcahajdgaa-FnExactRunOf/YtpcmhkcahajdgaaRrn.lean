/- What came of a program: its size, laid anew, compared, marked and held. -/
import Derived.Test.YtpcmhkcahajdgaaMrw
namespace Go.Proofs.Ytpcmhkcahajdgaa
open Go.RowKit
set_option linter.unusedSimpArgs false
set_option linter.unusedVariables false
attribute [local go_sem] World.cell?_alloc_some

/-- Three cells of one block, that may be written. -/
def C3 (w : World) (b : Nat) (v0 v1 v2 : Value) : Prop :=
  (w.cell? ⟨b, 0, none⟩ = some v0 ∧ w.cell? ⟨b, 1, none⟩ = some v1 ∧ w.cell? ⟨b, 2, none⟩ = some v2) ∧ w.frozen? ⟨b, 0, none⟩ = false ∧ w.frozen? ⟨b, 1, none⟩ = false ∧ w.frozen? ⟨b, 2, none⟩ = false
theorem C3.frame {w w' : World} {b : Nat} {v0 v1 v2 : Value} (h : C3 w b v0 v1 v2) (hb : w'.heap[b]? = w.heap[b]?) : C3 w' b v0 v1 v2 := by
  obtain ⟨⟨c0, c1, c2⟩, f0, f1, f2⟩ := h
  have hc : ∀ o, w'.cell? ⟨b, o, none⟩ = w.cell? ⟨b, o, none⟩ := fun o => World.cell?_of_block hb
  have hf : ∀ o, w'.frozen? ⟨b, o, none⟩ = w.frozen? ⟨b, o, none⟩ := fun o => World.frozen?_of_block (a := ⟨b, o, none⟩) hb
  exact ⟨⟨(hc 0).trans c0, (hc 1).trans c1, (hc 2).trans c2⟩, (hf 0).trans f0, (hf 1).trans f1, (hf 2).trans f2⟩
theorem C3.lt {w : World} {b : Nat} {v0 v1 v2 : Value} (h : C3 w b v0 v1 v2) : b < w.heap.size := World.block_lt_of_cell? w _ h.1.1
theorem C3.below {w w' : World} {b : Nat} {v0 v1 v2 : Value} (h : C3 w b v0 v1 v2) (hb : Below w.heap.size w w') : C3 w' b v0 v1 v2 := h.frame (hb.block b h.lt)
theorem C3.new (w : World) (v0 v1 v2 : Value) (T : TypeId) : C3 (w.alloc (.cells #[v0, v1, v2] T)) w.heap.size v0 v1 v2 := by
  refine ⟨⟨?_, ?_, ?_⟩, ?_, ?_, ?_⟩ <;> simp
theorem C3.far {w : World} {b : Nat} {v0 v1 v2 : Value} (h : C3 w b v0 v1 v2) {a : Addr} (ha : a.block ≠ b) (u : Value) : C3 (w.setCell a u) b v0 v1 v2 := h.frame (Below.heap_setCell _ _ _ _ (fun e => ha e.symm))
theorem C3.set0 {w : World} {b : Nat} {v0 v1 v2 : Value} (u : Value) (h : C3 w b v0 v1 v2) : C3 (w.setCell ⟨b, 0, none⟩ u) b u v1 v2 := by
  obtain ⟨⟨c0, c1, c2⟩, f⟩ := h
  refine ⟨⟨?_, ?_, ?_⟩, by simpa only [World.frozen?_setCell] using f⟩
  · exact World.cell?_setCell_same _ _ _ c0
  · exact (World.cell?_setCell_other _ _ _ _ (by simp)).trans c1
  · exact (World.cell?_setCell_other _ _ _ _ (by simp)).trans c2
theorem C3.set1 {w : World} {b : Nat} {v0 v1 v2 : Value} (u : Value) (h : C3 w b v0 v1 v2) : C3 (w.setCell ⟨b, 1, none⟩ u) b v0 u v2 := by
  obtain ⟨⟨c0, c1, c2⟩, f⟩ := h
  refine ⟨⟨?_, ?_, ?_⟩, by simpa only [World.frozen?_setCell] using f⟩
  · exact (World.cell?_setCell_other _ _ _ _ (by simp)).trans c0
  · exact World.cell?_setCell_same _ _ _ c1
  · exact (World.cell?_setCell_other _ _ _ _ (by simp)).trans c2
theorem C3.set2 {w : World} {b : Nat} {v0 v1 v2 : Value} (u : Value) (h : C3 w b v0 v1 v2) : C3 (w.setCell ⟨b, 2, none⟩ u) b v0 v1 u := by
  obtain ⟨⟨c0, c1, c2⟩, f⟩ := h
  refine ⟨⟨?_, ?_, ?_⟩, by simpa only [World.frozen?_setCell] using f⟩
  · exact (World.cell?_setCell_other _ _ _ _ (by simp)).trans c0
  · exact (World.cell?_setCell_other _ _ _ _ (by simp)).trans c1
  · exact World.cell?_setCell_same _ _ _ c2

/-- What came of a program, in blocks of its own. -/
structure ROwn (w : World) (nv wv sv : Value) (zs : List Int) (ws ss : List (Int × Int)) (b0 b1 b2 : List Nat) : Prop where
  n : GOwn (Value.int .i64) w nv zs b0
  wr : LOwn w wv ws b1
  sd : LOwn w sv ss b2
theorem ROwn.frame {w w' : World} {nv wv sv : Value} {zs : List Int} {ws ss : List (Int × Int)} {b0 b1 b2 : List Nat} (h : ROwn w nv wv sv zs ws ss b0 b1 b2) (hb : ∀ b ∈ b0 ++ b1 ++ b2, w'.heap[b]? = w.heap[b]?) : ROwn w' nv wv sv zs ws ss b0 b1 b2 :=
  ⟨GOwn.frame (fun b h => hb b (by simp [h])) h.n, LOwn.frame (fun b h => hb b (by simp [h])) h.wr, LOwn.frame (fun b h => hb b (by simp [h])) h.sd⟩
/-- A block is in one of them alone. -/
def Apart (b0 b1 b2 : List Nat) : Prop := (∀ b ∈ b0, b ∉ b1 ∧ b ∉ b2) ∧ ∀ b ∈ b1, b ∉ b2

theorem eqRun_same {nv wv sv nv' wv' sv' : Value} {zs : List Int} {ws ss : List (Int × Int)} {w : World} (hN : GRep (Value.int .i64) w nv zs) (hW : LRep w wv ws) (hS : LRep w sv ss) (hN' : GRep (Value.int .i64) w nv' zs) (hW' : LRep w wv' ws) (hS' : LRep w sv' ss) :
    Calls Try.prog 58 #[.agg #[nv, wv, sv], .agg #[nv', wv', sv']] w fun e w' => e = .returned (.bool true) ∧ Below w.heap.size w w' := by
  have A : Below w.heap.size w ((w.alloc (.cells #[nv, wv, sv] 47)).alloc (.cells #[nv', wv', sv'] 47)) := ((Below.refl _ _).alloc (Nat.le_refl _) _).alloc (by simp) _
  have C1 : Hid _ := eqIntS_same (hN.below A) (hN'.below A)
  have C2 : Hid (∀ wx, Below w.heap.size w wx → Calls Try.prog 95 #[wv, wv'] wx fun e w' => e = .returned (.bool true) ∧ Below wx.heap.size wx w') := (show ∀ wx, _ from fun wx hb => eqWriteS_same (hW.below hb) (hW'.below hb))
  have C3' : Hid (∀ wx, Below w.heap.size w wx → Calls Try.prog 96 #[sv, sv'] wx fun e w' => e = .returned (.bool true) ∧ Below wx.heap.size wx w') := (show ∀ wx, _ from fun wx hb => eqSaidS_same (hS.below hb) (hS'.below hb))
  obtain ⟨na, nc, rfl, -⟩ := hN
  obtain ⟨wa, wc, rfl, -⟩ := hW
  obtain ⟨sa, sc, rfl, -⟩ := hS
  obtain ⟨na', nc', rfl, -⟩ := hN'
  obtain ⟨wa', wc', rfl, -⟩ := hW'
  obtain ⟨sa', sc', rfl, -⟩ := hS'
  have g1 : Hid _ := (C3.new w (.slice na zs.length nc) (.slice wa ws.length wc) (.slice sa ss.length sc) 47).below ((Below.refl _ _).alloc (Nat.le_refl _) (.cells #[.slice na' zs.length nc', .slice wa' ws.length wc', .slice sa' ss.length sc'] 47))
  have g2 : Hid _ := C3.new (w.alloc (.cells #[.slice na zs.length nc, .slice wa ws.length wc, .slice sa ss.length sc] 47)) (.slice na' zs.length nc') (.slice wa' ws.length wc') (.slice sa' ss.length sc') 47
  go_enter Try.func58, Try.ntmps58
  go_wp2_with fail
  go_at_call 59; refine Calls.mono C1.out ?_; rintro e w1 ⟨rfl, hb1⟩
  have B1 : Below w.heap.size w w1 := Below.then A hb1 (by simp; omega)
  have G1 := C3.below g1.out hb1
  have G2 := C3.below g2.out hb1
  rw [show (w.alloc (.cells #[.slice na zs.length nc, .slice wa ws.length wc, .slice sa ss.length sc] 47)).heap.size = w.heap.size + 1 by simp] at G2
  have K1 : Hid _ := G1
  have K2 : Hid _ := G2
  clear hb1 A C1 g1 g2
  obtain ⟨⟨x0, x1, x2⟩, -⟩ := G1
  obtain ⟨⟨y0, y1, y2⟩, -⟩ := G2
  go_wp2_with fail
  go_at_call 95; refine (C2.out _ B1).mono ?_; rintro e w2 ⟨rfl, hb2⟩
  have B2 : Below w.heap.size w w2 := Below.then B1 hb2 B1.size
  have G1 := C3.below K1.out hb2
  have G2 := C3.below K2.out hb2
  clear hb2 B1 K1 K2 x0 x1 x2 y0 y1 y2
  obtain ⟨⟨x0, x1, x2⟩, -⟩ := G1
  obtain ⟨⟨y0, y1, y2⟩, -⟩ := G2
  go_wp2_with fail
  go_at_call 96; refine (C3'.out _ B2).mono ?_; rintro e w3 ⟨rfl, hb3⟩
  have B3 : Below w.heap.size w w3 := Below.then B2 hb3 B2.size
  clear hb3 B2 x0 x1 x2 y0 y1 y2
  go_wp2
  go_ret
  exact ⟨rfl, B3⟩

theorem markRun_any {nv wv sv : Value} {zs : List Int} {ws ss : List (Int × Int)} {b0 b1 b2 : List Nat} {w : World} (h : ROwn w nv wv sv zs ws ss b0 b1 b2) (hlt : ∀ b ∈ b0 ++ b1 ++ b2, b < w.heap.size) (ha : Apart b0 b1 b2) (l0 : zs.length ≤ 1048576) (l1 : ws.length ≤ 1048576) (l2 : ss.length ≤ 1048576) :
    Calls Try.prog 61 #[.agg #[nv, wv, sv], .int .i64 1] w fun e w' => e = .returned (.int .i64 (1 + zs.length + 2 * ws.length + 2 * ss.length)) ∧ Fs (b0 ++ b1 ++ b2) w w' ∧ ROwn w' nv wv sv (nf 1 zs.length) (pf (1 + zs.length) ws.length) (pf (1 + zs.length + 2 * ws.length) ss.length) b0 b1 b2 := by
  have A : Below w.heap.size w (w.alloc (.cells #[nv, wv, sv] 47)) := (Below.refl _ _).alloc (Nat.le_refl _) _
  have R := h.frame (w' := w.alloc (.cells #[nv, wv, sv] 47)) (fun b hb => A.block b (hlt b hb))
  have C1 : Hid _ := markIntS_any R.n (k := 1) (by omega) (by omega)
  have HR : Hid _ := R
  obtain ⟨na, nc, rfl, -⟩ := h.n.rep
  obtain ⟨wa, wc, rfl, -⟩ := h.wr.rep
  obtain ⟨sa, sc, rfl, -⟩ := h.sd.rep
  have G := C3.new w (.slice na zs.length nc) (.slice wa ws.length wc) (.slice sa ss.length sc) 47
  have HG : Hid _ := G
  have n0 : w.heap.size ∉ b0 := fun h => by have := hlt w.heap.size (by simp [h]); omega
  have n1 : w.heap.size ∉ b1 := fun h => by have := hlt w.heap.size (by simp [h]); omega
  clear h R G
  go_enter Try.func61, Try.ntmps61
  go_wp2_with fail
  go_at_call 60; refine Calls.mono C1.out ?_
  rintro e w1 ⟨rfl, fr1, m1⟩
  have G1 := C3.frame HG.out (fr1.block w.heap.size n0)
  have W1 : LOwn w1 (.slice wa ws.length wc) ws b1 := LOwn.frame (fun b hb => fr1.block b (fun h => (ha.1 b h).1 hb)) HR.out.wr
  have S1 : LOwn w1 (.slice sa ss.length sc) ss b2 := LOwn.frame (fun b hb => fr1.block b (fun h => (ha.1 b h).2 hb)) HR.out.sd
  have C2 : Hid _ := markWriteS_any W1 (k := 1 + zs.length) (by omega) (by omega)
  have HF1 : Hid _ := fr1
  have HM1 : Hid _ := m1
  have HS1 : Hid _ := S1
  have HG1 : Hid _ := G1
  clear fr1 C1 m1 W1 S1 HG HR
  obtain ⟨⟨x0, x1, x2⟩, -⟩ := G1
  go_wp2_with fail
  go_at_call 97; refine Calls.mono C2.out ?_
  rintro e w2 ⟨rfl, fr2, m2⟩
  have G2 := C3.frame HG1.out (fr2.block w.heap.size n1)
  have M1 : GOwn (Value.int .i64) w2 (.slice na zs.length nc) (nf 1 zs.length) b0 := GOwn.frame (fun b hb => fr2.block b (fun h => (ha.1 b hb).1 h)) HM1.out
  have S2 : LOwn w2 (.slice sa ss.length sc) ss b2 := LOwn.frame (fun b hb => fr2.block b (fun h => ha.2 b h hb)) HS1.out
  have C3' : Hid _ := markSaidS_any S2 (k := 1 + zs.length + 2 * ws.length) (by omega) (by omega)
  have HF2 : Hid _ := fr2
  have HM1' : Hid _ := M1
  have HM2 : Hid _ := m2
  clear fr2 C2 m2 M1 S2 HG1 HM1 HS1 x0 x1 x2
  obtain ⟨⟨x0, x1, x2⟩, -⟩ := G2
  go_wp2_with fail
  go_at_call 98; refine Calls.mono C3'.out ?_
  rintro e w3 ⟨rfl, fr3, m3⟩
  have HF3 : Hid _ := fr3
  have HM3 : Hid _ := m3
  clear x0 x1 x2 C3' fr3 m3
  go_wp2
  go_ret
  refine ⟨rfl, (((Fs.of_below A).trans ((Fs.of_fr HF1.out).mono (fun x hx => by simp [hx]))).trans ((Fs.of_fr HF2.out).mono (fun x hx => by simp [hx]))).trans ((Fs.of_fr HF3.out).mono (fun x hx => by simp [hx])), ?_, ?_, HM3.out⟩
  · exact GOwn.frame (fun b hb => HF3.out.block b (fun h => (ha.1 b hb).2 h)) HM1'.out
  · exact LOwn.frame (fun b hb => HF3.out.block b (fun h => ha.2 b hb h)) HM2.out

theorem heldRun_any {nv wv sv : Value} {n0 n1 n2 : Nat} {w : World} (hN : GRep (Value.int .i64) w nv (nf 1 n0)) (hW : LRep w wv (pf (1 + n0) n1)) (hS : LRep w sv (pf (1 + n0 + 2 * n1) n2)) (l0 : n0 ≤ 1048576) (l1 : n1 ≤ 1048576) (l2 : n2 ≤ 1048576) :
    Calls Try.prog 62 #[.agg #[nv, wv, sv], .int .i64 1] w fun e w' => e = .returned (.int .i64 (1 + n0 + 2 * n1 + 2 * n2)) ∧ Below w.heap.size w w' := by
  obtain ⟨na, nc, hv0, -⟩ := id hN
  obtain ⟨wa, wc, hv1, -⟩ := id hW
  obtain ⟨sa, sc, hv2, -⟩ := id hS
  rw [show (nf 1 n0).length = n0 by simp [nf]] at hv0
  rw [show (pf (1 + n0) n1).length = n1 by simp [pf]] at hv1
  rw [show (pf (1 + n0 + 2 * n1) n2).length = n2 by simp [pf]] at hv2
  subst hv0 hv1 hv2
  have A : Below w.heap.size w (w.alloc (.cells #[.slice na n0 nc, .slice wa n1 wc, .slice sa n2 sc] 47)) := (Below.refl _ _).alloc (Nat.le_refl _) _
  have C1 : Hid _ := heldIntS_any (hN.below A) (by omega) (by omega)
  have C2 : Hid (∀ wx, Below w.heap.size w wx → Calls Try.prog 100 #[.slice wa n1 wc, .int .i64 (1 + n0)] wx fun e w' => e = .returned (.int .i64 (1 + n0 + 2 * n1)) ∧ Below wx.heap.size wx w') := (show ∀ wx, _ from fun wx hb => heldWriteS_any (hW.below hb) (by omega) (by omega))
  have C3' : Hid (∀ wx, Below w.heap.size w wx → Calls Try.prog 101 #[.slice sa n2 sc, .int .i64 (1 + n0 + 2 * n1)] wx fun e w' => e = .returned (.int .i64 (1 + n0 + 2 * n1 + 2 * n2)) ∧ Below wx.heap.size wx w') := (show ∀ wx, _ from fun wx hb => heldSaidS_any (hS.below hb) (by omega) (by omega))
  clear hN hW hS
  have z1 : ¬ (1 + (n0 : Int) < 0) := by omega
  have z1' : 0 ≤ 1 + (n0 : Int) := by omega
  have z2 : ¬ (1 + (n0 : Int) + 2 * n1 < 0) := by omega
  have z2' : 0 ≤ 1 + (n0 : Int) + 2 * n1 := by omega
  have z3 : ¬ (1 + (n0 : Int) + 2 * n1 + 2 * n2 < 0) := by omega
  have z3' : 0 ≤ 1 + (n0 : Int) + 2 * n1 + 2 * n2 := by omega
  have G := C3.new w (.slice na n0 nc) (.slice wa n1 wc) (.slice sa n2 sc) 47
  have HG : Hid _ := G
  clear G
  go_enter Try.func62, Try.ntmps62
  go_wp2_with fail
  go_at_call 99
  refine Calls.mono C1.out ?_; rintro e w1 ⟨rfl, hb1⟩
  have B1 : Below w.heap.size w w1 := Below.then A hb1 (by simp)
  have G1 := C3.below HG.out hb1
  have HG1 : Hid _ := G1
  clear hb1 A C1 HG
  obtain ⟨⟨x0, x1, x2⟩, -⟩ := G1
  go_wp2_with fail
  go_at_call 100; refine (C2.out _ B1).mono ?_; rintro e w2 ⟨rfl, hb2⟩
  have B2 : Below w.heap.size w w2 := Below.then B1 hb2 B1.size
  have G2 := C3.below HG1.out hb2
  clear hb2 B1 HG1 x0 x1 x2
  obtain ⟨⟨x0, x1, x2⟩, -⟩ := G2
  go_wp2_with fail
  go_at_call 101; refine (C3'.out _ B2).mono ?_; rintro e w3 ⟨rfl, hb3⟩
  have B3 : Below w.heap.size w w3 := Below.then B2 hb3 B2.size
  clear hb3 B2 x0 x1 x2
  go_wp2
  go_ret
  exact ⟨rfl, B3⟩

end Go.Proofs.Ytpcmhkcahajdgaa

/- The first two rows of which something holds, by the model. -/
import Derived.Test.YthcgdhlemieboaaGreatDoorSnLea
import Derived.Test.YthcgdhlemieboaaGreatDoorSnSrn
import Derived.Test.YthcgdhlemieboaaGreatDoorSnRtx
import Derived.Deep.RegionHeld3
import Derived.Deep.DrawnRows
namespace Go.Proofs.YthcgdhlemieboaaGreatDoor
open Go.RowKit
set_option linter.unusedSimpArgs false
set_option linter.unusedVariables false
attribute [local go_sem] World.cell?_alloc_some

theorem R3.repsL {B : Nat} {w : World} {a b c : Value} {s : RSt} (h : R3 B w a b c s) : GRep (Value.int .i64) w a s.n ∧ LRep w b s.ws ∧ LRep w c s.ss := by
  obtain ⟨bs, ho, _⟩ := row_gown h.n
  obtain ⟨bs1, h1, _⟩ := row_pown h.ws
  obtain ⟨bs2, h2, _⟩ := row_pown h.ss
  exact ⟨ho.rep, h1.rep, h2.rep⟩
def FirstP (P : Nat → Nat → Bool) (N : Nat) : Option (Nat × Nat) → Prop
  | none => ∀ i, i < N → ∀ k, k < i → P k i = false
  | some (k, i) => i < N ∧ k < i ∧ P k i = true ∧ (∀ i', i' < i → ∀ k', k' < i' → P k' i' = false) ∧ ∀ k', k' < k → P k' i = false
theorem FirstP.same {P : Nat → Nat → Bool} {N : Nat} : ∀ {o o' : Option (Nat × Nat)}, FirstP P N o → FirstP P N o' → o = o'
  | none, none, _, _ => rfl
  | none, some (k, i), h, ⟨h1, h2, h3, _⟩ => by rw [h i h1 k h2] at h3; cases h3
  | some (k, i), none, ⟨h1, h2, h3, _⟩, h => by rw [h i h1 k h2] at h3; cases h3
  | some (k, i), some (k', i'), ⟨h1, h2, h3, h4, h5⟩, ⟨g1, g2, g3, g4, g5⟩ => by
    have e : i = i' := by
      rcases Nat.lt_trichotomy i i' with h | h | h
      · rw [g4 i h k h2] at h3; cases h3
      · exact h
      · rw [h4 i' h k' g2] at g3; cases g3
    subst e
    have e : k = k' := by
      rcases Nat.lt_trichotomy k k' with h | h | h
      · rw [g5 k h] at h3; cases h3
      · exact h
      · rw [h5 k' h] at g3; cases g3
    subst e; rfl
def rowsO (n : Nat) : Option (Nat × Nat) → List Int × List Int
  | none => ([], [])
  | some (k, i) => (bitsL k n, bitsL i n)
def leakP (ls : List (Int × Int)) (d : Nat) (T : Tr d) (ks : List Bool) (h : Int) (k i : Nat) : Bool :=
  sameB ks (bitsL k ls.length) (bitsL i ls.length) && !decide (toH h (runS ls d T (bitsL k ls.length)).ss = toH h (runS ls d T (bitsL i ls.length)).ss)
def swayP (ls : List (Int × Int)) (d : Nat) (T : Tr d) (ks : List Bool) (k i : Nat) : Bool :=
  sameB ks (bitsL k ls.length) (bitsL i ls.length) && !decide (setV ks (runS ls d T (bitsL k ls.length)).ws = setV ks (runS ls d T (bitsL i ls.length)).ws)
def FdPost (w : World) (P : Nat → Nat → Bool) (n : Nat) (e : Ending) (w' : World) : Prop := ∃ (o : Option (Nat × Nat)) (va vb : Value), FirstP P (2 ^ n) o ∧ e = .returned (.tuple #[va, vb, .bool o.isSome]) ∧ Below w.heap.size w w' ∧ GRep (Value.int .i64) w' va (rowsO n o).1 ∧ GRep (Value.int .i64) w' vb (rowsO n o).2
theorem told_fewL {ls : List (Int × Int)} {d : Nat} {T : Tr d} {ns : List Int} : (runS ls d T ns).ss.length ≤ 8 ∧ (runS ls d T ns).ws.length ≤ 8 := by
  unfold runS
  split
  · rename_i h
    unfold numsB progB at h
    simp only [Bool.and_eq_true_iff, decide_eq_true_eq] at h
    have q := (doT_ok d T ls.length 3 ⟨ns, [], []⟩ h.1.2.2.1 h.2.1 h.2.2).2.2
    have := h.1.2.2.2
    simp at q
    omega
  · simp
theorem grep_nil (w : World) (a : Option Addr) (c : Nat) (hc : c ≤ maxLen) : GRep (Value.int .i64) w (.slice a 0 c) [] := ⟨a, c, rfl, Nat.zero_le _, hc, fun q hq => absurd hq (by simp)⟩

set_option maxHeartbeats 8000000 in
set_option maxRecDepth 20000 in
theorem l12FindF_any {d : Nat} {T : Tr d} {lv sv kv : Value} {ls : List (Int × Int)} {ks : List Bool} (h : Int) {w : World} (hL : LRep w lv ls) (hR : Rep w d sv T) (hp : ls.length ≤ 4) (hcn : cnt d T ≤ 1048576) (hK : GRep Value.bool w kv ks) (hkl : ks.length = ls.length) :
    Calls Tryz.prog 19 #[.agg #[lv, sv], kv, .int .i64 h, .bool false] w (FdPost w (swayP ls d T ks) ls.length) := by
  obtain ⟨la, lc, rfl, -⟩ := id hL
  obtain ⟨sa, sc, rfl⟩ := id hR.slice
  obtain ⟨ka, kc, rfl, -⟩ := id hK
  have A2 : Below w.heap.size w (w.alloc (.cells #[.slice la ls.length lc, .slice sa (ln d T) sc] 26)) := (Below.refl _ _).alloc (Nat.le_refl _) _
  have HX : Hid (∀ wz, Below w.heap.size w wz → LRep wz (.slice la ls.length lc) ls ∧ Rep wz d (.slice sa (ln d T) sc) T ∧ GRep Value.bool wz (.slice ka ks.length kc) ks) := (show ∀ wz, _ from fun wz hb => ⟨hL.below hb, hR.below hb, hK.below hb⟩)
  obtain ⟨w2, hw2⟩ : ∃ W, w.alloc (.cells #[.slice la ls.length lc, .slice sa (ln d T) sc] 26) = W := ⟨_, rfl⟩
  have HPB : Hid (∀ wz, Below w2.heap.size w2 wz → wz.cell? ⟨w.heap.size, 0, none⟩ = some (.slice la ls.length lc) ∧ wz.cell? ⟨w.heap.size, 1, none⟩ = some (.slice sa (ln d T) sc)) := (show ∀ wz, _ from fun wz hb => ⟨cell_later hb (by rw [← hw2]; simp), cell_later hb (by rw [← hw2]; simp)⟩)
  rw [hw2] at A2
  have HW2 : Hid _ := hw2
  have HA2 : Hid (Below w.heap.size w w2) := A2
  have HKL : Hid (ks.length = ls.length) := hkl
  have B22 : Hid (Below w2.heap.size w2 w2) := Below.refl _ _
  clear hL hR hK A2 hw2 hkl
  obtain ⟨N, hN⟩ : ∃ N, 2 ^ ls.length = N := ⟨_, rfl⟩
  have h16 : N ≤ 16 := by rw [← hN]; exact Nat.le_trans (Nat.pow_le_pow_right (by omega) hp) (by decide)
  have hw64 : wrap64 ((2 : Int) ^ ls.length) = (N : Int) := by
    have e : ((2 : Int) ^ ls.length) = (N : Int) := by rw [← hN]; simp
    rw [e]
    unfold wrap64; omega
  have HN : Hid (2 ^ ls.length = N) := hN
  have HPL : Hid (ls.length ≤ 4) := hp
  clear hN
  go_enter Tryz.func19, Tryz.ntmps19
  go_wp2_with fail
  rw [HW2.out]
  go_loopw [12] (fun j wr => ∃ (i : Nat), i ≤ N ∧ j = .int .i64 i ∧ Below w2.heap.size w2 wr ∧ Hid (∀ i', i' < i → ∀ k', k' < i' → (swayP ls d T ks) k' i' = false)) (fun j _ => N - (intOf j).toNat)
  case atStart => exact ⟨0, Nat.zero_le _, rfl, B22.out, (show ∀ i', i' < 0 → _ from fun i' h => by omega)⟩
  case round =>
    obtain ⟨i, hi, rfl, hbr, HI⟩ := hrel
    have HBR : Hid (Below w2.heap.size w2 wr) := hbr
    clear hbr
    by_cases hlt : i < N
    · have i1' : (i : Int) < (N : Int) := by omega
      go_wp2_with fail
      rw [hw64]
      clear hw64
      go_loopw [13] (fun j wr => ∃ (k : Nat), k ≤ i ∧ j = .int .i64 k ∧ Below w2.heap.size w2 wr ∧ Hid (∀ k', k' < k → (swayP ls d T ks) k' i = false)) (fun j _ => i - (intOf j).toNat)
      case atStart => exact ⟨0, Nat.zero_le _, rfl, HBR.out, (show ∀ k', k' < 0 → _ from fun k' h => by omega)⟩
      case round =>
        obtain ⟨k, hk, rfl, hbr, HJ⟩ := hrel
        have HBS : Hid (Below w2.heap.size w2 wr) := hbr
        have HW : Hid (∀ wz, Below w2.heap.size w2 wz → Below w.heap.size w wz) := (show ∀ wz, _ from fun wz hb => Below.then HA2.out hb HA2.out.size)
        clear hbr
        by_cases hkl : k < i
        · have k1' : (k : Int) < (i : Int) := by omega
          have KA : Hid _ := l12Row_any k ls.length (by omega) (by omega) wr
          go_wp2_with fail
          (try go_at_call 42); refine Calls.mono KA.out ?_
          rintro e wa ⟨ga, ca, rfl, hba, -, hGa⟩
          have HBA : Hid (Below w2.heap.size w2 wa) := Below.then HBS.out hba HBS.out.size
          have HGA : Hid _ := hGa
          have KB : Hid _ := l12Row_any i ls.length (by omega) (by omega) wa
          clear hba hGa KA
          go_wp2_with fail
          (try go_at_call 42); refine Calls.mono KB.out ?_
          rintro e wb ⟨gb, cb, rfl, hbb, -, hGb⟩
          have HBB : Hid (Below w2.heap.size w2 wb) := Below.then HBA.out hbb HBA.out.size
          have HGW : Hid (∀ wz, Below wb.heap.size wb wz → GRep (Value.int .i64) wz (.slice (some ⟨ga, 0, none⟩) ls.length ca) (bitsL k ls.length) ∧ GRep (Value.int .i64) wz (.slice (some ⟨gb, 0, none⟩) ls.length cb) (bitsL i ls.length)) := (show ∀ wz, _ from fun wz hb => ⟨GRep.below hb (GRep.below hbb HGA.out), GRep.below hb hGb⟩)
          obtain ⟨sb, hsb⟩ : ∃ x, sameB ks (bitsL k ls.length) (bitsL i ls.length) = x := ⟨_, rfl⟩
          have KS : Hid _ := l12Same_any (GRep.below hbb HGA.out) hGb (HX.out wb (HW.out wb HBB.out)).2.2 (by rw [bitsL_len, HKL.out]; exact Nat.le_refl _) (by rw [bitsL_len, HKL.out]; exact Nat.le_refl _)
          rw [hsb] at KS
          have HSB : Hid _ := hsb
          clear hbb hGb KB HGA hsb
          go_wp2_with fail
          (try go_at_call 43); refine Calls.mono KS.out ?_
          rintro e wc ⟨rfl, hbc⟩
          have HBC : Hid (Below w2.heap.size w2 wc) := Below.then HBB.out hbc HBB.out.size
          have Hbc : Hid (Below wb.heap.size wb wc) := hbc
          clear hbc KS
          cases sb
          · have HF : Hid (∀ k', k' < k + 1 → (swayP ls d T ks) k' i = false) := (show ∀ k', k' < k + 1 → _ from fun k' hk' => by
              by_cases e : k' = k
              · subst e; unfold swayP; rw [HSB.out]; rfl
              · exact HJ.out k' (by omega))
            go_wp2
            exact ⟨⟨k + 1, by omega, by simp, HBC.out, HF.out⟩, by simp [intOf]; omega⟩
          obtain ⟨rx, hrx⟩ : ∃ r, runS ls d T (bitsL k ls.length) = r := ⟨_, rfl⟩
          obtain ⟨ry, hry⟩ : ∃ r, runS ls d T (bitsL i ls.length) = r := ⟨_, rfl⟩
          have fx := told_fewL (ls := ls) (d := d) (T := T) (ns := bitsL k ls.length)
          have fy := told_fewL (ls := ls) (d := d) (T := T) (ns := bitsL i ls.length)
          rw [hrx] at fx
          rw [hry] at fy
          have HFX : Hid _ := fx
          have HFY : Hid _ := fy
          have HRX : Hid _ := hrx
          have HRY : Hid _ := hry
          have KX : Hid (Calls Tryz.prog 44 #[.agg #[.slice la ls.length lc, .slice sa (ln d T) sc], .slice (some ⟨ga, 0, none⟩) ls.length ca] wc _) := (show Calls _ _ _ _ _ from by
            have := sRunOf_any (zs := bitsL k ls.length) (nc := ca) (ad := ⟨ga, 0, none⟩) (HX.out wc (HW.out wc HBC.out)).1 (HX.out wc (HW.out wc HBC.out)).2.1 hcn (by rw [bitsL_len]; exact (HGW.out wc Hbc.out).1)
            rw [bitsL_len, hrx] at this
            exact this)
          generalize numsB ls d T (bitsL k ls.length) = nbx at KX
          clear fx fy hrx hry
          obtain ⟨p0, p1⟩ := HPB.out wc HBC.out
          go_wp2_with fail
          clear p0 p1
          (try go_at_call 44); refine Calls.mono KX.out ?_
          rintro e wd ⟨vxa, vxb, vxc, rfl, hb_wd, r_x⟩
          obtain ⟨xa, xac, ha⟩ := rowg_slice r_x.n
          obtain ⟨xb, xbc, hb⟩ := rowg_slice r_x.ws
          obtain ⟨xc, xcc, hc⟩ := rowg_slice r_x.ss
          subst ha hb hc
          have A_we : Below wd.heap.size wd (wd.alloc (.cells #[.slice xa rx.n.length xac, .slice xb rx.ws.length xbc, .slice xc rx.ss.length xcc] 49)) := (Below.refl _ _).alloc (Nat.le_refl _) _
          have G_we := C3.new wd (.slice xa rx.n.length xac) (.slice xb rx.ws.length xbc) (.slice xc rx.ss.length xcc) 49
          obtain ⟨we, hwwe⟩ : ∃ W, wd.alloc (.cells #[.slice xa rx.n.length xac, .slice xb rx.ws.length xbc, .slice xc rx.ss.length xcc] 49) = W := ⟨_, rfl⟩
          rw [hwwe] at A_we G_we
          have HWwe : Hid _ := hwwe
          obtain ⟨v0, v1, v2⟩ := G_we.1
          have HRx : Hid (∀ wz, Below we.heap.size we wz → (GRep (Value.int .i64) wz (.slice xa rx.n.length xac) rx.n ∧ LRep wz (.slice xb rx.ws.length xbc) rx.ws ∧ LRep wz (.slice xc rx.ss.length xcc) rx.ss) ∧ wz.cell? ⟨wd.heap.size, 0, none⟩ = some (.slice xa rx.n.length xac) ∧ wz.cell? ⟨wd.heap.size, 1, none⟩ = some (.slice xb rx.ws.length xbc) ∧ wz.cell? ⟨wd.heap.size, 2, none⟩ = some (.slice xc rx.ss.length xcc)) := (show ∀ wz, _ from fun wz hb => ⟨⟨(r_x.repsL.1.below A_we).below hb, (r_x.repsL.2.1.below A_we).below hb, (r_x.repsL.2.2.below A_we).below hb⟩, cell_later hb v0, cell_later hb v1, cell_later hb v2⟩)
          have HBd : Hid (Below w2.heap.size w2 wd) := Below.then HBC.out hb_wd HBC.out.size
          have HBe : Hid (Below w2.heap.size w2 we) := Below.then HBd.out A_we HBd.out.size
          have Hbe : Hid (Below wb.heap.size wb we) := Below.then (Below.then Hbc.out hb_wd Hbc.out.size) A_we (Below.then Hbc.out hb_wd Hbc.out.size).size
          have KY : Hid (Calls Tryz.prog 44 #[.agg #[.slice la ls.length lc, .slice sa (ln d T) sc], .slice (some ⟨gb, 0, none⟩) ls.length cb] we _) := (show Calls _ _ _ _ _ from by
            have := sRunOf_any (zs := bitsL i ls.length) (nc := cb) (ad := ⟨gb, 0, none⟩) (HX.out we (HW.out we HBe.out)).1 (HX.out we (HW.out we HBe.out)).2.1 hcn (by rw [bitsL_len]; exact (HGW.out we Hbe.out).2)
            rw [bitsL_len, HRY.out] at this
            exact this)
          generalize numsB ls d T (bitsL i ls.length) = nby at KY
          obtain ⟨p0, p1⟩ := HPB.out wd HBd.out
          clear hwwe A_we G_we hb_wd r_x v0 v1 v2 KX
          go_wp2_with fail
          rw [HWwe.out]
          clear HWwe p0 p1
          (try go_at_call 44); refine Calls.mono KY.out ?_
          rintro e wf ⟨vya, vyb, vyc, rfl, hb_wf, r_y⟩
          obtain ⟨ya, yac, ha⟩ := rowg_slice r_y.n
          obtain ⟨yb, ybc, hb⟩ := rowg_slice r_y.ws
          obtain ⟨yc, ycc, hc⟩ := rowg_slice r_y.ss
          subst ha hb hc
          have A_wS : Below wf.heap.size wf (wf.alloc (.cells #[.slice ya ry.n.length yac, .slice yb ry.ws.length ybc, .slice yc ry.ss.length ycc] 49)) := (Below.refl _ _).alloc (Nat.le_refl _) _
          have G_wS := C3.new wf (.slice ya ry.n.length yac) (.slice yb ry.ws.length ybc) (.slice yc ry.ss.length ycc) 49
          obtain ⟨wS, hwwS⟩ : ∃ W, wf.alloc (.cells #[.slice ya ry.n.length yac, .slice yb ry.ws.length ybc, .slice yc ry.ss.length ycc] 49) = W := ⟨_, rfl⟩
          rw [hwwS] at A_wS G_wS
          have HWwS : Hid _ := hwwS
          obtain ⟨v0, v1, v2⟩ := G_wS.1
          have HRy : Hid (∀ wz, Below wS.heap.size wS wz → (GRep (Value.int .i64) wz (.slice ya ry.n.length yac) ry.n ∧ LRep wz (.slice yb ry.ws.length ybc) ry.ws ∧ LRep wz (.slice yc ry.ss.length ycc) ry.ss) ∧ wz.cell? ⟨wf.heap.size, 0, none⟩ = some (.slice ya ry.n.length yac) ∧ wz.cell? ⟨wf.heap.size, 1, none⟩ = some (.slice yb ry.ws.length ybc) ∧ wz.cell? ⟨wf.heap.size, 2, none⟩ = some (.slice yc ry.ss.length ycc)) := (show ∀ wz, _ from fun wz hb => ⟨⟨(r_y.repsL.1.below A_wS).below hb, (r_y.repsL.2.1.below A_wS).below hb, (r_y.repsL.2.2.below A_wS).below hb⟩, cell_later hb v0, cell_later hb v1, cell_later hb v2⟩)
          have HBf : Hid (Below w2.heap.size w2 wf) := Below.then HBe.out hb_wf HBe.out.size
          have HBS2 : Hid (Below w2.heap.size w2 wS) := Below.then HBf.out A_wS HBf.out.size
          have HeS : Hid (Below we.heap.size we wS) := Below.then hb_wf A_wS hb_wf.size
          have Hbs : Hid (Below wb.heap.size wb wS) := Below.then Hbe.out HeS.out Hbe.out.size
          have Hef : Hid (Below we.heap.size we wf) := hb_wf
          clear hwwS A_wS G_wS hb_wf r_y v0 v1 v2 KY
          obtain ⟨-, x0, x1, x2⟩ := HRx.out wS HeS.out
          obtain ⟨-, y0, y1, y2⟩ := HRy.out wS (Below.refl _ _)
          by_cases hd : setV ks rx.ws = setV ks ry.ws
          · have HF : Hid (∀ k', k' < k + 1 → (swayP ls d T ks) k' i = false) := (show ∀ k', k' < k + 1 → _ from fun k' hk' => by
              by_cases e : k' = k
              · subst e; unfold swayP; rw [HRX.out, HRY.out, decide_eq_true hd]; simp
              · exact HJ.out k' (by omega))
            have HD : Hid _ := hd
            clear hd
            go_wp2_with fail
            rw [HWwS.out]
            clear HWwS
            go_wp2_with fail
            refine wp_region_held (S := (fun wz => Below wS.heap.size wS wz)) (by kernel_rfl) ?_
            change wpAnyH _ _ _ _ _ _ _ _ (World.drew _)
            have hHeld := (Below.refl wS.heap.size wS).drew
            refine' wpAnyH_take (i := 0) (v := _) rfl (by kernel_rfl) (by kernel_rfl) (by kernel_rfl) (fun _ _ _ h => h) (Or.inl ⟨by rfl, ?hy9345⟩) hHeld ?hn9345
            case hy9345 => (intro wz hSw; (try dsimp only at hSw); go_simp; first | done | with_reducible rfl)
            try simp only [nrm, Act.put]
            refine' wpAnyH_take (i := 1) (v := _) rfl (by kernel_rfl) (by kernel_rfl) (by kernel_rfl) (fun _ _ _ h => h) (Or.inl ⟨by rfl, ?hy9346⟩) hHeld ?hn9346
            case hy9346 => (intro wz hSw; (try dsimp only at hSw); go_simp; first | done | with_reducible rfl)
            try simp only [nrm, Act.put]
            refine' wpAnyH_take (i := 2) (v := undef) rfl (by kernel_rfl) (by kernel_rfl) (by kernel_rfl) (fun _ _ _ h => h) (Or.inr ⟨by rfl, rfl⟩) hHeld ?hn9347
            try simp only [nrm, Act.put]
            refine' wpAnyH_take (i := 3) (v := undef) rfl (by kernel_rfl) (by kernel_rfl) (by kernel_rfl) (fun _ _ _ h => h) (Or.inr ⟨by rfl, rfl⟩) hHeld ?hn9348
            try simp only [nrm, Act.put]
            refine' wpAnyH_take (i := 4) (v := undef) rfl (by kernel_rfl) (by kernel_rfl) (by kernel_rfl) (fun _ _ _ h => h) (Or.inr ⟨by rfl, rfl⟩) hHeld ?hn9349
            try simp only [nrm, Act.put]
            refine' wpAnyH_take (i := 5) (v := undef) rfl (by kernel_rfl) (by kernel_rfl) (by kernel_rfl) (fun _ _ _ h => h) (Or.inr ⟨by rfl, rfl⟩) hHeld ?hn9350
            try simp only [nrm, Act.put]
            refine' wpAnyH_take (i := 6) (v := undef) rfl (by kernel_rfl) (by kernel_rfl) (by kernel_rfl) (fun _ _ _ h => h) (Or.inr ⟨by rfl, rfl⟩) hHeld ?hn9351
            try simp only [nrm, Act.put]
            refine' wpAnyH_take (i := 7) (v := undef) rfl (by kernel_rfl) (by kernel_rfl) (by kernel_rfl) (fun _ _ _ h => h) (Or.inr ⟨by rfl, rfl⟩) hHeld ?hn9352
            try simp only [nrm, Act.put]
            refine' wpAnyH_take (i := 8) (v := undef) rfl (by kernel_rfl) (by kernel_rfl) (by kernel_rfl) (fun _ _ _ h => h) (Or.inr ⟨by rfl, rfl⟩) hHeld ?hn9353
            try simp only [nrm, Act.put]
            refine' wpAnyH_take (i := 9) (v := undef) rfl (by kernel_rfl) (by kernel_rfl) (by kernel_rfl) (fun _ _ _ h => h) (Or.inr ⟨by rfl, rfl⟩) hHeld ?hn9354
            try simp only [nrm, Act.put]
            refine' wpAnyH_take (i := 10) (v := _) rfl (by kernel_rfl) (by kernel_rfl) (by kernel_rfl) (fun _ _ _ h => h) (Or.inl ⟨by rfl, ?hy9355⟩) hHeld ?hn9355
            case hy9355 => (intro wz hSw; (try dsimp only at hSw); go_simp; first | done | with_reducible rfl)
            try simp only [nrm, Act.put]
            refine' wpAnyH_take (i := 11) (v := _) rfl (by kernel_rfl) (by kernel_rfl) (by kernel_rfl) (fun _ _ _ h => h) (Or.inl ⟨by rfl, ?hy9356⟩) hHeld ?hn9356
            case hy9356 => (intro wz hSw; (try dsimp only at hSw); go_simp; first | done | with_reducible rfl)
            try simp only [nrm, Act.put]
            refine' wpAnyH_take (i := 12) (v := _) rfl (by kernel_rfl) (by kernel_rfl) (by kernel_rfl) (fun _ _ _ h => h) (Or.inl ⟨by rfl, ?hy9357⟩) hHeld ?hn9357
            case hy9357 => (intro wz hSw; (try dsimp only at hSw); go_simp; first | done | with_reducible rfl)
            try simp only [nrm, Act.put]
            refine' wpAnyH_take (i := 13) (v := _) rfl (by kernel_rfl) (by kernel_rfl) (by kernel_rfl) (fun _ _ _ h => h) (Or.inl ⟨by rfl, ?hy9358⟩) hHeld ?hn9358
            case hy9358 => (intro wz hSw; (try dsimp only at hSw); go_simp; first | done | with_reducible rfl)
            try simp only [nrm, Act.put]
            refine' wpAnyH_take (i := 14) (v := _) rfl (by kernel_rfl) (by kernel_rfl) (by kernel_rfl) (fun _ _ _ h => h) (Or.inl ⟨by rfl, ?hy9359⟩) hHeld ?hn9359
            case hy9359 => (intro wz hSw; (try dsimp only at hSw); go_simp; first | done | with_reducible rfl)
            try simp only [nrm, Act.put]
            refine' wpAnyH_take (i := 15) (v := .agg #[.slice xa rx.n.length xac, .slice xb rx.ws.length xbc, .slice xc rx.ss.length xcc]) rfl (by kernel_rfl) (by kernel_rfl) (by kernel_rfl) (fun _ _ _ h => h) (Or.inl ⟨by rfl, ?hy9360⟩) hHeld ?hn9360
            case hy9360 => (intro wz hSw; have j0 := cell_later hSw x0; have j1 := cell_later hSw x1; have j2 := cell_later hSw x2; go_simp)
            try simp only [nrm, Act.put]
            refine' wpAnyH_take (i := 16) (v := _) rfl (by kernel_rfl) (by kernel_rfl) (by kernel_rfl) (fun _ _ _ h => h) (Or.inl ⟨by rfl, ?hy9361⟩) hHeld ?hn9361
            case hy9361 => (intro wz hSw; (try dsimp only at hSw); go_simp; first | done | with_reducible rfl)
            try simp only [nrm, Act.put]
            refine' wpAnyH_take (i := 18) (v := .agg #[.slice ya ry.n.length yac, .slice yb ry.ws.length ybc, .slice yc ry.ss.length ycc]) rfl (by kernel_rfl) (by kernel_rfl) (by kernel_rfl) (fun _ _ _ h => h) (Or.inl ⟨by rfl, ?hy9362⟩) hHeld ?hn9362
            case hy9362 => (intro wz hSw; have j0 := cell_later hSw y0; have j1 := cell_later hSw y1; have j2 := cell_later hSw y2; go_simp)
            try simp only [nrm, Act.put]
            refine' wpAnyH_take (i := 19) (v := _) rfl (by kernel_rfl) (by kernel_rfl) (by kernel_rfl) (fun _ _ _ h => h) (Or.inl ⟨by rfl, ?hy9363⟩) hHeld ?hn9363
            case hy9363 => (intro wz hSw; (try dsimp only at hSw); go_simp; first | done | with_reducible rfl)
            try simp only [nrm, Act.put]
            refine wpAnyH_ready (rs := [17]) (by kernel_rfl) (by simp) ?_
            refine AllReadyH.cons rfl (fun K hK => ?_) AllReadyH.nil
            go_simp
            refine Calls.mono (sRunSets_any (HRx.out _ (Below.then HeS.out hHeld HeS.out.size)).1.2.1 (HX.out _ (HW.out _ (Below.then HBS2.out hHeld HBS2.out.size))).2.2 (by have := HFX.out; omega)) ?_; rintro e' z1 ⟨tx, bx', rfl, hbx, otx, -⟩; have hK2 := Below.then hHeld hbx hHeld.size; have GX := otx.rep; clear otx
            refine hK.out _ _ (hK2) (fun hHeld => ?_)
            clear hK K
            refine wpAnyH_ready (rs := [20]) (by kernel_rfl) (by simp) ?_
            refine AllReadyH.cons rfl (fun K hK => ?_) AllReadyH.nil
            go_simp
            refine Calls.mono (sRunSets_any (HRy.out _ hHeld).1.2.1 (HX.out _ (HW.out _ (Below.then HBS2.out hHeld HBS2.out.size))).2.2 (by have := HFY.out; omega)) ?_; rintro e' z2 ⟨ty, by', rfl, hbx, oty, -⟩; have hK2 := Below.then hHeld hbx hHeld.size; have GY := oty.rep; replace GX := GX.below hbx; clear oty; obtain ⟨txa, txc, rfl, -⟩ := id GX; obtain ⟨tya, tyc, rfl, -⟩ := id GY
            refine hK.out _ _ (hK2) (fun hHeld => ?_)
            clear hK K
            refine wpAnyH_ready (rs := [21]) (by kernel_rfl) (by simp) ?_
            refine AllReadyH.cons rfl (fun K hK => ?_) AllReadyH.nil
            go_simp
            refine Calls.mono (l12Writes_any GX GY) ?_; rintro e' z3 ⟨rfl, hbx⟩; rw [decide_eq_true HD.out]; have hK2 := Below.then hHeld hbx hHeld.size
            refine hK.out _ _ (hK2) (fun hHeld => ?_)
            clear hK K
            refine' wpAnyH_take (i := 22) (v := _) rfl (by kernel_rfl) (by kernel_rfl) (by kernel_rfl) (fun _ _ _ h => h) (Or.inl ⟨by rfl, ?hy9364⟩) hHeld ?hn9364
            case hy9364 => (intro wz hSw; (try dsimp only at hSw); go_simp; first | done | with_reducible rfl)
            try simp only [nrm, Act.put]
            refine' wpAnyH_take (i := 23) (v := _) rfl (by kernel_rfl) (by kernel_rfl) (by kernel_rfl) (fun _ _ _ h => h) (Or.inl ⟨by rfl, ?hy9365⟩) hHeld ?hn9365
            case hy9365 => (intro wz hSw; (try dsimp only at hSw); go_simp; first | done | with_reducible rfl)
            try simp only [nrm, Act.put]
            refine' wpAnyH_take (i := 24) (v := _) rfl (by kernel_rfl) (by kernel_rfl) (by kernel_rfl) (fun _ _ _ h => h) (Or.inl ⟨by rfl, ?hy9366⟩) hHeld ?hn9366
            case hy9366 => (intro wz hSw; (try dsimp only at hSw); go_simp; first | done | with_reducible rfl)
            try simp only [nrm, Act.put]
            refine wpAnyH_done (by kernel_rfl) ?_ _
            have BF : Hid (Below w2.heap.size w2 z3) := Below.then HBS2.out hHeld HBS2.out.size
            clear hHeld x0 x1 x2 y0 y1 y2 GX GY
            go_wp2
            exact ⟨⟨k + 1, by omega, by simp, BF.out, HF.out⟩, by simp [intOf]; omega⟩
          · have HT : Hid ((swayP ls d T ks) k i = true) := (show (swayP ls d T ks) k i = true by unfold swayP; rw [HSB.out, HRX.out, HRY.out, decide_eq_false hd]; rfl)
            have HD : Hid _ := hd
            clear hd
            go_wp2_with fail
            rw [HWwS.out]
            clear HWwS
            go_wp2_with fail
            refine wp_region_held (S := (fun wz => Below wS.heap.size wS wz)) (by kernel_rfl) ?_
            change wpAnyH _ _ _ _ _ _ _ _ (World.drew _)
            have hHeld := (Below.refl wS.heap.size wS).drew
            refine' wpAnyH_take (i := 0) (v := _) rfl (by kernel_rfl) (by kernel_rfl) (by kernel_rfl) (fun _ _ _ h => h) (Or.inl ⟨by rfl, ?hy9467⟩) hHeld ?hn9467
            case hy9467 => (intro wz hSw; (try dsimp only at hSw); go_simp; first | done | with_reducible rfl)
            try simp only [nrm, Act.put]
            refine' wpAnyH_take (i := 1) (v := _) rfl (by kernel_rfl) (by kernel_rfl) (by kernel_rfl) (fun _ _ _ h => h) (Or.inl ⟨by rfl, ?hy9468⟩) hHeld ?hn9468
            case hy9468 => (intro wz hSw; (try dsimp only at hSw); go_simp; first | done | with_reducible rfl)
            try simp only [nrm, Act.put]
            refine' wpAnyH_take (i := 2) (v := undef) rfl (by kernel_rfl) (by kernel_rfl) (by kernel_rfl) (fun _ _ _ h => h) (Or.inr ⟨by rfl, rfl⟩) hHeld ?hn9469
            try simp only [nrm, Act.put]
            refine' wpAnyH_take (i := 3) (v := undef) rfl (by kernel_rfl) (by kernel_rfl) (by kernel_rfl) (fun _ _ _ h => h) (Or.inr ⟨by rfl, rfl⟩) hHeld ?hn9470
            try simp only [nrm, Act.put]
            refine' wpAnyH_take (i := 4) (v := undef) rfl (by kernel_rfl) (by kernel_rfl) (by kernel_rfl) (fun _ _ _ h => h) (Or.inr ⟨by rfl, rfl⟩) hHeld ?hn9471
            try simp only [nrm, Act.put]
            refine' wpAnyH_take (i := 5) (v := undef) rfl (by kernel_rfl) (by kernel_rfl) (by kernel_rfl) (fun _ _ _ h => h) (Or.inr ⟨by rfl, rfl⟩) hHeld ?hn9472
            try simp only [nrm, Act.put]
            refine' wpAnyH_take (i := 6) (v := undef) rfl (by kernel_rfl) (by kernel_rfl) (by kernel_rfl) (fun _ _ _ h => h) (Or.inr ⟨by rfl, rfl⟩) hHeld ?hn9473
            try simp only [nrm, Act.put]
            refine' wpAnyH_take (i := 7) (v := undef) rfl (by kernel_rfl) (by kernel_rfl) (by kernel_rfl) (fun _ _ _ h => h) (Or.inr ⟨by rfl, rfl⟩) hHeld ?hn9474
            try simp only [nrm, Act.put]
            refine' wpAnyH_take (i := 8) (v := undef) rfl (by kernel_rfl) (by kernel_rfl) (by kernel_rfl) (fun _ _ _ h => h) (Or.inr ⟨by rfl, rfl⟩) hHeld ?hn9475
            try simp only [nrm, Act.put]
            refine' wpAnyH_take (i := 9) (v := undef) rfl (by kernel_rfl) (by kernel_rfl) (by kernel_rfl) (fun _ _ _ h => h) (Or.inr ⟨by rfl, rfl⟩) hHeld ?hn9476
            try simp only [nrm, Act.put]
            refine' wpAnyH_take (i := 10) (v := _) rfl (by kernel_rfl) (by kernel_rfl) (by kernel_rfl) (fun _ _ _ h => h) (Or.inl ⟨by rfl, ?hy9477⟩) hHeld ?hn9477
            case hy9477 => (intro wz hSw; (try dsimp only at hSw); go_simp; first | done | with_reducible rfl)
            try simp only [nrm, Act.put]
            refine' wpAnyH_take (i := 11) (v := _) rfl (by kernel_rfl) (by kernel_rfl) (by kernel_rfl) (fun _ _ _ h => h) (Or.inl ⟨by rfl, ?hy9478⟩) hHeld ?hn9478
            case hy9478 => (intro wz hSw; (try dsimp only at hSw); go_simp; first | done | with_reducible rfl)
            try simp only [nrm, Act.put]
            refine' wpAnyH_take (i := 12) (v := _) rfl (by kernel_rfl) (by kernel_rfl) (by kernel_rfl) (fun _ _ _ h => h) (Or.inl ⟨by rfl, ?hy9479⟩) hHeld ?hn9479
            case hy9479 => (intro wz hSw; (try dsimp only at hSw); go_simp; first | done | with_reducible rfl)
            try simp only [nrm, Act.put]
            refine' wpAnyH_take (i := 13) (v := _) rfl (by kernel_rfl) (by kernel_rfl) (by kernel_rfl) (fun _ _ _ h => h) (Or.inl ⟨by rfl, ?hy9480⟩) hHeld ?hn9480
            case hy9480 => (intro wz hSw; (try dsimp only at hSw); go_simp; first | done | with_reducible rfl)
            try simp only [nrm, Act.put]
            refine' wpAnyH_take (i := 14) (v := _) rfl (by kernel_rfl) (by kernel_rfl) (by kernel_rfl) (fun _ _ _ h => h) (Or.inl ⟨by rfl, ?hy9481⟩) hHeld ?hn9481
            case hy9481 => (intro wz hSw; (try dsimp only at hSw); go_simp; first | done | with_reducible rfl)
            try simp only [nrm, Act.put]
            refine' wpAnyH_take (i := 15) (v := .agg #[.slice xa rx.n.length xac, .slice xb rx.ws.length xbc, .slice xc rx.ss.length xcc]) rfl (by kernel_rfl) (by kernel_rfl) (by kernel_rfl) (fun _ _ _ h => h) (Or.inl ⟨by rfl, ?hy9482⟩) hHeld ?hn9482
            case hy9482 => (intro wz hSw; have j0 := cell_later hSw x0; have j1 := cell_later hSw x1; have j2 := cell_later hSw x2; go_simp)
            try simp only [nrm, Act.put]
            refine' wpAnyH_take (i := 16) (v := _) rfl (by kernel_rfl) (by kernel_rfl) (by kernel_rfl) (fun _ _ _ h => h) (Or.inl ⟨by rfl, ?hy9483⟩) hHeld ?hn9483
            case hy9483 => (intro wz hSw; (try dsimp only at hSw); go_simp; first | done | with_reducible rfl)
            try simp only [nrm, Act.put]
            refine' wpAnyH_take (i := 18) (v := .agg #[.slice ya ry.n.length yac, .slice yb ry.ws.length ybc, .slice yc ry.ss.length ycc]) rfl (by kernel_rfl) (by kernel_rfl) (by kernel_rfl) (fun _ _ _ h => h) (Or.inl ⟨by rfl, ?hy9484⟩) hHeld ?hn9484
            case hy9484 => (intro wz hSw; have j0 := cell_later hSw y0; have j1 := cell_later hSw y1; have j2 := cell_later hSw y2; go_simp)
            try simp only [nrm, Act.put]
            refine' wpAnyH_take (i := 19) (v := _) rfl (by kernel_rfl) (by kernel_rfl) (by kernel_rfl) (fun _ _ _ h => h) (Or.inl ⟨by rfl, ?hy9485⟩) hHeld ?hn9485
            case hy9485 => (intro wz hSw; (try dsimp only at hSw); go_simp; first | done | with_reducible rfl)
            try simp only [nrm, Act.put]
            refine wpAnyH_ready (rs := [17]) (by kernel_rfl) (by simp) ?_
            refine AllReadyH.cons rfl (fun K hK => ?_) AllReadyH.nil
            go_simp
            refine Calls.mono (sRunSets_any (HRx.out _ (Below.then HeS.out hHeld HeS.out.size)).1.2.1 (HX.out _ (HW.out _ (Below.then HBS2.out hHeld HBS2.out.size))).2.2 (by have := HFX.out; omega)) ?_; rintro e' z1 ⟨tx, bx', rfl, hbx, otx, -⟩; have hK2 := Below.then hHeld hbx hHeld.size; have GX := otx.rep; clear otx
            refine hK.out _ _ (hK2) (fun hHeld => ?_)
            clear hK K
            refine wpAnyH_ready (rs := [20]) (by kernel_rfl) (by simp) ?_
            refine AllReadyH.cons rfl (fun K hK => ?_) AllReadyH.nil
            go_simp
            refine Calls.mono (sRunSets_any (HRy.out _ hHeld).1.2.1 (HX.out _ (HW.out _ (Below.then HBS2.out hHeld HBS2.out.size))).2.2 (by have := HFY.out; omega)) ?_; rintro e' z2 ⟨ty, by', rfl, hbx, oty, -⟩; have hK2 := Below.then hHeld hbx hHeld.size; have GY := oty.rep; replace GX := GX.below hbx; clear oty; obtain ⟨txa, txc, rfl, -⟩ := id GX; obtain ⟨tya, tyc, rfl, -⟩ := id GY
            refine hK.out _ _ (hK2) (fun hHeld => ?_)
            clear hK K
            refine wpAnyH_ready (rs := [21]) (by kernel_rfl) (by simp) ?_
            refine AllReadyH.cons rfl (fun K hK => ?_) AllReadyH.nil
            go_simp
            refine Calls.mono (l12Writes_any GX GY) ?_; rintro e' z3 ⟨rfl, hbx⟩; rw [decide_eq_false HD.out]; have hK2 := Below.then hHeld hbx hHeld.size
            refine hK.out _ _ (hK2) (fun hHeld => ?_)
            clear hK K
            refine' wpAnyH_take (i := 22) (v := _) rfl (by kernel_rfl) (by kernel_rfl) (by kernel_rfl) (fun _ _ _ h => h) (Or.inl ⟨by rfl, ?hy9486⟩) hHeld ?hn9486
            case hy9486 => (intro wz hSw; (try dsimp only at hSw); go_simp; first | done | with_reducible rfl)
            try simp only [nrm, Act.put]
            refine' wpAnyH_take (i := 23) (v := _) rfl (by kernel_rfl) (by kernel_rfl) (by kernel_rfl) (fun _ _ _ h => h) (Or.inl ⟨by rfl, ?hy9487⟩) hHeld ?hn9487
            case hy9487 => (intro wz hSw; (try dsimp only at hSw); go_simp; first | done | with_reducible rfl)
            try simp only [nrm, Act.put]
            refine' wpAnyH_take (i := 24) (v := _) rfl (by kernel_rfl) (by kernel_rfl) (by kernel_rfl) (fun _ _ _ h => h) (Or.inl ⟨by rfl, ?hy9488⟩) hHeld ?hn9488
            case hy9488 => (intro wz hSw; (try dsimp only at hSw); go_simp; first | done | with_reducible rfl)
            try simp only [nrm, Act.put]
            refine wpAnyH_done (by kernel_rfl) ?_ _
            have BF : Hid (Below w2.heap.size w2 z3) := Below.then HBS2.out hHeld HBS2.out.size
            have GF : Hid _ := HGW.out z3 (Below.then Hbs.out hHeld Hbs.out.size)
            clear hHeld x0 x1 x2 y0 y1 y2 GX GY
            go_wp2
            exact bodyPost_ret (v := .tuple #[.slice (some ⟨ga, 0, none⟩) ls.length ca, .slice (some ⟨gb, 0, none⟩) ls.length cb, .bool true]) (by simp [results, Tryz.results19, go_sem]) rfl ⟨some (k, i), _, _, ⟨by rw [HN.out]; exact hlt, hkl, HT.out, HI.out, HJ.out⟩, rfl, HW.out _ BF.out, GF.out.1, GF.out.2⟩
        · have hke : k = i := by omega
          subst hke
          have HI' : Hid (∀ i', i' < k + 1 → ∀ k', k' < i' → (swayP ls d T ks) k' i' = false) := (show ∀ i', i' < k + 1 → _ from fun i' hi' k' hk' => by
            by_cases e : i' = k
            · subst e; exact HJ.out k' hk'
            · exact HI.out i' (by omega) k' hk')
          go_wp2
          exact ⟨⟨k + 1, by omega, by simp, HBS.out, HI'.out⟩, by simp [intOf]; omega⟩
    · have hie : i = N := by omega
      subst hie
      have i1' : ¬ ((i : Int) < (i : Int)) := by omega
      have HBO : Hid (Below w.heap.size w ((wr.alloc (.cells #[] 3)).alloc (.cells #[] 3))) := ((Below.then HA2.out HBR.out HA2.out.size).alloc (Below.then HA2.out HBR.out HA2.out.size).size _).alloc (by have := (Below.then HA2.out HBR.out HA2.out.size).size; simp; omega) _
      go_wp2
      exact bodyPost_ret (v := .tuple #[.slice (some ⟨wr.heap.size, 0, none⟩) 0 0, .slice (some ⟨wr.heap.size + 1, 0, none⟩) 0 0, .bool false]) (by simp [results, Tryz.results19, go_sem]) rfl ⟨none, _, _, (show ∀ i', i' < 2 ^ ls.length → ∀ k', k' < i' → (swayP ls d T ks) k' i' = false by rw [HN.out]; exact HI.out), rfl, HBO.out, grep_nil _ _ _ (by unfold maxLen; omega), grep_nil _ _ _ (by unfold maxLen; omega)⟩

end Go.Proofs.YthcgdhlemieboaaGreatDoor

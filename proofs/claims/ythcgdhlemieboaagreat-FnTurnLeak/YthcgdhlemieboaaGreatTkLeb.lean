/- The first two rows of which something holds, by the model. -/
import Derived.Test.YthcgdhlemieboaaGreatTkLea
import Derived.Test.YthcgdhlemieboaaGreatTkSrn
import Derived.Test.YthcgdhlemieboaaGreatTkRtx
import Derived.Deep.RegionHeld3
import Derived.Deep.DrawnRows
namespace Go.Proofs.YthcgdhlemieboaaGreat
open Go.RowKit
set_option linter.unusedSimpArgs false
set_option linter.unusedVariables false
attribute [local go_sem] World.cell?_alloc_some

theorem R3.repsL {B : Nat} {w : World} {a b c : Value} {s : RSt} (h : R3 B w a b c s) : GRep (Value.int .i64) w a s.n ∧ LRep w b s.ws ∧ LRep w c s.ss := by
  obtain ⟨bs, ho, _⟩ := row_gown h.n
  obtain ⟨bs1, h1, _⟩ := row_pown h.ws
  obtain ⟨bs2, h2, _⟩ := row_pown h.ss
  exact ⟨ho.rep, h1.rep, h2.rep⟩
def FirstP (P : Nat → Nat → Bool) (N : Nat) : Option (Nat × Nat) → Prop
  | none => ∀ i, i < N → ∀ k, k < i → P k i = false
  | some (k, i) => i < N ∧ k < i ∧ P k i = true ∧ (∀ i', i' < i → ∀ k', k' < i' → P k' i' = false) ∧ ∀ k', k' < k → P k' i = false
theorem FirstP.same {P : Nat → Nat → Bool} {N : Nat} : ∀ {o o' : Option (Nat × Nat)}, FirstP P N o → FirstP P N o' → o = o'
  | none, none, _, _ => rfl
  | none, some (k, i), h, ⟨h1, h2, h3, _⟩ => by rw [h i h1 k h2] at h3; cases h3
  | some (k, i), none, ⟨h1, h2, h3, _⟩, h => by rw [h i h1 k h2] at h3; cases h3
  | some (k, i), some (k', i'), ⟨h1, h2, h3, h4, h5⟩, ⟨g1, g2, g3, g4, g5⟩ => by
    have e : i = i' := by
      rcases Nat.lt_trichotomy i i' with h | h | h
      · rw [g4 i h k h2] at h3; cases h3
      · exact h
      · rw [h4 i' h k' g2] at g3; cases g3
    subst e
    have e : k = k' := by
      rcases Nat.lt_trichotomy k k' with h | h | h
      · rw [g5 k h] at h3; cases h3
      · exact h
      · rw [h5 k' h] at g3; cases g3
    subst e; rfl
def rowsO (n : Nat) : Option (Nat × Nat) → List Int × List Int
  | none => ([], [])
  | some (k, i) => (bitsL k n, bitsL i n)
def leakP (ls : List (Int × Int)) (d : Nat) (T : Tr d) (ks : List Bool) (h : Int) (k i : Nat) : Bool :=
  sameB ks (bitsL k ls.length) (bitsL i ls.length) && !decide (toH h (runS ls d T (bitsL k ls.length)).ss = toH h (runS ls d T (bitsL i ls.length)).ss)
def swayP (ls : List (Int × Int)) (d : Nat) (T : Tr d) (ks : List Bool) (k i : Nat) : Bool :=
  sameB ks (bitsL k ls.length) (bitsL i ls.length) && !decide (setV ks (runS ls d T (bitsL k ls.length)).ws = setV ks (runS ls d T (bitsL i ls.length)).ws)
def FdPost (w : World) (P : Nat → Nat → Bool) (n : Nat) (e : Ending) (w' : World) : Prop := ∃ (o : Option (Nat × Nat)) (va vb : Value), FirstP P (2 ^ n) o ∧ e = .returned (.tuple #[va, vb, .bool o.isSome]) ∧ Below w.heap.size w w' ∧ GRep (Value.int .i64) w' va (rowsO n o).1 ∧ GRep (Value.int .i64) w' vb (rowsO n o).2
theorem told_fewL {ls : List (Int × Int)} {d : Nat} {T : Tr d} {ns : List Int} : (runS ls d T ns).ss.length ≤ 8 ∧ (runS ls d T ns).ws.length ≤ 8 := by
  unfold runS
  split
  · rename_i h
    unfold numsB progB at h
    simp only [Bool.and_eq_true_iff, decide_eq_true_eq] at h
    have q := (doT_ok d T ls.length 3 ⟨ns, [], []⟩ h.1.2.2.1 h.2.1 h.2.2).2.2
    have := h.1.2.2.2
    simp at q
    omega
  · simp
theorem grep_nil (w : World) (a : Option Addr) (c : Nat) (hc : c ≤ maxLen) : GRep (Value.int .i64) w (.slice a 0 c) [] := ⟨a, c, rfl, Nat.zero_le _, hc, fun q hq => absurd hq (by simp)⟩

set_option maxHeartbeats 8000000 in
set_option maxRecDepth 20000 in
theorem l12FindT_any {d : Nat} {T : Tr d} {lv sv kv : Value} {ls : List (Int × Int)} {ks : List Bool} (h : Int) {w : World} (hL : LRep w lv ls) (hR : Rep w d sv T) (hp : ls.length ≤ 4) (hcn : cnt d T ≤ 1048576) (hK : GRep Value.bool w kv ks) (hkl : ks.length = ls.length) :
    Calls Tryz.prog 15 #[.agg #[lv, sv], kv, .int .i64 h, .bool true] w (FdPost w (leakP ls d T ks h) ls.length) := by
  obtain ⟨la, lc, rfl, -⟩ := id hL
  obtain ⟨sa, sc, rfl⟩ := id hR.slice
  obtain ⟨ka, kc, rfl, -⟩ := id hK
  have A2 : Below w.heap.size w (w.alloc (.cells #[.slice la ls.length lc, .slice sa (ln d T) sc] 26)) := (Below.refl _ _).alloc (Nat.le_refl _) _
  have HX : Hid (∀ wz, Below w.heap.size w wz → LRep wz (.slice la ls.length lc) ls ∧ Rep wz d (.slice sa (ln d T) sc) T ∧ GRep Value.bool wz (.slice ka ks.length kc) ks) := (show ∀ wz, _ from fun wz hb => ⟨hL.below hb, hR.below hb, hK.below hb⟩)
  obtain ⟨w2, hw2⟩ : ∃ W, w.alloc (.cells #[.slice la ls.length lc, .slice sa (ln d T) sc] 26) = W := ⟨_, rfl⟩
  have HPB : Hid (∀ wz, Below w2.heap.size w2 wz → wz.cell? ⟨w.heap.size, 0, none⟩ = some (.slice la ls.length lc) ∧ wz.cell? ⟨w.heap.size, 1, none⟩ = some (.slice sa (ln d T) sc)) := (show ∀ wz, _ from fun wz hb => ⟨cell_later hb (by rw [← hw2]; simp), cell_later hb (by rw [← hw2]; simp)⟩)
  rw [hw2] at A2
  have HW2 : Hid _ := hw2
  have HA2 : Hid (Below w.heap.size w w2) := A2
  have HKL : Hid (ks.length = ls.length) := hkl
  have B22 : Hid (Below w2.heap.size w2 w2) := Below.refl _ _
  clear hL hR hK A2 hw2 hkl
  obtain ⟨N, hN⟩ : ∃ N, 2 ^ ls.length = N := ⟨_, rfl⟩
  have h16 : N ≤ 16 := by rw [← hN]; exact Nat.le_trans (Nat.pow_le_pow_right (by omega) hp) (by decide)
  have hw64 : wrap64 ((2 : Int) ^ ls.length) = (N : Int) := by
    have e : ((2 : Int) ^ ls.length) = (N : Int) := by rw [← hN]; simp
    rw [e]
    unfold wrap64; omega
  have HN : Hid (2 ^ ls.length = N) := hN
  have HPL : Hid (ls.length ≤ 4) := hp
  clear hN
  go_enter Tryz.func15, Tryz.ntmps15
  go_wp2_with fail
  rw [HW2.out]
  go_loopw [12] (fun j wr => ∃ (i : Nat), i ≤ N ∧ j = .int .i64 i ∧ Below w2.heap.size w2 wr ∧ Hid (∀ i', i' < i → ∀ k', k' < i' → (leakP ls d T ks h) k' i' = false)) (fun j _ => N - (intOf j).toNat)
  case atStart => exact ⟨0, Nat.zero_le _, rfl, B22.out, (show ∀ i', i' < 0 → _ from fun i' h => by omega)⟩
  case round =>
    obtain ⟨i, hi, rfl, hbr, HI⟩ := hrel
    have HBR : Hid (Below w2.heap.size w2 wr) := hbr
    clear hbr
    by_cases hlt : i < N
    · have i1' : (i : Int) < (N : Int) := by omega
      go_wp2_with fail
      rw [hw64]
      clear hw64
      go_loopw [13] (fun j wr => ∃ (k : Nat), k ≤ i ∧ j = .int .i64 k ∧ Below w2.heap.size w2 wr ∧ Hid (∀ k', k' < k → (leakP ls d T ks h) k' i = false)) (fun j _ => i - (intOf j).toNat)
      case atStart => exact ⟨0, Nat.zero_le _, rfl, HBR.out, (show ∀ k', k' < 0 → _ from fun k' h => by omega)⟩
      case round =>
        obtain ⟨k, hk, rfl, hbr, HJ⟩ := hrel
        have HBS : Hid (Below w2.heap.size w2 wr) := hbr
        have HW : Hid (∀ wz, Below w2.heap.size w2 wz → Below w.heap.size w wz) := (show ∀ wz, _ from fun wz hb => Below.then HA2.out hb HA2.out.size)
        clear hbr
        by_cases hkl : k < i
        · have k1' : (k : Int) < (i : Int) := by omega
          have KA : Hid _ := l12Row_any k ls.length (by omega) (by omega) wr
          go_wp2_with fail
          (try go_at_call 37); refine Calls.mono KA.out ?_
          rintro e wa ⟨ga, ca, rfl, hba, -, hGa⟩
          have HBA : Hid (Below w2.heap.size w2 wa) := Below.then HBS.out hba HBS.out.size
          have HGA : Hid _ := hGa
          have KB : Hid _ := l12Row_any i ls.length (by omega) (by omega) wa
          clear hba hGa KA
          go_wp2_with fail
          (try go_at_call 37); refine Calls.mono KB.out ?_
          rintro e wb ⟨gb, cb, rfl, hbb, -, hGb⟩
          have HBB : Hid (Below w2.heap.size w2 wb) := Below.then HBA.out hbb HBA.out.size
          have HGW : Hid (∀ wz, Below wb.heap.size wb wz → GRep (Value.int .i64) wz (.slice (some ⟨ga, 0, none⟩) ls.length ca) (bitsL k ls.length) ∧ GRep (Value.int .i64) wz (.slice (some ⟨gb, 0, none⟩) ls.length cb) (bitsL i ls.length)) := (show ∀ wz, _ from fun wz hb => ⟨GRep.below hb (GRep.below hbb HGA.out), GRep.below hb hGb⟩)
          obtain ⟨sb, hsb⟩ : ∃ x, sameB ks (bitsL k ls.length) (bitsL i ls.length) = x := ⟨_, rfl⟩
          have KS : Hid _ := l12Same_any (GRep.below hbb HGA.out) hGb (HX.out wb (HW.out wb HBB.out)).2.2 (by rw [bitsL_len, HKL.out]; exact Nat.le_refl _) (by rw [bitsL_len, HKL.out]; exact Nat.le_refl _)
          rw [hsb] at KS
          have HSB : Hid _ := hsb
          clear hbb hGb KB HGA hsb
          go_wp2_with fail
          (try go_at_call 38); refine Calls.mono KS.out ?_
          rintro e wc ⟨rfl, hbc⟩
          have HBC : Hid (Below w2.heap.size w2 wc) := Below.then HBB.out hbc HBB.out.size
          have Hbc : Hid (Below wb.heap.size wb wc) := hbc
          clear hbc KS
          cases sb
          · have HF : Hid (∀ k', k' < k + 1 → (leakP ls d T ks h) k' i = false) := (show ∀ k', k' < k + 1 → _ from fun k' hk' => by
              by_cases e : k' = k
              · subst e; unfold leakP; rw [HSB.out]; rfl
              · exact HJ.out k' (by omega))
            go_wp2
            exact ⟨⟨k + 1, by omega, by simp, HBC.out, HF.out⟩, by simp [intOf]; omega⟩
          obtain ⟨rx, hrx⟩ : ∃ r, runS ls d T (bitsL k ls.length) = r := ⟨_, rfl⟩
          obtain ⟨ry, hry⟩ : ∃ r, runS ls d T (bitsL i ls.length) = r := ⟨_, rfl⟩
          have fx := told_fewL (ls := ls) (d := d) (T := T) (ns := bitsL k ls.length)
          have fy := told_fewL (ls := ls) (d := d) (T := T) (ns := bitsL i ls.length)
          rw [hrx] at fx
          rw [hry] at fy
          have HFX : Hid _ := fx
          have HFY : Hid _ := fy
          have HRX : Hid _ := hrx
          have HRY : Hid _ := hry
          have KX : Hid (Calls Tryz.prog 39 #[.agg #[.slice la ls.length lc, .slice sa (ln d T) sc], .slice (some ⟨ga, 0, none⟩) ls.length ca] wc _) := (show Calls _ _ _ _ _ from by
            have := sRunOf_any (zs := bitsL k ls.length) (nc := ca) (ad := ⟨ga, 0, none⟩) (HX.out wc (HW.out wc HBC.out)).1 (HX.out wc (HW.out wc HBC.out)).2.1 hcn (by rw [bitsL_len]; exact (HGW.out wc Hbc.out).1)
            rw [bitsL_len, hrx] at this
            exact this)
          generalize numsB ls d T (bitsL k ls.length) = nbx at KX
          clear fx fy hrx hry
          obtain ⟨p0, p1⟩ := HPB.out wc HBC.out
          go_wp2_with fail
          clear p0 p1
          (try go_at_call 39); refine Calls.mono KX.out ?_
          rintro e wd ⟨vxa, vxb, vxc, rfl, hb_wd, r_x⟩
          obtain ⟨xa, xac, ha⟩ := rowg_slice r_x.n
          obtain ⟨xb, xbc, hb⟩ := rowg_slice r_x.ws
          obtain ⟨xc, xcc, hc⟩ := rowg_slice r_x.ss
          subst ha hb hc
          have A_we : Below wd.heap.size wd (wd.alloc (.cells #[.slice xa rx.n.length xac, .slice xb rx.ws.length xbc, .slice xc rx.ss.length xcc] 51)) := (Below.refl _ _).alloc (Nat.le_refl _) _
          have G_we := C3.new wd (.slice xa rx.n.length xac) (.slice xb rx.ws.length xbc) (.slice xc rx.ss.length xcc) 51
          obtain ⟨we, hwwe⟩ : ∃ W, wd.alloc (.cells #[.slice xa rx.n.length xac, .slice xb rx.ws.length xbc, .slice xc rx.ss.length xcc] 51) = W := ⟨_, rfl⟩
          rw [hwwe] at A_we G_we
          have HWwe : Hid _ := hwwe
          obtain ⟨v0, v1, v2⟩ := G_we.1
          have HRx : Hid (∀ wz, Below we.heap.size we wz → (GRep (Value.int .i64) wz (.slice xa rx.n.length xac) rx.n ∧ LRep wz (.slice xb rx.ws.length xbc) rx.ws ∧ LRep wz (.slice xc rx.ss.length xcc) rx.ss) ∧ wz.cell? ⟨wd.heap.size, 0, none⟩ = some (.slice xa rx.n.length xac) ∧ wz.cell? ⟨wd.heap.size, 1, none⟩ = some (.slice xb rx.ws.length xbc) ∧ wz.cell? ⟨wd.heap.size, 2, none⟩ = some (.slice xc rx.ss.length xcc)) := (show ∀ wz, _ from fun wz hb => ⟨⟨(r_x.repsL.1.below A_we).below hb, (r_x.repsL.2.1.below A_we).below hb, (r_x.repsL.2.2.below A_we).below hb⟩, cell_later hb v0, cell_later hb v1, cell_later hb v2⟩)
          have HBd : Hid (Below w2.heap.size w2 wd) := Below.then HBC.out hb_wd HBC.out.size
          have HBe : Hid (Below w2.heap.size w2 we) := Below.then HBd.out A_we HBd.out.size
          have Hbe : Hid (Below wb.heap.size wb we) := Below.then (Below.then Hbc.out hb_wd Hbc.out.size) A_we (Below.then Hbc.out hb_wd Hbc.out.size).size
          have KY : Hid (Calls Tryz.prog 39 #[.agg #[.slice la ls.length lc, .slice sa (ln d T) sc], .slice (some ⟨gb, 0, none⟩) ls.length cb] we _) := (show Calls _ _ _ _ _ from by
            have := sRunOf_any (zs := bitsL i ls.length) (nc := cb) (ad := ⟨gb, 0, none⟩) (HX.out we (HW.out we HBe.out)).1 (HX.out we (HW.out we HBe.out)).2.1 hcn (by rw [bitsL_len]; exact (HGW.out we Hbe.out).2)
            rw [bitsL_len, HRY.out] at this
            exact this)
          generalize numsB ls d T (bitsL i ls.length) = nby at KY
          obtain ⟨p0, p1⟩ := HPB.out wd HBd.out
          clear hwwe A_we G_we hb_wd r_x v0 v1 v2 KX
          go_wp2_with fail
          rw [HWwe.out]
          clear HWwe p0 p1
          (try go_at_call 39); refine Calls.mono KY.out ?_
          rintro e wf ⟨vya, vyb, vyc, rfl, hb_wf, r_y⟩
          obtain ⟨ya, yac, ha⟩ := rowg_slice r_y.n
          obtain ⟨yb, ybc, hb⟩ := rowg_slice r_y.ws
          obtain ⟨yc, ycc, hc⟩ := rowg_slice r_y.ss
          subst ha hb hc
          have A_wS : Below wf.heap.size wf (wf.alloc (.cells #[.slice ya ry.n.length yac, .slice yb ry.ws.length ybc, .slice yc ry.ss.length ycc] 51)) := (Below.refl _ _).alloc (Nat.le_refl _) _
          have G_wS := C3.new wf (.slice ya ry.n.length yac) (.slice yb ry.ws.length ybc) (.slice yc ry.ss.length ycc) 51
          obtain ⟨wS, hwwS⟩ : ∃ W, wf.alloc (.cells #[.slice ya ry.n.length yac, .slice yb ry.ws.length ybc, .slice yc ry.ss.length ycc] 51) = W := ⟨_, rfl⟩
          rw [hwwS] at A_wS G_wS
          have HWwS : Hid _ := hwwS
          obtain ⟨v0, v1, v2⟩ := G_wS.1
          have HRy : Hid (∀ wz, Below wS.heap.size wS wz → (GRep (Value.int .i64) wz (.slice ya ry.n.length yac) ry.n ∧ LRep wz (.slice yb ry.ws.length ybc) ry.ws ∧ LRep wz (.slice yc ry.ss.length ycc) ry.ss) ∧ wz.cell? ⟨wf.heap.size, 0, none⟩ = some (.slice ya ry.n.length yac) ∧ wz.cell? ⟨wf.heap.size, 1, none⟩ = some (.slice yb ry.ws.length ybc) ∧ wz.cell? ⟨wf.heap.size, 2, none⟩ = some (.slice yc ry.ss.length ycc)) := (show ∀ wz, _ from fun wz hb => ⟨⟨(r_y.repsL.1.below A_wS).below hb, (r_y.repsL.2.1.below A_wS).below hb, (r_y.repsL.2.2.below A_wS).below hb⟩, cell_later hb v0, cell_later hb v1, cell_later hb v2⟩)
          have HBf : Hid (Below w2.heap.size w2 wf) := Below.then HBe.out hb_wf HBe.out.size
          have HBS2 : Hid (Below w2.heap.size w2 wS) := Below.then HBf.out A_wS HBf.out.size
          have HeS : Hid (Below we.heap.size we wS) := Below.then hb_wf A_wS hb_wf.size
          have Hbs : Hid (Below wb.heap.size wb wS) := Below.then Hbe.out HeS.out Hbe.out.size
          have Hef : Hid (Below we.heap.size we wf) := hb_wf
          clear hwwS A_wS G_wS hb_wf r_y v0 v1 v2 KY
          obtain ⟨-, x0, x1, x2⟩ := HRx.out wS HeS.out
          obtain ⟨-, y0, y1, y2⟩ := HRy.out wS (Below.refl _ _)
          by_cases hd : toH h rx.ss = toH h ry.ss
          · have HF : Hid (∀ k', k' < k + 1 → (leakP ls d T ks h) k' i = false) := (show ∀ k', k' < k + 1 → _ from fun k' hk' => by
              by_cases e : k' = k
              · subst e; unfold leakP; rw [HRX.out, HRY.out, decide_eq_true hd]; simp
              · exact HJ.out k' (by omega))
            have HD : Hid _ := hd
            clear hd
            go_wp2_with fail
            rw [HWwS.out]
            clear HWwS
            go_wp2_with fail
            refine wp_region_held (S := (fun wz => Below wS.heap.size wS wz)) (by kernel_rfl) ?_
            change wpAnyH _ _ _ _ _ _ _ _ (World.drew _)
            have hHeld := (Below.refl wS.heap.size wS).drew
            refine' wpAnyH_take (i := 0) (v := _) rfl (by kernel_rfl) (by kernel_rfl) (by kernel_rfl) (fun _ _ _ h => h) (Or.inl ⟨by rfl, ?hy9101⟩) hHeld ?hn9101
            case hy9101 => (intro wz hSw; (try dsimp only at hSw); go_simp; first | done | with_reducible rfl)
            try simp only [nrm, Act.put]
            refine' wpAnyH_take (i := 1) (v := _) rfl (by kernel_rfl) (by kernel_rfl) (by kernel_rfl) (fun _ _ _ h => h) (Or.inl ⟨by rfl, ?hy9102⟩) hHeld ?hn9102
            case hy9102 => (intro wz hSw; (try dsimp only at hSw); go_simp; first | done | with_reducible rfl)
            try simp only [nrm, Act.put]
            refine' wpAnyH_take (i := 2) (v := .agg #[.slice xa rx.n.length xac, .slice xb rx.ws.length xbc, .slice xc rx.ss.length xcc]) rfl (by kernel_rfl) (by kernel_rfl) (by kernel_rfl) (fun _ _ _ h => h) (Or.inl ⟨by rfl, ?hy9103⟩) hHeld ?hn9103
            case hy9103 => (intro wz hSw; have j0 := cell_later hSw x0; have j1 := cell_later hSw x1; have j2 := cell_later hSw x2; go_simp)
            try simp only [nrm, Act.put]
            refine' wpAnyH_take (i := 3) (v := _) rfl (by kernel_rfl) (by kernel_rfl) (by kernel_rfl) (fun _ _ _ h => h) (Or.inl ⟨by rfl, ?hy9104⟩) hHeld ?hn9104
            case hy9104 => (intro wz hSw; (try dsimp only at hSw); go_simp; first | done | with_reducible rfl)
            try simp only [nrm, Act.put]
            refine' wpAnyH_take (i := 5) (v := .agg #[.slice ya ry.n.length yac, .slice yb ry.ws.length ybc, .slice yc ry.ss.length ycc]) rfl (by kernel_rfl) (by kernel_rfl) (by kernel_rfl) (fun _ _ _ h => h) (Or.inl ⟨by rfl, ?hy9105⟩) hHeld ?hn9105
            case hy9105 => (intro wz hSw; have j0 := cell_later hSw y0; have j1 := cell_later hSw y1; have j2 := cell_later hSw y2; go_simp)
            try simp only [nrm, Act.put]
            refine' wpAnyH_take (i := 6) (v := _) rfl (by kernel_rfl) (by kernel_rfl) (by kernel_rfl) (fun _ _ _ h => h) (Or.inl ⟨by rfl, ?hy9106⟩) hHeld ?hn9106
            case hy9106 => (intro wz hSw; (try dsimp only at hSw); go_simp; first | done | with_reducible rfl)
            try simp only [nrm, Act.put]
            refine wpAnyH_ready (rs := [4]) (by kernel_rfl) (by simp) ?_
            refine AllReadyH.cons rfl (fun K hK => ?_) AllReadyH.nil
            go_simp
            refine Calls.mono (sRunTo_any h (HRx.out _ (Below.then HeS.out hHeld HeS.out.size)).1.2.2 (by have := HFX.out; omega)) ?_; rintro e' z1 ⟨tx, bx', rfl, hbx, otx, -⟩; have hK2 := Below.then hHeld hbx hHeld.size; have GX := otx.rep; clear otx
            refine hK.out _ _ (hK2) (fun hHeld => ?_)
            clear hK K
            refine wpAnyH_ready (rs := [7]) (by kernel_rfl) (by simp) ?_
            refine AllReadyH.cons rfl (fun K hK => ?_) AllReadyH.nil
            go_simp
            refine Calls.mono (sRunTo_any h (HRy.out _ hHeld).1.2.2 (by have := HFY.out; omega)) ?_; rintro e' z2 ⟨ty, by', rfl, hbx, oty, -⟩; have hK2 := Below.then hHeld hbx hHeld.size; have GY := oty.rep; replace GX := GX.below hbx; clear oty; obtain ⟨txa, txc, rfl, -⟩ := id GX; obtain ⟨tya, tyc, rfl, -⟩ := id GY
            refine hK.out _ _ (hK2) (fun hHeld => ?_)
            clear hK K
            refine wpAnyH_ready (rs := [8]) (by kernel_rfl) (by simp) ?_
            refine AllReadyH.cons rfl (fun K hK => ?_) AllReadyH.nil
            go_simp
            refine Calls.mono (l12Ints_any GX GY) ?_; rintro e' z3 ⟨rfl, hbx⟩; rw [decide_eq_true HD.out]; have hK2 := Below.then hHeld hbx hHeld.size
            refine hK.out _ _ (hK2) (fun hHeld => ?_)
            clear hK K
            refine' wpAnyH_take (i := 9) (v := _) rfl (by kernel_rfl) (by kernel_rfl) (by kernel_rfl) (fun _ _ _ h => h) (Or.inl ⟨by rfl, ?hy9107⟩) hHeld ?hn9107
            case hy9107 => (intro wz hSw; (try dsimp only at hSw); go_simp; first | done | with_reducible rfl)
            try simp only [nrm, Act.put]
            refine' wpAnyH_take (i := 10) (v := _) rfl (by kernel_rfl) (by kernel_rfl) (by kernel_rfl) (fun _ _ _ h => h) (Or.inl ⟨by rfl, ?hy9108⟩) hHeld ?hn9108
            case hy9108 => (intro wz hSw; (try dsimp only at hSw); go_simp; first | done | with_reducible rfl)
            try simp only [nrm, Act.put]
            refine' wpAnyH_take (i := 11) (v := _) rfl (by kernel_rfl) (by kernel_rfl) (by kernel_rfl) (fun _ _ _ h => h) (Or.inl ⟨by rfl, ?hy9109⟩) hHeld ?hn9109
            case hy9109 => (intro wz hSw; (try dsimp only at hSw); go_simp; first | done | with_reducible rfl)
            try simp only [nrm, Act.put]
            refine' wpAnyH_take (i := 12) (v := _) rfl (by kernel_rfl) (by kernel_rfl) (by kernel_rfl) (fun _ _ _ h => h) (Or.inl ⟨by rfl, ?hy9110⟩) hHeld ?hn9110
            case hy9110 => (intro wz hSw; (try dsimp only at hSw); go_simp; first | done | with_reducible rfl)
            try simp only [nrm, Act.put]
            refine' wpAnyH_take (i := 13) (v := _) rfl (by kernel_rfl) (by kernel_rfl) (by kernel_rfl) (fun _ _ _ h => h) (Or.inl ⟨by rfl, ?hy9111⟩) hHeld ?hn9111
            case hy9111 => (intro wz hSw; (try dsimp only at hSw); go_simp; first | done | with_reducible rfl)
            try simp only [nrm, Act.put]
            refine' wpAnyH_take (i := 14) (v := _) rfl (by kernel_rfl) (by kernel_rfl) (by kernel_rfl) (fun _ _ _ h => h) (Or.inl ⟨by rfl, ?hy9112⟩) hHeld ?hn9112
            case hy9112 => (intro wz hSw; (try dsimp only at hSw); go_simp; first | done | with_reducible rfl)
            try simp only [nrm, Act.put]
            refine' wpAnyH_take (i := 15) (v := undef) rfl (by kernel_rfl) (by kernel_rfl) (by kernel_rfl) (fun _ _ _ h => h) (Or.inr ⟨by rfl, rfl⟩) hHeld ?hn9113
            try simp only [nrm, Act.put]
            refine' wpAnyH_take (i := 16) (v := undef) rfl (by kernel_rfl) (by kernel_rfl) (by kernel_rfl) (fun _ _ _ h => h) (Or.inr ⟨by rfl, rfl⟩) hHeld ?hn9114
            try simp only [nrm, Act.put]
            refine' wpAnyH_take (i := 17) (v := undef) rfl (by kernel_rfl) (by kernel_rfl) (by kernel_rfl) (fun _ _ _ h => h) (Or.inr ⟨by rfl, rfl⟩) hHeld ?hn9115
            try simp only [nrm, Act.put]
            refine' wpAnyH_take (i := 18) (v := undef) rfl (by kernel_rfl) (by kernel_rfl) (by kernel_rfl) (fun _ _ _ h => h) (Or.inr ⟨by rfl, rfl⟩) hHeld ?hn9116
            try simp only [nrm, Act.put]
            refine' wpAnyH_take (i := 19) (v := undef) rfl (by kernel_rfl) (by kernel_rfl) (by kernel_rfl) (fun _ _ _ h => h) (Or.inr ⟨by rfl, rfl⟩) hHeld ?hn9117
            try simp only [nrm, Act.put]
            refine' wpAnyH_take (i := 20) (v := undef) rfl (by kernel_rfl) (by kernel_rfl) (by kernel_rfl) (fun _ _ _ h => h) (Or.inr ⟨by rfl, rfl⟩) hHeld ?hn9118
            try simp only [nrm, Act.put]
            refine' wpAnyH_take (i := 21) (v := undef) rfl (by kernel_rfl) (by kernel_rfl) (by kernel_rfl) (fun _ _ _ h => h) (Or.inr ⟨by rfl, rfl⟩) hHeld ?hn9119
            try simp only [nrm, Act.put]
            refine' wpAnyH_take (i := 22) (v := undef) rfl (by kernel_rfl) (by kernel_rfl) (by kernel_rfl) (fun _ _ _ h => h) (Or.inr ⟨by rfl, rfl⟩) hHeld ?hn9120
            try simp only [nrm, Act.put]
            refine' wpAnyH_take (i := 23) (v := _) rfl (by kernel_rfl) (by kernel_rfl) (by kernel_rfl) (fun _ _ _ h => h) (Or.inl ⟨by rfl, ?hy9121⟩) hHeld ?hn9121
            case hy9121 => (intro wz hSw; (try dsimp only at hSw); go_simp; first | done | with_reducible rfl)
            try simp only [nrm, Act.put]
            refine' wpAnyH_take (i := 24) (v := _) rfl (by kernel_rfl) (by kernel_rfl) (by kernel_rfl) (fun _ _ _ h => h) (Or.inl ⟨by rfl, ?hy9122⟩) hHeld ?hn9122
            case hy9122 => (intro wz hSw; (try dsimp only at hSw); go_simp; first | done | with_reducible rfl)
            try simp only [nrm, Act.put]
            refine wpAnyH_done (by kernel_rfl) ?_ _
            have BF : Hid (Below w2.heap.size w2 z3) := Below.then HBS2.out hHeld HBS2.out.size
            clear hHeld x0 x1 x2 y0 y1 y2 GX GY
            go_wp2
            exact ⟨⟨k + 1, by omega, by simp, BF.out, HF.out⟩, by simp [intOf]; omega⟩
          · have HT : Hid ((leakP ls d T ks h) k i = true) := (show (leakP ls d T ks h) k i = true by unfold leakP; rw [HSB.out, HRX.out, HRY.out, decide_eq_false hd]; rfl)
            have HD : Hid _ := hd
            clear hd
            go_wp2_with fail
            rw [HWwS.out]
            clear HWwS
            go_wp2_with fail
            refine wp_region_held (S := (fun wz => Below wS.heap.size wS wz)) (by kernel_rfl) ?_
            change wpAnyH _ _ _ _ _ _ _ _ (World.drew _)
            have hHeld := (Below.refl wS.heap.size wS).drew
            refine' wpAnyH_take (i := 0) (v := _) rfl (by kernel_rfl) (by kernel_rfl) (by kernel_rfl) (fun _ _ _ h => h) (Or.inl ⟨by rfl, ?hy9223⟩) hHeld ?hn9223
            case hy9223 => (intro wz hSw; (try dsimp only at hSw); go_simp; first | done | with_reducible rfl)
            try simp only [nrm, Act.put]
            refine' wpAnyH_take (i := 1) (v := _) rfl (by kernel_rfl) (by kernel_rfl) (by kernel_rfl) (fun _ _ _ h => h) (Or.inl ⟨by rfl, ?hy9224⟩) hHeld ?hn9224
            case hy9224 => (intro wz hSw; (try dsimp only at hSw); go_simp; first | done | with_reducible rfl)
            try simp only [nrm, Act.put]
            refine' wpAnyH_take (i := 2) (v := .agg #[.slice xa rx.n.length xac, .slice xb rx.ws.length xbc, .slice xc rx.ss.length xcc]) rfl (by kernel_rfl) (by kernel_rfl) (by kernel_rfl) (fun _ _ _ h => h) (Or.inl ⟨by rfl, ?hy9225⟩) hHeld ?hn9225
            case hy9225 => (intro wz hSw; have j0 := cell_later hSw x0; have j1 := cell_later hSw x1; have j2 := cell_later hSw x2; go_simp)
            try simp only [nrm, Act.put]
            refine' wpAnyH_take (i := 3) (v := _) rfl (by kernel_rfl) (by kernel_rfl) (by kernel_rfl) (fun _ _ _ h => h) (Or.inl ⟨by rfl, ?hy9226⟩) hHeld ?hn9226
            case hy9226 => (intro wz hSw; (try dsimp only at hSw); go_simp; first | done | with_reducible rfl)
            try simp only [nrm, Act.put]
            refine' wpAnyH_take (i := 5) (v := .agg #[.slice ya ry.n.length yac, .slice yb ry.ws.length ybc, .slice yc ry.ss.length ycc]) rfl (by kernel_rfl) (by kernel_rfl) (by kernel_rfl) (fun _ _ _ h => h) (Or.inl ⟨by rfl, ?hy9227⟩) hHeld ?hn9227
            case hy9227 => (intro wz hSw; have j0 := cell_later hSw y0; have j1 := cell_later hSw y1; have j2 := cell_later hSw y2; go_simp)
            try simp only [nrm, Act.put]
            refine' wpAnyH_take (i := 6) (v := _) rfl (by kernel_rfl) (by kernel_rfl) (by kernel_rfl) (fun _ _ _ h => h) (Or.inl ⟨by rfl, ?hy9228⟩) hHeld ?hn9228
            case hy9228 => (intro wz hSw; (try dsimp only at hSw); go_simp; first | done | with_reducible rfl)
            try simp only [nrm, Act.put]
            refine wpAnyH_ready (rs := [4]) (by kernel_rfl) (by simp) ?_
            refine AllReadyH.cons rfl (fun K hK => ?_) AllReadyH.nil
            go_simp
            refine Calls.mono (sRunTo_any h (HRx.out _ (Below.then HeS.out hHeld HeS.out.size)).1.2.2 (by have := HFX.out; omega)) ?_; rintro e' z1 ⟨tx, bx', rfl, hbx, otx, -⟩; have hK2 := Below.then hHeld hbx hHeld.size; have GX := otx.rep; clear otx
            refine hK.out _ _ (hK2) (fun hHeld => ?_)
            clear hK K
            refine wpAnyH_ready (rs := [7]) (by kernel_rfl) (by simp) ?_
            refine AllReadyH.cons rfl (fun K hK => ?_) AllReadyH.nil
            go_simp
            refine Calls.mono (sRunTo_any h (HRy.out _ hHeld).1.2.2 (by have := HFY.out; omega)) ?_; rintro e' z2 ⟨ty, by', rfl, hbx, oty, -⟩; have hK2 := Below.then hHeld hbx hHeld.size; have GY := oty.rep; replace GX := GX.below hbx; clear oty; obtain ⟨txa, txc, rfl, -⟩ := id GX; obtain ⟨tya, tyc, rfl, -⟩ := id GY
            refine hK.out _ _ (hK2) (fun hHeld => ?_)
            clear hK K
            refine wpAnyH_ready (rs := [8]) (by kernel_rfl) (by simp) ?_
            refine AllReadyH.cons rfl (fun K hK => ?_) AllReadyH.nil
            go_simp
            refine Calls.mono (l12Ints_any GX GY) ?_; rintro e' z3 ⟨rfl, hbx⟩; rw [decide_eq_false HD.out]; have hK2 := Below.then hHeld hbx hHeld.size
            refine hK.out _ _ (hK2) (fun hHeld => ?_)
            clear hK K
            refine' wpAnyH_take (i := 9) (v := _) rfl (by kernel_rfl) (by kernel_rfl) (by kernel_rfl) (fun _ _ _ h => h) (Or.inl ⟨by rfl, ?hy9229⟩) hHeld ?hn9229
            case hy9229 => (intro wz hSw; (try dsimp only at hSw); go_simp; first | done | with_reducible rfl)
            try simp only [nrm, Act.put]
            refine' wpAnyH_take (i := 10) (v := _) rfl (by kernel_rfl) (by kernel_rfl) (by kernel_rfl) (fun _ _ _ h => h) (Or.inl ⟨by rfl, ?hy9230⟩) hHeld ?hn9230
            case hy9230 => (intro wz hSw; (try dsimp only at hSw); go_simp; first | done | with_reducible rfl)
            try simp only [nrm, Act.put]
            refine' wpAnyH_take (i := 11) (v := _) rfl (by kernel_rfl) (by kernel_rfl) (by kernel_rfl) (fun _ _ _ h => h) (Or.inl ⟨by rfl, ?hy9231⟩) hHeld ?hn9231
            case hy9231 => (intro wz hSw; (try dsimp only at hSw); go_simp; first | done | with_reducible rfl)
            try simp only [nrm, Act.put]
            refine' wpAnyH_take (i := 12) (v := undef) rfl (by kernel_rfl) (by kernel_rfl) (by kernel_rfl) (fun _ _ _ h => h) (Or.inr ⟨by rfl, rfl⟩) hHeld ?hn9232
            try simp only [nrm, Act.put]
            refine' wpAnyH_take (i := 13) (v := undef) rfl (by kernel_rfl) (by kernel_rfl) (by kernel_rfl) (fun _ _ _ h => h) (Or.inr ⟨by rfl, rfl⟩) hHeld ?hn9233
            try simp only [nrm, Act.put]
            refine' wpAnyH_take (i := 14) (v := undef) rfl (by kernel_rfl) (by kernel_rfl) (by kernel_rfl) (fun _ _ _ h => h) (Or.inr ⟨by rfl, rfl⟩) hHeld ?hn9234
            try simp only [nrm, Act.put]
            refine' wpAnyH_take (i := 15) (v := undef) rfl (by kernel_rfl) (by kernel_rfl) (by kernel_rfl) (fun _ _ _ h => h) (Or.inr ⟨by rfl, rfl⟩) hHeld ?hn9235
            try simp only [nrm, Act.put]
            refine' wpAnyH_take (i := 16) (v := undef) rfl (by kernel_rfl) (by kernel_rfl) (by kernel_rfl) (fun _ _ _ h => h) (Or.inr ⟨by rfl, rfl⟩) hHeld ?hn9236
            try simp only [nrm, Act.put]
            refine' wpAnyH_take (i := 17) (v := undef) rfl (by kernel_rfl) (by kernel_rfl) (by kernel_rfl) (fun _ _ _ h => h) (Or.inr ⟨by rfl, rfl⟩) hHeld ?hn9237
            try simp only [nrm, Act.put]
            refine' wpAnyH_take (i := 18) (v := undef) rfl (by kernel_rfl) (by kernel_rfl) (by kernel_rfl) (fun _ _ _ h => h) (Or.inr ⟨by rfl, rfl⟩) hHeld ?hn9238
            try simp only [nrm, Act.put]
            refine' wpAnyH_take (i := 19) (v := undef) rfl (by kernel_rfl) (by kernel_rfl) (by kernel_rfl) (fun _ _ _ h => h) (Or.inr ⟨by rfl, rfl⟩) hHeld ?hn9239
            try simp only [nrm, Act.put]
            refine' wpAnyH_take (i := 20) (v := undef) rfl (by kernel_rfl) (by kernel_rfl) (by kernel_rfl) (fun _ _ _ h => h) (Or.inr ⟨by rfl, rfl⟩) hHeld ?hn9240
            try simp only [nrm, Act.put]
            refine' wpAnyH_take (i := 21) (v := undef) rfl (by kernel_rfl) (by kernel_rfl) (by kernel_rfl) (fun _ _ _ h => h) (Or.inr ⟨by rfl, rfl⟩) hHeld ?hn9241
            try simp only [nrm, Act.put]
            refine' wpAnyH_take (i := 22) (v := undef) rfl (by kernel_rfl) (by kernel_rfl) (by kernel_rfl) (fun _ _ _ h => h) (Or.inr ⟨by rfl, rfl⟩) hHeld ?hn9242
            try simp only [nrm, Act.put]
            refine' wpAnyH_take (i := 23) (v := undef) rfl (by kernel_rfl) (by kernel_rfl) (by kernel_rfl) (fun _ _ _ h => h) (Or.inr ⟨by rfl, rfl⟩) hHeld ?hn9243
            try simp only [nrm, Act.put]
            refine' wpAnyH_take (i := 24) (v := _) rfl (by kernel_rfl) (by kernel_rfl) (by kernel_rfl) (fun _ _ _ h => h) (Or.inl ⟨by rfl, ?hy9244⟩) hHeld ?hn9244
            case hy9244 => (intro wz hSw; (try dsimp only at hSw); go_simp; first | done | with_reducible rfl)
            try simp only [nrm, Act.put]
            refine wpAnyH_done (by kernel_rfl) ?_ _
            have BF : Hid (Below w2.heap.size w2 z3) := Below.then HBS2.out hHeld HBS2.out.size
            have GF : Hid _ := HGW.out z3 (Below.then Hbs.out hHeld Hbs.out.size)
            clear hHeld x0 x1 x2 y0 y1 y2 GX GY
            go_wp2
            exact bodyPost_ret (v := .tuple #[.slice (some ⟨ga, 0, none⟩) ls.length ca, .slice (some ⟨gb, 0, none⟩) ls.length cb, .bool true]) (by simp [results, Tryz.results15, go_sem]) rfl ⟨some (k, i), _, _, ⟨by rw [HN.out]; exact hlt, hkl, HT.out, HI.out, HJ.out⟩, rfl, HW.out _ BF.out, GF.out.1, GF.out.2⟩
        · have hke : k = i := by omega
          subst hke
          have HI' : Hid (∀ i', i' < k + 1 → ∀ k', k' < i' → (leakP ls d T ks h) k' i' = false) := (show ∀ i', i' < k + 1 → _ from fun i' hi' k' hk' => by
            by_cases e : i' = k
            · subst e; exact HJ.out k' hk'
            · exact HI.out i' (by omega) k' hk')
          go_wp2
          exact ⟨⟨k + 1, by omega, by simp, HBS.out, HI'.out⟩, by simp [intOf]; omega⟩
    · have hie : i = N := by omega
      subst hie
      have i1' : ¬ ((i : Int) < (i : Int)) := by omega
      have HBO : Hid (Below w.heap.size w ((wr.alloc (.cells #[] 3)).alloc (.cells #[] 3))) := ((Below.then HA2.out HBR.out HA2.out.size).alloc (Below.then HA2.out HBR.out HA2.out.size).size _).alloc (by have := (Below.then HA2.out HBR.out HA2.out.size).size; simp; omega) _
      go_wp2
      exact bodyPost_ret (v := .tuple #[.slice (some ⟨wr.heap.size, 0, none⟩) 0 0, .slice (some ⟨wr.heap.size + 1, 0, none⟩) 0 0, .bool false]) (by simp [results, Tryz.results15, go_sem]) rfl ⟨none, _, _, (show ∀ i', i' < 2 ^ ls.length → ∀ k', k' < i' → (leakP ls d T ks h) k' i' = false by rw [HN.out]; exact HI.out), rfl, HBO.out, grep_nil _ _ _ (by unfold maxLen; omega), grep_nil _ _ _ (by unfold maxLen; omega)⟩

end Go.Proofs.YthcgdhlemieboaaGreat

/- A program whose variables are turned by the model. -/
import Derived.Test.YtfmhdjnambnglaaVsTsv
import Derived.Test.YtfmhdjnambnglaaVsTpc
import Derived.Test.YtfmhdjnambnglaaVsRtx
import Derived.Test.YtfmhdjnambnglaaVsRpp
import Derived.Deep.DeepCutAuto
import Derived.Deep.RegionHeld3
import Derived.Deep.DrawnRows
namespace Go.Proofs.Ytfmhdjnambnglaa
open Go.RowKit
set_option linter.unusedSimpArgs false
set_option linter.unusedVariables false
attribute [local go_sem] World.cell?_alloc_some

theorem wp_make_at {P : Program} (w : World) {o : Oper} {a : Act} {K : Act → World → Prop} {Q : Exit → Act → World → Prop} (l c : Operand) (t : TypeId) (hop : o.op = Op.makeSlice t l c)
    (base : Nat) (e : TypeId) (i : TypeInfo) (z : Value) (size : Nat) (h1 : P.underlying t = some (.slice e)) (h2 : P.info? e = some i) (h3 : i.zero = some z) (h4 : i.size = size)
    (kl kc : IntKind) (L C : Int) (n : Nat) (hl : a.eval l = .int kl L) (hc : a.eval c = .int kc C) (hL : L = (n : Int)) (hC : C = (n : Int)) (b2 : i.bytes * n ≤ 281474976710656) (b3 : n ≤ maxLen) (b4 : base ≤ w.heap.size)
    (hK : ∀ w', w'.ownsRow base e size (.slice (some ⟨w.heap.size, 0, none⟩) n n) n (madeCells z.cells (n * size)).toList → w.grownBy w' none → K (a.put o.dst (.slice (some ⟨w.heap.size, 0, none⟩) n n)) w') : o.wp P a w K Q := by
  obtain ⟨w', hrun, r1, r2⟩ := run_make_full (P := P) w base t e i z size h1 h2 h3 h4 kl kc n b2 b3 b4
  subst hL
  subst hC
  unfold Oper.wp
  simp [execOp, hop, hl, hc, hrun, Result.andThen]
  exact hK w' r1 r2
theorem l14Vars_nil (f : Pay → Pay) (rv : Value) (d : Nat) (T : Tr d) (a : Option Addr) (c : Nat) (w : World) (h : ln d T = 0) : Tq 75 f rv d T w (.slice a 0 c) := by
  unfold Tq
  go_enter Try.func75, Try.ntmps75
  go_wp2
  refine wp_loop_rounds 1 ?_
  rw [rounds_succ]
  go_wp2
  go_ret
  refine ⟨_, [], rfl, (Below.refl _ _).alloc (Nat.le_refl _) _, ?_, by simp, by simp⟩
  match d, T, h with
  | 0, _, _ => exact ⟨⟨_, _, rfl⟩, rfl⟩
  | d + 1, (l : List (Pay × Tr d × Tr d)), h => exact .inl ⟨by rw [mapT_succ, mapL_len]; exact h, ⟨_, _, rfl, by unfold maxLen; omega⟩, rfl⟩
theorem l14Vars_all (zs : List Int) {n : Nat} (ra : Option Addr) (rc : Nat) (hz : zs.length = n) (d : Nat) (T : Tr d) (s : Value) (w : World) (hR : Rep w d s T) (hc : cnt d T ≤ 1048576) (hN : GRep (Value.int .i64) w (.slice ra zs.length rc) zs) (hst : stB n d 3 T = true) : Tq 75 (varF zs) (.slice ra zs.length rc) d T w s := by
  by_cases h0 : 0 < zs.length
  · exact l14Vars_any zs (n := n) ra rc hz h0 d T s w hR hc hN (allP_of d 3 T hst)
  · have hn : n = 0 := by omega
    subst hn
    have hl := stB_zero d 3 T hst
    obtain ⟨a, c, rfl⟩ := hR.slice
    rw [hl]
    exact l14Vars_nil _ _ d T a c w hl

set_option maxHeartbeats 8000000 in
set_option maxRecDepth 20000 in
theorem sTurnVars_any {d : Nat} {T : Tr d} {lv sv nv : Value} {ls : List (Int × Int)} {zs : List Int} {w : World} (hL : LRep w lv ls) (hR : Rep w d sv T) (hcn : cnt d T ≤ 1048576) (hN : GRep (Value.int .i64) w nv zs) :
    Calls Try.prog 36 #[.agg #[lv, sv], nv] w (TpPost w (tvOk zs ls d T) (tvL zs ls d T) d (tvT zs ls d T)) := by
  obtain ⟨i0, hi0, hz0, hz1, hz2⟩ := info_parts infoLabel
  obtain ⟨la, lc, hv0, hlc, hcm, hcell⟩ := id hL
  obtain ⟨sa, sc, hv1⟩ := id hR.slice
  obtain ⟨ra, rc, hv2, hrl, hrm, hrow⟩ := id hN
  subst hv0 hv1 hv2
  have hrm' : (zs.length : Int) ≤ 9223372036854775807 := by unfold maxLen at hrm; omega
  have A : Below w.heap.size w ((w.alloc (.cells #[.slice la ls.length lc, .slice sa (ln d T) sc] 43)).alloc (.cells #[.slice none 0 0, .slice none 0 0] 43)) := ((Below.refl _ _).alloc (Nat.le_refl _) _).alloc (by simp) _
  have C1 : Hid _ := sProgOk_any (hL.below A) (hR.below A) hcn
  have KR : Hid (∀ wx, Below w.heap.size w wx → Calls Try.prog 54 #[.slice ra zs.length rc, .int .i64 ls.length] wx fun e w' => e = .returned (.bool (rowB zs ls.length)) ∧ w' = wx) := (show ∀ wx, _ from fun wx hb => l14Row_any ls.length (hN.below hb))
  have HC : Hid _ := hcell
  have HRC : Hid _ := hrow
  have HR : Hid (∀ wx, Below w.heap.size w wx → Rep wx d (.slice sa (ln d T) sc) T) := (show ∀ wx, _ from fun wx hb => hR.below hb)
  have HN : Hid (∀ wx, (∀ b, b < w.heap.size → wx.heap[b]? = w.heap[b]?) → GRep (Value.int .i64) wx (.slice ra zs.length rc) zs) := (show ∀ wx, _ from fun wx hb => by
    refine ⟨ra, rc, rfl, hrl, hrm, fun i hi => ?_⟩
    obtain ⟨b, off, ha, h0⟩ := hrow i hi
    exact ⟨b, off, ha, (World.cell?_of_block (hb b (World.block_lt_of_cell? _ _ h0))).trans h0⟩)
  have G1 := (C2.new w (.slice la ls.length lc) (.slice sa (ln d T) sc) 43).same (Below.heap_alloc _ (.cells #[.slice none 0 0, .slice none 0 0] 43) _ (by simp))
  have G2 := C2.new (w.alloc (.cells #[.slice la ls.length lc, .slice sa (ln d T) sc] 43)) (.slice none 0 0) (.slice none 0 0) 43
  rw [show (w.alloc (.cells #[.slice la ls.length lc, .slice sa (ln d T) sc] 43)).heap.size = w.heap.size + 1 by simp] at G2
  have hs : ((w.alloc (.cells #[.slice la ls.length lc, .slice sa (ln d T) sc] 43)).alloc (.cells #[.slice none 0 0, .slice none 0 0] 43)).heap.size = w.heap.size + 2 := by simp
  obtain ⟨W0, hW⟩ : ∃ W, (w.alloc (.cells #[.slice la ls.length lc, .slice sa (ln d T) sc] 43)).alloc (.cells #[.slice none 0 0, .slice none 0 0] 43) = W := ⟨_, rfl⟩
  rw [hW] at A C1 G1 G2 hs
  have HW : Hid _ := hW
  have HA : Hid (Below w.heap.size w W0) := A
  have HG1 : Hid (C2 W0 w.heap.size (.slice la ls.length lc) (.slice sa (ln d T) sc)) := G1
  have HG2 : Hid (C2 W0 (w.heap.size + 1) (.slice none 0 0) (.slice none 0 0)) := G2
  clear hL hR hN A G1 G2 hW hcell hrow hrl
  obtain ⟨pb, hpb⟩ : ∃ pb, progB ls d T = pb := ⟨_, rfl⟩
  obtain ⟨rbb, hrb⟩ : ∃ rb, rowB zs ls.length = rb := ⟨_, rfl⟩
  have HOK : Hid (tvOk zs ls d T = (pb && rbb)) := (show tvOk zs ls d T = (pb && rbb) by unfold tvOk; rw [hpb, hrb])
  have HLL : Hid (tvL zs ls d T = if (pb && rbb) = true then movL zs ls else []) := (show tvL zs ls d T = _ by unfold tvL; rw [HOK.out])
  have HTT : Hid (tvT zs ls d T = if (pb && rbb) = true then mapT (varF zs) d T else noT d) := (show tvT zs ls d T = _ by unfold tvT; rw [HOK.out])
  rw [HOK.out, HLL.out, HTT.out]
  rw [hpb] at C1
  rw [hrb] at KR
  have HPB : Hid _ := hpb
  have HRB : Hid _ := hrb
  clear hpb hrb HOK HLL HTT
  cases pb
  · rw [Bool.false_and, if_neg (by simp), if_neg (by simp)]
    go_enter Try.func36, Try.ntmps36
    go_wp2_with fail
    rw [HW.out]
    clear HW
    go_at_call 38; refine Calls.mono C1.out ?_
    rintro e w1 ⟨rfl, hb1⟩
    have HB1 : Hid (Below w.heap.size w w1) := Below.then HA.out hb1 HA.out.size
    have HP1 : Hid (C2 w1 w.heap.size (.slice la ls.length lc) (.slice sa (ln d T) sc)) := HG1.out.same (hb1.block _ (by omega))
    have HZ1 : Hid (C2 w1 (w.heap.size + 1) (.slice none 0 0) (.slice none 0 0)) := HG2.out.same (hb1.block _ (by omega))
    have hs1 : w.heap.size + 1 < w1.heap.size := by have := hb1.size; omega
    clear hb1 C1 HG1 HG2 HA
    obtain ⟨⟨z0, z1⟩, y0, y1⟩ := HZ1.out
    go_wp2
    refine bodyPost_ret (v := .tuple #[.agg #[.slice none 0 0, .slice none 0 0], .bool false]) (by simp [results, Try.results36, go_sem, z0, z1]) rfl ?_
    exact TpPost.none rfl rfl rfl (by simpa using (HB1.out.setCell (p := ⟨w.heap.size + 1, 0, none⟩) (by show w.heap.size ≤ w.heap.size + 1; omega) _).setCell (p := ⟨w.heap.size + 1, 1, none⟩) (by show w.heap.size ≤ w.heap.size + 1; omega) _)
  cases rbb
  · rw [Bool.and_false, if_neg (by simp), if_neg (by simp)]
    go_enter Try.func36, Try.ntmps36
    go_wp2_with fail
    rw [HW.out]
    clear HW
    go_at_call 38; refine Calls.mono C1.out ?_
    rintro e w1 ⟨rfl, hb1⟩
    have HB1 : Hid (Below w.heap.size w w1) := Below.then HA.out hb1 HA.out.size
    have HP1 : Hid (C2 w1 w.heap.size (.slice la ls.length lc) (.slice sa (ln d T) sc)) := HG1.out.same (hb1.block _ (by omega))
    have HZ1 : Hid (C2 w1 (w.heap.size + 1) (.slice none 0 0) (.slice none 0 0)) := HG2.out.same (hb1.block _ (by omega))
    have hs1 : w.heap.size + 1 < w1.heap.size := by have := hb1.size; omega
    clear hb1 C1 HG1 HG2 HA
    obtain ⟨⟨p0, p1⟩, -⟩ := HP1.out
    go_wp2_with fail
    (try go_at_call 54); refine Calls.mono (KR.out _ HB1.out) ?_
    rintro e wq ⟨rfl, hq⟩; rw [hq]; clear hq wq KR
    obtain ⟨⟨z0, z1⟩, y0, y1⟩ := HZ1.out
    go_wp2
    refine bodyPost_ret (v := .tuple #[.agg #[.slice none 0 0, .slice none 0 0], .bool false]) (by simp [results, Try.results36, go_sem, z0, z1]) rfl ?_
    exact TpPost.none rfl rfl rfl (by simpa using (HB1.out.setCell (p := ⟨w.heap.size + 1, 0, none⟩) (by show w.heap.size ≤ w.heap.size + 1; omega) _).setCell (p := ⟨w.heap.size + 1, 1, none⟩) (by show w.heap.size ≤ w.heap.size + 1; omega) _)
  rw [Bool.and_self, if_pos rfl, if_pos rfl]
  go_enter Try.func36, Try.ntmps36
  go_wp2_with fail
  rw [HW.out]
  clear HW
  go_at_call 38; refine Calls.mono C1.out ?_
  rintro e w1 ⟨rfl, hb1⟩
  have HB1 : Hid (Below w.heap.size w w1) := Below.then HA.out hb1 HA.out.size
  have HP1 : Hid (C2 w1 w.heap.size (.slice la ls.length lc) (.slice sa (ln d T) sc)) := HG1.out.same (hb1.block _ (by omega))
  have HZ1 : Hid (C2 w1 (w.heap.size + 1) (.slice none 0 0) (.slice none 0 0)) := HG2.out.same (hb1.block _ (by omega))
  have hs1 : w.heap.size + 1 < w1.heap.size := by have := hb1.size; omega
  clear hb1 C1 HG1 HG2 HA
  obtain ⟨⟨p0, p1⟩, -⟩ := HP1.out
  go_wp2_with fail
  (try go_at_call 54); refine Calls.mono (KR.out _ HB1.out) ?_
  rintro e wq ⟨rfl, hq⟩; rw [hq]; clear hq wq KR
  obtain ⟨hl4, hlb, hst, hc8⟩ := progB4 HPB.out
  have hl4' : (ls.length : Int) ≤ 4 := by omega
  have HRLN : Hid (zs.length = ls.length) := rowB_len HRB.out
  have HLB : Hid (∀ i (hi : i < ls.length), ∃ b off k t, ls.getD i (0, 0) = (k, t) ∧ la = some ⟨b, off, none⟩ ∧ b < w.heap.size ∧ w.cell? ⟨b, off + i * 2, none⟩ = some (.int .i64 k) ∧ w.cell? ⟨b, off + i * 2 + 1, none⟩ = some (.int .i64 t)) := (show ∀ i (hi : i < ls.length), _ by
    intro i hi
    obtain ⟨b, off, ha, h0, h1⟩ := HC.out i hi
    exact ⟨b, off, ls[i].1, ls[i].2, by simp [List.getD_eq_getElem?_getD, List.getElem?_eq_getElem hi], ha, World.block_lt_of_cell? _ _ h0, h0, h1⟩)
  have RCB : Hid (∀ i, i < ls.length → ∃ (rb ro : Nat) (m : Nat), ra = some ⟨rb, ro, none⟩ ∧ rb < w.heap.size ∧ m < ls.length ∧ (zs.getD i 0).toNat = m ∧ w.cell? ⟨rb, ro + i, none⟩ = some (.int .i64 (m : Int))) := (show ∀ i, i < ls.length → _ from fun i hi => by
    have hi' : i < zs.length := by rw [HRLN.out]; exact hi
    obtain ⟨b, off, he, hc⟩ := HRC.out i hi'
    have hb := rowB_in HRB.out i hi'
    have hg : zs.getD i 0 = zs[i] := by simp [List.getD_eq_getElem?_getD, List.getElem?_eq_getElem hi']
    refine ⟨b, off, zs[i].toNat, he, World.block_lt_of_cell? _ _ hc, by omega, by rw [hg], ?_⟩
    rw [Int.toNat_of_nonneg hb.1]
    exact hc)
  have CSt0 : Hid (∀ wx, Below w.heap.size w wx → Tq 75 (varF zs) (.slice ra zs.length rc) d T wx (.slice sa (ln d T) sc)) := (show ∀ wx, _ from fun wx hb => l14Vars_all zs ra rc (rowB_len HRB.out) d T _ wx (HR.out wx hb) (by omega) (HN.out wx (fun b hlt => hb.block b hlt)) hst)
  obtain ⟨TT, hTT⟩ : ∃ TT, mapT (varF zs) d T = TT := ⟨_, rfl⟩
  have HTT : Hid _ := hTT
  have CSt : Hid (∀ wx, Below w.heap.size w wx → Calls Try.prog 75 #[.slice sa (ln d T) sc, .slice ra zs.length rc] wx fun e w' => ∃ v' bs, e = .returned v' ∧ Below wx.heap.size wx w' ∧ Own w' d v' TT bs ∧ (∀ b ∈ bs, wx.heap.size ≤ b ∧ b < w'.heap.size) ∧ bs.Nodup) := (show ∀ wx, _ from fun wx hb => by have := CSt0.out wx hb; unfold Tq at this; rwa [hTT] at this)
  clear hTT hlb hst CSt0 HR HN HC HRC
  go_upto_region 3 with fail
  refine wp_region_held (S := (fun wz : World => wz.cell? ⟨w.heap.size, 0, none⟩ = some (.slice la ls.length lc) ∧ wz.cell? ⟨w.heap.size, 1, none⟩ = some (.slice sa (ln d T) sc) ∧ Below w.heap.size w wz)) (by kernel_rfl) ?_
  change wpAnyH _ _ _ _ _ _ _ _ (World.drew _)
  have hHeld := (show (fun wz : World => wz.cell? ⟨w.heap.size, 0, none⟩ = some (.slice la ls.length lc) ∧ wz.cell? ⟨w.heap.size, 1, none⟩ = some (.slice sa (ln d T) sc) ∧ Below w.heap.size w wz) (World.drew w1) from ⟨p0, p1, HB1.out.drew⟩)
  have HZwd : Hid (C2 (World.drew w1) (w.heap.size + 1) (.slice none 0 0) (.slice none 0 0)) := HZ1.out
  have HScwd : Hid (w.heap.size + 1 < (World.drew w1).heap.size) := hs1
  clear p0 p1 HZ1 HP1 hs1
  generalize World.drew w1 = wd at hHeld HZwd HScwd ⊢
  refine' wpAnyH_take (i := 0) (v := _) rfl (by kernel_rfl) (by kernel_rfl) (by kernel_rfl) (fun _ _ _ h => h) (Or.inl ⟨by rfl, ?hy2401⟩) hHeld ?hn2401
  case hy2401 => (intro wz hSw; go_simp; first | done | with_reducible rfl)
  try simp only [nrm, Act.put]
  refine' wpAnyH_take (i := 1) (v := (.slice la ls.length lc)) rfl (by kernel_rfl) (by kernel_rfl) (by kernel_rfl) (fun _ _ _ h => h) (Or.inl ⟨by rfl, ?hy2402⟩) hHeld ?hn2402
  case hy2402 => (intro wz hSw; have j0 := hSw.1; have j1 := hSw.2.1; go_simp)
  try simp only [nrm, Act.put]
  refine' wpAnyH_take (i := 2) (v := _) rfl (by kernel_rfl) (by kernel_rfl) (by kernel_rfl) (fun _ _ _ h => h) (Or.inl ⟨by rfl, ?hy2403⟩) hHeld ?hn2403
  case hy2403 => (intro wz hSw; go_simp; first | done | with_reducible rfl)
  try simp only [nrm, Act.put]
  refine' wpAnyH_take (i := 4) (v := _) rfl (by kernel_rfl) (by kernel_rfl) (by kernel_rfl) (fun _ _ _ h => h) (Or.inl ⟨by rfl, ?hy2404⟩) hHeld ?hn2404
  case hy2404 => (intro wz hSw; go_simp; first | done | with_reducible rfl)
  try simp only [nrm, Act.put]
  refine' wpAnyH_take (i := 5) (v := (.slice sa (ln d T) sc)) rfl (by kernel_rfl) (by kernel_rfl) (by kernel_rfl) (fun _ _ _ h => h) (Or.inl ⟨by rfl, ?hy2405⟩) hHeld ?hn2405
  case hy2405 => (intro wz hSw; have j0 := hSw.1; have j1 := hSw.2.1; go_simp)
  try simp only [nrm, Act.put]
  refine' wpAnyH_take (i := 6) (v := _) rfl (by kernel_rfl) (by kernel_rfl) (by kernel_rfl) (fun _ _ _ h => h) (Or.inl ⟨by rfl, ?hy2406⟩) hHeld ?hn2406
  case hy2406 => (intro wz hSw; go_simp; first | done | with_reducible rfl)
  try simp only [nrm, Act.put]
  refine wpAnyH_ready (rs := [3, 7, 9]) (by kernel_rfl) (by simp) ?_
  refine AllReadyH.cons rfl (fun K hK => ?_) (AllReadyH.cons rfl (fun K hK => ?_) (AllReadyH.cons rfl (fun K hK => ?_) AllReadyH.nil))
  · refine wp_make_at _ _ _ 40 rfl wd.heap.size 32 i0 _ 2 Try.underlying40 hi0 hz0 hz1 _ _ _ _ ls.length rfl rfl rfl rfl (by rw [hz2]; omega) (by unfold maxLen; omega) (Nat.le_refl _) ?_
    intro wg owng growg
    have bg : Below wd.heap.size wd wg := (Below.refl _ _).grown growg (Nat.le_refl _) (fun k hk => by cases hk)
    have tg := row_there owng
    have sg : wd.heap.size < wg.heap.size := (World.ownsRow.lt owng wd.heap.size rfl).2
    have zg : ∀ q, q < ls.length → wg.cell? ⟨wd.heap.size, q * 2, none⟩ = some (.int .i64 0) ∧ wg.cell? ⟨wd.heap.size, q * 2 + 1, none⟩ = some (.int .i64 0) := fun q hq => by
      refine ⟨?_, ?_⟩
      · rw [World.ownsRow.cellAt owng _ (by omega)]
        simp [madeCells, show q * 2 < ls.length * 2 by omega, Value.cells]
      · rw [World.ownsRow.cellAt owng _ (by omega)]
        simp [madeCells, show q * 2 + 1 < ls.length * 2 by omega, Value.cells, Nat.add_mod]
    clear owng growg
    have HZwg : Hid (C2 wg (w.heap.size + 1) (.slice none 0 0) (.slice none 0 0)) := C2.same HZwd.out (bg.block _ HScwd.out)
    have HScwg : Hid (w.heap.size + 1 < wg.heap.size) := Nat.lt_of_lt_of_le HScwd.out bg.size
    obtain ⟨GB, hGB⟩ : ∃ n, wd.heap.size = n := ⟨_, rfl⟩
    rw [hGB] at tg sg zg ⊢
    have L_g : Hid (w.heap.size + 1 < GB) := (show w.heap.size + 1 < GB by have := HScwd.out; omega)
    have HGcwg : Hid ((∀ q, q < ls.length → wg.cell? ⟨GB, q * 2, none⟩ = some (.int .i64 0) ∧ wg.cell? ⟨GB, q * 2 + 1, none⟩ = some (.int .i64 0)) ∧ wg.there GB 0 (ls.length * 2) ∧ GB < wg.heap.size) := ⟨zg, tg, sg⟩
    have hqg : (fun wz : World => wz.cell? ⟨w.heap.size, 0, none⟩ = some (.slice la ls.length lc) ∧ wz.cell? ⟨w.heap.size, 1, none⟩ = some (.slice sa (ln d T) sc) ∧ Below w.heap.size w wz) wg := ⟨cell_later bg hHeld.1, cell_later bg hHeld.2.1, Below.then hHeld.2.2 bg hHeld.2.2.size⟩
    clear zg tg sg bg hGB
    refine hK.out _ _ (hqg) (fun hHeld => ?_)
    clear hK K
    refine wpAnyH_ready (rs := [7, 9]) (by kernel_rfl) (by simp) ?_
    refine AllReadyH.cons rfl (fun K hK => ?_) (AllReadyH.cons rfl (fun K hK => ?_) AllReadyH.nil)
    · go_simp
      refine Calls.mono (CSt.out _ hHeld.2.2) ?_
      rintro e' wb ⟨sv', b2, rfl, bb, ob2, rb, nb⟩
      obtain ⟨sa', sc', rfl⟩ := ob2.slice
      have HZwb : Hid (C2 wb (w.heap.size + 1) (.slice none 0 0) (.slice none 0 0)) := C2.same HZwg.out (bb.block _ HScwg.out)
      have HGcwb : Hid ((∀ q, q < ls.length → wb.cell? ⟨GB, q * 2, none⟩ = some (.int .i64 0) ∧ wb.cell? ⟨GB, q * 2 + 1, none⟩ = some (.int .i64 0)) ∧ wb.there GB 0 (ls.length * 2) ∧ GB < wb.heap.size) := ⟨fun q hq => ⟨cell_later bb (HGcwg.out.1 q hq).1, cell_later bb (HGcwg.out.1 q hq).2⟩, there_same (bb.block _ HGcwg.out.2.2) HGcwg.out.2.1, Nat.lt_of_lt_of_le HGcwg.out.2.2 bb.size⟩
      have HScwb : Hid (w.heap.size + 1 < wb.heap.size) := Nat.lt_of_lt_of_le HScwg.out bb.size
      have HBcwb : Hid (Own wb d (.slice sa' (ln d TT) sc') TT b2 ∧ ∀ b ∈ b2, b < wb.heap.size) := ⟨ob2, fun b hb => (rb b hb).2⟩
      have L_b : Hid (∀ b ∈ b2, w.heap.size + 1 < b) := (show ∀ b ∈ b2, _ from fun b hb => by have := HScwg.out; have := rb b hb; omega)
      have D_gb : Hid (∀ b ∈ b2, b ≠ GB) := (show ∀ b ∈ b2, _ from fun b hb => by have := HGcwg.out.2.2; have := rb b hb; omega)
      have HN2 : Hid _ := nb
      have hqb : (fun wz : World => wz.cell? ⟨w.heap.size, 0, none⟩ = some (.slice la ls.length lc) ∧ wz.cell? ⟨w.heap.size, 1, none⟩ = some (.slice sa (ln d T) sc) ∧ Below w.heap.size w wz) wb := ⟨cell_later bb hHeld.1, cell_later bb hHeld.2.1, Below.then hHeld.2.2 bb hHeld.2.2.size⟩
      clear ob2 rb nb bb
      refine hK.out _ _ (hqb) (fun hHeld => ?_)
      clear hK K
      refine' wpAnyH_take (i := 8) (v := _) rfl (by kernel_rfl) (by kernel_rfl) (by kernel_rfl) (fun _ _ _ h => h) (Or.inl ⟨by rfl, ?hy2407⟩) hHeld ?hn2407
      case hy2407 => (intro wz hSw; go_simp; first | done | with_reducible rfl)
      try simp only [nrm, Act.put]
      refine wpAnyH_ready (rs := [9]) (by kernel_rfl) (by simp) ?_
      refine AllReadyH.cons rfl (fun K hK => ?_) AllReadyH.nil
      go_simp
      have bo : Below wb.heap.size wb (wb.alloc (.cells #[.slice none 0 0, .slice none 0 0] 43)) := (Below.refl _ _).alloc (Nat.le_refl _) _
      have co := C2.new wb (.slice none 0 0) (.slice none 0 0) 43
      have so : wb.heap.size < (wb.alloc (.cells #[.slice none 0 0, .slice none 0 0] 43)).heap.size := by simp
      generalize wb.alloc (.cells #[.slice none 0 0, .slice none 0 0] 43) = wo at bo co so ⊢
      have HZwo : Hid (C2 wo (w.heap.size + 1) (.slice none 0 0) (.slice none 0 0)) := C2.same HZwb.out (bo.block _ HScwb.out)
      have HGcwo : Hid ((∀ q, q < ls.length → wo.cell? ⟨GB, q * 2, none⟩ = some (.int .i64 0) ∧ wo.cell? ⟨GB, q * 2 + 1, none⟩ = some (.int .i64 0)) ∧ wo.there GB 0 (ls.length * 2) ∧ GB < wo.heap.size) := ⟨fun q hq => ⟨cell_later bo (HGcwb.out.1 q hq).1, cell_later bo (HGcwb.out.1 q hq).2⟩, there_same (bo.block _ HGcwb.out.2.2) HGcwb.out.2.1, Nat.lt_of_lt_of_le HGcwb.out.2.2 bo.size⟩
      have HBcwo : Hid (Own wo d (.slice sa' (ln d TT) sc') TT b2 ∧ ∀ b ∈ b2, b < wo.heap.size) := ⟨Own.frame (fun b hb => bo.block b (HBcwb.out.2 b hb)) HBcwb.out.1, fun b hb => Nat.lt_of_lt_of_le (HBcwb.out.2 b hb) bo.size⟩
      have HScwo : Hid (w.heap.size + 1 < wo.heap.size) := Nat.lt_of_lt_of_le HScwb.out bo.size
      obtain ⟨OB, hOB⟩ : ∃ n, wb.heap.size = n := ⟨_, rfl⟩
      rw [hOB] at co so ⊢
      have L_o : Hid (w.heap.size + 1 < OB) := (show w.heap.size + 1 < OB by have := HScwb.out; omega)
      have D_go : Hid (GB ≠ OB) := (show GB ≠ OB by have := HGcwb.out.2.2; omega)
      have D_ob : Hid (∀ b ∈ b2, b ≠ OB) := (show ∀ b ∈ b2, _ from fun b hb => by have := HBcwb.out.2 b hb; omega)
      have HOcwo : Hid (C2 wo OB (.slice none 0 0) (.slice none 0 0) ∧ OB < wo.heap.size) := ⟨co, so⟩
      have hqo : (fun wz : World => wz.cell? ⟨w.heap.size, 0, none⟩ = some (.slice la ls.length lc) ∧ wz.cell? ⟨w.heap.size, 1, none⟩ = some (.slice sa (ln d T) sc) ∧ Below w.heap.size w wz) wo := ⟨cell_later bo hHeld.1, cell_later bo hHeld.2.1, Below.then hHeld.2.2 bo hHeld.2.2.size⟩
      clear co so bo hOB
      refine hK.out _ _ (hqo) (fun hHeld => ?_)
      clear hK K
      refine wpAnyH_ready (rs := [10]) (by kernel_rfl) (by simp) ?_
      refine AllReadyH.cons rfl (fun K hK => ?_) AllReadyH.nil
      obtain ⟨⟨o0, o1⟩, g0, g1⟩ := HOcwo.out.1
      go_simp
      have hne : ∀ b, b ≠ OB → ((wo.setCell ⟨OB, 0, none⟩ (.slice (some ⟨GB, 0, none⟩) ls.length ls.length)).setCell ⟨OB, 1, none⟩ (.slice sa' (ln d TT) sc')).heap[b]? = wo.heap[b]? := fun b hb => (Below.heap_setCell _ _ _ _ hb).trans (Below.heap_setCell _ _ _ _ hb)
      have CO := C2.set1 (.slice sa' (ln d TT) sc') (C2.set0 (.slice (some ⟨GB, 0, none⟩) ls.length ls.length) HOcwo.out.1)
      have sS : ((wo.setCell ⟨OB, 0, none⟩ (.slice (some ⟨GB, 0, none⟩) ls.length ls.length)).setCell ⟨OB, 1, none⟩ (.slice sa' (ln d TT) sc')).heap.size = wo.heap.size := by simp [World.setCell]
      have hLo := L_o.out
      have XZ := C2.same HZwo.out (hne _ (by omega))
      have XG : (∀ q, q < ls.length → ((wo.setCell ⟨OB, 0, none⟩ (.slice (some ⟨GB, 0, none⟩) ls.length ls.length)).setCell ⟨OB, 1, none⟩ (.slice sa' (ln d TT) sc')).cell? ⟨GB, q * 2, none⟩ = some (.int .i64 0) ∧ ((wo.setCell ⟨OB, 0, none⟩ (.slice (some ⟨GB, 0, none⟩) ls.length ls.length)).setCell ⟨OB, 1, none⟩ (.slice sa' (ln d TT) sc')).cell? ⟨GB, q * 2 + 1, none⟩ = some (.int .i64 0)) ∧ ((wo.setCell ⟨OB, 0, none⟩ (.slice (some ⟨GB, 0, none⟩) ls.length ls.length)).setCell ⟨OB, 1, none⟩ (.slice sa' (ln d TT) sc')).there GB 0 (ls.length * 2) := ⟨fun q hq => ⟨(World.cell?_of_block (hne GB D_go.out)).trans (HGcwo.out.1 q hq).1, (World.cell?_of_block (hne GB D_go.out)).trans (HGcwo.out.1 q hq).2⟩, there_same (hne GB D_go.out) HGcwo.out.2.1⟩
      have XO : Own ((wo.setCell ⟨OB, 0, none⟩ (.slice (some ⟨GB, 0, none⟩) ls.length ls.length)).setCell ⟨OB, 1, none⟩ (.slice sa' (ln d TT) sc')) d (.slice sa' (ln d TT) sc') TT b2 := Own.frame (fun b hb => hne b (D_ob.out b hb)) HBcwo.out.1
      have hqs : (fun wz : World => wz.cell? ⟨w.heap.size, 0, none⟩ = some (.slice la ls.length lc) ∧ wz.cell? ⟨w.heap.size, 1, none⟩ = some (.slice sa (ln d T) sc) ∧ Below w.heap.size w wz) ((wo.setCell ⟨OB, 0, none⟩ (.slice (some ⟨GB, 0, none⟩) ls.length ls.length)).setCell ⟨OB, 1, none⟩ (.slice sa' (ln d TT) sc')) := ⟨(World.cell?_of_block (hne w.heap.size (by omega))).trans hHeld.1, (World.cell?_of_block (hne w.heap.size (by omega))).trans hHeld.2.1, (hHeld.2.2.setCell (p := ⟨OB, 0, none⟩) (by show w.heap.size ≤ OB; omega) _).setCell (p := ⟨OB, 1, none⟩) (by show w.heap.size ≤ OB; omega) _⟩
      have KL : Hid (GB < ((wo.setCell ⟨OB, 0, none⟩ (.slice (some ⟨GB, 0, none⟩) ls.length ls.length)).setCell ⟨OB, 1, none⟩ (.slice sa' (ln d TT) sc')).heap.size ∧ OB < ((wo.setCell ⟨OB, 0, none⟩ (.slice (some ⟨GB, 0, none⟩) ls.length ls.length)).setCell ⟨OB, 1, none⟩ (.slice sa' (ln d TT) sc')).heap.size ∧ ∀ b ∈ b2, b < ((wo.setCell ⟨OB, 0, none⟩ (.slice (some ⟨GB, 0, none⟩) ls.length ls.length)).setCell ⟨OB, 1, none⟩ (.slice sa' (ln d TT) sc')).heap.size) := (show GB < ((wo.setCell ⟨OB, 0, none⟩ (.slice (some ⟨GB, 0, none⟩) ls.length ls.length)).setCell ⟨OB, 1, none⟩ (.slice sa' (ln d TT) sc')).heap.size ∧ OB < ((wo.setCell ⟨OB, 0, none⟩ (.slice (some ⟨GB, 0, none⟩) ls.length ls.length)).setCell ⟨OB, 1, none⟩ (.slice sa' (ln d TT) sc')).heap.size ∧ ∀ b ∈ b2, b < ((wo.setCell ⟨OB, 0, none⟩ (.slice (some ⟨GB, 0, none⟩) ls.length ls.length)).setCell ⟨OB, 1, none⟩ (.slice sa' (ln d TT) sc')).heap.size by rw [sS]; exact ⟨HGcwo.out.2.2, HOcwo.out.2, HBcwo.out.2⟩)
      clear o0 o1 g0 g1 hne sS hLo
      generalize ((wo.setCell ⟨OB, 0, none⟩ (.slice (some ⟨GB, 0, none⟩) ls.length ls.length)).setCell ⟨OB, 1, none⟩ (.slice sa' (ln d TT) sc')) = wO at CO XZ XG XO hqs KL ⊢
      refine hK.out _ _ (hqs) (fun hHeld => ?_)
      clear hK K
      refine wpAnyH_done (by kernel_rfl) ?_ _
      have HCO : Hid (C2 wO OB (.slice (some ⟨GB, 0, none⟩) ls.length ls.length) (.slice sa' (ln d TT) sc')) := CO
      have HZO : Hid (C2 wO (w.heap.size + 1) (.slice none 0 0) (.slice none 0 0)) := XZ
      have HPO : Hid (wO.cell? ⟨w.heap.size, 0, none⟩ = some (.slice la ls.length lc) ∧ wO.cell? ⟨w.heap.size, 1, none⟩ = some (.slice sa (ln d T) sc)) := ⟨hHeld.1, hHeld.2.1⟩
      have HBO : Hid (Below w.heap.size w wO) := hHeld.2.2
      have HXO : Hid (Own wO d (.slice sa' (ln d TT) sc') TT b2) := XO
      have HTH : Hid (wO.there GB 0 (ls.length * 2)) := XG.2
      have zO : ∀ q, q < ls.length → wO.cell? ⟨GB, q * 2, none⟩ = some (.int .i64 ((movTo zs ls 0).getD q (0, 0)).1) ∧ wO.cell? ⟨GB, q * 2 + 1, none⟩ = some (.int .i64 ((movTo zs ls 0).getD q (0, 0)).2) := fun q hq => by
        have e : (movTo zs ls 0).getD q (0, 0) = (0, 0) := by simp [movTo, List.getD_eq_getElem?_getD, List.getElem?_replicate, hq]
        rw [e]; exact XG.1 q hq
      have tO : wO.there GB 0 (ls.length * 2) := XG.2
      have lg := L_g.out
      have lo := L_o.out
      have dgo := D_go.out
      have HLO : Hid (∀ wz : World, (fun wz : World => ∀ b, b ≠ GB → b < wO.heap.size → wz.heap[b]? = wO.heap[b]?) wz → ∀ b o v, b < w.heap.size → w.cell? ⟨b, o, none⟩ = some v → wz.cell? ⟨b, o, none⟩ = some v) := (show ∀ wz : World, _ from fun wz hS b o v hb hv => (World.cell?_of_block ((hS b (by omega) (by have := HBO.out.size; omega)).trans (HBO.out.block b hb))).trans hv)
      clear CO XZ XO XG hHeld hqs
      go_wp2_with fail
      go_loopw [7] (fun j wr => ∃ (i : Nat), i ≤ ls.length ∧ j = .int .i64 i ∧ (fun wz : World => ∀ b, b ≠ GB → b < wO.heap.size → wz.heap[b]? = wO.heap[b]?) wr ∧ wO.heap.size ≤ wr.heap.size ∧ Below w.heap.size w wr ∧ wr.there GB 0 (ls.length * 2) ∧
          ∀ q, q < ls.length → wr.cell? ⟨GB, q * 2, none⟩ = some (.int .i64 ((movTo zs ls i).getD q (0, 0)).1) ∧ wr.cell? ⟨GB, q * 2 + 1, none⟩ = some (.int .i64 ((movTo zs ls i).getD q (0, 0)).2)) (fun j _ => ls.length - (intOf j).toNat)
      case atStart => exact ⟨0, by omega, rfl, fun b _ _ => rfl, Nat.le_refl _, HBO.out, tO, zO⟩
      case round =>
        obtain ⟨i, hi, rfl, hSr, hsz, hbr, hth, hown⟩ := hrel
        have HBR : Hid (Below w.heap.size w wr) := hbr
        have HTR : Hid (wr.there GB 0 (ls.length * 2)) := hth
        have HOW : Hid (∀ q, q < ls.length → wr.cell? ⟨GB, q * 2, none⟩ = some (.int .i64 ((movTo zs ls i).getD q (0, 0)).1) ∧ wr.cell? ⟨GB, q * 2 + 1, none⟩ = some (.int .i64 ((movTo zs ls i).getD q (0, 0)).2)) := hown
        have HSR : Hid ((fun wz : World => ∀ b, b ≠ GB → b < wO.heap.size → wz.heap[b]? = wO.heap[b]?) wr) := hSr
        have klo := KL.out.2.1
        by_cases hlt : i < ls.length
        · have i0' : (0 : Int) ≤ (i : Int) := by omega
          have i1' : (i : Int) < (ls.length : Int) := by omega
          obtain ⟨lb, lo', k, t, hx, rfl, hlb, k0, k1⟩ := HLB.out i hlt
          obtain ⟨rb, ro, m, hra, hrb, hm, hzm, c0⟩ := RCB.out i hlt
          have hrz : (i : Int) < (zs.length : Int) := by rw [HRLN.out]; exact i1'
          subst hra
          have m0' : (0 : Int) ≤ (m : Int) := by omega
          have m1' : (m : Int) < (ls.length : Int) := by omega
          have HX : Hid _ := hx
          have HZM : Hid _ := hzm
          have HLC : Hid (∀ wz : World, (fun wz : World => ∀ b, b ≠ GB → b < wO.heap.size → wz.heap[b]? = wO.heap[b]?) wz → wz.cell? ⟨lb, lo' + i * 2, none⟩ = some (.int .i64 k) ∧ wz.cell? ⟨lb, lo' + i * 2 + 1, none⟩ = some (.int .i64 t)) := (show ∀ wz : World, _ from fun wz hS => ⟨HLO.out wz hS lb _ _ hlb k0, HLO.out wz hS lb _ _ hlb k1⟩)
          have HRC : Hid (∀ wz : World, (fun wz : World => ∀ b, b ≠ GB → b < wO.heap.size → wz.heap[b]? = wO.heap[b]?) wz → wz.cell? ⟨rb, ro + i, none⟩ = some (.int .i64 (m : Int))) := (show ∀ wz : World, _ from fun wz hS => HLO.out wz hS rb _ _ hrb c0)
          have HPC : Hid (∀ wz : World, (fun wz : World => ∀ b, b ≠ GB → b < wO.heap.size → wz.heap[b]? = wO.heap[b]?) wz → wz.cell? ⟨w.heap.size, 0, none⟩ = some (.slice (some ⟨lb, lo', none⟩) ls.length lc)) := (show ∀ wz : World, _ from fun wz hS => (World.cell?_of_block (hS w.heap.size (by omega) (by omega))).trans HPO.out.1)
          have HBX : Hid (∀ wz : World, (fun wz : World => ∀ b, b ≠ GB → b < wO.heap.size → wz.heap[b]? = wO.heap[b]?) wz → wz.cell? ⟨OB, 0, none⟩ = some (.slice (some ⟨GB, 0, none⟩) ls.length ls.length)) := (show ∀ wz : World, _ from fun wz hS => (World.cell?_of_block (hS OB (fun h => dgo h.symm) klo)).trans HCO.out.1.1)
          obtain ⟨g0, g1⟩ := hown m hm
          have f0 : wr.frozen? ⟨GB, m * 2, none⟩ = false := by have := (hth (m * 2) (by omega)).2; rwa [Nat.zero_add] at this
          have f1 : wr.frozen? ⟨GB, m * 2 + 1, none⟩ = false := by have := (hth (m * 2 + 1) (by omega)).2; rwa [Nat.zero_add] at this
          clear hbr hth hown k0 k1 c0 hx hzm
          go_upto_region 7 with fail
          refine wp_region_held (S := (fun wz : World => ∀ b, b ≠ GB → b < wO.heap.size → wz.heap[b]? = wO.heap[b]?)) (by kernel_rfl) ?_
          change wpAnyH _ _ _ _ _ _ _ _ (World.drew _)
          have hHeld := (show (fun wz : World => ∀ b, b ≠ GB → b < wO.heap.size → wz.heap[b]? = wO.heap[b]?) (World.drew wr) from hSr)
          clear hSr
          refine' wpAnyH_take (i := 0) (v := _) rfl (by kernel_rfl) (by kernel_rfl) (by kernel_rfl) (fun _ _ _ h => h) (Or.inl ⟨by rfl, ?hy2408⟩) hHeld ?hn2408
          case hy2408 => (intro wz hSw; go_simp; first | done | with_reducible rfl)
          try simp only [nrm, Act.put]
          refine' wpAnyH_take (i := 1) (v := (.slice (some ⟨GB, 0, none⟩) ls.length ls.length)) rfl (by kernel_rfl) (by kernel_rfl) (by kernel_rfl) (fun _ _ _ h => h) (Or.inl ⟨by rfl, ?hy2409⟩) hHeld ?hn2409
          case hy2409 => (intro wz hSw; have j0 := HBX.out wz hSw; go_simp)
          try simp only [nrm, Act.put]
          refine' wpAnyH_take (i := 2) (v := _) rfl (by kernel_rfl) (by kernel_rfl) (by kernel_rfl) (fun _ _ _ h => h) (Or.inl ⟨by rfl, ?hy2410⟩) hHeld ?hn2410
          case hy2410 => (intro wz hSw; go_simp; first | done | with_reducible rfl)
          try simp only [nrm, Act.put]
          refine' wpAnyH_take (i := 3) (v := _) rfl (by kernel_rfl) (by kernel_rfl) (by kernel_rfl) (fun _ _ _ h => h) (Or.inl ⟨by rfl, ?hy2411⟩) hHeld ?hn2411
          case hy2411 => (intro wz hSw; go_simp; first | done | with_reducible rfl)
          try simp only [nrm, Act.put]
          refine' wpAnyH_take (i := 4) (v := _) rfl (by kernel_rfl) (by kernel_rfl) (by kernel_rfl) (fun _ _ _ h => h) (Or.inl ⟨by rfl, ?hy2412⟩) hHeld ?hn2412
          case hy2412 => (intro wz hSw; go_simp; first | done | with_reducible rfl)
          try simp only [nrm, Act.put]
          refine' wpAnyH_take (i := 5) (v := (.int .i64 (m : Int))) rfl (by kernel_rfl) (by kernel_rfl) (by kernel_rfl) (fun _ _ _ h => h) (Or.inl ⟨by rfl, ?hy2413⟩) hHeld ?hn2413
          case hy2413 => (intro wz hSw; have j0 := HRC.out wz hSw; go_simp)
          try simp only [nrm, Act.put]
          refine' wpAnyH_take (i := 6) (v := _) rfl (by kernel_rfl) (by kernel_rfl) (by kernel_rfl) (fun _ _ _ h => h) (Or.inl ⟨by rfl, ?hy2414⟩) hHeld ?hn2414
          case hy2414 => (intro wz hSw; go_simp; first | done | with_reducible rfl)
          try simp only [nrm, Act.put]
          refine' wpAnyH_take (i := 7) (v := (.slice (some ⟨lb, lo', none⟩) ls.length lc)) rfl (by kernel_rfl) (by kernel_rfl) (by kernel_rfl) (fun _ _ _ h => h) (Or.inl ⟨by rfl, ?hy2415⟩) hHeld ?hn2415
          case hy2415 => (intro wz hSw; have j0 := HPC.out wz hSw; go_simp)
          try simp only [nrm, Act.put]
          refine' wpAnyH_take (i := 8) (v := _) rfl (by kernel_rfl) (by kernel_rfl) (by kernel_rfl) (fun _ _ _ h => h) (Or.inl ⟨by rfl, ?hy2416⟩) hHeld ?hn2416
          case hy2416 => (intro wz hSw; go_simp; first | done | with_reducible rfl)
          try simp only [nrm, Act.put]
          refine' wpAnyH_take (i := 9) (v := _) rfl (by kernel_rfl) (by kernel_rfl) (by kernel_rfl) (fun _ _ _ h => h) (Or.inl ⟨by rfl, ?hy2417⟩) hHeld ?hn2417
          case hy2417 => (intro wz hSw; go_simp; first | done | with_reducible rfl)
          try simp only [nrm, Act.put]
          refine' wpAnyH_take (i := 10) (v := (.agg #[.int .i64 k, .int .i64 t])) rfl (by kernel_rfl) (by kernel_rfl) (by kernel_rfl) (fun _ _ _ h => h) (Or.inl ⟨by rfl, ?hy2418⟩) hHeld ?hn2418
          case hy2418 => (intro wz hSw; obtain ⟨j0, j1⟩ := HLC.out wz hSw; go_simp)
          try simp only [nrm, Act.put]
          refine' wpAnyH_take (i := 11) (v := _) rfl (by kernel_rfl) (by kernel_rfl) (by kernel_rfl) (fun _ _ _ h => h) (Or.inl ⟨by rfl, ?hy2419⟩) hHeld ?hn2419
          case hy2419 => (intro wz hSw; go_simp; first | done | with_reducible rfl)
          try simp only [nrm, Act.put]
          refine wpAnyH_ready (rs := [12]) (by kernel_rfl) (by simp) ?_
          refine AllReadyH.cons rfl (fun K hK => ?_) AllReadyH.nil
          have hq3 : (fun wz : World => ∀ b, b ≠ GB → b < wO.heap.size → wz.heap[b]? = wO.heap[b]?) (World.setCell (World.setCell (World.drew wr) ⟨GB, m * 2, none⟩ (.int .i64 k)) ⟨GB, m * 2 + 1, none⟩ (.int .i64 t)) := fun b h1 h2 => ((Below.heap_setCell _ _ _ _ h1).trans (Below.heap_setCell _ _ _ _ h1)).trans (hHeld b h1 h2)
          go_simp
          refine hK.out _ _ (hq3) (fun hHeld => ?_)
          clear hK K
          refine wpAnyH_done (by kernel_rfl) ?_ _
          have HQ3 : Hid _ := hHeld
          clear hHeld hq3
          go_wp2
          refine ⟨⟨i + 1, by omega, by simp, HQ3.out, by simp [World.setCell]; omega, Below.drew ((HBR.out.setCell (p := ⟨GB, m * 2, none⟩) (by show w.heap.size ≤ GB; omega) _).setCell (p := ⟨GB, m * 2 + 1, none⟩) (by show w.heap.size ≤ GB; omega) _), World.there_setCells (w := wr) HTR.out GB (m * 2) [.int .i64 k, .int .i64 t], ?_⟩, by simp [intOf]; omega⟩
          intro q hq
          obtain ⟨h1, h2⟩ := HOW.out q hq
          rw [movTo_succ, HZM.out, HX.out]
          by_cases hqm : q = m
          · subst hqm
            have e : ((movTo zs ls i).set q (k, t)).getD q (0, 0) = (k, t) := by
              rw [List.getD_eq_getElem?_getD, List.getElem?_set_self (by rw [movTo_len]; exact hq)]; rfl
            rw [e]
            refine ⟨?_, ?_⟩
            · show ((wr.setCell ⟨GB, q * 2, none⟩ (.int .i64 k)).setCell ⟨GB, q * 2 + 1, none⟩ (.int .i64 t)).cell? _ = _
              rw [World.cell?_setCell_other _ _ _ _ (by simp)]
              exact World.cell?_setCell_same _ _ _ h1
            · show ((wr.setCell ⟨GB, q * 2, none⟩ (.int .i64 k)).setCell ⟨GB, q * 2 + 1, none⟩ (.int .i64 t)).cell? _ = _
              exact World.cell?_setCell_same _ _ _ ((World.cell?_setCell_other _ _ _ _ (by simp)).trans h2)
          · have e : ((movTo zs ls i).set m (k, t)).getD q (0, 0) = (movTo zs ls i).getD q (0, 0) := by
              rw [List.getD_eq_getElem?_getD, List.getElem?_set_ne (fun h => hqm h.symm), ← List.getD_eq_getElem?_getD]
            rw [e]
            refine ⟨?_, ?_⟩
            · show ((wr.setCell ⟨GB, m * 2, none⟩ (.int .i64 k)).setCell ⟨GB, m * 2 + 1, none⟩ (.int .i64 t)).cell? _ = _
              rw [World.cell?_setCell_other _ _ _ _ (by simp <;> omega), World.cell?_setCell_other _ _ _ _ (by simp <;> omega)]; exact h1
            · show ((wr.setCell ⟨GB, m * 2, none⟩ (.int .i64 k)).setCell ⟨GB, m * 2 + 1, none⟩ (.int .i64 t)).cell? _ = _
              rw [World.cell?_setCell_other _ _ _ _ (by simp <;> omega), World.cell?_setCell_other _ _ _ _ (by simp <;> omega)]; exact h2
        · have hie : i = ls.length := by omega
          subst hie
          have hzl : ¬ ((ls.length : Int) < (zs.length : Int)) := by rw [HRLN.out]; omega
          obtain ⟨⟨z0, z1⟩, y0, y1⟩ := HZO.out.same (hSr (w.heap.size + 1) (by omega) (by omega))
          obtain ⟨⟨o0, o1⟩, -⟩ := HCO.out.same (hSr OB (fun h => dgo h.symm) klo)
          have ST0 := set_two0 (v0 := (.slice (some ⟨GB, 0, none⟩) ls.length ls.length)) (v1 := (.slice sa' (ln d TT) sc')) z0 z1
          have ST1 := set_two1 (v0 := (.slice (some ⟨GB, 0, none⟩) ls.length ls.length)) (v1 := (.slice sa' (ln d TT) sc')) z0 z1
          clear hbr hth hown hSr
          go_wp2
          refine bodyPost_ret (v := .tuple #[.agg #[(.slice (some ⟨GB, 0, none⟩) ls.length ls.length), (.slice sa' (ln d TT) sc')], .bool true]) (by simp [results, Try.results36, go_sem, ST0, ST1]) rfl ?_
          have hne : ∀ b, b ≠ (w.heap.size + 1) → ((wr.setCell ⟨(w.heap.size + 1), 0, none⟩ (.slice (some ⟨GB, 0, none⟩) ls.length ls.length)).setCell ⟨(w.heap.size + 1), 1, none⟩ (.slice sa' (ln d TT) sc')).heap[b]? = wr.heap[b]? := fun b hb => (Below.heap_setCell _ _ _ _ hb).trans (Below.heap_setCell _ _ _ _ hb)
          have sF : ((wr.setCell ⟨(w.heap.size + 1), 0, none⟩ (.slice (some ⟨GB, 0, none⟩) ls.length ls.length)).setCell ⟨(w.heap.size + 1), 1, none⟩ (.slice sa' (ln d TT) sc')).heap.size = wr.heap.size := by simp [World.setCell]
          have BF := (HBR.out.setCell (p := ⟨(w.heap.size + 1), 0, none⟩) (by show w.heap.size ≤ w.heap.size + 1; omega) (.slice (some ⟨GB, 0, none⟩) ls.length ls.length)).setCell (p := ⟨(w.heap.size + 1), 1, none⟩) (by show w.heap.size ≤ w.heap.size + 1; omega) (.slice sa' (ln d TT) sc')
          have kl := KL.out
          have OW2 : Own ((wr.setCell ⟨(w.heap.size + 1), 0, none⟩ (.slice (some ⟨GB, 0, none⟩) ls.length ls.length)).setCell ⟨(w.heap.size + 1), 1, none⟩ (.slice sa' (ln d TT) sc')) d (.slice sa' (ln d TT) sc') (mapT (varF zs) d T) b2 := by
            rw [HTT.out]
            exact Own.frame (fun b hb => (hne b (by have := L_b.out b hb; omega)).trans (HSR.out b (D_gb.out b hb) (kl.2.2 b hb))) HXO.out
          by_cases hn0 : ls.length = 0
          · have hl0 : ls = [] := List.eq_nil_of_length_eq_zero hn0
            refine ⟨_, _, [], b2, rfl, BF, .inl ⟨by rw [movL_len]; exact hn0, ⟨_, _, by rw [hn0], by unfold maxLen; omega⟩, rfl⟩, OW2, ?_, HN2.out, by simp⟩
            intro b hb
            have hb' : b ∈ b2 := by simpa using hb
            have := L_b.out b hb'
            have := kl.2.2 b hb'
            omega
          · refine ⟨_, _, [GB], b2, rfl, BF, .inr ⟨by rw [movL_len]; omega, GB, ls.length, by rw [movL_len], by rw [movL_len]; exact Nat.le_refl _, by unfold maxLen; omega, by rw [movL_len]; exact there_same (hne GB (by omega)) HTR.out, rfl, fun q hq => ?_⟩, OW2, ?_, HN2.out, ?_⟩
            · have hq' : q < ls.length := by rwa [movL_len] at hq
              have hg : (movTo zs ls ls.length).getD q (0, 0) = (movL zs ls)[q] := by
                rw [List.getD_eq_getElem?_getD]; unfold movL; rw [List.getElem?_eq_getElem (by rw [movTo_len]; exact hq'), Option.getD_some]; rfl
              obtain ⟨h1, h2⟩ := HOW.out q hq'
              rw [hg] at h1 h2
              intro j v hv
              match j, hv with
              | 0, hv => cases hv; exact (World.cell?_of_block (hne GB (by omega))).trans h1
              | 1, hv => cases hv; exact (World.cell?_of_block (hne GB (by omega))).trans h2
              | (j + 2), hv => simp at hv
            · intro b hb
              rcases List.mem_append.1 hb with hb | hb
              · obtain rfl : b = GB := by simpa using hb
                omega
              · have := L_b.out b hb
                have := kl.2.2 b hb
                omega
            · intro b hb hb'
              obtain rfl : b = GB := by simpa using hb
              exact D_gb.out _ hb' rfl
    · go_simp
      have bo : Below wg.heap.size wg (wg.alloc (.cells #[.slice none 0 0, .slice none 0 0] 43)) := (Below.refl _ _).alloc (Nat.le_refl _) _
      have co := C2.new wg (.slice none 0 0) (.slice none 0 0) 43
      have so : wg.heap.size < (wg.alloc (.cells #[.slice none 0 0, .slice none 0 0] 43)).heap.size := by simp
      generalize wg.alloc (.cells #[.slice none 0 0, .slice none 0 0] 43) = wo at bo co so ⊢
      have HZwo : Hid (C2 wo (w.heap.size + 1) (.slice none 0 0) (.slice none 0 0)) := C2.same HZwg.out (bo.block _ HScwg.out)
      have HGcwo : Hid ((∀ q, q < ls.length → wo.cell? ⟨GB, q * 2, none⟩ = some (.int .i64 0) ∧ wo.cell? ⟨GB, q * 2 + 1, none⟩ = some (.int .i64 0)) ∧ wo.there GB 0 (ls.length * 2) ∧ GB < wo.heap.size) := ⟨fun q hq => ⟨cell_later bo (HGcwg.out.1 q hq).1, cell_later bo (HGcwg.out.1 q hq).2⟩, there_same (bo.block _ HGcwg.out.2.2) HGcwg.out.2.1, Nat.lt_of_lt_of_le HGcwg.out.2.2 bo.size⟩
      have HScwo : Hid (w.heap.size + 1 < wo.heap.size) := Nat.lt_of_lt_of_le HScwg.out bo.size
      obtain ⟨OB, hOB⟩ : ∃ n, wg.heap.size = n := ⟨_, rfl⟩
      rw [hOB] at co so ⊢
      have L_o : Hid (w.heap.size + 1 < OB) := (show w.heap.size + 1 < OB by have := HScwg.out; omega)
      have D_go : Hid (GB ≠ OB) := (show GB ≠ OB by have := HGcwg.out.2.2; omega)
      have HOcwo : Hid (C2 wo OB (.slice none 0 0) (.slice none 0 0) ∧ OB < wo.heap.size) := ⟨co, so⟩
      have hqo : (fun wz : World => wz.cell? ⟨w.heap.size, 0, none⟩ = some (.slice la ls.length lc) ∧ wz.cell? ⟨w.heap.size, 1, none⟩ = some (.slice sa (ln d T) sc) ∧ Below w.heap.size w wz) wo := ⟨cell_later bo hHeld.1, cell_later bo hHeld.2.1, Below.then hHeld.2.2 bo hHeld.2.2.size⟩
      clear co so bo hOB
      refine hK.out _ _ (hqo) (fun hHeld => ?_)
      clear hK K
      refine wpAnyH_ready (rs := [7]) (by kernel_rfl) (by simp) ?_
      refine AllReadyH.cons rfl (fun K hK => ?_) AllReadyH.nil
      go_simp
      refine Calls.mono (CSt.out _ hHeld.2.2) ?_
      rintro e' wb ⟨sv', b2, rfl, bb, ob2, rb, nb⟩
      obtain ⟨sa', sc', rfl⟩ := ob2.slice
      have HZwb : Hid (C2 wb (w.heap.size + 1) (.slice none 0 0) (.slice none 0 0)) := C2.same HZwo.out (bb.block _ HScwo.out)
      have HGcwb : Hid ((∀ q, q < ls.length → wb.cell? ⟨GB, q * 2, none⟩ = some (.int .i64 0) ∧ wb.cell? ⟨GB, q * 2 + 1, none⟩ = some (.int .i64 0)) ∧ wb.there GB 0 (ls.length * 2) ∧ GB < wb.heap.size) := ⟨fun q hq => ⟨cell_later bb (HGcwo.out.1 q hq).1, cell_later bb (HGcwo.out.1 q hq).2⟩, there_same (bb.block _ HGcwo.out.2.2) HGcwo.out.2.1, Nat.lt_of_lt_of_le HGcwo.out.2.2 bb.size⟩
      have HOcwb : Hid (C2 wb OB (.slice none 0 0) (.slice none 0 0) ∧ OB < wb.heap.size) := ⟨C2.same HOcwo.out.1 (bb.block _ HOcwo.out.2), Nat.lt_of_lt_of_le HOcwo.out.2 bb.size⟩
      have HScwb : Hid (w.heap.size + 1 < wb.heap.size) := Nat.lt_of_lt_of_le HScwo.out bb.size
      have HBcwb : Hid (Own wb d (.slice sa' (ln d TT) sc') TT b2 ∧ ∀ b ∈ b2, b < wb.heap.size) := ⟨ob2, fun b hb => (rb b hb).2⟩
      have L_b : Hid (∀ b ∈ b2, w.heap.size + 1 < b) := (show ∀ b ∈ b2, _ from fun b hb => by have := HScwo.out; have := rb b hb; omega)
      have D_ob : Hid (∀ b ∈ b2, b ≠ OB) := (show ∀ b ∈ b2, _ from fun b hb => by have := HOcwo.out.2; have := rb b hb; omega)
      have D_gb : Hid (∀ b ∈ b2, b ≠ GB) := (show ∀ b ∈ b2, _ from fun b hb => by have := HGcwo.out.2.2; have := rb b hb; omega)
      have HN2 : Hid _ := nb
      have hqb : (fun wz : World => wz.cell? ⟨w.heap.size, 0, none⟩ = some (.slice la ls.length lc) ∧ wz.cell? ⟨w.heap.size, 1, none⟩ = some (.slice sa (ln d T) sc) ∧ Below w.heap.size w wz) wb := ⟨cell_later bb hHeld.1, cell_later bb hHeld.2.1, Below.then hHeld.2.2 bb hHeld.2.2.size⟩
      clear ob2 rb nb bb
      refine hK.out _ _ (hqb) (fun hHeld => ?_)
      clear hK K
      refine' wpAnyH_take (i := 8) (v := _) rfl (by kernel_rfl) (by kernel_rfl) (by kernel_rfl) (fun _ _ _ h => h) (Or.inl ⟨by rfl, ?hy2420⟩) hHeld ?hn2420
      case hy2420 => (intro wz hSw; go_simp; first | done | with_reducible rfl)
      try simp only [nrm, Act.put]
      refine wpAnyH_ready (rs := [10]) (by kernel_rfl) (by simp) ?_
      refine AllReadyH.cons rfl (fun K hK => ?_) AllReadyH.nil
      obtain ⟨⟨o0, o1⟩, g0, g1⟩ := HOcwb.out.1
      go_simp
      have hne : ∀ b, b ≠ OB → ((wb.setCell ⟨OB, 0, none⟩ (.slice (some ⟨GB, 0, none⟩) ls.length ls.length)).setCell ⟨OB, 1, none⟩ (.slice sa' (ln d TT) sc')).heap[b]? = wb.heap[b]? := fun b hb => (Below.heap_setCell _ _ _ _ hb).trans (Below.heap_setCell _ _ _ _ hb)
      have CO := C2.set1 (.slice sa' (ln d TT) sc') (C2.set0 (.slice (some ⟨GB, 0, none⟩) ls.length ls.length) HOcwb.out.1)
      have sS : ((wb.setCell ⟨OB, 0, none⟩ (.slice (some ⟨GB, 0, none⟩) ls.length ls.length)).setCell ⟨OB, 1, none⟩ (.slice sa' (ln d TT) sc')).heap.size = wb.heap.size := by simp [World.setCell]
      have hLo := L_o.out
      have XZ := C2.same HZwb.out (hne _ (by omega))
      have XG : (∀ q, q < ls.length → ((wb.setCell ⟨OB, 0, none⟩ (.slice (some ⟨GB, 0, none⟩) ls.length ls.length)).setCell ⟨OB, 1, none⟩ (.slice sa' (ln d TT) sc')).cell? ⟨GB, q * 2, none⟩ = some (.int .i64 0) ∧ ((wb.setCell ⟨OB, 0, none⟩ (.slice (some ⟨GB, 0, none⟩) ls.length ls.length)).setCell ⟨OB, 1, none⟩ (.slice sa' (ln d TT) sc')).cell? ⟨GB, q * 2 + 1, none⟩ = some (.int .i64 0)) ∧ ((wb.setCell ⟨OB, 0, none⟩ (.slice (some ⟨GB, 0, none⟩) ls.length ls.length)).setCell ⟨OB, 1, none⟩ (.slice sa' (ln d TT) sc')).there GB 0 (ls.length * 2) := ⟨fun q hq => ⟨(World.cell?_of_block (hne GB D_go.out)).trans (HGcwb.out.1 q hq).1, (World.cell?_of_block (hne GB D_go.out)).trans (HGcwb.out.1 q hq).2⟩, there_same (hne GB D_go.out) HGcwb.out.2.1⟩
      have XO : Own ((wb.setCell ⟨OB, 0, none⟩ (.slice (some ⟨GB, 0, none⟩) ls.length ls.length)).setCell ⟨OB, 1, none⟩ (.slice sa' (ln d TT) sc')) d (.slice sa' (ln d TT) sc') TT b2 := Own.frame (fun b hb => hne b (D_ob.out b hb)) HBcwb.out.1
      have hqs : (fun wz : World => wz.cell? ⟨w.heap.size, 0, none⟩ = some (.slice la ls.length lc) ∧ wz.cell? ⟨w.heap.size, 1, none⟩ = some (.slice sa (ln d T) sc) ∧ Below w.heap.size w wz) ((wb.setCell ⟨OB, 0, none⟩ (.slice (some ⟨GB, 0, none⟩) ls.length ls.length)).setCell ⟨OB, 1, none⟩ (.slice sa' (ln d TT) sc')) := ⟨(World.cell?_of_block (hne w.heap.size (by omega))).trans hHeld.1, (World.cell?_of_block (hne w.heap.size (by omega))).trans hHeld.2.1, (hHeld.2.2.setCell (p := ⟨OB, 0, none⟩) (by show w.heap.size ≤ OB; omega) _).setCell (p := ⟨OB, 1, none⟩) (by show w.heap.size ≤ OB; omega) _⟩
      have KL : Hid (GB < ((wb.setCell ⟨OB, 0, none⟩ (.slice (some ⟨GB, 0, none⟩) ls.length ls.length)).setCell ⟨OB, 1, none⟩ (.slice sa' (ln d TT) sc')).heap.size ∧ OB < ((wb.setCell ⟨OB, 0, none⟩ (.slice (some ⟨GB, 0, none⟩) ls.length ls.length)).setCell ⟨OB, 1, none⟩ (.slice sa' (ln d TT) sc')).heap.size ∧ ∀ b ∈ b2, b < ((wb.setCell ⟨OB, 0, none⟩ (.slice (some ⟨GB, 0, none⟩) ls.length ls.length)).setCell ⟨OB, 1, none⟩ (.slice sa' (ln d TT) sc')).heap.size) := (show GB < ((wb.setCell ⟨OB, 0, none⟩ (.slice (some ⟨GB, 0, none⟩) ls.length ls.length)).setCell ⟨OB, 1, none⟩ (.slice sa' (ln d TT) sc')).heap.size ∧ OB < ((wb.setCell ⟨OB, 0, none⟩ (.slice (some ⟨GB, 0, none⟩) ls.length ls.length)).setCell ⟨OB, 1, none⟩ (.slice sa' (ln d TT) sc')).heap.size ∧ ∀ b ∈ b2, b < ((wb.setCell ⟨OB, 0, none⟩ (.slice (some ⟨GB, 0, none⟩) ls.length ls.length)).setCell ⟨OB, 1, none⟩ (.slice sa' (ln d TT) sc')).heap.size by rw [sS]; exact ⟨HGcwb.out.2.2, HOcwb.out.2, HBcwb.out.2⟩)
      clear o0 o1 g0 g1 hne sS hLo
      generalize ((wb.setCell ⟨OB, 0, none⟩ (.slice (some ⟨GB, 0, none⟩) ls.length ls.length)).setCell ⟨OB, 1, none⟩ (.slice sa' (ln d TT) sc')) = wO at CO XZ XG XO hqs KL ⊢
      refine hK.out _ _ (hqs) (fun hHeld => ?_)
      clear hK K
      refine wpAnyH_done (by kernel_rfl) ?_ _
      have HCO : Hid (C2 wO OB (.slice (some ⟨GB, 0, none⟩) ls.length ls.length) (.slice sa' (ln d TT) sc')) := CO
      have HZO : Hid (C2 wO (w.heap.size + 1) (.slice none 0 0) (.slice none 0 0)) := XZ
      have HPO : Hid (wO.cell? ⟨w.heap.size, 0, none⟩ = some (.slice la ls.length lc) ∧ wO.cell? ⟨w.heap.size, 1, none⟩ = some (.slice sa (ln d T) sc)) := ⟨hHeld.1, hHeld.2.1⟩
      have HBO : Hid (Below w.heap.size w wO) := hHeld.2.2
      have HXO : Hid (Own wO d (.slice sa' (ln d TT) sc') TT b2) := XO
      have HTH : Hid (wO.there GB 0 (ls.length * 2)) := XG.2
      have zO : ∀ q, q < ls.length → wO.cell? ⟨GB, q * 2, none⟩ = some (.int .i64 ((movTo zs ls 0).getD q (0, 0)).1) ∧ wO.cell? ⟨GB, q * 2 + 1, none⟩ = some (.int .i64 ((movTo zs ls 0).getD q (0, 0)).2) := fun q hq => by
        have e : (movTo zs ls 0).getD q (0, 0) = (0, 0) := by simp [movTo, List.getD_eq_getElem?_getD, List.getElem?_replicate, hq]
        rw [e]; exact XG.1 q hq
      have tO : wO.there GB 0 (ls.length * 2) := XG.2
      have lg := L_g.out
      have lo := L_o.out
      have dgo := D_go.out
      have HLO : Hid (∀ wz : World, (fun wz : World => ∀ b, b ≠ GB → b < wO.heap.size → wz.heap[b]? = wO.heap[b]?) wz → ∀ b o v, b < w.heap.size → w.cell? ⟨b, o, none⟩ = some v → wz.cell? ⟨b, o, none⟩ = some v) := (show ∀ wz : World, _ from fun wz hS b o v hb hv => (World.cell?_of_block ((hS b (by omega) (by have := HBO.out.size; omega)).trans (HBO.out.block b hb))).trans hv)
      clear CO XZ XO XG hHeld hqs
      go_wp2_with fail
      go_loopw [7] (fun j wr => ∃ (i : Nat), i ≤ ls.length ∧ j = .int .i64 i ∧ (fun wz : World => ∀ b, b ≠ GB → b < wO.heap.size → wz.heap[b]? = wO.heap[b]?) wr ∧ wO.heap.size ≤ wr.heap.size ∧ Below w.heap.size w wr ∧ wr.there GB 0 (ls.length * 2) ∧
          ∀ q, q < ls.length → wr.cell? ⟨GB, q * 2, none⟩ = some (.int .i64 ((movTo zs ls i).getD q (0, 0)).1) ∧ wr.cell? ⟨GB, q * 2 + 1, none⟩ = some (.int .i64 ((movTo zs ls i).getD q (0, 0)).2)) (fun j _ => ls.length - (intOf j).toNat)
      case atStart => exact ⟨0, by omega, rfl, fun b _ _ => rfl, Nat.le_refl _, HBO.out, tO, zO⟩
      case round =>
        obtain ⟨i, hi, rfl, hSr, hsz, hbr, hth, hown⟩ := hrel
        have HBR : Hid (Below w.heap.size w wr) := hbr
        have HTR : Hid (wr.there GB 0 (ls.length * 2)) := hth
        have HOW : Hid (∀ q, q < ls.length → wr.cell? ⟨GB, q * 2, none⟩ = some (.int .i64 ((movTo zs ls i).getD q (0, 0)).1) ∧ wr.cell? ⟨GB, q * 2 + 1, none⟩ = some (.int .i64 ((movTo zs ls i).getD q (0, 0)).2)) := hown
        have HSR : Hid ((fun wz : World => ∀ b, b ≠ GB → b < wO.heap.size → wz.heap[b]? = wO.heap[b]?) wr) := hSr
        have klo := KL.out.2.1
        by_cases hlt : i < ls.length
        · have i0' : (0 : Int) ≤ (i : Int) := by omega
          have i1' : (i : Int) < (ls.length : Int) := by omega
          obtain ⟨lb, lo', k, t, hx, rfl, hlb, k0, k1⟩ := HLB.out i hlt
          obtain ⟨rb, ro, m, hra, hrb, hm, hzm, c0⟩ := RCB.out i hlt
          have hrz : (i : Int) < (zs.length : Int) := by rw [HRLN.out]; exact i1'
          subst hra
          have m0' : (0 : Int) ≤ (m : Int) := by omega
          have m1' : (m : Int) < (ls.length : Int) := by omega
          have HX : Hid _ := hx
          have HZM : Hid _ := hzm
          have HLC : Hid (∀ wz : World, (fun wz : World => ∀ b, b ≠ GB → b < wO.heap.size → wz.heap[b]? = wO.heap[b]?) wz → wz.cell? ⟨lb, lo' + i * 2, none⟩ = some (.int .i64 k) ∧ wz.cell? ⟨lb, lo' + i * 2 + 1, none⟩ = some (.int .i64 t)) := (show ∀ wz : World, _ from fun wz hS => ⟨HLO.out wz hS lb _ _ hlb k0, HLO.out wz hS lb _ _ hlb k1⟩)
          have HRC : Hid (∀ wz : World, (fun wz : World => ∀ b, b ≠ GB → b < wO.heap.size → wz.heap[b]? = wO.heap[b]?) wz → wz.cell? ⟨rb, ro + i, none⟩ = some (.int .i64 (m : Int))) := (show ∀ wz : World, _ from fun wz hS => HLO.out wz hS rb _ _ hrb c0)
          have HPC : Hid (∀ wz : World, (fun wz : World => ∀ b, b ≠ GB → b < wO.heap.size → wz.heap[b]? = wO.heap[b]?) wz → wz.cell? ⟨w.heap.size, 0, none⟩ = some (.slice (some ⟨lb, lo', none⟩) ls.length lc)) := (show ∀ wz : World, _ from fun wz hS => (World.cell?_of_block (hS w.heap.size (by omega) (by omega))).trans HPO.out.1)
          have HBX : Hid (∀ wz : World, (fun wz : World => ∀ b, b ≠ GB → b < wO.heap.size → wz.heap[b]? = wO.heap[b]?) wz → wz.cell? ⟨OB, 0, none⟩ = some (.slice (some ⟨GB, 0, none⟩) ls.length ls.length)) := (show ∀ wz : World, _ from fun wz hS => (World.cell?_of_block (hS OB (fun h => dgo h.symm) klo)).trans HCO.out.1.1)
          obtain ⟨g0, g1⟩ := hown m hm
          have f0 : wr.frozen? ⟨GB, m * 2, none⟩ = false := by have := (hth (m * 2) (by omega)).2; rwa [Nat.zero_add] at this
          have f1 : wr.frozen? ⟨GB, m * 2 + 1, none⟩ = false := by have := (hth (m * 2 + 1) (by omega)).2; rwa [Nat.zero_add] at this
          clear hbr hth hown k0 k1 c0 hx hzm
          go_upto_region 7 with fail
          refine wp_region_held (S := (fun wz : World => ∀ b, b ≠ GB → b < wO.heap.size → wz.heap[b]? = wO.heap[b]?)) (by kernel_rfl) ?_
          change wpAnyH _ _ _ _ _ _ _ _ (World.drew _)
          have hHeld := (show (fun wz : World => ∀ b, b ≠ GB → b < wO.heap.size → wz.heap[b]? = wO.heap[b]?) (World.drew wr) from hSr)
          clear hSr
          refine' wpAnyH_take (i := 0) (v := _) rfl (by kernel_rfl) (by kernel_rfl) (by kernel_rfl) (fun _ _ _ h => h) (Or.inl ⟨by rfl, ?hy2421⟩) hHeld ?hn2421
          case hy2421 => (intro wz hSw; go_simp; first | done | with_reducible rfl)
          try simp only [nrm, Act.put]
          refine' wpAnyH_take (i := 1) (v := (.slice (some ⟨GB, 0, none⟩) ls.length ls.length)) rfl (by kernel_rfl) (by kernel_rfl) (by kernel_rfl) (fun _ _ _ h => h) (Or.inl ⟨by rfl, ?hy2422⟩) hHeld ?hn2422
          case hy2422 => (intro wz hSw; have j0 := HBX.out wz hSw; go_simp)
          try simp only [nrm, Act.put]
          refine' wpAnyH_take (i := 2) (v := _) rfl (by kernel_rfl) (by kernel_rfl) (by kernel_rfl) (fun _ _ _ h => h) (Or.inl ⟨by rfl, ?hy2423⟩) hHeld ?hn2423
          case hy2423 => (intro wz hSw; go_simp; first | done | with_reducible rfl)
          try simp only [nrm, Act.put]
          refine' wpAnyH_take (i := 3) (v := _) rfl (by kernel_rfl) (by kernel_rfl) (by kernel_rfl) (fun _ _ _ h => h) (Or.inl ⟨by rfl, ?hy2424⟩) hHeld ?hn2424
          case hy2424 => (intro wz hSw; go_simp; first | done | with_reducible rfl)
          try simp only [nrm, Act.put]
          refine' wpAnyH_take (i := 4) (v := _) rfl (by kernel_rfl) (by kernel_rfl) (by kernel_rfl) (fun _ _ _ h => h) (Or.inl ⟨by rfl, ?hy2425⟩) hHeld ?hn2425
          case hy2425 => (intro wz hSw; go_simp; first | done | with_reducible rfl)
          try simp only [nrm, Act.put]
          refine' wpAnyH_take (i := 5) (v := (.int .i64 (m : Int))) rfl (by kernel_rfl) (by kernel_rfl) (by kernel_rfl) (fun _ _ _ h => h) (Or.inl ⟨by rfl, ?hy2426⟩) hHeld ?hn2426
          case hy2426 => (intro wz hSw; have j0 := HRC.out wz hSw; go_simp)
          try simp only [nrm, Act.put]
          refine' wpAnyH_take (i := 6) (v := _) rfl (by kernel_rfl) (by kernel_rfl) (by kernel_rfl) (fun _ _ _ h => h) (Or.inl ⟨by rfl, ?hy2427⟩) hHeld ?hn2427
          case hy2427 => (intro wz hSw; go_simp; first | done | with_reducible rfl)
          try simp only [nrm, Act.put]
          refine' wpAnyH_take (i := 7) (v := (.slice (some ⟨lb, lo', none⟩) ls.length lc)) rfl (by kernel_rfl) (by kernel_rfl) (by kernel_rfl) (fun _ _ _ h => h) (Or.inl ⟨by rfl, ?hy2428⟩) hHeld ?hn2428
          case hy2428 => (intro wz hSw; have j0 := HPC.out wz hSw; go_simp)
          try simp only [nrm, Act.put]
          refine' wpAnyH_take (i := 8) (v := _) rfl (by kernel_rfl) (by kernel_rfl) (by kernel_rfl) (fun _ _ _ h => h) (Or.inl ⟨by rfl, ?hy2429⟩) hHeld ?hn2429
          case hy2429 => (intro wz hSw; go_simp; first | done | with_reducible rfl)
          try simp only [nrm, Act.put]
          refine' wpAnyH_take (i := 9) (v := _) rfl (by kernel_rfl) (by kernel_rfl) (by kernel_rfl) (fun _ _ _ h => h) (Or.inl ⟨by rfl, ?hy2430⟩) hHeld ?hn2430
          case hy2430 => (intro wz hSw; go_simp; first | done | with_reducible rfl)
          try simp only [nrm, Act.put]
          refine' wpAnyH_take (i := 10) (v := (.agg #[.int .i64 k, .int .i64 t])) rfl (by kernel_rfl) (by kernel_rfl) (by kernel_rfl) (fun _ _ _ h => h) (Or.inl ⟨by rfl, ?hy2431⟩) hHeld ?hn2431
          case hy2431 => (intro wz hSw; obtain ⟨j0, j1⟩ := HLC.out wz hSw; go_simp)
          try simp only [nrm, Act.put]
          refine' wpAnyH_take (i := 11) (v := _) rfl (by kernel_rfl) (by kernel_rfl) (by kernel_rfl) (fun _ _ _ h => h) (Or.inl ⟨by rfl, ?hy2432⟩) hHeld ?hn2432
          case hy2432 => (intro wz hSw; go_simp; first | done | with_reducible rfl)
          try simp only [nrm, Act.put]
          refine wpAnyH_ready (rs := [12]) (by kernel_rfl) (by simp) ?_
          refine AllReadyH.cons rfl (fun K hK => ?_) AllReadyH.nil
          have hq3 : (fun wz : World => ∀ b, b ≠ GB → b < wO.heap.size → wz.heap[b]? = wO.heap[b]?) (World.setCell (World.setCell (World.drew wr) ⟨GB, m * 2, none⟩ (.int .i64 k)) ⟨GB, m * 2 + 1, none⟩ (.int .i64 t)) := fun b h1 h2 => ((Below.heap_setCell _ _ _ _ h1).trans (Below.heap_setCell _ _ _ _ h1)).trans (hHeld b h1 h2)
          go_simp
          refine hK.out _ _ (hq3) (fun hHeld => ?_)
          clear hK K
          refine wpAnyH_done (by kernel_rfl) ?_ _
          have HQ3 : Hid _ := hHeld
          clear hHeld hq3
          go_wp2
          refine ⟨⟨i + 1, by omega, by simp, HQ3.out, by simp [World.setCell]; omega, Below.drew ((HBR.out.setCell (p := ⟨GB, m * 2, none⟩) (by show w.heap.size ≤ GB; omega) _).setCell (p := ⟨GB, m * 2 + 1, none⟩) (by show w.heap.size ≤ GB; omega) _), World.there_setCells (w := wr) HTR.out GB (m * 2) [.int .i64 k, .int .i64 t], ?_⟩, by simp [intOf]; omega⟩
          intro q hq
          obtain ⟨h1, h2⟩ := HOW.out q hq
          rw [movTo_succ, HZM.out, HX.out]
          by_cases hqm : q = m
          · subst hqm
            have e : ((movTo zs ls i).set q (k, t)).getD q (0, 0) = (k, t) := by
              rw [List.getD_eq_getElem?_getD, List.getElem?_set_self (by rw [movTo_len]; exact hq)]; rfl
            rw [e]
            refine ⟨?_, ?_⟩
            · show ((wr.setCell ⟨GB, q * 2, none⟩ (.int .i64 k)).setCell ⟨GB, q * 2 + 1, none⟩ (.int .i64 t)).cell? _ = _
              rw [World.cell?_setCell_other _ _ _ _ (by simp)]
              exact World.cell?_setCell_same _ _ _ h1
            · show ((wr.setCell ⟨GB, q * 2, none⟩ (.int .i64 k)).setCell ⟨GB, q * 2 + 1, none⟩ (.int .i64 t)).cell? _ = _
              exact World.cell?_setCell_same _ _ _ ((World.cell?_setCell_other _ _ _ _ (by simp)).trans h2)
          · have e : ((movTo zs ls i).set m (k, t)).getD q (0, 0) = (movTo zs ls i).getD q (0, 0) := by
              rw [List.getD_eq_getElem?_getD, List.getElem?_set_ne (fun h => hqm h.symm), ← List.getD_eq_getElem?_getD]
            rw [e]
            refine ⟨?_, ?_⟩
            · show ((wr.setCell ⟨GB, m * 2, none⟩ (.int .i64 k)).setCell ⟨GB, m * 2 + 1, none⟩ (.int .i64 t)).cell? _ = _
              rw [World.cell?_setCell_other _ _ _ _ (by simp <;> omega), World.cell?_setCell_other _ _ _ _ (by simp <;> omega)]; exact h1
            · show ((wr.setCell ⟨GB, m * 2, none⟩ (.int .i64 k)).setCell ⟨GB, m * 2 + 1, none⟩ (.int .i64 t)).cell? _ = _
              rw [World.cell?_setCell_other _ _ _ _ (by simp <;> omega), World.cell?_setCell_other _ _ _ _ (by simp <;> omega)]; exact h2
        · have hie : i = ls.length := by omega
          subst hie
          have hzl : ¬ ((ls.length : Int) < (zs.length : Int)) := by rw [HRLN.out]; omega
          obtain ⟨⟨z0, z1⟩, y0, y1⟩ := HZO.out.same (hSr (w.heap.size + 1) (by omega) (by omega))
          obtain ⟨⟨o0, o1⟩, -⟩ := HCO.out.same (hSr OB (fun h => dgo h.symm) klo)
          have ST0 := set_two0 (v0 := (.slice (some ⟨GB, 0, none⟩) ls.length ls.length)) (v1 := (.slice sa' (ln d TT) sc')) z0 z1
          have ST1 := set_two1 (v0 := (.slice (some ⟨GB, 0, none⟩) ls.length ls.length)) (v1 := (.slice sa' (ln d TT) sc')) z0 z1
          clear hbr hth hown hSr
          go_wp2
          refine bodyPost_ret (v := .tuple #[.agg #[(.slice (some ⟨GB, 0, none⟩) ls.length ls.length), (.slice sa' (ln d TT) sc')], .bool true]) (by simp [results, Try.results36, go_sem, ST0, ST1]) rfl ?_
          have hne : ∀ b, b ≠ (w.heap.size + 1) → ((wr.setCell ⟨(w.heap.size + 1), 0, none⟩ (.slice (some ⟨GB, 0, none⟩) ls.length ls.length)).setCell ⟨(w.heap.size + 1), 1, none⟩ (.slice sa' (ln d TT) sc')).heap[b]? = wr.heap[b]? := fun b hb => (Below.heap_setCell _ _ _ _ hb).trans (Below.heap_setCell _ _ _ _ hb)
          have sF : ((wr.setCell ⟨(w.heap.size + 1), 0, none⟩ (.slice (some ⟨GB, 0, none⟩) ls.length ls.length)).setCell ⟨(w.heap.size + 1), 1, none⟩ (.slice sa' (ln d TT) sc')).heap.size = wr.heap.size := by simp [World.setCell]
          have BF := (HBR.out.setCell (p := ⟨(w.heap.size + 1), 0, none⟩) (by show w.heap.size ≤ w.heap.size + 1; omega) (.slice (some ⟨GB, 0, none⟩) ls.length ls.length)).setCell (p := ⟨(w.heap.size + 1), 1, none⟩) (by show w.heap.size ≤ w.heap.size + 1; omega) (.slice sa' (ln d TT) sc')
          have kl := KL.out
          have OW2 : Own ((wr.setCell ⟨(w.heap.size + 1), 0, none⟩ (.slice (some ⟨GB, 0, none⟩) ls.length ls.length)).setCell ⟨(w.heap.size + 1), 1, none⟩ (.slice sa' (ln d TT) sc')) d (.slice sa' (ln d TT) sc') (mapT (varF zs) d T) b2 := by
            rw [HTT.out]
            exact Own.frame (fun b hb => (hne b (by have := L_b.out b hb; omega)).trans (HSR.out b (D_gb.out b hb) (kl.2.2 b hb))) HXO.out
          by_cases hn0 : ls.length = 0
          · have hl0 : ls = [] := List.eq_nil_of_length_eq_zero hn0
            refine ⟨_, _, [], b2, rfl, BF, .inl ⟨by rw [movL_len]; exact hn0, ⟨_, _, by rw [hn0], by unfold maxLen; omega⟩, rfl⟩, OW2, ?_, HN2.out, by simp⟩
            intro b hb
            have hb' : b ∈ b2 := by simpa using hb
            have := L_b.out b hb'
            have := kl.2.2 b hb'
            omega
          · refine ⟨_, _, [GB], b2, rfl, BF, .inr ⟨by rw [movL_len]; omega, GB, ls.length, by rw [movL_len], by rw [movL_len]; exact Nat.le_refl _, by unfold maxLen; omega, by rw [movL_len]; exact there_same (hne GB (by omega)) HTR.out, rfl, fun q hq => ?_⟩, OW2, ?_, HN2.out, ?_⟩
            · have hq' : q < ls.length := by rwa [movL_len] at hq
              have hg : (movTo zs ls ls.length).getD q (0, 0) = (movL zs ls)[q] := by
                rw [List.getD_eq_getElem?_getD]; unfold movL; rw [List.getElem?_eq_getElem (by rw [movTo_len]; exact hq'), Option.getD_some]; rfl
              obtain ⟨h1, h2⟩ := HOW.out q hq'
              rw [hg] at h1 h2
              intro j v hv
              match j, hv with
              | 0, hv => cases hv; exact (World.cell?_of_block (hne GB (by omega))).trans h1
              | 1, hv => cases hv; exact (World.cell?_of_block (hne GB (by omega))).trans h2
              | (j + 2), hv => simp at hv
            · intro b hb
              rcases List.mem_append.1 hb with hb | hb
              · obtain rfl : b = GB := by simpa using hb
                omega
              · have := L_b.out b hb
                have := kl.2.2 b hb
                omega
            · intro b hb hb'
              obtain rfl : b = GB := by simpa using hb
              exact D_gb.out _ hb' rfl
  · go_simp
    refine Calls.mono (CSt.out _ hHeld.2.2) ?_
    rintro e' wb ⟨sv', b2, rfl, bb, ob2, rb, nb⟩
    obtain ⟨sa', sc', rfl⟩ := ob2.slice
    have HZwb : Hid (C2 wb (w.heap.size + 1) (.slice none 0 0) (.slice none 0 0)) := C2.same HZwd.out (bb.block _ HScwd.out)
    have HScwb : Hid (w.heap.size + 1 < wb.heap.size) := Nat.lt_of_lt_of_le HScwd.out bb.size
    have HBcwb : Hid (Own wb d (.slice sa' (ln d TT) sc') TT b2 ∧ ∀ b ∈ b2, b < wb.heap.size) := ⟨ob2, fun b hb => (rb b hb).2⟩
    have L_b : Hid (∀ b ∈ b2, w.heap.size + 1 < b) := (show ∀ b ∈ b2, _ from fun b hb => by have := HScwd.out; have := rb b hb; omega)
    have HN2 : Hid _ := nb
    have hqb : (fun wz : World => wz.cell? ⟨w.heap.size, 0, none⟩ = some (.slice la ls.length lc) ∧ wz.cell? ⟨w.heap.size, 1, none⟩ = some (.slice sa (ln d T) sc) ∧ Below w.heap.size w wz) wb := ⟨cell_later bb hHeld.1, cell_later bb hHeld.2.1, Below.then hHeld.2.2 bb hHeld.2.2.size⟩
    clear ob2 rb nb bb
    refine hK.out _ _ (hqb) (fun hHeld => ?_)
    clear hK K
    refine wpAnyH_ready (rs := [3, 9]) (by kernel_rfl) (by simp) ?_
    refine AllReadyH.cons rfl (fun K hK => ?_) (AllReadyH.cons rfl (fun K hK => ?_) AllReadyH.nil)
    · refine wp_make_at _ _ _ 40 rfl wb.heap.size 32 i0 _ 2 Try.underlying40 hi0 hz0 hz1 _ _ _ _ ls.length rfl rfl rfl rfl (by rw [hz2]; omega) (by unfold maxLen; omega) (Nat.le_refl _) ?_
      intro wg owng growg
      have bg : Below wb.heap.size wb wg := (Below.refl _ _).grown growg (Nat.le_refl _) (fun k hk => by cases hk)
      have tg := row_there owng
      have sg : wb.heap.size < wg.heap.size := (World.ownsRow.lt owng wb.heap.size rfl).2
      have zg : ∀ q, q < ls.length → wg.cell? ⟨wb.heap.size, q * 2, none⟩ = some (.int .i64 0) ∧ wg.cell? ⟨wb.heap.size, q * 2 + 1, none⟩ = some (.int .i64 0) := fun q hq => by
        refine ⟨?_, ?_⟩
        · rw [World.ownsRow.cellAt owng _ (by omega)]
          simp [madeCells, show q * 2 < ls.length * 2 by omega, Value.cells]
        · rw [World.ownsRow.cellAt owng _ (by omega)]
          simp [madeCells, show q * 2 + 1 < ls.length * 2 by omega, Value.cells, Nat.add_mod]
      clear owng growg
      have HZwg : Hid (C2 wg (w.heap.size + 1) (.slice none 0 0) (.slice none 0 0)) := C2.same HZwb.out (bg.block _ HScwb.out)
      have HBcwg : Hid (Own wg d (.slice sa' (ln d TT) sc') TT b2 ∧ ∀ b ∈ b2, b < wg.heap.size) := ⟨Own.frame (fun b hb => bg.block b (HBcwb.out.2 b hb)) HBcwb.out.1, fun b hb => Nat.lt_of_lt_of_le (HBcwb.out.2 b hb) bg.size⟩
      have HScwg : Hid (w.heap.size + 1 < wg.heap.size) := Nat.lt_of_lt_of_le HScwb.out bg.size
      obtain ⟨GB, hGB⟩ : ∃ n, wb.heap.size = n := ⟨_, rfl⟩
      rw [hGB] at tg sg zg ⊢
      have L_g : Hid (w.heap.size + 1 < GB) := (show w.heap.size + 1 < GB by have := HScwb.out; omega)
      have D_gb : Hid (∀ b ∈ b2, b ≠ GB) := (show ∀ b ∈ b2, _ from fun b hb => by have := HBcwb.out.2 b hb; omega)
      have HGcwg : Hid ((∀ q, q < ls.length → wg.cell? ⟨GB, q * 2, none⟩ = some (.int .i64 0) ∧ wg.cell? ⟨GB, q * 2 + 1, none⟩ = some (.int .i64 0)) ∧ wg.there GB 0 (ls.length * 2) ∧ GB < wg.heap.size) := ⟨zg, tg, sg⟩
      have hqg : (fun wz : World => wz.cell? ⟨w.heap.size, 0, none⟩ = some (.slice la ls.length lc) ∧ wz.cell? ⟨w.heap.size, 1, none⟩ = some (.slice sa (ln d T) sc) ∧ Below w.heap.size w wz) wg := ⟨cell_later bg hHeld.1, cell_later bg hHeld.2.1, Below.then hHeld.2.2 bg hHeld.2.2.size⟩
      clear zg tg sg bg hGB
      refine hK.out _ _ (hqg) (fun hHeld => ?_)
      clear hK K
      refine' wpAnyH_take (i := 8) (v := _) rfl (by kernel_rfl) (by kernel_rfl) (by kernel_rfl) (fun _ _ _ h => h) (Or.inl ⟨by rfl, ?hy2433⟩) hHeld ?hn2433
      case hy2433 => (intro wz hSw; go_simp; first | done | with_reducible rfl)
      try simp only [nrm, Act.put]
      refine wpAnyH_ready (rs := [9]) (by kernel_rfl) (by simp) ?_
      refine AllReadyH.cons rfl (fun K hK => ?_) AllReadyH.nil
      go_simp
      have bo : Below wg.heap.size wg (wg.alloc (.cells #[.slice none 0 0, .slice none 0 0] 43)) := (Below.refl _ _).alloc (Nat.le_refl _) _
      have co := C2.new wg (.slice none 0 0) (.slice none 0 0) 43
      have so : wg.heap.size < (wg.alloc (.cells #[.slice none 0 0, .slice none 0 0] 43)).heap.size := by simp
      generalize wg.alloc (.cells #[.slice none 0 0, .slice none 0 0] 43) = wo at bo co so ⊢
      have HZwo : Hid (C2 wo (w.heap.size + 1) (.slice none 0 0) (.slice none 0 0)) := C2.same HZwg.out (bo.block _ HScwg.out)
      have HGcwo : Hid ((∀ q, q < ls.length → wo.cell? ⟨GB, q * 2, none⟩ = some (.int .i64 0) ∧ wo.cell? ⟨GB, q * 2 + 1, none⟩ = some (.int .i64 0)) ∧ wo.there GB 0 (ls.length * 2) ∧ GB < wo.heap.size) := ⟨fun q hq => ⟨cell_later bo (HGcwg.out.1 q hq).1, cell_later bo (HGcwg.out.1 q hq).2⟩, there_same (bo.block _ HGcwg.out.2.2) HGcwg.out.2.1, Nat.lt_of_lt_of_le HGcwg.out.2.2 bo.size⟩
      have HBcwo : Hid (Own wo d (.slice sa' (ln d TT) sc') TT b2 ∧ ∀ b ∈ b2, b < wo.heap.size) := ⟨Own.frame (fun b hb => bo.block b (HBcwg.out.2 b hb)) HBcwg.out.1, fun b hb => Nat.lt_of_lt_of_le (HBcwg.out.2 b hb) bo.size⟩
      have HScwo : Hid (w.heap.size + 1 < wo.heap.size) := Nat.lt_of_lt_of_le HScwg.out bo.size
      obtain ⟨OB, hOB⟩ : ∃ n, wg.heap.size = n := ⟨_, rfl⟩
      rw [hOB] at co so ⊢
      have L_o : Hid (w.heap.size + 1 < OB) := (show w.heap.size + 1 < OB by have := HScwg.out; omega)
      have D_go : Hid (GB ≠ OB) := (show GB ≠ OB by have := HGcwg.out.2.2; omega)
      have D_ob : Hid (∀ b ∈ b2, b ≠ OB) := (show ∀ b ∈ b2, _ from fun b hb => by have := HBcwg.out.2 b hb; omega)
      have HOcwo : Hid (C2 wo OB (.slice none 0 0) (.slice none 0 0) ∧ OB < wo.heap.size) := ⟨co, so⟩
      have hqo : (fun wz : World => wz.cell? ⟨w.heap.size, 0, none⟩ = some (.slice la ls.length lc) ∧ wz.cell? ⟨w.heap.size, 1, none⟩ = some (.slice sa (ln d T) sc) ∧ Below w.heap.size w wz) wo := ⟨cell_later bo hHeld.1, cell_later bo hHeld.2.1, Below.then hHeld.2.2 bo hHeld.2.2.size⟩
      clear co so bo hOB
      refine hK.out _ _ (hqo) (fun hHeld => ?_)
      clear hK K
      refine wpAnyH_ready (rs := [10]) (by kernel_rfl) (by simp) ?_
      refine AllReadyH.cons rfl (fun K hK => ?_) AllReadyH.nil
      obtain ⟨⟨o0, o1⟩, g0, g1⟩ := HOcwo.out.1
      go_simp
      have hne : ∀ b, b ≠ OB → ((wo.setCell ⟨OB, 0, none⟩ (.slice (some ⟨GB, 0, none⟩) ls.length ls.length)).setCell ⟨OB, 1, none⟩ (.slice sa' (ln d TT) sc')).heap[b]? = wo.heap[b]? := fun b hb => (Below.heap_setCell _ _ _ _ hb).trans (Below.heap_setCell _ _ _ _ hb)
      have CO := C2.set1 (.slice sa' (ln d TT) sc') (C2.set0 (.slice (some ⟨GB, 0, none⟩) ls.length ls.length) HOcwo.out.1)
      have sS : ((wo.setCell ⟨OB, 0, none⟩ (.slice (some ⟨GB, 0, none⟩) ls.length ls.length)).setCell ⟨OB, 1, none⟩ (.slice sa' (ln d TT) sc')).heap.size = wo.heap.size := by simp [World.setCell]
      have hLo := L_o.out
      have XZ := C2.same HZwo.out (hne _ (by omega))
      have XG : (∀ q, q < ls.length → ((wo.setCell ⟨OB, 0, none⟩ (.slice (some ⟨GB, 0, none⟩) ls.length ls.length)).setCell ⟨OB, 1, none⟩ (.slice sa' (ln d TT) sc')).cell? ⟨GB, q * 2, none⟩ = some (.int .i64 0) ∧ ((wo.setCell ⟨OB, 0, none⟩ (.slice (some ⟨GB, 0, none⟩) ls.length ls.length)).setCell ⟨OB, 1, none⟩ (.slice sa' (ln d TT) sc')).cell? ⟨GB, q * 2 + 1, none⟩ = some (.int .i64 0)) ∧ ((wo.setCell ⟨OB, 0, none⟩ (.slice (some ⟨GB, 0, none⟩) ls.length ls.length)).setCell ⟨OB, 1, none⟩ (.slice sa' (ln d TT) sc')).there GB 0 (ls.length * 2) := ⟨fun q hq => ⟨(World.cell?_of_block (hne GB D_go.out)).trans (HGcwo.out.1 q hq).1, (World.cell?_of_block (hne GB D_go.out)).trans (HGcwo.out.1 q hq).2⟩, there_same (hne GB D_go.out) HGcwo.out.2.1⟩
      have XO : Own ((wo.setCell ⟨OB, 0, none⟩ (.slice (some ⟨GB, 0, none⟩) ls.length ls.length)).setCell ⟨OB, 1, none⟩ (.slice sa' (ln d TT) sc')) d (.slice sa' (ln d TT) sc') TT b2 := Own.frame (fun b hb => hne b (D_ob.out b hb)) HBcwo.out.1
      have hqs : (fun wz : World => wz.cell? ⟨w.heap.size, 0, none⟩ = some (.slice la ls.length lc) ∧ wz.cell? ⟨w.heap.size, 1, none⟩ = some (.slice sa (ln d T) sc) ∧ Below w.heap.size w wz) ((wo.setCell ⟨OB, 0, none⟩ (.slice (some ⟨GB, 0, none⟩) ls.length ls.length)).setCell ⟨OB, 1, none⟩ (.slice sa' (ln d TT) sc')) := ⟨(World.cell?_of_block (hne w.heap.size (by omega))).trans hHeld.1, (World.cell?_of_block (hne w.heap.size (by omega))).trans hHeld.2.1, (hHeld.2.2.setCell (p := ⟨OB, 0, none⟩) (by show w.heap.size ≤ OB; omega) _).setCell (p := ⟨OB, 1, none⟩) (by show w.heap.size ≤ OB; omega) _⟩
      have KL : Hid (GB < ((wo.setCell ⟨OB, 0, none⟩ (.slice (some ⟨GB, 0, none⟩) ls.length ls.length)).setCell ⟨OB, 1, none⟩ (.slice sa' (ln d TT) sc')).heap.size ∧ OB < ((wo.setCell ⟨OB, 0, none⟩ (.slice (some ⟨GB, 0, none⟩) ls.length ls.length)).setCell ⟨OB, 1, none⟩ (.slice sa' (ln d TT) sc')).heap.size ∧ ∀ b ∈ b2, b < ((wo.setCell ⟨OB, 0, none⟩ (.slice (some ⟨GB, 0, none⟩) ls.length ls.length)).setCell ⟨OB, 1, none⟩ (.slice sa' (ln d TT) sc')).heap.size) := (show GB < ((wo.setCell ⟨OB, 0, none⟩ (.slice (some ⟨GB, 0, none⟩) ls.length ls.length)).setCell ⟨OB, 1, none⟩ (.slice sa' (ln d TT) sc')).heap.size ∧ OB < ((wo.setCell ⟨OB, 0, none⟩ (.slice (some ⟨GB, 0, none⟩) ls.length ls.length)).setCell ⟨OB, 1, none⟩ (.slice sa' (ln d TT) sc')).heap.size ∧ ∀ b ∈ b2, b < ((wo.setCell ⟨OB, 0, none⟩ (.slice (some ⟨GB, 0, none⟩) ls.length ls.length)).setCell ⟨OB, 1, none⟩ (.slice sa' (ln d TT) sc')).heap.size by rw [sS]; exact ⟨HGcwo.out.2.2, HOcwo.out.2, HBcwo.out.2⟩)
      clear o0 o1 g0 g1 hne sS hLo
      generalize ((wo.setCell ⟨OB, 0, none⟩ (.slice (some ⟨GB, 0, none⟩) ls.length ls.length)).setCell ⟨OB, 1, none⟩ (.slice sa' (ln d TT) sc')) = wO at CO XZ XG XO hqs KL ⊢
      refine hK.out _ _ (hqs) (fun hHeld => ?_)
      clear hK K
      refine wpAnyH_done (by kernel_rfl) ?_ _
      have HCO : Hid (C2 wO OB (.slice (some ⟨GB, 0, none⟩) ls.length ls.length) (.slice sa' (ln d TT) sc')) := CO
      have HZO : Hid (C2 wO (w.heap.size + 1) (.slice none 0 0) (.slice none 0 0)) := XZ
      have HPO : Hid (wO.cell? ⟨w.heap.size, 0, none⟩ = some (.slice la ls.length lc) ∧ wO.cell? ⟨w.heap.size, 1, none⟩ = some (.slice sa (ln d T) sc)) := ⟨hHeld.1, hHeld.2.1⟩
      have HBO : Hid (Below w.heap.size w wO) := hHeld.2.2
      have HXO : Hid (Own wO d (.slice sa' (ln d TT) sc') TT b2) := XO
      have HTH : Hid (wO.there GB 0 (ls.length * 2)) := XG.2
      have zO : ∀ q, q < ls.length → wO.cell? ⟨GB, q * 2, none⟩ = some (.int .i64 ((movTo zs ls 0).getD q (0, 0)).1) ∧ wO.cell? ⟨GB, q * 2 + 1, none⟩ = some (.int .i64 ((movTo zs ls 0).getD q (0, 0)).2) := fun q hq => by
        have e : (movTo zs ls 0).getD q (0, 0) = (0, 0) := by simp [movTo, List.getD_eq_getElem?_getD, List.getElem?_replicate, hq]
        rw [e]; exact XG.1 q hq
      have tO : wO.there GB 0 (ls.length * 2) := XG.2
      have lg := L_g.out
      have lo := L_o.out
      have dgo := D_go.out
      have HLO : Hid (∀ wz : World, (fun wz : World => ∀ b, b ≠ GB → b < wO.heap.size → wz.heap[b]? = wO.heap[b]?) wz → ∀ b o v, b < w.heap.size → w.cell? ⟨b, o, none⟩ = some v → wz.cell? ⟨b, o, none⟩ = some v) := (show ∀ wz : World, _ from fun wz hS b o v hb hv => (World.cell?_of_block ((hS b (by omega) (by have := HBO.out.size; omega)).trans (HBO.out.block b hb))).trans hv)
      clear CO XZ XO XG hHeld hqs
      go_wp2_with fail
      go_loopw [7] (fun j wr => ∃ (i : Nat), i ≤ ls.length ∧ j = .int .i64 i ∧ (fun wz : World => ∀ b, b ≠ GB → b < wO.heap.size → wz.heap[b]? = wO.heap[b]?) wr ∧ wO.heap.size ≤ wr.heap.size ∧ Below w.heap.size w wr ∧ wr.there GB 0 (ls.length * 2) ∧
          ∀ q, q < ls.length → wr.cell? ⟨GB, q * 2, none⟩ = some (.int .i64 ((movTo zs ls i).getD q (0, 0)).1) ∧ wr.cell? ⟨GB, q * 2 + 1, none⟩ = some (.int .i64 ((movTo zs ls i).getD q (0, 0)).2)) (fun j _ => ls.length - (intOf j).toNat)
      case atStart => exact ⟨0, by omega, rfl, fun b _ _ => rfl, Nat.le_refl _, HBO.out, tO, zO⟩
      case round =>
        obtain ⟨i, hi, rfl, hSr, hsz, hbr, hth, hown⟩ := hrel
        have HBR : Hid (Below w.heap.size w wr) := hbr
        have HTR : Hid (wr.there GB 0 (ls.length * 2)) := hth
        have HOW : Hid (∀ q, q < ls.length → wr.cell? ⟨GB, q * 2, none⟩ = some (.int .i64 ((movTo zs ls i).getD q (0, 0)).1) ∧ wr.cell? ⟨GB, q * 2 + 1, none⟩ = some (.int .i64 ((movTo zs ls i).getD q (0, 0)).2)) := hown
        have HSR : Hid ((fun wz : World => ∀ b, b ≠ GB → b < wO.heap.size → wz.heap[b]? = wO.heap[b]?) wr) := hSr
        have klo := KL.out.2.1
        by_cases hlt : i < ls.length
        · have i0' : (0 : Int) ≤ (i : Int) := by omega
          have i1' : (i : Int) < (ls.length : Int) := by omega
          obtain ⟨lb, lo', k, t, hx, rfl, hlb, k0, k1⟩ := HLB.out i hlt
          obtain ⟨rb, ro, m, hra, hrb, hm, hzm, c0⟩ := RCB.out i hlt
          have hrz : (i : Int) < (zs.length : Int) := by rw [HRLN.out]; exact i1'
          subst hra
          have m0' : (0 : Int) ≤ (m : Int) := by omega
          have m1' : (m : Int) < (ls.length : Int) := by omega
          have HX : Hid _ := hx
          have HZM : Hid _ := hzm
          have HLC : Hid (∀ wz : World, (fun wz : World => ∀ b, b ≠ GB → b < wO.heap.size → wz.heap[b]? = wO.heap[b]?) wz → wz.cell? ⟨lb, lo' + i * 2, none⟩ = some (.int .i64 k) ∧ wz.cell? ⟨lb, lo' + i * 2 + 1, none⟩ = some (.int .i64 t)) := (show ∀ wz : World, _ from fun wz hS => ⟨HLO.out wz hS lb _ _ hlb k0, HLO.out wz hS lb _ _ hlb k1⟩)
          have HRC : Hid (∀ wz : World, (fun wz : World => ∀ b, b ≠ GB → b < wO.heap.size → wz.heap[b]? = wO.heap[b]?) wz → wz.cell? ⟨rb, ro + i, none⟩ = some (.int .i64 (m : Int))) := (show ∀ wz : World, _ from fun wz hS => HLO.out wz hS rb _ _ hrb c0)
          have HPC : Hid (∀ wz : World, (fun wz : World => ∀ b, b ≠ GB → b < wO.heap.size → wz.heap[b]? = wO.heap[b]?) wz → wz.cell? ⟨w.heap.size, 0, none⟩ = some (.slice (some ⟨lb, lo', none⟩) ls.length lc)) := (show ∀ wz : World, _ from fun wz hS => (World.cell?_of_block (hS w.heap.size (by omega) (by omega))).trans HPO.out.1)
          have HBX : Hid (∀ wz : World, (fun wz : World => ∀ b, b ≠ GB → b < wO.heap.size → wz.heap[b]? = wO.heap[b]?) wz → wz.cell? ⟨OB, 0, none⟩ = some (.slice (some ⟨GB, 0, none⟩) ls.length ls.length)) := (show ∀ wz : World, _ from fun wz hS => (World.cell?_of_block (hS OB (fun h => dgo h.symm) klo)).trans HCO.out.1.1)
          obtain ⟨g0, g1⟩ := hown m hm
          have f0 : wr.frozen? ⟨GB, m * 2, none⟩ = false := by have := (hth (m * 2) (by omega)).2; rwa [Nat.zero_add] at this
          have f1 : wr.frozen? ⟨GB, m * 2 + 1, none⟩ = false := by have := (hth (m * 2 + 1) (by omega)).2; rwa [Nat.zero_add] at this
          clear hbr hth hown k0 k1 c0 hx hzm
          go_upto_region 7 with fail
          refine wp_region_held (S := (fun wz : World => ∀ b, b ≠ GB → b < wO.heap.size → wz.heap[b]? = wO.heap[b]?)) (by kernel_rfl) ?_
          change wpAnyH _ _ _ _ _ _ _ _ (World.drew _)
          have hHeld := (show (fun wz : World => ∀ b, b ≠ GB → b < wO.heap.size → wz.heap[b]? = wO.heap[b]?) (World.drew wr) from hSr)
          clear hSr
          refine' wpAnyH_take (i := 0) (v := _) rfl (by kernel_rfl) (by kernel_rfl) (by kernel_rfl) (fun _ _ _ h => h) (Or.inl ⟨by rfl, ?hy2434⟩) hHeld ?hn2434
          case hy2434 => (intro wz hSw; go_simp; first | done | with_reducible rfl)
          try simp only [nrm, Act.put]
          refine' wpAnyH_take (i := 1) (v := (.slice (some ⟨GB, 0, none⟩) ls.length ls.length)) rfl (by kernel_rfl) (by kernel_rfl) (by kernel_rfl) (fun _ _ _ h => h) (Or.inl ⟨by rfl, ?hy2435⟩) hHeld ?hn2435
          case hy2435 => (intro wz hSw; have j0 := HBX.out wz hSw; go_simp)
          try simp only [nrm, Act.put]
          refine' wpAnyH_take (i := 2) (v := _) rfl (by kernel_rfl) (by kernel_rfl) (by kernel_rfl) (fun _ _ _ h => h) (Or.inl ⟨by rfl, ?hy2436⟩) hHeld ?hn2436
          case hy2436 => (intro wz hSw; go_simp; first | done | with_reducible rfl)
          try simp only [nrm, Act.put]
          refine' wpAnyH_take (i := 3) (v := _) rfl (by kernel_rfl) (by kernel_rfl) (by kernel_rfl) (fun _ _ _ h => h) (Or.inl ⟨by rfl, ?hy2437⟩) hHeld ?hn2437
          case hy2437 => (intro wz hSw; go_simp; first | done | with_reducible rfl)
          try simp only [nrm, Act.put]
          refine' wpAnyH_take (i := 4) (v := _) rfl (by kernel_rfl) (by kernel_rfl) (by kernel_rfl) (fun _ _ _ h => h) (Or.inl ⟨by rfl, ?hy2438⟩) hHeld ?hn2438
          case hy2438 => (intro wz hSw; go_simp; first | done | with_reducible rfl)
          try simp only [nrm, Act.put]
          refine' wpAnyH_take (i := 5) (v := (.int .i64 (m : Int))) rfl (by kernel_rfl) (by kernel_rfl) (by kernel_rfl) (fun _ _ _ h => h) (Or.inl ⟨by rfl, ?hy2439⟩) hHeld ?hn2439
          case hy2439 => (intro wz hSw; have j0 := HRC.out wz hSw; go_simp)
          try simp only [nrm, Act.put]
          refine' wpAnyH_take (i := 6) (v := _) rfl (by kernel_rfl) (by kernel_rfl) (by kernel_rfl) (fun _ _ _ h => h) (Or.inl ⟨by rfl, ?hy2440⟩) hHeld ?hn2440
          case hy2440 => (intro wz hSw; go_simp; first | done | with_reducible rfl)
          try simp only [nrm, Act.put]
          refine' wpAnyH_take (i := 7) (v := (.slice (some ⟨lb, lo', none⟩) ls.length lc)) rfl (by kernel_rfl) (by kernel_rfl) (by kernel_rfl) (fun _ _ _ h => h) (Or.inl ⟨by rfl, ?hy2441⟩) hHeld ?hn2441
          case hy2441 => (intro wz hSw; have j0 := HPC.out wz hSw; go_simp)
          try simp only [nrm, Act.put]
          refine' wpAnyH_take (i := 8) (v := _) rfl (by kernel_rfl) (by kernel_rfl) (by kernel_rfl) (fun _ _ _ h => h) (Or.inl ⟨by rfl, ?hy2442⟩) hHeld ?hn2442
          case hy2442 => (intro wz hSw; go_simp; first | done | with_reducible rfl)
          try simp only [nrm, Act.put]
          refine' wpAnyH_take (i := 9) (v := _) rfl (by kernel_rfl) (by kernel_rfl) (by kernel_rfl) (fun _ _ _ h => h) (Or.inl ⟨by rfl, ?hy2443⟩) hHeld ?hn2443
          case hy2443 => (intro wz hSw; go_simp; first | done | with_reducible rfl)
          try simp only [nrm, Act.put]
          refine' wpAnyH_take (i := 10) (v := (.agg #[.int .i64 k, .int .i64 t])) rfl (by kernel_rfl) (by kernel_rfl) (by kernel_rfl) (fun _ _ _ h => h) (Or.inl ⟨by rfl, ?hy2444⟩) hHeld ?hn2444
          case hy2444 => (intro wz hSw; obtain ⟨j0, j1⟩ := HLC.out wz hSw; go_simp)
          try simp only [nrm, Act.put]
          refine' wpAnyH_take (i := 11) (v := _) rfl (by kernel_rfl) (by kernel_rfl) (by kernel_rfl) (fun _ _ _ h => h) (Or.inl ⟨by rfl, ?hy2445⟩) hHeld ?hn2445
          case hy2445 => (intro wz hSw; go_simp; first | done | with_reducible rfl)
          try simp only [nrm, Act.put]
          refine wpAnyH_ready (rs := [12]) (by kernel_rfl) (by simp) ?_
          refine AllReadyH.cons rfl (fun K hK => ?_) AllReadyH.nil
          have hq3 : (fun wz : World => ∀ b, b ≠ GB → b < wO.heap.size → wz.heap[b]? = wO.heap[b]?) (World.setCell (World.setCell (World.drew wr) ⟨GB, m * 2, none⟩ (.int .i64 k)) ⟨GB, m * 2 + 1, none⟩ (.int .i64 t)) := fun b h1 h2 => ((Below.heap_setCell _ _ _ _ h1).trans (Below.heap_setCell _ _ _ _ h1)).trans (hHeld b h1 h2)
          go_simp
          refine hK.out _ _ (hq3) (fun hHeld => ?_)
          clear hK K
          refine wpAnyH_done (by kernel_rfl) ?_ _
          have HQ3 : Hid _ := hHeld
          clear hHeld hq3
          go_wp2
          refine ⟨⟨i + 1, by omega, by simp, HQ3.out, by simp [World.setCell]; omega, Below.drew ((HBR.out.setCell (p := ⟨GB, m * 2, none⟩) (by show w.heap.size ≤ GB; omega) _).setCell (p := ⟨GB, m * 2 + 1, none⟩) (by show w.heap.size ≤ GB; omega) _), World.there_setCells (w := wr) HTR.out GB (m * 2) [.int .i64 k, .int .i64 t], ?_⟩, by simp [intOf]; omega⟩
          intro q hq
          obtain ⟨h1, h2⟩ := HOW.out q hq
          rw [movTo_succ, HZM.out, HX.out]
          by_cases hqm : q = m
          · subst hqm
            have e : ((movTo zs ls i).set q (k, t)).getD q (0, 0) = (k, t) := by
              rw [List.getD_eq_getElem?_getD, List.getElem?_set_self (by rw [movTo_len]; exact hq)]; rfl
            rw [e]
            refine ⟨?_, ?_⟩
            · show ((wr.setCell ⟨GB, q * 2, none⟩ (.int .i64 k)).setCell ⟨GB, q * 2 + 1, none⟩ (.int .i64 t)).cell? _ = _
              rw [World.cell?_setCell_other _ _ _ _ (by simp)]
              exact World.cell?_setCell_same _ _ _ h1
            · show ((wr.setCell ⟨GB, q * 2, none⟩ (.int .i64 k)).setCell ⟨GB, q * 2 + 1, none⟩ (.int .i64 t)).cell? _ = _
              exact World.cell?_setCell_same _ _ _ ((World.cell?_setCell_other _ _ _ _ (by simp)).trans h2)
          · have e : ((movTo zs ls i).set m (k, t)).getD q (0, 0) = (movTo zs ls i).getD q (0, 0) := by
              rw [List.getD_eq_getElem?_getD, List.getElem?_set_ne (fun h => hqm h.symm), ← List.getD_eq_getElem?_getD]
            rw [e]
            refine ⟨?_, ?_⟩
            · show ((wr.setCell ⟨GB, m * 2, none⟩ (.int .i64 k)).setCell ⟨GB, m * 2 + 1, none⟩ (.int .i64 t)).cell? _ = _
              rw [World.cell?_setCell_other _ _ _ _ (by simp <;> omega), World.cell?_setCell_other _ _ _ _ (by simp <;> omega)]; exact h1
            · show ((wr.setCell ⟨GB, m * 2, none⟩ (.int .i64 k)).setCell ⟨GB, m * 2 + 1, none⟩ (.int .i64 t)).cell? _ = _
              rw [World.cell?_setCell_other _ _ _ _ (by simp <;> omega), World.cell?_setCell_other _ _ _ _ (by simp <;> omega)]; exact h2
        · have hie : i = ls.length := by omega
          subst hie
          have hzl : ¬ ((ls.length : Int) < (zs.length : Int)) := by rw [HRLN.out]; omega
          obtain ⟨⟨z0, z1⟩, y0, y1⟩ := HZO.out.same (hSr (w.heap.size + 1) (by omega) (by omega))
          obtain ⟨⟨o0, o1⟩, -⟩ := HCO.out.same (hSr OB (fun h => dgo h.symm) klo)
          have ST0 := set_two0 (v0 := (.slice (some ⟨GB, 0, none⟩) ls.length ls.length)) (v1 := (.slice sa' (ln d TT) sc')) z0 z1
          have ST1 := set_two1 (v0 := (.slice (some ⟨GB, 0, none⟩) ls.length ls.length)) (v1 := (.slice sa' (ln d TT) sc')) z0 z1
          clear hbr hth hown hSr
          go_wp2
          refine bodyPost_ret (v := .tuple #[.agg #[(.slice (some ⟨GB, 0, none⟩) ls.length ls.length), (.slice sa' (ln d TT) sc')], .bool true]) (by simp [results, Try.results36, go_sem, ST0, ST1]) rfl ?_
          have hne : ∀ b, b ≠ (w.heap.size + 1) → ((wr.setCell ⟨(w.heap.size + 1), 0, none⟩ (.slice (some ⟨GB, 0, none⟩) ls.length ls.length)).setCell ⟨(w.heap.size + 1), 1, none⟩ (.slice sa' (ln d TT) sc')).heap[b]? = wr.heap[b]? := fun b hb => (Below.heap_setCell _ _ _ _ hb).trans (Below.heap_setCell _ _ _ _ hb)
          have sF : ((wr.setCell ⟨(w.heap.size + 1), 0, none⟩ (.slice (some ⟨GB, 0, none⟩) ls.length ls.length)).setCell ⟨(w.heap.size + 1), 1, none⟩ (.slice sa' (ln d TT) sc')).heap.size = wr.heap.size := by simp [World.setCell]
          have BF := (HBR.out.setCell (p := ⟨(w.heap.size + 1), 0, none⟩) (by show w.heap.size ≤ w.heap.size + 1; omega) (.slice (some ⟨GB, 0, none⟩) ls.length ls.length)).setCell (p := ⟨(w.heap.size + 1), 1, none⟩) (by show w.heap.size ≤ w.heap.size + 1; omega) (.slice sa' (ln d TT) sc')
          have kl := KL.out
          have OW2 : Own ((wr.setCell ⟨(w.heap.size + 1), 0, none⟩ (.slice (some ⟨GB, 0, none⟩) ls.length ls.length)).setCell ⟨(w.heap.size + 1), 1, none⟩ (.slice sa' (ln d TT) sc')) d (.slice sa' (ln d TT) sc') (mapT (varF zs) d T) b2 := by
            rw [HTT.out]
            exact Own.frame (fun b hb => (hne b (by have := L_b.out b hb; omega)).trans (HSR.out b (D_gb.out b hb) (kl.2.2 b hb))) HXO.out
          by_cases hn0 : ls.length = 0
          · have hl0 : ls = [] := List.eq_nil_of_length_eq_zero hn0
            refine ⟨_, _, [], b2, rfl, BF, .inl ⟨by rw [movL_len]; exact hn0, ⟨_, _, by rw [hn0], by unfold maxLen; omega⟩, rfl⟩, OW2, ?_, HN2.out, by simp⟩
            intro b hb
            have hb' : b ∈ b2 := by simpa using hb
            have := L_b.out b hb'
            have := kl.2.2 b hb'
            omega
          · refine ⟨_, _, [GB], b2, rfl, BF, .inr ⟨by rw [movL_len]; omega, GB, ls.length, by rw [movL_len], by rw [movL_len]; exact Nat.le_refl _, by unfold maxLen; omega, by rw [movL_len]; exact there_same (hne GB (by omega)) HTR.out, rfl, fun q hq => ?_⟩, OW2, ?_, HN2.out, ?_⟩
            · have hq' : q < ls.length := by rwa [movL_len] at hq
              have hg : (movTo zs ls ls.length).getD q (0, 0) = (movL zs ls)[q] := by
                rw [List.getD_eq_getElem?_getD]; unfold movL; rw [List.getElem?_eq_getElem (by rw [movTo_len]; exact hq'), Option.getD_some]; rfl
              obtain ⟨h1, h2⟩ := HOW.out q hq'
              rw [hg] at h1 h2
              intro j v hv
              match j, hv with
              | 0, hv => cases hv; exact (World.cell?_of_block (hne GB (by omega))).trans h1
              | 1, hv => cases hv; exact (World.cell?_of_block (hne GB (by omega))).trans h2
              | (j + 2), hv => simp at hv
            · intro b hb
              rcases List.mem_append.1 hb with hb | hb
              · obtain rfl : b = GB := by simpa using hb
                omega
              · have := L_b.out b hb
                have := kl.2.2 b hb
                omega
            · intro b hb hb'
              obtain rfl : b = GB := by simpa using hb
              exact D_gb.out _ hb' rfl
    · go_simp
      have bo : Below wb.heap.size wb (wb.alloc (.cells #[.slice none 0 0, .slice none 0 0] 43)) := (Below.refl _ _).alloc (Nat.le_refl _) _
      have co := C2.new wb (.slice none 0 0) (.slice none 0 0) 43
      have so : wb.heap.size < (wb.alloc (.cells #[.slice none 0 0, .slice none 0 0] 43)).heap.size := by simp
      generalize wb.alloc (.cells #[.slice none 0 0, .slice none 0 0] 43) = wo at bo co so ⊢
      have HZwo : Hid (C2 wo (w.heap.size + 1) (.slice none 0 0) (.slice none 0 0)) := C2.same HZwb.out (bo.block _ HScwb.out)
      have HBcwo : Hid (Own wo d (.slice sa' (ln d TT) sc') TT b2 ∧ ∀ b ∈ b2, b < wo.heap.size) := ⟨Own.frame (fun b hb => bo.block b (HBcwb.out.2 b hb)) HBcwb.out.1, fun b hb => Nat.lt_of_lt_of_le (HBcwb.out.2 b hb) bo.size⟩
      have HScwo : Hid (w.heap.size + 1 < wo.heap.size) := Nat.lt_of_lt_of_le HScwb.out bo.size
      obtain ⟨OB, hOB⟩ : ∃ n, wb.heap.size = n := ⟨_, rfl⟩
      rw [hOB] at co so ⊢
      have L_o : Hid (w.heap.size + 1 < OB) := (show w.heap.size + 1 < OB by have := HScwb.out; omega)
      have D_ob : Hid (∀ b ∈ b2, b ≠ OB) := (show ∀ b ∈ b2, _ from fun b hb => by have := HBcwb.out.2 b hb; omega)
      have HOcwo : Hid (C2 wo OB (.slice none 0 0) (.slice none 0 0) ∧ OB < wo.heap.size) := ⟨co, so⟩
      have hqo : (fun wz : World => wz.cell? ⟨w.heap.size, 0, none⟩ = some (.slice la ls.length lc) ∧ wz.cell? ⟨w.heap.size, 1, none⟩ = some (.slice sa (ln d T) sc) ∧ Below w.heap.size w wz) wo := ⟨cell_later bo hHeld.1, cell_later bo hHeld.2.1, Below.then hHeld.2.2 bo hHeld.2.2.size⟩
      clear co so bo hOB
      refine hK.out _ _ (hqo) (fun hHeld => ?_)
      clear hK K
      refine wpAnyH_ready (rs := [3]) (by kernel_rfl) (by simp) ?_
      refine AllReadyH.cons rfl (fun K hK => ?_) AllReadyH.nil
      refine wp_make_at _ _ _ 40 rfl wo.heap.size 32 i0 _ 2 Try.underlying40 hi0 hz0 hz1 _ _ _ _ ls.length rfl rfl rfl rfl (by rw [hz2]; omega) (by unfold maxLen; omega) (Nat.le_refl _) ?_
      intro wg owng growg
      have bg : Below wo.heap.size wo wg := (Below.refl _ _).grown growg (Nat.le_refl _) (fun k hk => by cases hk)
      have tg := row_there owng
      have sg : wo.heap.size < wg.heap.size := (World.ownsRow.lt owng wo.heap.size rfl).2
      have zg : ∀ q, q < ls.length → wg.cell? ⟨wo.heap.size, q * 2, none⟩ = some (.int .i64 0) ∧ wg.cell? ⟨wo.heap.size, q * 2 + 1, none⟩ = some (.int .i64 0) := fun q hq => by
        refine ⟨?_, ?_⟩
        · rw [World.ownsRow.cellAt owng _ (by omega)]
          simp [madeCells, show q * 2 < ls.length * 2 by omega, Value.cells]
        · rw [World.ownsRow.cellAt owng _ (by omega)]
          simp [madeCells, show q * 2 + 1 < ls.length * 2 by omega, Value.cells, Nat.add_mod]
      clear owng growg
      have HZwg : Hid (C2 wg (w.heap.size + 1) (.slice none 0 0) (.slice none 0 0)) := C2.same HZwo.out (bg.block _ HScwo.out)
      have HOcwg : Hid (C2 wg OB (.slice none 0 0) (.slice none 0 0) ∧ OB < wg.heap.size) := ⟨C2.same HOcwo.out.1 (bg.block _ HOcwo.out.2), Nat.lt_of_lt_of_le HOcwo.out.2 bg.size⟩
      have HBcwg : Hid (Own wg d (.slice sa' (ln d TT) sc') TT b2 ∧ ∀ b ∈ b2, b < wg.heap.size) := ⟨Own.frame (fun b hb => bg.block b (HBcwo.out.2 b hb)) HBcwo.out.1, fun b hb => Nat.lt_of_lt_of_le (HBcwo.out.2 b hb) bg.size⟩
      have HScwg : Hid (w.heap.size + 1 < wg.heap.size) := Nat.lt_of_lt_of_le HScwo.out bg.size
      obtain ⟨GB, hGB⟩ : ∃ n, wo.heap.size = n := ⟨_, rfl⟩
      rw [hGB] at tg sg zg ⊢
      have L_g : Hid (w.heap.size + 1 < GB) := (show w.heap.size + 1 < GB by have := HScwo.out; omega)
      have D_go : Hid (GB ≠ OB) := (show GB ≠ OB by have := HOcwo.out.2; omega)
      have D_gb : Hid (∀ b ∈ b2, b ≠ GB) := (show ∀ b ∈ b2, _ from fun b hb => by have := HBcwo.out.2 b hb; omega)
      have HGcwg : Hid ((∀ q, q < ls.length → wg.cell? ⟨GB, q * 2, none⟩ = some (.int .i64 0) ∧ wg.cell? ⟨GB, q * 2 + 1, none⟩ = some (.int .i64 0)) ∧ wg.there GB 0 (ls.length * 2) ∧ GB < wg.heap.size) := ⟨zg, tg, sg⟩
      have hqg : (fun wz : World => wz.cell? ⟨w.heap.size, 0, none⟩ = some (.slice la ls.length lc) ∧ wz.cell? ⟨w.heap.size, 1, none⟩ = some (.slice sa (ln d T) sc) ∧ Below w.heap.size w wz) wg := ⟨cell_later bg hHeld.1, cell_later bg hHeld.2.1, Below.then hHeld.2.2 bg hHeld.2.2.size⟩
      clear zg tg sg bg hGB
      refine hK.out _ _ (hqg) (fun hHeld => ?_)
      clear hK K
      refine' wpAnyH_take (i := 8) (v := _) rfl (by kernel_rfl) (by kernel_rfl) (by kernel_rfl) (fun _ _ _ h => h) (Or.inl ⟨by rfl, ?hy2446⟩) hHeld ?hn2446
      case hy2446 => (intro wz hSw; go_simp; first | done | with_reducible rfl)
      try simp only [nrm, Act.put]
      refine wpAnyH_ready (rs := [10]) (by kernel_rfl) (by simp) ?_
      refine AllReadyH.cons rfl (fun K hK => ?_) AllReadyH.nil
      obtain ⟨⟨o0, o1⟩, g0, g1⟩ := HOcwg.out.1
      go_simp
      have hne : ∀ b, b ≠ OB → ((wg.setCell ⟨OB, 0, none⟩ (.slice (some ⟨GB, 0, none⟩) ls.length ls.length)).setCell ⟨OB, 1, none⟩ (.slice sa' (ln d TT) sc')).heap[b]? = wg.heap[b]? := fun b hb => (Below.heap_setCell _ _ _ _ hb).trans (Below.heap_setCell _ _ _ _ hb)
      have CO := C2.set1 (.slice sa' (ln d TT) sc') (C2.set0 (.slice (some ⟨GB, 0, none⟩) ls.length ls.length) HOcwg.out.1)
      have sS : ((wg.setCell ⟨OB, 0, none⟩ (.slice (some ⟨GB, 0, none⟩) ls.length ls.length)).setCell ⟨OB, 1, none⟩ (.slice sa' (ln d TT) sc')).heap.size = wg.heap.size := by simp [World.setCell]
      have hLo := L_o.out
      have XZ := C2.same HZwg.out (hne _ (by omega))
      have XG : (∀ q, q < ls.length → ((wg.setCell ⟨OB, 0, none⟩ (.slice (some ⟨GB, 0, none⟩) ls.length ls.length)).setCell ⟨OB, 1, none⟩ (.slice sa' (ln d TT) sc')).cell? ⟨GB, q * 2, none⟩ = some (.int .i64 0) ∧ ((wg.setCell ⟨OB, 0, none⟩ (.slice (some ⟨GB, 0, none⟩) ls.length ls.length)).setCell ⟨OB, 1, none⟩ (.slice sa' (ln d TT) sc')).cell? ⟨GB, q * 2 + 1, none⟩ = some (.int .i64 0)) ∧ ((wg.setCell ⟨OB, 0, none⟩ (.slice (some ⟨GB, 0, none⟩) ls.length ls.length)).setCell ⟨OB, 1, none⟩ (.slice sa' (ln d TT) sc')).there GB 0 (ls.length * 2) := ⟨fun q hq => ⟨(World.cell?_of_block (hne GB D_go.out)).trans (HGcwg.out.1 q hq).1, (World.cell?_of_block (hne GB D_go.out)).trans (HGcwg.out.1 q hq).2⟩, there_same (hne GB D_go.out) HGcwg.out.2.1⟩
      have XO : Own ((wg.setCell ⟨OB, 0, none⟩ (.slice (some ⟨GB, 0, none⟩) ls.length ls.length)).setCell ⟨OB, 1, none⟩ (.slice sa' (ln d TT) sc')) d (.slice sa' (ln d TT) sc') TT b2 := Own.frame (fun b hb => hne b (D_ob.out b hb)) HBcwg.out.1
      have hqs : (fun wz : World => wz.cell? ⟨w.heap.size, 0, none⟩ = some (.slice la ls.length lc) ∧ wz.cell? ⟨w.heap.size, 1, none⟩ = some (.slice sa (ln d T) sc) ∧ Below w.heap.size w wz) ((wg.setCell ⟨OB, 0, none⟩ (.slice (some ⟨GB, 0, none⟩) ls.length ls.length)).setCell ⟨OB, 1, none⟩ (.slice sa' (ln d TT) sc')) := ⟨(World.cell?_of_block (hne w.heap.size (by omega))).trans hHeld.1, (World.cell?_of_block (hne w.heap.size (by omega))).trans hHeld.2.1, (hHeld.2.2.setCell (p := ⟨OB, 0, none⟩) (by show w.heap.size ≤ OB; omega) _).setCell (p := ⟨OB, 1, none⟩) (by show w.heap.size ≤ OB; omega) _⟩
      have KL : Hid (GB < ((wg.setCell ⟨OB, 0, none⟩ (.slice (some ⟨GB, 0, none⟩) ls.length ls.length)).setCell ⟨OB, 1, none⟩ (.slice sa' (ln d TT) sc')).heap.size ∧ OB < ((wg.setCell ⟨OB, 0, none⟩ (.slice (some ⟨GB, 0, none⟩) ls.length ls.length)).setCell ⟨OB, 1, none⟩ (.slice sa' (ln d TT) sc')).heap.size ∧ ∀ b ∈ b2, b < ((wg.setCell ⟨OB, 0, none⟩ (.slice (some ⟨GB, 0, none⟩) ls.length ls.length)).setCell ⟨OB, 1, none⟩ (.slice sa' (ln d TT) sc')).heap.size) := (show GB < ((wg.setCell ⟨OB, 0, none⟩ (.slice (some ⟨GB, 0, none⟩) ls.length ls.length)).setCell ⟨OB, 1, none⟩ (.slice sa' (ln d TT) sc')).heap.size ∧ OB < ((wg.setCell ⟨OB, 0, none⟩ (.slice (some ⟨GB, 0, none⟩) ls.length ls.length)).setCell ⟨OB, 1, none⟩ (.slice sa' (ln d TT) sc')).heap.size ∧ ∀ b ∈ b2, b < ((wg.setCell ⟨OB, 0, none⟩ (.slice (some ⟨GB, 0, none⟩) ls.length ls.length)).setCell ⟨OB, 1, none⟩ (.slice sa' (ln d TT) sc')).heap.size by rw [sS]; exact ⟨HGcwg.out.2.2, HOcwg.out.2, HBcwg.out.2⟩)
      clear o0 o1 g0 g1 hne sS hLo
      generalize ((wg.setCell ⟨OB, 0, none⟩ (.slice (some ⟨GB, 0, none⟩) ls.length ls.length)).setCell ⟨OB, 1, none⟩ (.slice sa' (ln d TT) sc')) = wO at CO XZ XG XO hqs KL ⊢
      refine hK.out _ _ (hqs) (fun hHeld => ?_)
      clear hK K
      refine wpAnyH_done (by kernel_rfl) ?_ _
      have HCO : Hid (C2 wO OB (.slice (some ⟨GB, 0, none⟩) ls.length ls.length) (.slice sa' (ln d TT) sc')) := CO
      have HZO : Hid (C2 wO (w.heap.size + 1) (.slice none 0 0) (.slice none 0 0)) := XZ
      have HPO : Hid (wO.cell? ⟨w.heap.size, 0, none⟩ = some (.slice la ls.length lc) ∧ wO.cell? ⟨w.heap.size, 1, none⟩ = some (.slice sa (ln d T) sc)) := ⟨hHeld.1, hHeld.2.1⟩
      have HBO : Hid (Below w.heap.size w wO) := hHeld.2.2
      have HXO : Hid (Own wO d (.slice sa' (ln d TT) sc') TT b2) := XO
      have HTH : Hid (wO.there GB 0 (ls.length * 2)) := XG.2
      have zO : ∀ q, q < ls.length → wO.cell? ⟨GB, q * 2, none⟩ = some (.int .i64 ((movTo zs ls 0).getD q (0, 0)).1) ∧ wO.cell? ⟨GB, q * 2 + 1, none⟩ = some (.int .i64 ((movTo zs ls 0).getD q (0, 0)).2) := fun q hq => by
        have e : (movTo zs ls 0).getD q (0, 0) = (0, 0) := by simp [movTo, List.getD_eq_getElem?_getD, List.getElem?_replicate, hq]
        rw [e]; exact XG.1 q hq
      have tO : wO.there GB 0 (ls.length * 2) := XG.2
      have lg := L_g.out
      have lo := L_o.out
      have dgo := D_go.out
      have HLO : Hid (∀ wz : World, (fun wz : World => ∀ b, b ≠ GB → b < wO.heap.size → wz.heap[b]? = wO.heap[b]?) wz → ∀ b o v, b < w.heap.size → w.cell? ⟨b, o, none⟩ = some v → wz.cell? ⟨b, o, none⟩ = some v) := (show ∀ wz : World, _ from fun wz hS b o v hb hv => (World.cell?_of_block ((hS b (by omega) (by have := HBO.out.size; omega)).trans (HBO.out.block b hb))).trans hv)
      clear CO XZ XO XG hHeld hqs
      go_wp2_with fail
      go_loopw [7] (fun j wr => ∃ (i : Nat), i ≤ ls.length ∧ j = .int .i64 i ∧ (fun wz : World => ∀ b, b ≠ GB → b < wO.heap.size → wz.heap[b]? = wO.heap[b]?) wr ∧ wO.heap.size ≤ wr.heap.size ∧ Below w.heap.size w wr ∧ wr.there GB 0 (ls.length * 2) ∧
          ∀ q, q < ls.length → wr.cell? ⟨GB, q * 2, none⟩ = some (.int .i64 ((movTo zs ls i).getD q (0, 0)).1) ∧ wr.cell? ⟨GB, q * 2 + 1, none⟩ = some (.int .i64 ((movTo zs ls i).getD q (0, 0)).2)) (fun j _ => ls.length - (intOf j).toNat)
      case atStart => exact ⟨0, by omega, rfl, fun b _ _ => rfl, Nat.le_refl _, HBO.out, tO, zO⟩
      case round =>
        obtain ⟨i, hi, rfl, hSr, hsz, hbr, hth, hown⟩ := hrel
        have HBR : Hid (Below w.heap.size w wr) := hbr
        have HTR : Hid (wr.there GB 0 (ls.length * 2)) := hth
        have HOW : Hid (∀ q, q < ls.length → wr.cell? ⟨GB, q * 2, none⟩ = some (.int .i64 ((movTo zs ls i).getD q (0, 0)).1) ∧ wr.cell? ⟨GB, q * 2 + 1, none⟩ = some (.int .i64 ((movTo zs ls i).getD q (0, 0)).2)) := hown
        have HSR : Hid ((fun wz : World => ∀ b, b ≠ GB → b < wO.heap.size → wz.heap[b]? = wO.heap[b]?) wr) := hSr
        have klo := KL.out.2.1
        by_cases hlt : i < ls.length
        · have i0' : (0 : Int) ≤ (i : Int) := by omega
          have i1' : (i : Int) < (ls.length : Int) := by omega
          obtain ⟨lb, lo', k, t, hx, rfl, hlb, k0, k1⟩ := HLB.out i hlt
          obtain ⟨rb, ro, m, hra, hrb, hm, hzm, c0⟩ := RCB.out i hlt
          have hrz : (i : Int) < (zs.length : Int) := by rw [HRLN.out]; exact i1'
          subst hra
          have m0' : (0 : Int) ≤ (m : Int) := by omega
          have m1' : (m : Int) < (ls.length : Int) := by omega
          have HX : Hid _ := hx
          have HZM : Hid _ := hzm
          have HLC : Hid (∀ wz : World, (fun wz : World => ∀ b, b ≠ GB → b < wO.heap.size → wz.heap[b]? = wO.heap[b]?) wz → wz.cell? ⟨lb, lo' + i * 2, none⟩ = some (.int .i64 k) ∧ wz.cell? ⟨lb, lo' + i * 2 + 1, none⟩ = some (.int .i64 t)) := (show ∀ wz : World, _ from fun wz hS => ⟨HLO.out wz hS lb _ _ hlb k0, HLO.out wz hS lb _ _ hlb k1⟩)
          have HRC : Hid (∀ wz : World, (fun wz : World => ∀ b, b ≠ GB → b < wO.heap.size → wz.heap[b]? = wO.heap[b]?) wz → wz.cell? ⟨rb, ro + i, none⟩ = some (.int .i64 (m : Int))) := (show ∀ wz : World, _ from fun wz hS => HLO.out wz hS rb _ _ hrb c0)
          have HPC : Hid (∀ wz : World, (fun wz : World => ∀ b, b ≠ GB → b < wO.heap.size → wz.heap[b]? = wO.heap[b]?) wz → wz.cell? ⟨w.heap.size, 0, none⟩ = some (.slice (some ⟨lb, lo', none⟩) ls.length lc)) := (show ∀ wz : World, _ from fun wz hS => (World.cell?_of_block (hS w.heap.size (by omega) (by omega))).trans HPO.out.1)
          have HBX : Hid (∀ wz : World, (fun wz : World => ∀ b, b ≠ GB → b < wO.heap.size → wz.heap[b]? = wO.heap[b]?) wz → wz.cell? ⟨OB, 0, none⟩ = some (.slice (some ⟨GB, 0, none⟩) ls.length ls.length)) := (show ∀ wz : World, _ from fun wz hS => (World.cell?_of_block (hS OB (fun h => dgo h.symm) klo)).trans HCO.out.1.1)
          obtain ⟨g0, g1⟩ := hown m hm
          have f0 : wr.frozen? ⟨GB, m * 2, none⟩ = false := by have := (hth (m * 2) (by omega)).2; rwa [Nat.zero_add] at this
          have f1 : wr.frozen? ⟨GB, m * 2 + 1, none⟩ = false := by have := (hth (m * 2 + 1) (by omega)).2; rwa [Nat.zero_add] at this
          clear hbr hth hown k0 k1 c0 hx hzm
          go_upto_region 7 with fail
          refine wp_region_held (S := (fun wz : World => ∀ b, b ≠ GB → b < wO.heap.size → wz.heap[b]? = wO.heap[b]?)) (by kernel_rfl) ?_
          change wpAnyH _ _ _ _ _ _ _ _ (World.drew _)
          have hHeld := (show (fun wz : World => ∀ b, b ≠ GB → b < wO.heap.size → wz.heap[b]? = wO.heap[b]?) (World.drew wr) from hSr)
          clear hSr
          refine' wpAnyH_take (i := 0) (v := _) rfl (by kernel_rfl) (by kernel_rfl) (by kernel_rfl) (fun _ _ _ h => h) (Or.inl ⟨by rfl, ?hy2447⟩) hHeld ?hn2447
          case hy2447 => (intro wz hSw; go_simp; first | done | with_reducible rfl)
          try simp only [nrm, Act.put]
          refine' wpAnyH_take (i := 1) (v := (.slice (some ⟨GB, 0, none⟩) ls.length ls.length)) rfl (by kernel_rfl) (by kernel_rfl) (by kernel_rfl) (fun _ _ _ h => h) (Or.inl ⟨by rfl, ?hy2448⟩) hHeld ?hn2448
          case hy2448 => (intro wz hSw; have j0 := HBX.out wz hSw; go_simp)
          try simp only [nrm, Act.put]
          refine' wpAnyH_take (i := 2) (v := _) rfl (by kernel_rfl) (by kernel_rfl) (by kernel_rfl) (fun _ _ _ h => h) (Or.inl ⟨by rfl, ?hy2449⟩) hHeld ?hn2449
          case hy2449 => (intro wz hSw; go_simp; first | done | with_reducible rfl)
          try simp only [nrm, Act.put]
          refine' wpAnyH_take (i := 3) (v := _) rfl (by kernel_rfl) (by kernel_rfl) (by kernel_rfl) (fun _ _ _ h => h) (Or.inl ⟨by rfl, ?hy2450⟩) hHeld ?hn2450
          case hy2450 => (intro wz hSw; go_simp; first | done | with_reducible rfl)
          try simp only [nrm, Act.put]
          refine' wpAnyH_take (i := 4) (v := _) rfl (by kernel_rfl) (by kernel_rfl) (by kernel_rfl) (fun _ _ _ h => h) (Or.inl ⟨by rfl, ?hy2451⟩) hHeld ?hn2451
          case hy2451 => (intro wz hSw; go_simp; first | done | with_reducible rfl)
          try simp only [nrm, Act.put]
          refine' wpAnyH_take (i := 5) (v := (.int .i64 (m : Int))) rfl (by kernel_rfl) (by kernel_rfl) (by kernel_rfl) (fun _ _ _ h => h) (Or.inl ⟨by rfl, ?hy2452⟩) hHeld ?hn2452
          case hy2452 => (intro wz hSw; have j0 := HRC.out wz hSw; go_simp)
          try simp only [nrm, Act.put]
          refine' wpAnyH_take (i := 6) (v := _) rfl (by kernel_rfl) (by kernel_rfl) (by kernel_rfl) (fun _ _ _ h => h) (Or.inl ⟨by rfl, ?hy2453⟩) hHeld ?hn2453
          case hy2453 => (intro wz hSw; go_simp; first | done | with_reducible rfl)
          try simp only [nrm, Act.put]
          refine' wpAnyH_take (i := 7) (v := (.slice (some ⟨lb, lo', none⟩) ls.length lc)) rfl (by kernel_rfl) (by kernel_rfl) (by kernel_rfl) (fun _ _ _ h => h) (Or.inl ⟨by rfl, ?hy2454⟩) hHeld ?hn2454
          case hy2454 => (intro wz hSw; have j0 := HPC.out wz hSw; go_simp)
          try simp only [nrm, Act.put]
          refine' wpAnyH_take (i := 8) (v := _) rfl (by kernel_rfl) (by kernel_rfl) (by kernel_rfl) (fun _ _ _ h => h) (Or.inl ⟨by rfl, ?hy2455⟩) hHeld ?hn2455
          case hy2455 => (intro wz hSw; go_simp; first | done | with_reducible rfl)
          try simp only [nrm, Act.put]
          refine' wpAnyH_take (i := 9) (v := _) rfl (by kernel_rfl) (by kernel_rfl) (by kernel_rfl) (fun _ _ _ h => h) (Or.inl ⟨by rfl, ?hy2456⟩) hHeld ?hn2456
          case hy2456 => (intro wz hSw; go_simp; first | done | with_reducible rfl)
          try simp only [nrm, Act.put]
          refine' wpAnyH_take (i := 10) (v := (.agg #[.int .i64 k, .int .i64 t])) rfl (by kernel_rfl) (by kernel_rfl) (by kernel_rfl) (fun _ _ _ h => h) (Or.inl ⟨by rfl, ?hy2457⟩) hHeld ?hn2457
          case hy2457 => (intro wz hSw; obtain ⟨j0, j1⟩ := HLC.out wz hSw; go_simp)
          try simp only [nrm, Act.put]
          refine' wpAnyH_take (i := 11) (v := _) rfl (by kernel_rfl) (by kernel_rfl) (by kernel_rfl) (fun _ _ _ h => h) (Or.inl ⟨by rfl, ?hy2458⟩) hHeld ?hn2458
          case hy2458 => (intro wz hSw; go_simp; first | done | with_reducible rfl)
          try simp only [nrm, Act.put]
          refine wpAnyH_ready (rs := [12]) (by kernel_rfl) (by simp) ?_
          refine AllReadyH.cons rfl (fun K hK => ?_) AllReadyH.nil
          have hq3 : (fun wz : World => ∀ b, b ≠ GB → b < wO.heap.size → wz.heap[b]? = wO.heap[b]?) (World.setCell (World.setCell (World.drew wr) ⟨GB, m * 2, none⟩ (.int .i64 k)) ⟨GB, m * 2 + 1, none⟩ (.int .i64 t)) := fun b h1 h2 => ((Below.heap_setCell _ _ _ _ h1).trans (Below.heap_setCell _ _ _ _ h1)).trans (hHeld b h1 h2)
          go_simp
          refine hK.out _ _ (hq3) (fun hHeld => ?_)
          clear hK K
          refine wpAnyH_done (by kernel_rfl) ?_ _
          have HQ3 : Hid _ := hHeld
          clear hHeld hq3
          go_wp2
          refine ⟨⟨i + 1, by omega, by simp, HQ3.out, by simp [World.setCell]; omega, Below.drew ((HBR.out.setCell (p := ⟨GB, m * 2, none⟩) (by show w.heap.size ≤ GB; omega) _).setCell (p := ⟨GB, m * 2 + 1, none⟩) (by show w.heap.size ≤ GB; omega) _), World.there_setCells (w := wr) HTR.out GB (m * 2) [.int .i64 k, .int .i64 t], ?_⟩, by simp [intOf]; omega⟩
          intro q hq
          obtain ⟨h1, h2⟩ := HOW.out q hq
          rw [movTo_succ, HZM.out, HX.out]
          by_cases hqm : q = m
          · subst hqm
            have e : ((movTo zs ls i).set q (k, t)).getD q (0, 0) = (k, t) := by
              rw [List.getD_eq_getElem?_getD, List.getElem?_set_self (by rw [movTo_len]; exact hq)]; rfl
            rw [e]
            refine ⟨?_, ?_⟩
            · show ((wr.setCell ⟨GB, q * 2, none⟩ (.int .i64 k)).setCell ⟨GB, q * 2 + 1, none⟩ (.int .i64 t)).cell? _ = _
              rw [World.cell?_setCell_other _ _ _ _ (by simp)]
              exact World.cell?_setCell_same _ _ _ h1
            · show ((wr.setCell ⟨GB, q * 2, none⟩ (.int .i64 k)).setCell ⟨GB, q * 2 + 1, none⟩ (.int .i64 t)).cell? _ = _
              exact World.cell?_setCell_same _ _ _ ((World.cell?_setCell_other _ _ _ _ (by simp)).trans h2)
          · have e : ((movTo zs ls i).set m (k, t)).getD q (0, 0) = (movTo zs ls i).getD q (0, 0) := by
              rw [List.getD_eq_getElem?_getD, List.getElem?_set_ne (fun h => hqm h.symm), ← List.getD_eq_getElem?_getD]
            rw [e]
            refine ⟨?_, ?_⟩
            · show ((wr.setCell ⟨GB, m * 2, none⟩ (.int .i64 k)).setCell ⟨GB, m * 2 + 1, none⟩ (.int .i64 t)).cell? _ = _
              rw [World.cell?_setCell_other _ _ _ _ (by simp <;> omega), World.cell?_setCell_other _ _ _ _ (by simp <;> omega)]; exact h1
            · show ((wr.setCell ⟨GB, m * 2, none⟩ (.int .i64 k)).setCell ⟨GB, m * 2 + 1, none⟩ (.int .i64 t)).cell? _ = _
              rw [World.cell?_setCell_other _ _ _ _ (by simp <;> omega), World.cell?_setCell_other _ _ _ _ (by simp <;> omega)]; exact h2
        · have hie : i = ls.length := by omega
          subst hie
          have hzl : ¬ ((ls.length : Int) < (zs.length : Int)) := by rw [HRLN.out]; omega
          obtain ⟨⟨z0, z1⟩, y0, y1⟩ := HZO.out.same (hSr (w.heap.size + 1) (by omega) (by omega))
          obtain ⟨⟨o0, o1⟩, -⟩ := HCO.out.same (hSr OB (fun h => dgo h.symm) klo)
          have ST0 := set_two0 (v0 := (.slice (some ⟨GB, 0, none⟩) ls.length ls.length)) (v1 := (.slice sa' (ln d TT) sc')) z0 z1
          have ST1 := set_two1 (v0 := (.slice (some ⟨GB, 0, none⟩) ls.length ls.length)) (v1 := (.slice sa' (ln d TT) sc')) z0 z1
          clear hbr hth hown hSr
          go_wp2
          refine bodyPost_ret (v := .tuple #[.agg #[(.slice (some ⟨GB, 0, none⟩) ls.length ls.length), (.slice sa' (ln d TT) sc')], .bool true]) (by simp [results, Try.results36, go_sem, ST0, ST1]) rfl ?_
          have hne : ∀ b, b ≠ (w.heap.size + 1) → ((wr.setCell ⟨(w.heap.size + 1), 0, none⟩ (.slice (some ⟨GB, 0, none⟩) ls.length ls.length)).setCell ⟨(w.heap.size + 1), 1, none⟩ (.slice sa' (ln d TT) sc')).heap[b]? = wr.heap[b]? := fun b hb => (Below.heap_setCell _ _ _ _ hb).trans (Below.heap_setCell _ _ _ _ hb)
          have sF : ((wr.setCell ⟨(w.heap.size + 1), 0, none⟩ (.slice (some ⟨GB, 0, none⟩) ls.length ls.length)).setCell ⟨(w.heap.size + 1), 1, none⟩ (.slice sa' (ln d TT) sc')).heap.size = wr.heap.size := by simp [World.setCell]
          have BF := (HBR.out.setCell (p := ⟨(w.heap.size + 1), 0, none⟩) (by show w.heap.size ≤ w.heap.size + 1; omega) (.slice (some ⟨GB, 0, none⟩) ls.length ls.length)).setCell (p := ⟨(w.heap.size + 1), 1, none⟩) (by show w.heap.size ≤ w.heap.size + 1; omega) (.slice sa' (ln d TT) sc')
          have kl := KL.out
          have OW2 : Own ((wr.setCell ⟨(w.heap.size + 1), 0, none⟩ (.slice (some ⟨GB, 0, none⟩) ls.length ls.length)).setCell ⟨(w.heap.size + 1), 1, none⟩ (.slice sa' (ln d TT) sc')) d (.slice sa' (ln d TT) sc') (mapT (varF zs) d T) b2 := by
            rw [HTT.out]
            exact Own.frame (fun b hb => (hne b (by have := L_b.out b hb; omega)).trans (HSR.out b (D_gb.out b hb) (kl.2.2 b hb))) HXO.out
          by_cases hn0 : ls.length = 0
          · have hl0 : ls = [] := List.eq_nil_of_length_eq_zero hn0
            refine ⟨_, _, [], b2, rfl, BF, .inl ⟨by rw [movL_len]; exact hn0, ⟨_, _, by rw [hn0], by unfold maxLen; omega⟩, rfl⟩, OW2, ?_, HN2.out, by simp⟩
            intro b hb
            have hb' : b ∈ b2 := by simpa using hb
            have := L_b.out b hb'
            have := kl.2.2 b hb'
            omega
          · refine ⟨_, _, [GB], b2, rfl, BF, .inr ⟨by rw [movL_len]; omega, GB, ls.length, by rw [movL_len], by rw [movL_len]; exact Nat.le_refl _, by unfold maxLen; omega, by rw [movL_len]; exact there_same (hne GB (by omega)) HTR.out, rfl, fun q hq => ?_⟩, OW2, ?_, HN2.out, ?_⟩
            · have hq' : q < ls.length := by rwa [movL_len] at hq
              have hg : (movTo zs ls ls.length).getD q (0, 0) = (movL zs ls)[q] := by
                rw [List.getD_eq_getElem?_getD]; unfold movL; rw [List.getElem?_eq_getElem (by rw [movTo_len]; exact hq'), Option.getD_some]; rfl
              obtain ⟨h1, h2⟩ := HOW.out q hq'
              rw [hg] at h1 h2
              intro j v hv
              match j, hv with
              | 0, hv => cases hv; exact (World.cell?_of_block (hne GB (by omega))).trans h1
              | 1, hv => cases hv; exact (World.cell?_of_block (hne GB (by omega))).trans h2
              | (j + 2), hv => simp at hv
            · intro b hb
              rcases List.mem_append.1 hb with hb | hb
              · obtain rfl : b = GB := by simpa using hb
                omega
              · have := L_b.out b hb
                have := kl.2.2 b hb
                omega
            · intro b hb hb'
              obtain rfl : b = GB := by simpa using hb
              exact D_gb.out _ hb' rfl
  · go_simp
    have bo : Below wd.heap.size wd (wd.alloc (.cells #[.slice none 0 0, .slice none 0 0] 43)) := (Below.refl _ _).alloc (Nat.le_refl _) _
    have co := C2.new wd (.slice none 0 0) (.slice none 0 0) 43
    have so : wd.heap.size < (wd.alloc (.cells #[.slice none 0 0, .slice none 0 0] 43)).heap.size := by simp
    generalize wd.alloc (.cells #[.slice none 0 0, .slice none 0 0] 43) = wo at bo co so ⊢
    have HZwo : Hid (C2 wo (w.heap.size + 1) (.slice none 0 0) (.slice none 0 0)) := C2.same HZwd.out (bo.block _ HScwd.out)
    have HScwo : Hid (w.heap.size + 1 < wo.heap.size) := Nat.lt_of_lt_of_le HScwd.out bo.size
    obtain ⟨OB, hOB⟩ : ∃ n, wd.heap.size = n := ⟨_, rfl⟩
    rw [hOB] at co so ⊢
    have L_o : Hid (w.heap.size + 1 < OB) := (show w.heap.size + 1 < OB by have := HScwd.out; omega)
    have HOcwo : Hid (C2 wo OB (.slice none 0 0) (.slice none 0 0) ∧ OB < wo.heap.size) := ⟨co, so⟩
    have hqo : (fun wz : World => wz.cell? ⟨w.heap.size, 0, none⟩ = some (.slice la ls.length lc) ∧ wz.cell? ⟨w.heap.size, 1, none⟩ = some (.slice sa (ln d T) sc) ∧ Below w.heap.size w wz) wo := ⟨cell_later bo hHeld.1, cell_later bo hHeld.2.1, Below.then hHeld.2.2 bo hHeld.2.2.size⟩
    clear co so bo hOB
    refine hK.out _ _ (hqo) (fun hHeld => ?_)
    clear hK K
    refine wpAnyH_ready (rs := [3, 7]) (by kernel_rfl) (by simp) ?_
    refine AllReadyH.cons rfl (fun K hK => ?_) (AllReadyH.cons rfl (fun K hK => ?_) AllReadyH.nil)
    · refine wp_make_at _ _ _ 40 rfl wo.heap.size 32 i0 _ 2 Try.underlying40 hi0 hz0 hz1 _ _ _ _ ls.length rfl rfl rfl rfl (by rw [hz2]; omega) (by unfold maxLen; omega) (Nat.le_refl _) ?_
      intro wg owng growg
      have bg : Below wo.heap.size wo wg := (Below.refl _ _).grown growg (Nat.le_refl _) (fun k hk => by cases hk)
      have tg := row_there owng
      have sg : wo.heap.size < wg.heap.size := (World.ownsRow.lt owng wo.heap.size rfl).2
      have zg : ∀ q, q < ls.length → wg.cell? ⟨wo.heap.size, q * 2, none⟩ = some (.int .i64 0) ∧ wg.cell? ⟨wo.heap.size, q * 2 + 1, none⟩ = some (.int .i64 0) := fun q hq => by
        refine ⟨?_, ?_⟩
        · rw [World.ownsRow.cellAt owng _ (by omega)]
          simp [madeCells, show q * 2 < ls.length * 2 by omega, Value.cells]
        · rw [World.ownsRow.cellAt owng _ (by omega)]
          simp [madeCells, show q * 2 + 1 < ls.length * 2 by omega, Value.cells, Nat.add_mod]
      clear owng growg
      have HZwg : Hid (C2 wg (w.heap.size + 1) (.slice none 0 0) (.slice none 0 0)) := C2.same HZwo.out (bg.block _ HScwo.out)
      have HOcwg : Hid (C2 wg OB (.slice none 0 0) (.slice none 0 0) ∧ OB < wg.heap.size) := ⟨C2.same HOcwo.out.1 (bg.block _ HOcwo.out.2), Nat.lt_of_lt_of_le HOcwo.out.2 bg.size⟩
      have HScwg : Hid (w.heap.size + 1 < wg.heap.size) := Nat.lt_of_lt_of_le HScwo.out bg.size
      obtain ⟨GB, hGB⟩ : ∃ n, wo.heap.size = n := ⟨_, rfl⟩
      rw [hGB] at tg sg zg ⊢
      have L_g : Hid (w.heap.size + 1 < GB) := (show w.heap.size + 1 < GB by have := HScwo.out; omega)
      have D_go : Hid (GB ≠ OB) := (show GB ≠ OB by have := HOcwo.out.2; omega)
      have HGcwg : Hid ((∀ q, q < ls.length → wg.cell? ⟨GB, q * 2, none⟩ = some (.int .i64 0) ∧ wg.cell? ⟨GB, q * 2 + 1, none⟩ = some (.int .i64 0)) ∧ wg.there GB 0 (ls.length * 2) ∧ GB < wg.heap.size) := ⟨zg, tg, sg⟩
      have hqg : (fun wz : World => wz.cell? ⟨w.heap.size, 0, none⟩ = some (.slice la ls.length lc) ∧ wz.cell? ⟨w.heap.size, 1, none⟩ = some (.slice sa (ln d T) sc) ∧ Below w.heap.size w wz) wg := ⟨cell_later bg hHeld.1, cell_later bg hHeld.2.1, Below.then hHeld.2.2 bg hHeld.2.2.size⟩
      clear zg tg sg bg hGB
      refine hK.out _ _ (hqg) (fun hHeld => ?_)
      clear hK K
      refine wpAnyH_ready (rs := [7]) (by kernel_rfl) (by simp) ?_
      refine AllReadyH.cons rfl (fun K hK => ?_) AllReadyH.nil
      go_simp
      refine Calls.mono (CSt.out _ hHeld.2.2) ?_
      rintro e' wb ⟨sv', b2, rfl, bb, ob2, rb, nb⟩
      obtain ⟨sa', sc', rfl⟩ := ob2.slice
      have HZwb : Hid (C2 wb (w.heap.size + 1) (.slice none 0 0) (.slice none 0 0)) := C2.same HZwg.out (bb.block _ HScwg.out)
      have HGcwb : Hid ((∀ q, q < ls.length → wb.cell? ⟨GB, q * 2, none⟩ = some (.int .i64 0) ∧ wb.cell? ⟨GB, q * 2 + 1, none⟩ = some (.int .i64 0)) ∧ wb.there GB 0 (ls.length * 2) ∧ GB < wb.heap.size) := ⟨fun q hq => ⟨cell_later bb (HGcwg.out.1 q hq).1, cell_later bb (HGcwg.out.1 q hq).2⟩, there_same (bb.block _ HGcwg.out.2.2) HGcwg.out.2.1, Nat.lt_of_lt_of_le HGcwg.out.2.2 bb.size⟩
      have HOcwb : Hid (C2 wb OB (.slice none 0 0) (.slice none 0 0) ∧ OB < wb.heap.size) := ⟨C2.same HOcwg.out.1 (bb.block _ HOcwg.out.2), Nat.lt_of_lt_of_le HOcwg.out.2 bb.size⟩
      have HScwb : Hid (w.heap.size + 1 < wb.heap.size) := Nat.lt_of_lt_of_le HScwg.out bb.size
      have HBcwb : Hid (Own wb d (.slice sa' (ln d TT) sc') TT b2 ∧ ∀ b ∈ b2, b < wb.heap.size) := ⟨ob2, fun b hb => (rb b hb).2⟩
      have L_b : Hid (∀ b ∈ b2, w.heap.size + 1 < b) := (show ∀ b ∈ b2, _ from fun b hb => by have := HScwg.out; have := rb b hb; omega)
      have D_ob : Hid (∀ b ∈ b2, b ≠ OB) := (show ∀ b ∈ b2, _ from fun b hb => by have := HOcwg.out.2; have := rb b hb; omega)
      have D_gb : Hid (∀ b ∈ b2, b ≠ GB) := (show ∀ b ∈ b2, _ from fun b hb => by have := HGcwg.out.2.2; have := rb b hb; omega)
      have HN2 : Hid _ := nb
      have hqb : (fun wz : World => wz.cell? ⟨w.heap.size, 0, none⟩ = some (.slice la ls.length lc) ∧ wz.cell? ⟨w.heap.size, 1, none⟩ = some (.slice sa (ln d T) sc) ∧ Below w.heap.size w wz) wb := ⟨cell_later bb hHeld.1, cell_later bb hHeld.2.1, Below.then hHeld.2.2 bb hHeld.2.2.size⟩
      clear ob2 rb nb bb
      refine hK.out _ _ (hqb) (fun hHeld => ?_)
      clear hK K
      refine' wpAnyH_take (i := 8) (v := _) rfl (by kernel_rfl) (by kernel_rfl) (by kernel_rfl) (fun _ _ _ h => h) (Or.inl ⟨by rfl, ?hy2459⟩) hHeld ?hn2459
      case hy2459 => (intro wz hSw; go_simp; first | done | with_reducible rfl)
      try simp only [nrm, Act.put]
      refine wpAnyH_ready (rs := [10]) (by kernel_rfl) (by simp) ?_
      refine AllReadyH.cons rfl (fun K hK => ?_) AllReadyH.nil
      obtain ⟨⟨o0, o1⟩, g0, g1⟩ := HOcwb.out.1
      go_simp
      have hne : ∀ b, b ≠ OB → ((wb.setCell ⟨OB, 0, none⟩ (.slice (some ⟨GB, 0, none⟩) ls.length ls.length)).setCell ⟨OB, 1, none⟩ (.slice sa' (ln d TT) sc')).heap[b]? = wb.heap[b]? := fun b hb => (Below.heap_setCell _ _ _ _ hb).trans (Below.heap_setCell _ _ _ _ hb)
      have CO := C2.set1 (.slice sa' (ln d TT) sc') (C2.set0 (.slice (some ⟨GB, 0, none⟩) ls.length ls.length) HOcwb.out.1)
      have sS : ((wb.setCell ⟨OB, 0, none⟩ (.slice (some ⟨GB, 0, none⟩) ls.length ls.length)).setCell ⟨OB, 1, none⟩ (.slice sa' (ln d TT) sc')).heap.size = wb.heap.size := by simp [World.setCell]
      have hLo := L_o.out
      have XZ := C2.same HZwb.out (hne _ (by omega))
      have XG : (∀ q, q < ls.length → ((wb.setCell ⟨OB, 0, none⟩ (.slice (some ⟨GB, 0, none⟩) ls.length ls.length)).setCell ⟨OB, 1, none⟩ (.slice sa' (ln d TT) sc')).cell? ⟨GB, q * 2, none⟩ = some (.int .i64 0) ∧ ((wb.setCell ⟨OB, 0, none⟩ (.slice (some ⟨GB, 0, none⟩) ls.length ls.length)).setCell ⟨OB, 1, none⟩ (.slice sa' (ln d TT) sc')).cell? ⟨GB, q * 2 + 1, none⟩ = some (.int .i64 0)) ∧ ((wb.setCell ⟨OB, 0, none⟩ (.slice (some ⟨GB, 0, none⟩) ls.length ls.length)).setCell ⟨OB, 1, none⟩ (.slice sa' (ln d TT) sc')).there GB 0 (ls.length * 2) := ⟨fun q hq => ⟨(World.cell?_of_block (hne GB D_go.out)).trans (HGcwb.out.1 q hq).1, (World.cell?_of_block (hne GB D_go.out)).trans (HGcwb.out.1 q hq).2⟩, there_same (hne GB D_go.out) HGcwb.out.2.1⟩
      have XO : Own ((wb.setCell ⟨OB, 0, none⟩ (.slice (some ⟨GB, 0, none⟩) ls.length ls.length)).setCell ⟨OB, 1, none⟩ (.slice sa' (ln d TT) sc')) d (.slice sa' (ln d TT) sc') TT b2 := Own.frame (fun b hb => hne b (D_ob.out b hb)) HBcwb.out.1
      have hqs : (fun wz : World => wz.cell? ⟨w.heap.size, 0, none⟩ = some (.slice la ls.length lc) ∧ wz.cell? ⟨w.heap.size, 1, none⟩ = some (.slice sa (ln d T) sc) ∧ Below w.heap.size w wz) ((wb.setCell ⟨OB, 0, none⟩ (.slice (some ⟨GB, 0, none⟩) ls.length ls.length)).setCell ⟨OB, 1, none⟩ (.slice sa' (ln d TT) sc')) := ⟨(World.cell?_of_block (hne w.heap.size (by omega))).trans hHeld.1, (World.cell?_of_block (hne w.heap.size (by omega))).trans hHeld.2.1, (hHeld.2.2.setCell (p := ⟨OB, 0, none⟩) (by show w.heap.size ≤ OB; omega) _).setCell (p := ⟨OB, 1, none⟩) (by show w.heap.size ≤ OB; omega) _⟩
      have KL : Hid (GB < ((wb.setCell ⟨OB, 0, none⟩ (.slice (some ⟨GB, 0, none⟩) ls.length ls.length)).setCell ⟨OB, 1, none⟩ (.slice sa' (ln d TT) sc')).heap.size ∧ OB < ((wb.setCell ⟨OB, 0, none⟩ (.slice (some ⟨GB, 0, none⟩) ls.length ls.length)).setCell ⟨OB, 1, none⟩ (.slice sa' (ln d TT) sc')).heap.size ∧ ∀ b ∈ b2, b < ((wb.setCell ⟨OB, 0, none⟩ (.slice (some ⟨GB, 0, none⟩) ls.length ls.length)).setCell ⟨OB, 1, none⟩ (.slice sa' (ln d TT) sc')).heap.size) := (show GB < ((wb.setCell ⟨OB, 0, none⟩ (.slice (some ⟨GB, 0, none⟩) ls.length ls.length)).setCell ⟨OB, 1, none⟩ (.slice sa' (ln d TT) sc')).heap.size ∧ OB < ((wb.setCell ⟨OB, 0, none⟩ (.slice (some ⟨GB, 0, none⟩) ls.length ls.length)).setCell ⟨OB, 1, none⟩ (.slice sa' (ln d TT) sc')).heap.size ∧ ∀ b ∈ b2, b < ((wb.setCell ⟨OB, 0, none⟩ (.slice (some ⟨GB, 0, none⟩) ls.length ls.length)).setCell ⟨OB, 1, none⟩ (.slice sa' (ln d TT) sc')).heap.size by rw [sS]; exact ⟨HGcwb.out.2.2, HOcwb.out.2, HBcwb.out.2⟩)
      clear o0 o1 g0 g1 hne sS hLo
      generalize ((wb.setCell ⟨OB, 0, none⟩ (.slice (some ⟨GB, 0, none⟩) ls.length ls.length)).setCell ⟨OB, 1, none⟩ (.slice sa' (ln d TT) sc')) = wO at CO XZ XG XO hqs KL ⊢
      refine hK.out _ _ (hqs) (fun hHeld => ?_)
      clear hK K
      refine wpAnyH_done (by kernel_rfl) ?_ _
      have HCO : Hid (C2 wO OB (.slice (some ⟨GB, 0, none⟩) ls.length ls.length) (.slice sa' (ln d TT) sc')) := CO
      have HZO : Hid (C2 wO (w.heap.size + 1) (.slice none 0 0) (.slice none 0 0)) := XZ
      have HPO : Hid (wO.cell? ⟨w.heap.size, 0, none⟩ = some (.slice la ls.length lc) ∧ wO.cell? ⟨w.heap.size, 1, none⟩ = some (.slice sa (ln d T) sc)) := ⟨hHeld.1, hHeld.2.1⟩
      have HBO : Hid (Below w.heap.size w wO) := hHeld.2.2
      have HXO : Hid (Own wO d (.slice sa' (ln d TT) sc') TT b2) := XO
      have HTH : Hid (wO.there GB 0 (ls.length * 2)) := XG.2
      have zO : ∀ q, q < ls.length → wO.cell? ⟨GB, q * 2, none⟩ = some (.int .i64 ((movTo zs ls 0).getD q (0, 0)).1) ∧ wO.cell? ⟨GB, q * 2 + 1, none⟩ = some (.int .i64 ((movTo zs ls 0).getD q (0, 0)).2) := fun q hq => by
        have e : (movTo zs ls 0).getD q (0, 0) = (0, 0) := by simp [movTo, List.getD_eq_getElem?_getD, List.getElem?_replicate, hq]
        rw [e]; exact XG.1 q hq
      have tO : wO.there GB 0 (ls.length * 2) := XG.2
      have lg := L_g.out
      have lo := L_o.out
      have dgo := D_go.out
      have HLO : Hid (∀ wz : World, (fun wz : World => ∀ b, b ≠ GB → b < wO.heap.size → wz.heap[b]? = wO.heap[b]?) wz → ∀ b o v, b < w.heap.size → w.cell? ⟨b, o, none⟩ = some v → wz.cell? ⟨b, o, none⟩ = some v) := (show ∀ wz : World, _ from fun wz hS b o v hb hv => (World.cell?_of_block ((hS b (by omega) (by have := HBO.out.size; omega)).trans (HBO.out.block b hb))).trans hv)
      clear CO XZ XO XG hHeld hqs
      go_wp2_with fail
      go_loopw [7] (fun j wr => ∃ (i : Nat), i ≤ ls.length ∧ j = .int .i64 i ∧ (fun wz : World => ∀ b, b ≠ GB → b < wO.heap.size → wz.heap[b]? = wO.heap[b]?) wr ∧ wO.heap.size ≤ wr.heap.size ∧ Below w.heap.size w wr ∧ wr.there GB 0 (ls.length * 2) ∧
          ∀ q, q < ls.length → wr.cell? ⟨GB, q * 2, none⟩ = some (.int .i64 ((movTo zs ls i).getD q (0, 0)).1) ∧ wr.cell? ⟨GB, q * 2 + 1, none⟩ = some (.int .i64 ((movTo zs ls i).getD q (0, 0)).2)) (fun j _ => ls.length - (intOf j).toNat)
      case atStart => exact ⟨0, by omega, rfl, fun b _ _ => rfl, Nat.le_refl _, HBO.out, tO, zO⟩
      case round =>
        obtain ⟨i, hi, rfl, hSr, hsz, hbr, hth, hown⟩ := hrel
        have HBR : Hid (Below w.heap.size w wr) := hbr
        have HTR : Hid (wr.there GB 0 (ls.length * 2)) := hth
        have HOW : Hid (∀ q, q < ls.length → wr.cell? ⟨GB, q * 2, none⟩ = some (.int .i64 ((movTo zs ls i).getD q (0, 0)).1) ∧ wr.cell? ⟨GB, q * 2 + 1, none⟩ = some (.int .i64 ((movTo zs ls i).getD q (0, 0)).2)) := hown
        have HSR : Hid ((fun wz : World => ∀ b, b ≠ GB → b < wO.heap.size → wz.heap[b]? = wO.heap[b]?) wr) := hSr
        have klo := KL.out.2.1
        by_cases hlt : i < ls.length
        · have i0' : (0 : Int) ≤ (i : Int) := by omega
          have i1' : (i : Int) < (ls.length : Int) := by omega
          obtain ⟨lb, lo', k, t, hx, rfl, hlb, k0, k1⟩ := HLB.out i hlt
          obtain ⟨rb, ro, m, hra, hrb, hm, hzm, c0⟩ := RCB.out i hlt
          have hrz : (i : Int) < (zs.length : Int) := by rw [HRLN.out]; exact i1'
          subst hra
          have m0' : (0 : Int) ≤ (m : Int) := by omega
          have m1' : (m : Int) < (ls.length : Int) := by omega
          have HX : Hid _ := hx
          have HZM : Hid _ := hzm
          have HLC : Hid (∀ wz : World, (fun wz : World => ∀ b, b ≠ GB → b < wO.heap.size → wz.heap[b]? = wO.heap[b]?) wz → wz.cell? ⟨lb, lo' + i * 2, none⟩ = some (.int .i64 k) ∧ wz.cell? ⟨lb, lo' + i * 2 + 1, none⟩ = some (.int .i64 t)) := (show ∀ wz : World, _ from fun wz hS => ⟨HLO.out wz hS lb _ _ hlb k0, HLO.out wz hS lb _ _ hlb k1⟩)
          have HRC : Hid (∀ wz : World, (fun wz : World => ∀ b, b ≠ GB → b < wO.heap.size → wz.heap[b]? = wO.heap[b]?) wz → wz.cell? ⟨rb, ro + i, none⟩ = some (.int .i64 (m : Int))) := (show ∀ wz : World, _ from fun wz hS => HLO.out wz hS rb _ _ hrb c0)
          have HPC : Hid (∀ wz : World, (fun wz : World => ∀ b, b ≠ GB → b < wO.heap.size → wz.heap[b]? = wO.heap[b]?) wz → wz.cell? ⟨w.heap.size, 0, none⟩ = some (.slice (some ⟨lb, lo', none⟩) ls.length lc)) := (show ∀ wz : World, _ from fun wz hS => (World.cell?_of_block (hS w.heap.size (by omega) (by omega))).trans HPO.out.1)
          have HBX : Hid (∀ wz : World, (fun wz : World => ∀ b, b ≠ GB → b < wO.heap.size → wz.heap[b]? = wO.heap[b]?) wz → wz.cell? ⟨OB, 0, none⟩ = some (.slice (some ⟨GB, 0, none⟩) ls.length ls.length)) := (show ∀ wz : World, _ from fun wz hS => (World.cell?_of_block (hS OB (fun h => dgo h.symm) klo)).trans HCO.out.1.1)
          obtain ⟨g0, g1⟩ := hown m hm
          have f0 : wr.frozen? ⟨GB, m * 2, none⟩ = false := by have := (hth (m * 2) (by omega)).2; rwa [Nat.zero_add] at this
          have f1 : wr.frozen? ⟨GB, m * 2 + 1, none⟩ = false := by have := (hth (m * 2 + 1) (by omega)).2; rwa [Nat.zero_add] at this
          clear hbr hth hown k0 k1 c0 hx hzm
          go_upto_region 7 with fail
          refine wp_region_held (S := (fun wz : World => ∀ b, b ≠ GB → b < wO.heap.size → wz.heap[b]? = wO.heap[b]?)) (by kernel_rfl) ?_
          change wpAnyH _ _ _ _ _ _ _ _ (World.drew _)
          have hHeld := (show (fun wz : World => ∀ b, b ≠ GB → b < wO.heap.size → wz.heap[b]? = wO.heap[b]?) (World.drew wr) from hSr)
          clear hSr
          refine' wpAnyH_take (i := 0) (v := _) rfl (by kernel_rfl) (by kernel_rfl) (by kernel_rfl) (fun _ _ _ h => h) (Or.inl ⟨by rfl, ?hy2460⟩) hHeld ?hn2460
          case hy2460 => (intro wz hSw; go_simp; first | done | with_reducible rfl)
          try simp only [nrm, Act.put]
          refine' wpAnyH_take (i := 1) (v := (.slice (some ⟨GB, 0, none⟩) ls.length ls.length)) rfl (by kernel_rfl) (by kernel_rfl) (by kernel_rfl) (fun _ _ _ h => h) (Or.inl ⟨by rfl, ?hy2461⟩) hHeld ?hn2461
          case hy2461 => (intro wz hSw; have j0 := HBX.out wz hSw; go_simp)
          try simp only [nrm, Act.put]
          refine' wpAnyH_take (i := 2) (v := _) rfl (by kernel_rfl) (by kernel_rfl) (by kernel_rfl) (fun _ _ _ h => h) (Or.inl ⟨by rfl, ?hy2462⟩) hHeld ?hn2462
          case hy2462 => (intro wz hSw; go_simp; first | done | with_reducible rfl)
          try simp only [nrm, Act.put]
          refine' wpAnyH_take (i := 3) (v := _) rfl (by kernel_rfl) (by kernel_rfl) (by kernel_rfl) (fun _ _ _ h => h) (Or.inl ⟨by rfl, ?hy2463⟩) hHeld ?hn2463
          case hy2463 => (intro wz hSw; go_simp; first | done | with_reducible rfl)
          try simp only [nrm, Act.put]
          refine' wpAnyH_take (i := 4) (v := _) rfl (by kernel_rfl) (by kernel_rfl) (by kernel_rfl) (fun _ _ _ h => h) (Or.inl ⟨by rfl, ?hy2464⟩) hHeld ?hn2464
          case hy2464 => (intro wz hSw; go_simp; first | done | with_reducible rfl)
          try simp only [nrm, Act.put]
          refine' wpAnyH_take (i := 5) (v := (.int .i64 (m : Int))) rfl (by kernel_rfl) (by kernel_rfl) (by kernel_rfl) (fun _ _ _ h => h) (Or.inl ⟨by rfl, ?hy2465⟩) hHeld ?hn2465
          case hy2465 => (intro wz hSw; have j0 := HRC.out wz hSw; go_simp)
          try simp only [nrm, Act.put]
          refine' wpAnyH_take (i := 6) (v := _) rfl (by kernel_rfl) (by kernel_rfl) (by kernel_rfl) (fun _ _ _ h => h) (Or.inl ⟨by rfl, ?hy2466⟩) hHeld ?hn2466
          case hy2466 => (intro wz hSw; go_simp; first | done | with_reducible rfl)
          try simp only [nrm, Act.put]
          refine' wpAnyH_take (i := 7) (v := (.slice (some ⟨lb, lo', none⟩) ls.length lc)) rfl (by kernel_rfl) (by kernel_rfl) (by kernel_rfl) (fun _ _ _ h => h) (Or.inl ⟨by rfl, ?hy2467⟩) hHeld ?hn2467
          case hy2467 => (intro wz hSw; have j0 := HPC.out wz hSw; go_simp)
          try simp only [nrm, Act.put]
          refine' wpAnyH_take (i := 8) (v := _) rfl (by kernel_rfl) (by kernel_rfl) (by kernel_rfl) (fun _ _ _ h => h) (Or.inl ⟨by rfl, ?hy2468⟩) hHeld ?hn2468
          case hy2468 => (intro wz hSw; go_simp; first | done | with_reducible rfl)
          try simp only [nrm, Act.put]
          refine' wpAnyH_take (i := 9) (v := _) rfl (by kernel_rfl) (by kernel_rfl) (by kernel_rfl) (fun _ _ _ h => h) (Or.inl ⟨by rfl, ?hy2469⟩) hHeld ?hn2469
          case hy2469 => (intro wz hSw; go_simp; first | done | with_reducible rfl)
          try simp only [nrm, Act.put]
          refine' wpAnyH_take (i := 10) (v := (.agg #[.int .i64 k, .int .i64 t])) rfl (by kernel_rfl) (by kernel_rfl) (by kernel_rfl) (fun _ _ _ h => h) (Or.inl ⟨by rfl, ?hy2470⟩) hHeld ?hn2470
          case hy2470 => (intro wz hSw; obtain ⟨j0, j1⟩ := HLC.out wz hSw; go_simp)
          try simp only [nrm, Act.put]
          refine' wpAnyH_take (i := 11) (v := _) rfl (by kernel_rfl) (by kernel_rfl) (by kernel_rfl) (fun _ _ _ h => h) (Or.inl ⟨by rfl, ?hy2471⟩) hHeld ?hn2471
          case hy2471 => (intro wz hSw; go_simp; first | done | with_reducible rfl)
          try simp only [nrm, Act.put]
          refine wpAnyH_ready (rs := [12]) (by kernel_rfl) (by simp) ?_
          refine AllReadyH.cons rfl (fun K hK => ?_) AllReadyH.nil
          have hq3 : (fun wz : World => ∀ b, b ≠ GB → b < wO.heap.size → wz.heap[b]? = wO.heap[b]?) (World.setCell (World.setCell (World.drew wr) ⟨GB, m * 2, none⟩ (.int .i64 k)) ⟨GB, m * 2 + 1, none⟩ (.int .i64 t)) := fun b h1 h2 => ((Below.heap_setCell _ _ _ _ h1).trans (Below.heap_setCell _ _ _ _ h1)).trans (hHeld b h1 h2)
          go_simp
          refine hK.out _ _ (hq3) (fun hHeld => ?_)
          clear hK K
          refine wpAnyH_done (by kernel_rfl) ?_ _
          have HQ3 : Hid _ := hHeld
          clear hHeld hq3
          go_wp2
          refine ⟨⟨i + 1, by omega, by simp, HQ3.out, by simp [World.setCell]; omega, Below.drew ((HBR.out.setCell (p := ⟨GB, m * 2, none⟩) (by show w.heap.size ≤ GB; omega) _).setCell (p := ⟨GB, m * 2 + 1, none⟩) (by show w.heap.size ≤ GB; omega) _), World.there_setCells (w := wr) HTR.out GB (m * 2) [.int .i64 k, .int .i64 t], ?_⟩, by simp [intOf]; omega⟩
          intro q hq
          obtain ⟨h1, h2⟩ := HOW.out q hq
          rw [movTo_succ, HZM.out, HX.out]
          by_cases hqm : q = m
          · subst hqm
            have e : ((movTo zs ls i).set q (k, t)).getD q (0, 0) = (k, t) := by
              rw [List.getD_eq_getElem?_getD, List.getElem?_set_self (by rw [movTo_len]; exact hq)]; rfl
            rw [e]
            refine ⟨?_, ?_⟩
            · show ((wr.setCell ⟨GB, q * 2, none⟩ (.int .i64 k)).setCell ⟨GB, q * 2 + 1, none⟩ (.int .i64 t)).cell? _ = _
              rw [World.cell?_setCell_other _ _ _ _ (by simp)]
              exact World.cell?_setCell_same _ _ _ h1
            · show ((wr.setCell ⟨GB, q * 2, none⟩ (.int .i64 k)).setCell ⟨GB, q * 2 + 1, none⟩ (.int .i64 t)).cell? _ = _
              exact World.cell?_setCell_same _ _ _ ((World.cell?_setCell_other _ _ _ _ (by simp)).trans h2)
          · have e : ((movTo zs ls i).set m (k, t)).getD q (0, 0) = (movTo zs ls i).getD q (0, 0) := by
              rw [List.getD_eq_getElem?_getD, List.getElem?_set_ne (fun h => hqm h.symm), ← List.getD_eq_getElem?_getD]
            rw [e]
            refine ⟨?_, ?_⟩
            · show ((wr.setCell ⟨GB, m * 2, none⟩ (.int .i64 k)).setCell ⟨GB, m * 2 + 1, none⟩ (.int .i64 t)).cell? _ = _
              rw [World.cell?_setCell_other _ _ _ _ (by simp <;> omega), World.cell?_setCell_other _ _ _ _ (by simp <;> omega)]; exact h1
            · show ((wr.setCell ⟨GB, m * 2, none⟩ (.int .i64 k)).setCell ⟨GB, m * 2 + 1, none⟩ (.int .i64 t)).cell? _ = _
              rw [World.cell?_setCell_other _ _ _ _ (by simp <;> omega), World.cell?_setCell_other _ _ _ _ (by simp <;> omega)]; exact h2
        · have hie : i = ls.length := by omega
          subst hie
          have hzl : ¬ ((ls.length : Int) < (zs.length : Int)) := by rw [HRLN.out]; omega
          obtain ⟨⟨z0, z1⟩, y0, y1⟩ := HZO.out.same (hSr (w.heap.size + 1) (by omega) (by omega))
          obtain ⟨⟨o0, o1⟩, -⟩ := HCO.out.same (hSr OB (fun h => dgo h.symm) klo)
          have ST0 := set_two0 (v0 := (.slice (some ⟨GB, 0, none⟩) ls.length ls.length)) (v1 := (.slice sa' (ln d TT) sc')) z0 z1
          have ST1 := set_two1 (v0 := (.slice (some ⟨GB, 0, none⟩) ls.length ls.length)) (v1 := (.slice sa' (ln d TT) sc')) z0 z1
          clear hbr hth hown hSr
          go_wp2
          refine bodyPost_ret (v := .tuple #[.agg #[(.slice (some ⟨GB, 0, none⟩) ls.length ls.length), (.slice sa' (ln d TT) sc')], .bool true]) (by simp [results, Try.results36, go_sem, ST0, ST1]) rfl ?_
          have hne : ∀ b, b ≠ (w.heap.size + 1) → ((wr.setCell ⟨(w.heap.size + 1), 0, none⟩ (.slice (some ⟨GB, 0, none⟩) ls.length ls.length)).setCell ⟨(w.heap.size + 1), 1, none⟩ (.slice sa' (ln d TT) sc')).heap[b]? = wr.heap[b]? := fun b hb => (Below.heap_setCell _ _ _ _ hb).trans (Below.heap_setCell _ _ _ _ hb)
          have sF : ((wr.setCell ⟨(w.heap.size + 1), 0, none⟩ (.slice (some ⟨GB, 0, none⟩) ls.length ls.length)).setCell ⟨(w.heap.size + 1), 1, none⟩ (.slice sa' (ln d TT) sc')).heap.size = wr.heap.size := by simp [World.setCell]
          have BF := (HBR.out.setCell (p := ⟨(w.heap.size + 1), 0, none⟩) (by show w.heap.size ≤ w.heap.size + 1; omega) (.slice (some ⟨GB, 0, none⟩) ls.length ls.length)).setCell (p := ⟨(w.heap.size + 1), 1, none⟩) (by show w.heap.size ≤ w.heap.size + 1; omega) (.slice sa' (ln d TT) sc')
          have kl := KL.out
          have OW2 : Own ((wr.setCell ⟨(w.heap.size + 1), 0, none⟩ (.slice (some ⟨GB, 0, none⟩) ls.length ls.length)).setCell ⟨(w.heap.size + 1), 1, none⟩ (.slice sa' (ln d TT) sc')) d (.slice sa' (ln d TT) sc') (mapT (varF zs) d T) b2 := by
            rw [HTT.out]
            exact Own.frame (fun b hb => (hne b (by have := L_b.out b hb; omega)).trans (HSR.out b (D_gb.out b hb) (kl.2.2 b hb))) HXO.out
          by_cases hn0 : ls.length = 0
          · have hl0 : ls = [] := List.eq_nil_of_length_eq_zero hn0
            refine ⟨_, _, [], b2, rfl, BF, .inl ⟨by rw [movL_len]; exact hn0, ⟨_, _, by rw [hn0], by unfold maxLen; omega⟩, rfl⟩, OW2, ?_, HN2.out, by simp⟩
            intro b hb
            have hb' : b ∈ b2 := by simpa using hb
            have := L_b.out b hb'
            have := kl.2.2 b hb'
            omega
          · refine ⟨_, _, [GB], b2, rfl, BF, .inr ⟨by rw [movL_len]; omega, GB, ls.length, by rw [movL_len], by rw [movL_len]; exact Nat.le_refl _, by unfold maxLen; omega, by rw [movL_len]; exact there_same (hne GB (by omega)) HTR.out, rfl, fun q hq => ?_⟩, OW2, ?_, HN2.out, ?_⟩
            · have hq' : q < ls.length := by rwa [movL_len] at hq
              have hg : (movTo zs ls ls.length).getD q (0, 0) = (movL zs ls)[q] := by
                rw [List.getD_eq_getElem?_getD]; unfold movL; rw [List.getElem?_eq_getElem (by rw [movTo_len]; exact hq'), Option.getD_some]; rfl
              obtain ⟨h1, h2⟩ := HOW.out q hq'
              rw [hg] at h1 h2
              intro j v hv
              match j, hv with
              | 0, hv => cases hv; exact (World.cell?_of_block (hne GB (by omega))).trans h1
              | 1, hv => cases hv; exact (World.cell?_of_block (hne GB (by omega))).trans h2
              | (j + 2), hv => simp at hv
            · intro b hb
              rcases List.mem_append.1 hb with hb | hb
              · obtain rfl : b = GB := by simpa using hb
                omega
              · have := L_b.out b hb
                have := kl.2.2 b hb
                omega
            · intro b hb hb'
              obtain rfl : b = GB := by simpa using hb
              exact D_gb.out _ hb' rfl
    · go_simp
      refine Calls.mono (CSt.out _ hHeld.2.2) ?_
      rintro e' wb ⟨sv', b2, rfl, bb, ob2, rb, nb⟩
      obtain ⟨sa', sc', rfl⟩ := ob2.slice
      have HZwb : Hid (C2 wb (w.heap.size + 1) (.slice none 0 0) (.slice none 0 0)) := C2.same HZwo.out (bb.block _ HScwo.out)
      have HOcwb : Hid (C2 wb OB (.slice none 0 0) (.slice none 0 0) ∧ OB < wb.heap.size) := ⟨C2.same HOcwo.out.1 (bb.block _ HOcwo.out.2), Nat.lt_of_lt_of_le HOcwo.out.2 bb.size⟩
      have HScwb : Hid (w.heap.size + 1 < wb.heap.size) := Nat.lt_of_lt_of_le HScwo.out bb.size
      have HBcwb : Hid (Own wb d (.slice sa' (ln d TT) sc') TT b2 ∧ ∀ b ∈ b2, b < wb.heap.size) := ⟨ob2, fun b hb => (rb b hb).2⟩
      have L_b : Hid (∀ b ∈ b2, w.heap.size + 1 < b) := (show ∀ b ∈ b2, _ from fun b hb => by have := HScwo.out; have := rb b hb; omega)
      have D_ob : Hid (∀ b ∈ b2, b ≠ OB) := (show ∀ b ∈ b2, _ from fun b hb => by have := HOcwo.out.2; have := rb b hb; omega)
      have HN2 : Hid _ := nb
      have hqb : (fun wz : World => wz.cell? ⟨w.heap.size, 0, none⟩ = some (.slice la ls.length lc) ∧ wz.cell? ⟨w.heap.size, 1, none⟩ = some (.slice sa (ln d T) sc) ∧ Below w.heap.size w wz) wb := ⟨cell_later bb hHeld.1, cell_later bb hHeld.2.1, Below.then hHeld.2.2 bb hHeld.2.2.size⟩
      clear ob2 rb nb bb
      refine hK.out _ _ (hqb) (fun hHeld => ?_)
      clear hK K
      refine wpAnyH_ready (rs := [3]) (by kernel_rfl) (by simp) ?_
      refine AllReadyH.cons rfl (fun K hK => ?_) AllReadyH.nil
      refine wp_make_at _ _ _ 40 rfl wb.heap.size 32 i0 _ 2 Try.underlying40 hi0 hz0 hz1 _ _ _ _ ls.length rfl rfl rfl rfl (by rw [hz2]; omega) (by unfold maxLen; omega) (Nat.le_refl _) ?_
      intro wg owng growg
      have bg : Below wb.heap.size wb wg := (Below.refl _ _).grown growg (Nat.le_refl _) (fun k hk => by cases hk)
      have tg := row_there owng
      have sg : wb.heap.size < wg.heap.size := (World.ownsRow.lt owng wb.heap.size rfl).2
      have zg : ∀ q, q < ls.length → wg.cell? ⟨wb.heap.size, q * 2, none⟩ = some (.int .i64 0) ∧ wg.cell? ⟨wb.heap.size, q * 2 + 1, none⟩ = some (.int .i64 0) := fun q hq => by
        refine ⟨?_, ?_⟩
        · rw [World.ownsRow.cellAt owng _ (by omega)]
          simp [madeCells, show q * 2 < ls.length * 2 by omega, Value.cells]
        · rw [World.ownsRow.cellAt owng _ (by omega)]
          simp [madeCells, show q * 2 + 1 < ls.length * 2 by omega, Value.cells, Nat.add_mod]
      clear owng growg
      have HZwg : Hid (C2 wg (w.heap.size + 1) (.slice none 0 0) (.slice none 0 0)) := C2.same HZwb.out (bg.block _ HScwb.out)
      have HOcwg : Hid (C2 wg OB (.slice none 0 0) (.slice none 0 0) ∧ OB < wg.heap.size) := ⟨C2.same HOcwb.out.1 (bg.block _ HOcwb.out.2), Nat.lt_of_lt_of_le HOcwb.out.2 bg.size⟩
      have HBcwg : Hid (Own wg d (.slice sa' (ln d TT) sc') TT b2 ∧ ∀ b ∈ b2, b < wg.heap.size) := ⟨Own.frame (fun b hb => bg.block b (HBcwb.out.2 b hb)) HBcwb.out.1, fun b hb => Nat.lt_of_lt_of_le (HBcwb.out.2 b hb) bg.size⟩
      have HScwg : Hid (w.heap.size + 1 < wg.heap.size) := Nat.lt_of_lt_of_le HScwb.out bg.size
      obtain ⟨GB, hGB⟩ : ∃ n, wb.heap.size = n := ⟨_, rfl⟩
      rw [hGB] at tg sg zg ⊢
      have L_g : Hid (w.heap.size + 1 < GB) := (show w.heap.size + 1 < GB by have := HScwb.out; omega)
      have D_go : Hid (GB ≠ OB) := (show GB ≠ OB by have := HOcwb.out.2; omega)
      have D_gb : Hid (∀ b ∈ b2, b ≠ GB) := (show ∀ b ∈ b2, _ from fun b hb => by have := HBcwb.out.2 b hb; omega)
      have HGcwg : Hid ((∀ q, q < ls.length → wg.cell? ⟨GB, q * 2, none⟩ = some (.int .i64 0) ∧ wg.cell? ⟨GB, q * 2 + 1, none⟩ = some (.int .i64 0)) ∧ wg.there GB 0 (ls.length * 2) ∧ GB < wg.heap.size) := ⟨zg, tg, sg⟩
      have hqg : (fun wz : World => wz.cell? ⟨w.heap.size, 0, none⟩ = some (.slice la ls.length lc) ∧ wz.cell? ⟨w.heap.size, 1, none⟩ = some (.slice sa (ln d T) sc) ∧ Below w.heap.size w wz) wg := ⟨cell_later bg hHeld.1, cell_later bg hHeld.2.1, Below.then hHeld.2.2 bg hHeld.2.2.size⟩
      clear zg tg sg bg hGB
      refine hK.out _ _ (hqg) (fun hHeld => ?_)
      clear hK K
      refine' wpAnyH_take (i := 8) (v := _) rfl (by kernel_rfl) (by kernel_rfl) (by kernel_rfl) (fun _ _ _ h => h) (Or.inl ⟨by rfl, ?hy2472⟩) hHeld ?hn2472
      case hy2472 => (intro wz hSw; go_simp; first | done | with_reducible rfl)
      try simp only [nrm, Act.put]
      refine wpAnyH_ready (rs := [10]) (by kernel_rfl) (by simp) ?_
      refine AllReadyH.cons rfl (fun K hK => ?_) AllReadyH.nil
      obtain ⟨⟨o0, o1⟩, g0, g1⟩ := HOcwg.out.1
      go_simp
      have hne : ∀ b, b ≠ OB → ((wg.setCell ⟨OB, 0, none⟩ (.slice (some ⟨GB, 0, none⟩) ls.length ls.length)).setCell ⟨OB, 1, none⟩ (.slice sa' (ln d TT) sc')).heap[b]? = wg.heap[b]? := fun b hb => (Below.heap_setCell _ _ _ _ hb).trans (Below.heap_setCell _ _ _ _ hb)
      have CO := C2.set1 (.slice sa' (ln d TT) sc') (C2.set0 (.slice (some ⟨GB, 0, none⟩) ls.length ls.length) HOcwg.out.1)
      have sS : ((wg.setCell ⟨OB, 0, none⟩ (.slice (some ⟨GB, 0, none⟩) ls.length ls.length)).setCell ⟨OB, 1, none⟩ (.slice sa' (ln d TT) sc')).heap.size = wg.heap.size := by simp [World.setCell]
      have hLo := L_o.out
      have XZ := C2.same HZwg.out (hne _ (by omega))
      have XG : (∀ q, q < ls.length → ((wg.setCell ⟨OB, 0, none⟩ (.slice (some ⟨GB, 0, none⟩) ls.length ls.length)).setCell ⟨OB, 1, none⟩ (.slice sa' (ln d TT) sc')).cell? ⟨GB, q * 2, none⟩ = some (.int .i64 0) ∧ ((wg.setCell ⟨OB, 0, none⟩ (.slice (some ⟨GB, 0, none⟩) ls.length ls.length)).setCell ⟨OB, 1, none⟩ (.slice sa' (ln d TT) sc')).cell? ⟨GB, q * 2 + 1, none⟩ = some (.int .i64 0)) ∧ ((wg.setCell ⟨OB, 0, none⟩ (.slice (some ⟨GB, 0, none⟩) ls.length ls.length)).setCell ⟨OB, 1, none⟩ (.slice sa' (ln d TT) sc')).there GB 0 (ls.length * 2) := ⟨fun q hq => ⟨(World.cell?_of_block (hne GB D_go.out)).trans (HGcwg.out.1 q hq).1, (World.cell?_of_block (hne GB D_go.out)).trans (HGcwg.out.1 q hq).2⟩, there_same (hne GB D_go.out) HGcwg.out.2.1⟩
      have XO : Own ((wg.setCell ⟨OB, 0, none⟩ (.slice (some ⟨GB, 0, none⟩) ls.length ls.length)).setCell ⟨OB, 1, none⟩ (.slice sa' (ln d TT) sc')) d (.slice sa' (ln d TT) sc') TT b2 := Own.frame (fun b hb => hne b (D_ob.out b hb)) HBcwg.out.1
      have hqs : (fun wz : World => wz.cell? ⟨w.heap.size, 0, none⟩ = some (.slice la ls.length lc) ∧ wz.cell? ⟨w.heap.size, 1, none⟩ = some (.slice sa (ln d T) sc) ∧ Below w.heap.size w wz) ((wg.setCell ⟨OB, 0, none⟩ (.slice (some ⟨GB, 0, none⟩) ls.length ls.length)).setCell ⟨OB, 1, none⟩ (.slice sa' (ln d TT) sc')) := ⟨(World.cell?_of_block (hne w.heap.size (by omega))).trans hHeld.1, (World.cell?_of_block (hne w.heap.size (by omega))).trans hHeld.2.1, (hHeld.2.2.setCell (p := ⟨OB, 0, none⟩) (by show w.heap.size ≤ OB; omega) _).setCell (p := ⟨OB, 1, none⟩) (by show w.heap.size ≤ OB; omega) _⟩
      have KL : Hid (GB < ((wg.setCell ⟨OB, 0, none⟩ (.slice (some ⟨GB, 0, none⟩) ls.length ls.length)).setCell ⟨OB, 1, none⟩ (.slice sa' (ln d TT) sc')).heap.size ∧ OB < ((wg.setCell ⟨OB, 0, none⟩ (.slice (some ⟨GB, 0, none⟩) ls.length ls.length)).setCell ⟨OB, 1, none⟩ (.slice sa' (ln d TT) sc')).heap.size ∧ ∀ b ∈ b2, b < ((wg.setCell ⟨OB, 0, none⟩ (.slice (some ⟨GB, 0, none⟩) ls.length ls.length)).setCell ⟨OB, 1, none⟩ (.slice sa' (ln d TT) sc')).heap.size) := (show GB < ((wg.setCell ⟨OB, 0, none⟩ (.slice (some ⟨GB, 0, none⟩) ls.length ls.length)).setCell ⟨OB, 1, none⟩ (.slice sa' (ln d TT) sc')).heap.size ∧ OB < ((wg.setCell ⟨OB, 0, none⟩ (.slice (some ⟨GB, 0, none⟩) ls.length ls.length)).setCell ⟨OB, 1, none⟩ (.slice sa' (ln d TT) sc')).heap.size ∧ ∀ b ∈ b2, b < ((wg.setCell ⟨OB, 0, none⟩ (.slice (some ⟨GB, 0, none⟩) ls.length ls.length)).setCell ⟨OB, 1, none⟩ (.slice sa' (ln d TT) sc')).heap.size by rw [sS]; exact ⟨HGcwg.out.2.2, HOcwg.out.2, HBcwg.out.2⟩)
      clear o0 o1 g0 g1 hne sS hLo
      generalize ((wg.setCell ⟨OB, 0, none⟩ (.slice (some ⟨GB, 0, none⟩) ls.length ls.length)).setCell ⟨OB, 1, none⟩ (.slice sa' (ln d TT) sc')) = wO at CO XZ XG XO hqs KL ⊢
      refine hK.out _ _ (hqs) (fun hHeld => ?_)
      clear hK K
      refine wpAnyH_done (by kernel_rfl) ?_ _
      have HCO : Hid (C2 wO OB (.slice (some ⟨GB, 0, none⟩) ls.length ls.length) (.slice sa' (ln d TT) sc')) := CO
      have HZO : Hid (C2 wO (w.heap.size + 1) (.slice none 0 0) (.slice none 0 0)) := XZ
      have HPO : Hid (wO.cell? ⟨w.heap.size, 0, none⟩ = some (.slice la ls.length lc) ∧ wO.cell? ⟨w.heap.size, 1, none⟩ = some (.slice sa (ln d T) sc)) := ⟨hHeld.1, hHeld.2.1⟩
      have HBO : Hid (Below w.heap.size w wO) := hHeld.2.2
      have HXO : Hid (Own wO d (.slice sa' (ln d TT) sc') TT b2) := XO
      have HTH : Hid (wO.there GB 0 (ls.length * 2)) := XG.2
      have zO : ∀ q, q < ls.length → wO.cell? ⟨GB, q * 2, none⟩ = some (.int .i64 ((movTo zs ls 0).getD q (0, 0)).1) ∧ wO.cell? ⟨GB, q * 2 + 1, none⟩ = some (.int .i64 ((movTo zs ls 0).getD q (0, 0)).2) := fun q hq => by
        have e : (movTo zs ls 0).getD q (0, 0) = (0, 0) := by simp [movTo, List.getD_eq_getElem?_getD, List.getElem?_replicate, hq]
        rw [e]; exact XG.1 q hq
      have tO : wO.there GB 0 (ls.length * 2) := XG.2
      have lg := L_g.out
      have lo := L_o.out
      have dgo := D_go.out
      have HLO : Hid (∀ wz : World, (fun wz : World => ∀ b, b ≠ GB → b < wO.heap.size → wz.heap[b]? = wO.heap[b]?) wz → ∀ b o v, b < w.heap.size → w.cell? ⟨b, o, none⟩ = some v → wz.cell? ⟨b, o, none⟩ = some v) := (show ∀ wz : World, _ from fun wz hS b o v hb hv => (World.cell?_of_block ((hS b (by omega) (by have := HBO.out.size; omega)).trans (HBO.out.block b hb))).trans hv)
      clear CO XZ XO XG hHeld hqs
      go_wp2_with fail
      go_loopw [7] (fun j wr => ∃ (i : Nat), i ≤ ls.length ∧ j = .int .i64 i ∧ (fun wz : World => ∀ b, b ≠ GB → b < wO.heap.size → wz.heap[b]? = wO.heap[b]?) wr ∧ wO.heap.size ≤ wr.heap.size ∧ Below w.heap.size w wr ∧ wr.there GB 0 (ls.length * 2) ∧
          ∀ q, q < ls.length → wr.cell? ⟨GB, q * 2, none⟩ = some (.int .i64 ((movTo zs ls i).getD q (0, 0)).1) ∧ wr.cell? ⟨GB, q * 2 + 1, none⟩ = some (.int .i64 ((movTo zs ls i).getD q (0, 0)).2)) (fun j _ => ls.length - (intOf j).toNat)
      case atStart => exact ⟨0, by omega, rfl, fun b _ _ => rfl, Nat.le_refl _, HBO.out, tO, zO⟩
      case round =>
        obtain ⟨i, hi, rfl, hSr, hsz, hbr, hth, hown⟩ := hrel
        have HBR : Hid (Below w.heap.size w wr) := hbr
        have HTR : Hid (wr.there GB 0 (ls.length * 2)) := hth
        have HOW : Hid (∀ q, q < ls.length → wr.cell? ⟨GB, q * 2, none⟩ = some (.int .i64 ((movTo zs ls i).getD q (0, 0)).1) ∧ wr.cell? ⟨GB, q * 2 + 1, none⟩ = some (.int .i64 ((movTo zs ls i).getD q (0, 0)).2)) := hown
        have HSR : Hid ((fun wz : World => ∀ b, b ≠ GB → b < wO.heap.size → wz.heap[b]? = wO.heap[b]?) wr) := hSr
        have klo := KL.out.2.1
        by_cases hlt : i < ls.length
        · have i0' : (0 : Int) ≤ (i : Int) := by omega
          have i1' : (i : Int) < (ls.length : Int) := by omega
          obtain ⟨lb, lo', k, t, hx, rfl, hlb, k0, k1⟩ := HLB.out i hlt
          obtain ⟨rb, ro, m, hra, hrb, hm, hzm, c0⟩ := RCB.out i hlt
          have hrz : (i : Int) < (zs.length : Int) := by rw [HRLN.out]; exact i1'
          subst hra
          have m0' : (0 : Int) ≤ (m : Int) := by omega
          have m1' : (m : Int) < (ls.length : Int) := by omega
          have HX : Hid _ := hx
          have HZM : Hid _ := hzm
          have HLC : Hid (∀ wz : World, (fun wz : World => ∀ b, b ≠ GB → b < wO.heap.size → wz.heap[b]? = wO.heap[b]?) wz → wz.cell? ⟨lb, lo' + i * 2, none⟩ = some (.int .i64 k) ∧ wz.cell? ⟨lb, lo' + i * 2 + 1, none⟩ = some (.int .i64 t)) := (show ∀ wz : World, _ from fun wz hS => ⟨HLO.out wz hS lb _ _ hlb k0, HLO.out wz hS lb _ _ hlb k1⟩)
          have HRC : Hid (∀ wz : World, (fun wz : World => ∀ b, b ≠ GB → b < wO.heap.size → wz.heap[b]? = wO.heap[b]?) wz → wz.cell? ⟨rb, ro + i, none⟩ = some (.int .i64 (m : Int))) := (show ∀ wz : World, _ from fun wz hS => HLO.out wz hS rb _ _ hrb c0)
          have HPC : Hid (∀ wz : World, (fun wz : World => ∀ b, b ≠ GB → b < wO.heap.size → wz.heap[b]? = wO.heap[b]?) wz → wz.cell? ⟨w.heap.size, 0, none⟩ = some (.slice (some ⟨lb, lo', none⟩) ls.length lc)) := (show ∀ wz : World, _ from fun wz hS => (World.cell?_of_block (hS w.heap.size (by omega) (by omega))).trans HPO.out.1)
          have HBX : Hid (∀ wz : World, (fun wz : World => ∀ b, b ≠ GB → b < wO.heap.size → wz.heap[b]? = wO.heap[b]?) wz → wz.cell? ⟨OB, 0, none⟩ = some (.slice (some ⟨GB, 0, none⟩) ls.length ls.length)) := (show ∀ wz : World, _ from fun wz hS => (World.cell?_of_block (hS OB (fun h => dgo h.symm) klo)).trans HCO.out.1.1)
          obtain ⟨g0, g1⟩ := hown m hm
          have f0 : wr.frozen? ⟨GB, m * 2, none⟩ = false := by have := (hth (m * 2) (by omega)).2; rwa [Nat.zero_add] at this
          have f1 : wr.frozen? ⟨GB, m * 2 + 1, none⟩ = false := by have := (hth (m * 2 + 1) (by omega)).2; rwa [Nat.zero_add] at this
          clear hbr hth hown k0 k1 c0 hx hzm
          go_upto_region 7 with fail
          refine wp_region_held (S := (fun wz : World => ∀ b, b ≠ GB → b < wO.heap.size → wz.heap[b]? = wO.heap[b]?)) (by kernel_rfl) ?_
          change wpAnyH _ _ _ _ _ _ _ _ (World.drew _)
          have hHeld := (show (fun wz : World => ∀ b, b ≠ GB → b < wO.heap.size → wz.heap[b]? = wO.heap[b]?) (World.drew wr) from hSr)
          clear hSr
          refine' wpAnyH_take (i := 0) (v := _) rfl (by kernel_rfl) (by kernel_rfl) (by kernel_rfl) (fun _ _ _ h => h) (Or.inl ⟨by rfl, ?hy2473⟩) hHeld ?hn2473
          case hy2473 => (intro wz hSw; go_simp; first | done | with_reducible rfl)
          try simp only [nrm, Act.put]
          refine' wpAnyH_take (i := 1) (v := (.slice (some ⟨GB, 0, none⟩) ls.length ls.length)) rfl (by kernel_rfl) (by kernel_rfl) (by kernel_rfl) (fun _ _ _ h => h) (Or.inl ⟨by rfl, ?hy2474⟩) hHeld ?hn2474
          case hy2474 => (intro wz hSw; have j0 := HBX.out wz hSw; go_simp)
          try simp only [nrm, Act.put]
          refine' wpAnyH_take (i := 2) (v := _) rfl (by kernel_rfl) (by kernel_rfl) (by kernel_rfl) (fun _ _ _ h => h) (Or.inl ⟨by rfl, ?hy2475⟩) hHeld ?hn2475
          case hy2475 => (intro wz hSw; go_simp; first | done | with_reducible rfl)
          try simp only [nrm, Act.put]
          refine' wpAnyH_take (i := 3) (v := _) rfl (by kernel_rfl) (by kernel_rfl) (by kernel_rfl) (fun _ _ _ h => h) (Or.inl ⟨by rfl, ?hy2476⟩) hHeld ?hn2476
          case hy2476 => (intro wz hSw; go_simp; first | done | with_reducible rfl)
          try simp only [nrm, Act.put]
          refine' wpAnyH_take (i := 4) (v := _) rfl (by kernel_rfl) (by kernel_rfl) (by kernel_rfl) (fun _ _ _ h => h) (Or.inl ⟨by rfl, ?hy2477⟩) hHeld ?hn2477
          case hy2477 => (intro wz hSw; go_simp; first | done | with_reducible rfl)
          try simp only [nrm, Act.put]
          refine' wpAnyH_take (i := 5) (v := (.int .i64 (m : Int))) rfl (by kernel_rfl) (by kernel_rfl) (by kernel_rfl) (fun _ _ _ h => h) (Or.inl ⟨by rfl, ?hy2478⟩) hHeld ?hn2478
          case hy2478 => (intro wz hSw; have j0 := HRC.out wz hSw; go_simp)
          try simp only [nrm, Act.put]
          refine' wpAnyH_take (i := 6) (v := _) rfl (by kernel_rfl) (by kernel_rfl) (by kernel_rfl) (fun _ _ _ h => h) (Or.inl ⟨by rfl, ?hy2479⟩) hHeld ?hn2479
          case hy2479 => (intro wz hSw; go_simp; first | done | with_reducible rfl)
          try simp only [nrm, Act.put]
          refine' wpAnyH_take (i := 7) (v := (.slice (some ⟨lb, lo', none⟩) ls.length lc)) rfl (by kernel_rfl) (by kernel_rfl) (by kernel_rfl) (fun _ _ _ h => h) (Or.inl ⟨by rfl, ?hy2480⟩) hHeld ?hn2480
          case hy2480 => (intro wz hSw; have j0 := HPC.out wz hSw; go_simp)
          try simp only [nrm, Act.put]
          refine' wpAnyH_take (i := 8) (v := _) rfl (by kernel_rfl) (by kernel_rfl) (by kernel_rfl) (fun _ _ _ h => h) (Or.inl ⟨by rfl, ?hy2481⟩) hHeld ?hn2481
          case hy2481 => (intro wz hSw; go_simp; first | done | with_reducible rfl)
          try simp only [nrm, Act.put]
          refine' wpAnyH_take (i := 9) (v := _) rfl (by kernel_rfl) (by kernel_rfl) (by kernel_rfl) (fun _ _ _ h => h) (Or.inl ⟨by rfl, ?hy2482⟩) hHeld ?hn2482
          case hy2482 => (intro wz hSw; go_simp; first | done | with_reducible rfl)
          try simp only [nrm, Act.put]
          refine' wpAnyH_take (i := 10) (v := (.agg #[.int .i64 k, .int .i64 t])) rfl (by kernel_rfl) (by kernel_rfl) (by kernel_rfl) (fun _ _ _ h => h) (Or.inl ⟨by rfl, ?hy2483⟩) hHeld ?hn2483
          case hy2483 => (intro wz hSw; obtain ⟨j0, j1⟩ := HLC.out wz hSw; go_simp)
          try simp only [nrm, Act.put]
          refine' wpAnyH_take (i := 11) (v := _) rfl (by kernel_rfl) (by kernel_rfl) (by kernel_rfl) (fun _ _ _ h => h) (Or.inl ⟨by rfl, ?hy2484⟩) hHeld ?hn2484
          case hy2484 => (intro wz hSw; go_simp; first | done | with_reducible rfl)
          try simp only [nrm, Act.put]
          refine wpAnyH_ready (rs := [12]) (by kernel_rfl) (by simp) ?_
          refine AllReadyH.cons rfl (fun K hK => ?_) AllReadyH.nil
          have hq3 : (fun wz : World => ∀ b, b ≠ GB → b < wO.heap.size → wz.heap[b]? = wO.heap[b]?) (World.setCell (World.setCell (World.drew wr) ⟨GB, m * 2, none⟩ (.int .i64 k)) ⟨GB, m * 2 + 1, none⟩ (.int .i64 t)) := fun b h1 h2 => ((Below.heap_setCell _ _ _ _ h1).trans (Below.heap_setCell _ _ _ _ h1)).trans (hHeld b h1 h2)
          go_simp
          refine hK.out _ _ (hq3) (fun hHeld => ?_)
          clear hK K
          refine wpAnyH_done (by kernel_rfl) ?_ _
          have HQ3 : Hid _ := hHeld
          clear hHeld hq3
          go_wp2
          refine ⟨⟨i + 1, by omega, by simp, HQ3.out, by simp [World.setCell]; omega, Below.drew ((HBR.out.setCell (p := ⟨GB, m * 2, none⟩) (by show w.heap.size ≤ GB; omega) _).setCell (p := ⟨GB, m * 2 + 1, none⟩) (by show w.heap.size ≤ GB; omega) _), World.there_setCells (w := wr) HTR.out GB (m * 2) [.int .i64 k, .int .i64 t], ?_⟩, by simp [intOf]; omega⟩
          intro q hq
          obtain ⟨h1, h2⟩ := HOW.out q hq
          rw [movTo_succ, HZM.out, HX.out]
          by_cases hqm : q = m
          · subst hqm
            have e : ((movTo zs ls i).set q (k, t)).getD q (0, 0) = (k, t) := by
              rw [List.getD_eq_getElem?_getD, List.getElem?_set_self (by rw [movTo_len]; exact hq)]; rfl
            rw [e]
            refine ⟨?_, ?_⟩
            · show ((wr.setCell ⟨GB, q * 2, none⟩ (.int .i64 k)).setCell ⟨GB, q * 2 + 1, none⟩ (.int .i64 t)).cell? _ = _
              rw [World.cell?_setCell_other _ _ _ _ (by simp)]
              exact World.cell?_setCell_same _ _ _ h1
            · show ((wr.setCell ⟨GB, q * 2, none⟩ (.int .i64 k)).setCell ⟨GB, q * 2 + 1, none⟩ (.int .i64 t)).cell? _ = _
              exact World.cell?_setCell_same _ _ _ ((World.cell?_setCell_other _ _ _ _ (by simp)).trans h2)
          · have e : ((movTo zs ls i).set m (k, t)).getD q (0, 0) = (movTo zs ls i).getD q (0, 0) := by
              rw [List.getD_eq_getElem?_getD, List.getElem?_set_ne (fun h => hqm h.symm), ← List.getD_eq_getElem?_getD]
            rw [e]
            refine ⟨?_, ?_⟩
            · show ((wr.setCell ⟨GB, m * 2, none⟩ (.int .i64 k)).setCell ⟨GB, m * 2 + 1, none⟩ (.int .i64 t)).cell? _ = _
              rw [World.cell?_setCell_other _ _ _ _ (by simp <;> omega), World.cell?_setCell_other _ _ _ _ (by simp <;> omega)]; exact h1
            · show ((wr.setCell ⟨GB, m * 2, none⟩ (.int .i64 k)).setCell ⟨GB, m * 2 + 1, none⟩ (.int .i64 t)).cell? _ = _
              rw [World.cell?_setCell_other _ _ _ _ (by simp <;> omega), World.cell?_setCell_other _ _ _ _ (by simp <;> omega)]; exact h2
        · have hie : i = ls.length := by omega
          subst hie
          have hzl : ¬ ((ls.length : Int) < (zs.length : Int)) := by rw [HRLN.out]; omega
          obtain ⟨⟨z0, z1⟩, y0, y1⟩ := HZO.out.same (hSr (w.heap.size + 1) (by omega) (by omega))
          obtain ⟨⟨o0, o1⟩, -⟩ := HCO.out.same (hSr OB (fun h => dgo h.symm) klo)
          have ST0 := set_two0 (v0 := (.slice (some ⟨GB, 0, none⟩) ls.length ls.length)) (v1 := (.slice sa' (ln d TT) sc')) z0 z1
          have ST1 := set_two1 (v0 := (.slice (some ⟨GB, 0, none⟩) ls.length ls.length)) (v1 := (.slice sa' (ln d TT) sc')) z0 z1
          clear hbr hth hown hSr
          go_wp2
          refine bodyPost_ret (v := .tuple #[.agg #[(.slice (some ⟨GB, 0, none⟩) ls.length ls.length), (.slice sa' (ln d TT) sc')], .bool true]) (by simp [results, Try.results36, go_sem, ST0, ST1]) rfl ?_
          have hne : ∀ b, b ≠ (w.heap.size + 1) → ((wr.setCell ⟨(w.heap.size + 1), 0, none⟩ (.slice (some ⟨GB, 0, none⟩) ls.length ls.length)).setCell ⟨(w.heap.size + 1), 1, none⟩ (.slice sa' (ln d TT) sc')).heap[b]? = wr.heap[b]? := fun b hb => (Below.heap_setCell _ _ _ _ hb).trans (Below.heap_setCell _ _ _ _ hb)
          have sF : ((wr.setCell ⟨(w.heap.size + 1), 0, none⟩ (.slice (some ⟨GB, 0, none⟩) ls.length ls.length)).setCell ⟨(w.heap.size + 1), 1, none⟩ (.slice sa' (ln d TT) sc')).heap.size = wr.heap.size := by simp [World.setCell]
          have BF := (HBR.out.setCell (p := ⟨(w.heap.size + 1), 0, none⟩) (by show w.heap.size ≤ w.heap.size + 1; omega) (.slice (some ⟨GB, 0, none⟩) ls.length ls.length)).setCell (p := ⟨(w.heap.size + 1), 1, none⟩) (by show w.heap.size ≤ w.heap.size + 1; omega) (.slice sa' (ln d TT) sc')
          have kl := KL.out
          have OW2 : Own ((wr.setCell ⟨(w.heap.size + 1), 0, none⟩ (.slice (some ⟨GB, 0, none⟩) ls.length ls.length)).setCell ⟨(w.heap.size + 1), 1, none⟩ (.slice sa' (ln d TT) sc')) d (.slice sa' (ln d TT) sc') (mapT (varF zs) d T) b2 := by
            rw [HTT.out]
            exact Own.frame (fun b hb => (hne b (by have := L_b.out b hb; omega)).trans (HSR.out b (D_gb.out b hb) (kl.2.2 b hb))) HXO.out
          by_cases hn0 : ls.length = 0
          · have hl0 : ls = [] := List.eq_nil_of_length_eq_zero hn0
            refine ⟨_, _, [], b2, rfl, BF, .inl ⟨by rw [movL_len]; exact hn0, ⟨_, _, by rw [hn0], by unfold maxLen; omega⟩, rfl⟩, OW2, ?_, HN2.out, by simp⟩
            intro b hb
            have hb' : b ∈ b2 := by simpa using hb
            have := L_b.out b hb'
            have := kl.2.2 b hb'
            omega
          · refine ⟨_, _, [GB], b2, rfl, BF, .inr ⟨by rw [movL_len]; omega, GB, ls.length, by rw [movL_len], by rw [movL_len]; exact Nat.le_refl _, by unfold maxLen; omega, by rw [movL_len]; exact there_same (hne GB (by omega)) HTR.out, rfl, fun q hq => ?_⟩, OW2, ?_, HN2.out, ?_⟩
            · have hq' : q < ls.length := by rwa [movL_len] at hq
              have hg : (movTo zs ls ls.length).getD q (0, 0) = (movL zs ls)[q] := by
                rw [List.getD_eq_getElem?_getD]; unfold movL; rw [List.getElem?_eq_getElem (by rw [movTo_len]; exact hq'), Option.getD_some]; rfl
              obtain ⟨h1, h2⟩ := HOW.out q hq'
              rw [hg] at h1 h2
              intro j v hv
              match j, hv with
              | 0, hv => cases hv; exact (World.cell?_of_block (hne GB (by omega))).trans h1
              | 1, hv => cases hv; exact (World.cell?_of_block (hne GB (by omega))).trans h2
              | (j + 2), hv => simp at hv
            · intro b hb
              rcases List.mem_append.1 hb with hb | hb
              · obtain rfl : b = GB := by simpa using hb
                omega
              · have := L_b.out b hb
                have := kl.2.2 b hb
                omega
            · intro b hb hb'
              obtain rfl : b = GB := by simpa using hb
              exact D_gb.out _ hb' rfl
end Go.Proofs.Ytfmhdjnambnglaa

/- The exact laws of ProgOk and of ProgSize, walked. -/
import Derived.Test.YtegnakcdkdfkdaaImp
import Derived.Test.YtegnakcdkdfkdaaSiz
import Derived.Test.YtegnakcdkdfkdaaToC
import Derived.Test.YtegnakcdkdfkdaaEqs
namespace Go.Proofs.Ytegnakcdkdfkdaa
open Go.RowKit
set_option linter.unusedSimpArgs false
set_option linter.unusedVariables false
attribute [local go_sem ↓] Go.wp_at_zero Go.wp_at_succ
attribute [local go_sem] World.cell?_alloc_some

theorem Below.then' {w wz wx : World} (h : Below w.heap.size w wz) (hb : Below wz.heap.size wz wx) : Below w.heap.size w wx := Below.then h hb h.size
theorem SE1 {B : Nat} {w wz : World} {a1 a2 a3 a4 : Addr} {v1 v2 v3 v4 : Value} (h : (wz.cell? a1 = some v1 ∧ wz.cell? a2 = some v2) ∧ (wz.cell? a3 = some v3 ∧ wz.cell? a4 = some v4) ∧ Below B w wz) : (wz.drew.cell? a1 = some v1 ∧ wz.drew.cell? a2 = some v2) ∧ (wz.drew.cell? a3 = some v3 ∧ wz.drew.cell? a4 = some v4) ∧ Below B w wz.drew := ⟨h.1, h.2.1, h.2.2.drew⟩
theorem SE2 {w wz wx : World} {a1 a2 a3 a4 : Addr} {v1 v2 v3 v4 : Value} (h : (wz.cell? a1 = some v1 ∧ wz.cell? a2 = some v2) ∧ (wz.cell? a3 = some v3 ∧ wz.cell? a4 = some v4) ∧ Below w.heap.size w wz) (hb : Below wz.heap.size wz wx) : (wx.cell? a1 = some v1 ∧ wx.cell? a2 = some v2) ∧ (wx.cell? a3 = some v3 ∧ wx.cell? a4 = some v4) ∧ Below w.heap.size w wx :=
  ⟨⟨cell_later hb h.1.1, cell_later hb h.1.2⟩, ⟨cell_later hb h.2.1.1, cell_later hb h.2.1.2⟩, Below.then h.2.2 hb h.2.2.size⟩

set_option maxHeartbeats 4000000 in
theorem fnExactProgOk_walk {d : Nat} {T : Tr d} {lv sv : Value} {ls : List (Int × Int)} (w : World) (hL : LRep w lv ls) (hR : Rep w d sv T) :
    Calls Try.prog 6 #[.agg #[lv, sv]] w fun e w' => e = .returned (.bool true) ∧ Below w.heap.size w w' := by
  have A : Below w.heap.size w (w.alloc (.cells #[lv, sv] 44)) := (Below.refl _ _).alloc (Nat.le_refl _) _
  have C0 : Hid _ := szProg_any (left := 1048576) (hL.below A) (hR.below A) (by decide) (by decide)
  have HL : Hid (∀ w', Below w.heap.size w w' → LRep w' lv ls) := (show ∀ w', _ from fun w' hb => hL.below hb)
  have HR : Hid (∀ w', Below w.heap.size w w' → Rep w' d sv T) := (show ∀ w', _ from fun w' hb => hR.below hb)
  obtain ⟨la, lc, rfl, -⟩ := hL
  obtain ⟨sa, sc, rfl⟩ := hR.slice
  clear hR
  obtain ⟨res, hres⟩ : ∃ r, progB ls d T = r := ⟨_, rfl⟩
  have HRES : Hid _ := hres
  clear hres
  go_enter Try.func6, Try.ntmps6
  go_wp2_with fail
  go_at_call 19; refine Calls.mono C0.out ?_; rintro e w1 ⟨rfl, hb1⟩
  have B1 : Below w.heap.size w w1 := Below.then A hb1 (by simp)
  have x0 : w1.cell? ⟨w.heap.size, 0, none⟩ = some (.slice la ls.length lc) := cell_later hb1 (by go_simp)
  have x1 : w1.cell? ⟨w.heap.size, 1, none⟩ = some (.slice sa (ln d T) sc) := cell_later hb1 (by go_simp)
  clear hb1 A C0
  by_cases hsz : ((ls.length + cnt d T : Nat) : Int) ≤ 1048576
  case neg =>
    rw [szR_neg hsz]
    go_wp2
    go_ret
    exact ⟨rfl, B1⟩
  rw [szR_pos hsz]
  have h0 : ¬ (1048576 - ((ls.length + cnt d T : Nat) : Int) < 0) := by omega
  have h0' : 0 ≤ 1048576 - ((ls.length + cnt d T : Nat) : Int) := by omega
  have hlen : ls.length ≤ 1048576 := by omega
  have hcn : cnt d T ≤ 1048576 := by omega
  have CT : Hid (∀ wx, Below w.heap.size w wx → Calls Try.prog 20 #[.agg #[.slice la ls.length lc, .slice sa (ln d T) sc]] wx fun e w' => ∃ lv' sv' b1 b2, e = .returned (.agg #[lv', sv']) ∧ Below wx.heap.size wx w' ∧ LOwn w' lv' ls b1 ∧ Own w' d sv' T b2 ∧ (∀ b ∈ b1 ++ b2, wx.heap.size ≤ b ∧ b < w'.heap.size) ∧ b2.Nodup ∧ (∀ b ∈ b1, b ∉ b2)) := (show ∀ wx, _ from fun wx hb => toProg_any (HL.out wx hb) (HR.out wx hb) hlen hcn)
  generalize 1048576 - ((ls.length + cnt d T : Nat) : Int) = z at h0 h0' ⊢
  go_wp2_with fail
  go_at_call 20; refine (CT.out _ B1).mono ?_; rintro e w2 ⟨lv1, sv1, b11, b12, rfl, hb2, o11, o12, -, -, -⟩
  have B2 : Below w.heap.size w w2 := Below.then B1 hb2 B1.size
  have C1 : Hid _ := sProgOk_any o11.rep o12.rep hcn
  obtain ⟨la1, lc1, rfl, -⟩ := o11.rep
  obtain ⟨sa1, sc1, rfl⟩ := o12.slice
  replace x0 := cell_later hb2 x0
  replace x1 := cell_later hb2 x1
  clear hb2 B1 o11 o12
  go_wp2_with fail
  go_at_call 11; refine Calls.mono C1.out ?_; rintro e w2' ⟨rfl, hb2⟩
  have B2' : Below w.heap.size w w2' := Below.then B2 hb2 B2.size
  replace x0 := cell_later hb2 x0
  replace x1 := cell_later hb2 x1
  clear hb2 B2 C1
  rw [HRES.out]
  go_wp2_with fail
  go_at_call 20; refine (CT.out _ B2').mono ?_; rintro e w3 ⟨lv2, sv2, b21, b22, rfl, hb3, o21, o22, -, -, -⟩
  have B3 : Below w.heap.size w w3 := Below.then B2' hb3 B2'.size
  obtain ⟨la2, lc2, rfl, -⟩ := o21.rep
  obtain ⟨sa2, sc2, rfl⟩ := o22.slice
  replace x0 := cell_later hb3 x0
  replace x1 := cell_later hb3 x1
  have A3 : Below w3.heap.size w3 (w3.alloc (.cells #[.slice la2 ls.length lc2, .slice sa2 (ln d T) sc2] 26)) := (Below.refl _ _).alloc (Nat.le_refl _) _
  have C2 : Hid _ := progOk_any (o21.rep.below A3) (o22.rep.below A3)
  have L3 : Hid (LRep w3 (.slice la2 ls.length lc2) ls) := o21.rep
  have R3 : Hid (Rep w3 d (.slice sa2 (ln d T) sc2) T) := o22.rep
  clear hb3 B2' o21 o22
  go_wp2_with fail
  go_at_call 10; refine Calls.mono C2.out ?_; rintro e w4 ⟨rfl, hb4⟩
  have A4 : Below w3.heap.size w3 w4 := Below.then A3 hb4 (by simp)
  have B4 : Below w.heap.size w w4 := Below.then B3 A4 B3.size
  have y0 : w4.cell? ⟨w3.heap.size, 0, none⟩ = some (.slice la2 ls.length lc2) := cell_later hb4 (by go_simp)
  have y1 : w4.cell? ⟨w3.heap.size, 1, none⟩ = some (.slice sa2 (ln d T) sc2) := cell_later hb4 (by go_simp)
  replace x0 := cell_later A4 x0
  replace x1 := cell_later A4 x1
  have L4 : Hid (LRep w4 (.slice la2 ls.length lc2) ls) := L3.out.below A4
  have R4 : Hid (Rep w4 d (.slice sa2 (ln d T) sc2) T) := R3.out.below A4
  clear hb4 A3 A4 L3 R3 B3 C2
  rw [HRES.out]
  go_wp2_with fail
  refine wp_region_held (S := (fun wz => (wz.cell? ⟨w.heap.size, 0, none⟩ = some (.slice la ls.length lc) ∧ wz.cell? ⟨w.heap.size, 1, none⟩ = some (.slice sa (ln d T) sc)) ∧ (wz.cell? ⟨w3.heap.size, 0, none⟩ = some (.slice la2 ls.length lc2) ∧ wz.cell? ⟨w3.heap.size, 1, none⟩ = some (.slice sa2 (ln d T) sc2)) ∧ Below w4.heap.size w4 wz)) (by kernel_rfl) ?_
  change wpAnyH _ _ _ _ _ _ _ _ (World.drew _)
  have hHeld := SE1 ⟨⟨x0, x1⟩, ⟨y0, y1⟩, Below.refl w4.heap.size w4⟩
  refine' wpAnyH_take (i := 0) (v := .agg #[.slice la2 ls.length lc2, .slice sa2 (ln d T) sc2]) rfl (by kernel_rfl) (by kernel_rfl) (by kernel_rfl) (fun _ _ _ h => h) (Or.inl ⟨by rfl, ?hy1⟩) hHeld ?hn1
  case hy1 => (intro wz hSw; obtain ⟨_, ⟨k0, k1⟩, _⟩ := hSw; go_simp)
  try simp only [List.getElem_toArray, List.getElem_cons_zero, List.getElem_cons_succ, Act.put, List.setIfInBounds_toArray, List.set_cons_zero, List.set_cons_succ]
  refine' wpAnyH_take (i := 1) (v := .agg #[.slice la ls.length lc, .slice sa (ln d T) sc]) rfl (by kernel_rfl) (by kernel_rfl) (by kernel_rfl) (fun _ _ _ h => h) (Or.inl ⟨by rfl, ?hy2⟩) hHeld ?hn2
  case hy2 => (intro wz hSw; obtain ⟨⟨k0, k1⟩, _, _⟩ := hSw; go_simp)
  try simp only [List.getElem_toArray, List.getElem_cons_zero, List.getElem_cons_succ, Act.put, List.setIfInBounds_toArray, List.set_cons_zero, List.set_cons_succ]
  refine wpAnyH_ready (rs := [2]) (by kernel_rfl) (by simp) ?_
  refine AllReadyH.cons rfl (fun K hK => ?_) AllReadyH.nil
  go_simp
  refine (CT.out _ (Below.then B4 hHeld.2.2 B4.size)).mono ?_; rintro e' w9 ⟨lv3, sv3, b31, b32, rfl, hbx, o31, o32, -, -, -⟩; obtain ⟨la3, lc3, rfl, -⟩ := o31.rep; obtain ⟨sa3, sc3, rfl⟩ := o32.slice; have CE : Hid _ := eqProg_same (L4.out.below (Below.then' hHeld.2.2 hbx)) (R4.out.below (Below.then' hHeld.2.2 hbx)) o31.rep o32.rep
  refine hK.out _ _ (SE2 hHeld hbx) (fun hHeld => ?_)
  clear hK K
  refine wpAnyH_ready (rs := [3]) (by kernel_rfl) (by simp) ?_
  refine AllReadyH.cons rfl (fun K hK => ?_) AllReadyH.nil
  go_simp
  refine Calls.mono CE.out ?_; rintro e' w9 ⟨rfl, hbx⟩
  refine hK.out _ _ (SE2 hHeld hbx) (fun hHeld => ?_)
  clear hK K
  refine' wpAnyH_take (i := 4) (v := _) rfl (by kernel_rfl) (by kernel_rfl) (by kernel_rfl) (fun _ _ _ h => h) (Or.inl ⟨by rfl, ?hy3⟩) hHeld ?hn3
  case hy3 => (intro wz hSw; (try dsimp only at hSw); go_simp; first | done | with_reducible rfl)
  try simp only [List.getElem_toArray, List.getElem_cons_zero, List.getElem_cons_succ, Act.put, List.setIfInBounds_toArray, List.set_cons_zero, List.set_cons_succ]
  refine wpAnyH_done (by kernel_rfl) ?_ _
  have BB := Below.then B4 hHeld.2.2 B4.size
  go_wp2
  go_ret
  exact ⟨rfl, BB⟩

end Go.Proofs.Ytegnakcdkdfkdaa

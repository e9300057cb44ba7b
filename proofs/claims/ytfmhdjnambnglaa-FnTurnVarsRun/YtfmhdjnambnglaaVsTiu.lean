/- Values whose variables are named otherwise. -/
import Derived.Test.YtfmhdjnambnglaaVsTia
import Derived.Test.YtfmhdjnambnglaaVsTsh
import Derived.Test.YtfmhdjnambnglaaVsCpy
import Derived.Test.YtfmhdjnambnglaaVsRwx
namespace Go.Proofs.Ytfmhdjnambnglaa
open Go.RowKit
set_option linter.unusedSimpArgs false
set_option linter.unusedVariables false
attribute [local go_sem] World.cell?_alloc_some

theorem valTurned_three (zs : List Int) {n : Nat} (vk va vb : Int) (rb ro rc : Nat) (w : World) (hl : zs.length = n) (hva : 0 ≤ va ∧ va < n) (hvb : 0 ≤ vb ∧ vb < n) (hk : vk = 3 ∨ vk = 4) (hrb : rb < w.heap.size) (RC : ∀ m (hm : m < zs.length) wx, Below w.heap.size w wx → wx.cell? ⟨rb, ro + m, none⟩ = some (.int .i64 zs[m])) :
    Calls Try.prog 107 #[.agg #[.int .i64 vk, .int .i64 va, .int .i64 vb], .slice (some ⟨rb, ro, none⟩) zs.length rc] w fun e w' => e = .returned (.agg #[.int .i64 vk, .int .i64 (zs.getD va.toNat 0), .int .i64 (zs.getD vb.toNat 0)]) ∧ Below w.heap.size w w' := by
  obtain ⟨ma, rfl⟩ := Int.eq_ofNat_of_zero_le hva.1
  obtain ⟨mb, rfl⟩ := Int.eq_ofNat_of_zero_le hvb.1
  have hma : ma < zs.length := by omega
  have hmb : mb < zs.length := by omega
  have HA : Hid (∀ wx, Below w.heap.size w wx → wx.cell? ⟨rb, ro + ma, none⟩ = some (.int .i64 zs[ma])) := (show ∀ wx, _ from RC ma hma)
  have HB : Hid (∀ wx, Below w.heap.size w wx → wx.cell? ⟨rb, ro + mb, none⟩ = some (.int .i64 zs[mb])) := (show ∀ wx, _ from RC mb hmb)
  have ga : zs.getD ((ma : Int)).toNat 0 = zs[ma] := by simp [List.getD_eq_getElem?_getD, List.getElem?_eq_getElem hma]
  have gb : zs.getD ((mb : Int)).toNat 0 = zs[mb] := by simp [List.getD_eq_getElem?_getD, List.getElem?_eq_getElem hmb]
  rw [ga, gb]
  have a0 : (0 : Int) ≤ (ma : Int) := by omega
  have a1 : (ma : Int) < (zs.length : Int) := by omega
  have b0 : (0 : Int) ≤ (mb : Int) := by omega
  have b1 : (mb : Int) < (zs.length : Int) := by omega
  clear RC ga gb hl
  generalize zs[ma] = ya at *
  generalize zs[mb] = yb at *
  rcases hk with rfl | rfl
  · go_enter Try.func107, Try.ntmps107
    go_upto_region 6 with fail
    have hHeld : Below w.heap.size w ((w.alloc (.cells #[.int .i64 3, .int .i64 ma, .int .i64 mb] 90)).alloc (.cells #[.int .i64 0, .int .i64 0, .int .i64 0] 90)).drew := (((Below.refl _ _).alloc (Nat.le_refl _) _).alloc (by simp) _).drew
    refine wp_region_held (S := (fun wz => Below w.heap.size w wz)) (by kernel_rfl) ?_
    change wpAnyH _ _ _ _ _ _ _ _ (World.drew _)
    refine' wpAnyH_take (i := 0) (v := _) rfl (by kernel_rfl) (by kernel_rfl) (by kernel_rfl) (fun _ _ _ h => h) (Or.inl ⟨by rfl, ?hy601⟩) hHeld ?hn601
    case hy601 => (intro wz hSw; go_simp; first | done | with_reducible rfl)
    try simp only [nrm, Act.put]
    refine' wpAnyH_take (i := 1) (v := _) rfl (by kernel_rfl) (by kernel_rfl) (by kernel_rfl) (fun _ _ _ h => h) (Or.inl ⟨by rfl, ?hy602⟩) hHeld ?hn602
    case hy602 => (intro wz hSw; go_simp; first | done | with_reducible rfl)
    try simp only [nrm, Act.put]
    refine' wpAnyH_take (i := 5) (v := _) rfl (by kernel_rfl) (by kernel_rfl) (by kernel_rfl) (fun _ _ _ h => h) (Or.inl ⟨by rfl, ?hy603⟩) hHeld ?hn603
    case hy603 => (intro wz hSw; go_simp; first | done | with_reducible rfl)
    try simp only [nrm, Act.put]
    refine' wpAnyH_take (i := 6) (v := _) rfl (by kernel_rfl) (by kernel_rfl) (by kernel_rfl) (fun _ _ _ h => h) (Or.inl ⟨by rfl, ?hy604⟩) hHeld ?hn604
    case hy604 => (intro wz hSw; go_simp; first | done | with_reducible rfl)
    try simp only [nrm, Act.put]
    refine wpAnyH_ready (rs := [2, 7]) (by kernel_rfl) (by simp) ?_
    refine AllReadyH.cons rfl (fun K hK => ?_) (AllReadyH.cons rfl (fun K hK => ?_) AllReadyH.nil)
    · go_simp
      refine hK.out _ _ ((by repeat' (first | exact Below.refl _ _ | assumption | (refine Below.drew ?_) | (refine Below.then ?_ (by assumption) ?_) | (refine Below.alloc ?_ ?_ _) | (refine Below.setCell ?_ ?_ _) | (simp; done) | omega))) (fun hHeld => ?_)
      clear hK K
      refine' wpAnyH_take (i := 3) (v := _) rfl (by kernel_rfl) (by kernel_rfl) (by kernel_rfl) (fun _ _ _ h => h) (Or.inl ⟨by rfl, ?hy605⟩) hHeld ?hn605
      case hy605 => (intro wz hSw; go_simp; first | done | with_reducible rfl)
      try simp only [nrm, Act.put]
      refine' wpAnyH_take (i := 4) (v := .int .i64 ya) rfl (by kernel_rfl) (by kernel_rfl) (by kernel_rfl) (fun _ _ _ h => h) (Or.inl ⟨by rfl, ?hy606⟩) hHeld ?hn606
      case hy606 => (intro wz hSw; have j0 := HA.out _ hSw; go_simp)
      try simp only [nrm, Act.put]
      refine wpAnyH_ready (rs := [7]) (by kernel_rfl) (by simp) ?_
      refine AllReadyH.cons rfl (fun K hK => ?_) AllReadyH.nil
      go_simp
      refine hK.out _ _ ((by repeat' (first | exact Below.refl _ _ | assumption | (refine Below.drew ?_) | (refine Below.then ?_ (by assumption) ?_) | (refine Below.alloc ?_ ?_ _) | (refine Below.setCell ?_ ?_ _) | (simp; done) | omega))) (fun hHeld => ?_)
      clear hK K
      refine' wpAnyH_take (i := 8) (v := _) rfl (by kernel_rfl) (by kernel_rfl) (by kernel_rfl) (fun _ _ _ h => h) (Or.inl ⟨by rfl, ?hy607⟩) hHeld ?hn607
      case hy607 => (intro wz hSw; go_simp; first | done | with_reducible rfl)
      try simp only [nrm, Act.put]
      refine' wpAnyH_take (i := 9) (v := .int .i64 yb) rfl (by kernel_rfl) (by kernel_rfl) (by kernel_rfl) (fun _ _ _ h => h) (Or.inl ⟨by rfl, ?hy608⟩) hHeld ?hn608
      case hy608 => (intro wz hSw; have j0 := HB.out _ hSw; go_simp)
      try simp only [nrm, Act.put]
      refine' wpAnyH_take (i := 10) (v := _) rfl (by kernel_rfl) (by kernel_rfl) (by kernel_rfl) (fun _ _ _ h => h) (Or.inl ⟨by rfl, ?hy609⟩) hHeld ?hn609
      case hy609 => (intro wz hSw; go_simp; first | done | with_reducible rfl)
      try simp only [nrm, Act.put]
      refine wpAnyH_ready (rs := [11]) (by kernel_rfl) (by simp) ?_
      refine AllReadyH.cons rfl (fun K hK => ?_) AllReadyH.nil
      go_simp
      refine hK.out _ _ ((by repeat' (first | exact Below.refl _ _ | assumption | (refine Below.drew ?_) | (refine Below.then ?_ (by assumption) ?_) | (refine Below.alloc ?_ ?_ _) | (refine Below.setCell ?_ ?_ _) | (simp; done) | omega))) (fun hHeld => ?_)
      clear hK K
      refine' wpAnyH_take (i := 12) (v := _) rfl (by kernel_rfl) (by kernel_rfl) (by kernel_rfl) (fun _ _ _ h => h) (Or.inl ⟨by rfl, ?hy610⟩) hHeld ?hn610
      case hy610 => (intro wz hSw; go_simp; first | done | with_reducible rfl)
      try simp only [nrm, Act.put]
      refine wpAnyH_ready (rs := [13]) (by kernel_rfl) (by simp) ?_
      refine AllReadyH.cons rfl (fun K hK => ?_) AllReadyH.nil
      go_simp
      refine hK.out _ _ ((by repeat' (first | exact Below.refl _ _ | assumption | (refine Below.drew ?_) | (refine Below.then ?_ (by assumption) ?_) | (refine Below.alloc ?_ ?_ _) | (refine Below.setCell ?_ ?_ _) | (simp; done) | omega))) (fun hHeld => ?_)
      clear hK K
      refine wpAnyH_done (by kernel_rfl) ?_ _
      clear hHeld
      go_wp2
      refine bodyPost_ret (v := .agg #[.int .i64 3, .int .i64 ya, .int .i64 yb]) (by simp [results, Try.results107, go_sem]) rfl ⟨rfl, ?_⟩
      repeat' (first | exact Below.refl _ _ | assumption | (refine Below.drew ?_) | (refine Below.then ?_ (by assumption) ?_) | (refine Below.alloc ?_ ?_ _) | (refine Below.setCell ?_ ?_ _) | (simp; done) | (simp at *; omega) | omega)
    · go_simp
      refine hK.out _ _ ((by repeat' (first | exact Below.refl _ _ | assumption | (refine Below.drew ?_) | (refine Below.then ?_ (by assumption) ?_) | (refine Below.alloc ?_ ?_ _) | (refine Below.setCell ?_ ?_ _) | (simp; done) | omega))) (fun hHeld => ?_)
      clear hK K
      refine' wpAnyH_take (i := 8) (v := _) rfl (by kernel_rfl) (by kernel_rfl) (by kernel_rfl) (fun _ _ _ h => h) (Or.inl ⟨by rfl, ?hy611⟩) hHeld ?hn611
      case hy611 => (intro wz hSw; go_simp; first | done | with_reducible rfl)
      try simp only [nrm, Act.put]
      refine' wpAnyH_take (i := 9) (v := .int .i64 yb) rfl (by kernel_rfl) (by kernel_rfl) (by kernel_rfl) (fun _ _ _ h => h) (Or.inl ⟨by rfl, ?hy612⟩) hHeld ?hn612
      case hy612 => (intro wz hSw; have j0 := HB.out _ hSw; go_simp)
      try simp only [nrm, Act.put]
      refine wpAnyH_ready (rs := [2]) (by kernel_rfl) (by simp) ?_
      refine AllReadyH.cons rfl (fun K hK => ?_) AllReadyH.nil
      go_simp
      refine hK.out _ _ ((by repeat' (first | exact Below.refl _ _ | assumption | (refine Below.drew ?_) | (refine Below.then ?_ (by assumption) ?_) | (refine Below.alloc ?_ ?_ _) | (refine Below.setCell ?_ ?_ _) | (simp; done) | omega))) (fun hHeld => ?_)
      clear hK K
      refine' wpAnyH_take (i := 3) (v := _) rfl (by kernel_rfl) (by kernel_rfl) (by kernel_rfl) (fun _ _ _ h => h) (Or.inl ⟨by rfl, ?hy613⟩) hHeld ?hn613
      case hy613 => (intro wz hSw; go_simp; first | done | with_reducible rfl)
      try simp only [nrm, Act.put]
      refine' wpAnyH_take (i := 4) (v := .int .i64 ya) rfl (by kernel_rfl) (by kernel_rfl) (by kernel_rfl) (fun _ _ _ h => h) (Or.inl ⟨by rfl, ?hy614⟩) hHeld ?hn614
      case hy614 => (intro wz hSw; have j0 := HA.out _ hSw; go_simp)
      try simp only [nrm, Act.put]
      refine' wpAnyH_take (i := 10) (v := _) rfl (by kernel_rfl) (by kernel_rfl) (by kernel_rfl) (fun _ _ _ h => h) (Or.inl ⟨by rfl, ?hy615⟩) hHeld ?hn615
      case hy615 => (intro wz hSw; go_simp; first | done | with_reducible rfl)
      try simp only [nrm, Act.put]
      refine wpAnyH_ready (rs := [11]) (by kernel_rfl) (by simp) ?_
      refine AllReadyH.cons rfl (fun K hK => ?_) AllReadyH.nil
      go_simp
      refine hK.out _ _ ((by repeat' (first | exact Below.refl _ _ | assumption | (refine Below.drew ?_) | (refine Below.then ?_ (by assumption) ?_) | (refine Below.alloc ?_ ?_ _) | (refine Below.setCell ?_ ?_ _) | (simp; done) | omega))) (fun hHeld => ?_)
      clear hK K
      refine' wpAnyH_take (i := 12) (v := _) rfl (by kernel_rfl) (by kernel_rfl) (by kernel_rfl) (fun _ _ _ h => h) (Or.inl ⟨by rfl, ?hy616⟩) hHeld ?hn616
      case hy616 => (intro wz hSw; go_simp; first | done | with_reducible rfl)
      try simp only [nrm, Act.put]
      refine wpAnyH_ready (rs := [13]) (by kernel_rfl) (by simp) ?_
      refine AllReadyH.cons rfl (fun K hK => ?_) AllReadyH.nil
      go_simp
      refine hK.out _ _ ((by repeat' (first | exact Below.refl _ _ | assumption | (refine Below.drew ?_) | (refine Below.then ?_ (by assumption) ?_) | (refine Below.alloc ?_ ?_ _) | (refine Below.setCell ?_ ?_ _) | (simp; done) | omega))) (fun hHeld => ?_)
      clear hK K
      refine wpAnyH_done (by kernel_rfl) ?_ _
      clear hHeld
      go_wp2
      refine bodyPost_ret (v := .agg #[.int .i64 3, .int .i64 ya, .int .i64 yb]) (by simp [results, Try.results107, go_sem]) rfl ⟨rfl, ?_⟩
      repeat' (first | exact Below.refl _ _ | assumption | (refine Below.drew ?_) | (refine Below.then ?_ (by assumption) ?_) | (refine Below.alloc ?_ ?_ _) | (refine Below.setCell ?_ ?_ _) | (simp; done) | (simp at *; omega) | omega)
  · go_enter Try.func107, Try.ntmps107
    go_upto_region 6 with fail
    have hHeld : Below w.heap.size w ((w.alloc (.cells #[.int .i64 4, .int .i64 ma, .int .i64 mb] 90)).alloc (.cells #[.int .i64 0, .int .i64 0, .int .i64 0] 90)).drew := (((Below.refl _ _).alloc (Nat.le_refl _) _).alloc (by simp) _).drew
    refine wp_region_held (S := (fun wz => Below w.heap.size w wz)) (by kernel_rfl) ?_
    change wpAnyH _ _ _ _ _ _ _ _ (World.drew _)
    refine' wpAnyH_take (i := 0) (v := _) rfl (by kernel_rfl) (by kernel_rfl) (by kernel_rfl) (fun _ _ _ h => h) (Or.inl ⟨by rfl, ?hy617⟩) hHeld ?hn617
    case hy617 => (intro wz hSw; go_simp; first | done | with_reducible rfl)
    try simp only [nrm, Act.put]
    refine' wpAnyH_take (i := 1) (v := _) rfl (by kernel_rfl) (by kernel_rfl) (by kernel_rfl) (fun _ _ _ h => h) (Or.inl ⟨by rfl, ?hy618⟩) hHeld ?hn618
    case hy618 => (intro wz hSw; go_simp; first | done | with_reducible rfl)
    try simp only [nrm, Act.put]
    refine' wpAnyH_take (i := 5) (v := _) rfl (by kernel_rfl) (by kernel_rfl) (by kernel_rfl) (fun _ _ _ h => h) (Or.inl ⟨by rfl, ?hy619⟩) hHeld ?hn619
    case hy619 => (intro wz hSw; go_simp; first | done | with_reducible rfl)
    try simp only [nrm, Act.put]
    refine' wpAnyH_take (i := 6) (v := _) rfl (by kernel_rfl) (by kernel_rfl) (by kernel_rfl) (fun _ _ _ h => h) (Or.inl ⟨by rfl, ?hy620⟩) hHeld ?hn620
    case hy620 => (intro wz hSw; go_simp; first | done | with_reducible rfl)
    try simp only [nrm, Act.put]
    refine wpAnyH_ready (rs := [2, 7]) (by kernel_rfl) (by simp) ?_
    refine AllReadyH.cons rfl (fun K hK => ?_) (AllReadyH.cons rfl (fun K hK => ?_) AllReadyH.nil)
    · go_simp
      refine hK.out _ _ ((by repeat' (first | exact Below.refl _ _ | assumption | (refine Below.drew ?_) | (refine Below.then ?_ (by assumption) ?_) | (refine Below.alloc ?_ ?_ _) | (refine Below.setCell ?_ ?_ _) | (simp; done) | omega))) (fun hHeld => ?_)
      clear hK K
      refine' wpAnyH_take (i := 3) (v := _) rfl (by kernel_rfl) (by kernel_rfl) (by kernel_rfl) (fun _ _ _ h => h) (Or.inl ⟨by rfl, ?hy621⟩) hHeld ?hn621
      case hy621 => (intro wz hSw; go_simp; first | done | with_reducible rfl)
      try simp only [nrm, Act.put]
      refine' wpAnyH_take (i := 4) (v := .int .i64 ya) rfl (by kernel_rfl) (by kernel_rfl) (by kernel_rfl) (fun _ _ _ h => h) (Or.inl ⟨by rfl, ?hy622⟩) hHeld ?hn622
      case hy622 => (intro wz hSw; have j0 := HA.out _ hSw; go_simp)
      try simp only [nrm, Act.put]
      refine wpAnyH_ready (rs := [7]) (by kernel_rfl) (by simp) ?_
      refine AllReadyH.cons rfl (fun K hK => ?_) AllReadyH.nil
      go_simp
      refine hK.out _ _ ((by repeat' (first | exact Below.refl _ _ | assumption | (refine Below.drew ?_) | (refine Below.then ?_ (by assumption) ?_) | (refine Below.alloc ?_ ?_ _) | (refine Below.setCell ?_ ?_ _) | (simp; done) | omega))) (fun hHeld => ?_)
      clear hK K
      refine' wpAnyH_take (i := 8) (v := _) rfl (by kernel_rfl) (by kernel_rfl) (by kernel_rfl) (fun _ _ _ h => h) (Or.inl ⟨by rfl, ?hy623⟩) hHeld ?hn623
      case hy623 => (intro wz hSw; go_simp; first | done | with_reducible rfl)
      try simp only [nrm, Act.put]
      refine' wpAnyH_take (i := 9) (v := .int .i64 yb) rfl (by kernel_rfl) (by kernel_rfl) (by kernel_rfl) (fun _ _ _ h => h) (Or.inl ⟨by rfl, ?hy624⟩) hHeld ?hn624
      case hy624 => (intro wz hSw; have j0 := HB.out _ hSw; go_simp)
      try simp only [nrm, Act.put]
      refine' wpAnyH_take (i := 10) (v := _) rfl (by kernel_rfl) (by kernel_rfl) (by kernel_rfl) (fun _ _ _ h => h) (Or.inl ⟨by rfl, ?hy625⟩) hHeld ?hn625
      case hy625 => (intro wz hSw; go_simp; first | done | with_reducible rfl)
      try simp only [nrm, Act.put]
      refine wpAnyH_ready (rs := [11]) (by kernel_rfl) (by simp) ?_
      refine AllReadyH.cons rfl (fun K hK => ?_) AllReadyH.nil
      go_simp
      refine hK.out _ _ ((by repeat' (first | exact Below.refl _ _ | assumption | (refine Below.drew ?_) | (refine Below.then ?_ (by assumption) ?_) | (refine Below.alloc ?_ ?_ _) | (refine Below.setCell ?_ ?_ _) | (simp; done) | omega))) (fun hHeld => ?_)
      clear hK K
      refine' wpAnyH_take (i := 12) (v := _) rfl (by kernel_rfl) (by kernel_rfl) (by kernel_rfl) (fun _ _ _ h => h) (Or.inl ⟨by rfl, ?hy626⟩) hHeld ?hn626
      case hy626 => (intro wz hSw; go_simp; first | done | with_reducible rfl)
      try simp only [nrm, Act.put]
      refine wpAnyH_ready (rs := [13]) (by kernel_rfl) (by simp) ?_
      refine AllReadyH.cons rfl (fun K hK => ?_) AllReadyH.nil
      go_simp
      refine hK.out _ _ ((by repeat' (first | exact Below.refl _ _ | assumption | (refine Below.drew ?_) | (refine Below.then ?_ (by assumption) ?_) | (refine Below.alloc ?_ ?_ _) | (refine Below.setCell ?_ ?_ _) | (simp; done) | omega))) (fun hHeld => ?_)
      clear hK K
      refine wpAnyH_done (by kernel_rfl) ?_ _
      clear hHeld
      go_wp2
      refine bodyPost_ret (v := .agg #[.int .i64 4, .int .i64 ya, .int .i64 yb]) (by simp [results, Try.results107, go_sem]) rfl ⟨rfl, ?_⟩
      repeat' (first | exact Below.refl _ _ | assumption | (refine Below.drew ?_) | (refine Below.then ?_ (by assumption) ?_) | (refine Below.alloc ?_ ?_ _) | (refine Below.setCell ?_ ?_ _) | (simp; done) | (simp at *; omega) | omega)
    · go_simp
      refine hK.out _ _ ((by repeat' (first | exact Below.refl _ _ | assumption | (refine Below.drew ?_) | (refine Below.then ?_ (by assumption) ?_) | (refine Below.alloc ?_ ?_ _) | (refine Below.setCell ?_ ?_ _) | (simp; done) | omega))) (fun hHeld => ?_)
      clear hK K
      refine' wpAnyH_take (i := 8) (v := _) rfl (by kernel_rfl) (by kernel_rfl) (by kernel_rfl) (fun _ _ _ h => h) (Or.inl ⟨by rfl, ?hy627⟩) hHeld ?hn627
      case hy627 => (intro wz hSw; go_simp; first | done | with_reducible rfl)
      try simp only [nrm, Act.put]
      refine' wpAnyH_take (i := 9) (v := .int .i64 yb) rfl (by kernel_rfl) (by kernel_rfl) (by kernel_rfl) (fun _ _ _ h => h) (Or.inl ⟨by rfl, ?hy628⟩) hHeld ?hn628
      case hy628 => (intro wz hSw; have j0 := HB.out _ hSw; go_simp)
      try simp only [nrm, Act.put]
      refine wpAnyH_ready (rs := [2]) (by kernel_rfl) (by simp) ?_
      refine AllReadyH.cons rfl (fun K hK => ?_) AllReadyH.nil
      go_simp
      refine hK.out _ _ ((by repeat' (first | exact Below.refl _ _ | assumption | (refine Below.drew ?_) | (refine Below.then ?_ (by assumption) ?_) | (refine Below.alloc ?_ ?_ _) | (refine Below.setCell ?_ ?_ _) | (simp; done) | omega))) (fun hHeld => ?_)
      clear hK K
      refine' wpAnyH_take (i := 3) (v := _) rfl (by kernel_rfl) (by kernel_rfl) (by kernel_rfl) (fun _ _ _ h => h) (Or.inl ⟨by rfl, ?hy629⟩) hHeld ?hn629
      case hy629 => (intro wz hSw; go_simp; first | done | with_reducible rfl)
      try simp only [nrm, Act.put]
      refine' wpAnyH_take (i := 4) (v := .int .i64 ya) rfl (by kernel_rfl) (by kernel_rfl) (by kernel_rfl) (fun _ _ _ h => h) (Or.inl ⟨by rfl, ?hy630⟩) hHeld ?hn630
      case hy630 => (intro wz hSw; have j0 := HA.out _ hSw; go_simp)
      try simp only [nrm, Act.put]
      refine' wpAnyH_take (i := 10) (v := _) rfl (by kernel_rfl) (by kernel_rfl) (by kernel_rfl) (fun _ _ _ h => h) (Or.inl ⟨by rfl, ?hy631⟩) hHeld ?hn631
      case hy631 => (intro wz hSw; go_simp; first | done | with_reducible rfl)
      try simp only [nrm, Act.put]
      refine wpAnyH_ready (rs := [11]) (by kernel_rfl) (by simp) ?_
      refine AllReadyH.cons rfl (fun K hK => ?_) AllReadyH.nil
      go_simp
      refine hK.out _ _ ((by repeat' (first | exact Below.refl _ _ | assumption | (refine Below.drew ?_) | (refine Below.then ?_ (by assumption) ?_) | (refine Below.alloc ?_ ?_ _) | (refine Below.setCell ?_ ?_ _) | (simp; done) | omega))) (fun hHeld => ?_)
      clear hK K
      refine' wpAnyH_take (i := 12) (v := _) rfl (by kernel_rfl) (by kernel_rfl) (by kernel_rfl) (fun _ _ _ h => h) (Or.inl ⟨by rfl, ?hy632⟩) hHeld ?hn632
      case hy632 => (intro wz hSw; go_simp; first | done | with_reducible rfl)
      try simp only [nrm, Act.put]
      refine wpAnyH_ready (rs := [13]) (by kernel_rfl) (by simp) ?_
      refine AllReadyH.cons rfl (fun K hK => ?_) AllReadyH.nil
      go_simp
      refine hK.out _ _ ((by repeat' (first | exact Below.refl _ _ | assumption | (refine Below.drew ?_) | (refine Below.then ?_ (by assumption) ?_) | (refine Below.alloc ?_ ?_ _) | (refine Below.setCell ?_ ?_ _) | (simp; done) | omega))) (fun hHeld => ?_)
      clear hK K
      refine wpAnyH_done (by kernel_rfl) ?_ _
      clear hHeld
      go_wp2
      refine bodyPost_ret (v := .agg #[.int .i64 4, .int .i64 ya, .int .i64 yb]) (by simp [results, Try.results107, go_sem]) rfl ⟨rfl, ?_⟩
      repeat' (first | exact Below.refl _ _ | assumption | (refine Below.drew ?_) | (refine Below.then ?_ (by assumption) ?_) | (refine Below.alloc ?_ ?_ _) | (refine Below.setCell ?_ ?_ _) | (simp; done) | (simp at *; omega) | omega)

theorem valTurned_any (zs : List Int) {n : Nat} (vk va vb : Int) (rb ro rc : Nat) (w : World) (hl : zs.length = n) (hk : (vk = 0 ∨ vk = 1) ∨ (vk = 2 ∧ 0 ≤ va ∧ va < n) ∨ ((vk = 3 ∨ vk = 4) ∧ (0 ≤ va ∧ va < n) ∧ (0 ≤ vb ∧ vb < n))) (hrb : rb < w.heap.size) (RC : ∀ m (hm : m < zs.length) wx, Below w.heap.size w wx → wx.cell? ⟨rb, ro + m, none⟩ = some (.int .i64 zs[m])) :
    Calls Try.prog 107 #[.agg #[.int .i64 vk, .int .i64 va, .int .i64 vb], .slice (some ⟨rb, ro, none⟩) zs.length rc] w fun e w' => e = .returned (.agg #[.int .i64 vk, .int .i64 (if vk = 2 ∨ vk = 3 ∨ vk = 4 then zs.getD va.toNat 0 else va), .int .i64 (if vk = 3 ∨ vk = 4 then zs.getD vb.toNat 0 else vb)]) ∧ Below w.heap.size w w' := by
  rcases hk with (rfl | rfl) | ⟨rfl, h0, h1⟩ | ⟨h34, ha, hb⟩
  · clear RC
    rw [if_neg (by omega), if_neg (by omega)]
    go_enter Try.func107, Try.ntmps107
    go_wp2
    refine bodyPost_ret (v := .agg #[.int .i64 0, .int .i64 va, .int .i64 vb]) (by simp [results, Try.results107, go_sem]) rfl ⟨rfl, ?_⟩
    repeat' (first | exact Below.refl _ _ | assumption | (refine Below.drew ?_) | (refine Below.then ?_ (by assumption) ?_) | (refine Below.alloc ?_ ?_ _) | (refine Below.setCell ?_ ?_ _) | (simp; done) | (simp at *; omega) | omega)
  · clear RC
    rw [if_neg (by omega), if_neg (by omega)]
    go_enter Try.func107, Try.ntmps107
    go_wp2
    refine bodyPost_ret (v := .agg #[.int .i64 1, .int .i64 va, .int .i64 vb]) (by simp [results, Try.results107, go_sem]) rfl ⟨rfl, ?_⟩
    repeat' (first | exact Below.refl _ _ | assumption | (refine Below.drew ?_) | (refine Below.then ?_ (by assumption) ?_) | (refine Below.alloc ?_ ?_ _) | (refine Below.setCell ?_ ?_ _) | (simp; done) | (simp at *; omega) | omega)
  · rw [if_pos (.inl rfl), if_neg (by omega)]
    obtain ⟨ma, rfl⟩ := Int.eq_ofNat_of_zero_le h0
    have hma : ma < zs.length := by omega
    have c0 := RC ma hma w (Below.refl _ _)
    have ga : zs.getD ((ma : Int)).toNat 0 = zs[ma] := by simp [List.getD_eq_getElem?_getD, List.getElem?_eq_getElem hma]
    rw [ga]
    have a0 : (0 : Int) ≤ (ma : Int) := by omega
    have a1 : (ma : Int) < (zs.length : Int) := by omega
    clear RC ga hl
    generalize zs[ma] = ya at *
    go_enter Try.func107, Try.ntmps107
    go_wp2
    refine bodyPost_ret (v := .agg #[.int .i64 2, .int .i64 ya, .int .i64 vb]) (by simp [results, Try.results107, go_sem]) rfl ⟨rfl, ?_⟩
    repeat' (first | exact Below.refl _ _ | assumption | (refine Below.drew ?_) | (refine Below.then ?_ (by assumption) ?_) | (refine Below.alloc ?_ ?_ _) | (refine Below.setCell ?_ ?_ _) | (simp; done) | (simp at *; omega) | omega)
  · rw [if_pos (.inr h34), if_pos h34]
    exact valTurned_three zs vk va vb rb ro rc w hl ha hb h34 hrb RC

end Go.Proofs.Ytfmhdjnambnglaa

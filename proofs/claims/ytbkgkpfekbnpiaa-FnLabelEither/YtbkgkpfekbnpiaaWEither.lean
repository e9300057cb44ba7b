/- What becomes both may be known by whom one may: walked. -/
import Derived.Test.YtbkgkpfekbnpiaaWLaws
namespace Go.Proofs.Ytbkgkpfekbnpiaa
open Go.RowKit
set_option linter.unusedSimpArgs false
set_option linter.unusedVariables false
attribute [local go_sem] World.cell?_alloc_some
attribute [local go_sem ↓] Go.wp_at_zero Go.wp_at_succ

def eiFacts (ak at' bk bt ck ct xk xt : Int) : Prop := flB xk xt ak at' = true ∧ flB xk xt bk bt = true ∧ (flB ck ct ak at' = true → flB ck ct bk bt = true → flB ck ct xk xt = true)
theorem cov_or1 {a b : Int} (a0 : 0 ≤ a) (a7 : a ≤ 7) (b0 : 0 ≤ b) (b7 : b ≤ 7) : covB (orI a b) a = true :=
  all88 (P := fun a b => covB (orI a b) a = true) (by decide +kernel) a0 a7 b0 b7
theorem cov_or2 {a b : Int} (a0 : 0 ≤ a) (a7 : a ≤ 7) (b0 : 0 ≤ b) (b7 : b ≤ 7) : covB (orI a b) b = true :=
  all88 (P := fun a b => covB (orI a b) b = true) (by decide +kernel) a0 a7 b0 b7
theorem cov_or3 {a b c : Int} (a0 : 0 ≤ a) (a7 : a ≤ 7) (b0 : 0 ≤ b) (b7 : b ≤ 7) (c0 : 0 ≤ c) (c7 : c ≤ 7) : covB c a = true → covB c b = true → covB c (orI a b) = true := by
  have h : ∀ n m : Fin 8, ∀ k : Fin 8, covB k.val n.val = true → covB k.val m.val = true → covB k.val (orI n.val m.val) = true := by decide +kernel
  exact all88 (P := fun a b => covB c a = true → covB c b = true → covB c (orI a b) = true) (fun n m => all8 (P := fun c => covB c n.val = true → covB c m.val = true → covB c (orI n.val m.val) = true) (h n m) c c0 c7) a0 a7 b0 b7
theorem ei_facts {ak at' bk bt ck ct : Int} (ha : okB ak at' = true) (hb : okB bk bt = true) : eiFacts ak at' bk bt ck ct (eiK ak at' bk bt) (eiT ak at' bk bt) := by
  have ia := okB_iff.1 ha
  have ib := okB_iff.1 hb
  have e1 : eiK ak at' bk bt = orI ak bk := by simp [eiK, ha, hb]
  have e2 : eiT ak at' bk bt = orI at' bt := by simp [eiT, ha, hb]
  have ox := ok_ei ha hb
  refine ⟨?_, ?_, ?_⟩
  · rw [flB_parts]; refine ⟨ox, ha, ?_, ?_⟩
    · rw [e1]; exact cov_or1 ia.1.1 ia.1.2 ib.1.1 ib.1.2
    · rw [e2]; exact cov_or1 ia.2.1 ia.2.2 ib.2.1 ib.2.2
  · rw [flB_parts]; refine ⟨ox, hb, ?_, ?_⟩
    · rw [e1]; exact cov_or2 ia.1.1 ia.1.2 ib.1.1 ib.1.2
    · rw [e2]; exact cov_or2 ia.2.1 ia.2.2 ib.2.1 ib.2.2
  · intro h1 h2
    rw [flB_parts] at h1 h2 ⊢
    have ic := okB_iff.1 h1.1
    refine ⟨h1.1, ox, ?_, ?_⟩
    · rw [e1]; exact cov_or3 ia.1.1 ia.1.2 ib.1.1 ib.1.2 ic.1.1 ic.1.2 h1.2.2.1 h2.2.2.1
    · rw [e2]; exact cov_or3 ia.2.1 ia.2.2 ib.2.1 ib.2.2 ic.2.1 ic.2.2 h1.2.2.2 h2.2.2.2

set_option maxHeartbeats 4000000 in
theorem fnLabelEither_walk (a0 : Option Addr) (len0 cap0 : Nat) (z0 : List Int) (a1 : Option Addr) (len1 cap1 : Nat) (z1 : List Int) (w : World) (h : IsRow .u8 w a0 len0 cap0 z0) (h' : IsRow .u8 w a1 len1 cap1 z1) :
    Calls Try.prog 6 #[.slice a0 len0 cap0, .slice a1 len1 cap1] w fun e w' => e = .returned (.bool true) ∧ Below w.heap.size w w' := by
  by_cases hl : (1048576 : Int) < (len0 : Int)
  · go_enter Try.func6, Try.ntmps6
    go_wp2
    go_ret
    exact ⟨rfl, Below.refl _ _⟩
  have hd : decide ((1048576 : Int) < (len0 : Int)) = false := by simpa using hl
  by_cases hl1 : (1048576 : Int) < (len1 : Int)
  · go_enter Try.func6, Try.ntmps6
    go_wp2
    go_ret
    exact ⟨rfl, Below.refl _ _⟩
  go_enter Try.func6, Try.ntmps6
  go_wp2_with fail
  refine (drawEither_any _ a0 len0 cap0 z0 h).mono ?_
  rintro e w1 ⟨ak, at', bk, bt, rfl, _, hb⟩
  have HB : Hid (Below w.heap.size w w1) := hb
  have HI : Hid (IsRow .u8 w1 a1 len1 cap1 z1) := h'.below hb
  have s1 : w.heap.size ≤ w1.heap.size := hb.size
  clear hb
  go_wp2_with fail
  have B1 : Below w1.heap.size w1 ((w1.alloc (.cells #[.int .i64 ak, .int .i64 at'] 24)).alloc (.cells #[.int .i64 bk, .int .i64 bt] 24)) := ((Below.refl _ _).alloc (Nat.le_refl _) _).alloc (by simp) _
  refine (drawText_any _ a1 len1 cap1 z1 (HI.out.below B1)).mono ?_
  rintro e w2 ⟨ck, ct, rfl, _, hb⟩
  have PX := ((Pair.new w1 ak at' 24).alloc (.cells #[.int .i64 bk, .int .i64 bt] 24)).below hb
  have PY := (Pair.new (w1.alloc (.cells #[.int .i64 ak, .int .i64 at'] 24)) bk bt 24).below hb
  simp at PY
  have s2 : w1.heap.size + 2 ≤ w2.heap.size := by have := hb.size; simp at this; omega
  replace HB : Hid (Below w.heap.size w w2) := below_then2 hb (below_then2 B1 HB.out)
  clear B1 hb HI
  obtain ⟨x0, x1, _, _⟩ := PX.alloc (.cells #[.int .i64 ck, .int .i64 ct] 24)
  obtain ⟨y0, y1, _, _⟩ := PY.alloc (.cells #[.int .i64 ck, .int .i64 ct] 24)
  go_wp2_with fail
  refine (labelEither_any _ _ _ _ _).mono ?_
  rintro e w3 ⟨rfl, hb⟩
  have PM := (Pair.new w2 ck ct 24).below hb
  replace PX := (PX.alloc _).below hb
  replace PY := (PY.alloc _).below hb
  have s3 : w2.heap.size + 1 ≤ w3.heap.size := by have := hb.size; simp at this; omega
  replace HB : Hid (Below w.heap.size w w3) := below_then2 hb (HB.out.alloc (by omega) _)
  clear hb x0 x1 y0 y1
  go_wp2_with fail
  have PO := Pair.new w3 (eiK ak at' bk bt) (eiT ak at' bk bt) 24
  replace PX := PX.alloc (.cells #[.int .i64 (eiK ak at' bk bt), .int .i64 (eiT ak at' bk bt)] 24)
  replace PY := PY.alloc (.cells #[.int .i64 (eiK ak at' bk bt), .int .i64 (eiT ak at' bk bt)] 24)
  replace PM := PM.alloc (.cells #[.int .i64 (eiK ak at' bk bt), .int .i64 (eiT ak at' bk bt)] 24)
  have hSt := And.intro PX.1 (And.intro PX.2.1 (And.intro PY.1 (And.intro PY.2.1 (And.intro PM.1 (And.intro PM.2.1 (And.intro PO.1 (And.intro PO.2.1 (HB.out.alloc (show w.heap.size ≤ w3.heap.size by omega) (.cells #[.int .i64 (eiK ak at' bk bt), .int .i64 (eiT ak at' bk bt)] 24)))))))))
  clear PX PY PM PO HB
  generalize hW : w3.alloc (.cells #[.int .i64 (eiK ak at' bk bt), .int .i64 (eiT ak at' bk bt)] 24) = W at *
  clear hW
  have HQ : Hid (okB ak at' = true → okB bk bt = true → eiFacts ak at' bk bt ck ct (eiK ak at' bk bt) (eiT ak at' bk bt)) := ei_facts
  have E1 : eiK ak at' bk bt = eiK ak at' bk bt := rfl
  generalize hxk : eiK ak at' bk bt = xk at *
  generalize hxt : eiT ak at' bk bt = xt at *
  clear E1
  generalize w1.heap.size = N at *
  generalize w2.heap.size = M at *
  generalize w3.heap.size = O at *
  cases ha : okB ak at'
  · refine wp_region_held (S := (fun wz => wz.cell? ⟨N, 0, none⟩ = some (.int .i64 ak) ∧ wz.cell? ⟨N, 1, none⟩ = some (.int .i64 at') ∧ wz.cell? ⟨N + 1, 0, none⟩ = some (.int .i64 bk) ∧ wz.cell? ⟨N + 1, 1, none⟩ = some (.int .i64 bt) ∧ wz.cell? ⟨M, 0, none⟩ = some (.int .i64 ck) ∧ wz.cell? ⟨M, 1, none⟩ = some (.int .i64 ct) ∧ wz.cell? ⟨O, 0, none⟩ = some (.int .i64 xk) ∧ wz.cell? ⟨O, 1, none⟩ = some (.int .i64 xt) ∧ Below w.heap.size w wz)) (by kernel_rfl) ?_
    change wpAnyH _ _ _ _ _ _ _ _ (World.drew _)
    have hHeld := S8_drew hSt
    refine' wpAnyH_take (i := 0) (v := _) rfl (by kernel_rfl) (by kernel_rfl) (by kernel_rfl) (fun _ _ _ h => h) (Or.inl ⟨by rfl, ?hy48⟩) hHeld ?hn48
    case hy48 => (intro wz hSw; (try dsimp only at hSw); go_simp; first | done | with_reducible rfl)
    try simp only [List.getElem_toArray, List.getElem_cons_zero, List.getElem_cons_succ, Act.put, List.setIfInBounds_toArray, List.set_cons_zero, List.set_cons_succ]
    refine' wpAnyH_take (i := 1) (v := _) rfl (by kernel_rfl) (by kernel_rfl) (by kernel_rfl) (fun _ _ _ h => h) (Or.inl ⟨by rfl, ?hy49⟩) hHeld ?hn49
    case hy49 => (intro wz hSw; (try dsimp only at hSw); go_simp; first | done | with_reducible rfl)
    try simp only [List.getElem_toArray, List.getElem_cons_zero, List.getElem_cons_succ, Act.put, List.setIfInBounds_toArray, List.set_cons_zero, List.set_cons_succ]
    refine' wpAnyH_take (i := 2) (v := _) rfl (by kernel_rfl) (by kernel_rfl) (by kernel_rfl) (fun _ _ _ h => h) (Or.inl ⟨by rfl, ?hy50⟩) hHeld ?hn50
    case hy50 => (intro wz hSw; (try dsimp only at hSw); go_simp; first | done | with_reducible rfl)
    try simp only [List.getElem_toArray, List.getElem_cons_zero, List.getElem_cons_succ, Act.put, List.setIfInBounds_toArray, List.set_cons_zero, List.set_cons_succ]
    refine wpAnyH_ready (rs := [3]) (by kernel_rfl) (by simp) ?_
    refine AllReadyH.cons rfl (fun K hK => ?_) AllReadyH.nil
    go_simp
    refine (sLabelEither_any _ _ _ _ _).mono ?_; rintro e w9 ⟨rfl, hbx⟩
    refine hK.out _ _ (S8_later hbx hHeld) (fun hHeld => ?_)
    clear hK K
    refine' wpAnyH_take (i := 4) (v := _) rfl (by kernel_rfl) (by kernel_rfl) (by kernel_rfl) (fun _ _ _ h => h) (Or.inl ⟨by rfl, ?hy51⟩) hHeld ?hn51
    case hy51 => (intro wz hSw; (try dsimp only at hSw); go_simp; first | done | with_reducible rfl)
    try simp only [List.getElem_toArray, List.getElem_cons_zero, List.getElem_cons_succ, Act.put, List.setIfInBounds_toArray, List.set_cons_zero, List.set_cons_succ]
    refine' wpAnyH_take (i := 5) (v := _) rfl (by kernel_rfl) (by kernel_rfl) (by kernel_rfl) (fun _ _ _ h => h) (Or.inl ⟨by rfl, ?hy52⟩) hHeld ?hn52
    case hy52 => (intro wz hSw; (try dsimp only at hSw); go_simp; first | done | with_reducible rfl)
    try simp only [List.getElem_toArray, List.getElem_cons_zero, List.getElem_cons_succ, Act.put, List.setIfInBounds_toArray, List.set_cons_zero, List.set_cons_succ]
    refine' wpAnyH_take (i := 6) (v := _) rfl (by kernel_rfl) (by kernel_rfl) (by kernel_rfl) (fun _ _ _ h => h) (Or.inl ⟨by rfl, ?hy53⟩) hHeld ?hn53
    case hy53 => (intro wz hSw; (try dsimp only at hSw); go_simp; first | done | with_reducible rfl)
    try simp only [List.getElem_toArray, List.getElem_cons_zero, List.getElem_cons_succ, Act.put, List.setIfInBounds_toArray, List.set_cons_zero, List.set_cons_succ]
    refine wpAnyH_ready (rs := [7]) (by kernel_rfl) (by simp) ?_
    refine AllReadyH.cons rfl (fun K hK => ?_) AllReadyH.nil
    go_simp
    refine (sLabelOk_any _ _ _).mono ?_; rintro e w9 ⟨rfl, hbx⟩
    refine hK.out _ _ (S8_later hbx hHeld) (fun hHeld => ?_)
    clear hK K
    refine' wpAnyH_take (i := 8) (v := _) rfl (by kernel_rfl) (by kernel_rfl) (by kernel_rfl) (fun _ _ _ h => h) (Or.inl ⟨by rfl, ?hy54⟩) hHeld ?hn54
    case hy54 => (intro wz hSw; (try dsimp only at hSw); go_simp; first | done | with_reducible rfl)
    try simp only [List.getElem_toArray, List.getElem_cons_zero, List.getElem_cons_succ, Act.put, List.setIfInBounds_toArray, List.set_cons_zero, List.set_cons_succ]
    refine' wpAnyH_take (i := 9) (v := _) rfl (by kernel_rfl) (by kernel_rfl) (by kernel_rfl) (fun _ _ _ h => h) (Or.inl ⟨by rfl, ?hy55⟩) hHeld ?hn55
    case hy55 => (intro wz hSw; (try dsimp only at hSw); go_simp; first | done | with_reducible rfl)
    try simp only [List.getElem_toArray, List.getElem_cons_zero, List.getElem_cons_succ, Act.put, List.setIfInBounds_toArray, List.set_cons_zero, List.set_cons_succ]
    refine' wpAnyH_take (i := 10) (v := _) rfl (by kernel_rfl) (by kernel_rfl) (by kernel_rfl) (fun _ _ _ h => h) (Or.inl ⟨by rfl, ?hy56⟩) hHeld ?hn56
    case hy56 => (intro wz hSw; (try dsimp only at hSw); go_simp; first | done | with_reducible rfl)
    try simp only [List.getElem_toArray, List.getElem_cons_zero, List.getElem_cons_succ, Act.put, List.setIfInBounds_toArray, List.set_cons_zero, List.set_cons_succ]
    refine' wpAnyH_take (i := 11) (v := undef) rfl (by kernel_rfl) (by kernel_rfl) (by kernel_rfl) (fun _ _ _ h => h) (Or.inr ⟨by rfl, rfl⟩) hHeld ?hn57
    try simp only [List.getElem_toArray, List.getElem_cons_zero, List.getElem_cons_succ, Act.put, List.setIfInBounds_toArray, List.set_cons_zero, List.set_cons_succ]
    refine' wpAnyH_take (i := 12) (v := undef) rfl (by kernel_rfl) (by kernel_rfl) (by kernel_rfl) (fun _ _ _ h => h) (Or.inr ⟨by rfl, rfl⟩) hHeld ?hn58
    try simp only [List.getElem_toArray, List.getElem_cons_zero, List.getElem_cons_succ, Act.put, List.setIfInBounds_toArray, List.set_cons_zero, List.set_cons_succ]
    refine' wpAnyH_take (i := 13) (v := undef) rfl (by kernel_rfl) (by kernel_rfl) (by kernel_rfl) (fun _ _ _ h => h) (Or.inr ⟨by rfl, rfl⟩) hHeld ?hn59
    try simp only [List.getElem_toArray, List.getElem_cons_zero, List.getElem_cons_succ, Act.put, List.setIfInBounds_toArray, List.set_cons_zero, List.set_cons_succ]
    refine' wpAnyH_take (i := 14) (v := _) rfl (by kernel_rfl) (by kernel_rfl) (by kernel_rfl) (fun _ _ _ h => h) (Or.inl ⟨by rfl, ?hy60⟩) hHeld ?hn60
    case hy60 => (intro wz hSw; (try dsimp only at hSw); go_simp; first | done | with_reducible rfl)
    try simp only [List.getElem_toArray, List.getElem_cons_zero, List.getElem_cons_succ, Act.put, List.setIfInBounds_toArray, List.set_cons_zero, List.set_cons_succ]
    refine wpAnyH_done (by kernel_rfl) ?_ _
    go_wp2_with fail
    refine wp_region_held (S := (fun wz => wz.cell? ⟨N, 0, none⟩ = some (.int .i64 ak) ∧ wz.cell? ⟨N, 1, none⟩ = some (.int .i64 at') ∧ wz.cell? ⟨N + 1, 0, none⟩ = some (.int .i64 bk) ∧ wz.cell? ⟨N + 1, 1, none⟩ = some (.int .i64 bt) ∧ wz.cell? ⟨M, 0, none⟩ = some (.int .i64 ck) ∧ wz.cell? ⟨M, 1, none⟩ = some (.int .i64 ct) ∧ wz.cell? ⟨O, 0, none⟩ = some (.int .i64 xk) ∧ wz.cell? ⟨O, 1, none⟩ = some (.int .i64 xt) ∧ Below w.heap.size w wz)) (by kernel_rfl) ?_
    change wpAnyH _ _ _ _ _ _ _ _ (World.drew _)
    have hHeld := S8_drew hHeld
    refine' wpAnyH_take (i := 0) (v := _) rfl (by kernel_rfl) (by kernel_rfl) (by kernel_rfl) (fun _ _ _ h => h) (Or.inl ⟨by rfl, ?hy61⟩) hHeld ?hn61
    case hy61 => (intro wz hSw; (try dsimp only at hSw); go_simp; first | done | with_reducible rfl)
    try simp only [List.getElem_toArray, List.getElem_cons_zero, List.getElem_cons_succ, Act.put, List.setIfInBounds_toArray, List.set_cons_zero, List.set_cons_succ]
    refine' wpAnyH_take (i := 1) (v := _) rfl (by kernel_rfl) (by kernel_rfl) (by kernel_rfl) (fun _ _ _ h => h) (Or.inl ⟨by rfl, ?hy62⟩) hHeld ?hn62
    case hy62 => (intro wz hSw; (try dsimp only at hSw); go_simp; first | done | with_reducible rfl)
    try simp only [List.getElem_toArray, List.getElem_cons_zero, List.getElem_cons_succ, Act.put, List.setIfInBounds_toArray, List.set_cons_zero, List.set_cons_succ]
    refine' wpAnyH_take (i := 2) (v := _) rfl (by kernel_rfl) (by kernel_rfl) (by kernel_rfl) (fun _ _ _ h => h) (Or.inl ⟨by rfl, ?hy63⟩) hHeld ?hn63
    case hy63 => (intro wz hSw; (try dsimp only at hSw); go_simp; first | done | with_reducible rfl)
    try simp only [List.getElem_toArray, List.getElem_cons_zero, List.getElem_cons_succ, Act.put, List.setIfInBounds_toArray, List.set_cons_zero, List.set_cons_succ]
    refine wpAnyH_ready (rs := [3]) (by kernel_rfl) (by simp) ?_
    refine AllReadyH.cons rfl (fun K hK => ?_) AllReadyH.nil
    go_simp
    refine (sLabelEither_any _ _ _ _ _).mono ?_; rintro e w9 ⟨rfl, hbx⟩
    refine hK.out _ _ (S8_later hbx hHeld) (fun hHeld => ?_)
    clear hK K
    refine' wpAnyH_take (i := 4) (v := _) rfl (by kernel_rfl) (by kernel_rfl) (by kernel_rfl) (fun _ _ _ h => h) (Or.inl ⟨by rfl, ?hy64⟩) hHeld ?hn64
    case hy64 => (intro wz hSw; (try dsimp only at hSw); go_simp; first | done | with_reducible rfl)
    try simp only [List.getElem_toArray, List.getElem_cons_zero, List.getElem_cons_succ, Act.put, List.setIfInBounds_toArray, List.set_cons_zero, List.set_cons_succ]
    refine' wpAnyH_take (i := 5) (v := _) rfl (by kernel_rfl) (by kernel_rfl) (by kernel_rfl) (fun _ _ _ h => h) (Or.inl ⟨by rfl, ?hy65⟩) hHeld ?hn65
    case hy65 => (intro wz hSw; (try dsimp only at hSw); go_simp; first | done | with_reducible rfl)
    try simp only [List.getElem_toArray, List.getElem_cons_zero, List.getElem_cons_succ, Act.put, List.setIfInBounds_toArray, List.set_cons_zero, List.set_cons_succ]
    refine wpAnyH_done (by kernel_rfl) ?_ _
    go_wp2
    go_ret
    exact ⟨by simp, hHeld.2.2.2.2.2.2.2.2⟩
  · cases hb : okB bk bt
    · refine wp_region_held (S := (fun wz => wz.cell? ⟨N, 0, none⟩ = some (.int .i64 ak) ∧ wz.cell? ⟨N, 1, none⟩ = some (.int .i64 at') ∧ wz.cell? ⟨N + 1, 0, none⟩ = some (.int .i64 bk) ∧ wz.cell? ⟨N + 1, 1, none⟩ = some (.int .i64 bt) ∧ wz.cell? ⟨M, 0, none⟩ = some (.int .i64 ck) ∧ wz.cell? ⟨M, 1, none⟩ = some (.int .i64 ct) ∧ wz.cell? ⟨O, 0, none⟩ = some (.int .i64 xk) ∧ wz.cell? ⟨O, 1, none⟩ = some (.int .i64 xt) ∧ Below w.heap.size w wz)) (by kernel_rfl) ?_
      change wpAnyH _ _ _ _ _ _ _ _ (World.drew _)
      have hHeld := S8_drew hSt
      refine' wpAnyH_take (i := 0) (v := _) rfl (by kernel_rfl) (by kernel_rfl) (by kernel_rfl) (fun _ _ _ h => h) (Or.inl ⟨by rfl, ?hy66⟩) hHeld ?hn66
      case hy66 => (intro wz hSw; (try dsimp only at hSw); go_simp; first | done | with_reducible rfl)
      try simp only [List.getElem_toArray, List.getElem_cons_zero, List.getElem_cons_succ, Act.put, List.setIfInBounds_toArray, List.set_cons_zero, List.set_cons_succ]
      refine' wpAnyH_take (i := 1) (v := _) rfl (by kernel_rfl) (by kernel_rfl) (by kernel_rfl) (fun _ _ _ h => h) (Or.inl ⟨by rfl, ?hy67⟩) hHeld ?hn67
      case hy67 => (intro wz hSw; (try dsimp only at hSw); go_simp; first | done | with_reducible rfl)
      try simp only [List.getElem_toArray, List.getElem_cons_zero, List.getElem_cons_succ, Act.put, List.setIfInBounds_toArray, List.set_cons_zero, List.set_cons_succ]
      refine' wpAnyH_take (i := 2) (v := _) rfl (by kernel_rfl) (by kernel_rfl) (by kernel_rfl) (fun _ _ _ h => h) (Or.inl ⟨by rfl, ?hy68⟩) hHeld ?hn68
      case hy68 => (intro wz hSw; (try dsimp only at hSw); go_simp; first | done | with_reducible rfl)
      try simp only [List.getElem_toArray, List.getElem_cons_zero, List.getElem_cons_succ, Act.put, List.setIfInBounds_toArray, List.set_cons_zero, List.set_cons_succ]
      refine wpAnyH_ready (rs := [3]) (by kernel_rfl) (by simp) ?_
      refine AllReadyH.cons rfl (fun K hK => ?_) AllReadyH.nil
      go_simp
      refine (sLabelEither_any _ _ _ _ _).mono ?_; rintro e w9 ⟨rfl, hbx⟩
      refine hK.out _ _ (S8_later hbx hHeld) (fun hHeld => ?_)
      clear hK K
      refine' wpAnyH_take (i := 4) (v := _) rfl (by kernel_rfl) (by kernel_rfl) (by kernel_rfl) (fun _ _ _ h => h) (Or.inl ⟨by rfl, ?hy69⟩) hHeld ?hn69
      case hy69 => (intro wz hSw; (try dsimp only at hSw); go_simp; first | done | with_reducible rfl)
      try simp only [List.getElem_toArray, List.getElem_cons_zero, List.getElem_cons_succ, Act.put, List.setIfInBounds_toArray, List.set_cons_zero, List.set_cons_succ]
      refine' wpAnyH_take (i := 5) (v := _) rfl (by kernel_rfl) (by kernel_rfl) (by kernel_rfl) (fun _ _ _ h => h) (Or.inl ⟨by rfl, ?hy70⟩) hHeld ?hn70
      case hy70 => (intro wz hSw; (try dsimp only at hSw); go_simp; first | done | with_reducible rfl)
      try simp only [List.getElem_toArray, List.getElem_cons_zero, List.getElem_cons_succ, Act.put, List.setIfInBounds_toArray, List.set_cons_zero, List.set_cons_succ]
      refine' wpAnyH_take (i := 6) (v := _) rfl (by kernel_rfl) (by kernel_rfl) (by kernel_rfl) (fun _ _ _ h => h) (Or.inl ⟨by rfl, ?hy71⟩) hHeld ?hn71
      case hy71 => (intro wz hSw; (try dsimp only at hSw); go_simp; first | done | with_reducible rfl)
      try simp only [List.getElem_toArray, List.getElem_cons_zero, List.getElem_cons_succ, Act.put, List.setIfInBounds_toArray, List.set_cons_zero, List.set_cons_succ]
      refine wpAnyH_ready (rs := [7]) (by kernel_rfl) (by simp) ?_
      refine AllReadyH.cons rfl (fun K hK => ?_) AllReadyH.nil
      go_simp
      refine (sLabelOk_any _ _ _).mono ?_; rintro e w9 ⟨rfl, hbx⟩
      refine hK.out _ _ (S8_later hbx hHeld) (fun hHeld => ?_)
      clear hK K
      refine' wpAnyH_take (i := 8) (v := _) rfl (by kernel_rfl) (by kernel_rfl) (by kernel_rfl) (fun _ _ _ h => h) (Or.inl ⟨by rfl, ?hy72⟩) hHeld ?hn72
      case hy72 => (intro wz hSw; (try dsimp only at hSw); go_simp; first | done | with_reducible rfl)
      try simp only [List.getElem_toArray, List.getElem_cons_zero, List.getElem_cons_succ, Act.put, List.setIfInBounds_toArray, List.set_cons_zero, List.set_cons_succ]
      refine' wpAnyH_take (i := 9) (v := _) rfl (by kernel_rfl) (by kernel_rfl) (by kernel_rfl) (fun _ _ _ h => h) (Or.inl ⟨by rfl, ?hy73⟩) hHeld ?hn73
      case hy73 => (intro wz hSw; (try dsimp only at hSw); go_simp; first | done | with_reducible rfl)
      try simp only [List.getElem_toArray, List.getElem_cons_zero, List.getElem_cons_succ, Act.put, List.setIfInBounds_toArray, List.set_cons_zero, List.set_cons_succ]
      refine' wpAnyH_take (i := 10) (v := _) rfl (by kernel_rfl) (by kernel_rfl) (by kernel_rfl) (fun _ _ _ h => h) (Or.inl ⟨by rfl, ?hy74⟩) hHeld ?hn74
      case hy74 => (intro wz hSw; (try dsimp only at hSw); go_simp; first | done | with_reducible rfl)
      try simp only [List.getElem_toArray, List.getElem_cons_zero, List.getElem_cons_succ, Act.put, List.setIfInBounds_toArray, List.set_cons_zero, List.set_cons_succ]
      refine' wpAnyH_take (i := 11) (v := _) rfl (by kernel_rfl) (by kernel_rfl) (by kernel_rfl) (fun _ _ _ h => h) (Or.inl ⟨by rfl, ?hy75⟩) hHeld ?hn75
      case hy75 => (intro wz hSw; (try dsimp only at hSw); go_simp; first | done | with_reducible rfl)
      try simp only [List.getElem_toArray, List.getElem_cons_zero, List.getElem_cons_succ, Act.put, List.setIfInBounds_toArray, List.set_cons_zero, List.set_cons_succ]
      refine wpAnyH_ready (rs := [12]) (by kernel_rfl) (by simp) ?_
      refine AllReadyH.cons rfl (fun K hK => ?_) AllReadyH.nil
      go_simp
      refine (sLabelOk_any _ _ _).mono ?_; rintro e w9 ⟨rfl, hbx⟩
      refine hK.out _ _ (S8_later hbx hHeld) (fun hHeld => ?_)
      clear hK K
      refine' wpAnyH_take (i := 13) (v := _) rfl (by kernel_rfl) (by kernel_rfl) (by kernel_rfl) (fun _ _ _ h => h) (Or.inl ⟨by rfl, ?hy76⟩) hHeld ?hn76
      case hy76 => (intro wz hSw; (try dsimp only at hSw); go_simp; first | done | with_reducible rfl)
      try simp only [List.getElem_toArray, List.getElem_cons_zero, List.getElem_cons_succ, Act.put, List.setIfInBounds_toArray, List.set_cons_zero, List.set_cons_succ]
      refine' wpAnyH_take (i := 14) (v := _) rfl (by kernel_rfl) (by kernel_rfl) (by kernel_rfl) (fun _ _ _ h => h) (Or.inl ⟨by rfl, ?hy77⟩) hHeld ?hn77
      case hy77 => (intro wz hSw; (try dsimp only at hSw); go_simp; first | done | with_reducible rfl)
      try simp only [List.getElem_toArray, List.getElem_cons_zero, List.getElem_cons_succ, Act.put, List.setIfInBounds_toArray, List.set_cons_zero, List.set_cons_succ]
      refine wpAnyH_done (by kernel_rfl) ?_ _
      go_wp2_with fail
      refine wp_region_held (S := (fun wz => wz.cell? ⟨N, 0, none⟩ = some (.int .i64 ak) ∧ wz.cell? ⟨N, 1, none⟩ = some (.int .i64 at') ∧ wz.cell? ⟨N + 1, 0, none⟩ = some (.int .i64 bk) ∧ wz.cell? ⟨N + 1, 1, none⟩ = some (.int .i64 bt) ∧ wz.cell? ⟨M, 0, none⟩ = some (.int .i64 ck) ∧ wz.cell? ⟨M, 1, none⟩ = some (.int .i64 ct) ∧ wz.cell? ⟨O, 0, none⟩ = some (.int .i64 xk) ∧ wz.cell? ⟨O, 1, none⟩ = some (.int .i64 xt) ∧ Below w.heap.size w wz)) (by kernel_rfl) ?_
      change wpAnyH _ _ _ _ _ _ _ _ (World.drew _)
      have hHeld := S8_drew hHeld
      refine' wpAnyH_take (i := 0) (v := _) rfl (by kernel_rfl) (by kernel_rfl) (by kernel_rfl) (fun _ _ _ h => h) (Or.inl ⟨by rfl, ?hy78⟩) hHeld ?hn78
      case hy78 => (intro wz hSw; (try dsimp only at hSw); go_simp; first | done | with_reducible rfl)
      try simp only [List.getElem_toArray, List.getElem_cons_zero, List.getElem_cons_succ, Act.put, List.setIfInBounds_toArray, List.set_cons_zero, List.set_cons_succ]
      refine' wpAnyH_take (i := 1) (v := _) rfl (by kernel_rfl) (by kernel_rfl) (by kernel_rfl) (fun _ _ _ h => h) (Or.inl ⟨by rfl, ?hy79⟩) hHeld ?hn79
      case hy79 => (intro wz hSw; (try dsimp only at hSw); go_simp; first | done | with_reducible rfl)
      try simp only [List.getElem_toArray, List.getElem_cons_zero, List.getElem_cons_succ, Act.put, List.setIfInBounds_toArray, List.set_cons_zero, List.set_cons_succ]
      refine' wpAnyH_take (i := 2) (v := _) rfl (by kernel_rfl) (by kernel_rfl) (by kernel_rfl) (fun _ _ _ h => h) (Or.inl ⟨by rfl, ?hy80⟩) hHeld ?hn80
      case hy80 => (intro wz hSw; (try dsimp only at hSw); go_simp; first | done | with_reducible rfl)
      try simp only [List.getElem_toArray, List.getElem_cons_zero, List.getElem_cons_succ, Act.put, List.setIfInBounds_toArray, List.set_cons_zero, List.set_cons_succ]
      refine wpAnyH_ready (rs := [3]) (by kernel_rfl) (by simp) ?_
      refine AllReadyH.cons rfl (fun K hK => ?_) AllReadyH.nil
      go_simp
      refine (sLabelEither_any _ _ _ _ _).mono ?_; rintro e w9 ⟨rfl, hbx⟩
      refine hK.out _ _ (S8_later hbx hHeld) (fun hHeld => ?_)
      clear hK K
      refine' wpAnyH_take (i := 4) (v := _) rfl (by kernel_rfl) (by kernel_rfl) (by kernel_rfl) (fun _ _ _ h => h) (Or.inl ⟨by rfl, ?hy81⟩) hHeld ?hn81
      case hy81 => (intro wz hSw; (try dsimp only at hSw); go_simp; first | done | with_reducible rfl)
      try simp only [List.getElem_toArray, List.getElem_cons_zero, List.getElem_cons_succ, Act.put, List.setIfInBounds_toArray, List.set_cons_zero, List.set_cons_succ]
      refine' wpAnyH_take (i := 5) (v := _) rfl (by kernel_rfl) (by kernel_rfl) (by kernel_rfl) (fun _ _ _ h => h) (Or.inl ⟨by rfl, ?hy82⟩) hHeld ?hn82
      case hy82 => (intro wz hSw; (try dsimp only at hSw); go_simp; first | done | with_reducible rfl)
      try simp only [List.getElem_toArray, List.getElem_cons_zero, List.getElem_cons_succ, Act.put, List.setIfInBounds_toArray, List.set_cons_zero, List.set_cons_succ]
      refine wpAnyH_done (by kernel_rfl) ?_ _
      go_wp2
      go_ret
      exact ⟨by simp, hHeld.2.2.2.2.2.2.2.2⟩
    · refine wp_region_held (S := (fun wz => wz.cell? ⟨N, 0, none⟩ = some (.int .i64 ak) ∧ wz.cell? ⟨N, 1, none⟩ = some (.int .i64 at') ∧ wz.cell? ⟨N + 1, 0, none⟩ = some (.int .i64 bk) ∧ wz.cell? ⟨N + 1, 1, none⟩ = some (.int .i64 bt) ∧ wz.cell? ⟨M, 0, none⟩ = some (.int .i64 ck) ∧ wz.cell? ⟨M, 1, none⟩ = some (.int .i64 ct) ∧ wz.cell? ⟨O, 0, none⟩ = some (.int .i64 xk) ∧ wz.cell? ⟨O, 1, none⟩ = some (.int .i64 xt) ∧ Below w.heap.size w wz)) (by kernel_rfl) ?_
      change wpAnyH _ _ _ _ _ _ _ _ (World.drew _)
      have hHeld := S8_drew hSt
      refine' wpAnyH_take (i := 0) (v := _) rfl (by kernel_rfl) (by kernel_rfl) (by kernel_rfl) (fun _ _ _ h => h) (Or.inl ⟨by rfl, ?hy83⟩) hHeld ?hn83
      case hy83 => (intro wz hSw; (try dsimp only at hSw); go_simp; first | done | with_reducible rfl)
      try simp only [List.getElem_toArray, List.getElem_cons_zero, List.getElem_cons_succ, Act.put, List.setIfInBounds_toArray, List.set_cons_zero, List.set_cons_succ]
      refine' wpAnyH_take (i := 1) (v := _) rfl (by kernel_rfl) (by kernel_rfl) (by kernel_rfl) (fun _ _ _ h => h) (Or.inl ⟨by rfl, ?hy84⟩) hHeld ?hn84
      case hy84 => (intro wz hSw; (try dsimp only at hSw); go_simp; first | done | with_reducible rfl)
      try simp only [List.getElem_toArray, List.getElem_cons_zero, List.getElem_cons_succ, Act.put, List.setIfInBounds_toArray, List.set_cons_zero, List.set_cons_succ]
      refine' wpAnyH_take (i := 2) (v := _) rfl (by kernel_rfl) (by kernel_rfl) (by kernel_rfl) (fun _ _ _ h => h) (Or.inl ⟨by rfl, ?hy85⟩) hHeld ?hn85
      case hy85 => (intro wz hSw; (try dsimp only at hSw); go_simp; first | done | with_reducible rfl)
      try simp only [List.getElem_toArray, List.getElem_cons_zero, List.getElem_cons_succ, Act.put, List.setIfInBounds_toArray, List.set_cons_zero, List.set_cons_succ]
      refine wpAnyH_ready (rs := [3]) (by kernel_rfl) (by simp) ?_
      refine AllReadyH.cons rfl (fun K hK => ?_) AllReadyH.nil
      go_simp
      refine (sLabelEither_any _ _ _ _ _).mono ?_; rintro e w9 ⟨rfl, hbx⟩
      refine hK.out _ _ (S8_later hbx hHeld) (fun hHeld => ?_)
      clear hK K
      refine' wpAnyH_take (i := 4) (v := _) rfl (by kernel_rfl) (by kernel_rfl) (by kernel_rfl) (fun _ _ _ h => h) (Or.inl ⟨by rfl, ?hy86⟩) hHeld ?hn86
      case hy86 => (intro wz hSw; (try dsimp only at hSw); go_simp; first | done | with_reducible rfl)
      try simp only [List.getElem_toArray, List.getElem_cons_zero, List.getElem_cons_succ, Act.put, List.setIfInBounds_toArray, List.set_cons_zero, List.set_cons_succ]
      refine' wpAnyH_take (i := 5) (v := _) rfl (by kernel_rfl) (by kernel_rfl) (by kernel_rfl) (fun _ _ _ h => h) (Or.inl ⟨by rfl, ?hy87⟩) hHeld ?hn87
      case hy87 => (intro wz hSw; (try dsimp only at hSw); go_simp; first | done | with_reducible rfl)
      try simp only [List.getElem_toArray, List.getElem_cons_zero, List.getElem_cons_succ, Act.put, List.setIfInBounds_toArray, List.set_cons_zero, List.set_cons_succ]
      refine' wpAnyH_take (i := 6) (v := _) rfl (by kernel_rfl) (by kernel_rfl) (by kernel_rfl) (fun _ _ _ h => h) (Or.inl ⟨by rfl, ?hy88⟩) hHeld ?hn88
      case hy88 => (intro wz hSw; (try dsimp only at hSw); go_simp; first | done | with_reducible rfl)
      try simp only [List.getElem_toArray, List.getElem_cons_zero, List.getElem_cons_succ, Act.put, List.setIfInBounds_toArray, List.set_cons_zero, List.set_cons_succ]
      refine wpAnyH_ready (rs := [7]) (by kernel_rfl) (by simp) ?_
      refine AllReadyH.cons rfl (fun K hK => ?_) AllReadyH.nil
      go_simp
      refine (sLabelOk_any _ _ _).mono ?_; rintro e w9 ⟨rfl, hbx⟩
      refine hK.out _ _ (S8_later hbx hHeld) (fun hHeld => ?_)
      clear hK K
      refine' wpAnyH_take (i := 8) (v := _) rfl (by kernel_rfl) (by kernel_rfl) (by kernel_rfl) (fun _ _ _ h => h) (Or.inl ⟨by rfl, ?hy89⟩) hHeld ?hn89
      case hy89 => (intro wz hSw; (try dsimp only at hSw); go_simp; first | done | with_reducible rfl)
      try simp only [List.getElem_toArray, List.getElem_cons_zero, List.getElem_cons_succ, Act.put, List.setIfInBounds_toArray, List.set_cons_zero, List.set_cons_succ]
      refine' wpAnyH_take (i := 9) (v := _) rfl (by kernel_rfl) (by kernel_rfl) (by kernel_rfl) (fun _ _ _ h => h) (Or.inl ⟨by rfl, ?hy90⟩) hHeld ?hn90
      case hy90 => (intro wz hSw; (try dsimp only at hSw); go_simp; first | done | with_reducible rfl)
      try simp only [List.getElem_toArray, List.getElem_cons_zero, List.getElem_cons_succ, Act.put, List.setIfInBounds_toArray, List.set_cons_zero, List.set_cons_succ]
      refine' wpAnyH_take (i := 10) (v := _) rfl (by kernel_rfl) (by kernel_rfl) (by kernel_rfl) (fun _ _ _ h => h) (Or.inl ⟨by rfl, ?hy91⟩) hHeld ?hn91
      case hy91 => (intro wz hSw; (try dsimp only at hSw); go_simp; first | done | with_reducible rfl)
      try simp only [List.getElem_toArray, List.getElem_cons_zero, List.getElem_cons_succ, Act.put, List.setIfInBounds_toArray, List.set_cons_zero, List.set_cons_succ]
      refine' wpAnyH_take (i := 11) (v := _) rfl (by kernel_rfl) (by kernel_rfl) (by kernel_rfl) (fun _ _ _ h => h) (Or.inl ⟨by rfl, ?hy92⟩) hHeld ?hn92
      case hy92 => (intro wz hSw; (try dsimp only at hSw); go_simp; first | done | with_reducible rfl)
      try simp only [List.getElem_toArray, List.getElem_cons_zero, List.getElem_cons_succ, Act.put, List.setIfInBounds_toArray, List.set_cons_zero, List.set_cons_succ]
      refine wpAnyH_ready (rs := [12]) (by kernel_rfl) (by simp) ?_
      refine AllReadyH.cons rfl (fun K hK => ?_) AllReadyH.nil
      go_simp
      refine (sLabelOk_any _ _ _).mono ?_; rintro e w9 ⟨rfl, hbx⟩
      refine hK.out _ _ (S8_later hbx hHeld) (fun hHeld => ?_)
      clear hK K
      refine' wpAnyH_take (i := 13) (v := _) rfl (by kernel_rfl) (by kernel_rfl) (by kernel_rfl) (fun _ _ _ h => h) (Or.inl ⟨by rfl, ?hy93⟩) hHeld ?hn93
      case hy93 => (intro wz hSw; (try dsimp only at hSw); go_simp; first | done | with_reducible rfl)
      try simp only [List.getElem_toArray, List.getElem_cons_zero, List.getElem_cons_succ, Act.put, List.setIfInBounds_toArray, List.set_cons_zero, List.set_cons_succ]
      refine' wpAnyH_take (i := 14) (v := _) rfl (by kernel_rfl) (by kernel_rfl) (by kernel_rfl) (fun _ _ _ h => h) (Or.inl ⟨by rfl, ?hy94⟩) hHeld ?hn94
      case hy94 => (intro wz hSw; (try dsimp only at hSw); go_simp; first | done | with_reducible rfl)
      try simp only [List.getElem_toArray, List.getElem_cons_zero, List.getElem_cons_succ, Act.put, List.setIfInBounds_toArray, List.set_cons_zero, List.set_cons_succ]
      refine wpAnyH_done (by kernel_rfl) ?_ _
      obtain ⟨F1, F2, F3⟩ := HQ.out ha hb
      cases h1 : flB ck ct ak at'
      · clear F3
        go_wp2_with (go_at_call 18; refine (labelFlows_any _ _ _ _ _).mono ?_; rintro e w9 ⟨rfl, hbx⟩; replace hHeld := S8_later hbx hHeld; clear hbx)
        go_ret
        exact ⟨by simp, hHeld.2.2.2.2.2.2.2.2⟩
      · cases h2 : flB ck ct bk bt
        · clear F3
          go_wp2_with (go_at_call 18; refine (labelFlows_any _ _ _ _ _).mono ?_; rintro e w9 ⟨rfl, hbx⟩; replace hHeld := S8_later hbx hHeld; clear hbx)
          go_ret
          exact ⟨by simp, hHeld.2.2.2.2.2.2.2.2⟩
        · have h3 : flB ck ct xk xt = true := F3 h1 h2
          clear F3
          go_wp2_with (go_at_call 18; refine (labelFlows_any _ _ _ _ _).mono ?_; rintro e w9 ⟨rfl, hbx⟩; replace hHeld := S8_later hbx hHeld; clear hbx)
          go_ret
          exact ⟨by simp, hHeld.2.2.2.2.2.2.2.2⟩

end Go.Proofs.Ytbkgkpfekbnpiaa

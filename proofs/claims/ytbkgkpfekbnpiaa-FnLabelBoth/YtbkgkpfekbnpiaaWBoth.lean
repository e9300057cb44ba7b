/- What is made of both may be known by whom both may: walked. -/
import Derived.Test.YtbkgkpfekbnpiaaWLaws
namespace Go.Proofs.Ytbkgkpfekbnpiaa
open Go.RowKit
set_option linter.unusedSimpArgs false
set_option linter.unusedVariables false
attribute [local go_sem] World.cell?_alloc_some
attribute [local go_sem ↓] Go.wp_at_zero Go.wp_at_succ

def boFacts (ak at' bk bt ck ct xk xt : Int) : Prop := flB ak at' xk xt = true ∧ flB bk bt xk xt = true ∧ (flB ak at' ck ct = true → flB bk bt ck ct = true → flB xk xt ck ct = true)
theorem cov_and1 {a b : Int} (a0 : 0 ≤ a) (a7 : a ≤ 7) (b0 : 0 ≤ b) (b7 : b ≤ 7) : covB a (andI a b) = true :=
  all88 (P := fun a b => covB a (andI a b) = true) (by decide +kernel) a0 a7 b0 b7
theorem cov_and2 {a b : Int} (a0 : 0 ≤ a) (a7 : a ≤ 7) (b0 : 0 ≤ b) (b7 : b ≤ 7) : covB b (andI a b) = true :=
  all88 (P := fun a b => covB b (andI a b) = true) (by decide +kernel) a0 a7 b0 b7
theorem cov_and3 {a b c : Int} (a0 : 0 ≤ a) (a7 : a ≤ 7) (b0 : 0 ≤ b) (b7 : b ≤ 7) (c0 : 0 ≤ c) (c7 : c ≤ 7) : covB a c = true → covB b c = true → covB (andI a b) c = true := by
  have h : ∀ n m : Fin 8, ∀ k : Fin 8, covB n.val k.val = true → covB m.val k.val = true → covB (andI n.val m.val) k.val = true := by decide +kernel
  exact all88 (P := fun a b => covB a c = true → covB b c = true → covB (andI a b) c = true) (fun n m => all8 (P := fun c => covB n.val c = true → covB m.val c = true → covB (andI n.val m.val) c = true) (h n m) c c0 c7) a0 a7 b0 b7
theorem bo_facts {ak at' bk bt ck ct : Int} (ha : okB ak at' = true) (hb : okB bk bt = true) : boFacts ak at' bk bt ck ct (boK ak at' bk bt) (boT ak at' bk bt) := by
  have ia := okB_iff.1 ha
  have ib := okB_iff.1 hb
  have e1 : boK ak at' bk bt = andI ak bk := by simp [boK, ha, hb]
  have e2 : boT ak at' bk bt = andI at' bt := by simp [boT, ha, hb]
  have ox := ok_bo ha hb
  refine ⟨?_, ?_, ?_⟩
  · rw [flB_parts]; refine ⟨ha, ox, ?_, ?_⟩
    · rw [e1]; exact cov_and1 ia.1.1 ia.1.2 ib.1.1 ib.1.2
    · rw [e2]; exact cov_and1 ia.2.1 ia.2.2 ib.2.1 ib.2.2
  · rw [flB_parts]; refine ⟨hb, ox, ?_, ?_⟩
    · rw [e1]; exact cov_and2 ia.1.1 ia.1.2 ib.1.1 ib.1.2
    · rw [e2]; exact cov_and2 ia.2.1 ia.2.2 ib.2.1 ib.2.2
  · intro h1 h2
    rw [flB_parts] at h1 h2 ⊢
    have ic := okB_iff.1 h1.2.1
    refine ⟨ox, h1.2.1, ?_, ?_⟩
    · rw [e1]; exact cov_and3 ia.1.1 ia.1.2 ib.1.1 ib.1.2 ic.1.1 ic.1.2 h1.2.2.1 h2.2.2.1
    · rw [e2]; exact cov_and3 ia.2.1 ia.2.2 ib.2.1 ib.2.2 ic.2.1 ic.2.2 h1.2.2.2 h2.2.2.2

set_option maxHeartbeats 4000000 in
theorem fnLabelBoth_walk (a0 : Option Addr) (len0 cap0 : Nat) (z0 : List Int) (a1 : Option Addr) (len1 cap1 : Nat) (z1 : List Int) (w : World) (h : IsRow .u8 w a0 len0 cap0 z0) (h' : IsRow .u8 w a1 len1 cap1 z1) :
    Calls Try.prog 5 #[.slice a0 len0 cap0, .slice a1 len1 cap1] w fun e w' => e = .returned (.bool true) ∧ Below w.heap.size w w' := by
  by_cases hl : (1048576 : Int) < (len0 : Int)
  · go_enter Try.func5, Try.ntmps5
    go_wp2
    go_ret
    exact ⟨rfl, Below.refl _ _⟩
  have hd : decide ((1048576 : Int) < (len0 : Int)) = false := by simpa using hl
  by_cases hl1 : (1048576 : Int) < (len1 : Int)
  · go_enter Try.func5, Try.ntmps5
    go_wp2
    go_ret
    exact ⟨rfl, Below.refl _ _⟩
  go_enter Try.func5, Try.ntmps5
  go_wp2_with fail
  refine (drawBoth_any _ a0 len0 cap0 z0 h).mono ?_
  rintro e w1 ⟨ak, at', bk, bt, rfl, _, hb⟩
  have HB : Hid (Below w.heap.size w w1) := hb
  have HI : Hid (IsRow .u8 w1 a1 len1 cap1 z1) := h'.below hb
  have s1 : w.heap.size ≤ w1.heap.size := hb.size
  clear hb
  go_wp2_with fail
  have B1 : Below w1.heap.size w1 ((w1.alloc (.cells #[.int .i64 ak, .int .i64 at'] 24)).alloc (.cells #[.int .i64 bk, .int .i64 bt] 24)) := ((Below.refl _ _).alloc (Nat.le_refl _) _).alloc (by simp) _
  refine (drawText_any _ a1 len1 cap1 z1 (HI.out.below B1)).mono ?_
  rintro e w2 ⟨ck, ct, rfl, _, hb⟩
  have PX := ((Pair.new w1 ak at' 24).alloc (.cells #[.int .i64 bk, .int .i64 bt] 24)).below hb
  have PY := (Pair.new (w1.alloc (.cells #[.int .i64 ak, .int .i64 at'] 24)) bk bt 24).below hb
  simp at PY
  have s2 : w1.heap.size + 2 ≤ w2.heap.size := by have := hb.size; simp at this; omega
  replace HB : Hid (Below w.heap.size w w2) := below_then2 hb (below_then2 B1 HB.out)
  clear B1 hb HI
  obtain ⟨x0, x1, _, _⟩ := PX.alloc (.cells #[.int .i64 ck, .int .i64 ct] 24)
  obtain ⟨y0, y1, _, _⟩ := PY.alloc (.cells #[.int .i64 ck, .int .i64 ct] 24)
  go_wp2_with fail
  refine (labelBoth_any _ _ _ _ _).mono ?_
  rintro e w3 ⟨rfl, hb⟩
  have PM := (Pair.new w2 ck ct 24).below hb
  replace PX := (PX.alloc _).below hb
  replace PY := (PY.alloc _).below hb
  have s3 : w2.heap.size + 1 ≤ w3.heap.size := by have := hb.size; simp at this; omega
  replace HB : Hid (Below w.heap.size w w3) := below_then2 hb (HB.out.alloc (by omega) _)
  clear hb x0 x1 y0 y1
  go_wp2_with fail
  have PO := Pair.new w3 (boK ak at' bk bt) (boT ak at' bk bt) 24
  replace PX := PX.alloc (.cells #[.int .i64 (boK ak at' bk bt), .int .i64 (boT ak at' bk bt)] 24)
  replace PY := PY.alloc (.cells #[.int .i64 (boK ak at' bk bt), .int .i64 (boT ak at' bk bt)] 24)
  replace PM := PM.alloc (.cells #[.int .i64 (boK ak at' bk bt), .int .i64 (boT ak at' bk bt)] 24)
  have hSt := And.intro PX.1 (And.intro PX.2.1 (And.intro PY.1 (And.intro PY.2.1 (And.intro PM.1 (And.intro PM.2.1 (And.intro PO.1 (And.intro PO.2.1 (HB.out.alloc (show w.heap.size ≤ w3.heap.size by omega) (.cells #[.int .i64 (boK ak at' bk bt), .int .i64 (boT ak at' bk bt)] 24)))))))))
  clear PX PY PM PO HB
  generalize hW : w3.alloc (.cells #[.int .i64 (boK ak at' bk bt), .int .i64 (boT ak at' bk bt)] 24) = W at *
  clear hW
  have HQ : Hid (okB ak at' = true → okB bk bt = true → boFacts ak at' bk bt ck ct (boK ak at' bk bt) (boT ak at' bk bt)) := bo_facts
  have E1 : boK ak at' bk bt = boK ak at' bk bt := rfl
  generalize hxk : boK ak at' bk bt = xk at *
  generalize hxt : boT ak at' bk bt = xt at *
  clear E1
  generalize w1.heap.size = N at *
  generalize w2.heap.size = M at *
  generalize w3.heap.size = O at *
  cases ha : okB ak at'
  · refine wp_region_held (S := (fun wz => wz.cell? ⟨N, 0, none⟩ = some (.int .i64 ak) ∧ wz.cell? ⟨N, 1, none⟩ = some (.int .i64 at') ∧ wz.cell? ⟨N + 1, 0, none⟩ = some (.int .i64 bk) ∧ wz.cell? ⟨N + 1, 1, none⟩ = some (.int .i64 bt) ∧ wz.cell? ⟨M, 0, none⟩ = some (.int .i64 ck) ∧ wz.cell? ⟨M, 1, none⟩ = some (.int .i64 ct) ∧ wz.cell? ⟨O, 0, none⟩ = some (.int .i64 xk) ∧ wz.cell? ⟨O, 1, none⟩ = some (.int .i64 xt) ∧ Below w.heap.size w wz)) (by kernel_rfl) ?_
    change wpAnyH _ _ _ _ _ _ _ _ (World.drew _)
    have hHeld := S8_drew hSt
    refine' wpAnyH_take (i := 0) (v := _) rfl (by kernel_rfl) (by kernel_rfl) (by kernel_rfl) (fun _ _ _ h => h) (Or.inl ⟨by rfl, ?hy1⟩) hHeld ?hn1
    case hy1 => (intro wz hSw; (try dsimp only at hSw); go_simp; first | done | with_reducible rfl)
    try simp only [List.getElem_toArray, List.getElem_cons_zero, List.getElem_cons_succ, Act.put, List.setIfInBounds_toArray, List.set_cons_zero, List.set_cons_succ]
    refine' wpAnyH_take (i := 1) (v := _) rfl (by kernel_rfl) (by kernel_rfl) (by kernel_rfl) (fun _ _ _ h => h) (Or.inl ⟨by rfl, ?hy2⟩) hHeld ?hn2
    case hy2 => (intro wz hSw; (try dsimp only at hSw); go_simp; first | done | with_reducible rfl)
    try simp only [List.getElem_toArray, List.getElem_cons_zero, List.getElem_cons_succ, Act.put, List.setIfInBounds_toArray, List.set_cons_zero, List.set_cons_succ]
    refine' wpAnyH_take (i := 2) (v := _) rfl (by kernel_rfl) (by kernel_rfl) (by kernel_rfl) (fun _ _ _ h => h) (Or.inl ⟨by rfl, ?hy3⟩) hHeld ?hn3
    case hy3 => (intro wz hSw; (try dsimp only at hSw); go_simp; first | done | with_reducible rfl)
    try simp only [List.getElem_toArray, List.getElem_cons_zero, List.getElem_cons_succ, Act.put, List.setIfInBounds_toArray, List.set_cons_zero, List.set_cons_succ]
    refine wpAnyH_ready (rs := [3]) (by kernel_rfl) (by simp) ?_
    refine AllReadyH.cons rfl (fun K hK => ?_) AllReadyH.nil
    go_simp
    refine (sLabelBoth_any _ _ _ _ _).mono ?_; rintro e w9 ⟨rfl, hbx⟩
    refine hK.out _ _ (S8_later hbx hHeld) (fun hHeld => ?_)
    clear hK K
    refine' wpAnyH_take (i := 4) (v := _) rfl (by kernel_rfl) (by kernel_rfl) (by kernel_rfl) (fun _ _ _ h => h) (Or.inl ⟨by rfl, ?hy4⟩) hHeld ?hn4
    case hy4 => (intro wz hSw; (try dsimp only at hSw); go_simp; first | done | with_reducible rfl)
    try simp only [List.getElem_toArray, List.getElem_cons_zero, List.getElem_cons_succ, Act.put, List.setIfInBounds_toArray, List.set_cons_zero, List.set_cons_succ]
    refine' wpAnyH_take (i := 5) (v := _) rfl (by kernel_rfl) (by kernel_rfl) (by kernel_rfl) (fun _ _ _ h => h) (Or.inl ⟨by rfl, ?hy5⟩) hHeld ?hn5
    case hy5 => (intro wz hSw; (try dsimp only at hSw); go_simp; first | done | with_reducible rfl)
    try simp only [List.getElem_toArray, List.getElem_cons_zero, List.getElem_cons_succ, Act.put, List.setIfInBounds_toArray, List.set_cons_zero, List.set_cons_succ]
    refine' wpAnyH_take (i := 6) (v := _) rfl (by kernel_rfl) (by kernel_rfl) (by kernel_rfl) (fun _ _ _ h => h) (Or.inl ⟨by rfl, ?hy6⟩) hHeld ?hn6
    case hy6 => (intro wz hSw; (try dsimp only at hSw); go_simp; first | done | with_reducible rfl)
    try simp only [List.getElem_toArray, List.getElem_cons_zero, List.getElem_cons_succ, Act.put, List.setIfInBounds_toArray, List.set_cons_zero, List.set_cons_succ]
    refine wpAnyH_ready (rs := [7]) (by kernel_rfl) (by simp) ?_
    refine AllReadyH.cons rfl (fun K hK => ?_) AllReadyH.nil
    go_simp
    refine (sLabelOk_any _ _ _).mono ?_; rintro e w9 ⟨rfl, hbx⟩
    refine hK.out _ _ (S8_later hbx hHeld) (fun hHeld => ?_)
    clear hK K
    refine' wpAnyH_take (i := 8) (v := _) rfl (by kernel_rfl) (by kernel_rfl) (by kernel_rfl) (fun _ _ _ h => h) (Or.inl ⟨by rfl, ?hy7⟩) hHeld ?hn7
    case hy7 => (intro wz hSw; (try dsimp only at hSw); go_simp; first | done | with_reducible rfl)
    try simp only [List.getElem_toArray, List.getElem_cons_zero, List.getElem_cons_succ, Act.put, List.setIfInBounds_toArray, List.set_cons_zero, List.set_cons_succ]
    refine' wpAnyH_take (i := 9) (v := _) rfl (by kernel_rfl) (by kernel_rfl) (by kernel_rfl) (fun _ _ _ h => h) (Or.inl ⟨by rfl, ?hy8⟩) hHeld ?hn8
    case hy8 => (intro wz hSw; (try dsimp only at hSw); go_simp; first | done | with_reducible rfl)
    try simp only [List.getElem_toArray, List.getElem_cons_zero, List.getElem_cons_succ, Act.put, List.setIfInBounds_toArray, List.set_cons_zero, List.set_cons_succ]
    refine' wpAnyH_take (i := 10) (v := _) rfl (by kernel_rfl) (by kernel_rfl) (by kernel_rfl) (fun _ _ _ h => h) (Or.inl ⟨by rfl, ?hy9⟩) hHeld ?hn9
    case hy9 => (intro wz hSw; (try dsimp only at hSw); go_simp; first | done | with_reducible rfl)
    try simp only [List.getElem_toArray, List.getElem_cons_zero, List.getElem_cons_succ, Act.put, List.setIfInBounds_toArray, List.set_cons_zero, List.set_cons_succ]
    refine' wpAnyH_take (i := 11) (v := undef) rfl (by kernel_rfl) (by kernel_rfl) (by kernel_rfl) (fun _ _ _ h => h) (Or.inr ⟨by rfl, rfl⟩) hHeld ?hn10
    try simp only [List.getElem_toArray, List.getElem_cons_zero, List.getElem_cons_succ, Act.put, List.setIfInBounds_toArray, List.set_cons_zero, List.set_cons_succ]
    refine' wpAnyH_take (i := 12) (v := undef) rfl (by kernel_rfl) (by kernel_rfl) (by kernel_rfl) (fun _ _ _ h => h) (Or.inr ⟨by rfl, rfl⟩) hHeld ?hn11
    try simp only [List.getElem_toArray, List.getElem_cons_zero, List.getElem_cons_succ, Act.put, List.setIfInBounds_toArray, List.set_cons_zero, List.set_cons_succ]
    refine' wpAnyH_take (i := 13) (v := undef) rfl (by kernel_rfl) (by kernel_rfl) (by kernel_rfl) (fun _ _ _ h => h) (Or.inr ⟨by rfl, rfl⟩) hHeld ?hn12
    try simp only [List.getElem_toArray, List.getElem_cons_zero, List.getElem_cons_succ, Act.put, List.setIfInBounds_toArray, List.set_cons_zero, List.set_cons_succ]
    refine' wpAnyH_take (i := 14) (v := _) rfl (by kernel_rfl) (by kernel_rfl) (by kernel_rfl) (fun _ _ _ h => h) (Or.inl ⟨by rfl, ?hy13⟩) hHeld ?hn13
    case hy13 => (intro wz hSw; (try dsimp only at hSw); go_simp; first | done | with_reducible rfl)
    try simp only [List.getElem_toArray, List.getElem_cons_zero, List.getElem_cons_succ, Act.put, List.setIfInBounds_toArray, List.set_cons_zero, List.set_cons_succ]
    refine wpAnyH_done (by kernel_rfl) ?_ _
    go_wp2_with fail
    refine wp_region_held (S := (fun wz => wz.cell? ⟨N, 0, none⟩ = some (.int .i64 ak) ∧ wz.cell? ⟨N, 1, none⟩ = some (.int .i64 at') ∧ wz.cell? ⟨N + 1, 0, none⟩ = some (.int .i64 bk) ∧ wz.cell? ⟨N + 1, 1, none⟩ = some (.int .i64 bt) ∧ wz.cell? ⟨M, 0, none⟩ = some (.int .i64 ck) ∧ wz.cell? ⟨M, 1, none⟩ = some (.int .i64 ct) ∧ wz.cell? ⟨O, 0, none⟩ = some (.int .i64 xk) ∧ wz.cell? ⟨O, 1, none⟩ = some (.int .i64 xt) ∧ Below w.heap.size w wz)) (by kernel_rfl) ?_
    change wpAnyH _ _ _ _ _ _ _ _ (World.drew _)
    have hHeld := S8_drew hHeld
    refine' wpAnyH_take (i := 0) (v := _) rfl (by kernel_rfl) (by kernel_rfl) (by kernel_rfl) (fun _ _ _ h => h) (Or.inl ⟨by rfl, ?hy14⟩) hHeld ?hn14
    case hy14 => (intro wz hSw; (try dsimp only at hSw); go_simp; first | done | with_reducible rfl)
    try simp only [List.getElem_toArray, List.getElem_cons_zero, List.getElem_cons_succ, Act.put, List.setIfInBounds_toArray, List.set_cons_zero, List.set_cons_succ]
    refine' wpAnyH_take (i := 1) (v := _) rfl (by kernel_rfl) (by kernel_rfl) (by kernel_rfl) (fun _ _ _ h => h) (Or.inl ⟨by rfl, ?hy15⟩) hHeld ?hn15
    case hy15 => (intro wz hSw; (try dsimp only at hSw); go_simp; first | done | with_reducible rfl)
    try simp only [List.getElem_toArray, List.getElem_cons_zero, List.getElem_cons_succ, Act.put, List.setIfInBounds_toArray, List.set_cons_zero, List.set_cons_succ]
    refine' wpAnyH_take (i := 2) (v := _) rfl (by kernel_rfl) (by kernel_rfl) (by kernel_rfl) (fun _ _ _ h => h) (Or.inl ⟨by rfl, ?hy16⟩) hHeld ?hn16
    case hy16 => (intro wz hSw; (try dsimp only at hSw); go_simp; first | done | with_reducible rfl)
    try simp only [List.getElem_toArray, List.getElem_cons_zero, List.getElem_cons_succ, Act.put, List.setIfInBounds_toArray, List.set_cons_zero, List.set_cons_succ]
    refine wpAnyH_ready (rs := [3]) (by kernel_rfl) (by simp) ?_
    refine AllReadyH.cons rfl (fun K hK => ?_) AllReadyH.nil
    go_simp
    refine (sLabelBoth_any _ _ _ _ _).mono ?_; rintro e w9 ⟨rfl, hbx⟩
    refine hK.out _ _ (S8_later hbx hHeld) (fun hHeld => ?_)
    clear hK K
    refine' wpAnyH_take (i := 4) (v := _) rfl (by kernel_rfl) (by kernel_rfl) (by kernel_rfl) (fun _ _ _ h => h) (Or.inl ⟨by rfl, ?hy17⟩) hHeld ?hn17
    case hy17 => (intro wz hSw; (try dsimp only at hSw); go_simp; first | done | with_reducible rfl)
    try simp only [List.getElem_toArray, List.getElem_cons_zero, List.getElem_cons_succ, Act.put, List.setIfInBounds_toArray, List.set_cons_zero, List.set_cons_succ]
    refine' wpAnyH_take (i := 5) (v := _) rfl (by kernel_rfl) (by kernel_rfl) (by kernel_rfl) (fun _ _ _ h => h) (Or.inl ⟨by rfl, ?hy18⟩) hHeld ?hn18
    case hy18 => (intro wz hSw; (try dsimp only at hSw); go_simp; first | done | with_reducible rfl)
    try simp only [List.getElem_toArray, List.getElem_cons_zero, List.getElem_cons_succ, Act.put, List.setIfInBounds_toArray, List.set_cons_zero, List.set_cons_succ]
    refine wpAnyH_done (by kernel_rfl) ?_ _
    go_wp2
    go_ret
    exact ⟨by simp, hHeld.2.2.2.2.2.2.2.2⟩
  · cases hb : okB bk bt
    · refine wp_region_held (S := (fun wz => wz.cell? ⟨N, 0, none⟩ = some (.int .i64 ak) ∧ wz.cell? ⟨N, 1, none⟩ = some (.int .i64 at') ∧ wz.cell? ⟨N + 1, 0, none⟩ = some (.int .i64 bk) ∧ wz.cell? ⟨N + 1, 1, none⟩ = some (.int .i64 bt) ∧ wz.cell? ⟨M, 0, none⟩ = some (.int .i64 ck) ∧ wz.cell? ⟨M, 1, none⟩ = some (.int .i64 ct) ∧ wz.cell? ⟨O, 0, none⟩ = some (.int .i64 xk) ∧ wz.cell? ⟨O, 1, none⟩ = some (.int .i64 xt) ∧ Below w.heap.size w wz)) (by kernel_rfl) ?_
      change wpAnyH _ _ _ _ _ _ _ _ (World.drew _)
      have hHeld := S8_drew hSt
      refine' wpAnyH_take (i := 0) (v := _) rfl (by kernel_rfl) (by kernel_rfl) (by kernel_rfl) (fun _ _ _ h => h) (Or.inl ⟨by rfl, ?hy19⟩) hHeld ?hn19
      case hy19 => (intro wz hSw; (try dsimp only at hSw); go_simp; first | done | with_reducible rfl)
      try simp only [List.getElem_toArray, List.getElem_cons_zero, List.getElem_cons_succ, Act.put, List.setIfInBounds_toArray, List.set_cons_zero, List.set_cons_succ]
      refine' wpAnyH_take (i := 1) (v := _) rfl (by kernel_rfl) (by kernel_rfl) (by kernel_rfl) (fun _ _ _ h => h) (Or.inl ⟨by rfl, ?hy20⟩) hHeld ?hn20
      case hy20 => (intro wz hSw; (try dsimp only at hSw); go_simp; first | done | with_reducible rfl)
      try simp only [List.getElem_toArray, List.getElem_cons_zero, List.getElem_cons_succ, Act.put, List.setIfInBounds_toArray, List.set_cons_zero, List.set_cons_succ]
      refine' wpAnyH_take (i := 2) (v := _) rfl (by kernel_rfl) (by kernel_rfl) (by kernel_rfl) (fun _ _ _ h => h) (Or.inl ⟨by rfl, ?hy21⟩) hHeld ?hn21
      case hy21 => (intro wz hSw; (try dsimp only at hSw); go_simp; first | done | with_reducible rfl)
      try simp only [List.getElem_toArray, List.getElem_cons_zero, List.getElem_cons_succ, Act.put, List.setIfInBounds_toArray, List.set_cons_zero, List.set_cons_succ]
      refine wpAnyH_ready (rs := [3]) (by kernel_rfl) (by simp) ?_
      refine AllReadyH.cons rfl (fun K hK => ?_) AllReadyH.nil
      go_simp
      refine (sLabelBoth_any _ _ _ _ _).mono ?_; rintro e w9 ⟨rfl, hbx⟩
      refine hK.out _ _ (S8_later hbx hHeld) (fun hHeld => ?_)
      clear hK K
      refine' wpAnyH_take (i := 4) (v := _) rfl (by kernel_rfl) (by kernel_rfl) (by kernel_rfl) (fun _ _ _ h => h) (Or.inl ⟨by rfl, ?hy22⟩) hHeld ?hn22
      case hy22 => (intro wz hSw; (try dsimp only at hSw); go_simp; first | done | with_reducible rfl)
      try simp only [List.getElem_toArray, List.getElem_cons_zero, List.getElem_cons_succ, Act.put, List.setIfInBounds_toArray, List.set_cons_zero, List.set_cons_succ]
      refine' wpAnyH_take (i := 5) (v := _) rfl (by kernel_rfl) (by kernel_rfl) (by kernel_rfl) (fun _ _ _ h => h) (Or.inl ⟨by rfl, ?hy23⟩) hHeld ?hn23
      case hy23 => (intro wz hSw; (try dsimp only at hSw); go_simp; first | done | with_reducible rfl)
      try simp only [List.getElem_toArray, List.getElem_cons_zero, List.getElem_cons_succ, Act.put, List.setIfInBounds_toArray, List.set_cons_zero, List.set_cons_succ]
      refine' wpAnyH_take (i := 6) (v := _) rfl (by kernel_rfl) (by kernel_rfl) (by kernel_rfl) (fun _ _ _ h => h) (Or.inl ⟨by rfl, ?hy24⟩) hHeld ?hn24
      case hy24 => (intro wz hSw; (try dsimp only at hSw); go_simp; first | done | with_reducible rfl)
      try simp only [List.getElem_toArray, List.getElem_cons_zero, List.getElem_cons_succ, Act.put, List.setIfInBounds_toArray, List.set_cons_zero, List.set_cons_succ]
      refine wpAnyH_ready (rs := [7]) (by kernel_rfl) (by simp) ?_
      refine AllReadyH.cons rfl (fun K hK => ?_) AllReadyH.nil
      go_simp
      refine (sLabelOk_any _ _ _).mono ?_; rintro e w9 ⟨rfl, hbx⟩
      refine hK.out _ _ (S8_later hbx hHeld) (fun hHeld => ?_)
      clear hK K
      refine' wpAnyH_take (i := 8) (v := _) rfl (by kernel_rfl) (by kernel_rfl) (by kernel_rfl) (fun _ _ _ h => h) (Or.inl ⟨by rfl, ?hy25⟩) hHeld ?hn25
      case hy25 => (intro wz hSw; (try dsimp only at hSw); go_simp; first | done | with_reducible rfl)
      try simp only [List.getElem_toArray, List.getElem_cons_zero, List.getElem_cons_succ, Act.put, List.setIfInBounds_toArray, List.set_cons_zero, List.set_cons_succ]
      refine' wpAnyH_take (i := 9) (v := _) rfl (by kernel_rfl) (by kernel_rfl) (by kernel_rfl) (fun _ _ _ h => h) (Or.inl ⟨by rfl, ?hy26⟩) hHeld ?hn26
      case hy26 => (intro wz hSw; (try dsimp only at hSw); go_simp; first | done | with_reducible rfl)
      try simp only [List.getElem_toArray, List.getElem_cons_zero, List.getElem_cons_succ, Act.put, List.setIfInBounds_toArray, List.set_cons_zero, List.set_cons_succ]
      refine' wpAnyH_take (i := 10) (v := _) rfl (by kernel_rfl) (by kernel_rfl) (by kernel_rfl) (fun _ _ _ h => h) (Or.inl ⟨by rfl, ?hy27⟩) hHeld ?hn27
      case hy27 => (intro wz hSw; (try dsimp only at hSw); go_simp; first | done | with_reducible rfl)
      try simp only [List.getElem_toArray, List.getElem_cons_zero, List.getElem_cons_succ, Act.put, List.setIfInBounds_toArray, List.set_cons_zero, List.set_cons_succ]
      refine' wpAnyH_take (i := 11) (v := _) rfl (by kernel_rfl) (by kernel_rfl) (by kernel_rfl) (fun _ _ _ h => h) (Or.inl ⟨by rfl, ?hy28⟩) hHeld ?hn28
      case hy28 => (intro wz hSw; (try dsimp only at hSw); go_simp; first | done | with_reducible rfl)
      try simp only [List.getElem_toArray, List.getElem_cons_zero, List.getElem_cons_succ, Act.put, List.setIfInBounds_toArray, List.set_cons_zero, List.set_cons_succ]
      refine wpAnyH_ready (rs := [12]) (by kernel_rfl) (by simp) ?_
      refine AllReadyH.cons rfl (fun K hK => ?_) AllReadyH.nil
      go_simp
      refine (sLabelOk_any _ _ _).mono ?_; rintro e w9 ⟨rfl, hbx⟩
      refine hK.out _ _ (S8_later hbx hHeld) (fun hHeld => ?_)
      clear hK K
      refine' wpAnyH_take (i := 13) (v := _) rfl (by kernel_rfl) (by kernel_rfl) (by kernel_rfl) (fun _ _ _ h => h) (Or.inl ⟨by rfl, ?hy29⟩) hHeld ?hn29
      case hy29 => (intro wz hSw; (try dsimp only at hSw); go_simp; first | done | with_reducible rfl)
      try simp only [List.getElem_toArray, List.getElem_cons_zero, List.getElem_cons_succ, Act.put, List.setIfInBounds_toArray, List.set_cons_zero, List.set_cons_succ]
      refine' wpAnyH_take (i := 14) (v := _) rfl (by kernel_rfl) (by kernel_rfl) (by kernel_rfl) (fun _ _ _ h => h) (Or.inl ⟨by rfl, ?hy30⟩) hHeld ?hn30
      case hy30 => (intro wz hSw; (try dsimp only at hSw); go_simp; first | done | with_reducible rfl)
      try simp only [List.getElem_toArray, List.getElem_cons_zero, List.getElem_cons_succ, Act.put, List.setIfInBounds_toArray, List.set_cons_zero, List.set_cons_succ]
      refine wpAnyH_done (by kernel_rfl) ?_ _
      go_wp2_with fail
      refine wp_region_held (S := (fun wz => wz.cell? ⟨N, 0, none⟩ = some (.int .i64 ak) ∧ wz.cell? ⟨N, 1, none⟩ = some (.int .i64 at') ∧ wz.cell? ⟨N + 1, 0, none⟩ = some (.int .i64 bk) ∧ wz.cell? ⟨N + 1, 1, none⟩ = some (.int .i64 bt) ∧ wz.cell? ⟨M, 0, none⟩ = some (.int .i64 ck) ∧ wz.cell? ⟨M, 1, none⟩ = some (.int .i64 ct) ∧ wz.cell? ⟨O, 0, none⟩ = some (.int .i64 xk) ∧ wz.cell? ⟨O, 1, none⟩ = some (.int .i64 xt) ∧ Below w.heap.size w wz)) (by kernel_rfl) ?_
      change wpAnyH _ _ _ _ _ _ _ _ (World.drew _)
      have hHeld := S8_drew hHeld
      refine' wpAnyH_take (i := 0) (v := _) rfl (by kernel_rfl) (by kernel_rfl) (by kernel_rfl) (fun _ _ _ h => h) (Or.inl ⟨by rfl, ?hy31⟩) hHeld ?hn31
      case hy31 => (intro wz hSw; (try dsimp only at hSw); go_simp; first | done | with_reducible rfl)
      try simp only [List.getElem_toArray, List.getElem_cons_zero, List.getElem_cons_succ, Act.put, List.setIfInBounds_toArray, List.set_cons_zero, List.set_cons_succ]
      refine' wpAnyH_take (i := 1) (v := _) rfl (by kernel_rfl) (by kernel_rfl) (by kernel_rfl) (fun _ _ _ h => h) (Or.inl ⟨by rfl, ?hy32⟩) hHeld ?hn32
      case hy32 => (intro wz hSw; (try dsimp only at hSw); go_simp; first | done | with_reducible rfl)
      try simp only [List.getElem_toArray, List.getElem_cons_zero, List.getElem_cons_succ, Act.put, List.setIfInBounds_toArray, List.set_cons_zero, List.set_cons_succ]
      refine' wpAnyH_take (i := 2) (v := _) rfl (by kernel_rfl) (by kernel_rfl) (by kernel_rfl) (fun _ _ _ h => h) (Or.inl ⟨by rfl, ?hy33⟩) hHeld ?hn33
      case hy33 => (intro wz hSw; (try dsimp only at hSw); go_simp; first | done | with_reducible rfl)
      try simp only [List.getElem_toArray, List.getElem_cons_zero, List.getElem_cons_succ, Act.put, List.setIfInBounds_toArray, List.set_cons_zero, List.set_cons_succ]
      refine wpAnyH_ready (rs := [3]) (by kernel_rfl) (by simp) ?_
      refine AllReadyH.cons rfl (fun K hK => ?_) AllReadyH.nil
      go_simp
      refine (sLabelBoth_any _ _ _ _ _).mono ?_; rintro e w9 ⟨rfl, hbx⟩
      refine hK.out _ _ (S8_later hbx hHeld) (fun hHeld => ?_)
      clear hK K
      refine' wpAnyH_take (i := 4) (v := _) rfl (by kernel_rfl) (by kernel_rfl) (by kernel_rfl) (fun _ _ _ h => h) (Or.inl ⟨by rfl, ?hy34⟩) hHeld ?hn34
      case hy34 => (intro wz hSw; (try dsimp only at hSw); go_simp; first | done | with_reducible rfl)
      try simp only [List.getElem_toArray, List.getElem_cons_zero, List.getElem_cons_succ, Act.put, List.setIfInBounds_toArray, List.set_cons_zero, List.set_cons_succ]
      refine' wpAnyH_take (i := 5) (v := _) rfl (by kernel_rfl) (by kernel_rfl) (by kernel_rfl) (fun _ _ _ h => h) (Or.inl ⟨by rfl, ?hy35⟩) hHeld ?hn35
      case hy35 => (intro wz hSw; (try dsimp only at hSw); go_simp; first | done | with_reducible rfl)
      try simp only [List.getElem_toArray, List.getElem_cons_zero, List.getElem_cons_succ, Act.put, List.setIfInBounds_toArray, List.set_cons_zero, List.set_cons_succ]
      refine wpAnyH_done (by kernel_rfl) ?_ _
      go_wp2
      go_ret
      exact ⟨by simp, hHeld.2.2.2.2.2.2.2.2⟩
    · refine wp_region_held (S := (fun wz => wz.cell? ⟨N, 0, none⟩ = some (.int .i64 ak) ∧ wz.cell? ⟨N, 1, none⟩ = some (.int .i64 at') ∧ wz.cell? ⟨N + 1, 0, none⟩ = some (.int .i64 bk) ∧ wz.cell? ⟨N + 1, 1, none⟩ = some (.int .i64 bt) ∧ wz.cell? ⟨M, 0, none⟩ = some (.int .i64 ck) ∧ wz.cell? ⟨M, 1, none⟩ = some (.int .i64 ct) ∧ wz.cell? ⟨O, 0, none⟩ = some (.int .i64 xk) ∧ wz.cell? ⟨O, 1, none⟩ = some (.int .i64 xt) ∧ Below w.heap.size w wz)) (by kernel_rfl) ?_
      change wpAnyH _ _ _ _ _ _ _ _ (World.drew _)
      have hHeld := S8_drew hSt
      refine' wpAnyH_take (i := 0) (v := _) rfl (by kernel_rfl) (by kernel_rfl) (by kernel_rfl) (fun _ _ _ h => h) (Or.inl ⟨by rfl, ?hy36⟩) hHeld ?hn36
      case hy36 => (intro wz hSw; (try dsimp only at hSw); go_simp; first | done | with_reducible rfl)
      try simp only [List.getElem_toArray, List.getElem_cons_zero, List.getElem_cons_succ, Act.put, List.setIfInBounds_toArray, List.set_cons_zero, List.set_cons_succ]
      refine' wpAnyH_take (i := 1) (v := _) rfl (by kernel_rfl) (by kernel_rfl) (by kernel_rfl) (fun _ _ _ h => h) (Or.inl ⟨by rfl, ?hy37⟩) hHeld ?hn37
      case hy37 => (intro wz hSw; (try dsimp only at hSw); go_simp; first | done | with_reducible rfl)
      try simp only [List.getElem_toArray, List.getElem_cons_zero, List.getElem_cons_succ, Act.put, List.setIfInBounds_toArray, List.set_cons_zero, List.set_cons_succ]
      refine' wpAnyH_take (i := 2) (v := _) rfl (by kernel_rfl) (by kernel_rfl) (by kernel_rfl) (fun _ _ _ h => h) (Or.inl ⟨by rfl, ?hy38⟩) hHeld ?hn38
      case hy38 => (intro wz hSw; (try dsimp only at hSw); go_simp; first | done | with_reducible rfl)
      try simp only [List.getElem_toArray, List.getElem_cons_zero, List.getElem_cons_succ, Act.put, List.setIfInBounds_toArray, List.set_cons_zero, List.set_cons_succ]
      refine wpAnyH_ready (rs := [3]) (by kernel_rfl) (by simp) ?_
      refine AllReadyH.cons rfl (fun K hK => ?_) AllReadyH.nil
      go_simp
      refine (sLabelBoth_any _ _ _ _ _).mono ?_; rintro e w9 ⟨rfl, hbx⟩
      refine hK.out _ _ (S8_later hbx hHeld) (fun hHeld => ?_)
      clear hK K
      refine' wpAnyH_take (i := 4) (v := _) rfl (by kernel_rfl) (by kernel_rfl) (by kernel_rfl) (fun _ _ _ h => h) (Or.inl ⟨by rfl, ?hy39⟩) hHeld ?hn39
      case hy39 => (intro wz hSw; (try dsimp only at hSw); go_simp; first | done | with_reducible rfl)
      try simp only [List.getElem_toArray, List.getElem_cons_zero, List.getElem_cons_succ, Act.put, List.setIfInBounds_toArray, List.set_cons_zero, List.set_cons_succ]
      refine' wpAnyH_take (i := 5) (v := _) rfl (by kernel_rfl) (by kernel_rfl) (by kernel_rfl) (fun _ _ _ h => h) (Or.inl ⟨by rfl, ?hy40⟩) hHeld ?hn40
      case hy40 => (intro wz hSw; (try dsimp only at hSw); go_simp; first | done | with_reducible rfl)
      try simp only [List.getElem_toArray, List.getElem_cons_zero, List.getElem_cons_succ, Act.put, List.setIfInBounds_toArray, List.set_cons_zero, List.set_cons_succ]
      refine' wpAnyH_take (i := 6) (v := _) rfl (by kernel_rfl) (by kernel_rfl) (by kernel_rfl) (fun _ _ _ h => h) (Or.inl ⟨by rfl, ?hy41⟩) hHeld ?hn41
      case hy41 => (intro wz hSw; (try dsimp only at hSw); go_simp; first | done | with_reducible rfl)
      try simp only [List.getElem_toArray, List.getElem_cons_zero, List.getElem_cons_succ, Act.put, List.setIfInBounds_toArray, List.set_cons_zero, List.set_cons_succ]
      refine wpAnyH_ready (rs := [7]) (by kernel_rfl) (by simp) ?_
      refine AllReadyH.cons rfl (fun K hK => ?_) AllReadyH.nil
      go_simp
      refine (sLabelOk_any _ _ _).mono ?_; rintro e w9 ⟨rfl, hbx⟩
      refine hK.out _ _ (S8_later hbx hHeld) (fun hHeld => ?_)
      clear hK K
      refine' wpAnyH_take (i := 8) (v := _) rfl (by kernel_rfl) (by kernel_rfl) (by kernel_rfl) (fun _ _ _ h => h) (Or.inl ⟨by rfl, ?hy42⟩) hHeld ?hn42
      case hy42 => (intro wz hSw; (try dsimp only at hSw); go_simp; first | done | with_reducible rfl)
      try simp only [List.getElem_toArray, List.getElem_cons_zero, List.getElem_cons_succ, Act.put, List.setIfInBounds_toArray, List.set_cons_zero, List.set_cons_succ]
      refine' wpAnyH_take (i := 9) (v := _) rfl (by kernel_rfl) (by kernel_rfl) (by kernel_rfl) (fun _ _ _ h => h) (Or.inl ⟨by rfl, ?hy43⟩) hHeld ?hn43
      case hy43 => (intro wz hSw; (try dsimp only at hSw); go_simp; first | done | with_reducible rfl)
      try simp only [List.getElem_toArray, List.getElem_cons_zero, List.getElem_cons_succ, Act.put, List.setIfInBounds_toArray, List.set_cons_zero, List.set_cons_succ]
      refine' wpAnyH_take (i := 10) (v := _) rfl (by kernel_rfl) (by kernel_rfl) (by kernel_rfl) (fun _ _ _ h => h) (Or.inl ⟨by rfl, ?hy44⟩) hHeld ?hn44
      case hy44 => (intro wz hSw; (try dsimp only at hSw); go_simp; first | done | with_reducible rfl)
      try simp only [List.getElem_toArray, List.getElem_cons_zero, List.getElem_cons_succ, Act.put, List.setIfInBounds_toArray, List.set_cons_zero, List.set_cons_succ]
      refine' wpAnyH_take (i := 11) (v := _) rfl (by kernel_rfl) (by kernel_rfl) (by kernel_rfl) (fun _ _ _ h => h) (Or.inl ⟨by rfl, ?hy45⟩) hHeld ?hn45
      case hy45 => (intro wz hSw; (try dsimp only at hSw); go_simp; first | done | with_reducible rfl)
      try simp only [List.getElem_toArray, List.getElem_cons_zero, List.getElem_cons_succ, Act.put, List.setIfInBounds_toArray, List.set_cons_zero, List.set_cons_succ]
      refine wpAnyH_ready (rs := [12]) (by kernel_rfl) (by simp) ?_
      refine AllReadyH.cons rfl (fun K hK => ?_) AllReadyH.nil
      go_simp
      refine (sLabelOk_any _ _ _).mono ?_; rintro e w9 ⟨rfl, hbx⟩
      refine hK.out _ _ (S8_later hbx hHeld) (fun hHeld => ?_)
      clear hK K
      refine' wpAnyH_take (i := 13) (v := _) rfl (by kernel_rfl) (by kernel_rfl) (by kernel_rfl) (fun _ _ _ h => h) (Or.inl ⟨by rfl, ?hy46⟩) hHeld ?hn46
      case hy46 => (intro wz hSw; (try dsimp only at hSw); go_simp; first | done | with_reducible rfl)
      try simp only [List.getElem_toArray, List.getElem_cons_zero, List.getElem_cons_succ, Act.put, List.setIfInBounds_toArray, List.set_cons_zero, List.set_cons_succ]
      refine' wpAnyH_take (i := 14) (v := _) rfl (by kernel_rfl) (by kernel_rfl) (by kernel_rfl) (fun _ _ _ h => h) (Or.inl ⟨by rfl, ?hy47⟩) hHeld ?hn47
      case hy47 => (intro wz hSw; (try dsimp only at hSw); go_simp; first | done | with_reducible rfl)
      try simp only [List.getElem_toArray, List.getElem_cons_zero, List.getElem_cons_succ, Act.put, List.setIfInBounds_toArray, List.set_cons_zero, List.set_cons_succ]
      refine wpAnyH_done (by kernel_rfl) ?_ _
      obtain ⟨F1, F2, F3⟩ := HQ.out ha hb
      cases h1 : flB ak at' ck ct
      · clear F3
        go_wp2_with (go_at_call 18; refine (labelFlows_any _ _ _ _ _).mono ?_; rintro e w9 ⟨rfl, hbx⟩; replace hHeld := S8_later hbx hHeld; clear hbx)
        go_ret
        exact ⟨by simp, hHeld.2.2.2.2.2.2.2.2⟩
      · cases h2 : flB bk bt ck ct
        · clear F3
          go_wp2_with (go_at_call 18; refine (labelFlows_any _ _ _ _ _).mono ?_; rintro e w9 ⟨rfl, hbx⟩; replace hHeld := S8_later hbx hHeld; clear hbx)
          go_ret
          exact ⟨by simp, hHeld.2.2.2.2.2.2.2.2⟩
        · have h3 : flB xk xt ck ct = true := F3 h1 h2
          clear F3
          go_wp2_with (go_at_call 18; refine (labelFlows_any _ _ _ _ _).mono ?_; rintro e w9 ⟨rfl, hbx⟩; replace hHeld := S8_later hbx hHeld; clear hbx)
          go_ret
          exact ⟨by simp, hHeld.2.2.2.2.2.2.2.2⟩

end Go.Proofs.Ytbkgkpfekbnpiaa

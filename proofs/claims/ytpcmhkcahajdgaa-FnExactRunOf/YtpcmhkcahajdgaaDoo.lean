/- What steps do: to numbers, to what was set, to what was told; as the model does them. -/
import Derived.Test.YtpcmhkcahajdgaaNok
import Derived.Test.YtpcmhkcahajdgaaRst
import Derived.Laws.OwnMore
namespace Go.Proofs.Ytpcmhkcahajdgaa
open Go.RowKit
set_option linter.unusedSimpArgs false
set_option linter.unusedVariables false
attribute [local go_sem] World.cell?_alloc_some

/-- A program that is being done: its numbers, what was set, what was told. -/
structure RSt where
  n : List Int
  ws : List (Int × Int)
  ss : List (Int × Int)
/-- What a value comes to. -/
def numV (vk va vb : Int) (ns : List Int) : Int := if vk = 1 then va else if vk = 2 then ns.getD va.toNat 0 else if vk = 3 then Int.tmod (ns.getD va.toNat 0 + ns.getD vb.toNat 0) 10 else if ns.getD va.toNat 0 = ns.getD vb.toNat 0 then 1 else 0
def stepS {α : Type} (f : α → RSt → RSt) (x : Pay × α × α) (s : RSt) : RSt :=
  if x.1.k = 1 then ⟨s.n.set x.1.v.toNat (numV x.1.vk x.1.va x.1.vb s.n), s.ws ++ [(x.1.v, numV x.1.vk x.1.va x.1.vb s.n)], s.ss⟩
  else if x.1.k = 3 then ⟨s.n, s.ws, s.ss ++ [(x.1.h, s.n.getD x.1.v.toNat 0)]⟩
  else if s.n.getD x.1.v.toNat 0 ≠ 0 then f x.2.1 s else f x.2.2 s
/-- What comes of steps. -/
def doT : (d : Nat) → Tr d → RSt → RSt
  | 0, _, s => s
  | d + 1, (l : List (Pay × Tr d × Tr d)), s => l.foldl (fun s x => stepS (doT d) x s) s
theorem doT_take {d : Nat} (l : List (Pay × Tr d × Tr d)) (i : Nat) (hi : i < l.length) (s : RSt) : doT (d + 1) (l.take (i + 1) : List (Pay × Tr d × Tr d)) s = stepS (doT d) l[i] (doT (d + 1) (l.take i : List (Pay × Tr d × Tr d)) s) := by
  show List.foldl _ s (l.take (i + 1)) = stepS (doT d) l[i] (List.foldl _ s (l.take i))
  rw [List.take_succ_eq_append_getElem hi, List.foldl_append]; rfl
theorem ten_get (ns : List Int) (m : Nat) (hm : m < ns.length) (ht : tenB ns = true) : 0 ≤ ns[m] ∧ ns[m] < 10 := by
  have := List.all_eq_true.1 ht ns[m] (List.getElem_mem hm)
  simpa [vIn] using this
theorem ten_set (ns : List Int) (m : Nat) (x : Int) (ht : tenB ns = true) (hx : 0 ≤ x ∧ x < 10) : tenB (ns.set m x) = true := by
  refine List.all_eq_true.2 fun y hy => ?_
  rcases List.mem_or_eq_of_mem_set hy with h | h
  · exact List.all_eq_true.1 ht y h
  · subst h; simpa [vIn] using hx
theorem numV_ten {ns : List Int} {vk va vb : Int} (hv : valB ns.length vk va vb = true) (ht : tenB ns = true) : 0 ≤ numV vk va vb ns ∧ numV vk va vb ns < 10 := by
  have hg : ∀ z : Int, 0 ≤ z → z < ns.length → 0 ≤ ns.getD z.toNat 0 ∧ ns.getD z.toNat 0 < 10 := fun z h0 h1 => by
    have hm : z.toNat < ns.length := by omega
    have := ten_get ns z.toNat hm ht
    simpa [hm] using this
  unfold valB at hv
  unfold numV
  split at hv
  · rw [if_pos ‹_›]; simpa [vIn] using (Bool.and_eq_true_iff.1 hv).1
  · rw [if_neg ‹_›]
    split at hv
    · rw [if_pos ‹_›]
      have := (Bool.and_eq_true_iff.1 hv).1
      simp [vIn] at this
      exact hg va this.1 this.2
    · rw [if_neg ‹_›]
      split at hv
      · obtain ⟨h1, h2⟩ := Bool.and_eq_true_iff.1 hv
        simp [vIn] at h1 h2
        have g1 := hg va h1.1 h1.2
        have g2 := hg vb h2.1 h2.2
        split
        · rw [Int.tmod_eq_emod_of_nonneg (by omega)]; omega
        · split <;> omega
      · cases hv

theorem SN1 {w wz : World} {a1 a2 a3 a4 a5 : Addr} {v1 v2 v3 v4 v5 : Value} (h : (wz.cell? a1 = some v1 ∧ wz.cell? a2 = some v2 ∧ wz.cell? a3 = some v3) ∧ (wz.cell? a4 = some v4 ∧ wz.cell? a5 = some v5) ∧ Below w.heap.size w wz) : (wz.drew.cell? a1 = some v1 ∧ wz.drew.cell? a2 = some v2 ∧ wz.drew.cell? a3 = some v3) ∧ (wz.drew.cell? a4 = some v4 ∧ wz.drew.cell? a5 = some v5) ∧ Below w.heap.size w wz.drew := ⟨h.1, h.2.1, h.2.2.drew⟩

set_option maxHeartbeats 2000000 in
theorem l3Num_any {nv : Value} {ns : List Int} (vk va vb : Int) {w : World} (hN : GRep (Value.int .i64) w nv ns) (hv : valB ns.length vk va vb = true) (ht : tenB ns = true) :
    Calls Try.prog 112 #[.agg #[.int .i64 vk, .int .i64 va, .int .i64 vb], nv] w fun e w' => e = .returned (.int .i64 (numV vk va vb ns)) ∧ Below w.heap.size w w' := by
  obtain ⟨na, nc, rfl, hlc, hcm, hcell⟩ := hN
  have hlm : (ns.length : Int) ≤ 9223372036854775807 := by unfold maxLen at hcm; omega
  have G := C3.new w (.int .i64 vk) (.int .i64 va) (.int .i64 vb) 32
  have A : Below w.heap.size w (w.alloc (.cells #[.int .i64 vk, .int .i64 va, .int .i64 vb] 32)) := (Below.refl _ _).alloc (Nat.le_refl _) _
  generalize hW0 : w.alloc (.cells #[.int .i64 vk, .int .i64 va, .int .i64 vb] 32) = w0 at G A
  have HW0 : Hid _ := hW0
  obtain ⟨⟨c0, c1, c2⟩, -⟩ := G
  clear hW0
  have hk4 : vk = 1 ∨ vk = 2 ∨ vk = 3 ∨ vk = 4 := by
    unfold valB at hv
    split at hv
    · exact .inl ‹_›
    · split at hv
      · exact .inr (.inl ‹_›)
      · split at hv
        · exact .inr (.inr ‹_›)
        · cases hv
  rcases hk4 with hk | hk | hk | hk
  · subst hk
    have HE : Hid (numV 1 va vb ns = va) := (show numV 1 va vb ns = va by simp [numV])
    go_enter Try.func112, Try.ntmps112
    go_wp2
    rw [HW0.out]
    go_ret
    exact ⟨by rw [HE.out]; rfl, A⟩
  · subst hk
    have hv' : vIn ns.length va = true := by simp [valB] at hv; exact hv.1
    obtain ⟨h1, h2⟩ : 0 ≤ va ∧ va < ns.length := by simpa [vIn] using hv'
    obtain ⟨m, rfl⟩ := Int.eq_ofNat_of_zero_le h1
    have hm : m < ns.length := by omega
    obtain ⟨b, off, rfl, k0⟩ := hcell m hm
    have HE : Hid (numV 2 m vb ns = ns[m]) := (show numV 2 m vb ns = ns[m] by simp [numV, hm])
    clear hv hv' ht hcell
    generalize ns[m] = x at *
    go_enter Try.func112, Try.ntmps112
    go_wp2
    rw [HW0.out]
    go_ret
    exact ⟨by rw [HE.out]; rfl, A⟩
  · subst hk
    have hv' : (vIn ns.length va && vIn ns.length vb) = true := by simpa [valB] using hv
    obtain ⟨h1, h2⟩ : (0 ≤ va ∧ va < ns.length) ∧ (0 ≤ vb ∧ vb < ns.length) := by simpa [vIn] using hv'
    obtain ⟨m, rfl⟩ := Int.eq_ofNat_of_zero_le h1.1
    obtain ⟨q, rfl⟩ := Int.eq_ofNat_of_zero_le h2.1
    have hm : m < ns.length := by omega
    have hq : q < ns.length := by omega
    obtain ⟨b, off, ha, k0⟩ := hcell m hm
    obtain ⟨b', off', ha', k1⟩ := hcell q hq
    rw [ha] at ha'
    cases ha'
    subst ha
    replace k0 := cell_later A k0
    replace k1 := cell_later A k1
    have t1 := ten_get ns m hm ht
    have t2 := ten_get ns q hq ht
    have e1 : ns.getD m 0 = ns[m] := by simp [hm]
    have e2 : ns.getD q 0 = ns[q] := by simp [hq]
    have HE : Hid (numV 3 m q ns = Int.tmod (ns[m] + ns[q]) 10) := (show numV 3 m q ns = Int.tmod (ns[m] + ns[q]) 10 by simp [numV, hm, hq])
    clear e1 e2 hv hv' ht hcell
    generalize ns[m] = x at *
    generalize ns[q] = y at *
    have v1 := w64 (x + y) (by omega)
    have v2 := w64 (Int.tmod (x + y) 10) (by rw [Int.tmod_eq_emod_of_nonneg (by omega)]; omega)
    go_enter Try.func112, Try.ntmps112
    go_wp2_with fail
    rw [HW0.out]
    refine wp_region_held (S := (fun wz => (wz.cell? ⟨w.heap.size, 0, none⟩ = some (.int .i64 3) ∧ wz.cell? ⟨w.heap.size, 1, none⟩ = some (.int .i64 (m : Int)) ∧ wz.cell? ⟨w.heap.size, 2, none⟩ = some (.int .i64 (q : Int))) ∧ (wz.cell? ⟨b, off + m, none⟩ = some (.int .i64 x) ∧ wz.cell? ⟨b, off + q, none⟩ = some (.int .i64 y)) ∧ Below w0.heap.size w0 wz)) (by kernel_rfl) ?_
    change wpAnyH _ _ _ _ _ _ _ _ (World.drew _)
    have hHeld := SN1 ⟨⟨c0, c1, c2⟩, ⟨k0, k1⟩, Below.refl w0.heap.size w0⟩
    refine' wpAnyH_take (i := 0) (v := _) rfl (by kernel_rfl) (by kernel_rfl) (by kernel_rfl) (fun _ _ _ h => h) (Or.inl ⟨by rfl, ?hy1⟩) hHeld ?hn1
    case hy1 => (intro wz hSw; (try dsimp only at hSw); go_simp; first | done | with_reducible rfl)
    try simp only [List.getElem_toArray, List.getElem_cons_zero, List.getElem_cons_succ, Act.put, List.setIfInBounds_toArray, List.set_cons_zero, List.set_cons_succ]
    refine' wpAnyH_take (i := 1) (v := _) rfl (by kernel_rfl) (by kernel_rfl) (by kernel_rfl) (fun _ _ _ h => h) (Or.inl ⟨by rfl, ?hy2⟩) hHeld ?hn2
    case hy2 => (intro wz hSw; (try dsimp only at hSw); go_simp; first | done | with_reducible rfl)
    try simp only [List.getElem_toArray, List.getElem_cons_zero, List.getElem_cons_succ, Act.put, List.setIfInBounds_toArray, List.set_cons_zero, List.set_cons_succ]
    refine' wpAnyH_take (i := 2) (v := _) rfl (by kernel_rfl) (by kernel_rfl) (by kernel_rfl) (fun _ _ _ h => h) (Or.inl ⟨by rfl, ?hy3⟩) hHeld ?hn3
    case hy3 => (intro wz hSw; (try dsimp only at hSw); go_simp; first | done | with_reducible rfl)
    try simp only [List.getElem_toArray, List.getElem_cons_zero, List.getElem_cons_succ, Act.put, List.setIfInBounds_toArray, List.set_cons_zero, List.set_cons_succ]
    refine' wpAnyH_take (i := 3) (v := _) rfl (by kernel_rfl) (by kernel_rfl) (by kernel_rfl) (fun _ _ _ h => h) (Or.inl ⟨by rfl, ?hy4⟩) hHeld ?hn4
    case hy4 => (intro wz hSw; (try dsimp only at hSw); go_simp; first | done | with_reducible rfl)
    try simp only [List.getElem_toArray, List.getElem_cons_zero, List.getElem_cons_succ, Act.put, List.setIfInBounds_toArray, List.set_cons_zero, List.set_cons_succ]
    refine' wpAnyH_take (i := 4) (v := _) rfl (by kernel_rfl) (by kernel_rfl) (by kernel_rfl) (fun _ _ _ h => h) (Or.inl ⟨by rfl, ?hy5⟩) hHeld ?hn5
    case hy5 => (intro wz hSw; (try dsimp only at hSw); go_simp; first | done | with_reducible rfl)
    try simp only [List.getElem_toArray, List.getElem_cons_zero, List.getElem_cons_succ, Act.put, List.setIfInBounds_toArray, List.set_cons_zero, List.set_cons_succ]
    refine' wpAnyH_take (i := 5) (v := _) rfl (by kernel_rfl) (by kernel_rfl) (by kernel_rfl) (fun _ _ _ h => h) (Or.inl ⟨by rfl, ?hy6⟩) hHeld ?hn6
    case hy6 => (intro wz hSw; (try dsimp only at hSw); go_simp; first | done | with_reducible rfl)
    try simp only [List.getElem_toArray, List.getElem_cons_zero, List.getElem_cons_succ, Act.put, List.setIfInBounds_toArray, List.set_cons_zero, List.set_cons_succ]
    refine' wpAnyH_take (i := 6) (v := _) rfl (by kernel_rfl) (by kernel_rfl) (by kernel_rfl) (fun _ _ _ h => h) (Or.inl ⟨by rfl, ?hy7⟩) hHeld ?hn7
    case hy7 => (intro wz hSw; (try dsimp only at hSw); go_simp; first | done | with_reducible rfl)
    try simp only [List.getElem_toArray, List.getElem_cons_zero, List.getElem_cons_succ, Act.put, List.setIfInBounds_toArray, List.set_cons_zero, List.set_cons_succ]
    refine' wpAnyH_take (i := 7) (v := _) rfl (by kernel_rfl) (by kernel_rfl) (by kernel_rfl) (fun _ _ _ h => h) (Or.inl ⟨by rfl, ?hy8⟩) hHeld ?hn8
    case hy8 => (intro wz hSw; (try dsimp only at hSw); go_simp; first | done | with_reducible rfl)
    try simp only [List.getElem_toArray, List.getElem_cons_zero, List.getElem_cons_succ, Act.put, List.setIfInBounds_toArray, List.set_cons_zero, List.set_cons_succ]
    refine' wpAnyH_take (i := 8) (v := _) rfl (by kernel_rfl) (by kernel_rfl) (by kernel_rfl) (fun _ _ _ h => h) (Or.inl ⟨by rfl, ?hy9⟩) hHeld ?hn9
    case hy9 => (intro wz hSw; (try dsimp only at hSw); go_simp; first | done | with_reducible rfl)
    try simp only [List.getElem_toArray, List.getElem_cons_zero, List.getElem_cons_succ, Act.put, List.setIfInBounds_toArray, List.set_cons_zero, List.set_cons_succ]
    refine' wpAnyH_take (i := 9) (v := _) rfl (by kernel_rfl) (by kernel_rfl) (by kernel_rfl) (fun _ _ _ h => h) (Or.inl ⟨by rfl, ?hy10⟩) hHeld ?hn10
    case hy10 => (intro wz hSw; (try dsimp only at hSw); go_simp; first | done | with_reducible rfl)
    try simp only [List.getElem_toArray, List.getElem_cons_zero, List.getElem_cons_succ, Act.put, List.setIfInBounds_toArray, List.set_cons_zero, List.set_cons_succ]
    refine' wpAnyH_take (i := 10) (v := _) rfl (by kernel_rfl) (by kernel_rfl) (by kernel_rfl) (fun _ _ _ h => h) (Or.inl ⟨by rfl, ?hy11⟩) hHeld ?hn11
    case hy11 => (intro wz hSw; (try dsimp only at hSw); go_simp; first | done | with_reducible rfl)
    try simp only [List.getElem_toArray, List.getElem_cons_zero, List.getElem_cons_succ, Act.put, List.setIfInBounds_toArray, List.set_cons_zero, List.set_cons_succ]
    refine' wpAnyH_take (i := 11) (v := _) rfl (by kernel_rfl) (by kernel_rfl) (by kernel_rfl) (fun _ _ _ h => h) (Or.inl ⟨by rfl, ?hy12⟩) hHeld ?hn12
    case hy12 => (intro wz hSw; (try dsimp only at hSw); go_simp; first | done | with_reducible rfl)
    try simp only [List.getElem_toArray, List.getElem_cons_zero, List.getElem_cons_succ, Act.put, List.setIfInBounds_toArray, List.set_cons_zero, List.set_cons_succ]
    refine' wpAnyH_take (i := 12) (v := _) rfl (by kernel_rfl) (by kernel_rfl) (by kernel_rfl) (fun _ _ _ h => h) (Or.inl ⟨by rfl, ?hy13⟩) hHeld ?hn13
    case hy13 => (intro wz hSw; (try dsimp only at hSw); go_simp; first | done | with_reducible rfl)
    try simp only [List.getElem_toArray, List.getElem_cons_zero, List.getElem_cons_succ, Act.put, List.setIfInBounds_toArray, List.set_cons_zero, List.set_cons_succ]
    refine wpAnyH_done (by kernel_rfl) ?_ _
    obtain ⟨_, _, hB9⟩ := hHeld
    go_wp2
    go_ret
    exact ⟨by rw [HE.out]; rfl, Below.then A hB9 A.size⟩
  · subst hk
    have hv' : (vIn ns.length va && vIn ns.length vb) = true := by simpa [valB] using hv
    obtain ⟨h1, h2⟩ : (0 ≤ va ∧ va < ns.length) ∧ (0 ≤ vb ∧ vb < ns.length) := by simpa [vIn] using hv'
    obtain ⟨m, rfl⟩ := Int.eq_ofNat_of_zero_le h1.1
    obtain ⟨q, rfl⟩ := Int.eq_ofNat_of_zero_le h2.1
    have hm : m < ns.length := by omega
    have hq : q < ns.length := by omega
    obtain ⟨b, off, ha, k0⟩ := hcell m hm
    obtain ⟨b', off', ha', k1⟩ := hcell q hq
    rw [ha] at ha'
    cases ha'
    subst ha
    replace k0 := cell_later A k0
    replace k1 := cell_later A k1
    have t1 := ten_get ns m hm ht
    have t2 := ten_get ns q hq ht
    have e1 : ns.getD m 0 = ns[m] := by simp [hm]
    have e2 : ns.getD q 0 = ns[q] := by simp [hq]
    have HE : Hid (numV 4 m q ns = (if ns[m] = ns[q] then 1 else 0)) := (show numV 4 m q ns = (if ns[m] = ns[q] then 1 else 0) by simp [numV, hm, hq])
    clear e1 e2 hv hv' ht hcell
    generalize ns[m] = x at *
    generalize ns[q] = y at *
    go_enter Try.func112, Try.ntmps112
    go_wp2_with fail
    rw [HW0.out]
    refine wp_region_held (S := (fun wz => (wz.cell? ⟨w.heap.size, 0, none⟩ = some (.int .i64 4) ∧ wz.cell? ⟨w.heap.size, 1, none⟩ = some (.int .i64 (m : Int)) ∧ wz.cell? ⟨w.heap.size, 2, none⟩ = some (.int .i64 (q : Int))) ∧ (wz.cell? ⟨b, off + m, none⟩ = some (.int .i64 x) ∧ wz.cell? ⟨b, off + q, none⟩ = some (.int .i64 y)) ∧ Below w0.heap.size w0 wz)) (by kernel_rfl) ?_
    change wpAnyH _ _ _ _ _ _ _ _ (World.drew _)
    have hHeld := SN1 ⟨⟨c0, c1, c2⟩, ⟨k0, k1⟩, Below.refl w0.heap.size w0⟩
    refine' wpAnyH_take (i := 0) (v := _) rfl (by kernel_rfl) (by kernel_rfl) (by kernel_rfl) (fun _ _ _ h => h) (Or.inl ⟨by rfl, ?hy14⟩) hHeld ?hn14
    case hy14 => (intro wz hSw; (try dsimp only at hSw); go_simp; first | done | with_reducible rfl)
    try simp only [List.getElem_toArray, List.getElem_cons_zero, List.getElem_cons_succ, Act.put, List.setIfInBounds_toArray, List.set_cons_zero, List.set_cons_succ]
    refine' wpAnyH_take (i := 1) (v := _) rfl (by kernel_rfl) (by kernel_rfl) (by kernel_rfl) (fun _ _ _ h => h) (Or.inl ⟨by rfl, ?hy15⟩) hHeld ?hn15
    case hy15 => (intro wz hSw; (try dsimp only at hSw); go_simp; first | done | with_reducible rfl)
    try simp only [List.getElem_toArray, List.getElem_cons_zero, List.getElem_cons_succ, Act.put, List.setIfInBounds_toArray, List.set_cons_zero, List.set_cons_succ]
    refine' wpAnyH_take (i := 2) (v := _) rfl (by kernel_rfl) (by kernel_rfl) (by kernel_rfl) (fun _ _ _ h => h) (Or.inl ⟨by rfl, ?hy16⟩) hHeld ?hn16
    case hy16 => (intro wz hSw; (try dsimp only at hSw); go_simp; first | done | with_reducible rfl)
    try simp only [List.getElem_toArray, List.getElem_cons_zero, List.getElem_cons_succ, Act.put, List.setIfInBounds_toArray, List.set_cons_zero, List.set_cons_succ]
    refine' wpAnyH_take (i := 3) (v := _) rfl (by kernel_rfl) (by kernel_rfl) (by kernel_rfl) (fun _ _ _ h => h) (Or.inl ⟨by rfl, ?hy17⟩) hHeld ?hn17
    case hy17 => (intro wz hSw; (try dsimp only at hSw); go_simp; first | done | with_reducible rfl)
    try simp only [List.getElem_toArray, List.getElem_cons_zero, List.getElem_cons_succ, Act.put, List.setIfInBounds_toArray, List.set_cons_zero, List.set_cons_succ]
    refine' wpAnyH_take (i := 4) (v := _) rfl (by kernel_rfl) (by kernel_rfl) (by kernel_rfl) (fun _ _ _ h => h) (Or.inl ⟨by rfl, ?hy18⟩) hHeld ?hn18
    case hy18 => (intro wz hSw; (try dsimp only at hSw); go_simp; first | done | with_reducible rfl)
    try simp only [List.getElem_toArray, List.getElem_cons_zero, List.getElem_cons_succ, Act.put, List.setIfInBounds_toArray, List.set_cons_zero, List.set_cons_succ]
    refine' wpAnyH_take (i := 5) (v := _) rfl (by kernel_rfl) (by kernel_rfl) (by kernel_rfl) (fun _ _ _ h => h) (Or.inl ⟨by rfl, ?hy19⟩) hHeld ?hn19
    case hy19 => (intro wz hSw; (try dsimp only at hSw); go_simp; first | done | with_reducible rfl)
    try simp only [List.getElem_toArray, List.getElem_cons_zero, List.getElem_cons_succ, Act.put, List.setIfInBounds_toArray, List.set_cons_zero, List.set_cons_succ]
    refine' wpAnyH_take (i := 6) (v := _) rfl (by kernel_rfl) (by kernel_rfl) (by kernel_rfl) (fun _ _ _ h => h) (Or.inl ⟨by rfl, ?hy20⟩) hHeld ?hn20
    case hy20 => (intro wz hSw; (try dsimp only at hSw); go_simp; first | done | with_reducible rfl)
    try simp only [List.getElem_toArray, List.getElem_cons_zero, List.getElem_cons_succ, Act.put, List.setIfInBounds_toArray, List.set_cons_zero, List.set_cons_succ]
    refine' wpAnyH_take (i := 7) (v := _) rfl (by kernel_rfl) (by kernel_rfl) (by kernel_rfl) (fun _ _ _ h => h) (Or.inl ⟨by rfl, ?hy21⟩) hHeld ?hn21
    case hy21 => (intro wz hSw; (try dsimp only at hSw); go_simp; first | done | with_reducible rfl)
    try simp only [List.getElem_toArray, List.getElem_cons_zero, List.getElem_cons_succ, Act.put, List.setIfInBounds_toArray, List.set_cons_zero, List.set_cons_succ]
    refine' wpAnyH_take (i := 8) (v := _) rfl (by kernel_rfl) (by kernel_rfl) (by kernel_rfl) (fun _ _ _ h => h) (Or.inl ⟨by rfl, ?hy22⟩) hHeld ?hn22
    case hy22 => (intro wz hSw; (try dsimp only at hSw); go_simp; first | done | with_reducible rfl)
    try simp only [List.getElem_toArray, List.getElem_cons_zero, List.getElem_cons_succ, Act.put, List.setIfInBounds_toArray, List.set_cons_zero, List.set_cons_succ]
    refine' wpAnyH_take (i := 9) (v := _) rfl (by kernel_rfl) (by kernel_rfl) (by kernel_rfl) (fun _ _ _ h => h) (Or.inl ⟨by rfl, ?hy23⟩) hHeld ?hn23
    case hy23 => (intro wz hSw; (try dsimp only at hSw); go_simp; first | done | with_reducible rfl)
    try simp only [List.getElem_toArray, List.getElem_cons_zero, List.getElem_cons_succ, Act.put, List.setIfInBounds_toArray, List.set_cons_zero, List.set_cons_succ]
    refine' wpAnyH_take (i := 10) (v := _) rfl (by kernel_rfl) (by kernel_rfl) (by kernel_rfl) (fun _ _ _ h => h) (Or.inl ⟨by rfl, ?hy24⟩) hHeld ?hn24
    case hy24 => (intro wz hSw; (try dsimp only at hSw); go_simp; first | done | with_reducible rfl)
    try simp only [List.getElem_toArray, List.getElem_cons_zero, List.getElem_cons_succ, Act.put, List.setIfInBounds_toArray, List.set_cons_zero, List.set_cons_succ]
    refine wpAnyH_done (by kernel_rfl) ?_ _
    obtain ⟨_, _, hB9⟩ := hHeld
    by_cases hxy : x = y
    · have HE' : Hid (numV 4 m q ns = 1) := (show numV 4 m q ns = 1 by rw [HE.out, if_pos hxy])
      go_wp2
      go_ret
      exact ⟨by rw [HE'.out]; rfl, Below.then A hB9 A.size⟩
    · have HE' : Hid (numV 4 m q ns = 0) := (show numV 4 m q ns = 0 by rw [HE.out, if_neg hxy])
      go_wp2
      go_ret
      exact ⟨by rw [HE'.out]; rfl, Below.then A hB9 A.size⟩

end Go.Proofs.Ytpcmhkcahajdgaa

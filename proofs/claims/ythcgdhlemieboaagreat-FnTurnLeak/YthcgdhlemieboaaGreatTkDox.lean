/- What steps do: to numbers, to what was set, to what was told; as the model does them. -/
import Derived.Test.YthcgdhlemieboaaGreatTkNok
import Derived.Test.YthcgdhlemieboaaGreatTkRtx
import Derived.Laws.OwnMore
import Derived.Maps.AppendAt
namespace Go.Proofs.YthcgdhlemieboaaGreat
open Go.RowKit
set_option linter.unusedSimpArgs false
set_option linter.unusedVariables false
attribute [local go_sem] World.cell?_alloc_some

structure RSt where
  n : List Int
  ws : List (Int × Int)
  ss : List (Int × Int)
def numV (vk va vb : Int) (ns : List Int) : Int := if vk = 1 then va else if vk = 2 then ns.getD va.toNat 0 else if vk = 3 then Int.tmod (ns.getD va.toNat 0 + ns.getD vb.toNat 0) 10 else if ns.getD va.toNat 0 = ns.getD vb.toNat 0 then 1 else 0
def stepS {α : Type} (f : α → RSt → RSt) (x : Pay × α × α) (s : RSt) : RSt :=
  if x.1.k = 1 then ⟨s.n.set x.1.v.toNat (numV x.1.vk x.1.va x.1.vb s.n), s.ws ++ [(x.1.v, numV x.1.vk x.1.va x.1.vb s.n)], s.ss⟩
  else if x.1.k = 3 then ⟨s.n, s.ws, s.ss ++ [(x.1.h, s.n.getD x.1.v.toNat 0)]⟩
  else if s.n.getD x.1.v.toNat 0 ≠ 0 then f x.2.1 s else f x.2.2 s
def doT : (d : Nat) → Tr d → RSt → RSt
  | 0, _, s => s
  | d + 1, (l : List (Pay × Tr d × Tr d)), s => l.foldl (fun s x => stepS (doT d) x s) s
theorem doT_take {d : Nat} (l : List (Pay × Tr d × Tr d)) (i : Nat) (hi : i < l.length) (s : RSt) : doT (d + 1) (l.take (i + 1) : List (Pay × Tr d × Tr d)) s = stepS (doT d) l[i] (doT (d + 1) (l.take i : List (Pay × Tr d × Tr d)) s) := by
  show List.foldl _ s (l.take (i + 1)) = stepS (doT d) l[i] (List.foldl _ s (l.take i))
  rw [List.take_succ_eq_append_getElem hi, List.foldl_append]; rfl
theorem ten_get (ns : List Int) (m : Nat) (hm : m < ns.length) (ht : tenB ns = true) : 0 ≤ ns[m] ∧ ns[m] < 10 := by
  have := List.all_eq_true.1 ht ns[m] (List.getElem_mem hm)
  simpa [vIn] using this
theorem ten_set (ns : List Int) (m : Nat) (x : Int) (ht : tenB ns = true) (hx : 0 ≤ x ∧ x < 10) : tenB (ns.set m x) = true := by
  refine List.all_eq_true.2 fun y hy => ?_
  rcases List.mem_or_eq_of_mem_set hy with h | h
  · exact List.all_eq_true.1 ht y h
  · subst h; simpa [vIn] using hx
theorem numV_ten {ns : List Int} {vk va vb : Int} (hv : valB ns.length vk va vb = true) (ht : tenB ns = true) : 0 ≤ numV vk va vb ns ∧ numV vk va vb ns < 10 := by
  have hg : ∀ z : Int, 0 ≤ z → z < ns.length → 0 ≤ ns.getD z.toNat 0 ∧ ns.getD z.toNat 0 < 10 := fun z h0 h1 => by
    have hm : z.toNat < ns.length := by omega
    have := ten_get ns z.toNat hm ht
    simpa [hm] using this
  unfold valB at hv
  unfold numV
  split at hv
  · rw [if_pos ‹_›]; simpa [vIn] using (Bool.and_eq_true_iff.1 hv).1
  · rw [if_neg ‹_›]
    split at hv
    · rw [if_pos ‹_›]
      have := (Bool.and_eq_true_iff.1 hv).1
      simp [vIn] at this
      exact hg va this.1 this.2
    · rw [if_neg ‹_›]
      split at hv
      · obtain ⟨h1, h2⟩ := Bool.and_eq_true_iff.1 hv
        simp [vIn] at h1 h2
        have g1 := hg va h1.1 h1.2
        have g2 := hg vb h2.1 h2.2
        split
        · rw [Int.tmod_eq_emod_of_nonneg (by omega)]; omega
        · split <;> omega
      · cases hv

theorem SN1 {w wz : World} {a1 a2 a3 a4 a5 : Addr} {v1 v2 v3 v4 v5 : Value} (h : (wz.cell? a1 = some v1 ∧ wz.cell? a2 = some v2 ∧ wz.cell? a3 = some v3) ∧ (wz.cell? a4 = some v4 ∧ wz.cell? a5 = some v5) ∧ Below w.heap.size w wz) : (wz.drew.cell? a1 = some v1 ∧ wz.drew.cell? a2 = some v2 ∧ wz.drew.cell? a3 = some v3) ∧ (wz.drew.cell? a4 = some v4 ∧ wz.drew.cell? a5 = some v5) ∧ Below w.heap.size w wz.drew := ⟨h.1, h.2.1, h.2.2.drew⟩

set_option maxHeartbeats 2000000 in
theorem l3Num_any {nv : Value} {ns : List Int} (vk va vb : Int) {w : World} (hN : GRep (Value.int .i64) w nv ns) (hv : valB ns.length vk va vb = true) (ht : tenB ns = true) :
    Calls Tryz.prog 80 #[.agg #[.int .i64 vk, .int .i64 va, .int .i64 vb], nv] w fun e w' => e = .returned (.int .i64 (numV vk va vb ns)) ∧ Below w.heap.size w w' := by
  obtain ⟨na, nc, rfl, hlc, hcm, hcell⟩ := hN
  have hlm : (ns.length : Int) ≤ 9223372036854775807 := by unfold maxLen at hcm; omega
  have G := C3.new w (.int .i64 vk) (.int .i64 va) (.int .i64 vb) 64
  have A : Below w.heap.size w (w.alloc (.cells #[.int .i64 vk, .int .i64 va, .int .i64 vb] 64)) := (Below.refl _ _).alloc (Nat.le_refl _) _
  generalize hW0 : w.alloc (.cells #[.int .i64 vk, .int .i64 va, .int .i64 vb] 64) = w0 at G A
  have HW0 : Hid _ := hW0
  obtain ⟨⟨c0, c1, c2⟩, -⟩ := G
  clear hW0
  have hk4 : vk = 1 ∨ vk = 2 ∨ vk = 3 ∨ vk = 4 := by
    unfold valB at hv
    split at hv
    · exact .inl ‹_›
    · split at hv
      · exact .inr (.inl ‹_›)
      · split at hv
        · exact .inr (.inr ‹_›)
        · cases hv
  rcases hk4 with hk | hk | hk | hk
  · subst hk
    have HE : Hid (numV 1 va vb ns = va) := (show numV 1 va vb ns = va by simp [numV])
    go_enter Tryz.func80, Tryz.ntmps80
    go_wp2
    rw [HW0.out]
    go_ret
    exact ⟨by rw [HE.out]; rfl, A⟩
  · subst hk
    have hv' : vIn ns.length va = true := by simp [valB] at hv; exact hv.1
    obtain ⟨h1, h2⟩ : 0 ≤ va ∧ va < ns.length := by simpa [vIn] using hv'
    obtain ⟨m, rfl⟩ := Int.eq_ofNat_of_zero_le h1
    have hm : m < ns.length := by omega
    obtain ⟨b, off, rfl, k0⟩ := hcell m hm
    have HE : Hid (numV 2 m vb ns = ns[m]) := (show numV 2 m vb ns = ns[m] by simp [numV, hm])
    clear hv hv' ht hcell
    generalize ns[m] = x at *
    go_enter Tryz.func80, Tryz.ntmps80
    go_wp2
    rw [HW0.out]
    go_ret
    exact ⟨by rw [HE.out]; rfl, A⟩
  · subst hk
    have hv' : (vIn ns.length va && vIn ns.length vb) = true := by simpa [valB] using hv
    obtain ⟨h1, h2⟩ : (0 ≤ va ∧ va < ns.length) ∧ (0 ≤ vb ∧ vb < ns.length) := by simpa [vIn] using hv'
    obtain ⟨m, rfl⟩ := Int.eq_ofNat_of_zero_le h1.1
    obtain ⟨q, rfl⟩ := Int.eq_ofNat_of_zero_le h2.1
    have hm : m < ns.length := by omega
    have hq : q < ns.length := by omega
    obtain ⟨b, off, ha, k0⟩ := hcell m hm
    obtain ⟨b', off', ha', k1⟩ := hcell q hq
    rw [ha] at ha'
    cases ha'
    subst ha
    replace k0 := cell_later A k0
    replace k1 := cell_later A k1
    have t1 := ten_get ns m hm ht
    have t2 := ten_get ns q hq ht
    have e1 : ns.getD m 0 = ns[m] := by simp [hm]
    have e2 : ns.getD q 0 = ns[q] := by simp [hq]
    have HE : Hid (numV 3 m q ns = Int.tmod (ns[m] + ns[q]) 10) := (show numV 3 m q ns = Int.tmod (ns[m] + ns[q]) 10 by simp [numV, hm, hq])
    clear e1 e2 hv hv' ht hcell
    generalize ns[m] = x at *
    generalize ns[q] = y at *
    have v1 := w64 (x + y) (by omega)
    have v2 := w64 (Int.tmod (x + y) 10) (by rw [Int.tmod_eq_emod_of_nonneg (by omega)]; omega)
    go_enter Tryz.func80, Tryz.ntmps80
    go_wp2_with fail
    rw [HW0.out]
    refine wp_region_held (S := (fun wz => (wz.cell? ⟨w.heap.size, 0, none⟩ = some (.int .i64 3) ∧ wz.cell? ⟨w.heap.size, 1, none⟩ = some (.int .i64 (m : Int)) ∧ wz.cell? ⟨w.heap.size, 2, none⟩ = some (.int .i64 (q : Int))) ∧ (wz.cell? ⟨b, off + m, none⟩ = some (.int .i64 x) ∧ wz.cell? ⟨b, off + q, none⟩ = some (.int .i64 y)) ∧ Below w0.heap.size w0 wz)) (by kernel_rfl) ?_
    change wpAnyH _ _ _ _ _ _ _ _ (World.drew _)
    have hHeld := SN1 ⟨⟨c0, c1, c2⟩, ⟨k0, k1⟩, Below.refl w0.heap.size w0⟩
    refine' wpAnyH_take (i := 0) (v := _) rfl (by kernel_rfl) (by kernel_rfl) (by kernel_rfl) (fun _ _ _ h => h) (Or.inl ⟨by rfl, ?hy1⟩) hHeld ?hn1
    case hy1 => (intro wz hSw; (try dsimp only at hSw); go_simp; first | done | with_reducible rfl)
    try simp only [nrm, Act.put]
    refine' wpAnyH_take (i := 1) (v := _) rfl (by kernel_rfl) (by kernel_rfl) (by kernel_rfl) (fun _ _ _ h => h) (Or.inl ⟨by rfl, ?hy2⟩) hHeld ?hn2
    case hy2 => (intro wz hSw; (try dsimp only at hSw); go_simp; first | done | with_reducible rfl)
    try simp only [nrm, Act.put]
    refine' wpAnyH_take (i := 2) (v := _) rfl (by kernel_rfl) (by kernel_rfl) (by kernel_rfl) (fun _ _ _ h => h) (Or.inl ⟨by rfl, ?hy3⟩) hHeld ?hn3
    case hy3 => (intro wz hSw; (try dsimp only at hSw); go_simp; first | done | with_reducible rfl)
    try simp only [nrm, Act.put]
    refine' wpAnyH_take (i := 3) (v := _) rfl (by kernel_rfl) (by kernel_rfl) (by kernel_rfl) (fun _ _ _ h => h) (Or.inl ⟨by rfl, ?hy4⟩) hHeld ?hn4
    case hy4 => (intro wz hSw; (try dsimp only at hSw); go_simp; first | done | with_reducible rfl)
    try simp only [nrm, Act.put]
    refine' wpAnyH_take (i := 4) (v := _) rfl (by kernel_rfl) (by kernel_rfl) (by kernel_rfl) (fun _ _ _ h => h) (Or.inl ⟨by rfl, ?hy5⟩) hHeld ?hn5
    case hy5 => (intro wz hSw; (try dsimp only at hSw); go_simp; first | done | with_reducible rfl)
    try simp only [nrm, Act.put]
    refine' wpAnyH_take (i := 5) (v := _) rfl (by kernel_rfl) (by kernel_rfl) (by kernel_rfl) (fun _ _ _ h => h) (Or.inl ⟨by rfl, ?hy6⟩) hHeld ?hn6
    case hy6 => (intro wz hSw; (try dsimp only at hSw); go_simp; first | done | with_reducible rfl)
    try simp only [nrm, Act.put]
    refine' wpAnyH_take (i := 6) (v := _) rfl (by kernel_rfl) (by kernel_rfl) (by kernel_rfl) (fun _ _ _ h => h) (Or.inl ⟨by rfl, ?hy7⟩) hHeld ?hn7
    case hy7 => (intro wz hSw; (try dsimp only at hSw); go_simp; first | done | with_reducible rfl)
    try simp only [nrm, Act.put]
    refine' wpAnyH_take (i := 7) (v := _) rfl (by kernel_rfl) (by kernel_rfl) (by kernel_rfl) (fun _ _ _ h => h) (Or.inl ⟨by rfl, ?hy8⟩) hHeld ?hn8
    case hy8 => (intro wz hSw; (try dsimp only at hSw); go_simp; first | done | with_reducible rfl)
    try simp only [nrm, Act.put]
    refine' wpAnyH_take (i := 8) (v := _) rfl (by kernel_rfl) (by kernel_rfl) (by kernel_rfl) (fun _ _ _ h => h) (Or.inl ⟨by rfl, ?hy9⟩) hHeld ?hn9
    case hy9 => (intro wz hSw; (try dsimp only at hSw); go_simp; first | done | with_reducible rfl)
    try simp only [nrm, Act.put]
    refine' wpAnyH_take (i := 9) (v := _) rfl (by kernel_rfl) (by kernel_rfl) (by kernel_rfl) (fun _ _ _ h => h) (Or.inl ⟨by rfl, ?hy10⟩) hHeld ?hn10
    case hy10 => (intro wz hSw; (try dsimp only at hSw); go_simp; first | done | with_reducible rfl)
    try simp only [nrm, Act.put]
    refine' wpAnyH_take (i := 10) (v := _) rfl (by kernel_rfl) (by kernel_rfl) (by kernel_rfl) (fun _ _ _ h => h) (Or.inl ⟨by rfl, ?hy11⟩) hHeld ?hn11
    case hy11 => (intro wz hSw; (try dsimp only at hSw); go_simp; first | done | with_reducible rfl)
    try simp only [nrm, Act.put]
    refine' wpAnyH_take (i := 11) (v := _) rfl (by kernel_rfl) (by kernel_rfl) (by kernel_rfl) (fun _ _ _ h => h) (Or.inl ⟨by rfl, ?hy12⟩) hHeld ?hn12
    case hy12 => (intro wz hSw; (try dsimp only at hSw); go_simp; first | done | with_reducible rfl)
    try simp only [nrm, Act.put]
    refine' wpAnyH_take (i := 12) (v := _) rfl (by kernel_rfl) (by kernel_rfl) (by kernel_rfl) (fun _ _ _ h => h) (Or.inl ⟨by rfl, ?hy13⟩) hHeld ?hn13
    case hy13 => (intro wz hSw; (try dsimp only at hSw); go_simp; first | done | with_reducible rfl)
    try simp only [nrm, Act.put]
    refine wpAnyH_done (by kernel_rfl) ?_ _
    obtain ⟨_, _, hB9⟩ := hHeld
    go_wp2
    go_ret
    exact ⟨by rw [HE.out]; rfl, Below.then A hB9 A.size⟩
  · subst hk
    have hv' : (vIn ns.length va && vIn ns.length vb) = true := by simpa [valB] using hv
    obtain ⟨h1, h2⟩ : (0 ≤ va ∧ va < ns.length) ∧ (0 ≤ vb ∧ vb < ns.length) := by simpa [vIn] using hv'
    obtain ⟨m, rfl⟩ := Int.eq_ofNat_of_zero_le h1.1
    obtain ⟨q, rfl⟩ := Int.eq_ofNat_of_zero_le h2.1
    have hm : m < ns.length := by omega
    have hq : q < ns.length := by omega
    obtain ⟨b, off, ha, k0⟩ := hcell m hm
    obtain ⟨b', off', ha', k1⟩ := hcell q hq
    rw [ha] at ha'
    cases ha'
    subst ha
    replace k0 := cell_later A k0
    replace k1 := cell_later A k1
    have t1 := ten_get ns m hm ht
    have t2 := ten_get ns q hq ht
    have e1 : ns.getD m 0 = ns[m] := by simp [hm]
    have e2 : ns.getD q 0 = ns[q] := by simp [hq]
    have HE : Hid (numV 4 m q ns = (if ns[m] = ns[q] then 1 else 0)) := (show numV 4 m q ns = (if ns[m] = ns[q] then 1 else 0) by simp [numV, hm, hq])
    clear e1 e2 hv hv' ht hcell
    generalize ns[m] = x at *
    generalize ns[q] = y at *
    go_enter Tryz.func80, Tryz.ntmps80
    go_wp2_with fail
    rw [HW0.out]
    refine wp_region_held (S := (fun wz => (wz.cell? ⟨w.heap.size, 0, none⟩ = some (.int .i64 4) ∧ wz.cell? ⟨w.heap.size, 1, none⟩ = some (.int .i64 (m : Int)) ∧ wz.cell? ⟨w.heap.size, 2, none⟩ = some (.int .i64 (q : Int))) ∧ (wz.cell? ⟨b, off + m, none⟩ = some (.int .i64 x) ∧ wz.cell? ⟨b, off + q, none⟩ = some (.int .i64 y)) ∧ Below w0.heap.size w0 wz)) (by kernel_rfl) ?_
    change wpAnyH _ _ _ _ _ _ _ _ (World.drew _)
    have hHeld := SN1 ⟨⟨c0, c1, c2⟩, ⟨k0, k1⟩, Below.refl w0.heap.size w0⟩
    refine' wpAnyH_take (i := 0) (v := _) rfl (by kernel_rfl) (by kernel_rfl) (by kernel_rfl) (fun _ _ _ h => h) (Or.inl ⟨by rfl, ?hy14⟩) hHeld ?hn14
    case hy14 => (intro wz hSw; (try dsimp only at hSw); go_simp; first | done | with_reducible rfl)
    try simp only [nrm, Act.put]
    refine' wpAnyH_take (i := 1) (v := _) rfl (by kernel_rfl) (by kernel_rfl) (by kernel_rfl) (fun _ _ _ h => h) (Or.inl ⟨by rfl, ?hy15⟩) hHeld ?hn15
    case hy15 => (intro wz hSw; (try dsimp only at hSw); go_simp; first | done | with_reducible rfl)
    try simp only [nrm, Act.put]
    refine' wpAnyH_take (i := 2) (v := _) rfl (by kernel_rfl) (by kernel_rfl) (by kernel_rfl) (fun _ _ _ h => h) (Or.inl ⟨by rfl, ?hy16⟩) hHeld ?hn16
    case hy16 => (intro wz hSw; (try dsimp only at hSw); go_simp; first | done | with_reducible rfl)
    try simp only [nrm, Act.put]
    refine' wpAnyH_take (i := 3) (v := _) rfl (by kernel_rfl) (by kernel_rfl) (by kernel_rfl) (fun _ _ _ h => h) (Or.inl ⟨by rfl, ?hy17⟩) hHeld ?hn17
    case hy17 => (intro wz hSw; (try dsimp only at hSw); go_simp; first | done | with_reducible rfl)
    try simp only [nrm, Act.put]
    refine' wpAnyH_take (i := 4) (v := _) rfl (by kernel_rfl) (by kernel_rfl) (by kernel_rfl) (fun _ _ _ h => h) (Or.inl ⟨by rfl, ?hy18⟩) hHeld ?hn18
    case hy18 => (intro wz hSw; (try dsimp only at hSw); go_simp; first | done | with_reducible rfl)
    try simp only [nrm, Act.put]
    refine' wpAnyH_take (i := 5) (v := _) rfl (by kernel_rfl) (by kernel_rfl) (by kernel_rfl) (fun _ _ _ h => h) (Or.inl ⟨by rfl, ?hy19⟩) hHeld ?hn19
    case hy19 => (intro wz hSw; (try dsimp only at hSw); go_simp; first | done | with_reducible rfl)
    try simp only [nrm, Act.put]
    refine' wpAnyH_take (i := 6) (v := _) rfl (by kernel_rfl) (by kernel_rfl) (by kernel_rfl) (fun _ _ _ h => h) (Or.inl ⟨by rfl, ?hy20⟩) hHeld ?hn20
    case hy20 => (intro wz hSw; (try dsimp only at hSw); go_simp; first | done | with_reducible rfl)
    try simp only [nrm, Act.put]
    refine' wpAnyH_take (i := 7) (v := _) rfl (by kernel_rfl) (by kernel_rfl) (by kernel_rfl) (fun _ _ _ h => h) (Or.inl ⟨by rfl, ?hy21⟩) hHeld ?hn21
    case hy21 => (intro wz hSw; (try dsimp only at hSw); go_simp; first | done | with_reducible rfl)
    try simp only [nrm, Act.put]
    refine' wpAnyH_take (i := 8) (v := _) rfl (by kernel_rfl) (by kernel_rfl) (by kernel_rfl) (fun _ _ _ h => h) (Or.inl ⟨by rfl, ?hy22⟩) hHeld ?hn22
    case hy22 => (intro wz hSw; (try dsimp only at hSw); go_simp; first | done | with_reducible rfl)
    try simp only [nrm, Act.put]
    refine' wpAnyH_take (i := 9) (v := _) rfl (by kernel_rfl) (by kernel_rfl) (by kernel_rfl) (fun _ _ _ h => h) (Or.inl ⟨by rfl, ?hy23⟩) hHeld ?hn23
    case hy23 => (intro wz hSw; (try dsimp only at hSw); go_simp; first | done | with_reducible rfl)
    try simp only [nrm, Act.put]
    refine' wpAnyH_take (i := 10) (v := _) rfl (by kernel_rfl) (by kernel_rfl) (by kernel_rfl) (fun _ _ _ h => h) (Or.inl ⟨by rfl, ?hy24⟩) hHeld ?hn24
    case hy24 => (intro wz hSw; (try dsimp only at hSw); go_simp; first | done | with_reducible rfl)
    try simp only [nrm, Act.put]
    refine wpAnyH_done (by kernel_rfl) ?_ _
    obtain ⟨_, _, hB9⟩ := hHeld
    by_cases hxy : x = y
    · have HE' : Hid (numV 4 m q ns = 1) := (show numV 4 m q ns = 1 by rw [HE.out, if_pos hxy])
      go_wp2
      go_ret
      exact ⟨by rw [HE'.out]; rfl, Below.then A hB9 A.size⟩
    · have HE' : Hid (numV 4 m q ns = 0) := (show numV 4 m q ns = 0 by rw [HE.out, if_neg hxy])
      go_wp2
      go_ret
      exact ⟨by rw [HE'.out]; rfl, Below.then A hB9 A.size⟩

end Go.Proofs.YthcgdhlemieboaaGreat

namespace Go.Proofs.YthcgdhlemieboaaGreat
open Go.RowKit
set_option linter.unusedSimpArgs false
set_option linter.unusedVariables false

def Nx (N : Nat) (v v' : Value) : Prop := v'.ownBlock = v.ownBlock ∨ ∀ b, v'.ownBlock = some b → N ≤ b
theorem Nx.refl (N : Nat) (v : Value) : Nx N v v := .inl rfl
theorem Nx.mono {N M : Nat} {v v' : Value} (h : Nx N v v') (hM : M ≤ N) : Nx M v v' := h.imp id (fun k b hb => Nat.le_trans hM (k b hb))
theorem Nx.trans {N M : Nat} {v v1 v2 : Value} (h : Nx N v v1) (k : Nx M v1 v2) (hNM : N ≤ M) : Nx N v v2 := by
  rcases k with k | k
  · rcases h with h | h
    · exact .inl (k.trans h)
    · exact .inr fun b hb => h b (k ▸ hb)
  · exact .inr fun b hb => Nat.le_trans hNM (k b hb)
theorem Nx.ne {N : Nat} {v v' : Value} (h : Nx N v v') {b : Nat} (h1 : v.ownBlock ≠ some b) (h2 : b < N) : v'.ownBlock ≠ some b := by
  rcases h with h | h
  · rw [h]; exact h1
  · intro e; have := h b e; omega
structure Kx (nv wv sv : Value) (w w' : World) : Prop where
  os : w'.os = w.os
  tape : w'.tape = w.tape
  output : w'.output = w.output
  size : w.heap.size ≤ w'.heap.size
  block : ∀ b, b < w.heap.size → nv.ownBlock ≠ some b → wv.ownBlock ≠ some b → sv.ownBlock ≠ some b → w'.heap[b]? = w.heap[b]?
theorem Kx.of {nv wv sv : Value} {w w' : World} (h : Below w.heap.size w w') : Kx nv wv sv w w' := ⟨h.os, h.tape, h.output, h.size, fun b hb _ _ _ => h.block b hb⟩
theorem Kx.more {nv wv sv : Value} {w w1 w2 : World} (h : Kx nv wv sv w w1) (o : w2.os = w1.os) (t : w2.tape = w1.tape) (p : w2.output = w1.output) (z : w1.heap.size ≤ w2.heap.size)
    (k : ∀ b, b < w.heap.size → nv.ownBlock ≠ some b → wv.ownBlock ≠ some b → sv.ownBlock ≠ some b → w2.heap[b]? = w1.heap[b]?) : Kx nv wv sv w w2 :=
  ⟨o.trans h.os, t.trans h.tape, p.trans h.output, Nat.le_trans h.size z, fun b hb a1 a2 a3 => (k b hb a1 a2 a3).trans (h.block b hb a1 a2 a3)⟩
theorem Kx.trans {N : Nat} {nv wv sv wv1 sv1 : Value} {w w1 w2 : World} (h : Kx nv wv sv w w1) (k : Kx nv wv1 sv1 w1 w2) (hw : Nx N wv wv1) (hs : Nx N sv sv1) (hN : w.heap.size ≤ N) : Kx nv wv sv w w2 :=
  h.more k.os k.tape k.output k.size (fun b hb a1 a2 a3 => k.block b (Nat.lt_of_lt_of_le hb h.size) a1 (hw.ne a2 (by omega)) (hs.ne a3 (by omega)))
theorem Kx.set {nv wv sv : Value} {w w1 : World} (h : Kx nv wv sv w w1) (a : Addr) (u : Value) (ha : w.heap.size ≤ a.block ∨ nv.ownBlock = some a.block) : Kx nv wv sv w (w1.setCell a u) :=
  h.more rfl rfl rfl (by simp [World.setCell]) (fun b hb a1 _ _ => Below.heap_setCell _ _ _ _ (fun e => by
    subst e
    rcases ha with ha | ha
    · omega
    · exact a1 ha))
theorem Kx.grow {N : Nat} {nv wv sv v1 : Value} {w w1 w2 : World} (h : Kx nv wv sv w w1) (hg : w1.grownBy w2 v1.ownBlock) (hv : Nx N wv v1 ∨ Nx N sv v1) (hN : w.heap.size ≤ N) : Kx nv wv sv w w2 :=
  h.more hg.os hg.tape hg.output hg.size (fun b hb _ a2 a3 => hg.block b (Nat.lt_of_lt_of_le hb h.size) (fun e => by
    rcases hv with hv | hv
    · exact hv.ne a2 (show b < N by omega) e.symm
    · exact hv.ne a3 (show b < N by omega) e.symm))
theorem Kx.below {B : Nat} {nv wv sv : Value} {w w' : World} (h : Kx nv wv sv w w') (hn : ∀ b, nv.ownBlock = some b → B ≤ b) (hw : ∀ b, wv.ownBlock = some b → B ≤ b) (hs : ∀ b, sv.ownBlock = some b → B ≤ b) (hB : B ≤ w.heap.size) : Below B w w' :=
  ⟨h.os, h.tape, h.output, h.size, fun b hb => h.block b (by omega) (fun e => by have := hn b e; omega) (fun e => by have := hw b e; omega) (fun e => by have := hs b e; omega)⟩
theorem rowg_frame {w w' : World} {base : Nat} {e : TypeId} {sz : Nat} {v : Value} {n : Nat} {xs : List Value} (h : w.ownsRow base e sz v n xs) (hb : ∀ b, v.ownBlock = some b → w'.heap[b]? = w.heap[b]?) : w'.ownsRow base e sz v n xs := by
  obtain ⟨h0, h1 | ⟨g, cap, cur, hv, hg, hh, r⟩⟩ := h
  · exact ⟨h0, .inl h1⟩
  · exact ⟨h0, .inr ⟨g, cap, cur, hv, hg, (hb g (by rw [hv]; rfl)).trans hh, r⟩⟩
structure R3 (B : Nat) (w : World) (nv wv sv : Value) (s : RSt) : Prop where
  n : w.ownsRow B 3 1 nv s.n.length (s.n.map (Value.int .i64))
  ws : w.ownsRow B 107 2 wv s.ws.length (pcells s.ws)
  ss : w.ownsRow B 93 2 sv s.ss.length (pcells s.ss)
  nw : ∀ b, nv.ownBlock = some b → wv.ownBlock ≠ some b
  ns : ∀ b, nv.ownBlock = some b → sv.ownBlock ≠ some b
  sw : ∀ b, wv.ownBlock = some b → sv.ownBlock ≠ some b
theorem R3.frame {B : Nat} {w w' : World} {nv wv sv : Value} {s : RSt} (h : R3 B w nv wv sv s) (hb : ∀ b, b < w.heap.size → (nv.ownBlock = some b ∨ wv.ownBlock = some b ∨ sv.ownBlock = some b) → w'.heap[b]? = w.heap[b]?) : R3 B w' nv wv sv s :=
  ⟨rowg_frame h.n (fun b e => hb b (World.ownsRow.lt h.n b e).2 (.inl e)), rowg_frame h.ws (fun b e => hb b (World.ownsRow.lt h.ws b e).2 (.inr (.inl e))), rowg_frame h.ss (fun b e => hb b (World.ownsRow.lt h.ss b e).2 (.inr (.inr e))), h.nw, h.ns, h.sw⟩
theorem R3.below {B : Nat} {w w' : World} {nv wv sv : Value} {s : RSt} (h : R3 B w nv wv sv s) (hb : Below w.heap.size w w') : R3 B w' nv wv sv s := h.frame (fun b hlt _ => hb.block b hlt)
theorem R3.far {B : Nat} {w : World} {nv wv sv : Value} {s : RSt} (h : R3 B w nv wv sv s) (a : Addr) (u : Value) (h0 : nv.ownBlock ≠ some a.block) (h1 : wv.ownBlock ≠ some a.block) (h2 : sv.ownBlock ≠ some a.block) : R3 B (w.setCell a u) nv wv sv s :=
  h.frame (fun b _ e => Below.heap_setCell _ _ _ _ (fun q => by subst q; rcases e with e | e | e; exact h0 e; exact h1 e; exact h2 e))
theorem R3.rep {B : Nat} {w : World} {nv wv sv : Value} {s : RSt} (h : R3 B w nv wv sv s) : GRep (Value.int .i64) w nv s.n := by
  obtain ⟨bs, h1, _⟩ := row_gown h.n
  exact h1.rep
theorem R3.set {B : Nat} {w : World} {g nc : Nat} {wv sv : Value} {s : RSt} (h : R3 B w (.slice (some ⟨g, 0, none⟩) s.n.length nc) wv sv s) (m : Nat) (x : Int) : R3 B (w.setCell ⟨g, m, none⟩ (.int .i64 x)) (.slice (some ⟨g, 0, none⟩) (s.n.set m x).length nc) wv sv ⟨s.n.set m x, s.ws, s.ss⟩ := by
  have hl : (s.n.set m x).length = s.n.length := by simp
  refine ⟨?_, rowg_frame h.ws (fun b e => Below.heap_setCell _ _ _ _ (fun q => by subst q; exact h.nw _ rfl e)), rowg_frame h.ss (fun b e => Below.heap_setCell _ _ _ _ (fun q => by subst q; exact h.ns _ rfl e)), h.nw, h.ns, h.sw⟩
  have := (World.ownsRow.stored h.n m (.int .i64 x)).1
  show (w.setCell ⟨g, m, none⟩ (.int .i64 x)).ownsRow B 3 1 (.slice (some ⟨g, 0, none⟩) (s.n.set m x).length nc) (s.n.set m x).length ((s.n.set m x).map (Value.int .i64))
  rw [List.map_set, hl]
  exact this
theorem R3.push {B : Nat} {w w' : World} {nv wv sv v' : Value} {s : RSt} {a : Int × Int} (h : R3 B w nv wv sv s) (ho : w'.ownsRow B 107 2 v' (s.ws.length + 1) (pcells s.ws ++ [.int .i64 a.1, .int .i64 a.2])) (hg : w.grownBy w' wv.ownBlock) (ha : v'.ownBlock = wv.ownBlock ∨ v'.ownBlock = some w.heap.size) : R3 B w' nv v' sv ⟨s.n, s.ws ++ [a], s.ss⟩ := by
  have hv : Nx w.heap.size wv v' := ha.imp id (fun k b hb => by rw [k] at hb; cases hb; exact Nat.le_refl _)
  refine ⟨rowg_frame h.n (fun b e => hg.block b (World.ownsRow.lt h.n b e).2 (fun q => h.nw b e q.symm)), ?_, rowg_frame h.ss (fun b e => hg.block b (World.ownsRow.lt h.ss b e).2 (fun q => h.sw b q.symm e)), fun b e => hv.ne (h.nw b e) (World.ownsRow.lt h.n b e).2, h.ns, fun b e q => ?_⟩
  · show w'.ownsRow B 107 2 v' (s.ws ++ [a]).length (pcells (s.ws ++ [a]))
    rw [pcells_app]; simpa using ho
  · have hlt := (World.ownsRow.lt h.ss b q).2
    exact hv.ne (fun e' => h.sw b e' q) hlt e
theorem R3.tell {B : Nat} {w w' : World} {nv wv sv v' : Value} {s : RSt} {a : Int × Int} (h : R3 B w nv wv sv s) (ho : w'.ownsRow B 93 2 v' (s.ss.length + 1) (pcells s.ss ++ [.int .i64 a.1, .int .i64 a.2])) (hg : w.grownBy w' sv.ownBlock) (ha : v'.ownBlock = sv.ownBlock ∨ v'.ownBlock = some w.heap.size) : R3 B w' nv wv v' ⟨s.n, s.ws, s.ss ++ [a]⟩ := by
  have hv : Nx w.heap.size sv v' := ha.imp id (fun k b hb => by rw [k] at hb; cases hb; exact Nat.le_refl _)
  refine ⟨rowg_frame h.n (fun b e => hg.block b (World.ownsRow.lt h.n b e).2 (fun q => h.ns b e q.symm)), rowg_frame h.ws (fun b e => hg.block b (World.ownsRow.lt h.ws b e).2 (fun q => h.sw b e q.symm)), ?_, h.nw, fun b e => hv.ne (h.ns b e) (World.ownsRow.lt h.n b e).2, fun b e => hv.ne (h.sw b e) (World.ownsRow.lt h.ws b e).2⟩
  show w'.ownsRow B 93 2 v' (s.ss ++ [a]).length (pcells (s.ss ++ [a]))
  rw [pcells_app]; simpa using ho

theorem stepS_ok {d : Nat} (x : Pay × Tr d × Tr d) (n : Nat) (s : RSt) (hp : payB n x.1 (decide (ln d x.2.1 + ln d x.2.2 = 0)) = true) (hl : s.n.length = n) (ht : tenB s.n = true)
    (f1 : (doT d x.2.1 s).n.length = n ∧ tenB (doT d x.2.1 s).n = true ∧ (doT d x.2.1 s).ws.length ≤ s.ws.length + cnt d x.2.1 ∧ (doT d x.2.1 s).ss.length ≤ s.ss.length + cnt d x.2.1)
    (f2 : (doT d x.2.2 s).n.length = n ∧ tenB (doT d x.2.2 s).n = true ∧ (doT d x.2.2 s).ws.length ≤ s.ws.length + cnt d x.2.2 ∧ (doT d x.2.2 s).ss.length ≤ s.ss.length + cnt d x.2.2) :
    (stepS (doT d) x s).n.length = n ∧ tenB (stepS (doT d) x s).n = true ∧ (stepS (doT d) x s).ws.length ≤ s.ws.length + (1 + cnt d x.2.1 + cnt d x.2.2) ∧ (stepS (doT d) x s).ss.length ≤ s.ss.length + (1 + cnt d x.2.1 + cnt d x.2.2) := by
  unfold stepS
  split
  · have hv : valB n x.1.vk x.1.va x.1.vb = true := by
      unfold payB at hp
      simp [‹x.1.k = 1›] at hp
      exact hp.2.1.1
    rw [← hl] at hv
    refine ⟨by simp [hl], ten_set _ _ _ ht (numV_ten hv ht), by simp <;> omega, by simp <;> omega⟩
  · split
    · exact ⟨hl, ht, by simp <;> omega, by simp <;> omega⟩
    · split
      · exact ⟨f1.1, f1.2.1, by omega, by omega⟩
      · exact ⟨f2.1, f2.2.1, by omega, by omega⟩
theorem doT_ok : ∀ (d : Nat) (T : Tr d) (n : Nat) (deep : Int) (s : RSt), stB n d deep T = true → s.n.length = n → tenB s.n = true →
    (doT d T s).n.length = n ∧ tenB (doT d T s).n = true ∧ (doT d T s).ws.length ≤ s.ws.length + cnt d T ∧ (doT d T s).ss.length ≤ s.ss.length + cnt d T
  | 0, _, _, _, s, _, hl, ht => ⟨hl, ht, by simp [doT], by simp [doT]⟩
  | d + 1, (l : List (Pay × Tr d × Tr d)), n, deep, s, hs, hl, ht => by
    show (l.foldl (fun s x => stepS (doT d) x s) s).n.length = n ∧ tenB (l.foldl (fun s x => stepS (doT d) x s) s).n = true ∧ (l.foldl (fun s x => stepS (doT d) x s) s).ws.length ≤ s.ws.length + (l.map fun x => 1 + cnt d x.2.1 + cnt d x.2.2).sum ∧ (l.foldl (fun s x => stepS (doT d) x s) s).ss.length ≤ s.ss.length + (l.map fun x => 1 + cnt d x.2.1 + cnt d x.2.2).sum
    have hs' : (l.all fun x => decide (1 ≤ deep) && payB n x.1 (decide (ln d x.2.1 + ln d x.2.2 = 0)) && (stB n d (deep - 1) x.2.1 && stB n d (deep - 1) x.2.2)) = true := hs
    clear hs
    induction l generalizing s with
    | nil => exact ⟨hl, ht, by simp, by simp⟩
    | cons x l ih =>
      rw [List.all_cons, Bool.and_eq_true_iff] at hs'
      obtain ⟨hx, hr⟩ := hs'
      simp only [Bool.and_eq_true_iff] at hx
      obtain ⟨⟨_, hp⟩, h1, h2⟩ := hx
      have k := stepS_ok x n s hp hl ht (doT_ok d x.2.1 n _ s h1 hl ht) (doT_ok d x.2.2 n _ s h2 hl ht)
      have q := ih (stepS (doT d) x s) k.1 k.2.1 hr
      simp only [List.foldl_cons, List.map_cons, List.sum_cons]
      exact ⟨q.1, q.2.1, by omega, by omega⟩

end Go.Proofs.YthcgdhlemieboaaGreat

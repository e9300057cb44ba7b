/- What the program makes of a value, and of a step: one of its kind. -/
import Derived.Test.YthcgdhlemieboaaGreatTkTre
import Derived.Deep.RegionHeld3
import Derived.Deep.DrawnRows
namespace Go.Proofs.YthcgdhlemieboaaGreat
open Go.RowKit
set_option linter.unusedSimpArgs false
set_option linter.unusedVariables false
attribute [local go_sem ↓] Go.wp_at_zero Go.wp_at_succ

def valPc (vk va vb : Int) : Value :=
  if vk = 1 then .iface 152 (.agg #[.int .i64 va]) else if vk = 2 then .iface 154 (.agg #[.int .i64 va])
  else if vk = 3 then .iface 156 (.agg #[.int .i64 va, .int .i64 vb]) else if vk = 4 then .iface 157 (.agg #[.int .i64 va, .int .i64 vb]) else .nilIface
def valForm (vk vb : Int) : Bool := if vk = 1 ∨ vk = 2 then decide (vb = 0) else decide (vk = 3 ∨ vk = 4)
theorem beq_dec (a b : Int) : (a == b) = decide (a = b) := by
  by_cases h : a = b <;> simp [h]

theorem valS (w : World) (k a b : Int) : (w.alloc (.cells #[.int .i64 k, .int .i64 a, .int .i64 b] 64)).drew.cell? ⟨w.heap.size, 0, none⟩ = some (.int .i64 k) ∧ (w.alloc (.cells #[.int .i64 k, .int .i64 a, .int .i64 b] 64)).drew.cell? ⟨w.heap.size, 1, none⟩ = some (.int .i64 a) ∧
    (w.alloc (.cells #[.int .i64 k, .int .i64 a, .int .i64 b] 64)).drew.cell? ⟨w.heap.size, 2, none⟩ = some (.int .i64 b) ∧ Below w.heap.size w (w.alloc (.cells #[.int .i64 k, .int .i64 a, .int .i64 b] 64)).drew := by
  refine ⟨by go_simp, by go_simp, by go_simp, ((Below.refl _ _).alloc (Nat.le_refl _) _).drew⟩
set_option maxHeartbeats 1000000 in
theorem valPiece_any (vk va vb : Int) (w : World) :
    Calls Tryz.prog 93 #[.agg #[.int .i64 vk, .int .i64 va, .int .i64 vb]] w fun e w' => e = .returned (.tuple #[valPc vk va vb, .bool (valForm vk vb)]) ∧ Below w.heap.size w w' := by
  by_cases h1 : vk = 1
  · subst h1
    go_enter Tryz.func93, Tryz.ntmps93
    go_wp2_with fail
    refine wp_region_held (S := (fun wz => wz.cell? ⟨w.heap.size, 0, none⟩ = some (.int .i64 1) ∧ wz.cell? ⟨w.heap.size, 1, none⟩ = some (.int .i64 va) ∧ wz.cell? ⟨w.heap.size, 2, none⟩ = some (.int .i64 vb) ∧ Below w.heap.size w wz)) (by kernel_rfl) ?_
    change wpAnyH _ _ _ _ _ _ _ _ (World.drew _)
    have hHeld := valS w 1 va vb
    refine' wpAnyH_take (i := 0) (v := _) rfl (by kernel_rfl) (by kernel_rfl) (by kernel_rfl) (fun _ _ _ h => h) (Or.inl ⟨by rfl, ?hy1⟩) hHeld ?hn1
    case hy1 => (intro wz hSw; (try dsimp only at hSw); go_simp; first | done | with_reducible rfl)
    try simp only [nrm, Act.put]
    refine' wpAnyH_take (i := 1) (v := _) rfl (by kernel_rfl) (by kernel_rfl) (by kernel_rfl) (fun _ _ _ h => h) (Or.inl ⟨by rfl, ?hy2⟩) hHeld ?hn2
    case hy2 => (intro wz hSw; (try dsimp only at hSw); go_simp; first | done | with_reducible rfl)
    try simp only [nrm, Act.put]
    refine' wpAnyH_take (i := 2) (v := _) rfl (by kernel_rfl) (by kernel_rfl) (by kernel_rfl) (fun _ _ _ h => h) (Or.inl ⟨by rfl, ?hy3⟩) hHeld ?hn3
    case hy3 => (intro wz hSw; (try dsimp only at hSw); go_simp; first | done | with_reducible rfl)
    try simp only [nrm, Act.put]
    refine' wpAnyH_take (i := 3) (v := _) rfl (by kernel_rfl) (by kernel_rfl) (by kernel_rfl) (fun _ _ _ h => h) (Or.inl ⟨by rfl, ?hy4⟩) hHeld ?hn4
    case hy4 => (intro wz hSw; (try dsimp only at hSw); go_simp; first | done | with_reducible rfl)
    try simp only [nrm, Act.put]
    refine' wpAnyH_take (i := 7) (v := _) rfl (by kernel_rfl) (by kernel_rfl) (by kernel_rfl) (fun _ _ _ h => h) (Or.inl ⟨by rfl, ?hy5⟩) hHeld ?hn5
    case hy5 => (intro wz hSw; (try dsimp only at hSw); go_simp; first | done | with_reducible rfl)
    try simp only [nrm, Act.put]
    refine' wpAnyH_take (i := 4) (v := _) rfl (by kernel_rfl) (by kernel_rfl) (by kernel_rfl) (fun _ _ _ h => h) (Or.inl ⟨by rfl, ?hy6⟩) hHeld ?hn6
    case hy6 => (intro wz hSw; (try dsimp only at hSw); go_simp; first | done | with_reducible rfl)
    try simp only [nrm, Act.put]
    refine' wpAnyH_take (i := 5) (v := _) rfl (by kernel_rfl) (by kernel_rfl) (by kernel_rfl) (fun _ _ _ h => h) (Or.inl ⟨by rfl, ?hy7⟩) hHeld ?hn7
    case hy7 => (intro wz hSw; (try dsimp only at hSw); go_simp; first | done | with_reducible rfl)
    try simp only [nrm, Act.put]
    refine' wpAnyH_take (i := 6) (v := _) rfl (by kernel_rfl) (by kernel_rfl) (by kernel_rfl) (fun _ _ _ h => h) (Or.inl ⟨by rfl, ?hy8⟩) hHeld ?hn8
    case hy8 => (intro wz hSw; (try dsimp only at hSw); go_simp; first | done | with_reducible rfl)
    try simp only [nrm, Act.put]
    refine' wpAnyH_take (i := 8) (v := _) rfl (by kernel_rfl) (by kernel_rfl) (by kernel_rfl) (fun _ _ _ h => h) (Or.inl ⟨by rfl, ?hy9⟩) hHeld ?hn9
    case hy9 => (intro wz hSw; (try dsimp only at hSw); go_simp; first | done | with_reducible rfl)
    try simp only [nrm, Act.put]
    refine wpAnyH_done (by kernel_rfl) ?_ _
    go_wp2
    refine bodyPost_ret (v := .tuple #[valPc 1 va vb, .bool (valForm 1 vb)]) (by simp [results, Tryz.results93, go_sem, valPc, valForm]; try rfl) rfl ⟨rfl, hHeld.2.2.2⟩
  by_cases h2 : vk = 2
  · subst h2
    go_enter Tryz.func93, Tryz.ntmps93
    go_wp2_with fail
    refine wp_region_held (S := (fun wz => wz.cell? ⟨w.heap.size, 0, none⟩ = some (.int .i64 2) ∧ wz.cell? ⟨w.heap.size, 1, none⟩ = some (.int .i64 va) ∧ wz.cell? ⟨w.heap.size, 2, none⟩ = some (.int .i64 vb) ∧ Below w.heap.size w wz)) (by kernel_rfl) ?_
    change wpAnyH _ _ _ _ _ _ _ _ (World.drew _)
    have hHeld := valS w 2 va vb
    refine' wpAnyH_take (i := 0) (v := _) rfl (by kernel_rfl) (by kernel_rfl) (by kernel_rfl) (fun _ _ _ h => h) (Or.inl ⟨by rfl, ?hy10⟩) hHeld ?hn10
    case hy10 => (intro wz hSw; (try dsimp only at hSw); go_simp; first | done | with_reducible rfl)
    try simp only [nrm, Act.put]
    refine' wpAnyH_take (i := 1) (v := _) rfl (by kernel_rfl) (by kernel_rfl) (by kernel_rfl) (fun _ _ _ h => h) (Or.inl ⟨by rfl, ?hy11⟩) hHeld ?hn11
    case hy11 => (intro wz hSw; (try dsimp only at hSw); go_simp; first | done | with_reducible rfl)
    try simp only [nrm, Act.put]
    refine' wpAnyH_take (i := 2) (v := _) rfl (by kernel_rfl) (by kernel_rfl) (by kernel_rfl) (fun _ _ _ h => h) (Or.inl ⟨by rfl, ?hy12⟩) hHeld ?hn12
    case hy12 => (intro wz hSw; (try dsimp only at hSw); go_simp; first | done | with_reducible rfl)
    try simp only [nrm, Act.put]
    refine' wpAnyH_take (i := 3) (v := _) rfl (by kernel_rfl) (by kernel_rfl) (by kernel_rfl) (fun _ _ _ h => h) (Or.inl ⟨by rfl, ?hy13⟩) hHeld ?hn13
    case hy13 => (intro wz hSw; (try dsimp only at hSw); go_simp; first | done | with_reducible rfl)
    try simp only [nrm, Act.put]
    refine' wpAnyH_take (i := 7) (v := _) rfl (by kernel_rfl) (by kernel_rfl) (by kernel_rfl) (fun _ _ _ h => h) (Or.inl ⟨by rfl, ?hy14⟩) hHeld ?hn14
    case hy14 => (intro wz hSw; (try dsimp only at hSw); go_simp; first | done | with_reducible rfl)
    try simp only [nrm, Act.put]
    refine' wpAnyH_take (i := 4) (v := _) rfl (by kernel_rfl) (by kernel_rfl) (by kernel_rfl) (fun _ _ _ h => h) (Or.inl ⟨by rfl, ?hy15⟩) hHeld ?hn15
    case hy15 => (intro wz hSw; (try dsimp only at hSw); go_simp; first | done | with_reducible rfl)
    try simp only [nrm, Act.put]
    refine' wpAnyH_take (i := 5) (v := _) rfl (by kernel_rfl) (by kernel_rfl) (by kernel_rfl) (fun _ _ _ h => h) (Or.inl ⟨by rfl, ?hy16⟩) hHeld ?hn16
    case hy16 => (intro wz hSw; (try dsimp only at hSw); go_simp; first | done | with_reducible rfl)
    try simp only [nrm, Act.put]
    refine' wpAnyH_take (i := 6) (v := _) rfl (by kernel_rfl) (by kernel_rfl) (by kernel_rfl) (fun _ _ _ h => h) (Or.inl ⟨by rfl, ?hy17⟩) hHeld ?hn17
    case hy17 => (intro wz hSw; (try dsimp only at hSw); go_simp; first | done | with_reducible rfl)
    try simp only [nrm, Act.put]
    refine' wpAnyH_take (i := 8) (v := _) rfl (by kernel_rfl) (by kernel_rfl) (by kernel_rfl) (fun _ _ _ h => h) (Or.inl ⟨by rfl, ?hy18⟩) hHeld ?hn18
    case hy18 => (intro wz hSw; (try dsimp only at hSw); go_simp; first | done | with_reducible rfl)
    try simp only [nrm, Act.put]
    refine wpAnyH_done (by kernel_rfl) ?_ _
    go_wp2
    refine bodyPost_ret (v := .tuple #[valPc 2 va vb, .bool (valForm 2 vb)]) (by simp [results, Tryz.results93, go_sem, valPc, valForm]; try rfl) rfl ⟨rfl, hHeld.2.2.2⟩
  by_cases h3 : vk = 3
  · subst h3
    go_enter Tryz.func93, Tryz.ntmps93
    go_wp2
    refine bodyPost_ret (v := .tuple #[valPc 3 va vb, .bool (valForm 3 vb)]) (by simp [results, Tryz.results93, go_sem, valPc, valForm]) rfl ⟨rfl, ?_⟩
    repeat' (first | exact Below.refl _ _ | assumption | (refine Below.drew ?_) | (refine Below.then ?_ (by assumption) ?_) | (refine Below.alloc ?_ ?_ _) | (refine Below.setCell ?_ ?_ _) | (simp; done) | (simp at *; omega) | omega)
  by_cases h4 : vk = 4
  · subst h4
    go_enter Tryz.func93, Tryz.ntmps93
    go_wp2
    refine bodyPost_ret (v := .tuple #[valPc 4 va vb, .bool (valForm 4 vb)]) (by simp [results, Tryz.results93, go_sem, valPc, valForm]) rfl ⟨rfl, ?_⟩
    repeat' (first | exact Below.refl _ _ | assumption | (refine Below.drew ?_) | (refine Below.then ?_ (by assumption) ?_) | (refine Below.alloc ?_ ?_ _) | (refine Below.setCell ?_ ?_ _) | (simp; done) | (simp at *; omega) | omega)
  · go_enter Tryz.func93, Tryz.ntmps93
    go_wp2
    refine bodyPost_ret (v := .tuple #[valPc vk va vb, .bool (valForm vk vb)]) (by simp [results, Tryz.results93, go_sem, valPc, valForm, h1, h2, h3, h4]) rfl ⟨rfl, ?_⟩
    repeat' (first | exact Below.refl _ _ | assumption | (refine Below.drew ?_) | (refine Below.then ?_ (by assumption) ?_) | (refine Below.alloc ?_ ?_ _) | (refine Below.setCell ?_ ?_ _) | (simp; done) | (simp at *; omega) | omega)

end Go.Proofs.YthcgdhlemieboaaGreat

namespace Go.Proofs.YthcgdhlemieboaaGreat
open Go.RowKit
set_option linter.unusedSimpArgs false
set_option linter.unusedVariables false
attribute [local go_sem ↓] Go.wp_at_zero Go.wp_at_succ

def stPc (k v vk va vb h : Int) (t e : Value) : Value :=
  if k = 1 then .iface 141 (.agg #[.int .i64 v, valPc vk va vb]) else if k = 2 then .iface 143 (.agg #[.int .i64 v, t, e])
  else if k = 3 then .iface 145 (.agg #[.int .i64 v, .int .i64 h]) else .nilIface
def stForm (k : Int) (f nv hz z : Bool) : Bool := if k = 1 then f && hz && z else if k = 2 then nv && hz else if k = 3 then nv && z else false
theorem valPc_cases (vk va vb : Int) : (∃ ty x, valPc vk va vb = .iface ty x) ∨ valPc vk va vb = .nilIface := by
  unfold valPc
  split
  · exact .inl ⟨_, _, rfl⟩
  split
  · exact .inl ⟨_, _, rfl⟩
  split
  · exact .inl ⟨_, _, rfl⟩
  split
  · exact .inl ⟨_, _, rfl⟩
  · exact .inr rfl
theorem stS (w : World) (k v vk va vb h : Int) (ta : Option Addr) (lt tc : Nat) (ea : Option Addr) (le ec : Nat) : (w.alloc (.cells #[.int .i64 k, .int .i64 v, .int .i64 vk, .int .i64 va, .int .i64 vb, .int .i64 h, .slice ta lt tc, .slice ea le ec] 66)).drew.cell? ⟨w.heap.size, 0, none⟩ = some (.int .i64 k) ∧ (w.alloc (.cells #[.int .i64 k, .int .i64 v, .int .i64 vk, .int .i64 va, .int .i64 vb, .int .i64 h, .slice ta lt tc, .slice ea le ec] 66)).drew.cell? ⟨w.heap.size, 1, none⟩ = some (.int .i64 v) ∧ (w.alloc (.cells #[.int .i64 k, .int .i64 v, .int .i64 vk, .int .i64 va, .int .i64 vb, .int .i64 h, .slice ta lt tc, .slice ea le ec] 66)).drew.cell? ⟨w.heap.size, 2, none⟩ = some (.int .i64 vk) ∧ (w.alloc (.cells #[.int .i64 k, .int .i64 v, .int .i64 vk, .int .i64 va, .int .i64 vb, .int .i64 h, .slice ta lt tc, .slice ea le ec] 66)).drew.cell? ⟨w.heap.size, 3, none⟩ = some (.int .i64 va) ∧ (w.alloc (.cells #[.int .i64 k, .int .i64 v, .int .i64 vk, .int .i64 va, .int .i64 vb, .int .i64 h, .slice ta lt tc, .slice ea le ec] 66)).drew.cell? ⟨w.heap.size, 4, none⟩ = some (.int .i64 vb) ∧ (w.alloc (.cells #[.int .i64 k, .int .i64 v, .int .i64 vk, .int .i64 va, .int .i64 vb, .int .i64 h, .slice ta lt tc, .slice ea le ec] 66)).drew.cell? ⟨w.heap.size, 5, none⟩ = some (.int .i64 h) ∧ (w.alloc (.cells #[.int .i64 k, .int .i64 v, .int .i64 vk, .int .i64 va, .int .i64 vb, .int .i64 h, .slice ta lt tc, .slice ea le ec] 66)).drew.cell? ⟨w.heap.size, 6, none⟩ = some (.slice ta lt tc) ∧ (w.alloc (.cells #[.int .i64 k, .int .i64 v, .int .i64 vk, .int .i64 va, .int .i64 vb, .int .i64 h, .slice ta lt tc, .slice ea le ec] 66)).drew.cell? ⟨w.heap.size, 7, none⟩ = some (.slice ea le ec) ∧ Below w.heap.size w (w.alloc (.cells #[.int .i64 k, .int .i64 v, .int .i64 vk, .int .i64 va, .int .i64 vb, .int .i64 h, .slice ta lt tc, .slice ea le ec] 66)).drew := by
  refine ⟨by go_simp, by go_simp, by go_simp, by go_simp, by go_simp, by go_simp, by go_simp, by go_simp, ((Below.refl _ _).alloc (Nat.le_refl _) _).drew⟩

set_option maxHeartbeats 4000000 in
theorem stPiece_of (k v vk va vb h : Int) (ta ea : Option Addr) (lt tc le ec : Nat) (nv hz z : Bool) (w : World)
    (hnv : nv = decide (vk = 0 ∧ va = 0 ∧ vb = 0)) (hhz : hz = decide (h = 0)) (hz' : z = decide (lt = 0 ∧ le = 0)) :
    Calls Tryz.prog 83 #[.agg #[.int .i64 k, .int .i64 v, .int .i64 vk, .int .i64 va, .int .i64 vb, .int .i64 h, .slice ta lt tc, .slice ea le ec]] w
      fun e w' => e = .returned (.tuple #[stPc k v vk va vb h (.slice ta lt tc) (.slice ea le ec), .bool (stForm k (valForm vk vb) nv hz z)]) ∧ Below w.heap.size w w' := by
  have split : (vk = 0 ∧ va = 0 ∧ vb = 0) ∨ (¬ vk = 0) ∨ (vk = 0 ∧ ¬ va = 0) ∨ (vk = 0 ∧ va = 0 ∧ ¬ vb = 0) := by omega
  have HN : Hid (nv = decide (vk = 0 ∧ va = 0 ∧ vb = 0)) := hnv
  have HZ : Hid (hz = decide (h = 0)) := hhz
  clear hnv hhz
  by_cases hl : lt = 0
  · subst hl
    have HL : Hid (z = ((le : Int) == 0)) := (show z = ((le : Int) == 0) by rw [hz', beq_dec]; simp)
    clear hz'
    go_enter Tryz.func83, Tryz.ntmps83
    go_wp2_with fail
    refine wp_region_held (S := (fun wz => wz.cell? ⟨w.heap.size, 0, none⟩ = some (.int .i64 k) ∧ wz.cell? ⟨w.heap.size, 1, none⟩ = some (.int .i64 v) ∧ wz.cell? ⟨w.heap.size, 2, none⟩ = some (.int .i64 vk) ∧ wz.cell? ⟨w.heap.size, 3, none⟩ = some (.int .i64 va) ∧ wz.cell? ⟨w.heap.size, 4, none⟩ = some (.int .i64 vb) ∧ wz.cell? ⟨w.heap.size, 5, none⟩ = some (.int .i64 h) ∧ wz.cell? ⟨w.heap.size, 6, none⟩ = some (.slice ta 0 tc) ∧ wz.cell? ⟨w.heap.size, 7, none⟩ = some (.slice ea le ec) ∧ Below w.heap.size w wz)) (by kernel_rfl) ?_
    change wpAnyH _ _ _ _ _ _ _ _ (World.drew _)
    have hHeld := stS w k v vk va vb h ta 0 tc ea le ec
    refine' wpAnyH_take (i := 0) (v := _) rfl (by kernel_rfl) (by kernel_rfl) (by kernel_rfl) (fun _ _ _ h => h) (Or.inl ⟨by rfl, ?hy1⟩) hHeld ?hn1
    case hy1 => (intro wz hSw; (try dsimp only at hSw); go_simp; first | done | with_reducible rfl)
    try simp only [nrm, Act.put]
    refine' wpAnyH_take (i := 1) (v := _) rfl (by kernel_rfl) (by kernel_rfl) (by kernel_rfl) (fun _ _ _ h => h) (Or.inl ⟨by rfl, ?hy2⟩) hHeld ?hn2
    case hy2 => (intro wz hSw; (try dsimp only at hSw); go_simp; first | done | with_reducible rfl)
    try simp only [nrm, Act.put]
    refine' wpAnyH_take (i := 2) (v := _) rfl (by kernel_rfl) (by kernel_rfl) (by kernel_rfl) (fun _ _ _ h => h) (Or.inl ⟨by rfl, ?hy3⟩) hHeld ?hn3
    case hy3 => (intro wz hSw; (try dsimp only at hSw); go_simp; first | done | with_reducible rfl)
    try simp only [nrm, Act.put]
    refine' wpAnyH_take (i := 3) (v := .bool nv) rfl (by kernel_rfl) (by kernel_rfl) (by kernel_rfl) (fun _ _ _ h => h) (Or.inl ⟨by rfl, ?hy4⟩) hHeld ?hn4
    case hy4 => (intro wz hSw; (try dsimp only at hSw); rcases split with ⟨rfl, rfl, rfl⟩ | s1 | ⟨rfl, s1⟩ | ⟨rfl, rfl, s1⟩ <;> rw [HN.out] <;> go_simp)
    try simp only [nrm, Act.put]
    refine' wpAnyH_take (i := 7) (v := _) rfl (by kernel_rfl) (by kernel_rfl) (by kernel_rfl) (fun _ _ _ h => h) (Or.inl ⟨by rfl, ?hy5⟩) hHeld ?hn5
    case hy5 => (intro wz hSw; (try dsimp only at hSw); go_simp; first | done | with_reducible rfl)
    try simp only [nrm, Act.put]
    refine' wpAnyH_take (i := 8) (v := _) rfl (by kernel_rfl) (by kernel_rfl) (by kernel_rfl) (fun _ _ _ h => h) (Or.inl ⟨by rfl, ?hy6⟩) hHeld ?hn6
    case hy6 => (intro wz hSw; (try dsimp only at hSw); go_simp; first | done | with_reducible rfl)
    try simp only [nrm, Act.put]
    refine' wpAnyH_take (i := 9) (v := _) rfl (by kernel_rfl) (by kernel_rfl) (by kernel_rfl) (fun _ _ _ h => h) (Or.inl ⟨by rfl, ?hy7⟩) hHeld ?hn7
    case hy7 => (intro wz hSw; (try dsimp only at hSw); go_simp; first | done | with_reducible rfl)
    try simp only [nrm, Act.put]
    refine' wpAnyH_take (i := 10) (v := _) rfl (by kernel_rfl) (by kernel_rfl) (by kernel_rfl) (fun _ _ _ h => h) (Or.inl ⟨by rfl, ?hy8⟩) hHeld ?hn8
    case hy8 => (intro wz hSw; (try dsimp only at hSw); go_simp; first | done | with_reducible rfl)
    try simp only [nrm, Act.put]
    refine' wpAnyH_take (i := 11) (v := _) rfl (by kernel_rfl) (by kernel_rfl) (by kernel_rfl) (fun _ _ _ h => h) (Or.inl ⟨by rfl, ?hy9⟩) hHeld ?hn9
    case hy9 => (intro wz hSw; (try dsimp only at hSw); go_simp; first | done | with_reducible rfl)
    try simp only [nrm, Act.put]
    refine' wpAnyH_take (i := 12) (v := _) rfl (by kernel_rfl) (by kernel_rfl) (by kernel_rfl) (fun _ _ _ h => h) (Or.inl ⟨by rfl, ?hy10⟩) hHeld ?hn10
    case hy10 => (intro wz hSw; (try dsimp only at hSw); go_simp; first | done | with_reducible rfl)
    try simp only [nrm, Act.put]
    refine' wpAnyH_take (i := 13) (v := _) rfl (by kernel_rfl) (by kernel_rfl) (by kernel_rfl) (fun _ _ _ h => h) (Or.inl ⟨by rfl, ?hy11⟩) hHeld ?hn11
    case hy11 => (intro wz hSw; (try dsimp only at hSw); go_simp; first | done | with_reducible rfl)
    try simp only [nrm, Act.put]
    refine' wpAnyH_take (i := 14) (v := _) rfl (by kernel_rfl) (by kernel_rfl) (by kernel_rfl) (fun _ _ _ h => h) (Or.inl ⟨by rfl, ?hy12⟩) hHeld ?hn12
    case hy12 => (intro wz hSw; (try dsimp only at hSw); go_simp; first | done | with_reducible rfl)
    try simp only [nrm, Act.put]
    refine' wpAnyH_take (i := 17) (v := _) rfl (by kernel_rfl) (by kernel_rfl) (by kernel_rfl) (fun _ _ _ h => h) (Or.inl ⟨by rfl, ?hy13⟩) hHeld ?hn13
    case hy13 => (intro wz hSw; (try dsimp only at hSw); go_simp; first | done | with_reducible rfl)
    try simp only [nrm, Act.put]
    refine' wpAnyH_take (i := 4) (v := _) rfl (by kernel_rfl) (by kernel_rfl) (by kernel_rfl) (fun _ _ _ h => h) (Or.inl ⟨by rfl, ?hy14⟩) hHeld ?hn14
    case hy14 => (intro wz hSw; (try dsimp only at hSw); go_simp; first | done | with_reducible rfl)
    try simp only [nrm, Act.put]
    refine' wpAnyH_take (i := 5) (v := _) rfl (by kernel_rfl) (by kernel_rfl) (by kernel_rfl) (fun _ _ _ h => h) (Or.inl ⟨by rfl, ?hy15⟩) hHeld ?hn15
    case hy15 => (intro wz hSw; (try dsimp only at hSw); go_simp; first | done | with_reducible rfl)
    try simp only [nrm, Act.put]
    refine' wpAnyH_take (i := 6) (v := .bool hz) rfl (by kernel_rfl) (by kernel_rfl) (by kernel_rfl) (fun _ _ _ h => h) (Or.inl ⟨by rfl, ?hy16⟩) hHeld ?hn16
    case hy16 => (intro wz hSw; (try dsimp only at hSw); rw [HZ.out, ← beq_dec]; go_simp)
    try simp only [nrm, Act.put]
    refine' wpAnyH_take (i := 18) (v := _) rfl (by kernel_rfl) (by kernel_rfl) (by kernel_rfl) (fun _ _ _ h => h) (Or.inl ⟨by rfl, ?hy17⟩) hHeld ?hn17
    case hy17 => (intro wz hSw; (try dsimp only at hSw); go_simp; first | done | with_reducible rfl)
    try simp only [nrm, Act.put]
    refine' wpAnyH_take (i := 15) (v := .bool z) rfl (by kernel_rfl) (by kernel_rfl) (by kernel_rfl) (fun _ _ _ h => h) (Or.inl ⟨by rfl, ?hy18⟩) hHeld ?hn18
    case hy18 => (intro wz hSw; (try dsimp only at hSw); rw [HL.out]; go_simp)
    try simp only [nrm, Act.put]
    refine' wpAnyH_take (i := 16) (v := _) rfl (by kernel_rfl) (by kernel_rfl) (by kernel_rfl) (fun _ _ _ h => h) (Or.inl ⟨by rfl, ?hy19⟩) hHeld ?hn19
    case hy19 => (intro wz hSw; (try dsimp only at hSw); go_simp; first | done | with_reducible rfl)
    try simp only [nrm, Act.put]
    refine' wpAnyH_take (i := 19) (v := _) rfl (by kernel_rfl) (by kernel_rfl) (by kernel_rfl) (fun _ _ _ h => h) (Or.inl ⟨by rfl, ?hy20⟩) hHeld ?hn20
    case hy20 => (intro wz hSw; (try dsimp only at hSw); go_simp; first | done | with_reducible rfl)
    try simp only [nrm, Act.put]
    refine wpAnyH_done (by kernel_rfl) ?_ _
    have hB := hHeld.2.2.2.2.2.2.2.2
    have hs := hB.size
    obtain ⟨u0, u1, u2, u3, u4, u5, u6, u7, _⟩ := hHeld
    clear split
    by_cases h1 : k = 1
    · subst h1
      go_wp2_with fail
      go_at_call 93; refine (valPiece_any _ _ _ _).mono ?_; rintro e w3 ⟨rfl, hb3⟩
      replace u0 := cell_later hb3 u0
      replace u1 := cell_later hb3 u1
      clear u2 u3 u4 u5 u6 u7
      rcases valPc_cases vk va vb with ⟨ty, x, hp⟩ | hp
      · rw [hp]
        cases hf : valForm vk vb
        · cases hz
          · go_wp2
            refine bodyPost_ret (v := .tuple #[.iface 141 (.agg #[.int .i64 v, .iface ty x]), .bool false]) (by simp [results, Tryz.results83, go_sem]) rfl ⟨by simp [stPc, stForm, hp, hf], Below.then hB hb3 (by omega)⟩
          · go_wp2
            refine bodyPost_ret (v := .tuple #[.iface 141 (.agg #[.int .i64 v, .iface ty x]), .bool false]) (by simp [results, Tryz.results83, go_sem]) rfl ⟨by simp [stPc, stForm, hp, hf], Below.then hB hb3 (by omega)⟩
        · cases hz
          · go_wp2
            refine bodyPost_ret (v := .tuple #[.iface 141 (.agg #[.int .i64 v, .iface ty x]), .bool false]) (by simp [results, Tryz.results83, go_sem]) rfl ⟨by simp [stPc, stForm, hp, hf], Below.then hB hb3 (by omega)⟩
          · go_wp2
            refine bodyPost_ret (v := .tuple #[.iface 141 (.agg #[.int .i64 v, .iface ty x]), .bool z]) (by simp [results, Tryz.results83, go_sem]) rfl ⟨by simp [stPc, stForm, hp, hf], Below.then hB hb3 (by omega)⟩
      · rw [hp]
        cases hf : valForm vk vb
        · cases hz
          · go_wp2
            refine bodyPost_ret (v := .tuple #[.iface 141 (.agg #[.int .i64 v, .nilIface]), .bool false]) (by simp [results, Tryz.results83, go_sem]) rfl ⟨by simp [stPc, stForm, hp, hf], Below.then hB hb3 (by omega)⟩
          · go_wp2
            refine bodyPost_ret (v := .tuple #[.iface 141 (.agg #[.int .i64 v, .nilIface]), .bool false]) (by simp [results, Tryz.results83, go_sem]) rfl ⟨by simp [stPc, stForm, hp, hf], Below.then hB hb3 (by omega)⟩
        · cases hz
          · go_wp2
            refine bodyPost_ret (v := .tuple #[.iface 141 (.agg #[.int .i64 v, .nilIface]), .bool false]) (by simp [results, Tryz.results83, go_sem]) rfl ⟨by simp [stPc, stForm, hp, hf], Below.then hB hb3 (by omega)⟩
          · go_wp2
            refine bodyPost_ret (v := .tuple #[.iface 141 (.agg #[.int .i64 v, .nilIface]), .bool z]) (by simp [results, Tryz.results83, go_sem]) rfl ⟨by simp [stPc, stForm, hp, hf], Below.then hB hb3 (by omega)⟩
    by_cases h2 : k = 2
    · subst h2
      cases nv
      · go_wp2
        refine bodyPost_ret (v := .tuple #[.iface 143 (.agg #[.int .i64 v, .slice ta 0 tc, .slice ea le ec]), .bool false]) (by simp [results, Tryz.results83, go_sem]) rfl ⟨by simp [stPc, stForm], hB⟩
      · go_wp2
        refine bodyPost_ret (v := .tuple #[.iface 143 (.agg #[.int .i64 v, .slice ta 0 tc, .slice ea le ec]), .bool hz]) (by simp [results, Tryz.results83, go_sem]) rfl ⟨by simp [stPc, stForm], hB⟩
    by_cases h3 : k = 3
    · subst h3
      cases nv
      · go_wp2
        refine bodyPost_ret (v := .tuple #[.iface 145 (.agg #[.int .i64 v, .int .i64 h]), .bool false]) (by simp [results, Tryz.results83, go_sem]) rfl ⟨by simp [stPc, stForm], hB⟩
      · go_wp2
        refine bodyPost_ret (v := .tuple #[.iface 145 (.agg #[.int .i64 v, .int .i64 h]), .bool z]) (by simp [results, Tryz.results83, go_sem]) rfl ⟨by simp [stPc, stForm], hB⟩
    · go_wp2
      refine bodyPost_ret (v := .tuple #[.nilIface, .bool false]) (by simp [results, Tryz.results83, go_sem]) rfl ⟨by simp [stPc, stForm, h1, h2, h3], hB⟩
  · have hz0 : z = false := by rw [hz']; simp [hl]
    subst hz0
    clear hz'
    have hl' : ¬ (lt : Int) = 0 := by omega
    go_enter Tryz.func83, Tryz.ntmps83
    go_wp2_with fail
    refine wp_region_held (S := (fun wz => wz.cell? ⟨w.heap.size, 0, none⟩ = some (.int .i64 k) ∧ wz.cell? ⟨w.heap.size, 1, none⟩ = some (.int .i64 v) ∧ wz.cell? ⟨w.heap.size, 2, none⟩ = some (.int .i64 vk) ∧ wz.cell? ⟨w.heap.size, 3, none⟩ = some (.int .i64 va) ∧ wz.cell? ⟨w.heap.size, 4, none⟩ = some (.int .i64 vb) ∧ wz.cell? ⟨w.heap.size, 5, none⟩ = some (.int .i64 h) ∧ wz.cell? ⟨w.heap.size, 6, none⟩ = some (.slice ta lt tc) ∧ wz.cell? ⟨w.heap.size, 7, none⟩ = some (.slice ea le ec) ∧ Below w.heap.size w wz)) (by kernel_rfl) ?_
    change wpAnyH _ _ _ _ _ _ _ _ (World.drew _)
    have hHeld := stS w k v vk va vb h ta lt tc ea le ec
    refine' wpAnyH_take (i := 0) (v := _) rfl (by kernel_rfl) (by kernel_rfl) (by kernel_rfl) (fun _ _ _ h => h) (Or.inl ⟨by rfl, ?hy21⟩) hHeld ?hn21
    case hy21 => (intro wz hSw; (try dsimp only at hSw); go_simp; first | done | with_reducible rfl)
    try simp only [nrm, Act.put]
    refine' wpAnyH_take (i := 1) (v := _) rfl (by kernel_rfl) (by kernel_rfl) (by kernel_rfl) (fun _ _ _ h => h) (Or.inl ⟨by rfl, ?hy22⟩) hHeld ?hn22
    case hy22 => (intro wz hSw; (try dsimp only at hSw); go_simp; first | done | with_reducible rfl)
    try simp only [nrm, Act.put]
    refine' wpAnyH_take (i := 2) (v := _) rfl (by kernel_rfl) (by kernel_rfl) (by kernel_rfl) (fun _ _ _ h => h) (Or.inl ⟨by rfl, ?hy23⟩) hHeld ?hn23
    case hy23 => (intro wz hSw; (try dsimp only at hSw); go_simp; first | done | with_reducible rfl)
    try simp only [nrm, Act.put]
    refine' wpAnyH_take (i := 3) (v := .bool nv) rfl (by kernel_rfl) (by kernel_rfl) (by kernel_rfl) (fun _ _ _ h => h) (Or.inl ⟨by rfl, ?hy24⟩) hHeld ?hn24
    case hy24 => (intro wz hSw; (try dsimp only at hSw); rcases split with ⟨rfl, rfl, rfl⟩ | s1 | ⟨rfl, s1⟩ | ⟨rfl, rfl, s1⟩ <;> rw [HN.out] <;> go_simp)
    try simp only [nrm, Act.put]
    refine' wpAnyH_take (i := 7) (v := _) rfl (by kernel_rfl) (by kernel_rfl) (by kernel_rfl) (fun _ _ _ h => h) (Or.inl ⟨by rfl, ?hy25⟩) hHeld ?hn25
    case hy25 => (intro wz hSw; (try dsimp only at hSw); go_simp; first | done | with_reducible rfl)
    try simp only [nrm, Act.put]
    refine' wpAnyH_take (i := 8) (v := _) rfl (by kernel_rfl) (by kernel_rfl) (by kernel_rfl) (fun _ _ _ h => h) (Or.inl ⟨by rfl, ?hy26⟩) hHeld ?hn26
    case hy26 => (intro wz hSw; (try dsimp only at hSw); go_simp; first | done | with_reducible rfl)
    try simp only [nrm, Act.put]
    refine' wpAnyH_take (i := 9) (v := _) rfl (by kernel_rfl) (by kernel_rfl) (by kernel_rfl) (fun _ _ _ h => h) (Or.inl ⟨by rfl, ?hy27⟩) hHeld ?hn27
    case hy27 => (intro wz hSw; (try dsimp only at hSw); go_simp; first | done | with_reducible rfl)
    try simp only [nrm, Act.put]
    refine' wpAnyH_take (i := 10) (v := .bool false) rfl (by kernel_rfl) (by kernel_rfl) (by kernel_rfl) (fun _ _ _ h => h) (Or.inl ⟨by rfl, ?hy28⟩) hHeld ?hn28
    case hy28 => (intro wz hSw; (try dsimp only at hSw); go_simp)
    try simp only [nrm, Act.put]
    refine' wpAnyH_take (i := 11) (v := _) rfl (by kernel_rfl) (by kernel_rfl) (by kernel_rfl) (fun _ _ _ h => h) (Or.inl ⟨by rfl, ?hy29⟩) hHeld ?hn29
    case hy29 => (intro wz hSw; (try dsimp only at hSw); go_simp; first | done | with_reducible rfl)
    try simp only [nrm, Act.put]
    refine' wpAnyH_take (i := 12) (v := undef) rfl (by kernel_rfl) (by kernel_rfl) (by kernel_rfl) (fun _ _ _ h => h) (Or.inr ⟨by rfl, rfl⟩) hHeld ?hn30
    try simp only [nrm, Act.put]
    refine' wpAnyH_take (i := 13) (v := undef) rfl (by kernel_rfl) (by kernel_rfl) (by kernel_rfl) (fun _ _ _ h => h) (Or.inr ⟨by rfl, rfl⟩) hHeld ?hn31
    try simp only [nrm, Act.put]
    refine' wpAnyH_take (i := 14) (v := undef) rfl (by kernel_rfl) (by kernel_rfl) (by kernel_rfl) (fun _ _ _ h => h) (Or.inr ⟨by rfl, rfl⟩) hHeld ?hn32
    try simp only [nrm, Act.put]
    refine' wpAnyH_take (i := 17) (v := _) rfl (by kernel_rfl) (by kernel_rfl) (by kernel_rfl) (fun _ _ _ h => h) (Or.inl ⟨by rfl, ?hy33⟩) hHeld ?hn33
    case hy33 => (intro wz hSw; (try dsimp only at hSw); go_simp; first | done | with_reducible rfl)
    try simp only [nrm, Act.put]
    refine' wpAnyH_take (i := 4) (v := _) rfl (by kernel_rfl) (by kernel_rfl) (by kernel_rfl) (fun _ _ _ h => h) (Or.inl ⟨by rfl, ?hy34⟩) hHeld ?hn34
    case hy34 => (intro wz hSw; (try dsimp only at hSw); go_simp; first | done | with_reducible rfl)
    try simp only [nrm, Act.put]
    refine' wpAnyH_take (i := 5) (v := _) rfl (by kernel_rfl) (by kernel_rfl) (by kernel_rfl) (fun _ _ _ h => h) (Or.inl ⟨by rfl, ?hy35⟩) hHeld ?hn35
    case hy35 => (intro wz hSw; (try dsimp only at hSw); go_simp; first | done | with_reducible rfl)
    try simp only [nrm, Act.put]
    refine' wpAnyH_take (i := 6) (v := .bool hz) rfl (by kernel_rfl) (by kernel_rfl) (by kernel_rfl) (fun _ _ _ h => h) (Or.inl ⟨by rfl, ?hy36⟩) hHeld ?hn36
    case hy36 => (intro wz hSw; (try dsimp only at hSw); rw [HZ.out, ← beq_dec]; go_simp)
    try simp only [nrm, Act.put]
    refine' wpAnyH_take (i := 18) (v := _) rfl (by kernel_rfl) (by kernel_rfl) (by kernel_rfl) (fun _ _ _ h => h) (Or.inl ⟨by rfl, ?hy37⟩) hHeld ?hn37
    case hy37 => (intro wz hSw; (try dsimp only at hSw); go_simp; first | done | with_reducible rfl)
    try simp only [nrm, Act.put]
    refine' wpAnyH_take (i := 15) (v := undef) rfl (by kernel_rfl) (by kernel_rfl) (by kernel_rfl) (fun _ _ _ h => h) (Or.inr ⟨by rfl, rfl⟩) hHeld ?hn38
    try simp only [nrm, Act.put]
    refine' wpAnyH_take (i := 16) (v := _) rfl (by kernel_rfl) (by kernel_rfl) (by kernel_rfl) (fun _ _ _ h => h) (Or.inl ⟨by rfl, ?hy39⟩) hHeld ?hn39
    case hy39 => (intro wz hSw; (try dsimp only at hSw); go_simp; first | done | with_reducible rfl)
    try simp only [nrm, Act.put]
    refine' wpAnyH_take (i := 19) (v := _) rfl (by kernel_rfl) (by kernel_rfl) (by kernel_rfl) (fun _ _ _ h => h) (Or.inl ⟨by rfl, ?hy40⟩) hHeld ?hn40
    case hy40 => (intro wz hSw; (try dsimp only at hSw); go_simp; first | done | with_reducible rfl)
    try simp only [nrm, Act.put]
    refine wpAnyH_done (by kernel_rfl) ?_ _
    have hB := hHeld.2.2.2.2.2.2.2.2
    have hs := hB.size
    obtain ⟨u0, u1, u2, u3, u4, u5, u6, u7, _⟩ := hHeld
    clear split
    by_cases h1 : k = 1
    · subst h1
      go_wp2_with fail
      go_at_call 93; refine (valPiece_any _ _ _ _).mono ?_; rintro e w3 ⟨rfl, hb3⟩
      replace u0 := cell_later hb3 u0
      replace u1 := cell_later hb3 u1
      clear u2 u3 u4 u5 u6 u7
      rcases valPc_cases vk va vb with ⟨ty, x, hp⟩ | hp
      · rw [hp]
        cases hf : valForm vk vb
        · cases hz
          · go_wp2
            refine bodyPost_ret (v := .tuple #[.iface 141 (.agg #[.int .i64 v, .iface ty x]), .bool false]) (by simp [results, Tryz.results83, go_sem]) rfl ⟨by simp [stPc, stForm, hp, hf], Below.then hB hb3 (by omega)⟩
          · go_wp2
            refine bodyPost_ret (v := .tuple #[.iface 141 (.agg #[.int .i64 v, .iface ty x]), .bool false]) (by simp [results, Tryz.results83, go_sem]) rfl ⟨by simp [stPc, stForm, hp, hf], Below.then hB hb3 (by omega)⟩
        · cases hz
          · go_wp2
            refine bodyPost_ret (v := .tuple #[.iface 141 (.agg #[.int .i64 v, .iface ty x]), .bool false]) (by simp [results, Tryz.results83, go_sem]) rfl ⟨by simp [stPc, stForm, hp, hf], Below.then hB hb3 (by omega)⟩
          · go_wp2
            refine bodyPost_ret (v := .tuple #[.iface 141 (.agg #[.int .i64 v, .iface ty x]), .bool false]) (by simp [results, Tryz.results83, go_sem]) rfl ⟨by simp [stPc, stForm, hp, hf], Below.then hB hb3 (by omega)⟩
      · rw [hp]
        cases hf : valForm vk vb
        · cases hz
          · go_wp2
            refine bodyPost_ret (v := .tuple #[.iface 141 (.agg #[.int .i64 v, .nilIface]), .bool false]) (by simp [results, Tryz.results83, go_sem]) rfl ⟨by simp [stPc, stForm, hp, hf], Below.then hB hb3 (by omega)⟩
          · go_wp2
            refine bodyPost_ret (v := .tuple #[.iface 141 (.agg #[.int .i64 v, .nilIface]), .bool false]) (by simp [results, Tryz.results83, go_sem]) rfl ⟨by simp [stPc, stForm, hp, hf], Below.then hB hb3 (by omega)⟩
        · cases hz
          · go_wp2
            refine bodyPost_ret (v := .tuple #[.iface 141 (.agg #[.int .i64 v, .nilIface]), .bool false]) (by simp [results, Tryz.results83, go_sem]) rfl ⟨by simp [stPc, stForm, hp, hf], Below.then hB hb3 (by omega)⟩
          · go_wp2
            refine bodyPost_ret (v := .tuple #[.iface 141 (.agg #[.int .i64 v, .nilIface]), .bool false]) (by simp [results, Tryz.results83, go_sem]) rfl ⟨by simp [stPc, stForm, hp, hf], Below.then hB hb3 (by omega)⟩
    by_cases h2 : k = 2
    · subst h2
      cases nv
      · go_wp2
        refine bodyPost_ret (v := .tuple #[.iface 143 (.agg #[.int .i64 v, .slice ta lt tc, .slice ea le ec]), .bool false]) (by simp [results, Tryz.results83, go_sem]) rfl ⟨by simp [stPc, stForm], hB⟩
      · go_wp2
        refine bodyPost_ret (v := .tuple #[.iface 143 (.agg #[.int .i64 v, .slice ta lt tc, .slice ea le ec]), .bool hz]) (by simp [results, Tryz.results83, go_sem]) rfl ⟨by simp [stPc, stForm], hB⟩
    by_cases h3 : k = 3
    · subst h3
      cases nv
      · go_wp2
        refine bodyPost_ret (v := .tuple #[.iface 145 (.agg #[.int .i64 v, .int .i64 h]), .bool false]) (by simp [results, Tryz.results83, go_sem]) rfl ⟨by simp [stPc, stForm], hB⟩
      · go_wp2
        refine bodyPost_ret (v := .tuple #[.iface 145 (.agg #[.int .i64 v, .int .i64 h]), .bool false]) (by simp [results, Tryz.results83, go_sem]) rfl ⟨by simp [stPc, stForm], hB⟩
    · go_wp2
      refine bodyPost_ret (v := .tuple #[.nilIface, .bool false]) (by simp [results, Tryz.results83, go_sem]) rfl ⟨by simp [stPc, stForm, h1, h2, h3], hB⟩

end Go.Proofs.YthcgdhlemieboaaGreat

namespace Go.Proofs.YthcgdhlemieboaaGreat
open Go.RowKit
set_option linter.unusedSimpArgs false
set_option linter.unusedVariables false

theorem isBelow_any (x n : Int) (w : World) :
    Calls Tryz.prog 18 #[.int .i64 x, .int .i64 n] w fun e w' => e = .returned (.bool (vIn n x)) ∧ w' = w := by
  unfold vIn
  by_cases h : 0 ≤ x
  · go_enter Tryz.func18, Tryz.ntmps18
    go_wp2
    go_ret
    exact ⟨by simp [h], rfl⟩
  · have hd : decide (0 ≤ x) = false := by simpa using h
    go_enter Tryz.func18, Tryz.ntmps18
    go_wp2
    go_ret
    exact ⟨by simp [hd], rfl⟩

theorem numFits_any (a n : Int) (w : World) :
    Calls Tryz.prog 122 #[.agg #[.int .i64 a], .int .i64 n] w fun e w' => e = .returned (.bool (vIn 10 a)) ∧ Below w.heap.size w w' := by
  go_enter Tryz.func122, Tryz.ntmps122
  go_wp2_with (first | (go_at_call 18; refine (isBelow_any _ _ _).mono ?_; rintro e w2 ⟨rfl, hw2⟩; subst w2))
  go_ret
  refine ⟨rfl, ?_⟩
  repeat' (first | exact Below.refl _ _ | assumption | (refine Below.drew ?_) | (refine Below.then ?_ (by assumption) ?_) | (refine Below.alloc ?_ ?_ _) | (refine Below.setCell ?_ ?_ _) | (simp; done) | (simp at *; omega) | omega)
theorem varFits_any (a n : Int) (w : World) :
    Calls Tryz.prog 123 #[.agg #[.int .i64 a], .int .i64 n] w fun e w' => e = .returned (.bool (vIn n a)) ∧ Below w.heap.size w w' := by
  go_enter Tryz.func123, Tryz.ntmps123
  go_wp2_with (first | (go_at_call 18; refine (isBelow_any _ _ _).mono ?_; rintro e w2 ⟨rfl, hw2⟩; subst w2))
  go_ret
  refine ⟨rfl, ?_⟩
  repeat' (first | exact Below.refl _ _ | assumption | (refine Below.drew ?_) | (refine Below.then ?_ (by assumption) ?_) | (refine Below.alloc ?_ ?_ _) | (refine Below.setCell ?_ ?_ _) | (simp; done) | (simp at *; omega) | omega)
theorem sumFits_any (a b n : Int) (w : World) :
    Calls Tryz.prog 124 #[.agg #[.int .i64 a, .int .i64 b], .int .i64 n] w fun e w' => e = .returned (.bool (vIn n a && vIn n b)) ∧ Below w.heap.size w w' := by
  cases ha : vIn n a
  all_goals
    go_enter Tryz.func124, Tryz.ntmps124
    go_wp2_with fail
    go_at_call 18; refine (isBelow_any _ _ _).mono ?_; rintro e w2 ⟨rfl, hw2⟩; subst w2; rw [ha]
    go_wp2_with (first | (go_at_call 18; refine (isBelow_any _ _ _).mono ?_; rintro e w2 ⟨rfl, hw2⟩; subst w2))
    go_ret
    refine ⟨by simp, ?_⟩
    repeat' (first | exact Below.refl _ _ | assumption | (refine Below.drew ?_) | (refine Below.then ?_ (by assumption) ?_) | (refine Below.alloc ?_ ?_ _) | (refine Below.setCell ?_ ?_ _) | (simp; done) | (simp at *; omega) | omega)
theorem sameFits_any (a b n : Int) (w : World) :
    Calls Tryz.prog 125 #[.agg #[.int .i64 a, .int .i64 b], .int .i64 n] w fun e w' => e = .returned (.bool (vIn n a && vIn n b)) ∧ Below w.heap.size w w' := by
  cases ha : vIn n a
  all_goals
    go_enter Tryz.func125, Tryz.ntmps125
    go_wp2_with fail
    go_at_call 18; refine (isBelow_any _ _ _).mono ?_; rintro e w2 ⟨rfl, hw2⟩; subst w2; rw [ha]
    go_wp2_with (first | (go_at_call 18; refine (isBelow_any _ _ _).mono ?_; rintro e w2 ⟨rfl, hw2⟩; subst w2))
    go_ret
    refine ⟨by simp, ?_⟩
    repeat' (first | exact Below.refl _ _ | assumption | (refine Below.drew ?_) | (refine Below.then ?_ (by assumption) ?_) | (refine Below.alloc ?_ ?_ _) | (refine Below.setCell ?_ ?_ _) | (simp; done) | (simp at *; omega) | omega)
theorem ifFits_any (a n : Int) (t e : Value) (ta ea : Option Addr) (lt tc le ec : Nat) (w : World) :
    Calls Tryz.prog 120 #[.agg #[.int .i64 a, .slice ta lt tc, .slice ea le ec], .int .i64 n] w fun e w' => e = .returned (.bool (vIn n a)) ∧ Below w.heap.size w w' := by
  go_enter Tryz.func120, Tryz.ntmps120
  go_wp2_with (first | (go_at_call 18; refine (isBelow_any _ _ _).mono ?_; rintro e w2 ⟨rfl, hw2⟩; subst w2))
  go_ret
  refine ⟨rfl, ?_⟩
  repeat' (first | exact Below.refl _ _ | assumption | (refine Below.drew ?_) | (refine Below.then ?_ (by assumption) ?_) | (refine Below.alloc ?_ ?_ _) | (refine Below.setCell ?_ ?_ _) | (simp; done) | (simp at *; omega) | omega)
theorem tellFits_any (a b n : Int) (w : World) :
    Calls Tryz.prog 121 #[.agg #[.int .i64 a, .int .i64 b], .int .i64 n] w fun e w' => e = .returned (.bool (vIn n a && vIn 3 b)) ∧ Below w.heap.size w w' := by
  cases ha : vIn n a
  all_goals
    go_enter Tryz.func121, Tryz.ntmps121
    go_wp2_with fail
    go_at_call 18; refine (isBelow_any _ _ _).mono ?_; rintro e w2 ⟨rfl, hw2⟩; subst w2; rw [ha]
    go_wp2_with (first | (go_at_call 18; refine (isBelow_any _ _ _).mono ?_; rintro e w2 ⟨rfl, hw2⟩; subst w2))
    go_ret
    refine ⟨by simp, ?_⟩
    repeat' (first | exact Below.refl _ _ | assumption | (refine Below.drew ?_) | (refine Below.then ?_ (by assumption) ?_) | (refine Below.alloc ?_ ?_ _) | (refine Below.setCell ?_ ?_ _) | (simp; done) | (simp at *; omega) | omega)

theorem use_method {n T g : Nat} {v : Value} {nm : String} {w : World} {X : Result (FuncId × Value)} (hX : Sem.run Tryz.prog (method n T v nm) w = X) (h : Sem.run Tryz.prog (method n T v nm) w = .ok (g, v) w) : X = .ok (g, v) w := hX.symm.trans h
def valFit (n vk va vb : Int) : Bool := if vk = 1 then vIn 10 va else if vk = 2 then vIn n va else vIn n va && vIn n vb
set_option maxRecDepth 20000 in
set_option maxHeartbeats 2000000 in
theorem setFits_any (a n vk va vb : Int) (w : World) (hf : valForm vk vb = true) :
    Calls Tryz.prog 119 #[.agg #[.int .i64 a, valPc vk va vb], .int .i64 n] w fun e w' => e = .returned (.bool (vIn n a && valFit n vk va vb)) ∧ Below w.heap.size w w' := by
  have hk : vk = 1 ∨ vk = 2 ∨ vk = 3 ∨ vk = 4 := by
    unfold valForm at hf
    by_cases h : vk = 1 ∨ vk = 2
    · omega
    · rw [if_neg h] at hf; simp at hf; omega
  clear hf
  cases ha : vIn n a
  · rcases hk with rfl | rfl | rfl | rfl
    all_goals
      simp only [valPc, valFit, Int.reduceEq, if_true, if_false, reduceIte]
      go_enter Tryz.func119, Tryz.ntmps119
      go_wp2_with fail
      go_at_call 18; refine (isBelow_any _ _ _).mono ?_; rintro e w2 ⟨rfl, hw2⟩; subst w2; rw [ha]
      go_wp2
      go_ret
      refine ⟨by simp, ?_⟩
      repeat' (first | exact Below.refl _ _ | assumption | (refine Below.drew ?_) | (refine Below.then ?_ (by assumption) ?_) | (refine Below.alloc ?_ ?_ _) | (refine Below.setCell ?_ ?_ _) | (simp; done) | (simp at *; omega) | omega)
  · rcases hk with rfl | rfl | rfl | rfl
    · simp only [valPc, valFit, Int.reduceEq, if_true, if_false, reduceIte]
      go_enter Tryz.func119, Tryz.ntmps119
      go_wp2_with fail
      go_at_call 18; refine (isBelow_any _ _ _).mono ?_; rintro e w2 ⟨rfl, hw2⟩; subst w2; rw [ha]
      go_wp2_with fail
      generalize hX : Sem.run Tryz.prog (method _ _ _ _) _ = X
      have hx := use_method (g := 122) hX (by kernel_rfl)
      clear hX
      subst hx
      go_wp2_with fail
      go_at_call 122; refine (numFits_any _ _ _).mono ?_; rintro e w3 ⟨rfl, hb3⟩
      go_wp2
      go_ret
      refine ⟨by simp, ?_⟩
      repeat' (first | exact Below.refl _ _ | assumption | (refine Below.drew ?_) | (refine Below.then ?_ (by assumption) ?_) | (refine Below.alloc ?_ ?_ _) | (refine Below.setCell ?_ ?_ _) | (simp; done) | (simp at *; omega) | omega)
    · simp only [valPc, valFit, Int.reduceEq, if_true, if_false, reduceIte]
      go_enter Tryz.func119, Tryz.ntmps119
      go_wp2_with fail
      go_at_call 18; refine (isBelow_any _ _ _).mono ?_; rintro e w2 ⟨rfl, hw2⟩; subst w2; rw [ha]
      go_wp2_with fail
      generalize hX : Sem.run Tryz.prog (method _ _ _ _) _ = X
      have hx := use_method (g := 123) hX (by kernel_rfl)
      clear hX
      subst hx
      go_wp2_with fail
      go_at_call 123; refine (varFits_any _ _ _).mono ?_; rintro e w3 ⟨rfl, hb3⟩
      go_wp2
      go_ret
      refine ⟨by simp, ?_⟩
      repeat' (first | exact Below.refl _ _ | assumption | (refine Below.drew ?_) | (refine Below.then ?_ (by assumption) ?_) | (refine Below.alloc ?_ ?_ _) | (refine Below.setCell ?_ ?_ _) | (simp; done) | (simp at *; omega) | omega)
    · simp only [valPc, valFit, Int.reduceEq, if_true, if_false, reduceIte]
      go_enter Tryz.func119, Tryz.ntmps119
      go_wp2_with fail
      go_at_call 18; refine (isBelow_any _ _ _).mono ?_; rintro e w2 ⟨rfl, hw2⟩; subst w2; rw [ha]
      go_wp2_with fail
      generalize hX : Sem.run Tryz.prog (method _ _ _ _) _ = X
      have hx := use_method (g := 124) hX (by kernel_rfl)
      clear hX
      subst hx
      go_wp2_with fail
      go_at_call 124; refine (sumFits_any _ _ _ _).mono ?_; rintro e w3 ⟨rfl, hb3⟩
      go_wp2
      go_ret
      refine ⟨by simp, ?_⟩
      repeat' (first | exact Below.refl _ _ | assumption | (refine Below.drew ?_) | (refine Below.then ?_ (by assumption) ?_) | (refine Below.alloc ?_ ?_ _) | (refine Below.setCell ?_ ?_ _) | (simp; done) | (simp at *; omega) | omega)
    · simp only [valPc, valFit, Int.reduceEq, if_true, if_false, reduceIte]
      go_enter Tryz.func119, Tryz.ntmps119
      go_wp2_with fail
      go_at_call 18; refine (isBelow_any _ _ _).mono ?_; rintro e w2 ⟨rfl, hw2⟩; subst w2; rw [ha]
      go_wp2_with fail
      generalize hX : Sem.run Tryz.prog (method _ _ _ _) _ = X
      have hx := use_method (g := 125) hX (by kernel_rfl)
      clear hX
      subst hx
      go_wp2_with fail
      go_at_call 125; refine (sameFits_any _ _ _ _).mono ?_; rintro e w3 ⟨rfl, hb3⟩
      go_wp2
      go_ret
      refine ⟨by simp, ?_⟩
      repeat' (first | exact Below.refl _ _ | assumption | (refine Below.drew ?_) | (refine Below.then ?_ (by assumption) ?_) | (refine Below.alloc ?_ ?_ _) | (refine Below.setCell ?_ ?_ _) | (simp; done) | (simp at *; omega) | omega)

end Go.Proofs.YthcgdhlemieboaaGreat

namespace Go.Proofs.YthcgdhlemieboaaGreat
open Go.RowKit
set_option linter.unusedSimpArgs false
set_option linter.unusedVariables false

def cells8 (p : Pay) (t e : Value) : List Value := [.int .i64 p.k, .int .i64 p.v, .int .i64 p.vk, .int .i64 p.va, .int .i64 p.vb, .int .i64 p.h, t, e]
def flat : (d : Nat) → Tr d → List (Σ k, Pay × Tr k × Tr k)
  | 0, _ => []
  | d + 1, (l : List (Pay × Tr d × Tr d)) => l.flatMap fun x => ⟨d, x⟩ :: (flat d x.2.1 ++ flat d x.2.2)
def FlatR (W : World) : List (Σ k, Pay × Tr k × Tr k) → List Value → Prop
  | [], xs => xs = []
  | x :: fs, xs => ∃ t e ys, xs = cells8 x.2.1 t e ++ ys ∧ Rep W x.1 t x.2.2.1 ∧ Rep W x.1 e x.2.2.2 ∧ FlatR W fs ys
theorem FlatR.app {W : World} : ∀ {fs gs : List (Σ k, Pay × Tr k × Tr k)} {xs ys : List Value}, FlatR W fs xs → FlatR W gs ys → FlatR W (fs ++ gs) (xs ++ ys)
  | [], gs, xs, ys, h, k => by
    have h' : xs = [] := h
    subst h'; exact k
  | x :: fs, gs, xs, ys, h, k => by
    obtain ⟨t, e, zs, rfl, r1, r2, h⟩ := h
    exact ⟨t, e, zs ++ ys, by simp, r1, r2, FlatR.app h k⟩
theorem flat_length : ∀ (d : Nat) (T : Tr d), (flat d T).length = cnt d T
  | 0, _ => rfl
  | d + 1, (l : List (Pay × Tr d × Tr d)) => by
    show (l.flatMap fun x => (⟨d, x⟩ : Σ k, Pay × Tr k × Tr k) :: (flat d x.2.1 ++ flat d x.2.2)).length = (l.map fun x => 1 + cnt d x.2.1 + cnt d x.2.2).sum
    rw [List.length_flatMap]
    congr 1
    apply List.map_congr_left
    intro x _
    simp [flat_length d]; omega
theorem flat_take {d : Nat} (l : List (Pay × Tr d × Tr d)) (i : Nat) (hi : i < l.length) : flat (d + 1) (l.take (i + 1) : List (Pay × Tr d × Tr d)) = flat (d + 1) (l.take i : List (Pay × Tr d × Tr d)) ++ (⟨d, l[i]⟩ :: (flat d l[i].2.1 ++ flat d l[i].2.2)) := by
  show (l.take (i + 1)).flatMap _ = (l.take i).flatMap _ ++ _
  rw [List.take_succ_eq_append_getElem hi, List.flatMap_append]; simp

theorem payB_form (n : Int) (p : Pay) (z : Bool) :
    payB n p z = (stForm p.k (valForm p.vk p.vb) (decide (p.vk = 0 ∧ p.va = 0 ∧ p.vb = 0)) (decide (p.h = 0)) z &&
      (if p.k = 1 then vIn n p.v && valFit n p.vk p.va p.vb else if p.k = 2 then vIn n p.v else vIn n p.v && vIn 3 p.h)) := by
  obtain ⟨k, v, vk, va, vb, h⟩ := p
  unfold payB stForm
  dsimp only
  by_cases h1 : k = 1
  · subst h1
    simp only [if_true]
    have : valB n vk va vb = (valForm vk vb && valFit n vk va vb) := by
      unfold valB valForm valFit
      by_cases a1 : vk = 1
      · subst a1; simp [Bool.and_comm]
      by_cases a2 : vk = 2
      · subst a2; simp [Bool.and_comm]
      · simp [a1, a2]
    rw [this]
    cases vIn n v <;> cases valForm vk vb <;> cases valFit n vk va vb <;> cases decide (h = 0) <;> cases z <;> rfl
  by_cases h2 : k = 2
  · subst h2
    simp [nonV]
    cases vIn n v <;> simp [Bool.and_assoc]
  by_cases h3 : k = 3
  · subst h3
    simp [nonV]
    cases vIn n v <;> cases vIn 3 h <;> cases z <;> simp [Bool.and_assoc]
  · simp [h1, h2, h3]

end Go.Proofs.YthcgdhlemieboaaGreat

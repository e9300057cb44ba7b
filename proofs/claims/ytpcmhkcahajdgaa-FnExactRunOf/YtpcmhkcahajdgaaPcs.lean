/- What the program makes of a step: one of its kind. -/
import Derived.Test.YtpcmhkcahajdgaaPcv
namespace Go.Proofs.Ytpcmhkcahajdgaa
open Go.RowKit
set_option linter.unusedSimpArgs false
set_option linter.unusedVariables false
attribute [local go_sem ↓] Go.wp_at_zero Go.wp_at_succ

def stPc (k v vk va vb h : Int) (t e : Value) : Value :=
  if k = 1 then .iface 169 (.agg #[.int .i64 v, valPc vk va vb]) else if k = 2 then .iface 171 (.agg #[.int .i64 v, t, e])
  else if k = 3 then .iface 173 (.agg #[.int .i64 v, .int .i64 h]) else .nilIface
def stForm (k : Int) (f nv hz z : Bool) : Bool := if k = 1 then f && hz && z else if k = 2 then nv && hz else if k = 3 then nv && z else false
theorem valPc_cases (vk va vb : Int) : (∃ ty x, valPc vk va vb = .iface ty x) ∨ valPc vk va vb = .nilIface := by
  unfold valPc
  split
  · exact .inl ⟨_, _, rfl⟩
  split
  · exact .inl ⟨_, _, rfl⟩
  split
  · exact .inl ⟨_, _, rfl⟩
  split
  · exact .inl ⟨_, _, rfl⟩
  · exact .inr rfl
theorem stS (w : World) (k v vk va vb h : Int) (ta : Option Addr) (lt tc : Nat) (ea : Option Addr) (le ec : Nat) : (w.alloc (.cells #[.int .i64 k, .int .i64 v, .int .i64 vk, .int .i64 va, .int .i64 vb, .int .i64 h, .slice ta lt tc, .slice ea le ec] 34)).drew.cell? ⟨w.heap.size, 0, none⟩ = some (.int .i64 k) ∧ (w.alloc (.cells #[.int .i64 k, .int .i64 v, .int .i64 vk, .int .i64 va, .int .i64 vb, .int .i64 h, .slice ta lt tc, .slice ea le ec] 34)).drew.cell? ⟨w.heap.size, 1, none⟩ = some (.int .i64 v) ∧ (w.alloc (.cells #[.int .i64 k, .int .i64 v, .int .i64 vk, .int .i64 va, .int .i64 vb, .int .i64 h, .slice ta lt tc, .slice ea le ec] 34)).drew.cell? ⟨w.heap.size, 2, none⟩ = some (.int .i64 vk) ∧ (w.alloc (.cells #[.int .i64 k, .int .i64 v, .int .i64 vk, .int .i64 va, .int .i64 vb, .int .i64 h, .slice ta lt tc, .slice ea le ec] 34)).drew.cell? ⟨w.heap.size, 3, none⟩ = some (.int .i64 va) ∧ (w.alloc (.cells #[.int .i64 k, .int .i64 v, .int .i64 vk, .int .i64 va, .int .i64 vb, .int .i64 h, .slice ta lt tc, .slice ea le ec] 34)).drew.cell? ⟨w.heap.size, 4, none⟩ = some (.int .i64 vb) ∧ (w.alloc (.cells #[.int .i64 k, .int .i64 v, .int .i64 vk, .int .i64 va, .int .i64 vb, .int .i64 h, .slice ta lt tc, .slice ea le ec] 34)).drew.cell? ⟨w.heap.size, 5, none⟩ = some (.int .i64 h) ∧ (w.alloc (.cells #[.int .i64 k, .int .i64 v, .int .i64 vk, .int .i64 va, .int .i64 vb, .int .i64 h, .slice ta lt tc, .slice ea le ec] 34)).drew.cell? ⟨w.heap.size, 6, none⟩ = some (.slice ta lt tc) ∧ (w.alloc (.cells #[.int .i64 k, .int .i64 v, .int .i64 vk, .int .i64 va, .int .i64 vb, .int .i64 h, .slice ta lt tc, .slice ea le ec] 34)).drew.cell? ⟨w.heap.size, 7, none⟩ = some (.slice ea le ec) ∧ Below w.heap.size w (w.alloc (.cells #[.int .i64 k, .int .i64 v, .int .i64 vk, .int .i64 va, .int .i64 vb, .int .i64 h, .slice ta lt tc, .slice ea le ec] 34)).drew := by
  refine ⟨by go_simp, by go_simp, by go_simp, by go_simp, by go_simp, by go_simp, by go_simp, by go_simp, ((Below.refl _ _).alloc (Nat.le_refl _) _).drew⟩

set_option maxHeartbeats 4000000 in
theorem stPiece_of (k v vk va vb h : Int) (ta ea : Option Addr) (lt tc le ec : Nat) (nv hz z : Bool) (w : World)
    (hnv : nv = decide (vk = 0 ∧ va = 0 ∧ vb = 0)) (hhz : hz = decide (h = 0)) (hz' : z = decide (lt = 0 ∧ le = 0)) :
    Calls Try.prog 128 #[.agg #[.int .i64 k, .int .i64 v, .int .i64 vk, .int .i64 va, .int .i64 vb, .int .i64 h, .slice ta lt tc, .slice ea le ec]] w
      fun e w' => e = .returned (.tuple #[stPc k v vk va vb h (.slice ta lt tc) (.slice ea le ec), .bool (stForm k (valForm vk vb) nv hz z)]) ∧ Below w.heap.size w w' := by
  have split : (vk = 0 ∧ va = 0 ∧ vb = 0) ∨ (¬ vk = 0) ∨ (vk = 0 ∧ ¬ va = 0) ∨ (vk = 0 ∧ va = 0 ∧ ¬ vb = 0) := by omega
  have HN : Hid (nv = decide (vk = 0 ∧ va = 0 ∧ vb = 0)) := hnv
  have HZ : Hid (hz = decide (h = 0)) := hhz
  clear hnv hhz
  by_cases hl : lt = 0
  · subst hl
    have HL : Hid (z = ((le : Int) == 0)) := (show z = ((le : Int) == 0) by rw [hz', beq_dec]; simp)
    clear hz'
    go_enter Try.func128, Try.ntmps128
    go_wp2_with fail
    refine wp_region_held (S := (fun wz => wz.cell? ⟨w.heap.size, 0, none⟩ = some (.int .i64 k) ∧ wz.cell? ⟨w.heap.size, 1, none⟩ = some (.int .i64 v) ∧ wz.cell? ⟨w.heap.size, 2, none⟩ = some (.int .i64 vk) ∧ wz.cell? ⟨w.heap.size, 3, none⟩ = some (.int .i64 va) ∧ wz.cell? ⟨w.heap.size, 4, none⟩ = some (.int .i64 vb) ∧ wz.cell? ⟨w.heap.size, 5, none⟩ = some (.int .i64 h) ∧ wz.cell? ⟨w.heap.size, 6, none⟩ = some (.slice ta 0 tc) ∧ wz.cell? ⟨w.heap.size, 7, none⟩ = some (.slice ea le ec) ∧ Below w.heap.size w wz)) (by kernel_rfl) ?_
    change wpAnyH _ _ _ _ _ _ _ _ (World.drew _)
    have hHeld := stS w k v vk va vb h ta 0 tc ea le ec
    refine' wpAnyH_take (i := 0) (v := _) rfl (by kernel_rfl) (by kernel_rfl) (by kernel_rfl) (fun _ _ _ h => h) (Or.inl ⟨by rfl, ?hy1⟩) hHeld ?hn1
    case hy1 => (intro wz hSw; (try dsimp only at hSw); go_simp; first | done | with_reducible rfl)
    try simp only [List.getElem_toArray, List.getElem_cons_zero, List.getElem_cons_succ, Act.put, List.setIfInBounds_toArray, List.set_cons_zero, List.set_cons_succ]
    refine' wpAnyH_take (i := 1) (v := _) rfl (by kernel_rfl) (by kernel_rfl) (by kernel_rfl) (fun _ _ _ h => h) (Or.inl ⟨by rfl, ?hy2⟩) hHeld ?hn2
    case hy2 => (intro wz hSw; (try dsimp only at hSw); go_simp; first | done | with_reducible rfl)
    try simp only [List.getElem_toArray, List.getElem_cons_zero, List.getElem_cons_succ, Act.put, List.setIfInBounds_toArray, List.set_cons_zero, List.set_cons_succ]
    refine' wpAnyH_take (i := 2) (v := _) rfl (by kernel_rfl) (by kernel_rfl) (by kernel_rfl) (fun _ _ _ h => h) (Or.inl ⟨by rfl, ?hy3⟩) hHeld ?hn3
    case hy3 => (intro wz hSw; (try dsimp only at hSw); go_simp; first | done | with_reducible rfl)
    try simp only [List.getElem_toArray, List.getElem_cons_zero, List.getElem_cons_succ, Act.put, List.setIfInBounds_toArray, List.set_cons_zero, List.set_cons_succ]
    refine' wpAnyH_take (i := 3) (v := .bool nv) rfl (by kernel_rfl) (by kernel_rfl) (by kernel_rfl) (fun _ _ _ h => h) (Or.inl ⟨by rfl, ?hy4⟩) hHeld ?hn4
    case hy4 => (intro wz hSw; (try dsimp only at hSw); rcases split with ⟨rfl, rfl, rfl⟩ | s1 | ⟨rfl, s1⟩ | ⟨rfl, rfl, s1⟩ <;> rw [HN.out] <;> go_simp)
    try simp only [List.getElem_toArray, List.getElem_cons_zero, List.getElem_cons_succ, Act.put, List.setIfInBounds_toArray, List.set_cons_zero, List.set_cons_succ]
    refine' wpAnyH_take (i := 7) (v := _) rfl (by kernel_rfl) (by kernel_rfl) (by kernel_rfl) (fun _ _ _ h => h) (Or.inl ⟨by rfl, ?hy5⟩) hHeld ?hn5
    case hy5 => (intro wz hSw; (try dsimp only at hSw); go_simp; first | done | with_reducible rfl)
    try simp only [List.getElem_toArray, List.getElem_cons_zero, List.getElem_cons_succ, Act.put, List.setIfInBounds_toArray, List.set_cons_zero, List.set_cons_succ]
    refine' wpAnyH_take (i := 8) (v := _) rfl (by kernel_rfl) (by kernel_rfl) (by kernel_rfl) (fun _ _ _ h => h) (Or.inl ⟨by rfl, ?hy6⟩) hHeld ?hn6
    case hy6 => (intro wz hSw; (try dsimp only at hSw); go_simp; first | done | with_reducible rfl)
    try simp only [List.getElem_toArray, List.getElem_cons_zero, List.getElem_cons_succ, Act.put, List.setIfInBounds_toArray, List.set_cons_zero, List.set_cons_succ]
    refine' wpAnyH_take (i := 9) (v := _) rfl (by kernel_rfl) (by kernel_rfl) (by kernel_rfl) (fun _ _ _ h => h) (Or.inl ⟨by rfl, ?hy7⟩) hHeld ?hn7
    case hy7 => (intro wz hSw; (try dsimp only at hSw); go_simp; first | done | with_reducible rfl)
    try simp only [List.getElem_toArray, List.getElem_cons_zero, List.getElem_cons_succ, Act.put, List.setIfInBounds_toArray, List.set_cons_zero, List.set_cons_succ]
    refine' wpAnyH_take (i := 10) (v := _) rfl (by kernel_rfl) (by kernel_rfl) (by kernel_rfl) (fun _ _ _ h => h) (Or.inl ⟨by rfl, ?hy8⟩) hHeld ?hn8
    case hy8 => (intro wz hSw; (try dsimp only at hSw); go_simp; first | done | with_reducible rfl)
    try simp only [List.getElem_toArray, List.getElem_cons_zero, List.getElem_cons_succ, Act.put, List.setIfInBounds_toArray, List.set_cons_zero, List.set_cons_succ]
    refine' wpAnyH_take (i := 11) (v := _) rfl (by kernel_rfl) (by kernel_rfl) (by kernel_rfl) (fun _ _ _ h => h) (Or.inl ⟨by rfl, ?hy9⟩) hHeld ?hn9
    case hy9 => (intro wz hSw; (try dsimp only at hSw); go_simp; first | done | with_reducible rfl)
    try simp only [List.getElem_toArray, List.getElem_cons_zero, List.getElem_cons_succ, Act.put, List.setIfInBounds_toArray, List.set_cons_zero, List.set_cons_succ]
    refine' wpAnyH_take (i := 12) (v := _) rfl (by kernel_rfl) (by kernel_rfl) (by kernel_rfl) (fun _ _ _ h => h) (Or.inl ⟨by rfl, ?hy10⟩) hHeld ?hn10
    case hy10 => (intro wz hSw; (try dsimp only at hSw); go_simp; first | done | with_reducible rfl)
    try simp only [List.getElem_toArray, List.getElem_cons_zero, List.getElem_cons_succ, Act.put, List.setIfInBounds_toArray, List.set_cons_zero, List.set_cons_succ]
    refine' wpAnyH_take (i := 13) (v := _) rfl (by kernel_rfl) (by kernel_rfl) (by kernel_rfl) (fun _ _ _ h => h) (Or.inl ⟨by rfl, ?hy11⟩) hHeld ?hn11
    case hy11 => (intro wz hSw; (try dsimp only at hSw); go_simp; first | done | with_reducible rfl)
    try simp only [List.getElem_toArray, List.getElem_cons_zero, List.getElem_cons_succ, Act.put, List.setIfInBounds_toArray, List.set_cons_zero, List.set_cons_succ]
    refine' wpAnyH_take (i := 14) (v := _) rfl (by kernel_rfl) (by kernel_rfl) (by kernel_rfl) (fun _ _ _ h => h) (Or.inl ⟨by rfl, ?hy12⟩) hHeld ?hn12
    case hy12 => (intro wz hSw; (try dsimp only at hSw); go_simp; first | done | with_reducible rfl)
    try simp only [List.getElem_toArray, List.getElem_cons_zero, List.getElem_cons_succ, Act.put, List.setIfInBounds_toArray, List.set_cons_zero, List.set_cons_succ]
    refine' wpAnyH_take (i := 17) (v := _) rfl (by kernel_rfl) (by kernel_rfl) (by kernel_rfl) (fun _ _ _ h => h) (Or.inl ⟨by rfl, ?hy13⟩) hHeld ?hn13
    case hy13 => (intro wz hSw; (try dsimp only at hSw); go_simp; first | done | with_reducible rfl)
    try simp only [List.getElem_toArray, List.getElem_cons_zero, List.getElem_cons_succ, Act.put, List.setIfInBounds_toArray, List.set_cons_zero, List.set_cons_succ]
    refine' wpAnyH_take (i := 4) (v := _) rfl (by kernel_rfl) (by kernel_rfl) (by kernel_rfl) (fun _ _ _ h => h) (Or.inl ⟨by rfl, ?hy14⟩) hHeld ?hn14
    case hy14 => (intro wz hSw; (try dsimp only at hSw); go_simp; first | done | with_reducible rfl)
    try simp only [List.getElem_toArray, List.getElem_cons_zero, List.getElem_cons_succ, Act.put, List.setIfInBounds_toArray, List.set_cons_zero, List.set_cons_succ]
    refine' wpAnyH_take (i := 5) (v := _) rfl (by kernel_rfl) (by kernel_rfl) (by kernel_rfl) (fun _ _ _ h => h) (Or.inl ⟨by rfl, ?hy15⟩) hHeld ?hn15
    case hy15 => (intro wz hSw; (try dsimp only at hSw); go_simp; first | done | with_reducible rfl)
    try simp only [List.getElem_toArray, List.getElem_cons_zero, List.getElem_cons_succ, Act.put, List.setIfInBounds_toArray, List.set_cons_zero, List.set_cons_succ]
    refine' wpAnyH_take (i := 6) (v := .bool hz) rfl (by kernel_rfl) (by kernel_rfl) (by kernel_rfl) (fun _ _ _ h => h) (Or.inl ⟨by rfl, ?hy16⟩) hHeld ?hn16
    case hy16 => (intro wz hSw; (try dsimp only at hSw); rw [HZ.out, ← beq_dec]; go_simp)
    try simp only [List.getElem_toArray, List.getElem_cons_zero, List.getElem_cons_succ, Act.put, List.setIfInBounds_toArray, List.set_cons_zero, List.set_cons_succ]
    refine' wpAnyH_take (i := 18) (v := _) rfl (by kernel_rfl) (by kernel_rfl) (by kernel_rfl) (fun _ _ _ h => h) (Or.inl ⟨by rfl, ?hy17⟩) hHeld ?hn17
    case hy17 => (intro wz hSw; (try dsimp only at hSw); go_simp; first | done | with_reducible rfl)
    try simp only [List.getElem_toArray, List.getElem_cons_zero, List.getElem_cons_succ, Act.put, List.setIfInBounds_toArray, List.set_cons_zero, List.set_cons_succ]
    refine' wpAnyH_take (i := 15) (v := .bool z) rfl (by kernel_rfl) (by kernel_rfl) (by kernel_rfl) (fun _ _ _ h => h) (Or.inl ⟨by rfl, ?hy18⟩) hHeld ?hn18
    case hy18 => (intro wz hSw; (try dsimp only at hSw); rw [HL.out]; go_simp)
    try simp only [List.getElem_toArray, List.getElem_cons_zero, List.getElem_cons_succ, Act.put, List.setIfInBounds_toArray, List.set_cons_zero, List.set_cons_succ]
    refine' wpAnyH_take (i := 16) (v := _) rfl (by kernel_rfl) (by kernel_rfl) (by kernel_rfl) (fun _ _ _ h => h) (Or.inl ⟨by rfl, ?hy19⟩) hHeld ?hn19
    case hy19 => (intro wz hSw; (try dsimp only at hSw); go_simp; first | done | with_reducible rfl)
    try simp only [List.getElem_toArray, List.getElem_cons_zero, List.getElem_cons_succ, Act.put, List.setIfInBounds_toArray, List.set_cons_zero, List.set_cons_succ]
    refine' wpAnyH_take (i := 19) (v := _) rfl (by kernel_rfl) (by kernel_rfl) (by kernel_rfl) (fun _ _ _ h => h) (Or.inl ⟨by rfl, ?hy20⟩) hHeld ?hn20
    case hy20 => (intro wz hSw; (try dsimp only at hSw); go_simp; first | done | with_reducible rfl)
    try simp only [List.getElem_toArray, List.getElem_cons_zero, List.getElem_cons_succ, Act.put, List.setIfInBounds_toArray, List.set_cons_zero, List.set_cons_succ]
    refine wpAnyH_done (by kernel_rfl) ?_ _
    have hB := hHeld.2.2.2.2.2.2.2.2
    have hs := hB.size
    obtain ⟨u0, u1, u2, u3, u4, u5, u6, u7, _⟩ := hHeld
    clear split
    by_cases h1 : k = 1
    · subst h1
      go_wp2_with fail
      go_at_call 143; refine (valPiece_any _ _ _ _).mono ?_; rintro e w3 ⟨rfl, hb3⟩
      replace u0 := cell_later hb3 u0
      replace u1 := cell_later hb3 u1
      clear u2 u3 u4 u5 u6 u7
      rcases valPc_cases vk va vb with ⟨ty, x, hp⟩ | hp
      · rw [hp]
        cases hf : valForm vk vb
        · cases hz
          · go_wp2
            refine bodyPost_ret (v := .tuple #[.iface 169 (.agg #[.int .i64 v, .iface ty x]), .bool false]) (by simp [results, Try.results128, go_sem]) rfl ⟨by simp [stPc, stForm, hp, hf], Below.then hB hb3 (by omega)⟩
          · go_wp2
            refine bodyPost_ret (v := .tuple #[.iface 169 (.agg #[.int .i64 v, .iface ty x]), .bool false]) (by simp [results, Try.results128, go_sem]) rfl ⟨by simp [stPc, stForm, hp, hf], Below.then hB hb3 (by omega)⟩
        · cases hz
          · go_wp2
            refine bodyPost_ret (v := .tuple #[.iface 169 (.agg #[.int .i64 v, .iface ty x]), .bool false]) (by simp [results, Try.results128, go_sem]) rfl ⟨by simp [stPc, stForm, hp, hf], Below.then hB hb3 (by omega)⟩
          · go_wp2
            refine bodyPost_ret (v := .tuple #[.iface 169 (.agg #[.int .i64 v, .iface ty x]), .bool z]) (by simp [results, Try.results128, go_sem]) rfl ⟨by simp [stPc, stForm, hp, hf], Below.then hB hb3 (by omega)⟩
      · rw [hp]
        cases hf : valForm vk vb
        · cases hz
          · go_wp2
            refine bodyPost_ret (v := .tuple #[.iface 169 (.agg #[.int .i64 v, .nilIface]), .bool false]) (by simp [results, Try.results128, go_sem]) rfl ⟨by simp [stPc, stForm, hp, hf], Below.then hB hb3 (by omega)⟩
          · go_wp2
            refine bodyPost_ret (v := .tuple #[.iface 169 (.agg #[.int .i64 v, .nilIface]), .bool false]) (by simp [results, Try.results128, go_sem]) rfl ⟨by simp [stPc, stForm, hp, hf], Below.then hB hb3 (by omega)⟩
        · cases hz
          · go_wp2
            refine bodyPost_ret (v := .tuple #[.iface 169 (.agg #[.int .i64 v, .nilIface]), .bool false]) (by simp [results, Try.results128, go_sem]) rfl ⟨by simp [stPc, stForm, hp, hf], Below.then hB hb3 (by omega)⟩
          · go_wp2
            refine bodyPost_ret (v := .tuple #[.iface 169 (.agg #[.int .i64 v, .nilIface]), .bool z]) (by simp [results, Try.results128, go_sem]) rfl ⟨by simp [stPc, stForm, hp, hf], Below.then hB hb3 (by omega)⟩
    by_cases h2 : k = 2
    · subst h2
      cases nv
      · go_wp2
        refine bodyPost_ret (v := .tuple #[.iface 171 (.agg #[.int .i64 v, .slice ta 0 tc, .slice ea le ec]), .bool false]) (by simp [results, Try.results128, go_sem]) rfl ⟨by simp [stPc, stForm], hB⟩
      · go_wp2
        refine bodyPost_ret (v := .tuple #[.iface 171 (.agg #[.int .i64 v, .slice ta 0 tc, .slice ea le ec]), .bool hz]) (by simp [results, Try.results128, go_sem]) rfl ⟨by simp [stPc, stForm], hB⟩
    by_cases h3 : k = 3
    · subst h3
      cases nv
      · go_wp2
        refine bodyPost_ret (v := .tuple #[.iface 173 (.agg #[.int .i64 v, .int .i64 h]), .bool false]) (by simp [results, Try.results128, go_sem]) rfl ⟨by simp [stPc, stForm], hB⟩
      · go_wp2
        refine bodyPost_ret (v := .tuple #[.iface 173 (.agg #[.int .i64 v, .int .i64 h]), .bool z]) (by simp [results, Try.results128, go_sem]) rfl ⟨by simp [stPc, stForm], hB⟩
    · go_wp2
      refine bodyPost_ret (v := .tuple #[.nilIface, .bool false]) (by simp [results, Try.results128, go_sem]) rfl ⟨by simp [stPc, stForm, h1, h2, h3], hB⟩
  · have hz0 : z = false := by rw [hz']; simp [hl]
    subst hz0
    clear hz'
    have hl' : ¬ (lt : Int) = 0 := by omega
    go_enter Try.func128, Try.ntmps128
    go_wp2_with fail
    refine wp_region_held (S := (fun wz => wz.cell? ⟨w.heap.size, 0, none⟩ = some (.int .i64 k) ∧ wz.cell? ⟨w.heap.size, 1, none⟩ = some (.int .i64 v) ∧ wz.cell? ⟨w.heap.size, 2, none⟩ = some (.int .i64 vk) ∧ wz.cell? ⟨w.heap.size, 3, none⟩ = some (.int .i64 va) ∧ wz.cell? ⟨w.heap.size, 4, none⟩ = some (.int .i64 vb) ∧ wz.cell? ⟨w.heap.size, 5, none⟩ = some (.int .i64 h) ∧ wz.cell? ⟨w.heap.size, 6, none⟩ = some (.slice ta lt tc) ∧ wz.cell? ⟨w.heap.size, 7, none⟩ = some (.slice ea le ec) ∧ Below w.heap.size w wz)) (by kernel_rfl) ?_
    change wpAnyH _ _ _ _ _ _ _ _ (World.drew _)
    have hHeld := stS w k v vk va vb h ta lt tc ea le ec
    refine' wpAnyH_take (i := 0) (v := _) rfl (by kernel_rfl) (by kernel_rfl) (by kernel_rfl) (fun _ _ _ h => h) (Or.inl ⟨by rfl, ?hy21⟩) hHeld ?hn21
    case hy21 => (intro wz hSw; (try dsimp only at hSw); go_simp; first | done | with_reducible rfl)
    try simp only [List.getElem_toArray, List.getElem_cons_zero, List.getElem_cons_succ, Act.put, List.setIfInBounds_toArray, List.set_cons_zero, List.set_cons_succ]
    refine' wpAnyH_take (i := 1) (v := _) rfl (by kernel_rfl) (by kernel_rfl) (by kernel_rfl) (fun _ _ _ h => h) (Or.inl ⟨by rfl, ?hy22⟩) hHeld ?hn22
    case hy22 => (intro wz hSw; (try dsimp only at hSw); go_simp; first | done | with_reducible rfl)
    try simp only [List.getElem_toArray, List.getElem_cons_zero, List.getElem_cons_succ, Act.put, List.setIfInBounds_toArray, List.set_cons_zero, List.set_cons_succ]
    refine' wpAnyH_take (i := 2) (v := _) rfl (by kernel_rfl) (by kernel_rfl) (by kernel_rfl) (fun _ _ _ h => h) (Or.inl ⟨by rfl, ?hy23⟩) hHeld ?hn23
    case hy23 => (intro wz hSw; (try dsimp only at hSw); go_simp; first | done | with_reducible rfl)
    try simp only [List.getElem_toArray, List.getElem_cons_zero, List.getElem_cons_succ, Act.put, List.setIfInBounds_toArray, List.set_cons_zero, List.set_cons_succ]
    refine' wpAnyH_take (i := 3) (v := .bool nv) rfl (by kernel_rfl) (by kernel_rfl) (by kernel_rfl) (fun _ _ _ h => h) (Or.inl ⟨by rfl, ?hy24⟩) hHeld ?hn24
    case hy24 => (intro wz hSw; (try dsimp only at hSw); rcases split with ⟨rfl, rfl, rfl⟩ | s1 | ⟨rfl, s1⟩ | ⟨rfl, rfl, s1⟩ <;> rw [HN.out] <;> go_simp)
    try simp only [List.getElem_toArray, List.getElem_cons_zero, List.getElem_cons_succ, Act.put, List.setIfInBounds_toArray, List.set_cons_zero, List.set_cons_succ]
    refine' wpAnyH_take (i := 7) (v := _) rfl (by kernel_rfl) (by kernel_rfl) (by kernel_rfl) (fun _ _ _ h => h) (Or.inl ⟨by rfl, ?hy25⟩) hHeld ?hn25
    case hy25 => (intro wz hSw; (try dsimp only at hSw); go_simp; first | done | with_reducible rfl)
    try simp only [List.getElem_toArray, List.getElem_cons_zero, List.getElem_cons_succ, Act.put, List.setIfInBounds_toArray, List.set_cons_zero, List.set_cons_succ]
    refine' wpAnyH_take (i := 8) (v := _) rfl (by kernel_rfl) (by kernel_rfl) (by kernel_rfl) (fun _ _ _ h => h) (Or.inl ⟨by rfl, ?hy26⟩) hHeld ?hn26
    case hy26 => (intro wz hSw; (try dsimp only at hSw); go_simp; first | done | with_reducible rfl)
    try simp only [List.getElem_toArray, List.getElem_cons_zero, List.getElem_cons_succ, Act.put, List.setIfInBounds_toArray, List.set_cons_zero, List.set_cons_succ]
    refine' wpAnyH_take (i := 9) (v := _) rfl (by kernel_rfl) (by kernel_rfl) (by kernel_rfl) (fun _ _ _ h => h) (Or.inl ⟨by rfl, ?hy27⟩) hHeld ?hn27
    case hy27 => (intro wz hSw; (try dsimp only at hSw); go_simp; first | done | with_reducible rfl)
    try simp only [List.getElem_toArray, List.getElem_cons_zero, List.getElem_cons_succ, Act.put, List.setIfInBounds_toArray, List.set_cons_zero, List.set_cons_succ]
    refine' wpAnyH_take (i := 10) (v := .bool false) rfl (by kernel_rfl) (by kernel_rfl) (by kernel_rfl) (fun _ _ _ h => h) (Or.inl ⟨by rfl, ?hy28⟩) hHeld ?hn28
    case hy28 => (intro wz hSw; (try dsimp only at hSw); go_simp)
    try simp only [List.getElem_toArray, List.getElem_cons_zero, List.getElem_cons_succ, Act.put, List.setIfInBounds_toArray, List.set_cons_zero, List.set_cons_succ]
    refine' wpAnyH_take (i := 11) (v := _) rfl (by kernel_rfl) (by kernel_rfl) (by kernel_rfl) (fun _ _ _ h => h) (Or.inl ⟨by rfl, ?hy29⟩) hHeld ?hn29
    case hy29 => (intro wz hSw; (try dsimp only at hSw); go_simp; first | done | with_reducible rfl)
    try simp only [List.getElem_toArray, List.getElem_cons_zero, List.getElem_cons_succ, Act.put, List.setIfInBounds_toArray, List.set_cons_zero, List.set_cons_succ]
    refine' wpAnyH_take (i := 12) (v := undef) rfl (by kernel_rfl) (by kernel_rfl) (by kernel_rfl) (fun _ _ _ h => h) (Or.inr ⟨by rfl, rfl⟩) hHeld ?hn30
    try simp only [List.getElem_toArray, List.getElem_cons_zero, List.getElem_cons_succ, Act.put, List.setIfInBounds_toArray, List.set_cons_zero, List.set_cons_succ]
    refine' wpAnyH_take (i := 13) (v := undef) rfl (by kernel_rfl) (by kernel_rfl) (by kernel_rfl) (fun _ _ _ h => h) (Or.inr ⟨by rfl, rfl⟩) hHeld ?hn31
    try simp only [List.getElem_toArray, List.getElem_cons_zero, List.getElem_cons_succ, Act.put, List.setIfInBounds_toArray, List.set_cons_zero, List.set_cons_succ]
    refine' wpAnyH_take (i := 14) (v := undef) rfl (by kernel_rfl) (by kernel_rfl) (by kernel_rfl) (fun _ _ _ h => h) (Or.inr ⟨by rfl, rfl⟩) hHeld ?hn32
    try simp only [List.getElem_toArray, List.getElem_cons_zero, List.getElem_cons_succ, Act.put, List.setIfInBounds_toArray, List.set_cons_zero, List.set_cons_succ]
    refine' wpAnyH_take (i := 17) (v := _) rfl (by kernel_rfl) (by kernel_rfl) (by kernel_rfl) (fun _ _ _ h => h) (Or.inl ⟨by rfl, ?hy33⟩) hHeld ?hn33
    case hy33 => (intro wz hSw; (try dsimp only at hSw); go_simp; first | done | with_reducible rfl)
    try simp only [List.getElem_toArray, List.getElem_cons_zero, List.getElem_cons_succ, Act.put, List.setIfInBounds_toArray, List.set_cons_zero, List.set_cons_succ]
    refine' wpAnyH_take (i := 4) (v := _) rfl (by kernel_rfl) (by kernel_rfl) (by kernel_rfl) (fun _ _ _ h => h) (Or.inl ⟨by rfl, ?hy34⟩) hHeld ?hn34
    case hy34 => (intro wz hSw; (try dsimp only at hSw); go_simp; first | done | with_reducible rfl)
    try simp only [List.getElem_toArray, List.getElem_cons_zero, List.getElem_cons_succ, Act.put, List.setIfInBounds_toArray, List.set_cons_zero, List.set_cons_succ]
    refine' wpAnyH_take (i := 5) (v := _) rfl (by kernel_rfl) (by kernel_rfl) (by kernel_rfl) (fun _ _ _ h => h) (Or.inl ⟨by rfl, ?hy35⟩) hHeld ?hn35
    case hy35 => (intro wz hSw; (try dsimp only at hSw); go_simp; first | done | with_reducible rfl)
    try simp only [List.getElem_toArray, List.getElem_cons_zero, List.getElem_cons_succ, Act.put, List.setIfInBounds_toArray, List.set_cons_zero, List.set_cons_succ]
    refine' wpAnyH_take (i := 6) (v := .bool hz) rfl (by kernel_rfl) (by kernel_rfl) (by kernel_rfl) (fun _ _ _ h => h) (Or.inl ⟨by rfl, ?hy36⟩) hHeld ?hn36
    case hy36 => (intro wz hSw; (try dsimp only at hSw); rw [HZ.out, ← beq_dec]; go_simp)
    try simp only [List.getElem_toArray, List.getElem_cons_zero, List.getElem_cons_succ, Act.put, List.setIfInBounds_toArray, List.set_cons_zero, List.set_cons_succ]
    refine' wpAnyH_take (i := 18) (v := _) rfl (by kernel_rfl) (by kernel_rfl) (by kernel_rfl) (fun _ _ _ h => h) (Or.inl ⟨by rfl, ?hy37⟩) hHeld ?hn37
    case hy37 => (intro wz hSw; (try dsimp only at hSw); go_simp; first | done | with_reducible rfl)
    try simp only [List.getElem_toArray, List.getElem_cons_zero, List.getElem_cons_succ, Act.put, List.setIfInBounds_toArray, List.set_cons_zero, List.set_cons_succ]
    refine' wpAnyH_take (i := 15) (v := undef) rfl (by kernel_rfl) (by kernel_rfl) (by kernel_rfl) (fun _ _ _ h => h) (Or.inr ⟨by rfl, rfl⟩) hHeld ?hn38
    try simp only [List.getElem_toArray, List.getElem_cons_zero, List.getElem_cons_succ, Act.put, List.setIfInBounds_toArray, List.set_cons_zero, List.set_cons_succ]
    refine' wpAnyH_take (i := 16) (v := _) rfl (by kernel_rfl) (by kernel_rfl) (by kernel_rfl) (fun _ _ _ h => h) (Or.inl ⟨by rfl, ?hy39⟩) hHeld ?hn39
    case hy39 => (intro wz hSw; (try dsimp only at hSw); go_simp; first | done | with_reducible rfl)
    try simp only [List.getElem_toArray, List.getElem_cons_zero, List.getElem_cons_succ, Act.put, List.setIfInBounds_toArray, List.set_cons_zero, List.set_cons_succ]
    refine' wpAnyH_take (i := 19) (v := _) rfl (by kernel_rfl) (by kernel_rfl) (by kernel_rfl) (fun _ _ _ h => h) (Or.inl ⟨by rfl, ?hy40⟩) hHeld ?hn40
    case hy40 => (intro wz hSw; (try dsimp only at hSw); go_simp; first | done | with_reducible rfl)
    try simp only [List.getElem_toArray, List.getElem_cons_zero, List.getElem_cons_succ, Act.put, List.setIfInBounds_toArray, List.set_cons_zero, List.set_cons_succ]
    refine wpAnyH_done (by kernel_rfl) ?_ _
    have hB := hHeld.2.2.2.2.2.2.2.2
    have hs := hB.size
    obtain ⟨u0, u1, u2, u3, u4, u5, u6, u7, _⟩ := hHeld
    clear split
    by_cases h1 : k = 1
    · subst h1
      go_wp2_with fail
      go_at_call 143; refine (valPiece_any _ _ _ _).mono ?_; rintro e w3 ⟨rfl, hb3⟩
      replace u0 := cell_later hb3 u0
      replace u1 := cell_later hb3 u1
      clear u2 u3 u4 u5 u6 u7
      rcases valPc_cases vk va vb with ⟨ty, x, hp⟩ | hp
      · rw [hp]
        cases hf : valForm vk vb
        · cases hz
          · go_wp2
            refine bodyPost_ret (v := .tuple #[.iface 169 (.agg #[.int .i64 v, .iface ty x]), .bool false]) (by simp [results, Try.results128, go_sem]) rfl ⟨by simp [stPc, stForm, hp, hf], Below.then hB hb3 (by omega)⟩
          · go_wp2
            refine bodyPost_ret (v := .tuple #[.iface 169 (.agg #[.int .i64 v, .iface ty x]), .bool false]) (by simp [results, Try.results128, go_sem]) rfl ⟨by simp [stPc, stForm, hp, hf], Below.then hB hb3 (by omega)⟩
        · cases hz
          · go_wp2
            refine bodyPost_ret (v := .tuple #[.iface 169 (.agg #[.int .i64 v, .iface ty x]), .bool false]) (by simp [results, Try.results128, go_sem]) rfl ⟨by simp [stPc, stForm, hp, hf], Below.then hB hb3 (by omega)⟩
          · go_wp2
            refine bodyPost_ret (v := .tuple #[.iface 169 (.agg #[.int .i64 v, .iface ty x]), .bool false]) (by simp [results, Try.results128, go_sem]) rfl ⟨by simp [stPc, stForm, hp, hf], Below.then hB hb3 (by omega)⟩
      · rw [hp]
        cases hf : valForm vk vb
        · cases hz
          · go_wp2
            refine bodyPost_ret (v := .tuple #[.iface 169 (.agg #[.int .i64 v, .nilIface]), .bool false]) (by simp [results, Try.results128, go_sem]) rfl ⟨by simp [stPc, stForm, hp, hf], Below.then hB hb3 (by omega)⟩
          · go_wp2
            refine bodyPost_ret (v := .tuple #[.iface 169 (.agg #[.int .i64 v, .nilIface]), .bool false]) (by simp [results, Try.results128, go_sem]) rfl ⟨by simp [stPc, stForm, hp, hf], Below.then hB hb3 (by omega)⟩
        · cases hz
          · go_wp2
            refine bodyPost_ret (v := .tuple #[.iface 169 (.agg #[.int .i64 v, .nilIface]), .bool false]) (by simp [results, Try.results128, go_sem]) rfl ⟨by simp [stPc, stForm, hp, hf], Below.then hB hb3 (by omega)⟩
          · go_wp2
            refine bodyPost_ret (v := .tuple #[.iface 169 (.agg #[.int .i64 v, .nilIface]), .bool false]) (by simp [results, Try.results128, go_sem]) rfl ⟨by simp [stPc, stForm, hp, hf], Below.then hB hb3 (by omega)⟩
    by_cases h2 : k = 2
    · subst h2
      cases nv
      · go_wp2
        refine bodyPost_ret (v := .tuple #[.iface 171 (.agg #[.int .i64 v, .slice ta lt tc, .slice ea le ec]), .bool false]) (by simp [results, Try.results128, go_sem]) rfl ⟨by simp [stPc, stForm], hB⟩
      · go_wp2
        refine bodyPost_ret (v := .tuple #[.iface 171 (.agg #[.int .i64 v, .slice ta lt tc, .slice ea le ec]), .bool hz]) (by simp [results, Try.results128, go_sem]) rfl ⟨by simp [stPc, stForm], hB⟩
    by_cases h3 : k = 3
    · subst h3
      cases nv
      · go_wp2
        refine bodyPost_ret (v := .tuple #[.iface 173 (.agg #[.int .i64 v, .int .i64 h]), .bool false]) (by simp [results, Try.results128, go_sem]) rfl ⟨by simp [stPc, stForm], hB⟩
      · go_wp2
        refine bodyPost_ret (v := .tuple #[.iface 173 (.agg #[.int .i64 v, .int .i64 h]), .bool false]) (by simp [results, Try.results128, go_sem]) rfl ⟨by simp [stPc, stForm], hB⟩
    · go_wp2
      refine bodyPost_ret (v := .tuple #[.nilIface, .bool false]) (by simp [results, Try.results128, go_sem]) rfl ⟨by simp [stPc, stForm, h1, h2, h3], hB⟩

end Go.Proofs.Ytpcmhkcahajdgaa

/- A program is fine just if no step is told that is not: the law, walked. -/
import Derived.Test.YtkgblkbgebpejaaGreatDoorItw
import Derived.Test.YtkgblkbgebpejaaGreatDoorTks
import Derived.Test.YtkgblkbgebpejaaGreatDoorDtw
import Derived.Test.YtkgblkbgebpejaaGreatDoorImp
namespace Go.Proofs.YtkgblkbgebpejaaGreatDoor
open Go.RowKit
set_option linter.unusedSimpArgs false
set_option linter.unusedVariables false
attribute [local go_sem ↓] Go.wp_at_zero Go.wp_at_succ
attribute [local go_sem] World.cell?_alloc_some

theorem why_facts (ls : List (Int × Int)) (d : Nat) (T : Tr d) : ((whyR ls d T).2 = false → (whyR ls d T).1 = 0) ∧ 0 ≤ (whyR ls d T).1 ∧ (whyR ls d T).1 < max (cnt d T : Int) 1 := by
  unfold whyR
  cases hp : progB ls d T
  · refine ⟨fun _ => rfl, ?_, ?_⟩
    · show (0 : Int) ≤ 0; omega
    · show (0 : Int) < max _ 1; omega
  · cases hb : badI ls (prs ls d T topL) with
    | none =>
      refine ⟨fun _ => rfl, ?_, ?_⟩
      · show (0 : Int) ≤ 0; omega
      · show (0 : Int) < max _ 1; omega
    | some i =>
      have hi : i < (prs ls d T topL).length := by
        unfold badI at hb
        exact (List.findIdx?_eq_some_iff_getElem.1 hb).1
      rw [prs_length] at hi
      refine ⟨fun h => ?_, ?_, ?_⟩
      · cases h
      · show (0 : Int) ≤ (i : Int); omega
      · show (i : Int) < max (cnt d T : Int) 1; omega

set_option maxHeartbeats 8000000 in
set_option maxRecDepth 20000 in
theorem fnTypeWhy_walk (a0 : Option Addr) (len0 cap0 : Nat) (z0 : List Int) (w : World) (s0 s1 : Addr) (hg : Gd w s0 s1) (h0 : IsRow .u8 w a0 len0 cap0 z0) :
    Calls Tryz.prog 3 #[.slice a0 len0 cap0] w fun e w' => e = .returned (.bool true) ∧ Below w.heap.size w w' := by
  by_cases hl0 : (1048576 : Int) < (len0 : Int)
  · go_enter Tryz.func3, Tryz.ntmps3
    go_wp2
    go_ret
    exact ⟨rfl, Below.refl _ _⟩
  have C1 : Hid _ := drawTypeWhy_any w a0 len0 cap0 z0 h0
  have HG : Hid (∀ wz, Below w.heap.size w wz → Gd wz s0 s1) := (show ∀ wz, _ from fun wz hb => hg.below hb)
  clear h0 hg
  go_enter Tryz.func3, Tryz.ntmps3
  go_wp2_with fail
  go_at_call 6; refine Calls.mono C1.out ?_
  rintro e w1 ⟨la, sa, lc, sc, ls, d, l, rfl, hL, hR, cn, hb1⟩
  have A2 : Below w1.heap.size w1 (w1.alloc (.cells #[.slice la ls.length lc, .slice sa (ln (d + 1) (l : List (Pay × Tr d × Tr d))) sc] 26)) := (Below.refl _ _).alloc (Nat.le_refl _) _
  have G2 := C2.new w1 (.slice la ls.length lc) (.slice sa (ln (d + 1) (l : List (Pay × Tr d × Tr d))) sc) 26
  obtain ⟨w2, hw2⟩ : ∃ W, w1.alloc (.cells #[.slice la ls.length lc, .slice sa (ln (d + 1) (l : List (Pay × Tr d × Tr d))) sc] 26) = W := ⟨_, rfl⟩
  rw [hw2] at A2 G2
  have HW2 : Hid _ := hw2
  have HB2 : Hid (Below w.heap.size w w2) := Below.then hb1 A2 hb1.size
  have HX : Hid (∀ wz, Below w2.heap.size w2 wz → LRep wz (.slice la ls.length lc) ls ∧ Rep wz (d + 1) (.slice sa (ln (d + 1) (l : List (Pay × Tr d × Tr d))) sc) (l : List (Pay × Tr d × Tr d)) ∧ Gd wz s0 s1) := (show ∀ wz, _ from fun wz hb => ⟨(hL.below A2).below hb, (hR.below A2).below hb, HG.out wz (Below.then HB2.out hb HB2.out.size)⟩)
  have HP : Hid (∀ wz, Below w2.heap.size w2 wz → wz.cell? ⟨w1.heap.size, 0, none⟩ = some (.slice la ls.length lc) ∧ wz.cell? ⟨w1.heap.size, 1, none⟩ = some (.slice sa (ln (d + 1) (l : List (Pay × Tr d × Tr d))) sc)) := (show ∀ wz, _ from fun wz hb => ⟨cell_later hb G2.1.1, cell_later hb G2.1.2⟩)
  have B_w2 : Hid (Below w2.heap.size w2 w2) := Below.refl _ _
  obtain ⟨pb, hpb⟩ : ∃ x, progB ls (d + 1) (l : List (Pay × Tr d × Tr d)) = x := ⟨_, rfl⟩
  have HWF := why_facts ls (d + 1) (l : List (Pay × Tr d × Tr d))
  have K1 : Hid (Calls Tryz.prog 7 #[.agg #[.slice la ls.length lc, .slice sa (ln (d + 1) (l : List (Pay × Tr d × Tr d))) sc]] w2 _) := sTypeWhy_any (HX.out w2 B_w2.out).1 (HX.out w2 B_w2.out).2.1 (by omega)
  have K2 : Hid (∀ wz, Below w2.heap.size w2 wz → Calls Tryz.prog 8 #[.agg #[.slice la ls.length lc, .slice sa (ln (d + 1) (l : List (Pay × Tr d × Tr d))) sc]] wz fun e w' => e = .returned (.tuple #[.int .i64 (whyR ls (d + 1) (l : List (Pay × Tr d × Tr d))).1, .bool (whyR ls (d + 1) (l : List (Pay × Tr d × Tr d))).2]) ∧ Below wz.heap.size wz w') := (show ∀ wz, _ from fun wz hb => typeWhy_any (HX.out wz hb).1 (HX.out wz hb).2.1 (HX.out wz hb).2.2)
  have K3 : Hid (∀ wz, Below w2.heap.size w2 wz → Calls Tryz.prog 9 #[.agg #[.slice la ls.length lc, .slice sa (ln (d + 1) (l : List (Pay × Tr d × Tr d))) sc]] wz fun e w' => e = .returned (.bool pb) ∧ Below wz.heap.size wz w') := (show ∀ wz, _ from fun wz hb => by
    have := sProgOk_any (HX.out wz hb).1 (HX.out wz hb).2.1 (by omega)
    rwa [hpb] at this)
  have K4 : Hid (∀ wz, Below w2.heap.size w2 wz → Calls Tryz.prog 10 #[.agg #[.slice la ls.length lc, .slice sa (ln (d + 1) (l : List (Pay × Tr d × Tr d))) sc]] wz fun e w' => e = .returned (.bool (pb && !(whyR ls (d + 1) (l : List (Pay × Tr d × Tr d))).2)) ∧ Below wz.heap.size wz w') := (show ∀ wz, _ from fun wz hb => by
    have := typeOk_any (HX.out wz hb).1 (HX.out wz hb).2.1 (HX.out wz hb).2.2.1 (HX.out wz hb).2.2.2.1
    rwa [hpb] at this)
  have K5 : Hid (∀ wz, Below w2.heap.size w2 wz → Calls Tryz.prog 11 #[.agg #[.slice la ls.length lc, .slice sa (ln (d + 1) (l : List (Pay × Tr d × Tr d))) sc]] wz fun e w' => e = .returned (.int .i64 (if pb then (cnt (d + 1) (l : List (Pay × Tr d × Tr d)) : Int) else -1)) ∧ Below wz.heap.size wz w') := (show ∀ wz, _ from fun wz hb => by
    have := progSize_any (HX.out wz hb).1 (HX.out wz hb).2.1
    rwa [hpb] at this)
  obtain ⟨⟨n, bd⟩, hwhy⟩ : ∃ x, whyR ls (d + 1) (l : List (Pay × Tr d × Tr d)) = x := ⟨_, rfl⟩
  rw [hwhy] at K1 K2 K4 HWF
  have hcn : (cnt (d + 1) (l : List (Pay × Tr d × Tr d)) : Int) ≤ 400 := by omega
  generalize cnt (d + 1) (l : List (Pay × Tr d × Tr d)) = m at K5 HWF hcn
  obtain ⟨q0, q1, q2⟩ := HWF
  clear hwhy hpb A2 G2 hw2 hL hR hb1 C1 cn
  obtain ⟨p0, p1⟩ := HP.out w2 B_w2.out
  go_wp2_with fail
  rw [HW2.out]
  clear HW2
  (try go_at_call 7); refine Calls.mono K1.out ?_
  rintro e w3 ⟨rfl, hb⟩
  have B_w3 : Hid (Below w2.heap.size w2 w3) := hb
  clear hb p0 p1 K1
  obtain ⟨p0, p1⟩ := HP.out w3 B_w3.out
  go_wp2_with fail
  (try go_at_call 8); refine Calls.mono (K2.out _ B_w3.out) ?_
  rintro e w4 ⟨rfl, hb⟩
  have B_w4 : Hid (Below w2.heap.size w2 w4) := Below.then B_w3.out hb B_w3.out.size
  clear hb p0 p1
  obtain ⟨p0, p1⟩ := HP.out w4 B_w4.out
  go_wp2_with fail
  (try go_at_call 9); refine Calls.mono (K3.out _ B_w4.out) ?_
  rintro e w5 ⟨rfl, hb⟩
  have B_w5 : Hid (Below w2.heap.size w2 w5) := Below.then B_w4.out hb B_w4.out.size
  clear hb p0 p1
  obtain ⟨p0, p1⟩ := HP.out w5 B_w5.out
  cases pb
  · clear p0 p1
    go_wp2
    go_ret
    exact ⟨by simp, Below.then HB2.out B_w5.out HB2.out.size⟩
  change bd = false → n = 0 at q0
  change 0 ≤ n at q1
  change n < max (m : Int) 1 at q2
  go_wp2_with fail
  (try go_at_call 10); refine Calls.mono (K4.out _ B_w5.out) ?_
  rintro e w6 ⟨rfl, hb⟩
  have B_w6 : Hid (Below w2.heap.size w2 w6) := Below.then B_w5.out hb B_w5.out.size
  clear hb p0 p1
  obtain ⟨p0, p1⟩ := HP.out w6 B_w6.out
  cases bd
  · have hn0 : n = 0 := q0 rfl
    subst hn0
    clear q0
    go_wp2_with fail
    (try go_at_call 11); refine Calls.mono (K5.out _ B_w6.out) ?_
    rintro e w7 ⟨rfl, hb⟩
    have B_w7 : Hid (Below w2.heap.size w2 w7) := Below.then B_w6.out hb B_w6.out.size
    first | rw [if_pos rfl] | rw [if_pos trivial]
    clear hb p0 p1
    obtain ⟨p0, p1⟩ := HP.out w7 B_w7.out
    clear p0 p1
    go_wp2
    all_goals
      go_ret
      exact ⟨by first | rfl | (simp; done) | (simp; omega), Below.then HB2.out B_w7.out HB2.out.size⟩
  · clear q0
    go_wp2_with fail
    (try go_at_call 11); refine Calls.mono (K5.out _ B_w6.out) ?_
    rintro e w7 ⟨rfl, hb⟩
    have B_w7 : Hid (Below w2.heap.size w2 w7) := Below.then B_w6.out hb B_w6.out.size
    first | rw [if_pos rfl] | rw [if_pos trivial]
    clear hb p0 p1
    obtain ⟨p0, p1⟩ := HP.out w7 B_w7.out
    clear p0 p1
    go_wp2
    all_goals
      go_ret
      exact ⟨by first | rfl | (simp; done) | (simp; omega), Below.then HB2.out B_w7.out HB2.out.size⟩

end Go.Proofs.YtkgblkbgebpejaaGreatDoor

/- What may become what may become something may become that: walked. -/
import Derived.Test.YtbkgkpfekbnpiaaWFlows
import Derived.Deep.DrawnRows
namespace Go.Proofs.Ytbkgkpfekbnpiaa
open Go.RowKit
set_option linter.unusedSimpArgs false
set_option linter.unusedVariables false
attribute [local go_sem] World.cell?_alloc_some

theorem cov_trans {a b c : Int} (a0 : 0 ≤ a) (a7 : a ≤ 7) (b0 : 0 ≤ b) (b7 : b ≤ 7) (c0 : 0 ≤ c) (c7 : c ≤ 7) : covB a b = true → covB b c = true → covB a c = true := by
  have h : ∀ n m : Fin 8, ∀ k : Fin 8, covB n.val m.val = true → covB m.val k.val = true → covB n.val k.val = true := by decide +kernel
  exact all88 (P := fun a b => covB a b = true → covB b c = true → covB a c = true) (fun n m => all8 (P := fun c => covB n.val m.val = true → covB m.val c = true → covB n.val c = true) (h n m) c c0 c7) a0 a7 b0 b7
theorem cov_anti {a b : Int} (a0 : 0 ≤ a) (a7 : a ≤ 7) (b0 : 0 ≤ b) (b7 : b ≤ 7) : covB a b = true → covB b a = true → a = b :=
  all88 (P := fun a b => covB a b = true → covB b a = true → a = b) (by decide +kernel) a0 a7 b0 b7
theorem flB_parts {ak at' bk bt : Int} : flB ak at' bk bt = true ↔ okB ak at' = true ∧ okB bk bt = true ∧ covB ak bk = true ∧ covB at' bt = true := by
  simp [flB, and_assoc]
theorem flB_trans {a1 a2 b1 b2 c1 c2 : Int} (h : flB a1 a2 b1 b2 = true) (k : flB b1 b2 c1 c2 = true) : flB a1 a2 c1 c2 = true := by
  rw [flB_parts] at *
  obtain ⟨ha, hb, h1, h2⟩ := h
  obtain ⟨_, hc, k1, k2⟩ := k
  have ia := okB_iff.1 ha
  have ib := okB_iff.1 hb
  have ic := okB_iff.1 hc
  exact ⟨ha, hc, cov_trans ia.1.1 ia.1.2 ib.1.1 ib.1.2 ic.1.1 ic.1.2 h1 k1, cov_trans ia.2.1 ia.2.2 ib.2.1 ib.2.2 ic.2.1 ic.2.2 h2 k2⟩
theorem flB_anti {a1 a2 b1 b2 : Int} (h : flB a1 a2 b1 b2 = true) (k : flB b1 b2 a1 a2 = true) : a1 = b1 ∧ a2 = b2 := by
  rw [flB_parts] at *
  obtain ⟨ha, hb, h1, h2⟩ := h
  obtain ⟨_, _, k1, k2⟩ := k
  have ia := okB_iff.1 ha
  have ib := okB_iff.1 hb
  exact ⟨cov_anti ia.1.1 ia.1.2 ib.1.1 ib.1.2 h1 k1, cov_anti ia.2.1 ia.2.2 ib.2.1 ib.2.2 h2 k2⟩

set_option maxHeartbeats 4000000 in
theorem fnLabelThree_walk (a0 : Option Addr) (len0 cap0 : Nat) (z0 : List Int) (a1 : Option Addr) (len1 cap1 : Nat) (z1 : List Int) (w : World) (h : IsRow .u8 w a0 len0 cap0 z0) (h' : IsRow .u8 w a1 len1 cap1 z1) :
    Calls Try.prog 4 #[.slice a0 len0 cap0, .slice a1 len1 cap1] w fun e w' => e = .returned (.bool true) ∧ Below w.heap.size w w' := by
  by_cases hl : (1048576 : Int) < (len0 : Int)
  · go_enter Try.func4, Try.ntmps4
    go_wp2
    go_ret
    exact ⟨rfl, Below.refl _ _⟩
  by_cases hl1 : (1048576 : Int) < (len1 : Int)
  · have hd : decide ((1048576 : Int) < (len0 : Int)) = false := by simpa using hl
    go_enter Try.func4, Try.ntmps4
    go_wp2
    go_ret
    exact ⟨rfl, Below.refl _ _⟩
  have hd : decide ((1048576 : Int) < (len0 : Int)) = false := by simpa using hl
  go_enter Try.func4, Try.ntmps4
  go_wp2_with fail
  refine (drawFlows_any _ a0 len0 cap0 z0 h).mono ?_
  rintro e w1 ⟨ak, at', bk, bt, rfl, ⟨sa, sb, sc, sd⟩, hb⟩
  have HB : Hid (Below w.heap.size w w1) := hb
  have HI : Hid (IsRow .u8 w1 a1 len1 cap1 z1) := h'.below hb
  have s1 : w.heap.size ≤ w1.heap.size := hb.size
  clear hb
  go_wp2_with fail
  have B1 : Below w1.heap.size w1 ((w1.alloc (.cells #[.int .i64 ak, .int .i64 at'] 24)).alloc (.cells #[.int .i64 bk, .int .i64 bt] 24)) := ((Below.refl _ _).alloc (Nat.le_refl _) _).alloc (by simp) _
  refine (drawFlows_any _ a1 len1 cap1 z1 (HI.out.below B1)).mono ?_
  rintro e w2 ⟨dk, dt, ck, ct, rfl, _, hb⟩
  obtain ⟨x0, x1, _, _⟩ := ((Pair.new w1 ak at' 24).alloc (.cells #[.int .i64 bk, .int .i64 bt] 24)).below hb
  have c1 := (Pair.new (w1.alloc (.cells #[.int .i64 ak, .int .i64 at'] 24)) bk bt 24).below hb
  simp at c1
  obtain ⟨y0, y1, _, _⟩ := c1
  replace HB : Hid (Below w.heap.size w w2) := below_then2 hb (below_then2 B1 HB.out)
  have s2 : w1.heap.size + 2 ≤ w2.heap.size := by have := hb.size; simp at this; omega
  clear B1 hb
  go_wp2_with fail
  have HB0 : Hid (Below w.heap.size w ((w2.alloc (.cells #[.int .i64 dk, .int .i64 dt] 24)).alloc (.cells #[.int .i64 ck, .int .i64 ct] 24))) := (HB.out.alloc (by omega) _).alloc (by simp; omega) _
  have c1 := Pair.new (w2.alloc (.cells #[.int .i64 dk, .int .i64 dt] 24)) ck ct 24
  simp at c1
  obtain ⟨u0, u1, _, _⟩ := c1
  replace x0 := cell_alloc (o := .cells #[.int .i64 ck, .int .i64 ct] 24) (cell_alloc (o := .cells #[.int .i64 dk, .int .i64 dt] 24) x0)
  replace x1 := cell_alloc (o := .cells #[.int .i64 ck, .int .i64 ct] 24) (cell_alloc (o := .cells #[.int .i64 dk, .int .i64 dt] 24) x1)
  replace y0 := cell_alloc (o := .cells #[.int .i64 ck, .int .i64 ct] 24) (cell_alloc (o := .cells #[.int .i64 dk, .int .i64 dt] 24) y0)
  replace y1 := cell_alloc (o := .cells #[.int .i64 ck, .int .i64 ct] 24) (cell_alloc (o := .cells #[.int .i64 dk, .int .i64 dt] 24) y1)
  refine (labelFlows_any _ _ _ _ _).mono ?_
  rintro e w3 ⟨rfl, hbx⟩
  replace HB := HB0
  clear HB0
  replace x0 := cell_later hbx x0; replace x1 := cell_later hbx x1; replace y0 := cell_later hbx y0; replace y1 := cell_later hbx y1; replace u0 := cell_later hbx u0; replace u1 := cell_later hbx u1; replace HB := hb_then HB hbx; clear hbx
  clear HI
  generalize w1.heap.size = N at *
  generalize w2.heap.size = M at *
  have HT : Hid (flB ak at' bk bt = true → flB bk bt ck ct = true → flB ak at' ck ct = true) := flB_trans
  have HA : Hid (flB ak at' bk bt = true → flB bk bt ak at' = true → ak = bk ∧ at' = bt) := flB_anti
  cases h1 : flB ak at' bk bt
  · go_wp2_with (first
        | (go_at_call 18; refine (labelFlows_any _ _ _ _ _ ).mono ?_; rintro e w9 ⟨rfl, hbx⟩; replace x0 := cell_later hbx x0; replace x1 := cell_later hbx x1; replace y0 := cell_later hbx y0; replace y1 := cell_later hbx y1; replace u0 := cell_later hbx u0; replace u1 := cell_later hbx u1; replace HB := hb_then HB hbx; clear hbx)
        | (go_at_call 19; refine (sLabelFlows_any _ _ _ _ _ ).mono ?_; rintro e w9 ⟨rfl, hbx⟩; replace x0 := cell_later hbx x0; replace x1 := cell_later hbx x1; replace y0 := cell_later hbx y0; replace y1 := cell_later hbx y1; replace u0 := cell_later hbx u0; replace u1 := cell_later hbx u1; replace HB := hb_then HB hbx; clear hbx))
    go_ret
    exact ⟨by simp, HB.out⟩
  · cases h2 : flB bk bt ck ct
    · cases h4 : flB bk bt ak at'
      · go_wp2_with (first
        | (go_at_call 18; refine (labelFlows_any _ _ _ _ _ ).mono ?_; rintro e w9 ⟨rfl, hbx⟩; replace x0 := cell_later hbx x0; replace x1 := cell_later hbx x1; replace y0 := cell_later hbx y0; replace y1 := cell_later hbx y1; replace u0 := cell_later hbx u0; replace u1 := cell_later hbx u1; replace HB := hb_then HB hbx; clear hbx)
        | (go_at_call 19; refine (sLabelFlows_any _ _ _ _ _ ).mono ?_; rintro e w9 ⟨rfl, hbx⟩; replace x0 := cell_later hbx x0; replace x1 := cell_later hbx x1; replace y0 := cell_later hbx y0; replace y1 := cell_later hbx y1; replace u0 := cell_later hbx u0; replace u1 := cell_later hbx u1; replace HB := hb_then HB hbx; clear hbx))
        go_ret
        exact ⟨by simp, HB.out⟩
      · obtain ⟨rfl, rfl⟩ := HA.out h1 h4
        go_wp2_with (first
        | (go_at_call 18; refine (labelFlows_any _ _ _ _ _ ).mono ?_; rintro e w9 ⟨rfl, hbx⟩; replace x0 := cell_later hbx x0; replace x1 := cell_later hbx x1; replace y0 := cell_later hbx y0; replace y1 := cell_later hbx y1; replace u0 := cell_later hbx u0; replace u1 := cell_later hbx u1; replace HB := hb_then HB hbx; clear hbx)
        | (go_at_call 19; refine (sLabelFlows_any _ _ _ _ _ ).mono ?_; rintro e w9 ⟨rfl, hbx⟩; replace x0 := cell_later hbx x0; replace x1 := cell_later hbx x1; replace y0 := cell_later hbx y0; replace y1 := cell_later hbx y1; replace u0 := cell_later hbx u0; replace u1 := cell_later hbx u1; replace HB := hb_then HB hbx; clear hbx))
        go_ret
        exact ⟨by simp, HB.out⟩
    · have h3 := HT.out h1 h2
      cases h4 : flB bk bt ak at'
      · go_wp2_with (first
        | (go_at_call 18; refine (labelFlows_any _ _ _ _ _ ).mono ?_; rintro e w9 ⟨rfl, hbx⟩; replace x0 := cell_later hbx x0; replace x1 := cell_later hbx x1; replace y0 := cell_later hbx y0; replace y1 := cell_later hbx y1; replace u0 := cell_later hbx u0; replace u1 := cell_later hbx u1; replace HB := hb_then HB hbx; clear hbx)
        | (go_at_call 19; refine (sLabelFlows_any _ _ _ _ _ ).mono ?_; rintro e w9 ⟨rfl, hbx⟩; replace x0 := cell_later hbx x0; replace x1 := cell_later hbx x1; replace y0 := cell_later hbx y0; replace y1 := cell_later hbx y1; replace u0 := cell_later hbx u0; replace u1 := cell_later hbx u1; replace HB := hb_then HB hbx; clear hbx))
        go_ret
        exact ⟨by simp, HB.out⟩
      · obtain ⟨rfl, rfl⟩ := HA.out h1 h4
        go_wp2_with (first
        | (go_at_call 18; refine (labelFlows_any _ _ _ _ _ ).mono ?_; rintro e w9 ⟨rfl, hbx⟩; replace x0 := cell_later hbx x0; replace x1 := cell_later hbx x1; replace y0 := cell_later hbx y0; replace y1 := cell_later hbx y1; replace u0 := cell_later hbx u0; replace u1 := cell_later hbx u1; replace HB := hb_then HB hbx; clear hbx)
        | (go_at_call 19; refine (sLabelFlows_any _ _ _ _ _ ).mono ?_; rintro e w9 ⟨rfl, hbx⟩; replace x0 := cell_later hbx x0; replace x1 := cell_later hbx x1; replace y0 := cell_later hbx y0; replace y1 := cell_later hbx y1; replace u0 := cell_later hbx u0; replace u1 := cell_later hbx u1; replace HB := hb_then HB hbx; clear hbx))
        go_ret
        exact ⟨by simp, HB.out⟩

end Go.Proofs.Ytbkgkpfekbnpiaa

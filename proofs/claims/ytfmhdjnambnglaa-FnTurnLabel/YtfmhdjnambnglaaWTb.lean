/- Labels that are turned may become what they might: the law, walked. -/
import Derived.Test.YtfmhdjnambnglaaTwl
import Derived.Test.YtfmhdjnambnglaaDrf
import Derived.Test.YtfmhdjnambnglaaBotI
import Derived.Test.YtfmhdjnambnglaaBotJ
namespace Go.Proofs.Ytfmhdjnambnglaa
open Go.RowKit
set_option linter.unusedSimpArgs false
set_option linter.unusedVariables false
attribute [local go_sem ↓] Go.wp_at_zero Go.wp_at_succ
attribute [local go_sem] World.cell?_alloc_some

theorem turnL_facts {zs : List Int} {ak at' bk bt : Int} (hr : rowB zs 3 = true) (ha : okB ak at' = true) (hb : okB bk bt = true) :
    flB (turnR ak zs) (turnR at' zs) (turnR bk zs) (turnR bt zs) = flB ak at' bk bt ∧
    boK (turnR ak zs) (turnR at' zs) (turnR bk zs) (turnR bt zs) = turnR (boK ak at' bk bt) zs ∧ boT (turnR ak zs) (turnR at' zs) (turnR bk zs) (turnR bt zs) = turnR (boT ak at' bk bt) zs ∧
    eiK (turnR ak zs) (turnR at' zs) (turnR bk zs) (turnR bt zs) = turnR (eiK ak at' bk bt) zs ∧ eiT (turnR ak zs) (turnR at' zs) (turnR bk zs) (turnR bt zs) = turnR (eiT ak at' bk bt) zs := by
  obtain ⟨⟨a0, a7⟩, c0, c7⟩ := okB_iff.1 ha
  obtain ⟨⟨b0, b7⟩, d0, d7⟩ := okB_iff.1 hb
  have bd : ∀ s, 0 ≤ s → s ≤ 7 → turnR s zs = turnI s zs ∧ 0 ≤ turnI s zs ∧ turnI s zs ≤ 7 := fun s h0 h7 => ⟨turnR_yes (inB_iff.2 ⟨h0, h7⟩) hr, (turnI_bd hr h0 h7).1, (turnI_bd hr h0 h7).2⟩
  obtain ⟨e1, l1, u1⟩ := bd ak a0 a7
  obtain ⟨e2, l2, u2⟩ := bd at' c0 c7
  obtain ⟨e3, l3, u3⟩ := bd bk b0 b7
  obtain ⟨e4, l4, u4⟩ := bd bt d0 d7
  have o1 : okB (turnI ak zs) (turnI at' zs) = true := okB_iff.2 ⟨⟨l1, u1⟩, l2, u2⟩
  have o2 : okB (turnI bk zs) (turnI bt zs) = true := okB_iff.2 ⟨⟨l3, u3⟩, l4, u4⟩
  obtain ⟨p1, p2, p3⟩ := turn_and hr a0 a7 b0 b7
  obtain ⟨q1, q2, q3⟩ := turn_and hr c0 c7 d0 d7
  have x1 := (bd _ (andI_bd a0 a7 b0 b7).1 (andI_bd a0 a7 b0 b7).2).1
  have x2 := (bd _ (andI_bd c0 c7 d0 d7).1 (andI_bd c0 c7 d0 d7).2).1
  have x3 := (bd _ (orI_bd a0 a7 b0 b7).1 (orI_bd a0 a7 b0 b7).2).1
  have x4 := (bd _ (orI_bd c0 c7 d0 d7).1 (orI_bd c0 c7 d0 d7).2).1
  unfold flB boK boT eiK eiT
  simp only [e1, e2, e3, e4, ha, hb, o1, o2, Bool.and_self, Bool.true_and, if_true, p1, p2, p3, q1, q2, q3, x1, x2, x3, x4, and_self]

set_option maxHeartbeats 8000000 in
set_option maxRecDepth 20000 in
theorem fnTurnLabel_walk (a0 : Option Addr) (len0 cap0 : Nat) (z0 : List Int) (a1 : Option Addr) (len1 cap1 : Nat) (z1 : List Int) (w : World) (h0 : IsRow .u8 w a0 len0 cap0 z0) (h1 : IsRow .u8 w a1 len1 cap1 z1) :
    Calls Try.prog 4 #[.slice a0 len0 cap0, .slice a1 len1 cap1] w fun e w' => e = .returned (.bool true) ∧ Below w.heap.size w w' := by
  by_cases hl0 : (1048576 : Int) < (len0 : Int)
  · go_enter Try.func4, Try.ntmps4
    go_wp2
    go_ret
    exact ⟨rfl, Below.refl _ _⟩
  by_cases hl1 : (1048576 : Int) < (len1 : Int)
  · go_enter Try.func4, Try.ntmps4
    go_wp2
    go_ret
    exact ⟨rfl, Below.refl _ _⟩
  have C1 : Hid _ := drawFlows_any w a0 len0 cap0 z0 h0
  have H1 : Hid (∀ wx, Below w.heap.size w wx → IsRow .u8 wx a1 len1 cap1 z1) := (show ∀ wx, _ from fun wx hb => h1.below hb)
  clear h0 h1
  go_enter Try.func4, Try.ntmps4
  go_wp2_with fail
  go_at_call 19; refine Calls.mono C1.out ?_
  rintro e w1 ⟨ak, at', bk, bt, rfl, -, hb⟩
  have L : Hid True := trivial
  have A2 : Below w.heap.size w ((w1.alloc (.cells #[.int .i64 ak, .int .i64 at'] 32)).alloc (.cells #[.int .i64 bk, .int .i64 bt] 32)) := (hb.alloc hb.size _).alloc (by have := hb.size; simp; omega) _
  have PA := (Pair.new w1 ak at' 32).alloc (.cells #[.int .i64 bk, .int .i64 bt] 32)
  have PB := Pair.new (w1.alloc (.cells #[.int .i64 ak, .int .i64 at'] 32)) bk bt 32
  have sB : (w1.alloc (.cells #[.int .i64 ak, .int .i64 at'] 32)).heap.size = w1.heap.size + 1 := by simp
  rw [sB] at PB
  generalize hw2 : (w1.alloc (.cells #[.int .i64 ak, .int .i64 at'] 32)).alloc (.cells #[.int .i64 bk, .int .i64 bt] 32) = w2 at A2 PA PB
  have HW2 : Hid _ := hw2
  have HPA : Hid (Pair w2 w1.heap.size (.int .i64 ak) (.int .i64 at')) := PA
  have HPB : Hid (Pair w2 (w1.heap.size + 1) (.int .i64 bk) (.int .i64 bt)) := PB
  have HB2 : Hid (Below w.heap.size w w2) := A2
  have C2 : Hid _ := drawTurnSet_any w2 a1 len1 cap1 z1 (H1.out _ A2)
  clear hw2 PA PB A2 hb C1 sB H1 L
  go_wp2_with fail
  rw [HW2.out]
  clear HW2
  go_at_call 13; refine Calls.mono C2.out ?_
  rintro e w3 ⟨s, zs, g, c, rfl, sl, sh, hb3, hg, zl, -⟩
  have HB : Hid (Below w.heap.size w w3) := Below.then HB2.out hb3 HB2.out.size
  have HPA3 : Hid (Pair w3 w1.heap.size (.int .i64 ak) (.int .i64 at')) := HPA.out.below hb3
  have HPB3 : Hid (Pair w3 (w1.heap.size + 1) (.int .i64 bk) (.int .i64 bt)) := HPB.out.below hb3
  have HG : Hid (∀ wx, Below w3.heap.size w3 wx → GRep (Value.int .i64) wx (.slice (some ⟨g, 0, none⟩) zs.length c) zs) := (show ∀ wx, _ from fun wx hb => hg.below hb)
  have B3 : Hid (Below w3.heap.size w3 w3) := Below.refl _ _
  have KI : Hid (∀ (x : Int) wx, Below w3.heap.size w3 wx → Calls Try.prog 14 #[.int .i64 x, .slice (some ⟨g, 0, none⟩) zs.length c] wx fun e w' => e = .returned (.int .i64 (turnR x zs)) ∧ w' = wx) := (show ∀ (x : Int) wx, _ from fun x wx hb => turnSet_any x (HG.out wx hb))
  have KS : Hid (∀ (x : Int) wx, Below w3.heap.size w3 wx → Calls Try.prog 15 #[.int .i64 x, .slice (some ⟨g, 0, none⟩) zs.length c] wx fun e w' => e = .returned (.int .i64 (turnR x zs)) ∧ w' = wx) := (show ∀ (x : Int) wx, _ from fun x wx hb => sTurnSet_any x (HG.out wx hb))
  have KR : Hid _ := lcRow_any 3 (by omega) hg
  clear hb3 hg C2 HPA HPB HB2
  obtain ⟨x, hx⟩ : ∃ x, turnR s zs = x := ⟨_, rfl⟩
  cases hr : rowB zs 3
  · rw [hr] at KR
    go_wp2_with fail
    (try go_at_call 14); refine Calls.mono (KI.out s _ B3.out) ?_
    rintro e wq ⟨rfl, hq⟩; rw [hq, hx]; clear hq wq
    go_wp2_with fail
    (try go_at_call 15); refine Calls.mono (KS.out s _ B3.out) ?_
    rintro e wq ⟨rfl, hq⟩; rw [hq, hx]; clear hq wq
    go_wp2_with fail
    go_at_call 16; refine Calls.mono KR.out ?_
    rintro e w4 ⟨rfl, hb4⟩
    have B4 : Hid (Below w3.heap.size w3 w4) := hb4
    clear hb4 KR
    go_wp2_with fail
    (try go_at_call 14); refine Calls.mono (KI.out s _ B4.out) ?_
    rintro e wq ⟨rfl, hq⟩; rw [hq, hx]; clear hq wq
    go_wp2_with fail
    (try go_at_call 15); refine Calls.mono (KS.out s _ B4.out) ?_
    rintro e wq ⟨rfl, hq⟩; rw [hq, hx]; clear hq wq
    go_wp2
    go_ret
    exact ⟨rfl, Below.then HB.out B4.out HB.out.size⟩
  have hz1 : 0 < zs.length := by rw [rowB_len hr]; omega
  have HR : Hid _ := hr
  rw [hr] at KR
  have KL : Hid (∀ (k t : Int) wx, Below w3.heap.size w3 wx → Calls Try.prog 21 #[.agg #[.int .i64 k, .int .i64 t], .slice (some ⟨g, 0, none⟩) zs.length c] wx fun e w' => e = .returned (.agg #[.int .i64 (turnR k zs), .int .i64 (turnR t zs)]) ∧ Below wx.heap.size wx w') := (show ∀ (k t : Int) wx, _ from fun k t wx hb => lcTurn_any k t hz1 (HG.out wx hb))
  clear hr
  obtain ⟨oa, hoa⟩ : ∃ oa, okB ak at' = oa := ⟨_, rfl⟩
  obtain ⟨ob, hob⟩ : ∃ ob, okB bk bt = ob := ⟨_, rfl⟩
  have HOA : Hid _ := hoa
  have HOB : Hid _ := hob
  clear hoa hob
  cases oa
  · obtain ⟨p0, p1, -⟩ := HPA3.out
    go_wp2_with fail
    (try go_at_call 14); refine Calls.mono (KI.out s _ B3.out) ?_
    rintro e wq ⟨rfl, hq⟩; rw [hq, hx]; clear hq wq
    go_wp2_with fail
    (try go_at_call 15); refine Calls.mono (KS.out s _ B3.out) ?_
    rintro e wq ⟨rfl, hq⟩; rw [hq, hx]; clear hq wq
    go_wp2_with fail
    go_at_call 16; refine Calls.mono KR.out ?_
    rintro e w4 ⟨rfl, hb4⟩
    have B4 : Hid (Below w3.heap.size w3 w4) := hb4
    replace p0 := cell_later hb4 p0
    replace p1 := cell_later hb4 p1
    clear hb4 KR
    go_wp2_with fail
    (try go_at_call 20); refine (sLabelOk_any _ _ _).mono ?_
    rintro e w5 ⟨rfl, hb5⟩
    rw [HOA.out]
    replace B4 : Hid (Below w3.heap.size w3 w5) := Below.then B4.out hb5 B4.out.size
    clear hb5 p0 p1
    go_wp2_with fail
    (try go_at_call 14); refine Calls.mono (KI.out s _ B4.out) ?_
    rintro e wq ⟨rfl, hq⟩; rw [hq, hx]; clear hq wq
    go_wp2_with fail
    (try go_at_call 15); refine Calls.mono (KS.out s _ B4.out) ?_
    rintro e wq ⟨rfl, hq⟩; rw [hq, hx]; clear hq wq
    go_wp2
    go_ret
    exact ⟨rfl, Below.then HB.out B4.out HB.out.size⟩
  cases ob
  · obtain ⟨p0, p1, -⟩ := HPA3.out
    obtain ⟨q0, q1, -⟩ := HPB3.out
    go_wp2_with fail
    (try go_at_call 14); refine Calls.mono (KI.out s _ B3.out) ?_
    rintro e wq ⟨rfl, hq⟩; rw [hq, hx]; clear hq wq
    go_wp2_with fail
    (try go_at_call 15); refine Calls.mono (KS.out s _ B3.out) ?_
    rintro e wq ⟨rfl, hq⟩; rw [hq, hx]; clear hq wq
    go_wp2_with fail
    go_at_call 16; refine Calls.mono KR.out ?_
    rintro e w4 ⟨rfl, hb4⟩
    have B4 : Hid (Below w3.heap.size w3 w4) := hb4
    replace p0 := cell_later hb4 p0
    replace p1 := cell_later hb4 p1
    replace q0 := cell_later hb4 q0
    replace q1 := cell_later hb4 q1
    clear hb4 KR
    go_wp2_with fail
    (try go_at_call 20); refine (sLabelOk_any _ _ _).mono ?_
    rintro e w5 ⟨rfl, hb5⟩
    rw [HOA.out]
    replace B4 : Hid (Below w3.heap.size w3 w5) := Below.then B4.out hb5 B4.out.size
    replace q0 := cell_later hb5 q0
    replace q1 := cell_later hb5 q1
    clear hb5 p0 p1
    go_wp2_with fail
    (try go_at_call 20); refine (sLabelOk_any _ _ _).mono ?_
    rintro e w6 ⟨rfl, hb6⟩
    rw [HOB.out]
    have B6 : Hid (Below w3.heap.size w3 w6) := Below.then B4.out hb6 B4.out.size
    clear hb6 q0 q1 w4 B4
    go_wp2_with fail
    (try go_at_call 14); refine Calls.mono (KI.out s _ B6.out) ?_
    rintro e wq ⟨rfl, hq⟩; rw [hq, hx]; clear hq wq
    go_wp2_with fail
    (try go_at_call 15); refine Calls.mono (KS.out s _ B6.out) ?_
    rintro e wq ⟨rfl, hq⟩; rw [hq, hx]; clear hq wq
    go_wp2
    go_ret
    exact ⟨rfl, Below.then HB.out B6.out HB.out.size⟩
  obtain ⟨f1, f2, f3, f4, f5⟩ := turnL_facts HR.out HOA.out HOB.out
  have HFL' : Hid _ := f1
  have HBK' : Hid _ := f2
  have HBT' : Hid _ := f3
  have HEK' : Hid _ := f4
  have HET' : Hid _ := f5
  clear f1 f2 f3 f4 f5
  obtain ⟨p0, p1, -⟩ := HPA3.out
  obtain ⟨q0, q1, -⟩ := HPB3.out
  go_wp2_with fail
  (try go_at_call 14); refine Calls.mono (KI.out s _ B3.out) ?_
  rintro e wq ⟨rfl, hq⟩; rw [hq, hx]; clear hq wq
  go_wp2_with fail
  (try go_at_call 15); refine Calls.mono (KS.out s _ B3.out) ?_
  rintro e wq ⟨rfl, hq⟩; rw [hq, hx]; clear hq wq
  go_wp2_with fail
  go_at_call 16; refine Calls.mono KR.out ?_
  rintro e w4 ⟨rfl, hb4⟩
  have B4 : Hid (Below w3.heap.size w3 w4) := hb4
  replace p0 := cell_later hb4 p0
  replace p1 := cell_later hb4 p1
  replace q0 := cell_later hb4 q0
  replace q1 := cell_later hb4 q1
  clear hb4 KR
  go_wp2_with fail
  (try go_at_call 20); refine (sLabelOk_any _ _ _).mono ?_
  rintro e w5 ⟨rfl, hb5⟩
  rw [HOA.out]
  have B5 : Hid (Below w3.heap.size w3 w5) := Below.then B4.out hb5 B4.out.size
  replace p0 := cell_later hb5 p0
  replace p1 := cell_later hb5 p1
  replace q0 := cell_later hb5 q0
  replace q1 := cell_later hb5 q1
  clear hb5
  go_wp2_with fail
  (try go_at_call 20); refine (sLabelOk_any _ _ _).mono ?_
  rintro e w6 ⟨rfl, hb6⟩
  rw [HOB.out]
  have B6 : Hid (Below w3.heap.size w3 w6) := Below.then B5.out hb6 B5.out.size
  replace p0 := cell_later hb6 p0
  replace p1 := cell_later hb6 p1
  replace q0 := cell_later hb6 q0
  replace q1 := cell_later hb6 q1
  clear hb6 B4 B5
  have s1 : w1.heap.size < w6.heap.size := World.block_lt_of_cell? _ _ p0
  have s2 : w1.heap.size + 1 < w6.heap.size := World.block_lt_of_cell? _ _ q0
  go_wp2_with fail
  (try go_at_call 21); refine Calls.mono (KL.out _ _ _ B6.out) ?_
  rintro e w7 ⟨rfl, hb7⟩
  have HFL : Hid _ := HFL'.out
  generalize hxk : turnR ak zs = xk at *
  generalize hxt : turnR at' zs = xt at *
  have B7 : Hid (Below w3.heap.size w3 w7) := Below.then B6.out hb7 B6.out.size
  replace p0 := cell_later hb7 p0
  replace p1 := cell_later hb7 p1
  replace q0 := cell_later hb7 q0
  replace q1 := cell_later hb7 q1
  have PX := Pair.new w7 xk xt 32
  have A8 : Below w7.heap.size w7 (w7.alloc (.cells #[.int .i64 xk, .int .i64 xt] 32)) := (Below.refl _ _).alloc (Nat.le_refl _) _
  generalize hw8 : w7.alloc (.cells #[.int .i64 xk, .int .i64 xt] 32) = w8 at PX A8
  have HW8 : Hid _ := hw8
  have B8 : Hid (Below w3.heap.size w3 w8) := Below.then B7.out A8 B7.out.size
  have HPX : Hid (Pair w8 w7.heap.size (.int .i64 xk) (.int .i64 xt)) := PX
  have HP8 : Hid (w8.cell? ⟨w1.heap.size, 0, none⟩ = some (.int .i64 ak) ∧ w8.cell? ⟨w1.heap.size, 1, none⟩ = some (.int .i64 at') ∧ w8.cell? ⟨w1.heap.size + 1, 0, none⟩ = some (.int .i64 bk) ∧ w8.cell? ⟨w1.heap.size + 1, 1, none⟩ = some (.int .i64 bt)) := ⟨cell_later A8 p0, cell_later A8 p1, cell_later A8 q0, cell_later A8 q1⟩
  clear hw8 PX A8 hb7
  go_wp2_with fail
  rw [HW8.out]
  clear HW8 p0 p1 q0 q1
  obtain ⟨p0, p1, q0, q1⟩ := HP8.out
  (try go_at_call 21); refine Calls.mono (KL.out _ _ _ B8.out) ?_
  rintro e w9 ⟨rfl, hb9⟩
  generalize hyk : turnR bk zs = yk at *
  generalize hyt : turnR bt zs = yt at *
  have B9 : Hid (Below w3.heap.size w3 w9) := Below.then B8.out hb9 B8.out.size
  have PY := Pair.new w9 yk yt 32
  have A10 : Below w9.heap.size w9 (w9.alloc (.cells #[.int .i64 yk, .int .i64 yt] 32)) := (Below.refl _ _).alloc (Nat.le_refl _) _
  have PX9 := HPX.out.below hb9
  replace p0 := cell_later hb9 p0
  replace p1 := cell_later hb9 p1
  replace q0 := cell_later hb9 q0
  replace q1 := cell_later hb9 q1
  generalize hw10 : w9.alloc (.cells #[.int .i64 yk, .int .i64 yt] 32) = w6' at PY A10
  have HW10 : Hid _ := hw10
  have B10 : Hid (Below w3.heap.size w3 w6') := Below.then B9.out A10 B9.out.size
  have a0' := cell_later A10 p0
  have a1' := cell_later A10 p1
  have b0' := cell_later A10 q0
  have b1' := cell_later A10 q1
  obtain ⟨x0, x1, -⟩ := PX9.below A10
  obtain ⟨y0, y1, -⟩ := PY
  have HC : Hid (w6'.cell? ⟨w1.heap.size, 0, none⟩ = some (.int .i64 ak) ∧ w6'.cell? ⟨w1.heap.size, 1, none⟩ = some (.int .i64 at') ∧ w6'.cell? ⟨w1.heap.size + 1, 0, none⟩ = some (.int .i64 bk) ∧ w6'.cell? ⟨w1.heap.size + 1, 1, none⟩ = some (.int .i64 bt) ∧ w6'.cell? ⟨w7.heap.size, 0, none⟩ = some (.int .i64 xk) ∧ w6'.cell? ⟨w7.heap.size, 1, none⟩ = some (.int .i64 xt) ∧ w6'.cell? ⟨w9.heap.size, 0, none⟩ = some (.int .i64 yk) ∧ w6'.cell? ⟨w9.heap.size, 1, none⟩ = some (.int .i64 yt)) := ⟨a0', a1', b0', b1', x0, x1, y0, y1⟩
  have HBK : Hid _ := HBK'.out
  have HBT : Hid _ := HBT'.out
  have HEK : Hid _ := HEK'.out
  have HET : Hid _ := HET'.out
  clear hw10 A10 hb9 p0 p1 q0 q1 PX9 a0' a1' b0' b1' x0 x1 y0 y1 HBK' HBT' HEK' HET' HFL' hxk hxt hyk hyt hx KI KS
  go_wp2_with fail
  rw [HW10.out]
  clear HW10
  obtain ⟨a0', a1', b0', b1', x0, x1, y0, y1⟩ := HC.out
  replace KL : Hid (∀ (k t : Int) wx, Below w6'.heap.size w6' wx → Calls Try.prog 21 #[.agg #[.int .i64 k, .int .i64 t], .slice (some ⟨g, 0, none⟩) zs.length c] wx fun e w' => e = .returned (.agg #[.int .i64 (turnR k zs), .int .i64 (turnR t zs)]) ∧ Below wx.heap.size wx w') := (show ∀ (k t : Int) wx, _ from fun k t wx hb => KL.out k t wx (Below.then B10.out hb B10.out.size))
  refine wp_region_held (S := (fun wz => Below w6'.heap.size w6' wz)) (by kernel_rfl) ?_
  change wpAnyH _ _ _ _ _ _ _ _ (World.drew _)
  have hHeld := (Below.refl w6'.heap.size w6').drew
  refine' wpAnyH_take (i := 0) (v := .agg #[.int .i64 xk, .int .i64 xt]) rfl (by kernel_rfl) (by kernel_rfl) (by kernel_rfl) (fun _ _ _ h => h) (Or.inl ⟨by rfl, ?hy301⟩) hHeld ?hn301
  case hy301 => (intro wz hSw; have q0 := cell_later hSw x0; have q1 := cell_later hSw x1; go_simp)
  try simp only [List.getElem_toArray, List.getElem_cons_zero, List.getElem_cons_succ, Act.put, List.setIfInBounds_toArray, List.set_cons_zero, List.set_cons_succ]
  refine' wpAnyH_take (i := 1) (v := .agg #[.int .i64 yk, .int .i64 yt]) rfl (by kernel_rfl) (by kernel_rfl) (by kernel_rfl) (fun _ _ _ h => h) (Or.inl ⟨by rfl, ?hy302⟩) hHeld ?hn302
  case hy302 => (intro wz hSw; have q0 := cell_later hSw y0; have q1 := cell_later hSw y1; go_simp)
  try simp only [List.getElem_toArray, List.getElem_cons_zero, List.getElem_cons_succ, Act.put, List.setIfInBounds_toArray, List.set_cons_zero, List.set_cons_succ]
  refine' wpAnyH_take (i := 3) (v := .agg #[.int .i64 ak, .int .i64 at']) rfl (by kernel_rfl) (by kernel_rfl) (by kernel_rfl) (fun _ _ _ h => h) (Or.inl ⟨by rfl, ?hy303⟩) hHeld ?hn303
  case hy303 => (intro wz hSw; have q0 := cell_later hSw a0'; have q1 := cell_later hSw a1'; go_simp)
  try simp only [List.getElem_toArray, List.getElem_cons_zero, List.getElem_cons_succ, Act.put, List.setIfInBounds_toArray, List.set_cons_zero, List.set_cons_succ]
  refine' wpAnyH_take (i := 4) (v := .agg #[.int .i64 bk, .int .i64 bt]) rfl (by kernel_rfl) (by kernel_rfl) (by kernel_rfl) (fun _ _ _ h => h) (Or.inl ⟨by rfl, ?hy304⟩) hHeld ?hn304
  case hy304 => (intro wz hSw; have q0 := cell_later hSw b0'; have q1 := cell_later hSw b1'; go_simp)
  try simp only [List.getElem_toArray, List.getElem_cons_zero, List.getElem_cons_succ, Act.put, List.setIfInBounds_toArray, List.set_cons_zero, List.set_cons_succ]
  refine wpAnyH_ready (rs := [2]) (by kernel_rfl) (by simp) ?_
  refine AllReadyH.cons rfl (fun K hK => ?_) AllReadyH.nil
  go_simp
  refine (labelFlows_any _ _ _ _ _).mono ?_; rintro e' w9 ⟨rfl, hbx⟩
  refine hK.out _ _ (Below.then hHeld hbx hHeld.size) (fun hHeld => ?_)
  clear hK K
  refine wpAnyH_ready (rs := [5]) (by kernel_rfl) (by simp) ?_
  refine AllReadyH.cons rfl (fun K hK => ?_) AllReadyH.nil
  go_simp
  refine (labelFlows_any _ _ _ _ _).mono ?_; rintro e' w9 ⟨rfl, hbx⟩; rw [HFL.out]
  refine hK.out _ _ (Below.then hHeld hbx hHeld.size) (fun hHeld => ?_)
  clear hK K
  refine' wpAnyH_take (i := 6) (v := _) rfl (by kernel_rfl) (by kernel_rfl) (by kernel_rfl) (fun _ _ _ h => h) (Or.inl ⟨by rfl, ?hy305⟩) hHeld ?hn305
  case hy305 => (intro wz hSw; (try dsimp only at hSw); go_simp; first | done | with_reducible rfl)
  try simp only [List.getElem_toArray, List.getElem_cons_zero, List.getElem_cons_succ, Act.put, List.setIfInBounds_toArray, List.set_cons_zero, List.set_cons_succ]
  refine' wpAnyH_take (i := 7) (v := _) rfl (by kernel_rfl) (by kernel_rfl) (by kernel_rfl) (fun _ _ _ h => h) (Or.inl ⟨by rfl, ?hy306⟩) hHeld ?hn306
  case hy306 => (intro wz hSw; (try dsimp only at hSw); go_simp; first | done | with_reducible rfl)
  try simp only [List.getElem_toArray, List.getElem_cons_zero, List.getElem_cons_succ, Act.put, List.setIfInBounds_toArray, List.set_cons_zero, List.set_cons_succ]
  refine' wpAnyH_take (i := 8) (v := .agg #[.int .i64 xk, .int .i64 xt]) rfl (by kernel_rfl) (by kernel_rfl) (by kernel_rfl) (fun _ _ _ h => h) (Or.inl ⟨by rfl, ?hy307⟩) hHeld ?hn307
  case hy307 => (intro wz hSw; have q0 := cell_later hSw x0; have q1 := cell_later hSw x1; go_simp)
  try simp only [List.getElem_toArray, List.getElem_cons_zero, List.getElem_cons_succ, Act.put, List.setIfInBounds_toArray, List.set_cons_zero, List.set_cons_succ]
  refine' wpAnyH_take (i := 9) (v := .agg #[.int .i64 yk, .int .i64 yt]) rfl (by kernel_rfl) (by kernel_rfl) (by kernel_rfl) (fun _ _ _ h => h) (Or.inl ⟨by rfl, ?hy308⟩) hHeld ?hn308
  case hy308 => (intro wz hSw; have q0 := cell_later hSw y0; have q1 := cell_later hSw y1; go_simp)
  try simp only [List.getElem_toArray, List.getElem_cons_zero, List.getElem_cons_succ, Act.put, List.setIfInBounds_toArray, List.set_cons_zero, List.set_cons_succ]
  refine' wpAnyH_take (i := 11) (v := .agg #[.int .i64 ak, .int .i64 at']) rfl (by kernel_rfl) (by kernel_rfl) (by kernel_rfl) (fun _ _ _ h => h) (Or.inl ⟨by rfl, ?hy309⟩) hHeld ?hn309
  case hy309 => (intro wz hSw; have q0 := cell_later hSw a0'; have q1 := cell_later hSw a1'; go_simp)
  try simp only [List.getElem_toArray, List.getElem_cons_zero, List.getElem_cons_succ, Act.put, List.setIfInBounds_toArray, List.set_cons_zero, List.set_cons_succ]
  refine' wpAnyH_take (i := 12) (v := .agg #[.int .i64 bk, .int .i64 bt]) rfl (by kernel_rfl) (by kernel_rfl) (by kernel_rfl) (fun _ _ _ h => h) (Or.inl ⟨by rfl, ?hy310⟩) hHeld ?hn310
  case hy310 => (intro wz hSw; have q0 := cell_later hSw b0'; have q1 := cell_later hSw b1'; go_simp)
  try simp only [List.getElem_toArray, List.getElem_cons_zero, List.getElem_cons_succ, Act.put, List.setIfInBounds_toArray, List.set_cons_zero, List.set_cons_succ]
  refine' wpAnyH_take (i := 14) (v := _) rfl (by kernel_rfl) (by kernel_rfl) (by kernel_rfl) (fun _ _ _ h => h) (Or.inl ⟨by rfl, ?hy311⟩) hHeld ?hn311
  case hy311 => (intro wz hSw; (try dsimp only at hSw); go_simp; first | done | with_reducible rfl)
  try simp only [List.getElem_toArray, List.getElem_cons_zero, List.getElem_cons_succ, Act.put, List.setIfInBounds_toArray, List.set_cons_zero, List.set_cons_succ]
  refine wpAnyH_ready (rs := [10]) (by kernel_rfl) (by simp) ?_
  refine AllReadyH.cons rfl (fun K hK => ?_) AllReadyH.nil
  go_simp
  refine (labelBoth_any _ _ _ _ _).mono ?_; rintro e' w9 ⟨rfl, hbx⟩; rw [HBK.out, HBT.out]
  refine hK.out _ _ (Below.then hHeld hbx hHeld.size) (fun hHeld => ?_)
  clear hK K
  refine wpAnyH_ready (rs := [13]) (by kernel_rfl) (by simp) ?_
  refine AllReadyH.cons rfl (fun K hK => ?_) AllReadyH.nil
  go_simp
  refine (labelBoth_any _ _ _ _ _).mono ?_; rintro e' w9 ⟨rfl, hbx⟩
  refine hK.out _ _ (Below.then hHeld hbx hHeld.size) (fun hHeld => ?_)
  clear hK K
  refine wpAnyH_ready (rs := [15]) (by kernel_rfl) (by simp) ?_
  refine AllReadyH.cons rfl (fun K hK => ?_) AllReadyH.nil
  go_simp
  refine Calls.mono (KL.out _ _ _ hHeld) ?_; rintro e' w9 ⟨rfl, hbx⟩
  refine hK.out _ _ (Below.then hHeld hbx hHeld.size) (fun hHeld => ?_)
  clear hK K
  refine' wpAnyH_take (i := 16) (v := _) rfl (by kernel_rfl) (by kernel_rfl) (by kernel_rfl) (fun _ _ _ h => h) (Or.inl ⟨by rfl, ?hy312⟩) hHeld ?hn312
  case hy312 => (intro wz hSw; (try dsimp only at hSw); go_simp; first | done | with_reducible rfl)
  try simp only [List.getElem_toArray, List.getElem_cons_zero, List.getElem_cons_succ, Act.put, List.setIfInBounds_toArray, List.set_cons_zero, List.set_cons_succ]
  refine' wpAnyH_take (i := 17) (v := _) rfl (by kernel_rfl) (by kernel_rfl) (by kernel_rfl) (fun _ _ _ h => h) (Or.inl ⟨by rfl, ?hy313⟩) hHeld ?hn313
  case hy313 => (intro wz hSw; (try dsimp only at hSw); go_simp; first | done | with_reducible rfl)
  try simp only [List.getElem_toArray, List.getElem_cons_zero, List.getElem_cons_succ, Act.put, List.setIfInBounds_toArray, List.set_cons_zero, List.set_cons_succ]
  refine' wpAnyH_take (i := 18) (v := _) rfl (by kernel_rfl) (by kernel_rfl) (by kernel_rfl) (fun _ _ _ h => h) (Or.inl ⟨by rfl, ?hy314⟩) hHeld ?hn314
  case hy314 => (intro wz hSw; (try dsimp only at hSw); go_simp; first | done | with_reducible rfl)
  try simp only [List.getElem_toArray, List.getElem_cons_zero, List.getElem_cons_succ, Act.put, List.setIfInBounds_toArray, List.set_cons_zero, List.set_cons_succ]
  refine' wpAnyH_take (i := 19) (v := .agg #[.int .i64 xk, .int .i64 xt]) rfl (by kernel_rfl) (by kernel_rfl) (by kernel_rfl) (fun _ _ _ h => h) (Or.inl ⟨by rfl, ?hy315⟩) hHeld ?hn315
  case hy315 => (intro wz hSw; have q0 := cell_later hSw x0; have q1 := cell_later hSw x1; go_simp)
  try simp only [List.getElem_toArray, List.getElem_cons_zero, List.getElem_cons_succ, Act.put, List.setIfInBounds_toArray, List.set_cons_zero, List.set_cons_succ]
  refine' wpAnyH_take (i := 20) (v := .agg #[.int .i64 yk, .int .i64 yt]) rfl (by kernel_rfl) (by kernel_rfl) (by kernel_rfl) (fun _ _ _ h => h) (Or.inl ⟨by rfl, ?hy316⟩) hHeld ?hn316
  case hy316 => (intro wz hSw; have q0 := cell_later hSw y0; have q1 := cell_later hSw y1; go_simp)
  try simp only [List.getElem_toArray, List.getElem_cons_zero, List.getElem_cons_succ, Act.put, List.setIfInBounds_toArray, List.set_cons_zero, List.set_cons_succ]
  refine' wpAnyH_take (i := 22) (v := .agg #[.int .i64 ak, .int .i64 at']) rfl (by kernel_rfl) (by kernel_rfl) (by kernel_rfl) (fun _ _ _ h => h) (Or.inl ⟨by rfl, ?hy317⟩) hHeld ?hn317
  case hy317 => (intro wz hSw; have q0 := cell_later hSw a0'; have q1 := cell_later hSw a1'; go_simp)
  try simp only [List.getElem_toArray, List.getElem_cons_zero, List.getElem_cons_succ, Act.put, List.setIfInBounds_toArray, List.set_cons_zero, List.set_cons_succ]
  refine' wpAnyH_take (i := 23) (v := .agg #[.int .i64 bk, .int .i64 bt]) rfl (by kernel_rfl) (by kernel_rfl) (by kernel_rfl) (fun _ _ _ h => h) (Or.inl ⟨by rfl, ?hy318⟩) hHeld ?hn318
  case hy318 => (intro wz hSw; have q0 := cell_later hSw b0'; have q1 := cell_later hSw b1'; go_simp)
  try simp only [List.getElem_toArray, List.getElem_cons_zero, List.getElem_cons_succ, Act.put, List.setIfInBounds_toArray, List.set_cons_zero, List.set_cons_succ]
  refine' wpAnyH_take (i := 25) (v := _) rfl (by kernel_rfl) (by kernel_rfl) (by kernel_rfl) (fun _ _ _ h => h) (Or.inl ⟨by rfl, ?hy319⟩) hHeld ?hn319
  case hy319 => (intro wz hSw; (try dsimp only at hSw); go_simp; first | done | with_reducible rfl)
  try simp only [List.getElem_toArray, List.getElem_cons_zero, List.getElem_cons_succ, Act.put, List.setIfInBounds_toArray, List.set_cons_zero, List.set_cons_succ]
  refine wpAnyH_ready (rs := [21]) (by kernel_rfl) (by simp) ?_
  refine AllReadyH.cons rfl (fun K hK => ?_) AllReadyH.nil
  go_simp
  refine (labelEither_any _ _ _ _ _).mono ?_; rintro e' w9 ⟨rfl, hbx⟩; rw [HEK.out, HET.out]
  refine hK.out _ _ (Below.then hHeld hbx hHeld.size) (fun hHeld => ?_)
  clear hK K
  refine wpAnyH_ready (rs := [24]) (by kernel_rfl) (by simp) ?_
  refine AllReadyH.cons rfl (fun K hK => ?_) AllReadyH.nil
  go_simp
  refine (labelEither_any _ _ _ _ _).mono ?_; rintro e' w9 ⟨rfl, hbx⟩
  refine hK.out _ _ (Below.then hHeld hbx hHeld.size) (fun hHeld => ?_)
  clear hK K
  refine wpAnyH_ready (rs := [26]) (by kernel_rfl) (by simp) ?_
  refine AllReadyH.cons rfl (fun K hK => ?_) AllReadyH.nil
  go_simp
  refine Calls.mono (KL.out _ _ _ hHeld) ?_; rintro e' w9 ⟨rfl, hbx⟩
  refine hK.out _ _ (Below.then hHeld hbx hHeld.size) (fun hHeld => ?_)
  clear hK K
  refine' wpAnyH_take (i := 27) (v := _) rfl (by kernel_rfl) (by kernel_rfl) (by kernel_rfl) (fun _ _ _ h => h) (Or.inl ⟨by rfl, ?hy320⟩) hHeld ?hn320
  case hy320 => (intro wz hSw; (try dsimp only at hSw); go_simp; first | done | with_reducible rfl)
  try simp only [List.getElem_toArray, List.getElem_cons_zero, List.getElem_cons_succ, Act.put, List.setIfInBounds_toArray, List.set_cons_zero, List.set_cons_succ]
  refine' wpAnyH_take (i := 28) (v := _) rfl (by kernel_rfl) (by kernel_rfl) (by kernel_rfl) (fun _ _ _ h => h) (Or.inl ⟨by rfl, ?hy321⟩) hHeld ?hn321
  case hy321 => (intro wz hSw; (try dsimp only at hSw); go_simp; first | done | with_reducible rfl)
  try simp only [List.getElem_toArray, List.getElem_cons_zero, List.getElem_cons_succ, Act.put, List.setIfInBounds_toArray, List.set_cons_zero, List.set_cons_succ]
  refine' wpAnyH_take (i := 29) (v := _) rfl (by kernel_rfl) (by kernel_rfl) (by kernel_rfl) (fun _ _ _ h => h) (Or.inl ⟨by rfl, ?hy322⟩) hHeld ?hn322
  case hy322 => (intro wz hSw; (try dsimp only at hSw); go_simp; first | done | with_reducible rfl)
  try simp only [List.getElem_toArray, List.getElem_cons_zero, List.getElem_cons_succ, Act.put, List.setIfInBounds_toArray, List.set_cons_zero, List.set_cons_succ]
  refine wpAnyH_done (by kernel_rfl) ?_ _
  have HBF : Hid (Below w6'.heap.size w6' _) := hHeld
  clear hHeld
  go_wp2
  go_ret
  exact ⟨by simp, Below.then (Below.then HB.out B10.out HB.out.size) HBF.out (Below.then HB.out B10.out HB.out.size).size⟩

end Go.Proofs.Ytfmhdjnambnglaa

/- The exact law of ProgAt, walked. -/
import Derived.Test.YtegnakcdkdfkdaaMkC
import Derived.Test.YtegnakcdkdfkdaaWExO
namespace Go.Proofs.Ytegnakcdkdfkdaa
open Go.RowKit
set_option linter.unusedSimpArgs false
set_option linter.unusedVariables false
attribute [local go_sem ↓] Go.wp_at_zero Go.wp_at_succ
attribute [local go_sem] World.cell?_alloc_some

theorem C8.fs {bs : List Nat} {w w' : World} {b : Nat} {v0 v1 v2 v3 v4 v5 v6 v7 : Value} (h : C8 w b v0 v1 v2 v3 v4 v5 v6 v7) (hf : Fs bs w w') (hn : b ∉ bs) : C8 w' b v0 v1 v2 v3 v4 v5 v6 v7 := by
  obtain ⟨⟨c0, c1, c2, c3, c4, c5, c6, c7⟩, f⟩ := h
  have hlt : b < w.heap.size := World.block_lt_of_cell? w _ c0
  have hb := hf.block b hlt hn
  have hfz : ∀ o, w'.frozen? ⟨b, o, none⟩ = w.frozen? ⟨b, o, none⟩ := fun o => World.frozen?_of_block (a := ⟨b, o, none⟩) hb
  exact ⟨⟨hf.cell c0 hn, hf.cell c1 hn, hf.cell c2 hn, hf.cell c3 hn, hf.cell c4 hn, hf.cell c5 hn, hf.cell c6 hn, hf.cell c7 hn⟩,
    (hfz 0).trans f.1, (hfz 1).trans f.2.1, (hfz 2).trans f.2.2.1, (hfz 3).trans f.2.2.2.1, (hfz 4).trans f.2.2.2.2.1, (hfz 5).trans f.2.2.2.2.2.1, (hfz 6).trans f.2.2.2.2.2.2.1, (hfz 7).trans f.2.2.2.2.2.2.2⟩

set_option maxHeartbeats 8000000 in
set_option maxRecDepth 20000 in
theorem fnExactProgAt_walk {d : Nat} {T : Tr d} {lv sv : Value} {ls : List (Int × Int)} (n : Int) (w : World) (hL : LRep w lv ls) (hR : Rep w d sv T) :
    Calls Try.prog 8 #[.agg #[lv, sv], .int .i64 n] w fun e w' => e = .returned (.bool true) ∧ Below w.heap.size w w' := by
  have A : Below w.heap.size w (w.alloc (.cells #[lv, sv] 44)) := (Below.refl _ _).alloc (Nat.le_refl _) _
  have C0 : Hid _ := szProg_any (left := 1048576) (hL.below A) (hR.below A) (by decide) (by decide)
  have HL : Hid (∀ w', Below w.heap.size w w' → LRep w' lv ls) := (show ∀ w', _ from fun w' hb => hL.below hb)
  have HR : Hid (∀ w', Below w.heap.size w w' → Rep w' d sv T) := (show ∀ w', _ from fun w' hb => hR.below hb)
  obtain ⟨la, lc, rfl, -⟩ := hL
  obtain ⟨sa, sc, rfl⟩ := hR.slice
  clear hR
  go_enter Try.func8, Try.ntmps8
  go_wp2_with fail
  go_at_call 19; refine Calls.mono C0.out ?_; rintro e w1 ⟨rfl, hb1⟩
  have B1 : Below w.heap.size w w1 := Below.then A hb1 (by simp)
  have x0 : w1.cell? ⟨w.heap.size, 0, none⟩ = some (.slice la ls.length lc) := cell_later hb1 (by go_simp)
  have x1 : w1.cell? ⟨w.heap.size, 1, none⟩ = some (.slice sa (ln d T) sc) := cell_later hb1 (by go_simp)
  have z1 : w.heap.size < w1.heap.size := by have := hb1.size; simp at this; omega
  clear hb1 A C0
  by_cases hsz : ((ls.length + cnt d T : Nat) : Int) ≤ 1048576
  case neg =>
    rw [szR_neg hsz]
    go_wp2
    go_ret
    exact ⟨rfl, B1⟩
  rw [szR_pos hsz]
  have h0 : ¬ (1048576 - ((ls.length + cnt d T : Nat) : Int) < 0) := by omega
  have h0' : 0 ≤ 1048576 - ((ls.length + cnt d T : Nat) : Int) := by omega
  have hlen : ls.length ≤ 1048576 := by omega
  have hcn : cnt d T ≤ 1048576 := by omega
  have CT : Hid (∀ wx, Below w.heap.size w wx → Calls Try.prog 20 #[.agg #[.slice la ls.length lc, .slice sa (ln d T) sc]] wx fun e w' => ∃ lv' sv' b1 b2, e = .returned (.agg #[lv', sv']) ∧ Below wx.heap.size wx w' ∧ LOwn w' lv' ls b1 ∧ Own w' d sv' T b2 ∧ (∀ b ∈ b1 ++ b2, wx.heap.size ≤ b ∧ b < w'.heap.size) ∧ b2.Nodup ∧ (∀ b ∈ b1, b ∉ b2)) := (show ∀ wx, _ from fun wx hb => toProg_any (HL.out wx hb) (HR.out wx hb) hlen hcn)
  have hxc := atX_cnt (ls := ls) (n := n) hcn
  have CS : Hid (∀ (wx : World) (lv sv : Value), LRep wx lv ls → Rep wx d sv T → Calls Try.prog 16 #[.agg #[lv, sv], .int .i64 n] wx fun e w' => Below wx.heap.size wx w' ∧ ∃ (t' e' : Value) (b1 b2 : List Nat), e = .returned (.tuple #[stepOf (atX ls d T n).2.1 t' e', .bool (progB ls d T && vIn (cnt d T) n)]) ∧ Own w' (atX ls d T n).1 t' (atX ls d T n).2.2.1 b1 ∧ Own w' (atX ls d T n).1 e' (atX ls d T n).2.2.2 b2 ∧ (∀ b ∈ b1 ++ b2, wx.heap.size ≤ b ∧ b < w'.heap.size) ∧ (b1 ++ b2).Nodup) := (show ∀ (wx : World) (lv sv : Value), _ from fun _ _ _ hL hR => (sProgAt_any n hL hR hcn).mono fun _ _ h => h.step)
  have CI : Hid (∀ (wx : World) (lv sv : Value), LRep wx lv ls → Rep wx d sv T → Calls Try.prog 17 #[.agg #[lv, sv], .int .i64 n] wx fun e w' => Below wx.heap.size wx w' ∧ ∃ (t' e' : Value) (b1 b2 : List Nat), e = .returned (.tuple #[stepOf (atX ls d T n).2.1 t' e', .bool (progB ls d T && vIn (cnt d T) n)]) ∧ Own w' (atX ls d T n).1 t' (atX ls d T n).2.2.1 b1 ∧ Own w' (atX ls d T n).1 e' (atX ls d T n).2.2.2 b2 ∧ (∀ b ∈ b1 ++ b2, wx.heap.size ≤ b ∧ b < w'.heap.size) ∧ (b1 ++ b2).Nodup) := (show ∀ (wx : World) (lv sv : Value), _ from fun _ _ _ hL hR => (progAt_any n hL hR).mono fun _ _ h => h.step)
  generalize atX ls d T n = X at hxc CS CI
  generalize (progB ls d T && vIn (cnt d T) n) = B at CS CI
  obtain ⟨kx, p, T1, T2⟩ := X
  obtain ⟨hx1, hx2⟩ := hxc
  have hx1' : cnt kx T1 ≤ 1048576 := hx1
  have hx2' : cnt kx T2 ≤ 1048576 := hx2
  clear hx1 hx2
  generalize 1048576 - ((ls.length + cnt d T : Nat) : Int) = z at h0 h0' ⊢
  go_wp2_with fail
  go_at_call 20; refine (CT.out _ B1).mono ?_; rintro e w2 ⟨lv1, sv1, b11, b12, rfl, hb2, o11, o12, -, -, -⟩
  have B2 : Below w.heap.size w w2 := Below.then B1 hb2 B1.size
  have C1 : Hid _ := CS.out _ _ _ o11.rep o12.rep
  obtain ⟨la1, lc1, rfl, -⟩ := o11.rep
  obtain ⟨sa1, sc1, rfl⟩ := o12.slice
  replace x0 := cell_later hb2 x0
  replace x1 := cell_later hb2 x1
  have z2 : w1.heap.size ≤ w2.heap.size := hb2.size
  clear hb2 B1 o11 o12
  go_wp2_with fail
  go_at_call 16; refine Calls.mono C1.out ?_; rintro e w3 ⟨hb3, t0, e0, c1, c2, rfl, q1, q2, rc, nc⟩
  have B3 : Below w.heap.size w w3 := Below.then B2 hb3 B2.size
  obtain ⟨ta0, tc0, rfl⟩ := q1.slice
  obtain ⟨ea0, ec0, rfl⟩ := q2.slice
  try dsimp only at q1 q2
  have A3 : Below w3.heap.size w3 (w3.alloc (.cells #[.int .i64 p.k, .int .i64 p.v, .int .i64 p.vk, .int .i64 p.va, .int .i64 p.vb, .int .i64 p.h, .slice ta0 (ln kx T1) tc0, .slice ea0 (ln kx T2) ec0] 34)) := (Below.refl _ _).alloc (Nat.le_refl _) _
  have G0 := C8.new w3 (.int .i64 p.k) (.int .i64 p.v) (.int .i64 p.vk) (.int .i64 p.va) (.int .i64 p.vb) (.int .i64 p.h) (.slice ta0 (ln kx T1) tc0) (.slice ea0 (ln kx T2) ec0) 34
  have ltc : ∀ b ∈ c1 ++ c2, b < w3.heap.size := fun b hb => (rc b hb).2
  replace q1 := q1.below A3 (fun b hb => ltc b (List.mem_append_left _ hb))
  replace q2 := q2.below A3 (fun b hb => ltc b (List.mem_append_right _ hb))
  replace x0 := cell_later A3 (cell_later hb3 x0)
  replace x1 := cell_later A3 (cell_later hb3 x1)
  have B3a : Below w.heap.size w (w3.alloc (.cells #[.int .i64 p.k, .int .i64 p.v, .int .i64 p.vk, .int .i64 p.va, .int .i64 p.vb, .int .i64 p.h, .slice ta0 (ln kx T1) tc0, .slice ea0 (ln kx T2) ec0] 34)) := Below.then B3 A3 B3.size
  have z3 : w2.heap.size ≤ w3.heap.size := hb3.size
  have z3a : (w3.alloc (.cells #[.int .i64 p.k, .int .i64 p.v, .int .i64 p.vk, .int .i64 p.va, .int .i64 p.vb, .int .i64 p.h, .slice ta0 (ln kx T1) tc0, .slice ea0 (ln kx T2) ec0] 34)).heap.size = w3.heap.size + 1 := by simp
  have Q1 : Hid _ := q1
  have Q2 : Hid _ := q2
  have HG0 : Hid _ := G0
  have RC : Hid (∀ b ∈ c1 ++ c2, w.heap.size < b ∧ b < w3.heap.size) := (show ∀ b ∈ c1 ++ c2, _ from fun b hb => by have := rc b hb; omega)
  unfold stepOf
  clear hb3 C1 B2 rc nc q1 q2 G0 ltc
  go_wp2_with fail
  go_at_call 20; refine (CT.out _ B3a).mono ?_
  generalize w3.alloc (.cells #[.int .i64 p.k, .int .i64 p.v, .int .i64 p.vk, .int .i64 p.va, .int .i64 p.vb, .int .i64 p.h, .slice ta0 (ln kx T1) tc0, .slice ea0 (ln kx T2) ec0] 34) = w3a at *
  rintro e w4 ⟨lv2, sv2, p1, p2, rfl, hb4, o21, o22, rp, np, dp⟩
  have B4 : Below w.heap.size w w4 := Below.then B3a hb4 B3a.size
  obtain ⟨la2, lc2, rfl, -⟩ := o21.rep
  obtain ⟨sa2, sc2, rfl⟩ := o22.slice
  have z4 : w3a.heap.size ≤ w4.heap.size := hb4.size
  have A4 : Below w4.heap.size w4 (w4.alloc (.cells #[.slice la2 ls.length lc2, .slice sa2 (ln d T) sc2] 26)) := (Below.refl _ _).alloc (Nat.le_refl _) _
  have rp1 : ∀ b ∈ p1, b < w4.heap.size := fun b hb => (rp b (List.mem_append_left _ hb)).2
  have rp2 : ∀ b ∈ p2, b < w4.heap.size := fun b hb => (rp b (List.mem_append_right _ hb)).2
  have LP : LOwn (w4.alloc (.cells #[.slice la2 ls.length lc2, .slice sa2 (ln d T) sc2] 26)) (.slice la2 ls.length lc2) ls p1 := LOwn.frame (fun b hb => A4.block b (rp1 b hb)) o21
  have RP : Own (w4.alloc (.cells #[.slice la2 ls.length lc2, .slice sa2 (ln d T) sc2] 26)) d (.slice sa2 (ln d T) sc2) T p2 := o22.below A4 rp2
  have ltc : ∀ b ∈ c1 ++ c2, b < w3a.heap.size := fun b hb => by have := (RC.out b hb).2; omega
  have ltc4 : ∀ b ∈ c1 ++ c2, b < w4.heap.size := fun b hb => by have := ltc b hb; omega
  have q1 := ((Own.below Q1.out hb4 (fun b hb => ltc b (List.mem_append_left _ hb))).below A4 (fun b hb => ltc4 b (List.mem_append_left _ hb)))
  have q2 := ((Own.below Q2.out hb4 (fun b hb => ltc b (List.mem_append_right _ hb))).below A4 (fun b hb => ltc4 b (List.mem_append_right _ hb)))
  have G0 := (C8.below HG0.out hb4).below A4
  replace x0 := cell_later A4 (cell_later hb4 x0)
  replace x1 := cell_later A4 (cell_later hb4 x1)
  have B4a : Below w.heap.size w (w4.alloc (.cells #[.slice la2 ls.length lc2, .slice sa2 (ln d T) sc2] 26)) := Below.then B4 A4 B4.size
  have z4a : (w4.alloc (.cells #[.slice la2 ls.length lc2, .slice sa2 (ln d T) sc2] 26)).heap.size = w4.heap.size + 1 := by simp
  have y0 : (w4.alloc (.cells #[.slice la2 ls.length lc2, .slice sa2 (ln d T) sc2] 26)).cell? ⟨w4.heap.size, 0, none⟩ = some (.slice la2 ls.length lc2) := by go_simp
  have y1 : (w4.alloc (.cells #[.slice la2 ls.length lc2, .slice sa2 (ln d T) sc2] 26)).cell? ⟨w4.heap.size, 1, none⟩ = some (.slice sa2 (ln d T) sc2) := by go_simp
  have C2 : Hid _ := CI.out _ _ _ LP.rep RP.rep
  have HLP : Hid _ := LP
  have HRP : Hid _ := RP
  have HQ1 : Hid _ := q1
  have HQ2 : Hid _ := q2
  have HG0' : Hid _ := G0
  have RPP : Hid (∀ b ∈ p1 ++ p2, w3.heap.size < b ∧ b < w4.heap.size) := (show ∀ b ∈ p1 ++ p2, _ from fun b hb => by have := rp b hb; omega)
  have HX : Hid _ := And.intro x0 x1
  have HY : Hid _ := And.intro y0 y1
  clear hb4 o21 o22 rp rp1 rp2 q1 q2 G0 Q1 Q2 HG0 LP RP ltc ltc4 B3 B3a A3 x0 x1 y0 y1
  go_wp2_with fail
  go_at_call 17; refine Calls.mono C2.out ?_
  generalize w4.alloc (.cells #[.slice la2 ls.length lc2, .slice sa2 (ln d T) sc2] 26) = w4a at *
  rintro e w5 ⟨hb5, t1, e1, b1, b2, rfl, g1, g2, rb, nb⟩
  obtain ⟨ta1, tc1, rfl⟩ := g1.slice
  obtain ⟨ea1, ec1, rfl⟩ := g2.slice
  try dsimp only at g1 g2
  have B5 : Below w.heap.size w w5 := Below.then B4a hb5 B4a.size
  have z5 : w4a.heap.size ≤ w5.heap.size := hb5.size
  have A5 : Below w5.heap.size w5 (w5.alloc (.cells #[.int .i64 p.k, .int .i64 p.v, .int .i64 p.vk, .int .i64 p.va, .int .i64 p.vb, .int .i64 p.h, .slice ta1 (ln kx T1) tc1, .slice ea1 (ln kx T2) ec1] 34)) := (Below.refl _ _).alloc (Nat.le_refl _) _
  have rb1 : ∀ b ∈ b1 ++ b2, b < w5.heap.size := fun b hb => (rb b hb).2
  have bw : ∀ b, b < w4a.heap.size → (w5.alloc (.cells #[.int .i64 p.k, .int .i64 p.v, .int .i64 p.vk, .int .i64 p.va, .int .i64 p.vb, .int .i64 p.h, .slice ta1 (ln kx T1) tc1, .slice ea1 (ln kx T2) ec1] 34)).heap[b]? = w4a.heap[b]? := fun b hb => (A5.block b (by omega)).trans (hb5.block b hb)
  have LP := LOwn.frame (w' := w5.alloc (.cells #[.int .i64 p.k, .int .i64 p.v, .int .i64 p.vk, .int .i64 p.va, .int .i64 p.vb, .int .i64 p.h, .slice ta1 (ln kx T1) tc1, .slice ea1 (ln kx T2) ec1] 34)) (fun b hb => bw b (by have := RPP.out b (List.mem_append_left _ hb); omega)) HLP.out
  have RP := Own.frame (w' := w5.alloc (.cells #[.int .i64 p.k, .int .i64 p.v, .int .i64 p.vk, .int .i64 p.va, .int .i64 p.vb, .int .i64 p.h, .slice ta1 (ln kx T1) tc1, .slice ea1 (ln kx T2) ec1] 34)) (fun b hb => bw b (by have := RPP.out b (List.mem_append_right _ hb); omega)) HRP.out
  have q1 := Own.frame (w' := w5.alloc (.cells #[.int .i64 p.k, .int .i64 p.v, .int .i64 p.vk, .int .i64 p.va, .int .i64 p.vb, .int .i64 p.h, .slice ta1 (ln kx T1) tc1, .slice ea1 (ln kx T2) ec1] 34)) (fun b hb => bw b (by have := RC.out b (List.mem_append_left _ hb); omega)) HQ1.out
  have q2 := Own.frame (w' := w5.alloc (.cells #[.int .i64 p.k, .int .i64 p.v, .int .i64 p.vk, .int .i64 p.va, .int .i64 p.vb, .int .i64 p.h, .slice ta1 (ln kx T1) tc1, .slice ea1 (ln kx T2) ec1] 34)) (fun b hb => bw b (by have := RC.out b (List.mem_append_right _ hb); omega)) HQ2.out
  replace g1 := g1.below A5 (fun b hb => rb1 b (List.mem_append_left _ hb))
  replace g2 := g2.below A5 (fun b hb => rb1 b (List.mem_append_right _ hb))
  have G0 := (C8.below HG0'.out hb5).below A5
  have G1 := C8.new w5 (.int .i64 p.k) (.int .i64 p.v) (.int .i64 p.vk) (.int .i64 p.va) (.int .i64 p.vb) (.int .i64 p.h) (.slice ta1 (ln kx T1) tc1) (.slice ea1 (ln kx T2) ec1) 34
  obtain ⟨x0, x1⟩ := HX.out
  obtain ⟨y0, y1⟩ := HY.out
  replace x0 := cell_later A5 (cell_later hb5 x0)
  replace x1 := cell_later A5 (cell_later hb5 x1)
  replace y0 := cell_later A5 (cell_later hb5 y0)
  replace y1 := cell_later A5 (cell_later hb5 y1)
  have B5a : Below w.heap.size w (w5.alloc (.cells #[.int .i64 p.k, .int .i64 p.v, .int .i64 p.vk, .int .i64 p.va, .int .i64 p.vb, .int .i64 p.h, .slice ta1 (ln kx T1) tc1, .slice ea1 (ln kx T2) ec1] 34)) := Below.then B5 A5 B5.size
  have z5a : (w5.alloc (.cells #[.int .i64 p.k, .int .i64 p.v, .int .i64 p.vk, .int .i64 p.va, .int .i64 p.vb, .int .i64 p.h, .slice ta1 (ln kx T1) tc1, .slice ea1 (ln kx T2) ec1] 34)).heap.size = w5.heap.size + 1 := by simp
  have RB : Hid (∀ b ∈ b1 ++ b2, w4.heap.size < b ∧ b < w5.heap.size) := (show ∀ b ∈ b1 ++ b2, _ from fun b hb => by have := rb b hb; omega)
  have C3 : Hid _ := eqStep_same (p := p) g1.rep g2.rep q1.rep q2.rep
  have HLP5 : Hid _ := LP
  have HRP5 : Hid _ := RP
  have HQ15 : Hid _ := q1
  have HQ25 : Hid _ := q2
  have HG1 : Hid _ := g1
  have HG2 : Hid _ := g2
  have HC0 : Hid _ := G0
  have HC1 : Hid _ := G1
  have HX5 : Hid _ := And.intro x0 x1
  have HY5 : Hid _ := And.intro y0 y1
  obtain ⟨⟨a0, a1, a2, a3, a4, a5, a6, a7⟩, -⟩ := G0
  obtain ⟨⟨f0, f1, f2, f3, f4, f5, f6, f7⟩, -⟩ := G1
  unfold stepOf
  clear hb5 C2 B4 B4a A4 rb rb1 bw LP RP q1 q2 g1 g2 HLP HRP HQ1 HQ2 HG0' HX HY x0 x1 y0 y1
  unfold stepOf at C3
  go_wp2_with fail
  go_at_call 22; refine Calls.mono C3.out ?_
  generalize w5.alloc (.cells #[.int .i64 p.k, .int .i64 p.v, .int .i64 p.vk, .int .i64 p.va, .int .i64 p.vb, .int .i64 p.h, .slice ta1 (ln kx T1) tc1, .slice ea1 (ln kx T2) ec1] 34) = w5a at *
  rintro e w6 ⟨rfl, hb6⟩
  have B6 : Below w.heap.size w w6 := Below.then B5a hb6 B5a.size
  have z6 : w5a.heap.size ≤ w6.heap.size := hb6.size
  have LP6 : Hid (LOwn w6 (.slice la2 ls.length lc2) ls p1) := LOwn.frame (fun b hb => hb6.block b (by have := RPP.out b (List.mem_append_left _ hb); omega)) HLP5.out
  have RP6 : Hid (Own w6 d (.slice sa2 (ln d T) sc2) T p2) := Own.frame (fun b hb => hb6.block b (by have := RPP.out b (List.mem_append_right _ hb); omega)) HRP5.out
  have Q16 : Hid (Own w6 kx (.slice ta0 (ln kx T1) tc0) T1 c1) := Own.frame (fun b hb => hb6.block b (by have := RC.out b (List.mem_append_left _ hb); omega)) HQ15.out
  have Q26 : Hid (Own w6 kx (.slice ea0 (ln kx T2) ec0) T2 c2) := Own.frame (fun b hb => hb6.block b (by have := RC.out b (List.mem_append_right _ hb); omega)) HQ25.out
  have G16 : Hid (Own w6 kx (.slice ta1 (ln kx T1) tc1) T1 b1) := Own.frame (fun b hb => hb6.block b (by have := RB.out b (List.mem_append_left _ hb); omega)) HG1.out
  have G26 : Hid (Own w6 kx (.slice ea1 (ln kx T2) ec1) T2 b2) := Own.frame (fun b hb => hb6.block b (by have := RB.out b (List.mem_append_right _ hb); omega)) HG2.out
  have C06 : Hid (C8 w6 w3.heap.size (.int .i64 p.k) (.int .i64 p.v) (.int .i64 p.vk) (.int .i64 p.va) (.int .i64 p.vb) (.int .i64 p.h) (.slice ta0 (ln kx T1) tc0) (.slice ea0 (ln kx T2) ec0)) := C8.below HC0.out hb6
  have C16 : Hid (C8 w6 w5.heap.size (.int .i64 p.k) (.int .i64 p.v) (.int .i64 p.vk) (.int .i64 p.va) (.int .i64 p.vb) (.int .i64 p.h) (.slice ta1 (ln kx T1) tc1) (.slice ea1 (ln kx T2) ec1)) := C8.below HC1.out hb6
  obtain ⟨x0, x1⟩ := HX5.out
  obtain ⟨y0, y1⟩ := HY5.out
  replace x0 := cell_later hb6 x0
  replace x1 := cell_later hb6 x1
  replace y0 := cell_later hb6 y0
  replace y1 := cell_later hb6 y1
  clear hb6 C3 B5 B5a A5 HLP5 HRP5 HQ15 HQ25 HG1 HG2 HC0 HC1 HX5 HY5 a0 a1 a2 a3 a4 a5 a6 a7 f0 f1 f2 f3 f4 f5 f6 f7
  go_wp2_with fail
  refine wp_region_held (S := (fun wz => (wz.cell? ⟨w.heap.size, 0, none⟩ = some (.slice la ls.length lc) ∧ wz.cell? ⟨w.heap.size, 1, none⟩ = some (.slice sa (ln d T) sc)) ∧ (wz.cell? ⟨w4.heap.size, 0, none⟩ = some (.slice la2 ls.length lc2) ∧ wz.cell? ⟨w4.heap.size, 1, none⟩ = some (.slice sa2 (ln d T) sc2)) ∧ Below w6.heap.size w6 wz)) (by kernel_rfl) ?_
  change wpAnyH _ _ _ _ _ _ _ _ (World.drew _)
  have hHeld := SE1 ⟨⟨x0, x1⟩, ⟨y0, y1⟩, Below.refl w6.heap.size w6⟩
  refine' wpAnyH_take (i := 0) (v := .agg #[.slice la2 ls.length lc2, .slice sa2 (ln d T) sc2]) rfl (by kernel_rfl) (by kernel_rfl) (by kernel_rfl) (fun _ _ _ h => h) (Or.inl ⟨by rfl, ?hy1⟩) hHeld ?hn1
  case hy1 => (intro wz hSw; obtain ⟨_, ⟨k0, k1⟩, _⟩ := hSw; go_simp)
  try simp only [List.getElem_toArray, List.getElem_cons_zero, List.getElem_cons_succ, Act.put, List.setIfInBounds_toArray, List.set_cons_zero, List.set_cons_succ]
  refine' wpAnyH_take (i := 1) (v := .agg #[.slice la ls.length lc, .slice sa (ln d T) sc]) rfl (by kernel_rfl) (by kernel_rfl) (by kernel_rfl) (fun _ _ _ h => h) (Or.inl ⟨by rfl, ?hy2⟩) hHeld ?hn2
  case hy2 => (intro wz hSw; obtain ⟨⟨k0, k1⟩, _, _⟩ := hSw; go_simp)
  try simp only [List.getElem_toArray, List.getElem_cons_zero, List.getElem_cons_succ, Act.put, List.setIfInBounds_toArray, List.set_cons_zero, List.set_cons_succ]
  refine wpAnyH_ready (rs := [2]) (by kernel_rfl) (by simp) ?_
  refine AllReadyH.cons rfl (fun K hK => ?_) AllReadyH.nil
  go_simp
  refine (CT.out _ (Below.then B6 hHeld.2.2 B6.size)).mono ?_; rintro e' w9 ⟨lv3, sv3, b31, b32, rfl, hbx, o31, o32, -, -, -⟩; obtain ⟨la3, lc3, rfl, -⟩ := o31.rep; obtain ⟨sa3, sc3, rfl⟩ := o32.slice; have CE : Hid _ := eqProg_same (LP6.out.rep.below (Below.then' hHeld.2.2 hbx)) (RP6.out.rep.below (Below.then' hHeld.2.2 hbx)) o31.rep o32.rep
  refine hK.out _ _ (SE2 hHeld hbx) (fun hHeld => ?_)
  clear hK K
  refine wpAnyH_ready (rs := [3]) (by kernel_rfl) (by simp) ?_
  refine AllReadyH.cons rfl (fun K hK => ?_) AllReadyH.nil
  go_simp
  refine Calls.mono CE.out ?_; rintro e' w9 ⟨rfl, hbx⟩
  refine hK.out _ _ (SE2 hHeld hbx) (fun hHeld => ?_)
  clear hK K
  refine' wpAnyH_take (i := 4) (v := _) rfl (by kernel_rfl) (by kernel_rfl) (by kernel_rfl) (fun _ _ _ h => h) (Or.inl ⟨by rfl, ?hy3⟩) hHeld ?hn3
  case hy3 => (intro wz hSw; (try dsimp only at hSw); go_simp; first | done | with_reducible rfl)
  try simp only [List.getElem_toArray, List.getElem_cons_zero, List.getElem_cons_succ, Act.put, List.setIfInBounds_toArray, List.set_cons_zero, List.set_cons_succ]
  refine wpAnyH_done (by kernel_rfl) ?_ _
  obtain ⟨⟨x0, x1⟩, ⟨y0, y1⟩, hb7⟩ := hHeld
  have B7 : Below w.heap.size w w9 := Below.then B6 hb7 B6.size
  have z7 : w6.heap.size ≤ w9.heap.size := hb7.size
  have LP7 : LOwn w9 (.slice la2 ls.length lc2) ls p1 := LOwn.frame (fun b hb => hb7.block b (by have := RPP.out b (List.mem_append_left _ hb); omega)) LP6.out
  have RP7 : Own w9 d (.slice sa2 (ln d T) sc2) T p2 := Own.frame (fun b hb => hb7.block b (by have := RPP.out b (List.mem_append_right _ hb); omega)) RP6.out
  have Q17 : Hid (Own w9 kx (.slice ta0 (ln kx T1) tc0) T1 c1) := Own.frame (fun b hb => hb7.block b (by have := RC.out b (List.mem_append_left _ hb); omega)) Q16.out
  have Q27 : Hid (Own w9 kx (.slice ea0 (ln kx T2) ec0) T2 c2) := Own.frame (fun b hb => hb7.block b (by have := RC.out b (List.mem_append_right _ hb); omega)) Q26.out
  have G17 : Hid (Own w9 kx (.slice ta1 (ln kx T1) tc1) T1 b1) := Own.frame (fun b hb => hb7.block b (by have := RB.out b (List.mem_append_left _ hb); omega)) G16.out
  have G27 : Hid (Own w9 kx (.slice ea1 (ln kx T2) ec1) T2 b2) := Own.frame (fun b hb => hb7.block b (by have := RB.out b (List.mem_append_right _ hb); omega)) G26.out
  have C07 : Hid (C8 w9 w3.heap.size (.int .i64 p.k) (.int .i64 p.v) (.int .i64 p.vk) (.int .i64 p.va) (.int .i64 p.vb) (.int .i64 p.h) (.slice ta0 (ln kx T1) tc0) (.slice ea0 (ln kx T2) ec0)) := C8.below C06.out hb7
  have C17 : Hid (C8 w9 w5.heap.size (.int .i64 p.k) (.int .i64 p.v) (.int .i64 p.vk) (.int .i64 p.va) (.int .i64 p.vb) (.int .i64 p.h) (.slice ta1 (ln kx T1) tc1) (.slice ea1 (ln kx T2) ec1)) := C8.below C16.out hb7
  have C4 : Hid _ := markProg_any LP7 RP7 (fun b hb => by have := RPP.out b hb; omega) np dp hlen hcn
  clear hb7 LP7 RP7 LP6 RP6 Q16 Q26 G16 G26 C06 C16 B6
  go_wp2_with fail
  go_at_call 23; refine Calls.mono C4.out ?_
  rintro e w10 ⟨rfl, fs10⟩
  have B10 : Below w.heap.size w w10 := B7.trans (fs10.below (fun b hb => by have := RPP.out b hb; omega) B7.size)
  have z10 : w9.heap.size ≤ w10.heap.size := fs10.size
  have nk : ¬ 1 + 2 * (ls.length : Int) + 6 * (cnt d T : Int) < 0 := by omega
  have nk' : 0 ≤ 1 + 2 * (ls.length : Int) + 6 * (cnt d T : Int) := by omega
  have Q110 : Hid (Own w10 kx (.slice ta0 (ln kx T1) tc0) T1 c1) := Own.frame (fun b hb => fs10.block b (by have := RC.out b (List.mem_append_left _ hb); omega) (fun hm => by have := RC.out b (List.mem_append_left _ hb); have := RPP.out b hm; omega)) Q17.out
  have Q210 : Hid (Own w10 kx (.slice ea0 (ln kx T2) ec0) T2 c2) := Own.frame (fun b hb => fs10.block b (by have := RC.out b (List.mem_append_right _ hb); omega) (fun hm => by have := RC.out b (List.mem_append_right _ hb); have := RPP.out b hm; omega)) Q27.out
  have G110 : Hid (Own w10 kx (.slice ta1 (ln kx T1) tc1) T1 b1) := Own.frame (fun b hb => fs10.block b (by have := RB.out b (List.mem_append_left _ hb); omega) (fun hm => by have := RB.out b (List.mem_append_left _ hb); have := RPP.out b hm; omega)) G17.out
  have G210 : Hid (Own w10 kx (.slice ea1 (ln kx T2) ec1) T2 b2) := Own.frame (fun b hb => fs10.block b (by have := RB.out b (List.mem_append_right _ hb); omega) (fun hm => by have := RB.out b (List.mem_append_right _ hb); have := RPP.out b hm; omega)) G27.out
  have D0 : C8 w10 w3.heap.size (.int .i64 p.k) (.int .i64 p.v) (.int .i64 p.vk) (.int .i64 p.va) (.int .i64 p.vb) (.int .i64 p.h) (.slice ta0 (ln kx T1) tc0) (.slice ea0 (ln kx T2) ec0) := C8.fs C07.out fs10 (fun hm => by have := RPP.out _ hm; omega)
  have D1 : C8 w10 w5.heap.size (.int .i64 p.k) (.int .i64 p.v) (.int .i64 p.vk) (.int .i64 p.va) (.int .i64 p.vb) (.int .i64 p.h) (.slice ta1 (ln kx T1) tc1) (.slice ea1 (ln kx T2) ec1) := C8.fs C17.out fs10 (fun hm => by have := RPP.out _ hm; omega)
  replace x0 := fs10.cell x0 (fun hm => by have := RPP.out _ hm; simp at this; omega)
  replace x1 := fs10.cell x1 (fun hm => by have := RPP.out _ hm; simp at this; omega)
  have HX10 : Hid _ := And.intro x0 x1
  have HD0 : Hid _ := D0
  have HD1 : Hid _ := D1
  have C5 : Hid _ := eqStep_same (p := p) G110.out.rep G210.out.rep Q110.out.rep Q210.out.rep
  unfold stepOf at C5
  generalize 1 + 2 * (ls.length : Int) + 6 * (cnt d T : Int) = kk at nk nk' ⊢
  have nkd : decide (kk < 0) = false := by simpa using nk
  obtain ⟨⟨a0, a1, a2, a3, a4, a5, a6, a7⟩, -⟩ := D0
  obtain ⟨⟨f0, f1, f2, f3, f4, f5, f6, f7⟩, -⟩ := D1
  clear fs10 C4 C07 C17 Q17 Q27 G17 G27 x0 x1 y0 y1 B7
  go_wp2_with fail
  go_at_call 22; refine Calls.mono C5.out ?_
  rintro e w11 ⟨rfl, hb11⟩
  have B11 : Below w.heap.size w w11 := Below.then B10 hb11 B10.size
  have z11 : w10.heap.size ≤ w11.heap.size := hb11.size
  have Q111 : Hid (Own w11 kx (.slice ta0 (ln kx T1) tc0) T1 c1) := Own.frame (fun b hb => hb11.block b (by have := RC.out b (List.mem_append_left _ hb); omega)) Q110.out
  have Q211 : Hid (Own w11 kx (.slice ea0 (ln kx T2) ec0) T2 c2) := Own.frame (fun b hb => hb11.block b (by have := RC.out b (List.mem_append_right _ hb); omega)) Q210.out
  have G111 : Hid (Own w11 kx (.slice ta1 (ln kx T1) tc1) T1 b1) := Own.frame (fun b hb => hb11.block b (by have := RB.out b (List.mem_append_left _ hb); omega)) G110.out
  have G211 : Hid (Own w11 kx (.slice ea1 (ln kx T2) ec1) T2 b2) := Own.frame (fun b hb => hb11.block b (by have := RB.out b (List.mem_append_right _ hb); omega)) G210.out
  have D0 : C8 w11 w3.heap.size (.int .i64 p.k) (.int .i64 p.v) (.int .i64 p.vk) (.int .i64 p.va) (.int .i64 p.vb) (.int .i64 p.h) (.slice ta0 (ln kx T1) tc0) (.slice ea0 (ln kx T2) ec0) := C8.below HD0.out hb11
  have D1 : C8 w11 w5.heap.size (.int .i64 p.k) (.int .i64 p.v) (.int .i64 p.vk) (.int .i64 p.va) (.int .i64 p.vb) (.int .i64 p.h) (.slice ta1 (ln kx T1) tc1) (.slice ea1 (ln kx T2) ec1) := C8.below HD1.out hb11
  have HX11 : Hid _ := And.intro (cell_later hb11 HX10.out.1) (cell_later hb11 HX10.out.2)
  have HE0 : Hid _ := D0
  have HE1 : Hid _ := D1
  have C6 : Hid _ := markStep_any (p := p) G111.out G211.out (fun b hb => by have := RB.out b hb; omega) nb hx1' hx2'
  unfold stepOf at C6
  clear a0 a1 a2 a3 a4 a5 a6 a7 f0 f1 f2 f3 f4 f5 f6 f7 hb11 C5 HD0 HD1 HX10 B10 Q110 Q210 G110 G210
  obtain ⟨⟨f0, f1, f2, f3, f4, f5, f6, f7⟩, -⟩ := D1
  clear D0
  go_wp2_with fail
  go_at_call 24; refine Calls.mono C6.out ?_
  rintro e w12 ⟨rfl, fs12, m1, m2⟩
  have B12 : Below w.heap.size w w12 := B11.trans (fs12.below (fun b hb => by have := RB.out b hb; omega) B11.size)
  have z12 : w11.heap.size ≤ w12.heap.size := fs12.size
  have Q112 : Hid (Own w12 kx (.slice ta0 (ln kx T1) tc0) T1 c1) := Own.frame (fun b hb => fs12.block b (by have := RC.out b (List.mem_append_left _ hb); omega) (fun hm => by have := RC.out b (List.mem_append_left _ hb); have := RB.out b hm; omega)) Q111.out
  have Q212 : Hid (Own w12 kx (.slice ea0 (ln kx T2) ec0) T2 c2) := Own.frame (fun b hb => fs12.block b (by have := RC.out b (List.mem_append_right _ hb); omega) (fun hm => by have := RC.out b (List.mem_append_right _ hb); have := RB.out b hm; omega)) Q211.out
  have M1 : Hid (Own w12 kx (.slice ta1 (ln kx T1) tc1) (mkT kx 1 T1) b1) := m1
  have M2 : Hid (Own w12 kx (.slice ea1 (ln kx T2) ec1) (mkT kx (1 + 6 * cnt kx T1) T2) b2) := m2
  have D0 : C8 w12 w3.heap.size (.int .i64 p.k) (.int .i64 p.v) (.int .i64 p.vk) (.int .i64 p.va) (.int .i64 p.vb) (.int .i64 p.h) (.slice ta0 (ln kx T1) tc0) (.slice ea0 (ln kx T2) ec0) := C8.fs HE0.out fs12 (fun hm => by have := RB.out _ hm; omega)
  have D1 : C8 w12 w5.heap.size (.int .i64 p.k) (.int .i64 p.v) (.int .i64 p.vk) (.int .i64 p.va) (.int .i64 p.vb) (.int .i64 p.h) (.slice ta1 (ln kx T1) tc1) (.slice ea1 (ln kx T2) ec1) := C8.fs HE1.out fs12 (fun hm => by have := RB.out _ hm; omega)
  have HX12 : Hid _ := And.intro (fs12.cell HX11.out.1 (fun hm => by have := RB.out _ hm; simp at this; omega)) (fs12.cell HX11.out.2 (fun hm => by have := RB.out _ hm; simp at this; omega))
  have HF0 : Hid _ := D0
  have HF1 : Hid _ := D1
  have C7 : Hid _ := heldStep_any (p := p) M1.out.rep M2.out.rep hx1' hx2'
  unfold stepOf at C7
  clear f0 f1 f2 f3 f4 f5 f6 f7 fs12 C6 HE0 HE1 HX11 B11 Q111 Q211 G111 G211 m1 m2
  obtain ⟨⟨f0, f1, f2, f3, f4, f5, f6, f7⟩, -⟩ := D1
  clear D0
  have nm : ¬ 1 + 6 * (cnt kx T1 : Int) + 6 * (cnt kx T2 : Int) < 0 := by omega
  have nm' : 0 ≤ 1 + 6 * (cnt kx T1 : Int) + 6 * (cnt kx T2 : Int) := by omega
  obtain ⟨mm, hmm⟩ : ∃ m : Int, 1 + 6 * (cnt kx T1 : Int) + 6 * (cnt kx T2 : Int) = m := ⟨_, rfl⟩
  rw [hmm] at nm nm'
  have HMM : Hid _ := hmm
  rw [hmm]
  clear hmm
  go_wp2_with fail
  go_at_call 25; refine Calls.mono C7.out ?_
  rintro e w13 ⟨rfl, hb13⟩
  rw [HMM.out]
  have B13 : Below w.heap.size w w13 := Below.then B12 hb13 B12.size
  have z13 : w12.heap.size ≤ w13.heap.size := hb13.size
  have Q113 : Hid (Own w13 kx (.slice ta0 (ln kx T1) tc0) T1 c1) := Own.frame (fun b hb => hb13.block b (by have := RC.out b (List.mem_append_left _ hb); omega)) Q112.out
  have Q213 : Hid (Own w13 kx (.slice ea0 (ln kx T2) ec0) T2 c2) := Own.frame (fun b hb => hb13.block b (by have := RC.out b (List.mem_append_right _ hb); omega)) Q212.out
  have M13 : Hid (Own w13 kx (.slice ta1 (ln kx T1) tc1) (mkT kx 1 T1) b1) := Own.frame (fun b hb => hb13.block b (by have := RB.out b (List.mem_append_left _ hb); omega)) M1.out
  have M23 : Hid (Own w13 kx (.slice ea1 (ln kx T2) ec1) (mkT kx (1 + 6 * cnt kx T1) T2) b2) := Own.frame (fun b hb => hb13.block b (by have := RB.out b (List.mem_append_right _ hb); omega)) M2.out
  have K0 : Hid (C8 w13 w3.heap.size (.int .i64 p.k) (.int .i64 p.v) (.int .i64 p.vk) (.int .i64 p.va) (.int .i64 p.vb) (.int .i64 p.h) (.slice ta0 (ln kx T1) tc0) (.slice ea0 (ln kx T2) ec0)) := C8.below HF0.out hb13
  have K1 : Hid (C8 w13 w5.heap.size (.int .i64 p.k) (.int .i64 p.v) (.int .i64 p.vk) (.int .i64 p.va) (.int .i64 p.vb) (.int .i64 p.h) (.slice ta1 (ln kx T1) tc1) (.slice ea1 (ln kx T2) ec1)) := C8.below HF1.out hb13
  obtain ⟨x0, x1⟩ := HX12.out
  replace x0 := cell_later hb13 x0
  replace x1 := cell_later hb13 x1
  clear f0 f1 f2 f3 f4 f5 f6 f7 hb13 C7 HF0 HF1 HX12 B12 Q112 Q212 M1 M2
  go_wp2_with fail
  go_at_call 20; refine (CT.out _ B13).mono ?_
  rintro e w14 ⟨lv4, sv4, b41, b42, rfl, hb14, o41, o42, -, -, -⟩
  have B14 : Below w.heap.size w w14 := Below.then B13 hb14 B13.size
  have C8' : Hid _ := CI.out _ _ _ o41.rep o42.rep
  obtain ⟨la4, lc4, rfl, -⟩ := o41.rep
  obtain ⟨sa4, sc4, rfl⟩ := o42.slice
  have z14 : w13.heap.size ≤ w14.heap.size := hb14.size
  have Q114 : Hid (Own w14 kx (.slice ta0 (ln kx T1) tc0) T1 c1) := Own.frame (fun b hb => hb14.block b (by have := RC.out b (List.mem_append_left _ hb); omega)) Q113.out
  have Q214 : Hid (Own w14 kx (.slice ea0 (ln kx T2) ec0) T2 c2) := Own.frame (fun b hb => hb14.block b (by have := RC.out b (List.mem_append_right _ hb); omega)) Q213.out
  have M14 : Hid (Own w14 kx (.slice ta1 (ln kx T1) tc1) (mkT kx 1 T1) b1) := Own.frame (fun b hb => hb14.block b (by have := RB.out b (List.mem_append_left _ hb); omega)) M13.out
  have M24 : Hid (Own w14 kx (.slice ea1 (ln kx T2) ec1) (mkT kx (1 + 6 * cnt kx T1) T2) b2) := Own.frame (fun b hb => hb14.block b (by have := RB.out b (List.mem_append_right _ hb); omega)) M23.out
  have K0' : Hid (C8 w14 w3.heap.size (.int .i64 p.k) (.int .i64 p.v) (.int .i64 p.vk) (.int .i64 p.va) (.int .i64 p.vb) (.int .i64 p.h) (.slice ta0 (ln kx T1) tc0) (.slice ea0 (ln kx T2) ec0)) := C8.below K0.out hb14
  have K1' : Hid (C8 w14 w5.heap.size (.int .i64 p.k) (.int .i64 p.v) (.int .i64 p.vk) (.int .i64 p.va) (.int .i64 p.vb) (.int .i64 p.h) (.slice ta1 (ln kx T1) tc1) (.slice ea1 (ln kx T2) ec1)) := C8.below K1.out hb14
  clear hb14 o41 o42 x0 x1 K0 K1 Q113 Q213 M13 M23 B13
  go_wp2_with fail
  go_at_call 17; refine Calls.mono C8'.out ?_
  rintro e w15 ⟨hb15, t2, e2, d1, d2, rfl, k1, k2, rd, nd⟩
  obtain ⟨ta2, tc2, rfl⟩ := k1.slice
  obtain ⟨ea2, ec2, rfl⟩ := k2.slice
  try dsimp only at k1 k2
  have B15 : Below w.heap.size w w15 := Below.then B14 hb15 B14.size
  have z15 : w14.heap.size ≤ w15.heap.size := hb15.size
  have A15 : Below w15.heap.size w15 (w15.alloc (.cells #[.int .i64 p.k, .int .i64 p.v, .int .i64 p.vk, .int .i64 p.va, .int .i64 p.vb, .int .i64 p.h, .slice ta2 (ln kx T1) tc2, .slice ea2 (ln kx T2) ec2] 34)) := (Below.refl _ _).alloc (Nat.le_refl _) _
  have rd1 : ∀ b ∈ d1 ++ d2, b < w15.heap.size := fun b hb => (rd b hb).2
  have bw : ∀ b, b < w14.heap.size → (w15.alloc (.cells #[.int .i64 p.k, .int .i64 p.v, .int .i64 p.vk, .int .i64 p.va, .int .i64 p.vb, .int .i64 p.h, .slice ta2 (ln kx T1) tc2, .slice ea2 (ln kx T2) ec2] 34)).heap[b]? = w14.heap[b]? := fun b hb => (A15.block b (by omega)).trans (hb15.block b hb)
  have q1 := Own.frame (w' := w15.alloc (.cells #[.int .i64 p.k, .int .i64 p.v, .int .i64 p.vk, .int .i64 p.va, .int .i64 p.vb, .int .i64 p.h, .slice ta2 (ln kx T1) tc2, .slice ea2 (ln kx T2) ec2] 34)) (fun b hb => bw b (by have := RC.out b (List.mem_append_left _ hb); omega)) Q114.out
  have q2 := Own.frame (w' := w15.alloc (.cells #[.int .i64 p.k, .int .i64 p.v, .int .i64 p.vk, .int .i64 p.va, .int .i64 p.vb, .int .i64 p.h, .slice ta2 (ln kx T1) tc2, .slice ea2 (ln kx T2) ec2] 34)) (fun b hb => bw b (by have := RC.out b (List.mem_append_right _ hb); omega)) Q214.out
  have m1 := Own.frame (w' := w15.alloc (.cells #[.int .i64 p.k, .int .i64 p.v, .int .i64 p.vk, .int .i64 p.va, .int .i64 p.vb, .int .i64 p.h, .slice ta2 (ln kx T1) tc2, .slice ea2 (ln kx T2) ec2] 34)) (fun b hb => bw b (by have := RB.out b (List.mem_append_left _ hb); omega)) M14.out
  have m2 := Own.frame (w' := w15.alloc (.cells #[.int .i64 p.k, .int .i64 p.v, .int .i64 p.vk, .int .i64 p.va, .int .i64 p.vb, .int .i64 p.h, .slice ta2 (ln kx T1) tc2, .slice ea2 (ln kx T2) ec2] 34)) (fun b hb => bw b (by have := RB.out b (List.mem_append_right _ hb); omega)) M24.out
  replace k1 := k1.below A15 (fun b hb => rd1 b (List.mem_append_left _ hb))
  replace k2 := k2.below A15 (fun b hb => rd1 b (List.mem_append_right _ hb))
  have D0 := (C8.below K0'.out hb15).below A15
  have D1 := (C8.below K1'.out hb15).below A15
  have D2 := C8.new w15 (.int .i64 p.k) (.int .i64 p.v) (.int .i64 p.vk) (.int .i64 p.va) (.int .i64 p.vb) (.int .i64 p.h) (.slice ta2 (ln kx T1) tc2) (.slice ea2 (ln kx T2) ec2) 34
  have B15a : Below w.heap.size w (w15.alloc (.cells #[.int .i64 p.k, .int .i64 p.v, .int .i64 p.vk, .int .i64 p.va, .int .i64 p.vb, .int .i64 p.h, .slice ta2 (ln kx T1) tc2, .slice ea2 (ln kx T2) ec2] 34)) := Below.then B15 A15 B15.size
  have C9 : Hid _ := eqStep_same (p := p) k1.rep k2.rep q1.rep q2.rep
  unfold stepOf at C9
  unfold stepOf
  have HM1 : Hid _ := m1
  have HM2 : Hid _ := m2
  have HD1 : Hid _ := D1
  obtain ⟨⟨a0, a1, a2, a3, a4, a5, a6, a7⟩, -⟩ := D0
  obtain ⟨⟨f0, f1, f2, f3, f4, f5, f6, f7⟩, -⟩ := D2
  clear hb15 C8' B14 rd rd1 bw q1 q2 m1 m2 k1 k2 K0' K1' Q114 Q214 M14 M24 D1 A15
  go_wp2_with fail
  go_at_call 22; refine Calls.mono C9.out ?_
  have z15a : w15.heap.size < (w15.alloc (.cells #[.int .i64 p.k, .int .i64 p.v, .int .i64 p.vk, .int .i64 p.va, .int .i64 p.vb, .int .i64 p.h, .slice ta2 (ln kx T1) tc2, .slice ea2 (ln kx T2) ec2] 34)).heap.size := by simp
  generalize w15.alloc (.cells #[.int .i64 p.k, .int .i64 p.v, .int .i64 p.vk, .int .i64 p.va, .int .i64 p.vb, .int .i64 p.h, .slice ta2 (ln kx T1) tc2, .slice ea2 (ln kx T2) ec2] 34) = w15a at *
  rintro e w16 ⟨rfl, hb16⟩
  have B16 : Below w.heap.size w w16 := Below.then B15a hb16 B15a.size
  have m1 : Own w16 kx (.slice ta1 (ln kx T1) tc1) (mkT kx 1 T1) b1 := Own.frame (fun b hb => hb16.block b (by have := RB.out b (List.mem_append_left _ hb); omega)) HM1.out
  have m2 : Own w16 kx (.slice ea1 (ln kx T2) ec1) (mkT kx (1 + 6 * cnt kx T1) T2) b2 := Own.frame (fun b hb => hb16.block b (by have := RB.out b (List.mem_append_right _ hb); omega)) HM2.out
  have D1 := C8.below HD1.out hb16
  have C10 : Hid _ := heldStep_any (p := p) m1.rep m2.rep hx1' hx2'
  unfold stepOf at C10
  clear a0 a1 a2 a3 a4 a5 a6 a7 f0 f1 f2 f3 f4 f5 f6 f7 hb16 C9 HM1 HM2 HD1 m1 m2 B15 B15a
  obtain ⟨⟨f0, f1, f2, f3, f4, f5, f6, f7⟩, -⟩ := D1
  go_wp2_with fail
  go_at_call 25; refine Calls.mono C10.out ?_
  rintro e w17 ⟨rfl, hb17⟩
  rw [HMM.out]
  have B17 : Below w.heap.size w w17 := Below.then B16 hb17 B16.size
  clear f0 f1 f2 f3 f4 f5 f6 f7 hb17 C10
  go_wp2
  go_ret
  exact ⟨rfl, B17⟩

end Go.Proofs.Ytegnakcdkdfkdaa

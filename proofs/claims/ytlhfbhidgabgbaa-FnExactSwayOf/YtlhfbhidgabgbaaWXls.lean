/- At every argument SwayOf answers as the specification says; it writes into no argument, and its answer owns its memory: the law, walked. -/
import Derived.Test.YtlhfbhidgabgbaaLej
import Derived.Test.YtlhfbhidgabgbaaRgo
import Derived.Test.YtlhfbhidgabgbaaToC
import Derived.Test.YtlhfbhidgabgbaaSqx
import Derived.Test.YtlhfbhidgabgbaaMkC
import Derived.Test.YtlhfbhidgabgbaaFrs
namespace Go.Proofs.Ytlhfbhidgabgbaa
open Go.RowKit
set_option linter.unusedSimpArgs false
set_option linter.unusedVariables false
attribute [local go_sem ↓] Go.wp_at_zero Go.wp_at_succ
attribute [local go_sem] World.cell?_alloc_some

/-- Two cells of one block, that may be written. -/
def C2 (w : World) (b : Nat) (v0 v1 : Value) : Prop :=
  (w.cell? ⟨b, 0, none⟩ = some v0 ∧ w.cell? ⟨b, 1, none⟩ = some v1) ∧ w.frozen? ⟨b, 0, none⟩ = false ∧ w.frozen? ⟨b, 1, none⟩ = false
theorem C2.frame {w w' : World} {b : Nat} {v0 v1 : Value} (h : C2 w b v0 v1) (hb : w'.heap[b]? = w.heap[b]?) : C2 w' b v0 v1 := by
  obtain ⟨⟨c0, c1⟩, f0, f1⟩ := h
  have hc : ∀ o, w'.cell? ⟨b, o, none⟩ = w.cell? ⟨b, o, none⟩ := fun o => World.cell?_of_block hb
  have hf : ∀ o, w'.frozen? ⟨b, o, none⟩ = w.frozen? ⟨b, o, none⟩ := fun o => World.frozen?_of_block (a := ⟨b, o, none⟩) hb
  exact ⟨⟨(hc 0).trans c0, (hc 1).trans c1⟩, (hf 0).trans f0, (hf 1).trans f1⟩
theorem C2.lt {w : World} {b : Nat} {v0 v1 : Value} (h : C2 w b v0 v1) : b < w.heap.size := World.block_lt_of_cell? w _ h.1.1
theorem C2.below {w w' : World} {b : Nat} {v0 v1 : Value} (h : C2 w b v0 v1) (hb : Below w.heap.size w w') : C2 w' b v0 v1 := h.frame (hb.block b h.lt)
theorem C2.new (w : World) (v0 v1 : Value) (T : TypeId) : C2 (w.alloc (.cells #[v0, v1] T)) w.heap.size v0 v1 := by
  refine ⟨⟨?_, ?_⟩, ?_, ?_⟩ <;> simp
theorem SP1 {w wz : World} {a1 a2 a3 a4 : Addr} {v1 v2 v3 v4 : Value} (h : (wz.cell? a1 = some v1 ∧ wz.cell? a2 = some v2) ∧ (wz.cell? a3 = some v3 ∧ wz.cell? a4 = some v4) ∧ Below w.heap.size w wz) : (wz.drew.cell? a1 = some v1 ∧ wz.drew.cell? a2 = some v2) ∧ (wz.drew.cell? a3 = some v3 ∧ wz.drew.cell? a4 = some v4) ∧ Below w.heap.size w wz.drew := ⟨h.1, h.2.1, h.2.2.drew⟩
theorem SP2 {w wz wx : World} {a1 a2 a3 a4 : Addr} {v1 v2 v3 v4 : Value} (h : (wz.cell? a1 = some v1 ∧ wz.cell? a2 = some v2) ∧ (wz.cell? a3 = some v3 ∧ wz.cell? a4 = some v4) ∧ Below w.heap.size w wz) (hb : Below wz.heap.size wz wx) : (wx.cell? a1 = some v1 ∧ wx.cell? a2 = some v2) ∧ (wx.cell? a3 = some v3 ∧ wx.cell? a4 = some v4) ∧ Below w.heap.size w wx :=
  ⟨⟨cell_later hb h.1.1, cell_later hb h.1.2⟩, ⟨cell_later hb h.2.1.1, cell_later hb h.2.1.2⟩, Below.then h.2.2 hb h.2.2.size⟩

/-- Two rows of numbers, each in blocks of its own. -/
structure TwoO (w : World) (va vb : Value) (xs ys : List Int) (b0 b1 : List Nat) : Prop where
  a : GOwn (Value.int .i64) w va xs b0
  b : GOwn (Value.int .i64) w vb ys b1
theorem TwoO.frame {w w' : World} {va vb : Value} {xs ys : List Int} {b0 b1 : List Nat} (h : TwoO w va vb xs ys b0 b1) (hb : ∀ b ∈ b0 ++ b1, w'.heap[b]? = w.heap[b]?) : TwoO w' va vb xs ys b0 b1 :=
  ⟨h.a.frame (fun b m => hb b (List.mem_append_left _ m)), h.b.frame (fun b m => hb b (List.mem_append_right _ m))⟩

set_option maxHeartbeats 8000000 in
set_option maxRecDepth 20000 in
theorem fnExactSwayOf_walk {d : Nat} {T : Tr d} {lv sv : Value} {ls : List (Int × Int)} (h : Int) (w : World) (hL : LRep w lv ls) (hR : Rep w d sv T) :
    Calls Try.prog 11 #[.agg #[lv, sv], .int .i64 h] w fun e w' => e = .returned (.bool true) ∧ Below w.heap.size w w' := by
  obtain ⟨la, lc, hv0, -⟩ := id hL
  obtain ⟨sa, sc, hv1⟩ := id hR.slice
  subst hv0 hv1
  have A : Below w.heap.size w (w.alloc (.cells #[.slice la ls.length lc, .slice sa (ln d T) sc] 53)) := (Below.refl _ _).alloc (Nat.le_refl _) _
  have G := C2.new w (.slice la ls.length lc) (.slice sa (ln d T) sc) 53
  generalize hW0 : w.alloc (.cells #[.slice la ls.length lc, .slice sa (ln d T) sc] 53) = w0 at A G
  have HW0 : Hid _ := hW0
  have hw0 : w0.heap.size = w.heap.size + 1 := by rw [← hW0]; simp
  have HS0 : Hid (w0.heap.size = w.heap.size + 1) := hw0
  have HL : Hid (∀ w', Below w0.heap.size w0 w' → LRep w' (.slice la ls.length lc) ls) := (show ∀ w', _ from fun w' hb => (hL.below A).below hb)
  have HR : Hid (∀ w', Below w0.heap.size w0 w' → Rep w' d (.slice sa (ln d T) sc) T) := (show ∀ w', _ from fun w' hb => (hR.below A).below hb)
  have C0 : Hid _ := szProg_any (left := 1048576) (hL.below A) (hR.below A) (by decide) (by decide)
  have HA : Hid (Below w.heap.size w w0) := A
  have B_w0 : Below w0.heap.size w0 w0 := Below.refl _ _
  clear hL hR hW0 A hw0
  have box_0 : Hid (C2 w0 w.heap.size (.slice la ls.length lc) (.slice sa (ln d T) sc)) := G
  clear G
  go_enter Try.func11, Try.ntmps11
  go_wp2_with fail
  rw [HW0.out]
  clear HW0
  go_at_call 29; refine Calls.mono C0.out ?_; rintro e w1 ⟨rfl, hb1⟩
  clear C0
  have z_w1 : w0.heap.size ≤ w1.heap.size := hb1.size
  have box_1 : Hid (C2 w1 w.heap.size (.slice la ls.length lc) (.slice sa (ln d T) sc)) := C2.below box_0.out hb1
  clear box_0
  have B_w1 : Below w0.heap.size w0 w1 := Below.then B_w0 hb1 B_w0.size
  clear hb1 B_w0
  by_cases hsz : ((ls.length + cnt d T : Nat) : Int) ≤ 1048576
  case neg =>
    rw [szR_neg hsz]
    go_wp2
    go_ret
    exact ⟨rfl, Below.then HA.out B_w1 HA.out.size⟩
  rw [szR_pos hsz]
  have h0 : ¬ (1048576 - ((ls.length + cnt d T : Nat) : Int) < 0) := by omega
  have h0' : 0 ≤ 1048576 - ((ls.length + cnt d T : Nat) : Int) := by omega
  have hlen : ls.length ≤ 1048576 := by omega
  have hcn : cnt d T ≤ 1048576 := by omega
  have CT : Hid (∀ wx, Below w0.heap.size w0 wx → Calls Try.prog 30 #[.agg #[.slice la ls.length lc, .slice sa (ln d T) sc]] wx fun e w' => ∃ lv' sv' b1 b2, e = .returned (.agg #[lv', sv']) ∧ Below wx.heap.size wx w' ∧ LOwn w' lv' ls b1 ∧ Own w' d sv' T b2 ∧ (∀ b ∈ b1 ++ b2, wx.heap.size ≤ b ∧ b < w'.heap.size) ∧ b2.Nodup ∧ (∀ b ∈ b1, b ∉ b2)) := (show ∀ wx, _ from fun wx hb => toProg_any (HL.out wx hb) (HR.out wx hb) hlen hcn)
  have CS : Hid (∀ (lv sv : Value) (wx : World), LRep wx lv ls → Rep wx d sv T → Calls Try.prog 24 #[.agg #[lv, sv], .int .i64 h] wx (LkOPost wx (progB ls d T && vIn 3 h) (swayP ls d T (trustL ls h)) ls.length)) := (show ∀ (lv sv : Value) (wx : World), _ from fun _ _ _ a b => sSwayOf_any h a b hcn)
  have CI : Hid (∀ (lv sv : Value) (wx : World), LRep wx lv ls → Rep wx d sv T → Calls Try.prog 25 #[.agg #[lv, sv], .int .i64 h] wx (LkpPost wx (progB ls d T && vIn 3 h) (swayP ls d T (trustL ls h)) ls.length)) := (show ∀ (lv sv : Value) (wx : World), _ from fun _ _ _ a b => swayOf_any h a b)
  generalize (swayP ls d T (trustL ls h)) = P at CS CI
  generalize (progB ls d T && vIn 3 h) = okb at CS CI
  generalize hkk : 1048576 - ((ls.length + cnt d T : Nat) : Int) = z at h0 h0' ⊢
  clear hkk
  obtain ⟨⟨x0, x1⟩, -⟩ := box_1.out
  go_wp2_with fail
  clear x0 x1
  go_at_call 30; refine (CT.out _ B_w1).mono ?_
  rintro e w2 ⟨lv1, sv1, p1, q1, rfl, hb_w2, ol1, ot1, rp1, nd1, dj1⟩
  obtain ⟨la1, lc1, rfl, -⟩ := ol1.rep
  obtain ⟨sa1, sc1, rfl⟩ := ot1.slice
  have z_w2 : w1.heap.size ≤ w2.heap.size := hb_w2.size
  have box_2 : Hid (C2 w2 w.heap.size (.slice la ls.length lc) (.slice sa (ln d T) sc)) := C2.below box_1.out hb_w2
  clear box_1
  have B_w2 : Below w0.heap.size w0 w2 := Below.then B_w1 hb_w2 B_w1.size
  clear hb_w2 B_w1
  have RL1 : Hid (∀ b ∈ p1, w1.heap.size ≤ b ∧ b < w2.heap.size) := (show ∀ b ∈ p1, _ from fun b hb => rp1 b (List.mem_append_left _ hb))
  have RT1 : Hid (∀ b ∈ q1, w1.heap.size ≤ b ∧ b < w2.heap.size) := (show ∀ b ∈ q1, _ from fun b hb => rp1 b (List.mem_append_right _ hb))
  have xl1_0 : Hid (LOwn w2 (.slice la1 ls.length lc1) ls p1) := ol1
  have xt1_0 : Hid (Own w2 d (.slice sa1 (ln d T) sc1) T q1) := ot1
  clear ol1 ot1 rp1
  have CC_w3 : Hid _ := CS.out _ _ _ xl1_0.out.rep xt1_0.out.rep
  clear xl1_0
  clear xt1_0
  go_wp2_with fail
  go_at_call 24; refine Calls.mono CC_w3.out ?_
  rintro e w3 ⟨o, cv0, cv1, hF, rfl, hb_w3, gc0, gc1⟩
  obtain ⟨c0a, c0c, rfl, -⟩ := id gc0
  obtain ⟨c1a, c1c, rfl, -⟩ := id gc1
  have HF : Hid _ := hF
  have HGC0 : Hid _ := gc0
  have HGC1 : Hid _ := gc1
  have lx : (rowsO ls.length o).1.length ≤ 1048576 ∧ (rowsO ls.length o).2.length ≤ 1048576 := by
    cases o with
    | none => simp [rowsO]
    | some q => obtain ⟨q1, q2⟩ := q; simp only [rowsO, bitsL_len]; exact ⟨hlen, hlen⟩
  obtain ⟨lx, ly⟩ := lx
  clear hF gc0 gc1 CC_w3
  have z_w3 : w2.heap.size ≤ w3.heap.size := hb_w3.size
  have box_3 : Hid (C2 w3 w.heap.size (.slice la ls.length lc) (.slice sa (ln d T) sc)) := C2.below box_2.out hb_w3
  clear box_2
  have B_w3 : Below w0.heap.size w0 w3 := Below.then B_w2 hb_w3 B_w2.size
  clear hb_w3 B_w2
  have ww_0 : Hid (Below w3.heap.size w3 w3) := Below.refl _ _
  obtain ⟨⟨x0, x1⟩, -⟩ := box_3.out
  go_wp2_with fail
  clear x0 x1
  go_at_call 30; refine (CT.out _ B_w3).mono ?_
  rintro e w4 ⟨lv2, sv2, p2, q2, rfl, hb_w4, ol2, ot2, rp2, nd2, dj2⟩
  obtain ⟨la2, lc2, rfl, -⟩ := ol2.rep
  obtain ⟨sa2, sc2, rfl⟩ := ot2.slice
  have z_w4 : w3.heap.size ≤ w4.heap.size := hb_w4.size
  have box_4 : Hid (C2 w4 w.heap.size (.slice la ls.length lc) (.slice sa (ln d T) sc)) := C2.below box_3.out hb_w4
  clear box_3
  have ww_1 : Hid (Below w3.heap.size w3 w4) := Below.then ww_0.out hb_w4 ww_0.out.size
  clear ww_0
  have B_w4 : Below w0.heap.size w0 w4 := Below.then B_w3 hb_w4 B_w3.size
  clear hb_w4 B_w3
  have RL2 : Hid (∀ b ∈ p2, w3.heap.size ≤ b ∧ b < w4.heap.size) := (show ∀ b ∈ p2, _ from fun b hb => rp2 b (List.mem_append_left _ hb))
  have RT2 : Hid (∀ b ∈ q2, w3.heap.size ≤ b ∧ b < w4.heap.size) := (show ∀ b ∈ q2, _ from fun b hb => rp2 b (List.mem_append_right _ hb))
  have xl2_0 : Hid (LOwn w4 (.slice la2 ls.length lc2) ls p2) := ol2
  have xt2_0 : Hid (Own w4 d (.slice sa2 (ln d T) sc2) T q2) := ot2
  clear ol2 ot2 rp2
  have hb_w5 : Below w4.heap.size w4 (w4.alloc (.cells #[.slice la2 ls.length lc2, .slice sa2 (ln d T) sc2] 26)) := (Below.refl _ _).alloc (Nat.le_refl _) _
  have G_w5 := C2.new w4 (.slice la2 ls.length lc2) (.slice sa2 (ln d T) sc2) 26
  have zz_w5 : (w4.alloc (.cells #[.slice la2 ls.length lc2, .slice sa2 (ln d T) sc2] 26)).heap.size = w4.heap.size + 1 := by simp
  generalize hw_w5 : w4.alloc (.cells #[.slice la2 ls.length lc2, .slice sa2 (ln d T) sc2] 26) = w5 at hb_w5 G_w5 zz_w5
  have HW_w5 : Hid _ := hw_w5
  have HZ_w5 : Hid (w5.heap.size = w4.heap.size + 1) := zz_w5
  clear hw_w5 zz_w5
  have z_w5 : w4.heap.size ≤ w5.heap.size := hb_w5.size
  have box_5 : Hid (C2 w5 w.heap.size (.slice la ls.length lc) (.slice sa (ln d T) sc)) := C2.below box_4.out hb_w5
  clear box_4
  have xl2_1 : Hid (LOwn w5 (.slice la2 ls.length lc2) ls p2) := LOwn.frame (fun b hb' => hb_w5.block b (by have := RL2.out b hb'; omega)) xl2_0.out
  clear xl2_0
  have xt2_1 : Hid (Own w5 d (.slice sa2 (ln d T) sc2) T q2) := Own.frame (fun b hb' => hb_w5.block b (by have := RT2.out b hb'; omega)) xt2_0.out
  clear xt2_0
  have ww_2 : Hid (Below w3.heap.size w3 w5) := Below.then ww_1.out hb_w5 ww_1.out.size
  clear ww_1
  have B_w5 : Below w0.heap.size w0 w5 := Below.then B_w4 hb_w5 B_w4.size
  clear hb_w5 B_w4
  have xb_0 : Hid (C2 w5 w4.heap.size (.slice la2 ls.length lc2) (.slice sa2 (ln d T) sc2)) := G_w5
  clear G_w5
  go_wp2_with fail
  rw [HW_w5.out]
  clear HW_w5
  obtain ⟨⟨y0, y1⟩, -⟩ := xb_0.out
  have CC_w6 : Hid _ := CI.out _ _ _ xl2_1.out.rep xt2_1.out.rep
  clear y0 y1
  go_at_call 25; refine Calls.mono CC_w6.out ?_
  rintro e w6 ⟨og, gv0, gv1, hFg, rfl, hb_w6, tg⟩
  obtain rfl : o = og := by
    have h1 := HF.out
    cases okb
    · exact (h1 : o = none).trans (hFg : og = none).symm
    · exact FirstP.same h1 hFg
  obtain ⟨g0b, q0, k0⟩ := row_gownR tg.a
  obtain ⟨g1b, q1, k1⟩ := row_gownR tg.b
  have Rg : Hid (∀ b ∈ g0b ++ g1b, w5.heap.size ≤ b ∧ b < w6.heap.size) := (show ∀ b ∈ g0b ++ g1b, _ from fun b hb' => by
    rcases List.mem_append.1 hb' with hb' | hb'
    · exact World.ownsRow.lt tg.a b (k0 b hb')
    · exact World.ownsRow.lt tg.b b (k1 b hb'))
  have Jg : Hid (∀ b ∈ g0b, b ∉ g1b) := (show ∀ b ∈ g0b, b ∉ g1b from fun b h1 h2 => tg.ne b (k0 b h1) (k1 b h2))
  obtain ⟨g0a, g0c, rfl, -⟩ := id q0.rep
  obtain ⟨g1a, g1c, rfl, -⟩ := id q1.rep
  have Qg : TwoO w6 (.slice g0a (rowsO ls.length o).1.length g0c) (.slice g1a (rowsO ls.length o).2.length g1c) (rowsO ls.length o).1 (rowsO ls.length o).2 g0b g1b := ⟨q0, q1⟩
  clear q0 q1 k0 k1 tg hFg CC_w6
  have z_w6 : w5.heap.size ≤ w6.heap.size := hb_w6.size
  have box_6 : Hid (C2 w6 w.heap.size (.slice la ls.length lc) (.slice sa (ln d T) sc)) := C2.below box_5.out hb_w6
  clear box_5
  have xl2_2 : Hid (LOwn w6 (.slice la2 ls.length lc2) ls p2) := LOwn.frame (fun b hb' => hb_w6.block b (by have := RL2.out b hb'; omega)) xl2_1.out
  clear xl2_1
  have xt2_2 : Hid (Own w6 d (.slice sa2 (ln d T) sc2) T q2) := Own.frame (fun b hb' => hb_w6.block b (by have := RT2.out b hb'; omega)) xt2_1.out
  clear xt2_1
  have xb_1 : Hid (C2 w6 w4.heap.size (.slice la2 ls.length lc2) (.slice sa2 (ln d T) sc2)) := C2.below xb_0.out hb_w6
  clear xb_0
  have ww_3 : Hid (Below w3.heap.size w3 w6) := Below.then ww_2.out hb_w6 ww_2.out.size
  clear ww_2
  have B_w6 : Below w0.heap.size w0 w6 := Below.then B_w5 hb_w6 B_w5.size
  clear hb_w6 B_w5
  have g_0 : Hid (TwoO w6 (.slice g0a (rowsO ls.length o).1.length g0c) (.slice g1a (rowsO ls.length o).2.length g1c) (rowsO ls.length o).1 (rowsO ls.length o).2 g0b g1b) := Qg
  clear Qg
  have CE_w7 : Hid _ := eqIntS_same g_0.out.a.rep (GRep.below ww_3.out HGC0.out)
  go_wp2_with fail
  go_at_call 31; refine Calls.mono CE_w7.out ?_
  rintro e w7 ⟨rfl, hb_w7⟩
  clear CE_w7
  have z_w7 : w6.heap.size ≤ w7.heap.size := hb_w7.size
  have box_7 : Hid (C2 w7 w.heap.size (.slice la ls.length lc) (.slice sa (ln d T) sc)) := C2.below box_6.out hb_w7
  clear box_6
  have xl2_3 : Hid (LOwn w7 (.slice la2 ls.length lc2) ls p2) := LOwn.frame (fun b hb' => hb_w7.block b (by have := RL2.out b hb'; omega)) xl2_2.out
  clear xl2_2
  have xt2_3 : Hid (Own w7 d (.slice sa2 (ln d T) sc2) T q2) := Own.frame (fun b hb' => hb_w7.block b (by have := RT2.out b hb'; omega)) xt2_2.out
  clear xt2_2
  have xb_2 : Hid (C2 w7 w4.heap.size (.slice la2 ls.length lc2) (.slice sa2 (ln d T) sc2)) := C2.below xb_1.out hb_w7
  clear xb_1
  have ww_4 : Hid (Below w3.heap.size w3 w7) := Below.then ww_3.out hb_w7 ww_3.out.size
  clear ww_3
  have g_1 : Hid (TwoO w7 (.slice g0a (rowsO ls.length o).1.length g0c) (.slice g1a (rowsO ls.length o).2.length g1c) (rowsO ls.length o).1 (rowsO ls.length o).2 g0b g1b) := TwoO.frame g_0.out (fun b hb' => hb_w7.block b (by have := Rg.out b hb'; omega))
  clear g_0
  have B_w7 : Below w0.heap.size w0 w7 := Below.then B_w6 hb_w7 B_w6.size
  clear hb_w7 B_w6
  have CE_w8 : Hid _ := eqIntS_same g_1.out.b.rep (GRep.below ww_4.out HGC1.out)
  go_wp2_with fail
  go_at_call 31; refine Calls.mono CE_w8.out ?_
  rintro e w8 ⟨rfl, hb_w8⟩
  clear CE_w8
  have z_w8 : w7.heap.size ≤ w8.heap.size := hb_w8.size
  have box_8 : Hid (C2 w8 w.heap.size (.slice la ls.length lc) (.slice sa (ln d T) sc)) := C2.below box_7.out hb_w8
  clear box_7
  have xl2_4 : Hid (LOwn w8 (.slice la2 ls.length lc2) ls p2) := LOwn.frame (fun b hb' => hb_w8.block b (by have := RL2.out b hb'; omega)) xl2_3.out
  clear xl2_3
  have xt2_4 : Hid (Own w8 d (.slice sa2 (ln d T) sc2) T q2) := Own.frame (fun b hb' => hb_w8.block b (by have := RT2.out b hb'; omega)) xt2_3.out
  clear xt2_3
  have xb_3 : Hid (C2 w8 w4.heap.size (.slice la2 ls.length lc2) (.slice sa2 (ln d T) sc2)) := C2.below xb_2.out hb_w8
  clear xb_2
  have ww_5 : Hid (Below w3.heap.size w3 w8) := Below.then ww_4.out hb_w8 ww_4.out.size
  clear ww_4
  have g_2 : Hid (TwoO w8 (.slice g0a (rowsO ls.length o).1.length g0c) (.slice g1a (rowsO ls.length o).2.length g1c) (rowsO ls.length o).1 (rowsO ls.length o).2 g0b g1b) := TwoO.frame g_1.out (fun b hb' => hb_w8.block b (by have := Rg.out b hb'; omega))
  clear g_1
  have B_w8 : Below w0.heap.size w0 w8 := Below.then B_w7 hb_w8 B_w7.size
  clear hb_w8 B_w7
  obtain ⟨⟨x0, x1⟩, -⟩ := box_8.out
  obtain ⟨⟨y0, y1⟩, -⟩ := xb_3.out
  go_wp2_with fail
  refine wp_region_held (S := (fun wz => (wz.cell? ⟨w.heap.size, 0, none⟩ = some (.slice la ls.length lc) ∧ wz.cell? ⟨w.heap.size, 1, none⟩ = some (.slice sa (ln d T) sc)) ∧ (wz.cell? ⟨w4.heap.size, 0, none⟩ = some (.slice la2 ls.length lc2) ∧ wz.cell? ⟨w4.heap.size, 1, none⟩ = some (.slice sa2 (ln d T) sc2)) ∧ Below w8.heap.size w8 wz)) (by kernel_rfl) ?_
  change wpAnyH _ _ _ _ _ _ _ _ (World.drew _)
  have hHeld := SP1 ⟨⟨x0, x1⟩, ⟨y0, y1⟩, Below.refl w8.heap.size w8⟩
  refine' wpAnyH_take (i := 0) (v := .agg #[.slice la2 ls.length lc2, .slice sa2 (ln d T) sc2]) rfl (by kernel_rfl) (by kernel_rfl) (by kernel_rfl) (fun _ _ _ h => h) (Or.inl ⟨by rfl, ?hy4⟩) hHeld ?hn4
  case hy4 => (intro wz hSw; obtain ⟨_, ⟨k0, k1⟩, _⟩ := hSw; go_simp)
  try simp only [List.getElem_toArray, List.getElem_cons_zero, List.getElem_cons_succ, Act.put, List.setIfInBounds_toArray, List.set_cons_zero, List.set_cons_succ]
  refine' wpAnyH_take (i := 1) (v := .agg #[.slice la ls.length lc, .slice sa (ln d T) sc]) rfl (by kernel_rfl) (by kernel_rfl) (by kernel_rfl) (fun _ _ _ h => h) (Or.inl ⟨by rfl, ?hy5⟩) hHeld ?hn5
  case hy5 => (intro wz hSw; obtain ⟨⟨k0, k1⟩, _, _⟩ := hSw; go_simp)
  try simp only [List.getElem_toArray, List.getElem_cons_zero, List.getElem_cons_succ, Act.put, List.setIfInBounds_toArray, List.set_cons_zero, List.set_cons_succ]
  refine wpAnyH_ready (rs := [2]) (by kernel_rfl) (by simp) ?_
  refine AllReadyH.cons rfl (fun K hK => ?_) AllReadyH.nil
  go_simp
  refine (CT.out _ (Below.then B_w8 hHeld.2.2 B_w8.size)).mono ?_; rintro e' w9 ⟨lv9, sv9, _, _, rfl, hbx, ol9, ot9, -, -, -⟩; obtain ⟨la9, lc9, rfl, -⟩ := ol9.rep; obtain ⟨sa9, sc9, rfl⟩ := ot9.slice; have CE : Hid _ := eqProg_same (LRep.below (Below.then hHeld.2.2 hbx hHeld.2.2.size) xl2_4.out.rep) (Rep.below (Below.then hHeld.2.2 hbx hHeld.2.2.size) xt2_4.out.rep) ol9.rep ot9.rep
  refine hK.out _ _ (SP2 hHeld hbx) (fun hHeld => ?_)
  clear hK K
  refine wpAnyH_ready (rs := [3]) (by kernel_rfl) (by simp) ?_
  refine AllReadyH.cons rfl (fun K hK => ?_) AllReadyH.nil
  go_simp
  refine Calls.mono CE.out ?_; rintro e' w10 ⟨rfl, hbx⟩
  refine hK.out _ _ (SP2 hHeld hbx) (fun hHeld => ?_)
  clear hK K
  refine' wpAnyH_take (i := 4) (v := _) rfl (by kernel_rfl) (by kernel_rfl) (by kernel_rfl) (fun _ _ _ h => h) (Or.inl ⟨by rfl, ?hy6⟩) hHeld ?hn6
  case hy6 => (intro wz hSw; (try dsimp only at hSw); go_simp; first | done | with_reducible rfl)
  try simp only [List.getElem_toArray, List.getElem_cons_zero, List.getElem_cons_succ, Act.put, List.setIfInBounds_toArray, List.set_cons_zero, List.set_cons_succ]
  refine wpAnyH_done (by kernel_rfl) ?_ _
  clear x0 x1 y0 y1
  obtain ⟨-, -, hb_w10⟩ := hHeld
  clear CE
  have z_w10 : w8.heap.size ≤ w10.heap.size := hb_w10.size
  have box_9 : Hid (C2 w10 w.heap.size (.slice la ls.length lc) (.slice sa (ln d T) sc)) := C2.below box_8.out hb_w10
  clear box_8
  have xl2_5 : Hid (LOwn w10 (.slice la2 ls.length lc2) ls p2) := LOwn.frame (fun b hb' => hb_w10.block b (by have := RL2.out b hb'; omega)) xl2_4.out
  clear xl2_4
  have xt2_5 : Hid (Own w10 d (.slice sa2 (ln d T) sc2) T q2) := Own.frame (fun b hb' => hb_w10.block b (by have := RT2.out b hb'; omega)) xt2_4.out
  clear xt2_4
  have xb_4 : Hid (C2 w10 w4.heap.size (.slice la2 ls.length lc2) (.slice sa2 (ln d T) sc2)) := C2.below xb_3.out hb_w10
  clear xb_3
  have ww_6 : Hid (Below w3.heap.size w3 w10) := Below.then ww_5.out hb_w10 ww_5.out.size
  clear ww_5
  have g_3 : Hid (TwoO w10 (.slice g0a (rowsO ls.length o).1.length g0c) (.slice g1a (rowsO ls.length o).2.length g1c) (rowsO ls.length o).1 (rowsO ls.length o).2 g0b g1b) := TwoO.frame g_2.out (fun b hb' => hb_w10.block b (by have := Rg.out b hb'; omega))
  clear g_2
  have B_w10 : Below w0.heap.size w0 w10 := Below.then B_w8 hb_w10 B_w8.size
  clear hb_w10 B_w8
  have CM : Hid _ := markProg_any xl2_5.out xt2_5.out (fun b hb' => by rcases List.mem_append.1 hb' with hb' | hb'; (have := RL2.out b hb'; omega); (have := RT2.out b hb'; omega)) nd2 dj2 hlen hcn
  have RX2 : Hid (∀ b ∈ p2 ++ q2, w3.heap.size ≤ b ∧ b < w4.heap.size) := (show ∀ b ∈ p2 ++ q2, _ from fun b hb' => by rcases List.mem_append.1 hb' with hb' | hb'; exact RL2.out b hb'; exact RT2.out b hb')
  obtain ⟨⟨y0, y1⟩, -⟩ := xb_4.out
  go_wp2_with fail
  clear y0 y1
  go_at_call 33; refine Calls.mono CM.out ?_
  rintro e w11 ⟨rfl, fs11⟩
  clear xl2_5
  clear xt2_5
  clear xb_4
  have := HZ_w5.out
  have := HS0.out
  have z_w11 : w10.heap.size ≤ w11.heap.size := fs11.size
  have box_10 : Hid (C2 w11 w.heap.size (.slice la ls.length lc) (.slice sa (ln d T) sc)) := C2.frame box_9.out (fs11.block w.heap.size (C2.lt box_9.out) (fun hm => by have := RX2.out _ hm; omega))
  clear box_9
  have B_w11 : Below w0.heap.size w0 w11 := B_w10.trans (fs11.below (fun b hb' => by have := RX2.out b hb'; omega) B_w10.size)
  clear B_w10
  have ww_7 : Hid (Below w3.heap.size w3 w11) := ww_6.out.trans (fs11.below (fun b hb' => by have := RX2.out b hb'; omega) ww_6.out.size)
  clear ww_6
  have g_4 : Hid (TwoO w11 (.slice g0a (rowsO ls.length o).1.length g0c) (.slice g1a (rowsO ls.length o).2.length g1c) (rowsO ls.length o).1 (rowsO ls.length o).2 g0b g1b) := TwoO.frame g_3.out (fun b hb' => fs11.block b (by have := Rg.out b hb'; omega) (fun hm => by have := RX2.out b hm; have := Rg.out b hb'; omega))
  clear g_3
  clear fs11 CM
  have k0 : ¬ (1 + 2 * (ls.length : Int) + 6 * (cnt d T : Int) < 0) := by omega
  generalize 1 + 2 * (ls.length : Int) + 6 * (cnt d T : Int) = kk at k0 ⊢
  have CE_w12 : Hid _ := eqIntS_same g_4.out.a.rep (GRep.below ww_7.out HGC0.out)
  go_wp2_with fail
  go_at_call 31; refine Calls.mono CE_w12.out ?_
  rintro e w12 ⟨rfl, hb_w12⟩
  clear CE_w12
  have z_w12 : w11.heap.size ≤ w12.heap.size := hb_w12.size
  have box_11 : Hid (C2 w12 w.heap.size (.slice la ls.length lc) (.slice sa (ln d T) sc)) := C2.below box_10.out hb_w12
  clear box_10
  have ww_8 : Hid (Below w3.heap.size w3 w12) := Below.then ww_7.out hb_w12 ww_7.out.size
  clear ww_7
  have g_5 : Hid (TwoO w12 (.slice g0a (rowsO ls.length o).1.length g0c) (.slice g1a (rowsO ls.length o).2.length g1c) (rowsO ls.length o).1 (rowsO ls.length o).2 g0b g1b) := TwoO.frame g_4.out (fun b hb' => hb_w12.block b (by have := Rg.out b hb'; omega))
  clear g_4
  have B_w12 : Below w0.heap.size w0 w12 := Below.then B_w11 hb_w12 B_w11.size
  clear hb_w12 B_w11
  have CE_w13 : Hid _ := eqIntS_same g_5.out.b.rep (GRep.below ww_8.out HGC1.out)
  go_wp2_with fail
  go_at_call 31; refine Calls.mono CE_w13.out ?_
  rintro e w13 ⟨rfl, hb_w13⟩
  clear CE_w13
  have z_w13 : w12.heap.size ≤ w13.heap.size := hb_w13.size
  have box_12 : Hid (C2 w13 w.heap.size (.slice la ls.length lc) (.slice sa (ln d T) sc)) := C2.below box_11.out hb_w13
  clear box_11
  have ww_9 : Hid (Below w3.heap.size w3 w13) := Below.then ww_8.out hb_w13 ww_8.out.size
  clear ww_8
  have g_6 : Hid (TwoO w13 (.slice g0a (rowsO ls.length o).1.length g0c) (.slice g1a (rowsO ls.length o).2.length g1c) (rowsO ls.length o).1 (rowsO ls.length o).2 g0b g1b) := TwoO.frame g_5.out (fun b hb' => hb_w13.block b (by have := Rg.out b hb'; omega))
  clear g_5
  have B_w13 : Below w0.heap.size w0 w13 := Below.then B_w12 hb_w13 B_w12.size
  clear hb_w13 B_w12
  obtain ⟨nx, hnx⟩ : ∃ n, (rowsO ls.length o).1.length = n := ⟨_, rfl⟩
  obtain ⟨ny, hny⟩ : ∃ n, (rowsO ls.length o).2.length = n := ⟨_, rfl⟩
  obtain ⟨m1, hm1⟩ : ∃ m : Int, 1 + ((rowsO ls.length o).1.length : Int) = m := ⟨_, rfl⟩
  obtain ⟨m2, hm2⟩ : ∃ m : Int, m1 + ((rowsO ls.length o).2.length : Int) = m := ⟨_, rfl⟩
  have HM1 : Hid _ := hm1
  have HM2 : Hid _ := hm2
  have m1p : 0 ≤ m1 ∧ m1 ≤ 1048577 := by omega
  have m2p : 0 ≤ m2 ∧ m2 ≤ 2097153 := by omega
  obtain ⟨m1a, m1b⟩ := m1p
  obtain ⟨m2a, m2b⟩ := m2p
  have m1n : ¬ m1 < 0 := by omega
  have m2n : ¬ m2 < 0 := by omega
  have HNX : Hid _ := hnx
  have HNY : Hid _ := hny
  have R0 : Hid (∀ b ∈ g0b, w5.heap.size ≤ b ∧ b < w6.heap.size) := (show ∀ b ∈ g0b, _ from fun b hb' => Rg.out b (List.mem_append_left _ hb'))
  have R1 : Hid (∀ b ∈ g1b, w5.heap.size ≤ b ∧ b < w6.heap.size) := (show ∀ b ∈ g1b, _ from fun b hb' => Rg.out b (List.mem_append_right _ hb'))
  clear hnx hny hm1 hm2
  have CN0 : Hid _ := markIntS_any (k := 1) g_6.out.a (by decide) (by omega)
  rw [HM1.out] at CN0
  go_wp2_with fail
  go_at_call 34; refine Calls.mono CN0.out ?_
  rintro e w14 ⟨rfl, fr14, og0⟩
  have og1 : GOwn (Value.int .i64) w14 (.slice g1a (rowsO ls.length o).2.length g1c) (rowsO ls.length o).2 g1b := GOwn.frame (fun b hb' => fr14.block b (fun hm => Jg.out b hm hb')) g_6.out.b
  have fs14 : Fs g0b w13 w14 := Fs.of_fr fr14
  clear g_6
  have z_w14 : w13.heap.size ≤ w14.heap.size := fs14.size
  have box_13 : Hid (C2 w14 w.heap.size (.slice la ls.length lc) (.slice sa (ln d T) sc)) := C2.frame box_12.out (fs14.block w.heap.size (C2.lt box_12.out) (fun hm => by have := R0.out _ hm; omega))
  clear box_12
  have B_w14 : Below w0.heap.size w0 w14 := B_w13.trans (fs14.below (fun b hb' => by have := R0.out b hb'; omega) B_w13.size)
  clear B_w13
  have ww_10 : Hid (Below w3.heap.size w3 w14) := ww_9.out.trans (fs14.below (fun b hb' => by have := R0.out b hb'; omega) ww_9.out.size)
  clear ww_9
  have g_0 : Hid (TwoO w14 (.slice g0a (rowsO ls.length o).1.length g0c) (.slice g1a (rowsO ls.length o).2.length g1c) (nf 1 (rowsO ls.length o).1.length) (rowsO ls.length o).2 g0b g1b) := ⟨og0, og1⟩
  clear og0 og1 fs14 fr14 CN0
  have CN1 : Hid _ := markIntS_any (k := m1) g_0.out.b m1a (by omega)
  rw [HM2.out] at CN1
  go_wp2_with fail
  go_at_call 34; refine Calls.mono CN1.out ?_
  rintro e w15 ⟨rfl, fr15, og1⟩
  have og0 : GOwn (Value.int .i64) w15 (.slice g0a (rowsO ls.length o).1.length g0c) (nf 1 (rowsO ls.length o).1.length) g0b := GOwn.frame (fun b hb' => fr15.block b (fun hm => Jg.out b hb' hm)) g_0.out.a
  have fs15 : Fs g1b w14 w15 := Fs.of_fr fr15
  clear g_0
  have z_w15 : w14.heap.size ≤ w15.heap.size := fs15.size
  have box_14 : Hid (C2 w15 w.heap.size (.slice la ls.length lc) (.slice sa (ln d T) sc)) := C2.frame box_13.out (fs15.block w.heap.size (C2.lt box_13.out) (fun hm => by have := R1.out _ hm; omega))
  clear box_13
  have B_w15 : Below w0.heap.size w0 w15 := B_w14.trans (fs15.below (fun b hb' => by have := R1.out b hb'; omega) B_w14.size)
  clear B_w14
  have ww_11 : Hid (Below w3.heap.size w3 w15) := ww_10.out.trans (fs15.below (fun b hb' => by have := R1.out b hb'; omega) ww_10.out.size)
  clear ww_10
  have g_0 : Hid (TwoO w15 (.slice g0a (rowsO ls.length o).1.length g0c) (.slice g1a (rowsO ls.length o).2.length g1c) (nf 1 (rowsO ls.length o).1.length) (nf m1 (rowsO ls.length o).2.length) g0b g1b) := ⟨og0, og1⟩
  clear og0 og1 fs15 fr15 CN1
  have CH_w16 : Hid _ := heldIntS_any (n := (rowsO ls.length o).1.length) (k := 1) g_0.out.a.rep (by decide) (by omega)
  rw [HM1.out] at CH_w16
  go_wp2_with fail
  go_at_call 35; refine Calls.mono CH_w16.out ?_
  rintro e w16 ⟨rfl, hb_w16⟩
  clear CH_w16
  have z_w16 : w15.heap.size ≤ w16.heap.size := hb_w16.size
  have box_15 : Hid (C2 w16 w.heap.size (.slice la ls.length lc) (.slice sa (ln d T) sc)) := C2.below box_14.out hb_w16
  clear box_14
  have ww_12 : Hid (Below w3.heap.size w3 w16) := Below.then ww_11.out hb_w16 ww_11.out.size
  clear ww_11
  have g_1 : Hid (TwoO w16 (.slice g0a (rowsO ls.length o).1.length g0c) (.slice g1a (rowsO ls.length o).2.length g1c) (nf 1 (rowsO ls.length o).1.length) (nf m1 (rowsO ls.length o).2.length) g0b g1b) := TwoO.frame g_0.out (fun b hb' => hb_w16.block b (by have := Rg.out b hb'; omega))
  clear g_0
  have B_w16 : Below w0.heap.size w0 w16 := Below.then B_w15 hb_w16 B_w15.size
  clear hb_w16 B_w15
  have CH_w17 : Hid _ := heldIntS_any (n := (rowsO ls.length o).2.length) (k := m1) g_1.out.b.rep m1a (by omega)
  rw [HM2.out] at CH_w17
  go_wp2_with fail
  go_at_call 35; refine Calls.mono CH_w17.out ?_
  rintro e w17 ⟨rfl, hb_w17⟩
  clear CH_w17
  have z_w17 : w16.heap.size ≤ w17.heap.size := hb_w17.size
  have box_16 : Hid (C2 w17 w.heap.size (.slice la ls.length lc) (.slice sa (ln d T) sc)) := C2.below box_15.out hb_w17
  clear box_15
  have ww_13 : Hid (Below w3.heap.size w3 w17) := Below.then ww_12.out hb_w17 ww_12.out.size
  clear ww_12
  have g_2 : Hid (TwoO w17 (.slice g0a (rowsO ls.length o).1.length g0c) (.slice g1a (rowsO ls.length o).2.length g1c) (nf 1 (rowsO ls.length o).1.length) (nf m1 (rowsO ls.length o).2.length) g0b g1b) := TwoO.frame g_1.out (fun b hb' => hb_w17.block b (by have := Rg.out b hb'; omega))
  clear g_1
  have B_w17 : Below w0.heap.size w0 w17 := Below.then B_w16 hb_w17 B_w16.size
  clear hb_w17 B_w16
  obtain ⟨⟨x0, x1⟩, -⟩ := box_16.out
  go_wp2_with fail
  clear x0 x1
  go_at_call 30; refine (CT.out _ B_w17).mono ?_
  rintro e w18 ⟨lv4, sv4, p4, q4, rfl, hb_w18, ol4, ot4, rp4, nd4, dj4⟩
  obtain ⟨la4, lc4, rfl, -⟩ := ol4.rep
  obtain ⟨sa4, sc4, rfl⟩ := ot4.slice
  have z_w18 : w17.heap.size ≤ w18.heap.size := hb_w18.size
  have box_17 : Hid (C2 w18 w.heap.size (.slice la ls.length lc) (.slice sa (ln d T) sc)) := C2.below box_16.out hb_w18
  clear box_16
  have ww_14 : Hid (Below w3.heap.size w3 w18) := Below.then ww_13.out hb_w18 ww_13.out.size
  clear ww_13
  have g_3 : Hid (TwoO w18 (.slice g0a (rowsO ls.length o).1.length g0c) (.slice g1a (rowsO ls.length o).2.length g1c) (nf 1 (rowsO ls.length o).1.length) (nf m1 (rowsO ls.length o).2.length) g0b g1b) := TwoO.frame g_2.out (fun b hb' => hb_w18.block b (by have := Rg.out b hb'; omega))
  clear g_2
  have B_w18 : Below w0.heap.size w0 w18 := Below.then B_w17 hb_w18 B_w17.size
  clear hb_w18 B_w17
  have RL4 : Hid (∀ b ∈ p4, w17.heap.size ≤ b ∧ b < w18.heap.size) := (show ∀ b ∈ p4, _ from fun b hb => rp4 b (List.mem_append_left _ hb))
  have RT4 : Hid (∀ b ∈ q4, w17.heap.size ≤ b ∧ b < w18.heap.size) := (show ∀ b ∈ q4, _ from fun b hb => rp4 b (List.mem_append_right _ hb))
  have xl4_0 : Hid (LOwn w18 (.slice la4 ls.length lc4) ls p4) := ol4
  have xt4_0 : Hid (Own w18 d (.slice sa4 (ln d T) sc4) T q4) := ot4
  clear ol4 ot4 rp4
  have CC_w19 : Hid _ := CI.out _ _ _ xl4_0.out.rep xt4_0.out.rep
  clear xl4_0
  clear xt4_0
  go_wp2_with fail
  go_at_call 25; refine Calls.mono CC_w19.out ?_
  rintro e w19 ⟨ohh, hhv0, hhv1, hFhh, rfl, hb_w19, thh⟩
  obtain rfl : o = ohh := by
    have h1 := HF.out
    cases okb
    · exact (h1 : o = none).trans (hFhh : ohh = none).symm
    · exact FirstP.same h1 hFhh
  obtain ⟨hh0b, q0, k0⟩ := row_gownR thh.a
  obtain ⟨hh1b, q1, k1⟩ := row_gownR thh.b
  have Rhh : Hid (∀ b ∈ hh0b ++ hh1b, w18.heap.size ≤ b ∧ b < w19.heap.size) := (show ∀ b ∈ hh0b ++ hh1b, _ from fun b hb' => by
    rcases List.mem_append.1 hb' with hb' | hb'
    · exact World.ownsRow.lt thh.a b (k0 b hb')
    · exact World.ownsRow.lt thh.b b (k1 b hb'))
  have Jhh : Hid (∀ b ∈ hh0b, b ∉ hh1b) := (show ∀ b ∈ hh0b, b ∉ hh1b from fun b h1 h2 => thh.ne b (k0 b h1) (k1 b h2))
  obtain ⟨hh0a, hh0c, rfl, -⟩ := id q0.rep
  obtain ⟨hh1a, hh1c, rfl, -⟩ := id q1.rep
  have Qhh : TwoO w19 (.slice hh0a (rowsO ls.length o).1.length hh0c) (.slice hh1a (rowsO ls.length o).2.length hh1c) (rowsO ls.length o).1 (rowsO ls.length o).2 hh0b hh1b := ⟨q0, q1⟩
  clear q0 q1 k0 k1 thh hFhh CC_w19
  have z_w19 : w18.heap.size ≤ w19.heap.size := hb_w19.size
  have box_18 : Hid (C2 w19 w.heap.size (.slice la ls.length lc) (.slice sa (ln d T) sc)) := C2.below box_17.out hb_w19
  clear box_17
  have ww_15 : Hid (Below w3.heap.size w3 w19) := Below.then ww_14.out hb_w19 ww_14.out.size
  clear ww_14
  have g_4 : Hid (TwoO w19 (.slice g0a (rowsO ls.length o).1.length g0c) (.slice g1a (rowsO ls.length o).2.length g1c) (nf 1 (rowsO ls.length o).1.length) (nf m1 (rowsO ls.length o).2.length) g0b g1b) := TwoO.frame g_3.out (fun b hb' => hb_w19.block b (by have := Rg.out b hb'; omega))
  clear g_3
  have B_w19 : Below w0.heap.size w0 w19 := Below.then B_w18 hb_w19 B_w18.size
  clear hb_w19 B_w18
  have hh_0 : Hid (TwoO w19 (.slice hh0a (rowsO ls.length o).1.length hh0c) (.slice hh1a (rowsO ls.length o).2.length hh1c) (rowsO ls.length o).1 (rowsO ls.length o).2 hh0b hh1b) := Qhh
  clear Qhh
  have CE_w20 : Hid _ := eqIntS_same hh_0.out.a.rep (GRep.below ww_15.out HGC0.out)
  go_wp2_with fail
  go_at_call 31; refine Calls.mono CE_w20.out ?_
  rintro e w20 ⟨rfl, hb_w20⟩
  clear CE_w20
  have z_w20 : w19.heap.size ≤ w20.heap.size := hb_w20.size
  have box_19 : Hid (C2 w20 w.heap.size (.slice la ls.length lc) (.slice sa (ln d T) sc)) := C2.below box_18.out hb_w20
  clear box_18
  have ww_16 : Hid (Below w3.heap.size w3 w20) := Below.then ww_15.out hb_w20 ww_15.out.size
  clear ww_15
  have g_5 : Hid (TwoO w20 (.slice g0a (rowsO ls.length o).1.length g0c) (.slice g1a (rowsO ls.length o).2.length g1c) (nf 1 (rowsO ls.length o).1.length) (nf m1 (rowsO ls.length o).2.length) g0b g1b) := TwoO.frame g_4.out (fun b hb' => hb_w20.block b (by have := Rg.out b hb'; omega))
  clear g_4
  have hh_1 : Hid (TwoO w20 (.slice hh0a (rowsO ls.length o).1.length hh0c) (.slice hh1a (rowsO ls.length o).2.length hh1c) (rowsO ls.length o).1 (rowsO ls.length o).2 hh0b hh1b) := TwoO.frame hh_0.out (fun b hb' => hb_w20.block b (by have := Rhh.out b hb'; omega))
  clear hh_0
  have B_w20 : Below w0.heap.size w0 w20 := Below.then B_w19 hb_w20 B_w19.size
  clear hb_w20 B_w19
  have CE_w21 : Hid _ := eqIntS_same hh_1.out.b.rep (GRep.below ww_16.out HGC1.out)
  go_wp2_with fail
  go_at_call 31; refine Calls.mono CE_w21.out ?_
  rintro e w21 ⟨rfl, hb_w21⟩
  clear CE_w21
  have z_w21 : w20.heap.size ≤ w21.heap.size := hb_w21.size
  have box_20 : Hid (C2 w21 w.heap.size (.slice la ls.length lc) (.slice sa (ln d T) sc)) := C2.below box_19.out hb_w21
  clear box_19
  have ww_17 : Hid (Below w3.heap.size w3 w21) := Below.then ww_16.out hb_w21 ww_16.out.size
  clear ww_16
  have g_6 : Hid (TwoO w21 (.slice g0a (rowsO ls.length o).1.length g0c) (.slice g1a (rowsO ls.length o).2.length g1c) (nf 1 (rowsO ls.length o).1.length) (nf m1 (rowsO ls.length o).2.length) g0b g1b) := TwoO.frame g_5.out (fun b hb' => hb_w21.block b (by have := Rg.out b hb'; omega))
  clear g_5
  have hh_2 : Hid (TwoO w21 (.slice hh0a (rowsO ls.length o).1.length hh0c) (.slice hh1a (rowsO ls.length o).2.length hh1c) (rowsO ls.length o).1 (rowsO ls.length o).2 hh0b hh1b) := TwoO.frame hh_1.out (fun b hb' => hb_w21.block b (by have := Rhh.out b hb'; omega))
  clear hh_1
  have B_w21 : Below w0.heap.size w0 w21 := Below.then B_w20 hb_w21 B_w20.size
  clear hb_w21 B_w20
  clear hh_2
  have CH_w22 : Hid _ := heldIntS_any (n := (rowsO ls.length o).1.length) (k := 1) g_6.out.a.rep (by decide) (by omega)
  rw [HM1.out] at CH_w22
  go_wp2_with fail
  go_at_call 35; refine Calls.mono CH_w22.out ?_
  rintro e w22 ⟨rfl, hb_w22⟩
  clear CH_w22
  have z_w22 : w21.heap.size ≤ w22.heap.size := hb_w22.size
  have box_21 : Hid (C2 w22 w.heap.size (.slice la ls.length lc) (.slice sa (ln d T) sc)) := C2.below box_20.out hb_w22
  clear box_20
  have ww_18 : Hid (Below w3.heap.size w3 w22) := Below.then ww_17.out hb_w22 ww_17.out.size
  clear ww_17
  have g_7 : Hid (TwoO w22 (.slice g0a (rowsO ls.length o).1.length g0c) (.slice g1a (rowsO ls.length o).2.length g1c) (nf 1 (rowsO ls.length o).1.length) (nf m1 (rowsO ls.length o).2.length) g0b g1b) := TwoO.frame g_6.out (fun b hb' => hb_w22.block b (by have := Rg.out b hb'; omega))
  clear g_6
  have B_w22 : Below w0.heap.size w0 w22 := Below.then B_w21 hb_w22 B_w21.size
  clear hb_w22 B_w21
  have CH_w23 : Hid _ := heldIntS_any (n := (rowsO ls.length o).2.length) (k := m1) g_7.out.b.rep m1a (by omega)
  rw [HM2.out] at CH_w23
  go_wp2_with fail
  go_at_call 35; refine Calls.mono CH_w23.out ?_
  rintro e w23 ⟨rfl, hb_w23⟩
  clear CH_w23
  have z_w23 : w22.heap.size ≤ w23.heap.size := hb_w23.size
  have box_22 : Hid (C2 w23 w.heap.size (.slice la ls.length lc) (.slice sa (ln d T) sc)) := C2.below box_21.out hb_w23
  clear box_21
  have ww_19 : Hid (Below w3.heap.size w3 w23) := Below.then ww_18.out hb_w23 ww_18.out.size
  clear ww_18
  have g_8 : Hid (TwoO w23 (.slice g0a (rowsO ls.length o).1.length g0c) (.slice g1a (rowsO ls.length o).2.length g1c) (nf 1 (rowsO ls.length o).1.length) (nf m1 (rowsO ls.length o).2.length) g0b g1b) := TwoO.frame g_7.out (fun b hb' => hb_w23.block b (by have := Rg.out b hb'; omega))
  clear g_7
  have B_w23 : Below w0.heap.size w0 w23 := Below.then B_w22 hb_w23 B_w22.size
  clear hb_w23 B_w22
  go_wp2
  go_ret
  exact ⟨rfl, Below.then HA.out B_w23 HA.out.size⟩

end Go.Proofs.Ytlhfbhidgabgbaa

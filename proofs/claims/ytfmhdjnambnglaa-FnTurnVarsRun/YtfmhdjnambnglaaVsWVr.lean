/- With other names of variables a program does the same: the law, walked. -/
import Derived.Test.YtfmhdjnambnglaaVsTpv
import Derived.Test.YtfmhdjnambnglaaVsTpw
import Derived.Test.YtfmhdjnambnglaaVsTlw
import Derived.Test.YtfmhdjnambnglaaVsTmr
import Derived.Test.YtfmhdjnambnglaaVsRfx
import Derived.Test.YtfmhdjnambnglaaVsLcx
import Derived.Test.YtfmhdjnambnglaaVsRtx
import Derived.Deep.RegionHeld3
import Derived.Deep.DrawnRows
namespace Go.Proofs.Ytfmhdjnambnglaa
open Go.RowKit
set_option linter.unusedSimpArgs false
set_option linter.unusedVariables false
attribute [local go_sem ↓] Go.wp_at_zero Go.wp_at_succ
attribute [local go_sem] World.cell?_alloc_some

theorem C2.frame {w w' : World} {b : Nat} {v0 v1 : Value} (h : C2 w b v0 v1) (hb : w'.heap[b]? = w.heap[b]?) : C2 w' b v0 v1 := by
  obtain ⟨⟨c0, c1⟩, f0, f1⟩ := h
  have hc : ∀ o, w'.cell? ⟨b, o, none⟩ = w.cell? ⟨b, o, none⟩ := fun o => World.cell?_of_block hb
  have hf : ∀ o, w'.frozen? ⟨b, o, none⟩ = w.frozen? ⟨b, o, none⟩ := fun o => World.frozen?_of_block (a := ⟨b, o, none⟩) hb
  exact ⟨⟨(hc 0).trans c0, (hc 1).trans c1⟩, (hf 0).trans f0, (hf 1).trans f1⟩
theorem C2.lt {w : World} {b : Nat} {v0 v1 : Value} (h : C2 w b v0 v1) : b < w.heap.size := World.block_lt_of_cell? w _ h.1.1
theorem C2.below {w w' : World} {b : Nat} {v0 v1 : Value} (h : C2 w b v0 v1) (hb : Below w.heap.size w w') : C2 w' b v0 v1 := h.frame (hb.block b h.lt)
theorem R3.reps' {B : Nat} {w : World} {a b c : Value} {s : RSt} (h : R3 B w a b c s) : GRep (Value.int .i64) w a s.n ∧ LRep w b s.ws ∧ LRep w c s.ss := by
  obtain ⟨bs, ho, _⟩ := row_gown h.n
  obtain ⟨bs1, h1, _⟩ := row_pown h.ws
  obtain ⟨bs2, h2, _⟩ := row_pown h.ss
  exact ⟨ho.rep, h1.rep, h2.rep⟩
/-- Numbers by how many bytes there are. -/
def nsM (m n : Nat) : List Int := (List.range n).map fun i : Nat => Int.tmod ((m : Int) + (i : Int) * 3) 10
theorem nsM_succ (m n : Nat) : nsM m (n + 1) = nsM m n ++ [Int.tmod ((m : Int) + (n : Int) * 3) 10] := by simp [nsM, List.range_succ]
theorem nsM_len (m n : Nat) : (nsM m n).length = n := by simp [nsM]
theorem nsM_at (m n i : Nat) (h : i < n) : (nsM m n).getD i 0 = Int.tmod ((m : Int) + (i : Int) * 3) 10 := by simp [nsM, List.getD_eq_getElem?_getD, h]
theorem nsM_ten (m n : Nat) : tenB (nsM m n) = true := by
  refine List.all_eq_true.2 fun x hx => ?_
  obtain ⟨i, -, rfl⟩ := List.mem_map.1 hx
  have h1 := Int.tmod_nonneg 10 (a := (m : Int) + (i : Int) * 3) (by omega)
  have h2 := Int.tmod_lt_of_pos ((m : Int) + (i : Int) * 3) (b := 10) (by omega)
  simp only [vIn, Bool.and_eq_true, decide_eq_true_eq]
  exact ⟨h1, h2⟩
theorem told_few {ls : List (Int × Int)} {d : Nat} {T : Tr d} {ns : List Int} : (runS ls d T ns).ss.length ≤ 1048576 := by
  unfold runS
  split
  · rename_i h
    unfold numsB progB at h
    simp only [Bool.and_eq_true_iff, decide_eq_true_eq] at h
    have q := (doT_ok d T ls.length 3 ⟨ns, [], []⟩ h.1.2.2.1 h.2.1 h.2.2).2.2.2
    have := h.1.2.2.2
    simp at q
    omega
  · simp

/-- Numbers, each at the place of its new name. -/
def mvTo (zs xs : List Int) (k : Nat) : List Int := (List.range k).foldl (fun o i => o.set (zs.getD i 0).toNat (xs.getD i 0)) (List.replicate zs.length 0)
theorem mvTo_succ (zs xs : List Int) (k : Nat) : mvTo zs xs (k + 1) = (mvTo zs xs k).set (zs.getD k 0).toNat (xs.getD k 0) := by simp [mvTo, List.range_succ]
theorem mvTo_len (zs xs : List Int) : ∀ k, (mvTo zs xs k).length = zs.length
  | 0 => by simp [mvTo]
  | k + 1 => by rw [mvTo_succ, List.length_set, mvTo_len zs xs k]
theorem mvTo_ten {zs xs : List Int} (h : tenB xs = true) : ∀ k, k ≤ xs.length → tenB (mvTo zs xs k) = true
  | 0, _ => by
    refine List.all_eq_true.2 fun x hx => ?_
    have : x = 0 := by simp [mvTo] at hx; exact hx.2
    subst this; rfl
  | k + 1, hk => by
    rw [mvTo_succ]
    exact ten_set _ _ _ (mvTo_ten h k (by omega)) (by
      have := ten_get xs k (by omega) h
      rwa [List.getD_eq_getElem?_getD, List.getElem?_eq_getElem (show k < xs.length by omega), Option.getD_some])
theorem mvTo_at {zs xs : List Int} {n : Nat} (hr : rowB zs n = true) (hn : n ≤ 4) : ∀ k, k ≤ n → ∀ i, i < k → (mvTo zs xs k).getD (zs.getD i 0).toNat 0 = xs.getD i 0
  | 0, _, i, hi => by omega
  | k + 1, hk, i, hi => by
    have hl := rowB_len hr
    have b1 := row_getD (v := (i : Int)) hr (by omega) (by omega)
    have b2 := row_getD (v := (k : Int)) hr (by omega) (by omega)
    rw [Int.toNat_natCast] at b1 b2
    rw [mvTo_succ, getD_set _ _ _ _ (by rw [mvTo_len]; omega)]
    by_cases he : i = k
    · subst he; rw [if_pos rfl]
    · rw [if_neg, mvTo_at hr hn k (by omega) i (by omega)]
      intro hc
      have := (row_inj hr hn (a := (k : Int)) (b := (i : Int)) (by omega) (by omega) (by omega) (by omega)).1 (by rw [Int.toNat_natCast, Int.toNat_natCast]; omega)
      omega

set_option maxHeartbeats 16000000 in
set_option maxRecDepth 20000 in
theorem fnTurnVarsRun_walk (a0 : Option Addr) (len0 cap0 : Nat) (z0 : List Int) (a1 : Option Addr) (len1 cap1 : Nat) (z1 : List Int) (w : World) (h0 : IsRow .u8 w a0 len0 cap0 z0) (h1 : IsRow .u8 w a1 len1 cap1 z1) :
    Calls Try.prog 8 #[.slice a0 len0 cap0, .slice a1 len1 cap1] w fun e w' => e = .returned (.bool true) ∧ Below w.heap.size w w' := by
  by_cases hl0 : (1048576 : Int) < (len0 : Int)
  · go_enter Try.func8, Try.ntmps8
    go_wp2
    go_ret
    exact ⟨rfl, Below.refl _ _⟩
  by_cases hl1 : (1048576 : Int) < (len1 : Int)
  · go_enter Try.func8, Try.ntmps8
    go_wp2
    go_ret
    exact ⟨rfl, Below.refl _ _⟩
  have C1 : Hid _ := drawTurnVars_any w a0 len0 cap0 z0 h0
  clear h0 h1
  go_enter Try.func8, Try.ntmps8
  go_wp2_with fail
  go_at_call 35; refine Calls.mono C1.out ?_
  rintro e w1 ⟨la, sa, lc, sc, ls, d, l, zs, g, nc, rfl, hL, hR, hG, hb1, ll, cn, zl⟩
  have HB1 : Hid (Below w.heap.size w w1) := hb1
  have HGL1 : Hid (zs.length = 0 ∨ g < w1.heap.size) := (show zs.length = 0 ∨ g < w1.heap.size by
    rcases Nat.eq_zero_or_pos zs.length with h | h
    · exact .inl h
    · obtain ⟨a', c', he, -, -, hcell⟩ := hG
      obtain ⟨b, off, h1, h2⟩ := hcell 0 h
      simp only [Value.slice.injEq] at he
      have h3 := he.1.trans h1
      simp only [Option.some.injEq, Addr.mk.injEq] at h3
      obtain ⟨rfl, rfl, -⟩ := h3
      exact .inr (World.block_lt_of_cell? _ _ h2))
  have A2 : Below w1.heap.size w1 (w1.alloc (.cells #[.slice la ls.length lc, .slice sa (ln (d + 1) (l : List (Pay × Tr d × Tr d))) sc] 43)) := (Below.refl _ _).alloc (Nat.le_refl _) _
  have G2 := C2.new w1 (.slice la ls.length lc) (.slice sa (ln (d + 1) (l : List (Pay × Tr d × Tr d))) sc) 43
  obtain ⟨w2, hw2⟩ : ∃ W, w1.alloc (.cells #[.slice la ls.length lc, .slice sa (ln (d + 1) (l : List (Pay × Tr d × Tr d))) sc] 43) = W := ⟨_, rfl⟩
  rw [hw2] at A2 G2
  have HW2 : Hid _ := hw2
  have K2 : Hid _ := sTurnVars_any (hL.below A2) (hR.below A2) (by omega) (hG.below A2)
  have HRR : Hid (∀ wz, Below w1.heap.size w1 wz → LRep wz (.slice la ls.length lc) ls ∧ Rep wz (d + 1) (.slice sa (ln (d + 1) (l : List (Pay × Tr d × Tr d))) sc) (l : List (Pay × Tr d × Tr d)) ∧ GRep (Value.int .i64) wz (.slice (some ⟨g, 0, none⟩) zs.length nc) zs) := (show ∀ wz, _ from fun wz hb => ⟨hL.below hb, hR.below hb, hG.below hb⟩)
  have HG2 : Hid (C2 w2 w1.heap.size (.slice la ls.length lc) (.slice sa (ln (d + 1) (l : List (Pay × Tr d × Tr d))) sc)) := G2
  have HA2 : Hid (Below w1.heap.size w1 w2) := A2
  obtain ⟨okb, hok⟩ : ∃ x, tvOk zs ls (d + 1) (l : List (Pay × Tr d × Tr d)) = x := ⟨_, rfl⟩
  obtain ⟨LN, hLN⟩ : ∃ x, tvL zs ls (d + 1) (l : List (Pay × Tr d × Tr d)) = x := ⟨_, rfl⟩
  obtain ⟨TN, hTN⟩ : ∃ x, tvT zs ls (d + 1) (l : List (Pay × Tr d × Tr d)) = x := ⟨_, rfl⟩
  rw [hok, hLN, hTN] at K2
  have HOK : Hid _ := hok
  have HLN : Hid _ := hLN
  have HTN : Hid _ := hTN
  obtain ⟨⟨p0, p1⟩, -⟩ := G2
  clear hok hLN hTN hw2 A2 hL hR hG hb1 C1
  go_wp2_with fail
  rw [HW2.out]
  clear HW2
  (try go_at_call 36); refine Calls.mono K2.out ?_
  rintro e w3 ⟨vwl, vws, c1, c2, rfl, hb3, olw, osw, -, -, -⟩
  obtain ⟨wla, wlc, rfl, -⟩ := id olw.rep
  obtain ⟨wsa, wsc, rfl⟩ := osw.slice
  have HWW : Hid (∀ wz, Below w3.heap.size w3 wz → LRep wz (.slice wla LN.length wlc) LN ∧ Rep wz (d + 1) (.slice wsa (ln (d + 1) TN) wsc) TN) := (show ∀ wz, _ from fun wz hb => ⟨olw.rep.below hb, osw.rep.below hb⟩)
  have HG3 : Hid (C2 w3 w1.heap.size (.slice la ls.length lc) (.slice sa (ln (d + 1) (l : List (Pay × Tr d × Tr d))) sc)) := C2.same HG2.out (hb3.block _ (World.block_lt_of_cell? _ _ HG2.out.1.1))
  have HB13 : Hid (Below w1.heap.size w1 w3) := Below.then HA2.out hb3 HA2.out.size
  have A4 : Below w3.heap.size w3 (w3.alloc (.cells #[.slice wla LN.length wlc, .slice wsa (ln (d + 1) TN) wsc] 43)) := (Below.refl _ _).alloc (Nat.le_refl _) _
  have G4 := C2.new w3 (.slice wla LN.length wlc) (.slice wsa (ln (d + 1) TN) wsc) 43
  obtain ⟨w4, hw4⟩ : ∃ W, w3.alloc (.cells #[.slice wla LN.length wlc, .slice wsa (ln (d + 1) TN) wsc] 43) = W := ⟨_, rfl⟩
  rw [hw4] at A4 G4
  have HW4 : Hid _ := hw4
  have HA4 : Hid (Below w3.heap.size w3 w4) := A4
  have HB14 : Hid (Below w1.heap.size w1 w4) := Below.then HB13.out A4 HB13.out.size
  have K4 : Hid _ := turnVars_any (HRR.out _ HB14.out).1 (HRR.out _ HB14.out).2.1 (HRR.out _ HB14.out).2.2
  rw [HOK.out, HLN.out, HTN.out] at K4
  have HG4 : Hid (C2 w4 w3.heap.size (.slice wla LN.length wlc) (.slice wsa (ln (d + 1) TN) wsc)) := G4
  replace p0 := cell_later hb3 p0
  replace p1 := cell_later hb3 p1
  clear hw4 A4 G4 hb3 olw osw K2 HG2 HA2
  go_wp2_with fail
  rw [HW4.out]
  clear HW4 p0 p1
  (try go_at_call 37); refine Calls.mono K4.out ?_
  rintro e w5 ⟨vql, vqs, c3, c4, rfl, hb5, olq, osq, -, -, -⟩
  obtain ⟨qla, qlc, rfl, -⟩ := id olq.rep
  obtain ⟨qsa, qsc, rfl⟩ := osq.slice
  have A6 : Below w5.heap.size w5 (w5.alloc (.cells #[.slice qla LN.length qlc, .slice qsa (ln (d + 1) TN) qsc] 43)) := (Below.refl _ _).alloc (Nat.le_refl _) _
  have G6 := C2.new w5 (.slice qla LN.length qlc) (.slice qsa (ln (d + 1) TN) qsc) 43
  obtain ⟨w6, hw6⟩ : ∃ W, w5.alloc (.cells #[.slice qla LN.length qlc, .slice qsa (ln (d + 1) TN) qsc] 43) = W := ⟨_, rfl⟩
  rw [hw6] at A6 G6
  have HW6 : Hid _ := hw6
  have HB16 : Hid (Below w1.heap.size w1 w6) := Below.then (Below.then HB14.out hb5 HB14.out.size) A6 (Below.then HB14.out hb5 HB14.out.size).size
  have HB36 : Hid (Below w3.heap.size w3 w6) := Below.then (Below.then HA4.out hb5 HA4.out.size) A6 (Below.then HA4.out hb5 HA4.out.size).size
  have HB46 : Hid (Below w4.heap.size w4 w6) := Below.then hb5 A6 hb5.size
  have HGP : Hid (∀ wz, Below w6.heap.size w6 wz → (wz.cell? ⟨w1.heap.size, 0, none⟩ = some (.slice la ls.length lc) ∧ wz.cell? ⟨w1.heap.size, 1, none⟩ = some (.slice sa (ln (d + 1) (l : List (Pay × Tr d × Tr d))) sc)) ∧ (wz.cell? ⟨w3.heap.size, 0, none⟩ = some (.slice wla LN.length wlc) ∧ wz.cell? ⟨w3.heap.size, 1, none⟩ = some (.slice wsa (ln (d + 1) TN) wsc)) ∧ (wz.cell? ⟨w5.heap.size, 0, none⟩ = some (.slice qla LN.length qlc) ∧ wz.cell? ⟨w5.heap.size, 1, none⟩ = some (.slice qsa (ln (d + 1) TN) qsc))) := (show ∀ wz, _ from fun wz hb => ⟨⟨cell_later hb (cell_later HB36.out HG3.out.1.1), cell_later hb (cell_later HB36.out HG3.out.1.2)⟩, ⟨cell_later hb (cell_later HB46.out HG4.out.1.1), cell_later hb (cell_later HB46.out HG4.out.1.2)⟩, cell_later hb G6.1.1, cell_later hb G6.1.2⟩)
  have HAL : Hid (∀ wz, Below w6.heap.size w6 wz → (LRep wz (.slice la ls.length lc) ls ∧ Rep wz (d + 1) (.slice sa (ln (d + 1) (l : List (Pay × Tr d × Tr d))) sc) (l : List (Pay × Tr d × Tr d)) ∧ GRep (Value.int .i64) wz (.slice (some ⟨g, 0, none⟩) zs.length nc) zs) ∧ (LRep wz (.slice wla LN.length wlc) LN ∧ Rep wz (d + 1) (.slice wsa (ln (d + 1) TN) wsc) TN) ∧ (LRep wz (.slice qla LN.length qlc) LN ∧ Rep wz (d + 1) (.slice qsa (ln (d + 1) TN) qsc) TN)) := (show ∀ wz, _ from fun wz hb => ⟨HRR.out wz (Below.then HB16.out hb HB16.out.size), HWW.out wz (Below.then HB36.out hb HB36.out.size), (olq.rep.below A6).below hb, (osq.rep.below A6).below hb⟩)
  have HG5 : Hid ((w5.cell? ⟨w1.heap.size, 0, none⟩ = some (.slice la ls.length lc) ∧ w5.cell? ⟨w1.heap.size, 1, none⟩ = some (.slice sa (ln (d + 1) (l : List (Pay × Tr d × Tr d))) sc)) ∧ w5.cell? ⟨w3.heap.size, 0, none⟩ = some (.slice wla LN.length wlc) ∧ w5.cell? ⟨w3.heap.size, 1, none⟩ = some (.slice wsa (ln (d + 1) TN) wsc)) := ⟨⟨cell_later hb5 (cell_later HA4.out HG3.out.1.1), cell_later hb5 (cell_later HA4.out HG3.out.1.2)⟩, cell_later hb5 HG4.out.1.1, cell_later hb5 HG4.out.1.2⟩
  have HS16 : Hid (w1.heap.size ≤ w6.heap.size) := HB16.out.size
  have HB6 : Hid (Below w.heap.size w w6) := Below.then HB1.out HB16.out HB1.out.size
  have KC : Hid (∀ wz, Below w6.heap.size w6 wz → Calls Try.prog 28 #[.agg #[.slice qla LN.length qlc, .slice qsa (ln (d + 1) TN) qsc], .agg #[.slice wla LN.length wlc, .slice wsa (ln (d + 1) TN) wsc]] wz fun e w' => e = .returned (.bool true) ∧ Below wz.heap.size wz w') := (show ∀ wz, _ from fun wz hb => lcProg_same (HAL.out wz hb).2.2.1 (HAL.out wz hb).2.2.2 (HAL.out wz hb).2.1.1 (HAL.out wz hb).2.1.2)
  have B66 : Hid (Below w6.heap.size w6 w6) := Below.refl _ _
  clear hw6 A6 G6 hb5 olq osq K4 HG3 HG4 HA4 HB13 HB14 HB16 HB36 HB46 HRR HWW HB1
  obtain ⟨⟨p0, p1⟩, c0, c1⟩ := HG5.out
  go_wp2_with fail
  rw [HW6.out]
  clear HW6 HG5
  (try go_at_call 28); refine Calls.mono (KC.out _ B66.out) ?_
  rintro e w7 ⟨rfl, hb_w7⟩
  have B_w7 : Hid (Below w6.heap.size w6 w7) := Below.then B66.out hb_w7 B66.out.size
  clear hb_w7
  clear p0 p1 c0 c1
  cases okb
  · obtain ⟨⟨p0, p1⟩, ⟨c0, c1⟩, q0, q1⟩ := HGP.out w7 B_w7.out
    go_wp2_with fail
    (try go_at_call 28); refine Calls.mono (KC.out _ B_w7.out) ?_
    rintro e w8 ⟨rfl, hb_w8⟩
    have B_w8 : Hid (Below w6.heap.size w6 w8) := Below.then B_w7.out hb_w8 B_w7.out.size
    clear hb_w8
    clear p0 p1 c0 c1 q0 q1
    go_wp2
    go_ret
    exact ⟨by simp, Below.then HB6.out B_w8.out HB6.out.size⟩
  obtain ⟨i0, hi0, hz0, hz1, hz2⟩ := info_parts infoInt
  obtain ⟨hp, hrw, -⟩ := vars_back HOK.out
  obtain ⟨l4, -, -, -⟩ := progB4 hp
  have TR := vars_run (ns := (nsM len1 ls.length)) (ms := (mvTo zs (nsM len1 ls.length) ls.length)) HOK.out (nsM_len _ _) ((mvTo_len _ _ _).trans (rowB_len hrw)) (nsM_ten _ _) (mvTo_ten (nsM_ten _ _) _ (by rw [nsM_len]; omega)) (fun i hi => mvTo_at hrw l4 _ (Nat.le_refl _) i hi)
  rw [HLN.out, HTN.out] at TR
  obtain ⟨rx, hrx⟩ : ∃ r, runS ls (d + 1) (l : List (Pay × Tr d × Tr d)) (nsM len1 ls.length) = r := ⟨_, rfl⟩
  obtain ⟨ry, hry⟩ : ∃ r, runS LN (d + 1) TN (mvTo zs (nsM len1 ls.length) ls.length) = r := ⟨_, rfl⟩
  have fx : rx.ss.length ≤ 1048576 := by rw [← hrx]; exact told_few
  rw [hrx, hry] at TR
  obtain ⟨t1, t2, t3, t4, t5, t6⟩ := TR
  have HRX : Hid _ := hrx
  have HRY : Hid _ := hry
  have HN1 : Hid _ := t1
  have HN2 : Hid _ := t2
  have HEQ : Hid _ := And.intro t3 (And.intro t4 (And.intro t5 t6))
  have HFX : Hid (rx.ss.length ≤ 1048576) := fx
  have HR3 : Hid _ := hrw
  have HZL : Hid (zs.length = ls.length) := rowB_len hrw
  clear t1 t2 t3 t4 t5 t6 hrx hry fx hrw hp
  have ARB : Below w7.heap.size w7 (w7.alloc (.cells #[] 3)) := (Below.refl _ _).alloc (Nat.le_refl _) _
  have ROW0 := World.ownsRow_made (base := w7.heap.size) (e := 3) (size := 1) w7 #[] 0 (by simp) (by unfold maxLen; omega) (by simp)
  have HRW : Hid (Below w7.heap.size w7 (w7.alloc (.cells #[] 3)) ∧ (w7.alloc (.cells #[] 3)).ownsRow w7.heap.size 3 1 (.slice (some ⟨w7.heap.size, 0, none⟩) 0 0) 0 ((nsM len1 0).map (Value.int .i64))) := ⟨ARB, by simpa [nsM] using ROW0⟩
  clear ARB ROW0
  obtain ⟨⟨p0, p1⟩, ⟨c0, c1⟩, q0, q1⟩ := HGP.out w7 B_w7.out
  clear c0 c1 q0 q1
  go_wp2_with (at_make; refine wpList_make_full _ rfl _ _ 23 rfl (w7.heap.size + 1) 3 i0 _ 1 Try.underlying23 hi0 hz0 hz1 _ _ _ _ ls.length rfl rfl rfl rfl ?b2 ?b3 ?b4 ?_)
  case b2 => rw [hz2]; omega
  case b3 => unfold maxLen; omega
  case b4 => simp
  intro w0 own0 grow0
  have B70 : Below w7.heap.size w7 w0 := HRW.out.1.grown grow0 (by simp) (fun k hk => by cases hk)
  have sz0 : w7.heap.size + 1 < w0.heap.size := by
    have := World.ownsRow.lt own0 (w7.heap.size + 1) (by simp [Value.ownBlock])
    exact this.2
  have OR0 : w0.ownsRow w7.heap.size 3 1 (.slice (some ⟨w7.heap.size, 0, none⟩) 0 0) 0 ((nsM len1 0).map (Value.int .i64)) := rowg_frame HRW.out.2 (fun b e => grow0.block b (World.ownsRow.lt HRW.out.2 b e).2 (by simp))
  have CE0 : ∀ q, q < ls.length → w0.cell? ⟨w7.heap.size + 1, q, none⟩ = some (.int .i64 ((mvTo zs (nsM len1 ls.length) 0).getD q 0)) ∧ w0.frozen? ⟨w7.heap.size + 1, q, none⟩ = false := fun q hq => ⟨by
    have hz := HZL.out
    rw [World.ownsRow.cellAt own0 q (by omega)]
    simpa [mvTo, List.getD_eq_getElem?_getD, hz, hq] using madeCells1 (.int .i64 0) ls.length q hq, World.ownsRow.frozenAt own0 q⟩
  have H0 : Hid (Below w7.heap.size w7 w0 ∧ w7.heap.size + 1 < w0.heap.size ∧ w0.ownsRow w7.heap.size 3 1 (.slice (some ⟨w7.heap.size, 0, none⟩) 0 0) 0 ((nsM len1 0).map (Value.int .i64)) ∧ ∀ q, q < ls.length → w0.cell? ⟨w7.heap.size + 1, q, none⟩ = some (.int .i64 ((mvTo zs (nsM len1 ls.length) 0).getD q 0)) ∧ w0.frozen? ⟨w7.heap.size + 1, q, none⟩ = false) := ⟨B70, sz0, OR0, CE0⟩
  clear own0 grow0 p0 p1 B70 sz0 OR0 CE0
  go_wp2_with fail
  go_loopw [11, 13] (fun o j wr => ∃ (i ra rc : Nat), i ≤ ls.length ∧ j = .int .i64 i ∧ o = .slice (some ⟨ra, 0, none⟩) i rc ∧ Below w6.heap.size w6 wr ∧ wr.ownsRow w7.heap.size 3 1 (.slice (some ⟨ra, 0, none⟩) i rc) i ((nsM len1 i).map (Value.int .i64)) ∧ ra ≠ w7.heap.size + 1 ∧ w7.heap.size + 1 < wr.heap.size ∧ Hid (∀ q, q < ls.length → wr.cell? ⟨w7.heap.size + 1, q, none⟩ = some (.int .i64 ((mvTo zs (nsM len1 ls.length) i).getD q 0)) ∧ wr.frozen? ⟨w7.heap.size + 1, q, none⟩ = false)) (fun _ j _ => ls.length - (intOf j).toNat)
  case atStart => exact ⟨0, w7.heap.size, 0, by omega, rfl, rfl, Below.then B_w7.out H0.out.1 B_w7.out.size, H0.out.2.2.1, by omega, H0.out.2.1, H0.out.2.2.2⟩
  case round =>
    obtain ⟨i, ra, rc, hi, rfl, rfl, hbr, hor, hne, hms, HCE⟩ := hrel
    have HBR : Hid (Below w6.heap.size w6 wr) := hbr
    have HOR : Hid (wr.ownsRow w7.heap.size 3 1 (.slice (some ⟨ra, 0, none⟩) i rc) i ((nsM len1 i).map (Value.int .i64))) := hor
    have hsz : w6.heap.size ≤ wr.heap.size := hbr.size
    have hral := World.ownsRow.lt hor ra rfl
    obtain ⟨⟨p0, p1⟩, -⟩ := HGP.out wr hbr
    clear hbr hor
    by_cases hlt : i < ls.length
    · have i1' : (i : Int) < (ls.length : Int) := by omega
      have s86 : w6.heap.size ≤ w7.heap.size := B_w7.out.size
      go_wp2_with (at_builtin; refine wpList_append_own_at _ rfl _ _ 23 rfl w7.heap.size 3 i0 _ 1 8 Try.underlying23 hi0 hz0 hz1 hz2 rfl (by decide) _ _ _ rfl (HOR.out.alloc _) ⟨wr.heap.size, 0, none⟩ 1 1 [.int .i64 (Int.tmod ((len1 : Int) + (i : Int) * 3) 10)] rfl rfl ?c11 ?c21 ?c31 ?c41 ?c51 ?_)
      case c11 => exact cells_new1 wr _ _ _ rfl
      case c21 => simp [Value.oneCell']
      case c31 => unfold maxLen; omega
      case c41 => omega
      case c51 => simp; omega
      intro v5 w5' own5 grow5 nn5 at5
      have nz : v5 ≠ .slice none 0 0 := by intro e; have := nn5; simp [e] at this
      obtain ⟨g5, gc5, hv5⟩ : ∃ g5 gc5, v5 = .slice (some ⟨g5, 0, none⟩) (i + 1) gc5 := by
        obtain ⟨_, ⟨q, _⟩ | ⟨g5, c5, _, q, _⟩⟩ := id own5
        · exact (nz q).elim
        · exact ⟨g5, c5, q⟩
      subst hv5
      have g5n : g5 ≠ w7.heap.size + 1 := by
        rcases at5 with h | h
        · have e : g5 = ra := by simpa [Value.ownBlock] using h
          omega
        · have e : g5 = wr.heap.size + 1 := by simpa [Value.ownBlock] using h
          omega
      have hMb : w5'.heap[w7.heap.size + 1]? = wr.heap[w7.heap.size + 1]? := (grow5.block _ (by simp; omega) (by simp [Value.ownBlock]; omega)).trans (((Below.refl wr.heap.size wr).alloc (Nat.le_refl _) _).block _ hms)
      have BX : Hid (Below w6.heap.size w6 w5') := (HBR.out.alloc hsz _).grown grow5 (by simp; omega) (fun k hk => by have e : ra = k := (by simpa [Value.ownBlock] using hk); omega)
      have hms5 : w7.heap.size + 1 < w5'.heap.size := by have := grow5.size; simp at this; omega
      have OX : Hid (w5'.ownsRow w7.heap.size 3 1 (.slice (some ⟨g5, 0, none⟩) (i + 1) gc5) (i + 1) ((nsM len1 (i + 1)).map (Value.int .i64))) := (show w5'.ownsRow w7.heap.size 3 1 (.slice (some ⟨g5, 0, none⟩) (i + 1) gc5) (i + 1) ((nsM len1 (i + 1)).map (Value.int .i64)) by rw [nsM_succ, List.map_append]; exact own5)
      have CX : Hid (∀ q, q < ls.length → w5'.cell? ⟨w7.heap.size + 1, q, none⟩ = some (.int .i64 ((mvTo zs (nsM len1 ls.length) i).getD q 0)) ∧ w5'.frozen? ⟨w7.heap.size + 1, q, none⟩ = false) := (show ∀ q, q < ls.length → w5'.cell? ⟨w7.heap.size + 1, q, none⟩ = some (.int .i64 ((mvTo zs (nsM len1 ls.length) i).getD q 0)) ∧ w5'.frozen? ⟨w7.heap.size + 1, q, none⟩ = false from fun q hq => ⟨(World.cell?_of_block (a := ⟨w7.heap.size + 1, q, none⟩) hMb).trans (HCE.out q hq).1, (World.frozen?_of_block (a := ⟨w7.heap.size + 1, q, none⟩) hMb).trans (HCE.out q hq).2⟩)
      obtain ⟨hgc, zr0, zr1⟩ : w5'.cell? ⟨g, i, none⟩ = some (.int .i64 (zs.getD i 0)) ∧ 0 ≤ zs.getD i 0 ∧ zs.getD i 0 < ls.length := by
        have hkz : i < zs.length := by have := HZL.out; omega
        have hb := row_getD (v := (i : Int)) HR3.out (by omega) (by omega)
        rw [Int.toNat_natCast] at hb
        obtain ⟨a', c', he, -, -, hcell⟩ := (HAL.out w5' BX.out).1.2.2
        obtain ⟨b, off, h1, h2⟩ := hcell i hkz
        simp only [Value.slice.injEq] at he
        have h3 := he.1.trans h1
        simp only [Option.some.injEq, Addr.mk.injEq] at h3
        obtain ⟨rfl, rfl, -⟩ := h3
        rw [Nat.zero_add] at h2
        exact ⟨by rw [h2, List.getD_eq_getElem?_getD, List.getElem?_eq_getElem hkz, Option.getD_some], hb⟩
      have hxc : w5'.cell? ⟨g5, i, none⟩ = some (.int .i64 (Int.tmod ((len1 : Int) + (i : Int) * 3) 10)) := by
        have hrp := row_rep1 (xs := nsM len1 (i + 1)) (f := Value.int .i64) (by rw [nsM_len]; exact OX.out)
        rw [nsM_len] at hrp
        obtain ⟨a', c', he, -, -, hcell⟩ := hrp
        obtain ⟨b, off, h1, h2⟩ := hcell i (by rw [nsM_len]; omega)
        simp only [Value.slice.injEq] at he
        have h3 := he.1.trans h1
        simp only [Option.some.injEq, Addr.mk.injEq] at h3
        obtain ⟨rfl, rfl, -⟩ := h3
        rw [Nat.zero_add] at h2
        rw [h2]
        simp [nsM]
      have HMV : Hid (mvTo zs (nsM len1 ls.length) (i + 1) = (mvTo zs (nsM len1 ls.length) i).set (zs.getD i 0).toNat (Int.tmod ((len1 : Int) + (i : Int) * 3) 10)) := (show mvTo zs (nsM len1 ls.length) (i + 1) = (mvTo zs (nsM len1 ls.length) i).set (zs.getD i 0).toNat (Int.tmod ((len1 : Int) + (i : Int) * 3) 10) by rw [mvTo_succ, nsM_at _ _ _ hlt])
      have HML : Hid ((mvTo zs (nsM len1 ls.length) i).length = ls.length) := (show (mvTo zs (nsM len1 ls.length) i).length = ls.length from (mvTo_len _ _ _).trans HZL.out)
      generalize zs.getD i 0 = y at hgc zr0 zr1 HMV
      obtain ⟨m, rfl⟩ := Int.eq_ofNat_of_zero_le zr0
      have hm : m < ls.length := by omega
      rw [Int.toNat_natCast] at HMV
      obtain ⟨c0, f0⟩ := CX.out m hm
      generalize Int.tmod ((len1 : Int) + (i : Int) * 3) 10 = X at hxc HMV own5
      have hgM : g < w7.heap.size + 1 := by
        have : g < w1.heap.size := HGL1.out.resolve_left (by have := HZL.out; omega)
        have : w1.heap.size ≤ w6.heap.size := HS16.out
        omega
      have ri0 : (0 : Int) ≤ (i : Int) := by omega
      have riz : (i : Int) < (zs.length : Int) := by have := HZL.out; omega
      have rim : (m : Int) < (ls.length : Int) := by omega
      have ri1 : (i : Int) < ((i + 1 : Nat) : Int) := by omega
      clear own5 grow5 nn5 at5 nz p0 p1 hMb
      go_wp2_with fail
      refine wp_region_held (S := (fun wz => wz.cell? ⟨g, i, none⟩ = some (.int .i64 (m : Int)) ∧ wz.cell? ⟨g5, i, none⟩ = some (.int .i64 X))) (by kernel_rfl) ?_
      change wpAnyH _ _ _ _ _ _ _ _ (World.drew _)
      have hHeld := (show (World.drew w5').cell? ⟨g, i, none⟩ = some (.int .i64 (m : Int)) ∧ (World.drew w5').cell? ⟨g5, i, none⟩ = some (.int .i64 X) from ⟨hgc, hxc⟩)
      refine' wpAnyH_take (i := 0) (v := _) rfl (by kernel_rfl) (by kernel_rfl) (by kernel_rfl) (fun _ _ _ h => h) (Or.inl ⟨by rfl, ?hy70001⟩) hHeld ?hn70001
      case hy70001 => (intro wz hSw; (try dsimp only at hSw); go_simp; first | done | with_reducible rfl)
      try simp only [nrm, Act.put]
      refine' wpAnyH_take (i := 1) (v := _) rfl (by kernel_rfl) (by kernel_rfl) (by kernel_rfl) (fun _ _ _ h => h) (Or.inl ⟨by rfl, ?hy70002⟩) hHeld ?hn70002
      case hy70002 => (intro wz hSw; (try dsimp only at hSw); go_simp; first | done | with_reducible rfl)
      try simp only [nrm, Act.put]
      refine' wpAnyH_take (i := 2) (v := _) rfl (by kernel_rfl) (by kernel_rfl) (by kernel_rfl) (fun _ _ _ h => h) (Or.inl ⟨by rfl, ?hy70003⟩) hHeld ?hn70003
      case hy70003 => (intro wz hSw; (try dsimp only at hSw); go_simp; first | done | with_reducible rfl)
      try simp only [nrm, Act.put]
      refine' wpAnyH_take (i := 3) (v := .pointer (some ⟨g, i, none⟩)) rfl (by kernel_rfl) (by kernel_rfl) (by kernel_rfl) (fun _ _ _ h => h) (Or.inl ⟨by rfl, ?hy70004⟩) hHeld ?hn70004
      case hy70004 => (intro wz hSw; obtain ⟨s0, s1⟩ := hSw; go_simp; first | done | (simp; done) | (simp; omega) | omega)
      try simp only [nrm, Act.put]
      refine' wpAnyH_take (i := 4) (v := .int .i64 (m : Int)) rfl (by kernel_rfl) (by kernel_rfl) (by kernel_rfl) (fun _ _ _ h => h) (Or.inl ⟨by rfl, ?hy70005⟩) hHeld ?hn70005
      case hy70005 => (intro wz hSw; obtain ⟨s0, s1⟩ := hSw; go_simp; first | done | (simp; done) | (simp; omega) | omega)
      try simp only [nrm, Act.put]
      refine' wpAnyH_take (i := 5) (v := _) rfl (by kernel_rfl) (by kernel_rfl) (by kernel_rfl) (fun _ _ _ h => h) (Or.inl ⟨by rfl, ?hy70006⟩) hHeld ?hn70006
      case hy70006 => (intro wz hSw; (try dsimp only at hSw); go_simp; first | done | with_reducible rfl)
      try simp only [nrm, Act.put]
      refine' wpAnyH_take (i := 6) (v := _) rfl (by kernel_rfl) (by kernel_rfl) (by kernel_rfl) (fun _ _ _ h => h) (Or.inl ⟨by rfl, ?hy70007⟩) hHeld ?hn70007
      case hy70007 => (intro wz hSw; (try dsimp only at hSw); go_simp; first | done | with_reducible rfl)
      try simp only [nrm, Act.put]
      refine' wpAnyH_take (i := 7) (v := .pointer (some ⟨g5, i, none⟩)) rfl (by kernel_rfl) (by kernel_rfl) (by kernel_rfl) (fun _ _ _ h => h) (Or.inl ⟨by rfl, ?hy70008⟩) hHeld ?hn70008
      case hy70008 => (intro wz hSw; obtain ⟨s0, s1⟩ := hSw; go_simp; first | done | (simp; done) | (simp; omega) | omega)
      try simp only [nrm, Act.put]
      refine' wpAnyH_take (i := 8) (v := .int .i64 X) rfl (by kernel_rfl) (by kernel_rfl) (by kernel_rfl) (fun _ _ _ h => h) (Or.inl ⟨by rfl, ?hy70009⟩) hHeld ?hn70009
      case hy70009 => (intro wz hSw; obtain ⟨s0, s1⟩ := hSw; go_simp; first | done | (simp; done) | (simp; omega) | omega)
      try simp only [nrm, Act.put]
      refine' wpAnyH_take (i := 9) (v := .pointer (some ⟨w7.heap.size + 1, m, none⟩)) rfl (by kernel_rfl) (by kernel_rfl) (by kernel_rfl) (fun _ _ _ h => h) (Or.inl ⟨by rfl, ?hy70010⟩) hHeld ?hn70010
      case hy70010 => (intro wz hSw; obtain ⟨s0, s1⟩ := hSw; go_simp; first | done | (simp; done) | (simp; omega) | omega)
      try simp only [nrm, Act.put]
      refine wpAnyH_ready (rs := [10]) (by kernel_rfl) (by simp) ?_
      refine AllReadyH.cons rfl (fun K hK => ?_) AllReadyH.nil
      have c1 : (World.drew w5').cell? ⟨w7.heap.size + 1, m, none⟩ = some (.int .i64 ((mvTo zs (nsM len1 ls.length) i).getD m 0)) := c0
      have f1 : (World.drew w5').frozen? ⟨w7.heap.size + 1, m, none⟩ = false := f0
      go_simp
      have hK2 : (fun wz => wz.cell? ⟨g, i, none⟩ = some (.int .i64 (m : Int)) ∧ wz.cell? ⟨g5, i, none⟩ = some (.int .i64 X)) ((World.drew w5').setCell ⟨w7.heap.size + 1, m, none⟩ (.int .i64 X)) := ⟨(World.cell?_setCell_other _ _ _ _ (by simp <;> omega)).trans hHeld.1, (World.cell?_setCell_other _ _ _ _ (by simp <;> omega)).trans hHeld.2⟩
      refine hK.out _ _ (hK2) (fun hHeld => ?_)
      clear hK K
      refine wpAnyH_done (by kernel_rfl) ?_ _
      have BF : Hid (Below w6.heap.size w6 (w5'.setCell ⟨w7.heap.size + 1, m, none⟩ (.int .i64 X)).drew) := (BX.out.setCell (by show w6.heap.size ≤ w7.heap.size + 1; omega) _).drew
      have hF : ∀ b, b ≠ w7.heap.size + 1 → (w5'.setCell ⟨w7.heap.size + 1, m, none⟩ (.int .i64 X)).drew.heap[b]? = w5'.heap[b]? := fun b hb => Below.heap_setCell _ _ _ _ (by simpa using hb)
      have OF : Hid ((w5'.setCell ⟨w7.heap.size + 1, m, none⟩ (.int .i64 X)).drew.ownsRow w7.heap.size 3 1 (.slice (some ⟨g5, 0, none⟩) (i + 1) gc5) (i + 1) ((nsM len1 (i + 1)).map (Value.int .i64))) := rowg_frame OX.out (fun b e => hF b (by have e' : g5 = b := (by simpa [Value.ownBlock] using e); omega))
      have CF : Hid (∀ q, q < ls.length → (w5'.setCell ⟨w7.heap.size + 1, m, none⟩ (.int .i64 X)).drew.cell? ⟨w7.heap.size + 1, q, none⟩ = some (.int .i64 ((mvTo zs (nsM len1 ls.length) (i + 1)).getD q 0)) ∧ (w5'.setCell ⟨w7.heap.size + 1, m, none⟩ (.int .i64 X)).drew.frozen? ⟨w7.heap.size + 1, q, none⟩ = false) := (show ∀ q, q < ls.length → (w5'.setCell ⟨w7.heap.size + 1, m, none⟩ (.int .i64 X)).drew.cell? ⟨w7.heap.size + 1, q, none⟩ = some (.int .i64 ((mvTo zs (nsM len1 ls.length) (i + 1)).getD q 0)) ∧ (w5'.setCell ⟨w7.heap.size + 1, m, none⟩ (.int .i64 X)).drew.frozen? ⟨w7.heap.size + 1, q, none⟩ = false from fun q hq => by
        obtain ⟨d1, f1⟩ := CX.out q hq
        refine ⟨?_, (World.frozen?_setCell _ _ _ _).trans f1⟩
        rw [HMV.out, getD_set _ _ _ _ (by rw [HML.out]; exact hm)]
        by_cases hqm : m = q
        · subst hqm
          rw [if_pos rfl]
          exact World.cell?_setCell_same _ _ _ c0
        · rw [if_neg hqm]
          exact (World.cell?_setCell_other _ _ _ _ (by simp <;> omega)).trans d1)
      have SF : w7.heap.size + 1 < (w5'.setCell ⟨w7.heap.size + 1, m, none⟩ (.int .i64 X)).drew.heap.size := by simpa using hms5
      clear c0 f0 hHeld hF hgc hxc
      go_wp2
      exact ⟨⟨i + 1, g5, gc5, by omega, by simp, by simp, BF.out, OF.out, g5n, SF, CF.out⟩, by simp [intOf]; omega⟩
    · have hie : i = ls.length := by omega
      subst hie
      have HRS : Hid (∀ wz, Below wr.heap.size wr wz → GRep (Value.int .i64) wz (.slice (some ⟨ra, 0, none⟩) ls.length rc) (nsM len1 ls.length)) := (show ∀ wz, _ from fun wz hb => by
        have := row_rep1 (xs := (nsM len1 ls.length)) (f := Value.int .i64) (by rw [nsM_len]; exact HOR.out)
        rw [nsM_len] at this
        exact GRep.below hb this)
      have HTS : Hid (∀ wz, Below wr.heap.size wr wz → GRep (Value.int .i64) wz (.slice (some ⟨w7.heap.size + 1, 0, none⟩) ls.length ls.length) (mvTo zs (nsM len1 ls.length) ls.length)) := (show ∀ wz, _ from fun wz hb => by
        have hl : (mvTo zs (nsM len1 ls.length) ls.length).length = ls.length := (mvTo_len _ _ _).trans HZL.out
        refine GRep.below hb ⟨_, _, by rw [hl], by rw [hl]; exact Nat.le_refl _, by unfold maxLen; omega, fun q hq => ⟨w7.heap.size + 1, 0, rfl, ?_⟩⟩
        rw [Nat.zero_add, (HCE.out q (by omega)).1, List.getD_eq_getElem?_getD, List.getElem?_eq_getElem hq, Option.getD_some])
      have Brr : Below wr.heap.size wr wr := Below.refl _ _
      have KA : Hid _ := runOf_any (HAL.out _ HBR.out).1.1 (HAL.out _ HBR.out).1.2.1 (HRS.out wr Brr)
      rw [HN1.out, HRX.out] at KA
      clear Brr hsz hral hne hms
      go_wp2_with fail
      clear p0 p1
      (try go_at_call 31); refine Calls.mono KA.out ?_
      rintro e wa ⟨vxa, vxb, vxc, rfl, hb_wa, r_x⟩
      obtain ⟨xa, xac, ha⟩ := rowg_slice r_x.n
      obtain ⟨xb, xbc, hb⟩ := rowg_slice r_x.ws
      obtain ⟨xc, xcc, hc⟩ := rowg_slice r_x.ss
      subst ha hb hc
      have A_wb : Below wa.heap.size wa (wa.alloc (.cells #[.slice xa rx.n.length xac, .slice xb rx.ws.length xbc, .slice xc rx.ss.length xcc] 54)) := (Below.refl _ _).alloc (Nat.le_refl _) _
      have G_wb := C3.new wa (.slice xa rx.n.length xac) (.slice xb rx.ws.length xbc) (.slice xc rx.ss.length xcc) 54
      obtain ⟨wb, hwwb⟩ : ∃ W, wa.alloc (.cells #[.slice xa rx.n.length xac, .slice xb rx.ws.length xbc, .slice xc rx.ss.length xcc] 54) = W := ⟨_, rfl⟩
      rw [hwwb] at A_wb G_wb
      have HWwb : Hid _ := hwwb
      obtain ⟨v0, v1, v2⟩ := G_wb.1
      have HRx : Hid (∀ wz, Below wb.heap.size wb wz → (GRep (Value.int .i64) wz (.slice xa rx.n.length xac) rx.n ∧ LRep wz (.slice xb rx.ws.length xbc) rx.ws ∧ LRep wz (.slice xc rx.ss.length xcc) rx.ss) ∧ wz.cell? ⟨wa.heap.size, 0, none⟩ = some (.slice xa rx.n.length xac) ∧ wz.cell? ⟨wa.heap.size, 1, none⟩ = some (.slice xb rx.ws.length xbc) ∧ wz.cell? ⟨wa.heap.size, 2, none⟩ = some (.slice xc rx.ss.length xcc)) := (show ∀ wz, _ from fun wz hb => ⟨⟨(r_x.reps'.1.below A_wb).below hb, (r_x.reps'.2.1.below A_wb).below hb, (r_x.reps'.2.2.below A_wb).below hb⟩, cell_later hb v0, cell_later hb v1, cell_later hb v2⟩)
      have HBa : Hid (Below w6.heap.size w6 wa) := Below.then HBR.out hb_wa HBR.out.size
      have HBb : Hid (Below w6.heap.size w6 wb) := Below.then HBa.out A_wb HBa.out.size
      have HRb : Hid (Below wr.heap.size wr wb) := Below.then hb_wa A_wb hb_wa.size
      have KY : Hid _ := runOf_any (HAL.out _ HBb.out).2.2.1 (HAL.out _ HBb.out).2.2.2 (HTS.out wb HRb.out)
      rw [HN2.out, HRY.out] at KY
      obtain ⟨-, -, q0, q1⟩ := HGP.out wa HBa.out
      clear hwwb A_wb G_wb hb_wa r_x v0 v1 v2 KA
      go_wp2_with fail
      rw [HWwb.out]
      clear HWwb q0 q1
      (try go_at_call 31); refine Calls.mono KY.out ?_
      rintro e wc ⟨vya, vyb, vyc, rfl, hb_wc, r_y⟩
      obtain ⟨ya, yac, ha⟩ := rowg_slice r_y.n
      obtain ⟨yb, ybc, hb⟩ := rowg_slice r_y.ws
      obtain ⟨yc, ycc, hc⟩ := rowg_slice r_y.ss
      subst ha hb hc
      have A_wS : Below wc.heap.size wc (wc.alloc (.cells #[.slice ya ry.n.length yac, .slice yb ry.ws.length ybc, .slice yc ry.ss.length ycc] 54)) := (Below.refl _ _).alloc (Nat.le_refl _) _
      have G_wS := C3.new wc (.slice ya ry.n.length yac) (.slice yb ry.ws.length ybc) (.slice yc ry.ss.length ycc) 54
      obtain ⟨wS, hwwS⟩ : ∃ W, wc.alloc (.cells #[.slice ya ry.n.length yac, .slice yb ry.ws.length ybc, .slice yc ry.ss.length ycc] 54) = W := ⟨_, rfl⟩
      rw [hwwS] at A_wS G_wS
      have HWwS : Hid _ := hwwS
      obtain ⟨v0, v1, v2⟩ := G_wS.1
      have HRy : Hid (∀ wz, Below wS.heap.size wS wz → (GRep (Value.int .i64) wz (.slice ya ry.n.length yac) ry.n ∧ LRep wz (.slice yb ry.ws.length ybc) ry.ws ∧ LRep wz (.slice yc ry.ss.length ycc) ry.ss) ∧ wz.cell? ⟨wc.heap.size, 0, none⟩ = some (.slice ya ry.n.length yac) ∧ wz.cell? ⟨wc.heap.size, 1, none⟩ = some (.slice yb ry.ws.length ybc) ∧ wz.cell? ⟨wc.heap.size, 2, none⟩ = some (.slice yc ry.ss.length ycc)) := (show ∀ wz, _ from fun wz hb => ⟨⟨(r_y.reps'.1.below A_wS).below hb, (r_y.reps'.2.1.below A_wS).below hb, (r_y.reps'.2.2.below A_wS).below hb⟩, cell_later hb v0, cell_later hb v1, cell_later hb v2⟩)
      have HBc : Hid (Below w6.heap.size w6 wc) := Below.then HBb.out hb_wc HBb.out.size
      have HBS : Hid (Below w6.heap.size w6 wS) := Below.then HBc.out A_wS HBc.out.size
      have HbS : Hid (Below wb.heap.size wb wS) := Below.then hb_wc A_wS hb_wc.size
      have Hbc : Hid (Below wb.heap.size wb wc) := hb_wc
      clear hwwS A_wS G_wS hb_wc r_y v0 v1 v2 KY
      obtain ⟨-, x0, x1, x2⟩ := HRx.out wc Hbc.out
      go_wp2_with fail
      rw [HWwS.out]
      clear HWwS x0 x1 x2
      go_loopw [18] (fun j wr => ∃ (k : Nat), k ≤ ls.length ∧ j = .int .i64 k ∧ Below wS.heap.size wS wr) (fun j _ => ls.length - (intOf j).toNat)
      case atStart => exact ⟨0, by omega, rfl, Below.refl _ _⟩
      case round =>
        obtain ⟨k, hk, rfl, hbt⟩ := hrel
        have HBT : Hid (Below wS.heap.size wS wr) := hbt
        obtain ⟨-, x0, x1, x2⟩ := HRx.out wr (Below.then HbS.out hbt HbS.out.size)
        obtain ⟨-, y0, y1, y2⟩ := HRy.out wr hbt
        clear hbt
        by_cases hlk : k < ls.length
        · have k1' : (k : Int) < (zs.length : Int) := by have := HZL.out; omega
          have kx : k < rx.n.length := by have := HEQ.out.2.1; omega
          obtain ⟨hgc, zr0, zr1⟩ : wr.cell? ⟨g, k, none⟩ = some (.int .i64 (zs.getD k 0)) ∧ 0 ≤ zs.getD k 0 ∧ zs.getD k 0 < ls.length := by
            have hkz : k < zs.length := by have := HZL.out; omega
            have hb := row_getD (v := (k : Int)) HR3.out (by omega) (by omega)
            rw [Int.toNat_natCast] at hb
            obtain ⟨a', c', he, -, -, hcell⟩ := (HAL.out wr (Below.then HBS.out HBT.out HBS.out.size)).1.2.2
            obtain ⟨b, off, h1, h2⟩ := hcell k hkz
            simp only [Value.slice.injEq] at he
            have h3 := he.1.trans h1
            simp only [Option.some.injEq, Addr.mk.injEq] at h3
            obtain ⟨rfl, rfl, -⟩ := h3
            rw [Nat.zero_add] at h2
            exact ⟨by rw [h2, List.getD_eq_getElem?_getD, List.getElem?_eq_getElem hkz, Option.getD_some], hb⟩
          have hXY := HEQ.out.2.2.2 k hlk
          generalize zs.getD k 0 = y at hgc zr0 zr1 hXY
          obtain ⟨m, rfl⟩ := Int.eq_ofNat_of_zero_le zr0
          rw [Int.toNat_natCast] at hXY
          have hm : m < ry.n.length := by have := HEQ.out.2.2.1; omega
          obtain ⟨yb0, yo0, rfl, hyc⟩ : ∃ b off, ya = some ⟨b, off, none⟩ ∧ wr.cell? ⟨b, off + m, none⟩ = some (.int .i64 (ry.n.getD m 0)) := by
            obtain ⟨a', c', he, -, -, hcell⟩ := (HRy.out wr HBT.out).1.1
            obtain ⟨b, off, h1, h2⟩ := hcell m hm
            simp only [Value.slice.injEq] at he
            exact ⟨b, off, he.1.trans h1, by rw [h2, List.getD_eq_getElem?_getD, List.getElem?_eq_getElem hm, Option.getD_some]⟩
          obtain ⟨xb0, xo0, rfl, hxc⟩ : ∃ b off, xa = some ⟨b, off, none⟩ ∧ wr.cell? ⟨b, off + k, none⟩ = some (.int .i64 (rx.n.getD k 0)) := by
            obtain ⟨a', c', he, -, -, hcell⟩ := (HRx.out wr (Below.then HbS.out HBT.out HbS.out.size)).1.1
            obtain ⟨b, off, h1, h2⟩ := hcell k kx
            simp only [Value.slice.injEq] at he
            exact ⟨b, off, he.1.trans h1, by rw [h2, List.getD_eq_getElem?_getD, List.getElem?_eq_getElem kx, Option.getD_some]⟩
          rw [hXY] at hyc
          generalize rx.n.getD k 0 = X at hxc hyc
          have k2' : (k : Int) < (rx.n.length : Int) := by omega
          have k3' : (m : Int) < (ry.n.length : Int) := by omega
          have k4' : (0 : Int) ≤ (m : Int) := by omega
          clear hXY zr0 zr1
          go_wp2_with fail
          refine wp_region_held (S := (fun wz => Below wr.heap.size wr wz)) (by kernel_rfl) ?_
          change wpAnyH _ _ _ _ _ _ _ _ (World.drew _)
          have hHeld := (Below.refl wr.heap.size wr).drew
          refine' wpAnyH_take (i := 0) (v := _) rfl (by kernel_rfl) (by kernel_rfl) (by kernel_rfl) (fun _ _ _ h => h) (Or.inl ⟨by rfl, ?hy70011⟩) hHeld ?hn70011
          case hy70011 => (intro wz hSw; (try dsimp only at hSw); go_simp; first | done | with_reducible rfl)
          try simp only [nrm, Act.put]
          refine' wpAnyH_take (i := 1) (v := .slice (some ⟨yb0, yo0, none⟩) ry.n.length yac) rfl (by kernel_rfl) (by kernel_rfl) (by kernel_rfl) (fun _ _ _ h => h) (Or.inl ⟨by rfl, ?hy70012⟩) hHeld ?hn70012
          case hy70012 => (intro wz hSw; have j0 := cell_later hSw y0; go_simp; first | done | (simp; done) | (simp; omega) | omega)
          try simp only [nrm, Act.put]
          refine' wpAnyH_take (i := 2) (v := _) rfl (by kernel_rfl) (by kernel_rfl) (by kernel_rfl) (fun _ _ _ h => h) (Or.inl ⟨by rfl, ?hy70013⟩) hHeld ?hn70013
          case hy70013 => (intro wz hSw; (try dsimp only at hSw); go_simp; first | done | with_reducible rfl)
          try simp only [nrm, Act.put]
          refine' wpAnyH_take (i := 3) (v := _) rfl (by kernel_rfl) (by kernel_rfl) (by kernel_rfl) (fun _ _ _ h => h) (Or.inl ⟨by rfl, ?hy70014⟩) hHeld ?hn70014
          case hy70014 => (intro wz hSw; (try dsimp only at hSw); go_simp; first | done | with_reducible rfl)
          try simp only [nrm, Act.put]
          refine' wpAnyH_take (i := 4) (v := .pointer (some ⟨g, k, none⟩)) rfl (by kernel_rfl) (by kernel_rfl) (by kernel_rfl) (fun _ _ _ h => h) (Or.inl ⟨by rfl, ?hy70015⟩) hHeld ?hn70015
          case hy70015 => (intro wz hSw; go_simp; first | done | (simp; done) | (simp; omega) | omega)
          try simp only [nrm, Act.put]
          refine' wpAnyH_take (i := 5) (v := .int .i64 (m : Int)) rfl (by kernel_rfl) (by kernel_rfl) (by kernel_rfl) (fun _ _ _ h => h) (Or.inl ⟨by rfl, ?hy70016⟩) hHeld ?hn70016
          case hy70016 => (intro wz hSw; have j0 := cell_later hSw hgc; go_simp; first | done | (simp; done) | (simp; omega) | omega)
          try simp only [nrm, Act.put]
          refine' wpAnyH_take (i := 6) (v := .pointer (some ⟨yb0, yo0 + m, none⟩)) rfl (by kernel_rfl) (by kernel_rfl) (by kernel_rfl) (fun _ _ _ h => h) (Or.inl ⟨by rfl, ?hy70017⟩) hHeld ?hn70017
          case hy70017 => (intro wz hSw; go_simp; first | done | (simp; done) | (simp; omega) | omega)
          try simp only [nrm, Act.put]
          refine' wpAnyH_take (i := 7) (v := .int .i64 X) rfl (by kernel_rfl) (by kernel_rfl) (by kernel_rfl) (fun _ _ _ h => h) (Or.inl ⟨by rfl, ?hy70018⟩) hHeld ?hn70018
          case hy70018 => (intro wz hSw; have j0 := cell_later hSw hyc; go_simp; first | done | (simp; done) | (simp; omega) | omega)
          try simp only [nrm, Act.put]
          refine' wpAnyH_take (i := 8) (v := _) rfl (by kernel_rfl) (by kernel_rfl) (by kernel_rfl) (fun _ _ _ h => h) (Or.inl ⟨by rfl, ?hy70019⟩) hHeld ?hn70019
          case hy70019 => (intro wz hSw; (try dsimp only at hSw); go_simp; first | done | with_reducible rfl)
          try simp only [nrm, Act.put]
          refine' wpAnyH_take (i := 9) (v := .slice (some ⟨xb0, xo0, none⟩) rx.n.length xac) rfl (by kernel_rfl) (by kernel_rfl) (by kernel_rfl) (fun _ _ _ h => h) (Or.inl ⟨by rfl, ?hy70020⟩) hHeld ?hn70020
          case hy70020 => (intro wz hSw; have j0 := cell_later hSw x0; go_simp; first | done | (simp; done) | (simp; omega) | omega)
          try simp only [nrm, Act.put]
          refine' wpAnyH_take (i := 10) (v := _) rfl (by kernel_rfl) (by kernel_rfl) (by kernel_rfl) (fun _ _ _ h => h) (Or.inl ⟨by rfl, ?hy70021⟩) hHeld ?hn70021
          case hy70021 => (intro wz hSw; (try dsimp only at hSw); go_simp; first | done | with_reducible rfl)
          try simp only [nrm, Act.put]
          refine' wpAnyH_take (i := 11) (v := .pointer (some ⟨xb0, xo0 + k, none⟩)) rfl (by kernel_rfl) (by kernel_rfl) (by kernel_rfl) (fun _ _ _ h => h) (Or.inl ⟨by rfl, ?hy70022⟩) hHeld ?hn70022
          case hy70022 => (intro wz hSw; go_simp; first | done | (simp; done) | (simp; omega) | omega)
          try simp only [nrm, Act.put]
          refine' wpAnyH_take (i := 12) (v := .int .i64 X) rfl (by kernel_rfl) (by kernel_rfl) (by kernel_rfl) (fun _ _ _ h => h) (Or.inl ⟨by rfl, ?hy70023⟩) hHeld ?hn70023
          case hy70023 => (intro wz hSw; have j0 := cell_later hSw hxc; go_simp; first | done | (simp; done) | (simp; omega) | omega)
          try simp only [nrm, Act.put]
          refine' wpAnyH_take (i := 13) (v := .bool false) rfl (by kernel_rfl) (by kernel_rfl) (by kernel_rfl) (fun _ _ _ h => h) (Or.inl ⟨by rfl, ?hy70024⟩) hHeld ?hn70024
          case hy70024 => (intro wz hSw; go_simp; first | done | (simp; done) | (simp; omega) | omega)
          try simp only [nrm, Act.put]
          refine wpAnyH_done (by kernel_rfl) ?_ _
          have BD : Hid (Below wS.heap.size wS (World.drew wr)) := HBT.out.drew
          clear hHeld x0 x1 x2 y0 y1 y2 hgc hxc hyc
          go_wp2
          exact ⟨⟨k + 1, by omega, by simp, BD.out⟩, by simp [intOf]; omega⟩
        · have hke : k = ls.length := by omega
          subst hke
          have k1' : ¬ ((ls.length : Int) < (zs.length : Int)) := by have := HZL.out; omega
          have HSR : Hid (Below wS.heap.size wS wr) := HBT.out
          go_wp2_with fail
          clear x0 x1 x2 y0 y1 y2 k1' HBT
          go_loopw [19] (fun j wr => ∃ (k : Nat), k ≤ 3 ∧ j = .int .i64 k ∧ Below wS.heap.size wS wr) (fun j _ => 3 - (intOf j).toNat)
          case atStart => exact ⟨0, by omega, rfl, HSR.out⟩
          case round =>
            obtain ⟨k, hk, rfl, hbt⟩ := hrel
            have HBT : Hid (Below wS.heap.size wS wr) := hbt
            obtain ⟨-, x0, x1, x2⟩ := HRx.out wr (Below.then HbS.out hbt HbS.out.size)
            obtain ⟨-, y0, y1, y2⟩ := HRy.out wr hbt
            clear hbt
            by_cases hlk : k < 3
            · have k1' : (k : Int) < 3 := by omega
              go_wp2_with fail
              refine wp_region_held (S := (fun wz => Below wr.heap.size wr wz)) (by kernel_rfl) ?_
              change wpAnyH _ _ _ _ _ _ _ _ (World.drew _)
              have hHeld := (Below.refl wr.heap.size wr).drew
              refine' wpAnyH_take (i := 0) (v := .agg #[.slice xa rx.n.length xac, .slice xb rx.ws.length xbc, .slice xc rx.ss.length xcc]) rfl (by kernel_rfl) (by kernel_rfl) (by kernel_rfl) (fun _ _ _ h => h) (Or.inl ⟨by rfl, ?hy70025⟩) hHeld ?hn70025
              case hy70025 => (intro wz hSw; have j0 := cell_later hSw x0; have j1 := cell_later hSw x1; have j2 := cell_later hSw x2; go_simp; first | done | (simp; done) | (simp; omega) | omega)
              try simp only [nrm, Act.put]
              refine' wpAnyH_take (i := 1) (v := _) rfl (by kernel_rfl) (by kernel_rfl) (by kernel_rfl) (fun _ _ _ h => h) (Or.inl ⟨by rfl, ?hy70026⟩) hHeld ?hn70026
              case hy70026 => (intro wz hSw; (try dsimp only at hSw); go_simp; first | done | with_reducible rfl)
              try simp only [nrm, Act.put]
              refine' wpAnyH_take (i := 3) (v := .agg #[.slice ya ry.n.length yac, .slice yb ry.ws.length ybc, .slice yc ry.ss.length ycc]) rfl (by kernel_rfl) (by kernel_rfl) (by kernel_rfl) (fun _ _ _ h => h) (Or.inl ⟨by rfl, ?hy70027⟩) hHeld ?hn70027
              case hy70027 => (intro wz hSw; have j0 := cell_later hSw y0; have j1 := cell_later hSw y1; have j2 := cell_later hSw y2; go_simp; first | done | (simp; done) | (simp; omega) | omega)
              try simp only [nrm, Act.put]
              refine' wpAnyH_take (i := 4) (v := _) rfl (by kernel_rfl) (by kernel_rfl) (by kernel_rfl) (fun _ _ _ h => h) (Or.inl ⟨by rfl, ?hy70028⟩) hHeld ?hn70028
              case hy70028 => (intro wz hSw; (try dsimp only at hSw); go_simp; first | done | with_reducible rfl)
              try simp only [nrm, Act.put]
              refine wpAnyH_ready (rs := [2]) (by kernel_rfl) (by simp) ?_
              refine AllReadyH.cons rfl (fun K hK => ?_) AllReadyH.nil
              go_simp
              refine Calls.mono (runTo_any (k : Int) (HRx.out _ (Below.then HbS.out (Below.then HBT.out hHeld HBT.out.size) HbS.out.size)).1.2.2 HFX.out) ?_; rintro e' y1' ⟨tx, bx', rfl, hbx, otx, -⟩; have hK2 := Below.then hHeld hbx hHeld.size; have GX := otx.rep; clear otx
              refine hK.out _ _ (hK2) (fun hHeld => ?_)
              clear hK K
              refine wpAnyH_ready (rs := [5]) (by kernel_rfl) (by simp) ?_
              refine AllReadyH.cons rfl (fun K hK => ?_) AllReadyH.nil
              go_simp
              refine Calls.mono (runTo_any (k : Int) (HRy.out _ (Below.then HBT.out hHeld HBT.out.size)).1.2.2 (by rw [HEQ.out.1]; exact HFX.out)) ?_; rintro e' y2' ⟨ty, by', rfl, hbx, oty, -⟩; have hK2 := Below.then hHeld hbx hHeld.size; have GY := oty.rep; rw [HEQ.out.1] at GY; replace GX := GX.below hbx; clear oty; obtain ⟨txa, txc, rfl, -⟩ := id GX; obtain ⟨tya, tyc, rfl, -⟩ := id GY
              refine hK.out _ _ (hK2) (fun hHeld => ?_)
              clear hK K
              refine wpAnyH_ready (rs := [6]) (by kernel_rfl) (by simp) ?_
              refine AllReadyH.cons rfl (fun K hK => ?_) AllReadyH.nil
              go_simp
              refine Calls.mono (lcInts_any GX GY) ?_; rintro e' y3' ⟨rfl, hbx⟩; rw [decide_eq_true rfl]; have hK2 := Below.then hHeld hbx hHeld.size
              refine hK.out _ _ (hK2) (fun hHeld => ?_)
              clear hK K
              refine' wpAnyH_take (i := 7) (v := _) rfl (by kernel_rfl) (by kernel_rfl) (by kernel_rfl) (fun _ _ _ h => h) (Or.inl ⟨by rfl, ?hy70029⟩) hHeld ?hn70029
              case hy70029 => (intro wz hSw; (try dsimp only at hSw); go_simp; first | done | with_reducible rfl)
              try simp only [nrm, Act.put]
              refine wpAnyH_done (by kernel_rfl) ?_ _
              have BF : Hid (Below wS.heap.size wS y3') := (Below.then HBT.out hHeld HBT.out.size)
              clear hHeld x0 x1 x2 y0 y1 y2 GX GY
              go_wp2
              exact ⟨⟨k + 1, by omega, by simp, BF.out⟩, by simp [intOf]; omega⟩
            · have hke : k = 3 := by omega
              subst hke
              have B5 : Hid (Below w6.heap.size w6 wr) := Below.then HBS.out HBT.out HBS.out.size
              clear x0 x1 x2 y0 y1 y2
              go_wp2
              go_ret
              exact ⟨by simp, Below.then HB6.out B5.out HB6.out.size⟩

end Go.Proofs.Ytfmhdjnambnglaa

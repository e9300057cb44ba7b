/- A program is done step by step: the law, walked. -/
import Derived.Test.YtepacahfpbedoaaPrl
import Derived.Test.YtepacahfpbedoaaLcx
import Derived.Test.YtepacahfpbedoaaCst
import Derived.Test.YtepacahfpbedoaaCtl
import Derived.Test.YtepacahfpbedoaaSml
import Derived.Test.YtepacahfpbedoaaBnl
namespace Go.Proofs.Ytepacahfpbedoaa
open Go.RowKit
set_option linter.unusedSimpArgs false
set_option linter.unusedVariables false
attribute [local go_sem ↓] Go.wp_at_zero Go.wp_at_succ
attribute [local go_sem] World.cell?_alloc_some

/-- What is known of a frame's slots. -/
def Knows (t : Array Value) : List (Nat × Value) → Prop
  | [] => True
  | p :: r => t[p.1]? = some p.2 ∧ Knows t r
theorem Knows.get {t : Array Value} : ∀ {kn : List (Nat × Value)}, Knows t kn → ∀ p ∈ kn, t[p.1]? = some p.2
  | [], _, _, hp => by cases hp
  | q :: r, h, p, hp => by
    rcases List.mem_cons.1 hp with rfl | hp
    · exact h.1
    · exact Knows.get h.2 p hp
def ActIs (a : Act) (kn : List (Nat × Value)) : Prop := a.defers = [] ∧ a.tmps.size = 121 ∧ Knows a.tmps kn
theorem actIs_open {a : Act} {kn : List (Nat × Value)} (h : ActIs a kn) : ∃ u : Nat → Value, a = { tmps := #[u 0, u 1, u 2, u 3, u 4, u 5, u 6, u 7, u 8, u 9, u 10, u 11, u 12, u 13, u 14, u 15, u 16, u 17, u 18, u 19, u 20, u 21, u 22, u 23, u 24, u 25, u 26, u 27, u 28, u 29, u 30, u 31, u 32, u 33, u 34, u 35, u 36, u 37, u 38, u 39, u 40, u 41, u 42, u 43, u 44, u 45, u 46, u 47, u 48, u 49, u 50, u 51, u 52, u 53, u 54, u 55, u 56, u 57, u 58, u 59, u 60, u 61, u 62, u 63, u 64, u 65, u 66, u 67, u 68, u 69, u 70, u 71, u 72, u 73, u 74, u 75, u 76, u 77, u 78, u 79, u 80, u 81, u 82, u 83, u 84, u 85, u 86, u 87, u 88, u 89, u 90, u 91, u 92, u 93, u 94, u 95, u 96, u 97, u 98, u 99, u 100, u 101, u 102, u 103, u 104, u 105, u 106, u 107, u 108, u 109, u 110, u 111, u 112, u 113, u 114, u 115, u 116, u 117, u 118, u 119, u 120], defers := [] } ∧ ∀ i v, (i, v) ∈ kn → u i = v := by
  obtain ⟨t, df⟩ := a
  obtain ⟨h0, h1, h2⟩ := h
  simp only at h0 h1 h2
  subst h0
  refine ⟨fun i => t.getD i undef, ?_, fun i v hi => ?_⟩
  · have e : t = ((List.range 121).map (fun i => t.getD i undef)).toArray := by
      refine Array.ext (by simp [h1]) (fun i g1 g2 => ?_)
      simp [Array.getD, g1]
    exact congrArg (fun x => ({ tmps := x, defers := [] } : Act)) e
  · have := h2.get _ hi
    simp at this
    simp [Array.getD_eq_getD_getElem?, this]

set_option maxHeartbeats 8000000 in
set_option maxRecDepth 20000 in
theorem fnRunCut_walk (a0 : Option Addr) (len0 cap0 : Nat) (z0 : List Int) (a1 : Option Addr) (len1 cap1 : Nat) (z1 : List Int) (w : World) (h0 : IsRow .u8 w a0 len0 cap0 z0) (h1 : IsRow .u8 w a1 len1 cap1 z1) :
    Calls Try.prog 5 #[.slice a0 len0 cap0, .slice a1 len1 cap1] w fun e w' => e = .returned (.bool true) ∧ Below w.heap.size w w' := by
  by_cases hl0 : (1048576 : Int) < (len0 : Int)
  · go_enter Try.func5, Try.ntmps5
    go_wp2
    go_ret
    exact ⟨rfl, Below.refl _ _⟩
  by_cases hl1 : (1048576 : Int) < (len1 : Int)
  · go_enter Try.func5, Try.ntmps5
    go_wp2
    go_ret
    exact ⟨rfl, Below.refl _ _⟩
  have hrow1 : len1 ≤ maxLen := (by unfold maxLen; omega)
  have C1 : Hid _ := drawRunOf_any w a0 len0 cap0 z0 h0
  clear h0 h1
  go_enter Try.func5, Try.ntmps5
  go_wp2_with fail
  go_at_call 16; refine Calls.mono C1.out ?_
  rintro e w1 ⟨lv, sv, nv, ls, d, l, zs, rfl, hLp, hRp, ⟨hN, ad, nc, rfl, -⟩, ll, cn, hb1⟩
  have hL := hLp.rep
  have hR := hRp.rep
  obtain ⟨la, lc, rfl, -⟩ := id hL
  obtain ⟨sa, sc, rfl⟩ := hR.slice
  have HLR : Hid (∀ wz, Below w1.heap.size w1 wz → LRep wz (.slice la ls.length lc) ls ∧ Rep wz (d + 1) (.slice sa (ln (d + 1) (l : List (Pay × Tr d × Tr d))) sc) (l : List (Pay × Tr d × Tr d)) ∧ GRep (Value.int .i64) wz (.slice (some ad) zs.length nc) zs) := (show ∀ wz, _ from fun wz hb => ⟨hL.below hb, hR.below hb, hN.below hb⟩)
  have HB1 : Hid (Below w.heap.size w w1) := hb1
  have A : Below w1.heap.size w1 (w1.alloc (.cells #[.slice la ls.length lc, .slice sa (ln (d + 1) (l : List (Pay × Tr d × Tr d))) sc] 26)) := (Below.refl _ _).alloc (Nat.le_refl _) _
  have G2 := C2.new w1 (.slice la ls.length lc) (.slice sa (ln (d + 1) (l : List (Pay × Tr d × Tr d))) sc) 26
  generalize hw2 : w1.alloc (.cells #[.slice la ls.length lc, .slice sa (ln (d + 1) (l : List (Pay × Tr d × Tr d))) sc] 26) = w2 at A G2
  have HW2 : Hid _ := hw2
  have HA : Hid (Below w1.heap.size w1 w2) := A
  have K2 : Hid _ := sRunOf_any (HLR.out w2 A).1 (HLR.out w2 A).2.1 (by omega) (HLR.out w2 A).2.2
  have HG2 : Hid (C2 w2 w1.heap.size (.slice la ls.length lc) (.slice sa (ln (d + 1) (l : List (Pay × Tr d × Tr d))) sc)) := G2
  obtain ⟨nb, hnb⟩ : ∃ nb, numsB ls (d + 1) (l : List (Pay × Tr d × Tr d)) zs = nb := ⟨_, rfl⟩
  obtain ⟨rs, hrs⟩ : ∃ rs, runS ls (d + 1) (l : List (Pay × Tr d × Tr d)) zs = rs := ⟨_, rfl⟩
  rw [hnb, hrs] at K2
  have HNB : Hid _ := hnb
  have HRS : Hid _ := hrs
  clear hLp hRp hb1 C1 A G2 hw2 hnb hrs hL hR hN
  go_wp2_with fail
  rw [HW2.out]
  go_at_call 17; refine Calls.mono K2.out ?_
  rintro e w3 ⟨vya, vyb, vyc, rfl, hb3, r3⟩
  obtain ⟨ya, yac, ha⟩ := rowg_slice r3.n
  obtain ⟨yb, ybc, hb⟩ := rowg_slice r3.ws
  obtain ⟨yc, ycc, hc⟩ := rowg_slice r3.ss
  subst ha hb hc
  have HB3 : Hid (Below w1.heap.size w1 w3) := Below.then HA.out hb3 HA.out.size
  have z2 : w1.heap.size < w2.heap.size := C2.lt' HG2.out
  have z3 : w1.heap.size < w3.heap.size := by have := hb3.size; omega
  have G3 := HG2.out.same (hb3.block _ z2)
  have HG3 : Hid (C2 w3 w1.heap.size (.slice la ls.length lc) (.slice sa (ln (d + 1) (l : List (Pay × Tr d × Tr d))) sc)) := G3
  have HY3 : Hid (GRep (Value.int .i64) w3 (.slice ya rs.n.length yac) rs.n ∧ LRep w3 (.slice yb rs.ws.length ybc) rs.ws ∧ LRep w3 (.slice yc rs.ss.length ycc) rs.ss) := r3.reps
  have A4 : Below w3.heap.size w3 (w3.alloc (.cells #[.slice ya rs.n.length yac, .slice yb rs.ws.length ybc, .slice yc rs.ss.length ycc] 44)) := (Below.refl _ _).alloc (Nat.le_refl _) _
  have G4 := C3.new w3 (.slice ya rs.n.length yac) (.slice yb rs.ws.length ybc) (.slice yc rs.ss.length ycc) 44
  generalize hw4 : w3.alloc (.cells #[.slice ya rs.n.length yac, .slice yb rs.ws.length ybc, .slice yc rs.ss.length ycc] 44) = w4 at A4 G4
  have HW4 : Hid _ := hw4
  have HG4 : Hid (C3 w4 w3.heap.size (.slice ya rs.n.length yac) (.slice yb rs.ws.length ybc) (.slice yc rs.ss.length ycc)) := G4
  have HA4 : Hid (Below w3.heap.size w3 w4) := A4
  have HB4 : Hid (Below w1.heap.size w1 w4) := Below.then HB3.out A4 HB3.out.size
  have K4 : Hid _ := runOf_any (HLR.out w4 HB4.out).1 (HLR.out w4 HB4.out).2.1 (HLR.out w4 HB4.out).2.2
  rw [HNB.out, HRS.out] at K4
  obtain ⟨⟨p0, p1⟩, -⟩ := G3
  clear hb3 K2 HG2 HA HW2 z2 r3 A4 G4 hw4
  go_wp2_with fail
  rw [HW4.out]
  go_at_call 18; refine Calls.mono K4.out ?_
  rintro e w5 ⟨vxa, vxb, vxc, rfl, hb5, r5⟩
  obtain ⟨xa, xac, ha⟩ := rowg_slice r5.n
  obtain ⟨xb, xbc, hb⟩ := rowg_slice r5.ws
  obtain ⟨xc, xcc, hc⟩ := rowg_slice r5.ss
  subst ha hb hc
  clear p0 p1
  have HB45 : Hid (Below w4.heap.size w4 w5) := hb5
  have HB35 : Hid (Below w3.heap.size w3 w5) := Below.then HA4.out hb5 HA4.out.size
  have HB5 : Hid (Below w1.heap.size w1 w5) := Below.then HB4.out hb5 HB4.out.size
  have HX5 : Hid (GRep (Value.int .i64) w5 (.slice xa rs.n.length xac) rs.n ∧ LRep w5 (.slice xb rs.ws.length xbc) rs.ws ∧ LRep w5 (.slice xc rs.ss.length xcc) rs.ss) := r5.reps
  have G5 : C3 w5 w3.heap.size (.slice ya rs.n.length yac) (.slice yb rs.ws.length ybc) (.slice yc rs.ss.length ycc) := HG4.out.below hb5
  have HG5 : Hid (C3 w5 w3.heap.size (.slice ya rs.n.length yac) (.slice yb rs.ws.length ybc) (.slice yc rs.ss.length ycc)) := G5
  have z5 : w3.heap.size < w5.heap.size := C3.lt G5
  have A6 : Below w5.heap.size w5 (w5.alloc (.cells #[.slice xa rs.n.length xac, .slice xb rs.ws.length xbc, .slice xc rs.ss.length xcc] 44)) := (Below.refl _ _).alloc (Nat.le_refl _) _
  have G6 := C3.new w5 (.slice xa rs.n.length xac) (.slice xb rs.ws.length xbc) (.slice xc rs.ss.length xcc) 44
  generalize hw6 : w5.alloc (.cells #[.slice xa rs.n.length xac, .slice xb rs.ws.length xbc, .slice xc rs.ss.length xcc] 44) = w6 at A6 G6
  have HW6 : Hid _ := hw6
  have HG6 : Hid (C3 w6 w5.heap.size (.slice xa rs.n.length xac) (.slice xb rs.ws.length xbc) (.slice xc rs.ss.length xcc)) := G6
  have HA6 : Hid (Below w5.heap.size w5 w6) := A6
  have HB6 : Hid (Below w1.heap.size w1 w6) := Below.then HB5.out A6 HB5.out.size
  have HB36 : Hid (Below w3.heap.size w3 w6) := Below.then HB35.out A6 HB35.out.size
  have K6 : Hid _ := lcRun_same (HX5.out.1.below A6) (HX5.out.2.1.below A6) (HX5.out.2.2.below A6) (HY3.out.1.below HB36.out) (HY3.out.2.1.below HB36.out) (HY3.out.2.2.below HB36.out)
  obtain ⟨⟨y0, y1, y2⟩, -⟩ := G5
  clear hb5 K4 HW4 r5 A6 G6 hw6 HB35
  cases nb
  · go_wp2_with fail
    rw [HW6.out]
    go_at_call 19; refine Calls.mono K6.out ?_
    rintro e w7 ⟨rfl, hb7⟩
    have HB7 : Hid (Below w1.heap.size w1 w7) := Below.then HB6.out hb7 HB6.out.size
    have HB57 : Hid (Below w5.heap.size w5 w7) := Below.then HA6.out hb7 HA6.out.size
    have HB37 : Hid (Below w3.heap.size w3 w7) := Below.then HB36.out hb7 HB36.out.size
    obtain ⟨⟨x0, x1, x2⟩, -⟩ := C3.below HG6.out hb7
    obtain ⟨⟨v0, v1, v2⟩, -⟩ := C3.below HG5.out HB57.out
    have K7 : Hid _ := lcRun_same (HX5.out.1.below HB57.out) (HX5.out.2.1.below HB57.out) (HX5.out.2.2.below HB57.out) (HY3.out.1.below HB37.out) (HY3.out.2.1.below HB37.out) (HY3.out.2.2.below HB37.out)
    clear hb7 y0 y1 y2 K6
    go_wp2_with fail
    go_at_call 19; refine Calls.mono K7.out ?_
    rintro e w8 ⟨rfl, hb8⟩
    have HB8 : Hid (Below w.heap.size w w8) := Below.then HB1.out (Below.then HB7.out hb8 HB7.out.size) HB1.out.size
    clear hb8 x0 x1 x2 v0 v1 v2 K7
    go_wp2
    go_ret
    exact ⟨rfl, HB8.out⟩
  go_wp2_with fail
  rw [HW6.out]
  go_at_call 19; refine Calls.mono K6.out ?_
  rintro e w7 ⟨rfl, hb7⟩
  have HB7 : Hid (Below w.heap.size w w7) := Below.then HB1.out (Below.then HB6.out hb7 HB6.out.size) HB1.out.size
  have HB57 : Hid (Below w5.heap.size w5 w7) := Below.then HA6.out hb7 HA6.out.size
  have HB17 : Hid (Below w1.heap.size w1 w7) := Below.then HB6.out hb7 HB6.out.size
  have HR7 : Hid (Ran w7 w1.heap.size w5.heap.size (.slice la ls.length lc) (.slice sa (ln (d + 1) (l : List (Pay × Tr d × Tr d))) sc) (.slice (some ad) zs.length nc) (.slice xa rs.n.length xac) (.slice xb rs.ws.length xbc) (.slice xc rs.ss.length xcc) ls d l zs rs) := ⟨(HLR.out w7 HB17.out).1, (HLR.out w7 HB17.out).2.1, (HLR.out w7 HB17.out).2.2, HG3.out.same ((HB57.out.block _ (by omega)).trans ((HB45.out.block _ (Nat.lt_of_lt_of_le z3 HA4.out.size)).trans (HA4.out.block _ z3))), C3.below HG6.out hb7, HX5.out.1.below HB57.out, HX5.out.2.1.below HB57.out, HX5.out.2.2.below HB57.out⟩
  have HDO : Hid (rs = doT (d + 1) (l : List (Pay × Tr d × Tr d)) ⟨zs, [], []⟩) := (show rs = _ by rw [← HRS.out]; unfold runS; rw [HNB.out]; rfl)
  clear hb7 y0 y1 y2 K6 HW6 HG6 HA6 HB6 HB36 HG5 HB57 HB17 HX5 HY3 HG4 HA4 HB45 HB4 HB3 HG3 HLR HB1 HB5 HRS z3 z5
  obtain ⟨hpb, hzl, hten⟩ := numsB_parts HNB.out
  obtain ⟨hls4, hlabs, hst, hcnt⟩ := progB_parts hpb
  have hlc : ln (d + 1) (l : List (Pay × Tr d × Tr d)) ≤ 8 := Nat.le_trans (ln_le_cnt _ _) hcnt
  have hw1 := w64 ((ln (d + 1) (l : List (Pay × Tr d × Tr d)) : Int) + 1) (by omega)
  have hmod : (len1 : Int).tmod ((ln (d + 1) (l : List (Pay × Tr d × Tr d)) : Int) + 1) = ((len1 % (ln (d + 1) (l : List (Pay × Tr d × Tr d)) + 1) : Nat) : Int) := by rw [Int.tmod_eq_emod_of_nonneg (by omega)]; rfl
  have hcut : len1 % (ln (d + 1) (l : List (Pay × Tr d × Tr d)) + 1) ≤ ln (d + 1) (l : List (Pay × Tr d × Tr d)) := by have := Nat.mod_lt len1 (show 0 < ln (d + 1) (l : List (Pay × Tr d × Tr d)) + 1 by omega); omega
  obtain ⟨cut, hcute⟩ : ∃ c, len1 % (ln (d + 1) (l : List (Pay × Tr d × Tr d)) + 1) = c := ⟨_, rfl⟩
  rw [hcute] at hmod hcut
  clear hcute
  have hnz : ¬ (ln (d + 1) (l : List (Pay × Tr d × Tr d)) : Int) + 1 = 0 := by omega
  have hwm := w64 (cut : Int) (by omega)
  have hsc : ln (d + 1) (l : List (Pay × Tr d × Tr d)) ≤ sc := by
    obtain ⟨a', c', hs, h1, -, -⟩ := HR7.out.T
    simp only [Value.slice.injEq] at hs
    have : ln (d + 1) (l : List (Pay × Tr d × Tr d)) = l.length := rfl
    omega
  obtain ⟨VB, hVR, hVB⟩ := rep_cut (k := cut) HR7.out.T hcut
  obtain ⟨vba, vbl, vbc, hVS⟩ : ∃ a n c, VB = .slice a n c := by rcases hVB with ⟨_, _, h⟩ | ⟨_, _, _, h⟩ <;> exact ⟨_, _, _, h⟩
  subst hVS
  have HRP : Hid (∀ wz, Below w7.heap.size w7 wz → Rep wz (d + 1) (.slice sa cut sc) (l.take cut : List (Pay × Tr d × Tr d)) ∧ Rep wz (d + 1) (.slice vba vbl vbc) (l.drop cut : List (Pay × Tr d × Tr d))) := (show ∀ wz, _ from fun wz hb => hVR wz (fun _ _ h => cell_later hb h))
  have HCS : Hid ((cut = 0 ∧ ln (d + 1) (l : List (Pay × Tr d × Tr d)) = 0 ∧ Value.slice vba vbl vbc = .slice sa (ln (d + 1) (l : List (Pay × Tr d × Tr d))) sc) ∨ ∃ b off, sa = some ⟨b, off, none⟩ ∧ Value.slice vba vbl vbc = .slice (some (if sc = cut then ⟨b, off, none⟩ else ⟨b, off + cut * 8, none⟩)) (ln (d + 1) (l : List (Pay × Tr d × Tr d)) - cut) (sc - cut)) := hVB
  have HCL : Hid (cut ≤ sc ∧ cut ≤ ln (d + 1) (l : List (Pay × Tr d × Tr d)) ∧ (0 : Int) ≤ (cut : Int) ∧ (cut : Int) ≤ (sc : Int) ∧ (cut : Int) ≤ (ln (d + 1) (l : List (Pay × Tr d × Tr d)) : Int) ∧ (ln (d + 1) (l : List (Pay × Tr d × Tr d)) : Int) ≤ (sc : Int)) := (show cut ≤ sc ∧ cut ≤ ln (d + 1) (l : List (Pay × Tr d × Tr d)) ∧ (0 : Int) ≤ (cut : Int) ∧ (cut : Int) ≤ (sc : Int) ∧ (cut : Int) ≤ (ln (d + 1) (l : List (Pay × Tr d × Tr d)) : Int) ∧ (ln (d + 1) (l : List (Pay × Tr d × Tr d)) : Int) ≤ (sc : Int) by omega)
  obtain ⟨hp1, hp2⟩ := progB_cut hpb cut
  have HN1 : Hid (numsB ls (d + 1) (l.take cut : List (Pay × Tr d × Tr d)) zs = true) := (show numsB ls (d + 1) (l.take cut : List (Pay × Tr d × Tr d)) zs = true by unfold numsB; rw [hp1]; simp [hzl, hten])
  obtain ⟨s1, hs1⟩ : ∃ s, runS ls (d + 1) (l.take cut : List (Pay × Tr d × Tr d)) zs = s := ⟨_, rfl⟩
  have HS1 : Hid _ := hs1
  have hd1 : s1 = doT (d + 1) (l.take cut : List (Pay × Tr d × Tr d)) ⟨zs, [], []⟩ := by rw [← hs1]; unfold runS; rw [HN1.out]; rfl
  have ok1 := doT_ok (d + 1) (l.take cut : List (Pay × Tr d × Tr d)) ls.length 3 ⟨zs, [], []⟩ (progB_parts hp1).2.2.1 hzl hten
  rw [← hd1] at ok1
  have HN2 : Hid (numsB ls (d + 1) (l.drop cut : List (Pay × Tr d × Tr d)) s1.n = true) := (show numsB ls (d + 1) (l.drop cut : List (Pay × Tr d × Tr d)) s1.n = true by unfold numsB; rw [hp2]; simp [ok1.1, ok1.2.1])
  obtain ⟨s2, hs2⟩ : ∃ s, runS ls (d + 1) (l.drop cut : List (Pay × Tr d × Tr d)) s1.n = s := ⟨_, rfl⟩
  have HS2 : Hid _ := hs2
  have hd2 : s2 = doT (d + 1) (l.drop cut : List (Pay × Tr d × Tr d)) ⟨s1.n, [], []⟩ := by rw [← hs2]; unfold runS; rw [HN2.out]; rfl
  have HEQ : Hid (rs = ⟨s2.n, s1.ws ++ s2.ws, s1.ss ++ s2.ss⟩) := (show rs = ⟨s2.n, s1.ws ++ s2.ws, s1.ss ++ s2.ss⟩ by
    rw [HDO.out, doT_cut l cut zs, ← hd1, ← hd2])
  have HLN : Hid (s1.ws.length ≤ 8 ∧ s1.ss.length ≤ 8 ∧ s2.ws.length ≤ 8 ∧ s2.ss.length ≤ 8) := (show s1.ws.length ≤ 8 ∧ s1.ss.length ≤ 8 ∧ s2.ws.length ≤ 8 ∧ s2.ss.length ≤ 8 by
    have h1 := doT_both (d + 1) (l.take cut : List (Pay × Tr d × Tr d)) ⟨zs, [], []⟩
    have h2 := doT_both (d + 1) (l.drop cut : List (Pay × Tr d × Tr d)) ⟨s1.n, [], []⟩
    rw [← hd1] at h1
    rw [← hd2] at h2
    have h3 := (progB_parts hp1).2.2.2
    have h4 := (progB_parts hp2).2.2.2
    simp at h1 h2
    omega)
  obtain ⟨⟨kp0, kp1⟩, -⟩ := HR7.out.p
  clear hpb hzl hten hls4 hlabs hst hcnt hlc hVR hVB hp1 hp2 hs1 hs2 hd1 hd2 ok1 hcut hsc
  go_upto_region 9 with fail
  refine Code.wp_mono (Q := fun e a x => e = .normal ∧ ∃ (yb : Nat), ActIs a [(5, .pointer (some ⟨w1.heap.size, 0, none⟩)), (6, .slice (some ad) zs.length nc), (9, .pointer (some ⟨w5.heap.size, 0, none⟩)), (11, .int .i64 (cut : Int)), (12, .pointer (some ⟨yb, 0, none⟩)), (13, .bool true)] ∧ Below w7.heap.size w7 x ∧ RBox x yb s1) ?hq ?hr
  case hr =>
    refine wp_region_held (S := (fun wz => Below w7.heap.size w7 wz)) (by kernel_rfl) ?_
    change wpAnyH _ _ _ _ _ _ _ _ (World.drew _)
    have hHeld := (Below.refl w7.heap.size w7).drew
    refine' wpAnyH_take (i := 0) (v := _) rfl (by kernel_rfl) (by kernel_rfl) (by kernel_rfl) (fun _ _ _ h => by cases h.1) (Or.inl ⟨by rfl, ?hy901⟩) hHeld ?hn901
    case hy901 => (intro wz hSw; go_simp; first | done | with_reducible rfl)
    try simp only [List.getElem_toArray, List.getElem_cons_zero, List.getElem_cons_succ, Act.put, List.setIfInBounds_toArray, List.set_cons_zero, List.set_cons_succ]
    refine' wpAnyH_take (i := 1) (v := (.slice la ls.length lc)) rfl (by kernel_rfl) (by kernel_rfl) (by kernel_rfl) (fun _ _ _ h => by cases h.1) (Or.inl ⟨by rfl, ?hy902⟩) hHeld ?hn902
    case hy902 => (intro wz hSw; have k0 := cell_later hSw kp0; go_simp)
    try simp only [List.getElem_toArray, List.getElem_cons_zero, List.getElem_cons_succ, Act.put, List.setIfInBounds_toArray, List.set_cons_zero, List.set_cons_succ]
    refine' wpAnyH_take (i := 2) (v := _) rfl (by kernel_rfl) (by kernel_rfl) (by kernel_rfl) (fun _ _ _ h => by cases h.1) (Or.inl ⟨by rfl, ?hy903⟩) hHeld ?hn903
    case hy903 => (intro wz hSw; go_simp; first | done | with_reducible rfl)
    try simp only [List.getElem_toArray, List.getElem_cons_zero, List.getElem_cons_succ, Act.put, List.setIfInBounds_toArray, List.set_cons_zero, List.set_cons_succ]
    refine' wpAnyH_take (i := 3) (v := (.slice sa (ln (d + 1) (l : List (Pay × Tr d × Tr d))) sc)) rfl (by kernel_rfl) (by kernel_rfl) (by kernel_rfl) (fun _ _ _ h => by cases h.1) (Or.inl ⟨by rfl, ?hy904⟩) hHeld ?hn904
    case hy904 => (intro wz hSw; have k0 := cell_later hSw kp1; go_simp)
    try simp only [List.getElem_toArray, List.getElem_cons_zero, List.getElem_cons_succ, Act.put, List.setIfInBounds_toArray, List.set_cons_zero, List.set_cons_succ]
    refine' wpAnyH_take (i := 4) (v := _) rfl (by kernel_rfl) (by kernel_rfl) (by kernel_rfl) (fun _ _ _ h => by cases h.1) (Or.inl ⟨by rfl, ?hy905⟩) hHeld ?hn905
    case hy905 => (intro wz hSw; go_simp; first | done | with_reducible rfl)
    try simp only [List.getElem_toArray, List.getElem_cons_zero, List.getElem_cons_succ, Act.put, List.setIfInBounds_toArray, List.set_cons_zero, List.set_cons_succ]
    refine' wpAnyH_take (i := 5) (v := (.slice sa cut sc)) rfl (by kernel_rfl) (by kernel_rfl) (by kernel_rfl) (fun _ _ _ h => by cases h.1) (Or.inl ⟨by rfl, ?hy906⟩) hHeld ?hn906
    case hy906 => (intro wz hSw; have hcl := HCL.out; rcases HCS.out with ⟨h0, h1, -⟩ | ⟨b', off', h0, -⟩; (subst h0; cases sa <;> go_simp); (subst h0; go_simp))
    try simp only [List.getElem_toArray, List.getElem_cons_zero, List.getElem_cons_succ, Act.put, List.setIfInBounds_toArray, List.set_cons_zero, List.set_cons_succ]
    refine' wpAnyH_take (i := 6) (v := _) rfl (by kernel_rfl) (by kernel_rfl) (by kernel_rfl) (fun _ _ _ h => by cases h.1) (Or.inl ⟨by rfl, ?hy907⟩) hHeld ?hn907
    case hy907 => (intro wz hSw; go_simp; first | done | with_reducible rfl)
    try simp only [List.getElem_toArray, List.getElem_cons_zero, List.getElem_cons_succ, Act.put, List.setIfInBounds_toArray, List.set_cons_zero, List.set_cons_succ]
    refine' wpAnyH_take (i := 7) (v := _) rfl (by kernel_rfl) (by kernel_rfl) (by kernel_rfl) (fun _ _ _ h => by cases h.1) (Or.inl ⟨by rfl, ?hy908⟩) hHeld ?hn908
    case hy908 => (intro wz hSw; go_simp; first | done | with_reducible rfl)
    try simp only [List.getElem_toArray, List.getElem_cons_zero, List.getElem_cons_succ, Act.put, List.setIfInBounds_toArray, List.set_cons_zero, List.set_cons_succ]
    refine wpAnyH_ready (rs := [8, 12]) (by kernel_rfl) (by simp) ?_
    refine AllReadyH.cons rfl (fun K hK => ?_) (AllReadyH.cons rfl (fun K hK => ?_) AllReadyH.nil)
    · have KR := runOf_any (HR7.out.L.below hHeld) (HRP.out _ hHeld).1 (HR7.out.N.below hHeld)
      rw [HN1.out, HS1.out] at KR
      go_simp
      refine Calls.mono KR ?_
      rintro e' wR ⟨vua, vub, vuc, rfl, hbR, r3⟩
      clear KR
      obtain ⟨ua, uac, ha⟩ := rowg_slice r3.n
      obtain ⟨ub, ubc, hb⟩ := rowg_slice r3.ws
      obtain ⟨uc, ucc, hc⟩ := rowg_slice r3.ss
      subst ha hb hc
      refine hK.out _ _ (Below.then hHeld hbR hHeld.size) (fun hHeld => ?_)
      clear hK K
      refine' wpAnyH_take (i := 9) (v := _) rfl (by kernel_rfl) (by kernel_rfl) (by kernel_rfl) (fun _ _ _ h => by cases h.1) (Or.inl ⟨by rfl, ?hy909⟩) hHeld ?hn909
      case hy909 => (intro wz hSw; go_simp; first | done | with_reducible rfl)
      try simp only [List.getElem_toArray, List.getElem_cons_zero, List.getElem_cons_succ, Act.put, List.setIfInBounds_toArray, List.set_cons_zero, List.set_cons_succ]
      refine' wpAnyH_take (i := 10) (v := _) rfl (by kernel_rfl) (by kernel_rfl) (by kernel_rfl) (fun _ _ _ h => by cases h.1) (Or.inl ⟨by rfl, ?hy910⟩) hHeld ?hn910
      case hy910 => (intro wz hSw; go_simp; first | done | with_reducible rfl)
      try simp only [List.getElem_toArray, List.getElem_cons_zero, List.getElem_cons_succ, Act.put, List.setIfInBounds_toArray, List.set_cons_zero, List.set_cons_succ]
      refine' wpAnyH_take (i := 11) (v := _) rfl (by kernel_rfl) (by kernel_rfl) (by kernel_rfl) (fun _ _ _ h => by cases h.1) (Or.inl ⟨by rfl, ?hy911⟩) hHeld ?hn911
      case hy911 => (intro wz hSw; go_simp; first | done | with_reducible rfl)
      try simp only [List.getElem_toArray, List.getElem_cons_zero, List.getElem_cons_succ, Act.put, List.setIfInBounds_toArray, List.set_cons_zero, List.set_cons_succ]
      refine wpAnyH_ready (rs := [12]) (by kernel_rfl) (by simp) ?_
      refine AllReadyH.cons rfl (fun K hK => ?_) AllReadyH.nil
      go_simp
      have CY := C3.new wR (.slice none 0 0) (.slice none 0 0) (.slice none 0 0) 44
      have AL : Below (wR).heap.size wR (World.alloc wR (.cells #[.slice none 0 0, .slice none 0 0, .slice none 0 0] 44)) := (Below.refl _ _).alloc (Nat.le_refl _) _
      obtain ⟨yb, hyb⟩ : ∃ yb, yb = (wR).heap.size := ⟨_, rfl⟩
      have hyl : yb < ((World.alloc wR (.cells #[.slice none 0 0, .slice none 0 0, .slice none 0 0] 44))).heap.size := by rw [hyb]; exact C3.lt CY
      have hy8 : w7.heap.size ≤ yb := by rw [hyb]; first | exact Nat.le_refl _ | exact hHeld.size
      rw [← hyb] at CY ⊢
      have hne : ∀ b, (.slice ua s1.n.length uac : Value).ownBlock = some b ∨ (.slice ub s1.ws.length ubc : Value).ownBlock = some b ∨ (.slice uc s1.ss.length ucc : Value).ownBlock = some b → b ≠ yb := by
        rintro b (h | h | h)
        · have := (World.ownsRow.lt r3.n b h).2; omega
        · have := (World.ownsRow.lt r3.ws b h).2; omega
        · have := (World.ownsRow.lt r3.ss b h).2; omega
      replace r3 := r3.below AL
      clear hyb
      generalize (World.alloc wR (.cells #[.slice none 0 0, .slice none 0 0, .slice none 0 0] 44)) = wY at *
      refine hK.out _ _ (Below.then hHeld AL hHeld.size) (fun hHeld => ?_)
      clear hK K
      refine wpAnyH_ready (rs := [13]) (by kernel_rfl) (by simp) ?_
      refine AllReadyH.cons rfl (fun K hK => ?_) AllReadyH.nil
      obtain ⟨⟨c0, c1, c2⟩, f0, f1, f2⟩ := id CY
      have GY : C3 ((((wY).setCell ⟨yb, 0, none⟩ (.slice ua s1.n.length uac)).setCell ⟨yb, 1, none⟩ (.slice ub s1.ws.length ubc)).setCell ⟨yb, 2, none⟩ (.slice uc s1.ss.length ucc)) yb (.slice ua s1.n.length uac) (.slice ub s1.ws.length ubc) (.slice uc s1.ss.length ucc) := ((CY.set0 _).set1 _).set2 _
      have RY := ((r3.far ⟨yb, 0, none⟩ (.slice ua s1.n.length uac) (fun h => hne _ (.inl h) rfl) (fun h => hne _ (.inr (.inl h)) rfl) (fun h => hne _ (.inr (.inr h)) rfl)).far ⟨yb, 1, none⟩ (.slice ub s1.ws.length ubc) (fun h => hne _ (.inl h) rfl) (fun h => hne _ (.inr (.inl h)) rfl) (fun h => hne _ (.inr (.inr h)) rfl)).far ⟨yb, 2, none⟩ (.slice uc s1.ss.length ucc) (fun h => hne _ (.inl h) rfl) (fun h => hne _ (.inr (.inl h)) rfl) (fun h => hne _ (.inr (.inr h)) rfl)
      have BY : Below w7.heap.size w7 ((((wY).setCell ⟨yb, 0, none⟩ (.slice ua s1.n.length uac)).setCell ⟨yb, 1, none⟩ (.slice ub s1.ws.length ubc)).setCell ⟨yb, 2, none⟩ (.slice uc s1.ss.length ucc)) := ((hHeld.setCell hy8 _).setCell hy8 _).setCell hy8 _
      clear CY
      go_simp
      clear c0 c1 c2 f0 f1 f2
      generalize (((wY).setCell ⟨yb, 0, none⟩ (.slice ua s1.n.length uac)).setCell ⟨yb, 1, none⟩ (.slice ub s1.ws.length ubc)).setCell ⟨yb, 2, none⟩ (.slice uc s1.ss.length ucc) = wF at GY RY BY ⊢
      refine hK.out _ _ (BY) (fun hHeld => ?_)
      clear hK K
      refine' wpAnyH_take (i := 14) (v := _) rfl (by kernel_rfl) (by kernel_rfl) (by kernel_rfl) (fun _ _ _ h => by cases h.1) (Or.inl ⟨by rfl, ?hy912⟩) hHeld ?hn912
      case hy912 => (intro wz hSw; go_simp; first | done | with_reducible rfl)
      try simp only [List.getElem_toArray, List.getElem_cons_zero, List.getElem_cons_succ, Act.put, List.setIfInBounds_toArray, List.set_cons_zero, List.set_cons_succ]
      refine wpAnyH_done (by kernel_rfl) ?_ _
      exact ⟨rfl, yb, ⟨rfl, rfl, rfl, rfl, rfl, rfl, rfl, rfl, trivial⟩, hHeld, ⟨_, _, _, _, _, _, GY, RY.zero⟩⟩
    · go_simp
      have CY := C3.new w7 (.slice none 0 0) (.slice none 0 0) (.slice none 0 0) 44
      have AL : Below w7.heap.size w7 (World.drew (World.alloc w7 (.cells #[.slice none 0 0, .slice none 0 0, .slice none 0 0] 44))) := ((Below.refl _ _).alloc (Nat.le_refl _) _).drew
      replace CY := C3.below CY (Below.drew (Below.refl _ _))
      obtain ⟨yb, hyb⟩ : ∃ yb, yb = (w7).heap.size := ⟨_, rfl⟩
      have hyl : yb < ((World.drew (World.alloc w7 (.cells #[.slice none 0 0, .slice none 0 0, .slice none 0 0] 44)))).heap.size := by rw [hyb]; exact C3.lt CY
      have hy8 : w7.heap.size ≤ yb := by rw [hyb]; first | exact Nat.le_refl _ | exact hHeld.size
      rw [← hyb] at CY ⊢
      clear hyb
      generalize (World.drew (World.alloc w7 (.cells #[.slice none 0 0, .slice none 0 0, .slice none 0 0] 44))) = wY at *
      refine hK.out _ _ (AL) (fun hHeld => ?_)
      clear hK K
      refine wpAnyH_ready (rs := [8]) (by kernel_rfl) (by simp) ?_
      refine AllReadyH.cons rfl (fun K hK => ?_) AllReadyH.nil
      have KR := runOf_any (HR7.out.L.below hHeld) (HRP.out _ hHeld).1 (HR7.out.N.below hHeld)
      rw [HN1.out, HS1.out] at KR
      go_simp
      refine Calls.mono KR ?_
      rintro e' wR ⟨vua, vub, vuc, rfl, hbR, r3⟩
      clear KR
      obtain ⟨ua, uac, ha⟩ := rowg_slice r3.n
      obtain ⟨ub, ubc, hb⟩ := rowg_slice r3.ws
      obtain ⟨uc, ucc, hc⟩ := rowg_slice r3.ss
      subst ha hb hc
      have hne : ∀ b, (.slice ua s1.n.length uac : Value).ownBlock = some b ∨ (.slice ub s1.ws.length ubc : Value).ownBlock = some b ∨ (.slice uc s1.ss.length ucc : Value).ownBlock = some b → b ≠ yb := by
        rintro b (h | h | h)
        · have := (World.ownsRow.lt r3.n b h).1; omega
        · have := (World.ownsRow.lt r3.ws b h).1; omega
        · have := (World.ownsRow.lt r3.ss b h).1; omega
      replace CY := C3.below CY hbR
      replace hyl := Nat.lt_of_lt_of_le hyl hbR.size
      refine hK.out _ _ (Below.then hHeld hbR hHeld.size) (fun hHeld => ?_)
      clear hK K
      refine' wpAnyH_take (i := 9) (v := _) rfl (by kernel_rfl) (by kernel_rfl) (by kernel_rfl) (fun _ _ _ h => by cases h.1) (Or.inl ⟨by rfl, ?hy913⟩) hHeld ?hn913
      case hy913 => (intro wz hSw; go_simp; first | done | with_reducible rfl)
      try simp only [List.getElem_toArray, List.getElem_cons_zero, List.getElem_cons_succ, Act.put, List.setIfInBounds_toArray, List.set_cons_zero, List.set_cons_succ]
      refine' wpAnyH_take (i := 10) (v := _) rfl (by kernel_rfl) (by kernel_rfl) (by kernel_rfl) (fun _ _ _ h => by cases h.1) (Or.inl ⟨by rfl, ?hy914⟩) hHeld ?hn914
      case hy914 => (intro wz hSw; go_simp; first | done | with_reducible rfl)
      try simp only [List.getElem_toArray, List.getElem_cons_zero, List.getElem_cons_succ, Act.put, List.setIfInBounds_toArray, List.set_cons_zero, List.set_cons_succ]
      refine' wpAnyH_take (i := 11) (v := _) rfl (by kernel_rfl) (by kernel_rfl) (by kernel_rfl) (fun _ _ _ h => by cases h.1) (Or.inl ⟨by rfl, ?hy915⟩) hHeld ?hn915
      case hy915 => (intro wz hSw; go_simp; first | done | with_reducible rfl)
      try simp only [List.getElem_toArray, List.getElem_cons_zero, List.getElem_cons_succ, Act.put, List.setIfInBounds_toArray, List.set_cons_zero, List.set_cons_succ]
      refine wpAnyH_ready (rs := [13]) (by kernel_rfl) (by simp) ?_
      refine AllReadyH.cons rfl (fun K hK => ?_) AllReadyH.nil
      obtain ⟨⟨c0, c1, c2⟩, f0, f1, f2⟩ := id CY
      have GY : C3 ((((wR).setCell ⟨yb, 0, none⟩ (.slice ua s1.n.length uac)).setCell ⟨yb, 1, none⟩ (.slice ub s1.ws.length ubc)).setCell ⟨yb, 2, none⟩ (.slice uc s1.ss.length ucc)) yb (.slice ua s1.n.length uac) (.slice ub s1.ws.length ubc) (.slice uc s1.ss.length ucc) := ((CY.set0 _).set1 _).set2 _
      have RY := ((r3.far ⟨yb, 0, none⟩ (.slice ua s1.n.length uac) (fun h => hne _ (.inl h) rfl) (fun h => hne _ (.inr (.inl h)) rfl) (fun h => hne _ (.inr (.inr h)) rfl)).far ⟨yb, 1, none⟩ (.slice ub s1.ws.length ubc) (fun h => hne _ (.inl h) rfl) (fun h => hne _ (.inr (.inl h)) rfl) (fun h => hne _ (.inr (.inr h)) rfl)).far ⟨yb, 2, none⟩ (.slice uc s1.ss.length ucc) (fun h => hne _ (.inl h) rfl) (fun h => hne _ (.inr (.inl h)) rfl) (fun h => hne _ (.inr (.inr h)) rfl)
      have BY : Below w7.heap.size w7 ((((wR).setCell ⟨yb, 0, none⟩ (.slice ua s1.n.length uac)).setCell ⟨yb, 1, none⟩ (.slice ub s1.ws.length ubc)).setCell ⟨yb, 2, none⟩ (.slice uc s1.ss.length ucc)) := ((hHeld.setCell hy8 _).setCell hy8 _).setCell hy8 _
      clear CY
      go_simp
      clear c0 c1 c2 f0 f1 f2
      generalize (((wR).setCell ⟨yb, 0, none⟩ (.slice ua s1.n.length uac)).setCell ⟨yb, 1, none⟩ (.slice ub s1.ws.length ubc)).setCell ⟨yb, 2, none⟩ (.slice uc s1.ss.length ucc) = wF at GY RY BY ⊢
      refine hK.out _ _ (BY) (fun hHeld => ?_)
      clear hK K
      refine' wpAnyH_take (i := 14) (v := _) rfl (by kernel_rfl) (by kernel_rfl) (by kernel_rfl) (fun _ _ _ h => by cases h.1) (Or.inl ⟨by rfl, ?hy916⟩) hHeld ?hn916
      case hy916 => (intro wz hSw; go_simp; first | done | with_reducible rfl)
      try simp only [List.getElem_toArray, List.getElem_cons_zero, List.getElem_cons_succ, Act.put, List.setIfInBounds_toArray, List.set_cons_zero, List.set_cons_succ]
      refine wpAnyH_done (by kernel_rfl) ?_ _
      exact ⟨rfl, yb, ⟨rfl, rfl, rfl, rfl, rfl, rfl, rfl, rfl, trivial⟩, hHeld, ⟨_, _, _, _, _, _, GY, RY.zero⟩⟩

  case hq =>
    rintro e a w8 ⟨rfl, ya, hact, hb8, hx8⟩
    obtain ⟨u, rfl, hk⟩ := actIs_open hact
    have e5 : u 5 = .pointer (some ⟨w1.heap.size, 0, none⟩) := hk 5 _ (by simp)
    have e6 : u 6 = .slice (some ad) zs.length nc := hk 6 _ (by simp)
    have e9 : u 9 = .pointer (some ⟨w5.heap.size, 0, none⟩) := hk 9 _ (by simp)
    have e11 : u 11 = .int .i64 (cut : Int) := hk 11 _ (by simp)
    have e12 : u 12 = .pointer (some ⟨ya, 0, none⟩) := hk 12 _ (by simp)
    have e13 : u 13 = .bool true := hk 13 _ (by simp)
    clear hk hact
    simp only [e5, e6, e9, e11, e12, e13]
    clear e5 e6 e9 e11 e12 e13
    have HB8 : Hid (Below w7.heap.size w7 w8) := hb8
    obtain ⟨aa, aac, ab, abc, ac, acc, hca, ra⟩ := hx8
    have HCA8 : Hid (C3 w8 ya (.slice aa s1.n.length aac) (.slice ab s1.ws.length abc) (.slice ac s1.ss.length acc)) := hca
    have HRA8 : Hid (R3 0 w8 (.slice aa s1.n.length aac) (.slice ab s1.ws.length abc) (.slice ac s1.ss.length acc) s1) := ra
    obtain ⟨⟨ka0, ka1, ka2⟩, -⟩ := hca
    have HA8 : Hid (GRep (Value.int .i64) w8 (.slice aa s1.n.length aac) s1.n) := ra.reps.1
    replace kp0 := cell_later hb8 kp0
    replace kp1 := cell_later hb8 kp1
    clear hb8
    go_upto_region 10 with fail
    refine Code.wp_mono (Q := fun e a x => e = .normal ∧ ∃ (yb : Nat), ActIs a [(5, .pointer (some ⟨w1.heap.size, 0, none⟩)), (6, .slice (some ad) zs.length nc), (9, .pointer (some ⟨w5.heap.size, 0, none⟩)), (11, .int .i64 (cut : Int)), (12, .pointer (some ⟨ya, 0, none⟩)), (13, .bool true), (14, .pointer (some ⟨yb, 0, none⟩)), (15, .bool true)] ∧ Below w8.heap.size w8 x ∧ RBox x yb s2) ?hq ?hr
    case hr =>
      refine wp_region_held (S := (fun wz => Below w8.heap.size w8 wz)) (by kernel_rfl) ?_
      change wpAnyH _ _ _ _ _ _ _ _ (World.drew _)
      have hHeld := (Below.refl w8.heap.size w8).drew
      refine' wpAnyH_take (i := 0) (v := _) rfl (by kernel_rfl) (by kernel_rfl) (by kernel_rfl) (fun _ _ _ h => by cases h.1) (Or.inl ⟨by rfl, ?hy917⟩) hHeld ?hn917
      case hy917 => (intro wz hSw; go_simp; first | done | with_reducible rfl)
      try simp only [List.getElem_toArray, List.getElem_cons_zero, List.getElem_cons_succ, Act.put, List.setIfInBounds_toArray, List.set_cons_zero, List.set_cons_succ]
      refine' wpAnyH_take (i := 1) (v := (.slice la ls.length lc)) rfl (by kernel_rfl) (by kernel_rfl) (by kernel_rfl) (fun _ _ _ h => by cases h.1) (Or.inl ⟨by rfl, ?hy918⟩) hHeld ?hn918
      case hy918 => (intro wz hSw; have k0 := cell_later hSw kp0; go_simp)
      try simp only [List.getElem_toArray, List.getElem_cons_zero, List.getElem_cons_succ, Act.put, List.setIfInBounds_toArray, List.set_cons_zero, List.set_cons_succ]
      refine' wpAnyH_take (i := 2) (v := _) rfl (by kernel_rfl) (by kernel_rfl) (by kernel_rfl) (fun _ _ _ h => by cases h.1) (Or.inl ⟨by rfl, ?hy919⟩) hHeld ?hn919
      case hy919 => (intro wz hSw; go_simp; first | done | with_reducible rfl)
      try simp only [List.getElem_toArray, List.getElem_cons_zero, List.getElem_cons_succ, Act.put, List.setIfInBounds_toArray, List.set_cons_zero, List.set_cons_succ]
      refine' wpAnyH_take (i := 3) (v := (.slice sa (ln (d + 1) (l : List (Pay × Tr d × Tr d))) sc)) rfl (by kernel_rfl) (by kernel_rfl) (by kernel_rfl) (fun _ _ _ h => by cases h.1) (Or.inl ⟨by rfl, ?hy920⟩) hHeld ?hn920
      case hy920 => (intro wz hSw; have k0 := cell_later hSw kp1; go_simp)
      try simp only [List.getElem_toArray, List.getElem_cons_zero, List.getElem_cons_succ, Act.put, List.setIfInBounds_toArray, List.set_cons_zero, List.set_cons_succ]
      refine' wpAnyH_take (i := 4) (v := _) rfl (by kernel_rfl) (by kernel_rfl) (by kernel_rfl) (fun _ _ _ h => by cases h.1) (Or.inl ⟨by rfl, ?hy921⟩) hHeld ?hn921
      case hy921 => (intro wz hSw; go_simp; first | done | with_reducible rfl)
      try simp only [List.getElem_toArray, List.getElem_cons_zero, List.getElem_cons_succ, Act.put, List.setIfInBounds_toArray, List.set_cons_zero, List.set_cons_succ]
      refine' wpAnyH_take (i := 5) (v := (.slice vba vbl vbc)) rfl (by kernel_rfl) (by kernel_rfl) (by kernel_rfl) (fun _ _ _ h => by cases h.1) (Or.inl ⟨by rfl, ?hy922⟩) hHeld ?hn922
      case hy922 => (intro wz hSw; have hcl := HCL.out; rcases HCS.out with ⟨h0, h1, h2⟩ | ⟨b', off', h0, h2⟩; (subst h0; rw [h2]; cases sa <;> go_simp); (subst h0; rw [h2]; by_cases hsc : sc = cut; (rw [if_pos hsc]; go_simp; try omega); (rw [if_neg hsc]; go_simp; try omega)))
      try simp only [List.getElem_toArray, List.getElem_cons_zero, List.getElem_cons_succ, Act.put, List.setIfInBounds_toArray, List.set_cons_zero, List.set_cons_succ]
      refine' wpAnyH_take (i := 6) (v := _) rfl (by kernel_rfl) (by kernel_rfl) (by kernel_rfl) (fun _ _ _ h => by cases h.1) (Or.inl ⟨by rfl, ?hy923⟩) hHeld ?hn923
      case hy923 => (intro wz hSw; go_simp; first | done | with_reducible rfl)
      try simp only [List.getElem_toArray, List.getElem_cons_zero, List.getElem_cons_succ, Act.put, List.setIfInBounds_toArray, List.set_cons_zero, List.set_cons_succ]
      refine' wpAnyH_take (i := 7) (v := _) rfl (by kernel_rfl) (by kernel_rfl) (by kernel_rfl) (fun _ _ _ h => by cases h.1) (Or.inl ⟨by rfl, ?hy924⟩) hHeld ?hn924
      case hy924 => (intro wz hSw; go_simp; first | done | with_reducible rfl)
      try simp only [List.getElem_toArray, List.getElem_cons_zero, List.getElem_cons_succ, Act.put, List.setIfInBounds_toArray, List.set_cons_zero, List.set_cons_succ]
      refine' wpAnyH_take (i := 8) (v := (.slice aa s1.n.length aac)) rfl (by kernel_rfl) (by kernel_rfl) (by kernel_rfl) (fun _ _ _ h => by cases h.1) (Or.inl ⟨by rfl, ?hy925⟩) hHeld ?hn925
      case hy925 => (intro wz hSw; have k0 := cell_later hSw ka0; go_simp)
      try simp only [List.getElem_toArray, List.getElem_cons_zero, List.getElem_cons_succ, Act.put, List.setIfInBounds_toArray, List.set_cons_zero, List.set_cons_succ]
      refine wpAnyH_ready (rs := [9, 13]) (by kernel_rfl) (by simp) ?_
      refine AllReadyH.cons rfl (fun K hK => ?_) (AllReadyH.cons rfl (fun K hK => ?_) AllReadyH.nil)
      · have KR := runOf_any (HR7.out.L.below (Below.then HB8.out hHeld HB8.out.size)) (HRP.out _ (Below.then HB8.out hHeld HB8.out.size)).2 (HA8.out.below hHeld)
        rw [HN2.out, HS2.out] at KR
        go_simp
        refine Calls.mono KR ?_
        rintro e' wR ⟨vua, vub, vuc, rfl, hbR, r3⟩
        clear KR
        obtain ⟨ua, uac, ha⟩ := rowg_slice r3.n
        obtain ⟨ub, ubc, hb⟩ := rowg_slice r3.ws
        obtain ⟨uc, ucc, hc⟩ := rowg_slice r3.ss
        subst ha hb hc
        refine hK.out _ _ (Below.then hHeld hbR hHeld.size) (fun hHeld => ?_)
        clear hK K
        refine' wpAnyH_take (i := 10) (v := _) rfl (by kernel_rfl) (by kernel_rfl) (by kernel_rfl) (fun _ _ _ h => by cases h.1) (Or.inl ⟨by rfl, ?hy926⟩) hHeld ?hn926
        case hy926 => (intro wz hSw; go_simp; first | done | with_reducible rfl)
        try simp only [List.getElem_toArray, List.getElem_cons_zero, List.getElem_cons_succ, Act.put, List.setIfInBounds_toArray, List.set_cons_zero, List.set_cons_succ]
        refine' wpAnyH_take (i := 11) (v := _) rfl (by kernel_rfl) (by kernel_rfl) (by kernel_rfl) (fun _ _ _ h => by cases h.1) (Or.inl ⟨by rfl, ?hy927⟩) hHeld ?hn927
        case hy927 => (intro wz hSw; go_simp; first | done | with_reducible rfl)
        try simp only [List.getElem_toArray, List.getElem_cons_zero, List.getElem_cons_succ, Act.put, List.setIfInBounds_toArray, List.set_cons_zero, List.set_cons_succ]
        refine' wpAnyH_take (i := 12) (v := _) rfl (by kernel_rfl) (by kernel_rfl) (by kernel_rfl) (fun _ _ _ h => by cases h.1) (Or.inl ⟨by rfl, ?hy928⟩) hHeld ?hn928
        case hy928 => (intro wz hSw; go_simp; first | done | with_reducible rfl)
        try simp only [List.getElem_toArray, List.getElem_cons_zero, List.getElem_cons_succ, Act.put, List.setIfInBounds_toArray, List.set_cons_zero, List.set_cons_succ]
        refine wpAnyH_ready (rs := [13]) (by kernel_rfl) (by simp) ?_
        refine AllReadyH.cons rfl (fun K hK => ?_) AllReadyH.nil
        go_simp
        have CY := C3.new wR (.slice none 0 0) (.slice none 0 0) (.slice none 0 0) 44
        have AL : Below (wR).heap.size wR (World.alloc wR (.cells #[.slice none 0 0, .slice none 0 0, .slice none 0 0] 44)) := (Below.refl _ _).alloc (Nat.le_refl _) _
        obtain ⟨yb, hyb⟩ : ∃ yb, yb = (wR).heap.size := ⟨_, rfl⟩
        have hyl : yb < ((World.alloc wR (.cells #[.slice none 0 0, .slice none 0 0, .slice none 0 0] 44))).heap.size := by rw [hyb]; exact C3.lt CY
        have hy8 : w8.heap.size ≤ yb := by rw [hyb]; first | exact Nat.le_refl _ | exact hHeld.size
        rw [← hyb] at CY ⊢
        have hne : ∀ b, (.slice ua s2.n.length uac : Value).ownBlock = some b ∨ (.slice ub s2.ws.length ubc : Value).ownBlock = some b ∨ (.slice uc s2.ss.length ucc : Value).ownBlock = some b → b ≠ yb := by
          rintro b (h | h | h)
          · have := (World.ownsRow.lt r3.n b h).2; omega
          · have := (World.ownsRow.lt r3.ws b h).2; omega
          · have := (World.ownsRow.lt r3.ss b h).2; omega
        replace r3 := r3.below AL
        clear hyb
        generalize (World.alloc wR (.cells #[.slice none 0 0, .slice none 0 0, .slice none 0 0] 44)) = wY at *
        refine hK.out _ _ (Below.then hHeld AL hHeld.size) (fun hHeld => ?_)
        clear hK K
        refine wpAnyH_ready (rs := [14]) (by kernel_rfl) (by simp) ?_
        refine AllReadyH.cons rfl (fun K hK => ?_) AllReadyH.nil
        obtain ⟨⟨c0, c1, c2⟩, f0, f1, f2⟩ := id CY
        have GY : C3 ((((wY).setCell ⟨yb, 0, none⟩ (.slice ua s2.n.length uac)).setCell ⟨yb, 1, none⟩ (.slice ub s2.ws.length ubc)).setCell ⟨yb, 2, none⟩ (.slice uc s2.ss.length ucc)) yb (.slice ua s2.n.length uac) (.slice ub s2.ws.length ubc) (.slice uc s2.ss.length ucc) := ((CY.set0 _).set1 _).set2 _
        have RY := ((r3.far ⟨yb, 0, none⟩ (.slice ua s2.n.length uac) (fun h => hne _ (.inl h) rfl) (fun h => hne _ (.inr (.inl h)) rfl) (fun h => hne _ (.inr (.inr h)) rfl)).far ⟨yb, 1, none⟩ (.slice ub s2.ws.length ubc) (fun h => hne _ (.inl h) rfl) (fun h => hne _ (.inr (.inl h)) rfl) (fun h => hne _ (.inr (.inr h)) rfl)).far ⟨yb, 2, none⟩ (.slice uc s2.ss.length ucc) (fun h => hne _ (.inl h) rfl) (fun h => hne _ (.inr (.inl h)) rfl) (fun h => hne _ (.inr (.inr h)) rfl)
        have BY : Below w8.heap.size w8 ((((wY).setCell ⟨yb, 0, none⟩ (.slice ua s2.n.length uac)).setCell ⟨yb, 1, none⟩ (.slice ub s2.ws.length ubc)).setCell ⟨yb, 2, none⟩ (.slice uc s2.ss.length ucc)) := ((hHeld.setCell hy8 _).setCell hy8 _).setCell hy8 _
        clear CY
        go_simp
        clear c0 c1 c2 f0 f1 f2
        generalize (((wY).setCell ⟨yb, 0, none⟩ (.slice ua s2.n.length uac)).setCell ⟨yb, 1, none⟩ (.slice ub s2.ws.length ubc)).setCell ⟨yb, 2, none⟩ (.slice uc s2.ss.length ucc) = wF at GY RY BY ⊢
        refine hK.out _ _ (BY) (fun hHeld => ?_)
        clear hK K
        refine' wpAnyH_take (i := 15) (v := _) rfl (by kernel_rfl) (by kernel_rfl) (by kernel_rfl) (fun _ _ _ h => by cases h.1) (Or.inl ⟨by rfl, ?hy929⟩) hHeld ?hn929
        case hy929 => (intro wz hSw; go_simp; first | done | with_reducible rfl)
        try simp only [List.getElem_toArray, List.getElem_cons_zero, List.getElem_cons_succ, Act.put, List.setIfInBounds_toArray, List.set_cons_zero, List.set_cons_succ]
        refine wpAnyH_done (by kernel_rfl) ?_ _
        exact ⟨rfl, yb, ⟨rfl, rfl, rfl, rfl, rfl, rfl, rfl, rfl, rfl, rfl, trivial⟩, hHeld, ⟨_, _, _, _, _, _, GY, RY.zero⟩⟩
      · go_simp
        have CY := C3.new w8 (.slice none 0 0) (.slice none 0 0) (.slice none 0 0) 44
        have AL : Below w8.heap.size w8 (World.drew (World.alloc w8 (.cells #[.slice none 0 0, .slice none 0 0, .slice none 0 0] 44))) := ((Below.refl _ _).alloc (Nat.le_refl _) _).drew
        replace CY := C3.below CY (Below.drew (Below.refl _ _))
        obtain ⟨yb, hyb⟩ : ∃ yb, yb = (w8).heap.size := ⟨_, rfl⟩
        have hyl : yb < ((World.drew (World.alloc w8 (.cells #[.slice none 0 0, .slice none 0 0, .slice none 0 0] 44)))).heap.size := by rw [hyb]; exact C3.lt CY
        have hy8 : w8.heap.size ≤ yb := by rw [hyb]; first | exact Nat.le_refl _ | exact hHeld.size
        rw [← hyb] at CY ⊢
        clear hyb
        generalize (World.drew (World.alloc w8 (.cells #[.slice none 0 0, .slice none 0 0, .slice none 0 0] 44))) = wY at *
        refine hK.out _ _ (AL) (fun hHeld => ?_)
        clear hK K
        refine wpAnyH_ready (rs := [9]) (by kernel_rfl) (by simp) ?_
        refine AllReadyH.cons rfl (fun K hK => ?_) AllReadyH.nil
        have KR := runOf_any (HR7.out.L.below (Below.then HB8.out hHeld HB8.out.size)) (HRP.out _ (Below.then HB8.out hHeld HB8.out.size)).2 (HA8.out.below hHeld)
        rw [HN2.out, HS2.out] at KR
        go_simp
        refine Calls.mono KR ?_
        rintro e' wR ⟨vua, vub, vuc, rfl, hbR, r3⟩
        clear KR
        obtain ⟨ua, uac, ha⟩ := rowg_slice r3.n
        obtain ⟨ub, ubc, hb⟩ := rowg_slice r3.ws
        obtain ⟨uc, ucc, hc⟩ := rowg_slice r3.ss
        subst ha hb hc
        have hne : ∀ b, (.slice ua s2.n.length uac : Value).ownBlock = some b ∨ (.slice ub s2.ws.length ubc : Value).ownBlock = some b ∨ (.slice uc s2.ss.length ucc : Value).ownBlock = some b → b ≠ yb := by
          rintro b (h | h | h)
          · have := (World.ownsRow.lt r3.n b h).1; omega
          · have := (World.ownsRow.lt r3.ws b h).1; omega
          · have := (World.ownsRow.lt r3.ss b h).1; omega
        replace CY := C3.below CY hbR
        replace hyl := Nat.lt_of_lt_of_le hyl hbR.size
        refine hK.out _ _ (Below.then hHeld hbR hHeld.size) (fun hHeld => ?_)
        clear hK K
        refine' wpAnyH_take (i := 10) (v := _) rfl (by kernel_rfl) (by kernel_rfl) (by kernel_rfl) (fun _ _ _ h => by cases h.1) (Or.inl ⟨by rfl, ?hy930⟩) hHeld ?hn930
        case hy930 => (intro wz hSw; go_simp; first | done | with_reducible rfl)
        try simp only [List.getElem_toArray, List.getElem_cons_zero, List.getElem_cons_succ, Act.put, List.setIfInBounds_toArray, List.set_cons_zero, List.set_cons_succ]
        refine' wpAnyH_take (i := 11) (v := _) rfl (by kernel_rfl) (by kernel_rfl) (by kernel_rfl) (fun _ _ _ h => by cases h.1) (Or.inl ⟨by rfl, ?hy931⟩) hHeld ?hn931
        case hy931 => (intro wz hSw; go_simp; first | done | with_reducible rfl)
        try simp only [List.getElem_toArray, List.getElem_cons_zero, List.getElem_cons_succ, Act.put, List.setIfInBounds_toArray, List.set_cons_zero, List.set_cons_succ]
        refine' wpAnyH_take (i := 12) (v := _) rfl (by kernel_rfl) (by kernel_rfl) (by kernel_rfl) (fun _ _ _ h => by cases h.1) (Or.inl ⟨by rfl, ?hy932⟩) hHeld ?hn932
        case hy932 => (intro wz hSw; go_simp; first | done | with_reducible rfl)
        try simp only [List.getElem_toArray, List.getElem_cons_zero, List.getElem_cons_succ, Act.put, List.setIfInBounds_toArray, List.set_cons_zero, List.set_cons_succ]
        refine wpAnyH_ready (rs := [14]) (by kernel_rfl) (by simp) ?_
        refine AllReadyH.cons rfl (fun K hK => ?_) AllReadyH.nil
        obtain ⟨⟨c0, c1, c2⟩, f0, f1, f2⟩ := id CY
        have GY : C3 ((((wR).setCell ⟨yb, 0, none⟩ (.slice ua s2.n.length uac)).setCell ⟨yb, 1, none⟩ (.slice ub s2.ws.length ubc)).setCell ⟨yb, 2, none⟩ (.slice uc s2.ss.length ucc)) yb (.slice ua s2.n.length uac) (.slice ub s2.ws.length ubc) (.slice uc s2.ss.length ucc) := ((CY.set0 _).set1 _).set2 _
        have RY := ((r3.far ⟨yb, 0, none⟩ (.slice ua s2.n.length uac) (fun h => hne _ (.inl h) rfl) (fun h => hne _ (.inr (.inl h)) rfl) (fun h => hne _ (.inr (.inr h)) rfl)).far ⟨yb, 1, none⟩ (.slice ub s2.ws.length ubc) (fun h => hne _ (.inl h) rfl) (fun h => hne _ (.inr (.inl h)) rfl) (fun h => hne _ (.inr (.inr h)) rfl)).far ⟨yb, 2, none⟩ (.slice uc s2.ss.length ucc) (fun h => hne _ (.inl h) rfl) (fun h => hne _ (.inr (.inl h)) rfl) (fun h => hne _ (.inr (.inr h)) rfl)
        have BY : Below w8.heap.size w8 ((((wR).setCell ⟨yb, 0, none⟩ (.slice ua s2.n.length uac)).setCell ⟨yb, 1, none⟩ (.slice ub s2.ws.length ubc)).setCell ⟨yb, 2, none⟩ (.slice uc s2.ss.length ucc)) := ((hHeld.setCell hy8 _).setCell hy8 _).setCell hy8 _
        clear CY
        go_simp
        clear c0 c1 c2 f0 f1 f2
        generalize (((wR).setCell ⟨yb, 0, none⟩ (.slice ua s2.n.length uac)).setCell ⟨yb, 1, none⟩ (.slice ub s2.ws.length ubc)).setCell ⟨yb, 2, none⟩ (.slice uc s2.ss.length ucc) = wF at GY RY BY ⊢
        refine hK.out _ _ (BY) (fun hHeld => ?_)
        clear hK K
        refine' wpAnyH_take (i := 15) (v := _) rfl (by kernel_rfl) (by kernel_rfl) (by kernel_rfl) (fun _ _ _ h => by cases h.1) (Or.inl ⟨by rfl, ?hy933⟩) hHeld ?hn933
        case hy933 => (intro wz hSw; go_simp; first | done | with_reducible rfl)
        try simp only [List.getElem_toArray, List.getElem_cons_zero, List.getElem_cons_succ, Act.put, List.setIfInBounds_toArray, List.set_cons_zero, List.set_cons_succ]
        refine wpAnyH_done (by kernel_rfl) ?_ _
        exact ⟨rfl, yb, ⟨rfl, rfl, rfl, rfl, rfl, rfl, rfl, rfl, rfl, rfl, trivial⟩, hHeld, ⟨_, _, _, _, _, _, GY, RY.zero⟩⟩

    case hq =>
      clear ka0 ka1 ka2
      rintro e a w9 ⟨rfl, zb, hact, hb9, hx9⟩
      obtain ⟨u, rfl, hk⟩ := actIs_open hact
      have e5 : u 5 = .pointer (some ⟨w1.heap.size, 0, none⟩) := hk 5 _ (by simp)
      have e6 : u 6 = .slice (some ad) zs.length nc := hk 6 _ (by simp)
      have e9 : u 9 = .pointer (some ⟨w5.heap.size, 0, none⟩) := hk 9 _ (by simp)
      have e11 : u 11 = .int .i64 (cut : Int) := hk 11 _ (by simp)
      have e12 : u 12 = .pointer (some ⟨ya, 0, none⟩) := hk 12 _ (by simp)
      have e13 : u 13 = .bool true := hk 13 _ (by simp)
      have e14 : u 14 = .pointer (some ⟨zb, 0, none⟩) := hk 14 _ (by simp)
      have e15 : u 15 = .bool true := hk 15 _ (by simp)
      clear hk hact
      simp only [e5, e6, e9, e11, e12, e13, e14, e15]
      clear e5 e6 e9 e11 e12 e13 e14 e15
      obtain ⟨ba, bac, bb, bbc, bc, bcc, hcb, rb⟩ := hx9
      have HRA : Hid (R3 0 w9 (.slice aa s1.n.length aac) (.slice ab s1.ws.length abc) (.slice ac s1.ss.length acc) s1) := HRA8.out.below hb9
      have HRB : Hid (R3 0 w9 (.slice ba s2.n.length bac) (.slice bb s2.ws.length bbc) (.slice bc s2.ss.length bcc) s2) := rb
      obtain ⟨⟨ka0, ka1, ka2⟩, -⟩ := HCA8.out.below hb9
      obtain ⟨⟨kb0, kb1, kb2⟩, -⟩ := hcb
      have HB79 : Hid (Below w7.heap.size w7 w9) := Below.then HB8.out hb9 HB8.out.size
      obtain ⟨jwi, jw0, jw1, jw2, jw3⟩ := info_parts infoW2
      obtain ⟨jsi, js0, js1, js2, js3⟩ := info_parts infoS2
      clear ra hb9 rb HRA8 HCA8 kp0 kp1
      obtain ⟨Bs, hBs⟩ : ∃ B, B = w9.heap.size := ⟨_, rfl⟩
      have HBs : Hid (Bs = w9.heap.size) := hBs
      clear hBs
      go_upto_region 11 with fail
      refine Code.wp_mono (Q := fun e a x => e = .normal ∧ ∃ (qb : Nat) (V1 V2 : Value), ActIs a [(5, .pointer (some ⟨w1.heap.size, 0, none⟩)), (6, .slice (some ad) zs.length nc), (9, .pointer (some ⟨w5.heap.size, 0, none⟩)), (11, .int .i64 (cut : Int)), (12, .pointer (some ⟨ya, 0, none⟩)), (13, .bool true), (14, .pointer (some ⟨zb, 0, none⟩)), (15, .bool true), (16, .pointer (some ⟨qb, 0, none⟩))] ∧ Below w9.heap.size w9 x ∧ C3 x qb (.slice ba s2.n.length bac) V1 V2 ∧ x.ownsRow Bs 49 2 V1 ([] ++ s1.ws ++ s2.ws).length (pcells ([] ++ s1.ws ++ s2.ws)) ∧ x.ownsRow Bs 80 2 V2 ([] ++ s1.ss ++ s2.ss).length (pcells ([] ++ s1.ss ++ s2.ss))) ?hq ?hr
      case hr =>
        refine wp_region_held (S := (fun wz => Below w9.heap.size w9 wz)) (by kernel_rfl) ?_
        change wpAnyH _ _ _ _ _ _ _ _ (World.drew _)
        have hHeld := (Below.refl w9.heap.size w9).drew
        have hC : Cs Bs w9 none none none := by rw [HBs.out]; exact Cs.start w9
        refine' wpAnyH_take (i := 0) (v := _) rfl (by kernel_rfl) (by kernel_rfl) (by kernel_rfl) (fun _ _ _ h => by cases h.1) (Or.inl ⟨by rfl, ?hy934⟩) hHeld ?hn934
        case hy934 => (intro wz hSw; go_simp; first | done | with_reducible rfl)
        try simp only [List.getElem_toArray, List.getElem_cons_zero, List.getElem_cons_succ, Act.put, List.setIfInBounds_toArray, List.set_cons_zero, List.set_cons_succ]
        refine' wpAnyH_take (i := 1) (v := (.slice ba s2.n.length bac)) rfl (by kernel_rfl) (by kernel_rfl) (by kernel_rfl) (fun _ _ _ h => by cases h.1) (Or.inl ⟨by rfl, ?hy935⟩) hHeld ?hn935
        case hy935 => (intro wz hSw; have k0 := cell_later hSw kb0; go_simp)
        try simp only [List.getElem_toArray, List.getElem_cons_zero, List.getElem_cons_succ, Act.put, List.setIfInBounds_toArray, List.set_cons_zero, List.set_cons_succ]
        refine' wpAnyH_take (i := 3) (v := _) rfl (by kernel_rfl) (by kernel_rfl) (by kernel_rfl) (fun _ _ _ h => by cases h.1) (Or.inl ⟨by rfl, ?hy936⟩) hHeld ?hn936
        case hy936 => (intro wz hSw; go_simp; first | done | with_reducible rfl)
        try simp only [List.getElem_toArray, List.getElem_cons_zero, List.getElem_cons_succ, Act.put, List.setIfInBounds_toArray, List.set_cons_zero, List.set_cons_succ]
        refine' wpAnyH_take (i := 4) (v := (.slice ab s1.ws.length abc)) rfl (by kernel_rfl) (by kernel_rfl) (by kernel_rfl) (fun _ _ _ h => by cases h.1) (Or.inl ⟨by rfl, ?hy937⟩) hHeld ?hn937
        case hy937 => (intro wz hSw; have k0 := cell_later hSw ka1; go_simp)
        try simp only [List.getElem_toArray, List.getElem_cons_zero, List.getElem_cons_succ, Act.put, List.setIfInBounds_toArray, List.set_cons_zero, List.set_cons_succ]
        refine' wpAnyH_take (i := 6) (v := _) rfl (by kernel_rfl) (by kernel_rfl) (by kernel_rfl) (fun _ _ _ h => by cases h.1) (Or.inl ⟨by rfl, ?hy938⟩) hHeld ?hn938
        case hy938 => (intro wz hSw; go_simp; first | done | with_reducible rfl)
        try simp only [List.getElem_toArray, List.getElem_cons_zero, List.getElem_cons_succ, Act.put, List.setIfInBounds_toArray, List.set_cons_zero, List.set_cons_succ]
        refine' wpAnyH_take (i := 7) (v := (.slice bb s2.ws.length bbc)) rfl (by kernel_rfl) (by kernel_rfl) (by kernel_rfl) (fun _ _ _ h => by cases h.1) (Or.inl ⟨by rfl, ?hy939⟩) hHeld ?hn939
        case hy939 => (intro wz hSw; have k0 := cell_later hSw kb1; go_simp)
        try simp only [List.getElem_toArray, List.getElem_cons_zero, List.getElem_cons_succ, Act.put, List.setIfInBounds_toArray, List.set_cons_zero, List.set_cons_succ]
        refine' wpAnyH_take (i := 10) (v := _) rfl (by kernel_rfl) (by kernel_rfl) (by kernel_rfl) (fun _ _ _ h => by cases h.1) (Or.inl ⟨by rfl, ?hy940⟩) hHeld ?hn940
        case hy940 => (intro wz hSw; go_simp; first | done | with_reducible rfl)
        try simp only [List.getElem_toArray, List.getElem_cons_zero, List.getElem_cons_succ, Act.put, List.setIfInBounds_toArray, List.set_cons_zero, List.set_cons_succ]
        refine' wpAnyH_take (i := 11) (v := (.slice ac s1.ss.length acc)) rfl (by kernel_rfl) (by kernel_rfl) (by kernel_rfl) (fun _ _ _ h => by cases h.1) (Or.inl ⟨by rfl, ?hy941⟩) hHeld ?hn941
        case hy941 => (intro wz hSw; have k0 := cell_later hSw ka2; go_simp)
        try simp only [List.getElem_toArray, List.getElem_cons_zero, List.getElem_cons_succ, Act.put, List.setIfInBounds_toArray, List.set_cons_zero, List.set_cons_succ]
        refine' wpAnyH_take (i := 13) (v := _) rfl (by kernel_rfl) (by kernel_rfl) (by kernel_rfl) (fun _ _ _ h => by cases h.1) (Or.inl ⟨by rfl, ?hy942⟩) hHeld ?hn942
        case hy942 => (intro wz hSw; go_simp; first | done | with_reducible rfl)
        try simp only [List.getElem_toArray, List.getElem_cons_zero, List.getElem_cons_succ, Act.put, List.setIfInBounds_toArray, List.set_cons_zero, List.set_cons_succ]
        refine' wpAnyH_take (i := 14) (v := (.slice bc s2.ss.length bcc)) rfl (by kernel_rfl) (by kernel_rfl) (by kernel_rfl) (fun _ _ _ h => by cases h.1) (Or.inl ⟨by rfl, ?hy943⟩) hHeld ?hn943
        case hy943 => (intro wz hSw; have k0 := cell_later hSw kb2; go_simp)
        try simp only [List.getElem_toArray, List.getElem_cons_zero, List.getElem_cons_succ, Act.put, List.setIfInBounds_toArray, List.set_cons_zero, List.set_cons_succ]
        refine wpAnyH_ready (rs := [2, 9, 17]) (by kernel_rfl) (by simp) ?_
        refine AllReadyH.cons rfl (fun K hK => ?_) (AllReadyH.cons rfl (fun K hK => ?_) (AllReadyH.cons rfl (fun K hK => ?_) AllReadyH.nil))
        · go_simp
          have hC2 := Cs.new1 hC
          replace hC2 := hC2.below (Below.drew (Below.refl _ _))
          have AL : Below w9.heap.size w9 (World.drew (World.alloc w9 (.cells #[] 49))) := ((Below.refl _ _).alloc (Nat.le_refl _) _).drew
          obtain ⟨g1, hg1⟩ : ∃ x, x = (w9).heap.size := ⟨_, rfl⟩
          rw [← hg1] at hC2 ⊢
          clear hg1 hC
          have hC := hC2
          clear hC2
          generalize (World.drew (World.alloc w9 (.cells #[] 49))) = wQ at *
          refine hK.out _ _ (AL) (fun hHeld => ?_)
          clear hK K
          refine wpAnyH_ready (rs := [5, 9, 17]) (by kernel_rfl) (by simp) ?_
          refine AllReadyH.cons rfl (fun K hK => ?_) (AllReadyH.cons rfl (fun K hK => ?_) (AllReadyH.cons rfl (fun K hK => ?_) AllReadyH.nil))
          · refine wp_append_row _ _ _ 41 rfl Bs 49 jwi _ 2 16 Try.underlying41 jw0 jw1 jw2 jw3 rfl (by decide) (.slice (some ⟨g1, 0, none⟩) 0 0) ([] : List (Int × Int)).length (pcells ([] : List (Int × Int))) rfl (hC.r1 _ _ rfl) (.slice ab s1.ws.length abc) s1.ws.length (pcells s1.ws) rfl 0 (HRA.out.below hHeld).ws (pcells_one _) (by have := HLN.out; unfold maxLen; simp; omega) (by have := HLN.out; simp; omega) hC.z ?_
            intro p1a wP ownp1a growp1a atp1a
            obtain ⟨p1aa, p1an, p1ac, hp1a⟩ : ∃ a n c, p1a = .slice a n c := by obtain ⟨a', c', h'⟩ := rowg_slice ownp1a; exact ⟨_, _, _, h'⟩
            subst hp1a
            have hbp1a := hC.grow1 HBs.out hHeld growp1a
            have hC2 := hC.app1 ownp1a growp1a atp1a
            clear hC ownp1a growp1a atp1a
            have hC := hC2
            clear hC2
            refine hK.out _ _ (hbp1a) (fun hHeld => ?_)
            clear hK K
            refine wpAnyH_ready (rs := [8, 9, 17]) (by kernel_rfl) (by simp) ?_
            refine AllReadyH.cons rfl (fun K hK => ?_) (AllReadyH.cons rfl (fun K hK => ?_) (AllReadyH.cons rfl (fun K hK => ?_) AllReadyH.nil))
            · refine wp_append_row _ _ _ 41 rfl Bs 49 jwi _ 2 16 Try.underlying41 jw0 jw1 jw2 jw3 rfl (by decide) (.slice p1aa p1an p1ac) ([] ++ s1.ws : List (Int × Int)).length (pcells ([] ++ s1.ws : List (Int × Int))) rfl (hC.r1 _ _ rfl) (.slice bb s2.ws.length bbc) s2.ws.length (pcells s2.ws) rfl 0 (HRB.out.below hHeld).ws (pcells_one _) (by have := HLN.out; unfold maxLen; simp; omega) (by have := HLN.out; simp; omega) hC.z ?_
              intro p1b wP ownp1b growp1b atp1b
              obtain ⟨p1ba, p1bn, p1bc, hp1b⟩ : ∃ a n c, p1b = .slice a n c := by obtain ⟨a', c', h'⟩ := rowg_slice ownp1b; exact ⟨_, _, _, h'⟩
              subst hp1b
              have hbp1b := hC.grow1 HBs.out hHeld growp1b
              have hC2 := hC.app1 ownp1b growp1b atp1b
              clear hC ownp1b growp1b atp1b
              have hC := hC2
              clear hC2
              refine hK.out _ _ (hbp1b) (fun hHeld => ?_)
              clear hK K
              refine wpAnyH_ready (rs := [9, 17]) (by kernel_rfl) (by simp) ?_
              refine AllReadyH.cons rfl (fun K hK => ?_) (AllReadyH.cons rfl (fun K hK => ?_) AllReadyH.nil)
              · go_simp
                have hC2 := Cs.new2 hC
                have AL : Below (wP).heap.size wP (World.alloc wP (.cells #[] 80)) := (Below.refl _ _).alloc (Nat.le_refl _) _
                obtain ⟨g2, hg2⟩ : ∃ x, x = (wP).heap.size := ⟨_, rfl⟩
                rw [← hg2] at hC2 ⊢
                clear hg2 hC
                have hC := hC2
                clear hC2
                generalize (World.alloc wP (.cells #[] 80)) = wQ at *
                refine hK.out _ _ (Below.then hHeld AL hHeld.size) (fun hHeld => ?_)
                clear hK K
                refine wpAnyH_ready (rs := [12, 17]) (by kernel_rfl) (by simp) ?_
                refine AllReadyH.cons rfl (fun K hK => ?_) (AllReadyH.cons rfl (fun K hK => ?_) AllReadyH.nil)
                · refine wp_append_row _ _ _ 42 rfl Bs 80 jsi _ 2 16 Try.underlying42 js0 js1 js2 js3 rfl (by decide) (.slice (some ⟨g2, 0, none⟩) 0 0) ([] : List (Int × Int)).length (pcells ([] : List (Int × Int))) rfl (hC.r2 _ _ rfl) (.slice ac s1.ss.length acc) s1.ss.length (pcells s1.ss) rfl 0 (HRA.out.below hHeld).ss (pcells_one _) (by have := HLN.out; unfold maxLen; simp; omega) (by have := HLN.out; simp; omega) hC.z ?_
                  intro p2a wP ownp2a growp2a atp2a
                  obtain ⟨p2aa, p2an, p2ac, hp2a⟩ : ∃ a n c, p2a = .slice a n c := by obtain ⟨a', c', h'⟩ := rowg_slice ownp2a; exact ⟨_, _, _, h'⟩
                  subst hp2a
                  have hbp2a := hC.grow2 HBs.out hHeld growp2a
                  have hC2 := hC.app2 ownp2a growp2a atp2a
                  clear hC ownp2a growp2a atp2a
                  have hC := hC2
                  clear hC2
                  refine hK.out _ _ (hbp2a) (fun hHeld => ?_)
                  clear hK K
                  refine wpAnyH_ready (rs := [15, 17]) (by kernel_rfl) (by simp) ?_
                  refine AllReadyH.cons rfl (fun K hK => ?_) (AllReadyH.cons rfl (fun K hK => ?_) AllReadyH.nil)
                  · refine wp_append_row _ _ _ 42 rfl Bs 80 jsi _ 2 16 Try.underlying42 js0 js1 js2 js3 rfl (by decide) (.slice p2aa p2an p2ac) ([] ++ s1.ss : List (Int × Int)).length (pcells ([] ++ s1.ss : List (Int × Int))) rfl (hC.r2 _ _ rfl) (.slice bc s2.ss.length bcc) s2.ss.length (pcells s2.ss) rfl 0 (HRB.out.below hHeld).ss (pcells_one _) (by have := HLN.out; unfold maxLen; simp; omega) (by have := HLN.out; simp; omega) hC.z ?_
                    intro p2b wP ownp2b growp2b atp2b
                    obtain ⟨p2ba, p2bn, p2bc, hp2b⟩ : ∃ a n c, p2b = .slice a n c := by obtain ⟨a', c', h'⟩ := rowg_slice ownp2b; exact ⟨_, _, _, h'⟩
                    subst hp2b
                    have hbp2b := hC.grow2 HBs.out hHeld growp2b
                    have hC2 := hC.app2 ownp2b growp2b atp2b
                    clear hC ownp2b growp2b atp2b
                    have hC := hC2
                    clear hC2
                    refine hK.out _ _ (hbp2b) (fun hHeld => ?_)
                    clear hK K
                    refine' wpAnyH_take (i := 16) (v := _) rfl (by kernel_rfl) (by kernel_rfl) (by kernel_rfl) (fun _ _ _ h => by cases h.1) (Or.inl ⟨by rfl, ?hy944⟩) hHeld ?hn944
                    case hy944 => (intro wz hSw; go_simp; first | done | with_reducible rfl)
                    try simp only [List.getElem_toArray, List.getElem_cons_zero, List.getElem_cons_succ, Act.put, List.setIfInBounds_toArray, List.set_cons_zero, List.set_cons_succ]
                    refine wpAnyH_ready (rs := [17]) (by kernel_rfl) (by simp) ?_
                    refine AllReadyH.cons rfl (fun K hK => ?_) AllReadyH.nil
                    go_simp
                    have hC2 := Cs.newq hC 44
                    have AL : Below (wP).heap.size wP (World.alloc wP (.cells #[.slice none 0 0, .slice none 0 0, .slice none 0 0] 44)) := (Below.refl _ _).alloc (Nat.le_refl _) _
                    obtain ⟨qb, hqb⟩ : ∃ x, x = (wP).heap.size := ⟨_, rfl⟩
                    rw [← hqb] at hC2 ⊢
                    clear hqb hC
                    have hC := hC2
                    clear hC2
                    generalize (World.alloc wP (.cells #[.slice none 0 0, .slice none 0 0, .slice none 0 0] 44)) = wQ at *
                    refine hK.out _ _ (Below.then hHeld AL hHeld.size) (fun hHeld => ?_)
                    clear hK K
                    refine wpAnyH_ready (rs := [18]) (by kernel_rfl) (by simp) ?_
                    refine AllReadyH.cons rfl (fun K hK => ?_) AllReadyH.nil
                    obtain ⟨CY, hyq⟩ := hC.bq _ rfl
                    obtain ⟨⟨c0, c1, c2⟩, f0, f1, f2⟩ := id CY
                    have GQ : C3 (((wQ.setCell ⟨qb, 0, none⟩ (.slice ba s2.n.length bac)).setCell ⟨qb, 1, none⟩ (.slice p1ba p1bn p1bc)).setCell ⟨qb, 2, none⟩ (.slice p2ba p2bn p2bc)) qb (.slice ba s2.n.length bac) (.slice p1ba p1bn p1bc) (.slice p2ba p2bn p2bc) := ((CY.set0 _).set1 _).set2 _
                    have hfar : ∀ b, b ≠ qb → (((wQ.setCell ⟨qb, 0, none⟩ (.slice ba s2.n.length bac)).setCell ⟨qb, 1, none⟩ (.slice p1ba p1bn p1bc)).setCell ⟨qb, 2, none⟩ (.slice p2ba p2bn p2bc)).heap[b]? = wQ.heap[b]? := fun b hb => ((Below.heap_setCell _ _ _ _ hb).trans (Below.heap_setCell _ _ _ _ hb)).trans (Below.heap_setCell _ _ _ _ hb)
                    have q1 := rowp_frame (hC.r1 _ _ rfl) (fun k hk => hfar k (fun e => hC.n1q _ _ _ rfl rfl (e ▸ hk)))
                    have q2 := rowp_frame (hC.r2 _ _ rfl) (fun k hk => hfar k (fun e => hC.n2q _ _ _ rfl rfl (e ▸ hk)))
                    have hyq' : w9.heap.size ≤ qb := by have := HBs.out; omega
                    have BQ : Below w9.heap.size w9 (((wQ.setCell ⟨qb, 0, none⟩ (.slice ba s2.n.length bac)).setCell ⟨qb, 1, none⟩ (.slice p1ba p1bn p1bc)).setCell ⟨qb, 2, none⟩ (.slice p2ba p2bn p2bc)) := ((hHeld.setCell hyq' _).setCell hyq' _).setCell hyq' _
                    go_simp
                    refine hK.out _ _ (BQ) (fun hHeld => ?_)
                    clear hK K
                    refine wpAnyH_done (by kernel_rfl) ?_ _
                    exact ⟨rfl, qb, _, _, ⟨rfl, rfl, rfl, rfl, rfl, rfl, rfl, rfl, rfl, rfl, rfl, trivial⟩, hHeld, GQ, q1, q2⟩
                  · go_simp
                    have hC2 := Cs.newq hC 44
                    have AL : Below (wP).heap.size wP (World.alloc wP (.cells #[.slice none 0 0, .slice none 0 0, .slice none 0 0] 44)) := (Below.refl _ _).alloc (Nat.le_refl _) _
                    obtain ⟨qb, hqb⟩ : ∃ x, x = (wP).heap.size := ⟨_, rfl⟩
                    rw [← hqb] at hC2 ⊢
                    clear hqb hC
                    have hC := hC2
                    clear hC2
                    generalize (World.alloc wP (.cells #[.slice none 0 0, .slice none 0 0, .slice none 0 0] 44)) = wQ at *
                    refine hK.out _ _ (Below.then hHeld AL hHeld.size) (fun hHeld => ?_)
                    clear hK K
                    refine wpAnyH_ready (rs := [15]) (by kernel_rfl) (by simp) ?_
                    refine AllReadyH.cons rfl (fun K hK => ?_) AllReadyH.nil
                    refine wp_append_row _ _ _ 42 rfl Bs 80 jsi _ 2 16 Try.underlying42 js0 js1 js2 js3 rfl (by decide) (.slice p2aa p2an p2ac) ([] ++ s1.ss : List (Int × Int)).length (pcells ([] ++ s1.ss : List (Int × Int))) rfl (hC.r2 _ _ rfl) (.slice bc s2.ss.length bcc) s2.ss.length (pcells s2.ss) rfl 0 (HRB.out.below hHeld).ss (pcells_one _) (by have := HLN.out; unfold maxLen; simp; omega) (by have := HLN.out; simp; omega) hC.z ?_
                    intro p2b wP ownp2b growp2b atp2b
                    obtain ⟨p2ba, p2bn, p2bc, hp2b⟩ : ∃ a n c, p2b = .slice a n c := by obtain ⟨a', c', h'⟩ := rowg_slice ownp2b; exact ⟨_, _, _, h'⟩
                    subst hp2b
                    have hbp2b := hC.grow2 HBs.out hHeld growp2b
                    have hC2 := hC.app2 ownp2b growp2b atp2b
                    clear hC ownp2b growp2b atp2b
                    have hC := hC2
                    clear hC2
                    refine hK.out _ _ (hbp2b) (fun hHeld => ?_)
                    clear hK K
                    refine' wpAnyH_take (i := 16) (v := _) rfl (by kernel_rfl) (by kernel_rfl) (by kernel_rfl) (fun _ _ _ h => by cases h.1) (Or.inl ⟨by rfl, ?hy945⟩) hHeld ?hn945
                    case hy945 => (intro wz hSw; go_simp; first | done | with_reducible rfl)
                    try simp only [List.getElem_toArray, List.getElem_cons_zero, List.getElem_cons_succ, Act.put, List.setIfInBounds_toArray, List.set_cons_zero, List.set_cons_succ]
                    refine wpAnyH_ready (rs := [18]) (by kernel_rfl) (by simp) ?_
                    refine AllReadyH.cons rfl (fun K hK => ?_) AllReadyH.nil
                    obtain ⟨CY, hyq⟩ := hC.bq _ rfl
                    obtain ⟨⟨c0, c1, c2⟩, f0, f1, f2⟩ := id CY
                    have GQ : C3 (((wP.setCell ⟨qb, 0, none⟩ (.slice ba s2.n.length bac)).setCell ⟨qb, 1, none⟩ (.slice p1ba p1bn p1bc)).setCell ⟨qb, 2, none⟩ (.slice p2ba p2bn p2bc)) qb (.slice ba s2.n.length bac) (.slice p1ba p1bn p1bc) (.slice p2ba p2bn p2bc) := ((CY.set0 _).set1 _).set2 _
                    have hfar : ∀ b, b ≠ qb → (((wP.setCell ⟨qb, 0, none⟩ (.slice ba s2.n.length bac)).setCell ⟨qb, 1, none⟩ (.slice p1ba p1bn p1bc)).setCell ⟨qb, 2, none⟩ (.slice p2ba p2bn p2bc)).heap[b]? = wP.heap[b]? := fun b hb => ((Below.heap_setCell _ _ _ _ hb).trans (Below.heap_setCell _ _ _ _ hb)).trans (Below.heap_setCell _ _ _ _ hb)
                    have q1 := rowp_frame (hC.r1 _ _ rfl) (fun k hk => hfar k (fun e => hC.n1q _ _ _ rfl rfl (e ▸ hk)))
                    have q2 := rowp_frame (hC.r2 _ _ rfl) (fun k hk => hfar k (fun e => hC.n2q _ _ _ rfl rfl (e ▸ hk)))
                    have hyq' : w9.heap.size ≤ qb := by have := HBs.out; omega
                    have BQ : Below w9.heap.size w9 (((wP.setCell ⟨qb, 0, none⟩ (.slice ba s2.n.length bac)).setCell ⟨qb, 1, none⟩ (.slice p1ba p1bn p1bc)).setCell ⟨qb, 2, none⟩ (.slice p2ba p2bn p2bc)) := ((hHeld.setCell hyq' _).setCell hyq' _).setCell hyq' _
                    go_simp
                    refine hK.out _ _ (BQ) (fun hHeld => ?_)
                    clear hK K
                    refine wpAnyH_done (by kernel_rfl) ?_ _
                    exact ⟨rfl, qb, _, _, ⟨rfl, rfl, rfl, rfl, rfl, rfl, rfl, rfl, rfl, rfl, rfl, trivial⟩, hHeld, GQ, q1, q2⟩
                · go_simp
                  have hC2 := Cs.newq hC 44
                  have AL : Below (wQ).heap.size wQ (World.alloc wQ (.cells #[.slice none 0 0, .slice none 0 0, .slice none 0 0] 44)) := (Below.refl _ _).alloc (Nat.le_refl _) _
                  obtain ⟨qb, hqb⟩ : ∃ x, x = (wQ).heap.size := ⟨_, rfl⟩
                  rw [← hqb] at hC2 ⊢
                  clear hqb hC
                  have hC := hC2
                  clear hC2
                  generalize (World.alloc wQ (.cells #[.slice none 0 0, .slice none 0 0, .slice none 0 0] 44)) = wQ at *
                  refine hK.out _ _ (Below.then hHeld AL hHeld.size) (fun hHeld => ?_)
                  clear hK K
                  refine wpAnyH_ready (rs := [12]) (by kernel_rfl) (by simp) ?_
                  refine AllReadyH.cons rfl (fun K hK => ?_) AllReadyH.nil
                  refine wp_append_row _ _ _ 42 rfl Bs 80 jsi _ 2 16 Try.underlying42 js0 js1 js2 js3 rfl (by decide) (.slice (some ⟨g2, 0, none⟩) 0 0) ([] : List (Int × Int)).length (pcells ([] : List (Int × Int))) rfl (hC.r2 _ _ rfl) (.slice ac s1.ss.length acc) s1.ss.length (pcells s1.ss) rfl 0 (HRA.out.below hHeld).ss (pcells_one _) (by have := HLN.out; unfold maxLen; simp; omega) (by have := HLN.out; simp; omega) hC.z ?_
                  intro p2a wP ownp2a growp2a atp2a
                  obtain ⟨p2aa, p2an, p2ac, hp2a⟩ : ∃ a n c, p2a = .slice a n c := by obtain ⟨a', c', h'⟩ := rowg_slice ownp2a; exact ⟨_, _, _, h'⟩
                  subst hp2a
                  have hbp2a := hC.grow2 HBs.out hHeld growp2a
                  have hC2 := hC.app2 ownp2a growp2a atp2a
                  clear hC ownp2a growp2a atp2a
                  have hC := hC2
                  clear hC2
                  refine hK.out _ _ (hbp2a) (fun hHeld => ?_)
                  clear hK K
                  refine wpAnyH_ready (rs := [15]) (by kernel_rfl) (by simp) ?_
                  refine AllReadyH.cons rfl (fun K hK => ?_) AllReadyH.nil
                  refine wp_append_row _ _ _ 42 rfl Bs 80 jsi _ 2 16 Try.underlying42 js0 js1 js2 js3 rfl (by decide) (.slice p2aa p2an p2ac) ([] ++ s1.ss : List (Int × Int)).length (pcells ([] ++ s1.ss : List (Int × Int))) rfl (hC.r2 _ _ rfl) (.slice bc s2.ss.length bcc) s2.ss.length (pcells s2.ss) rfl 0 (HRB.out.below hHeld).ss (pcells_one _) (by have := HLN.out; unfold maxLen; simp; omega) (by have := HLN.out; simp; omega) hC.z ?_
                  intro p2b wP ownp2b growp2b atp2b
                  obtain ⟨p2ba, p2bn, p2bc, hp2b⟩ : ∃ a n c, p2b = .slice a n c := by obtain ⟨a', c', h'⟩ := rowg_slice ownp2b; exact ⟨_, _, _, h'⟩
                  subst hp2b
                  have hbp2b := hC.grow2 HBs.out hHeld growp2b
                  have hC2 := hC.app2 ownp2b growp2b atp2b
                  clear hC ownp2b growp2b atp2b
                  have hC := hC2
                  clear hC2
                  refine hK.out _ _ (hbp2b) (fun hHeld => ?_)
                  clear hK K
                  refine' wpAnyH_take (i := 16) (v := _) rfl (by kernel_rfl) (by kernel_rfl) (by kernel_rfl) (fun _ _ _ h => by cases h.1) (Or.inl ⟨by rfl, ?hy946⟩) hHeld ?hn946
                  case hy946 => (intro wz hSw; go_simp; first | done | with_reducible rfl)
                  try simp only [List.getElem_toArray, List.getElem_cons_zero, List.getElem_cons_succ, Act.put, List.setIfInBounds_toArray, List.set_cons_zero, List.set_cons_succ]
                  refine wpAnyH_ready (rs := [18]) (by kernel_rfl) (by simp) ?_
                  refine AllReadyH.cons rfl (fun K hK => ?_) AllReadyH.nil
                  obtain ⟨CY, hyq⟩ := hC.bq _ rfl
                  obtain ⟨⟨c0, c1, c2⟩, f0, f1, f2⟩ := id CY
                  have GQ : C3 (((wP.setCell ⟨qb, 0, none⟩ (.slice ba s2.n.length bac)).setCell ⟨qb, 1, none⟩ (.slice p1ba p1bn p1bc)).setCell ⟨qb, 2, none⟩ (.slice p2ba p2bn p2bc)) qb (.slice ba s2.n.length bac) (.slice p1ba p1bn p1bc) (.slice p2ba p2bn p2bc) := ((CY.set0 _).set1 _).set2 _
                  have hfar : ∀ b, b ≠ qb → (((wP.setCell ⟨qb, 0, none⟩ (.slice ba s2.n.length bac)).setCell ⟨qb, 1, none⟩ (.slice p1ba p1bn p1bc)).setCell ⟨qb, 2, none⟩ (.slice p2ba p2bn p2bc)).heap[b]? = wP.heap[b]? := fun b hb => ((Below.heap_setCell _ _ _ _ hb).trans (Below.heap_setCell _ _ _ _ hb)).trans (Below.heap_setCell _ _ _ _ hb)
                  have q1 := rowp_frame (hC.r1 _ _ rfl) (fun k hk => hfar k (fun e => hC.n1q _ _ _ rfl rfl (e ▸ hk)))
                  have q2 := rowp_frame (hC.r2 _ _ rfl) (fun k hk => hfar k (fun e => hC.n2q _ _ _ rfl rfl (e ▸ hk)))
                  have hyq' : w9.heap.size ≤ qb := by have := HBs.out; omega
                  have BQ : Below w9.heap.size w9 (((wP.setCell ⟨qb, 0, none⟩ (.slice ba s2.n.length bac)).setCell ⟨qb, 1, none⟩ (.slice p1ba p1bn p1bc)).setCell ⟨qb, 2, none⟩ (.slice p2ba p2bn p2bc)) := ((hHeld.setCell hyq' _).setCell hyq' _).setCell hyq' _
                  go_simp
                  refine hK.out _ _ (BQ) (fun hHeld => ?_)
                  clear hK K
                  refine wpAnyH_done (by kernel_rfl) ?_ _
                  exact ⟨rfl, qb, _, _, ⟨rfl, rfl, rfl, rfl, rfl, rfl, rfl, rfl, rfl, rfl, rfl, trivial⟩, hHeld, GQ, q1, q2⟩
              · go_simp
                have hC2 := Cs.newq hC 44
                have AL : Below (wP).heap.size wP (World.alloc wP (.cells #[.slice none 0 0, .slice none 0 0, .slice none 0 0] 44)) := (Below.refl _ _).alloc (Nat.le_refl _) _
                obtain ⟨qb, hqb⟩ : ∃ x, x = (wP).heap.size := ⟨_, rfl⟩
                rw [← hqb] at hC2 ⊢
                clear hqb hC
                have hC := hC2
                clear hC2
                generalize (World.alloc wP (.cells #[.slice none 0 0, .slice none 0 0, .slice none 0 0] 44)) = wQ at *
                refine hK.out _ _ (Below.then hHeld AL hHeld.size) (fun hHeld => ?_)
                clear hK K
                refine wpAnyH_ready (rs := [9]) (by kernel_rfl) (by simp) ?_
                refine AllReadyH.cons rfl (fun K hK => ?_) AllReadyH.nil
                go_simp
                have hC2 := Cs.new2 hC
                have AL : Below (wQ).heap.size wQ (World.alloc wQ (.cells #[] 80)) := (Below.refl _ _).alloc (Nat.le_refl _) _
                obtain ⟨g2, hg2⟩ : ∃ x, x = (wQ).heap.size := ⟨_, rfl⟩
                rw [← hg2] at hC2 ⊢
                clear hg2 hC
                have hC := hC2
                clear hC2
                generalize (World.alloc wQ (.cells #[] 80)) = wQ at *
                refine hK.out _ _ (Below.then hHeld AL hHeld.size) (fun hHeld => ?_)
                clear hK K
                refine wpAnyH_ready (rs := [12]) (by kernel_rfl) (by simp) ?_
                refine AllReadyH.cons rfl (fun K hK => ?_) AllReadyH.nil
                refine wp_append_row _ _ _ 42 rfl Bs 80 jsi _ 2 16 Try.underlying42 js0 js1 js2 js3 rfl (by decide) (.slice (some ⟨g2, 0, none⟩) 0 0) ([] : List (Int × Int)).length (pcells ([] : List (Int × Int))) rfl (hC.r2 _ _ rfl) (.slice ac s1.ss.length acc) s1.ss.length (pcells s1.ss) rfl 0 (HRA.out.below hHeld).ss (pcells_one _) (by have := HLN.out; unfold maxLen; simp; omega) (by have := HLN.out; simp; omega) hC.z ?_
                intro p2a wP ownp2a growp2a atp2a
                obtain ⟨p2aa, p2an, p2ac, hp2a⟩ : ∃ a n c, p2a = .slice a n c := by obtain ⟨a', c', h'⟩ := rowg_slice ownp2a; exact ⟨_, _, _, h'⟩
                subst hp2a
                have hbp2a := hC.grow2 HBs.out hHeld growp2a
                have hC2 := hC.app2 ownp2a growp2a atp2a
                clear hC ownp2a growp2a atp2a
                have hC := hC2
                clear hC2
                refine hK.out _ _ (hbp2a) (fun hHeld => ?_)
                clear hK K
                refine wpAnyH_ready (rs := [15]) (by kernel_rfl) (by simp) ?_
                refine AllReadyH.cons rfl (fun K hK => ?_) AllReadyH.nil
                refine wp_append_row _ _ _ 42 rfl Bs 80 jsi _ 2 16 Try.underlying42 js0 js1 js2 js3 rfl (by decide) (.slice p2aa p2an p2ac) ([] ++ s1.ss : List (Int × Int)).length (pcells ([] ++ s1.ss : List (Int × Int))) rfl (hC.r2 _ _ rfl) (.slice bc s2.ss.length bcc) s2.ss.length (pcells s2.ss) rfl 0 (HRB.out.below hHeld).ss (pcells_one _) (by have := HLN.out; unfold maxLen; simp; omega) (by have := HLN.out; simp; omega) hC.z ?_
                intro p2b wP ownp2b growp2b atp2b
                obtain ⟨p2ba, p2bn, p2bc, hp2b⟩ : ∃ a n c, p2b = .slice a n c := by obtain ⟨a', c', h'⟩ := rowg_slice ownp2b; exact ⟨_, _, _, h'⟩
                subst hp2b
                have hbp2b := hC.grow2 HBs.out hHeld growp2b
                have hC2 := hC.app2 ownp2b growp2b atp2b
                clear hC ownp2b growp2b atp2b
                have hC := hC2
                clear hC2
                refine hK.out _ _ (hbp2b) (fun hHeld => ?_)
                clear hK K
                refine' wpAnyH_take (i := 16) (v := _) rfl (by kernel_rfl) (by kernel_rfl) (by kernel_rfl) (fun _ _ _ h => by cases h.1) (Or.inl ⟨by rfl, ?hy947⟩) hHeld ?hn947
                case hy947 => (intro wz hSw; go_simp; first | done | with_reducible rfl)
                try simp only [List.getElem_toArray, List.getElem_cons_zero, List.getElem_cons_succ, Act.put, List.setIfInBounds_toArray, List.set_cons_zero, List.set_cons_succ]
                refine wpAnyH_ready (rs := [18]) (by kernel_rfl) (by simp) ?_
                refine AllReadyH.cons rfl (fun K hK => ?_) AllReadyH.nil
                obtain ⟨CY, hyq⟩ := hC.bq _ rfl
                obtain ⟨⟨c0, c1, c2⟩, f0, f1, f2⟩ := id CY
                have GQ : C3 (((wP.setCell ⟨qb, 0, none⟩ (.slice ba s2.n.length bac)).setCell ⟨qb, 1, none⟩ (.slice p1ba p1bn p1bc)).setCell ⟨qb, 2, none⟩ (.slice p2ba p2bn p2bc)) qb (.slice ba s2.n.length bac) (.slice p1ba p1bn p1bc) (.slice p2ba p2bn p2bc) := ((CY.set0 _).set1 _).set2 _
                have hfar : ∀ b, b ≠ qb → (((wP.setCell ⟨qb, 0, none⟩ (.slice ba s2.n.length bac)).setCell ⟨qb, 1, none⟩ (.slice p1ba p1bn p1bc)).setCell ⟨qb, 2, none⟩ (.slice p2ba p2bn p2bc)).heap[b]? = wP.heap[b]? := fun b hb => ((Below.heap_setCell _ _ _ _ hb).trans (Below.heap_setCell _ _ _ _ hb)).trans (Below.heap_setCell _ _ _ _ hb)
                have q1 := rowp_frame (hC.r1 _ _ rfl) (fun k hk => hfar k (fun e => hC.n1q _ _ _ rfl rfl (e ▸ hk)))
                have q2 := rowp_frame (hC.r2 _ _ rfl) (fun k hk => hfar k (fun e => hC.n2q _ _ _ rfl rfl (e ▸ hk)))
                have hyq' : w9.heap.size ≤ qb := by have := HBs.out; omega
                have BQ : Below w9.heap.size w9 (((wP.setCell ⟨qb, 0, none⟩ (.slice ba s2.n.length bac)).setCell ⟨qb, 1, none⟩ (.slice p1ba p1bn p1bc)).setCell ⟨qb, 2, none⟩ (.slice p2ba p2bn p2bc)) := ((hHeld.setCell hyq' _).setCell hyq' _).setCell hyq' _
                go_simp
                refine hK.out _ _ (BQ) (fun hHeld => ?_)
                clear hK K
                refine wpAnyH_done (by kernel_rfl) ?_ _
                exact ⟨rfl, qb, _, _, ⟨rfl, rfl, rfl, rfl, rfl, rfl, rfl, rfl, rfl, rfl, rfl, trivial⟩, hHeld, GQ, q1, q2⟩
            · go_simp
              have hC2 := Cs.new2 hC
              have AL : Below (wP).heap.size wP (World.alloc wP (.cells #[] 80)) := (Below.refl _ _).alloc (Nat.le_refl _) _
              obtain ⟨g2, hg2⟩ : ∃ x, x = (wP).heap.size := ⟨_, rfl⟩
              rw [← hg2] at hC2 ⊢
              clear hg2 hC
              have hC := hC2
              clear hC2
              generalize (World.alloc wP (.cells #[] 80)) = wQ at *
              refine hK.out _ _ (Below.then hHeld AL hHeld.size) (fun hHeld => ?_)
              clear hK K
              refine wpAnyH_ready (rs := [8, 17]) (by kernel_rfl) (by simp) ?_
              refine AllReadyH.cons rfl (fun K hK => ?_) (AllReadyH.cons rfl (fun K hK => ?_) AllReadyH.nil)
              · refine wp_append_row _ _ _ 41 rfl Bs 49 jwi _ 2 16 Try.underlying41 jw0 jw1 jw2 jw3 rfl (by decide) (.slice p1aa p1an p1ac) ([] ++ s1.ws : List (Int × Int)).length (pcells ([] ++ s1.ws : List (Int × Int))) rfl (hC.r1 _ _ rfl) (.slice bb s2.ws.length bbc) s2.ws.length (pcells s2.ws) rfl 0 (HRB.out.below hHeld).ws (pcells_one _) (by have := HLN.out; unfold maxLen; simp; omega) (by have := HLN.out; simp; omega) hC.z ?_
                intro p1b wP ownp1b growp1b atp1b
                obtain ⟨p1ba, p1bn, p1bc, hp1b⟩ : ∃ a n c, p1b = .slice a n c := by obtain ⟨a', c', h'⟩ := rowg_slice ownp1b; exact ⟨_, _, _, h'⟩
                subst hp1b
                have hbp1b := hC.grow1 HBs.out hHeld growp1b
                have hC2 := hC.app1 ownp1b growp1b atp1b
                clear hC ownp1b growp1b atp1b
                have hC := hC2
                clear hC2
                refine hK.out _ _ (hbp1b) (fun hHeld => ?_)
                clear hK K
                refine wpAnyH_ready (rs := [12, 17]) (by kernel_rfl) (by simp) ?_
                refine AllReadyH.cons rfl (fun K hK => ?_) (AllReadyH.cons rfl (fun K hK => ?_) AllReadyH.nil)
                · refine wp_append_row _ _ _ 42 rfl Bs 80 jsi _ 2 16 Try.underlying42 js0 js1 js2 js3 rfl (by decide) (.slice (some ⟨g2, 0, none⟩) 0 0) ([] : List (Int × Int)).length (pcells ([] : List (Int × Int))) rfl (hC.r2 _ _ rfl) (.slice ac s1.ss.length acc) s1.ss.length (pcells s1.ss) rfl 0 (HRA.out.below hHeld).ss (pcells_one _) (by have := HLN.out; unfold maxLen; simp; omega) (by have := HLN.out; simp; omega) hC.z ?_
                  intro p2a wP ownp2a growp2a atp2a
                  obtain ⟨p2aa, p2an, p2ac, hp2a⟩ : ∃ a n c, p2a = .slice a n c := by obtain ⟨a', c', h'⟩ := rowg_slice ownp2a; exact ⟨_, _, _, h'⟩
                  subst hp2a
                  have hbp2a := hC.grow2 HBs.out hHeld growp2a
                  have hC2 := hC.app2 ownp2a growp2a atp2a
                  clear hC ownp2a growp2a atp2a
                  have hC := hC2
                  clear hC2
                  refine hK.out _ _ (hbp2a) (fun hHeld => ?_)
                  clear hK K
                  refine wpAnyH_ready (rs := [15, 17]) (by kernel_rfl) (by simp) ?_
                  refine AllReadyH.cons rfl (fun K hK => ?_) (AllReadyH.cons rfl (fun K hK => ?_) AllReadyH.nil)
                  · refine wp_append_row _ _ _ 42 rfl Bs 80 jsi _ 2 16 Try.underlying42 js0 js1 js2 js3 rfl (by decide) (.slice p2aa p2an p2ac) ([] ++ s1.ss : List (Int × Int)).length (pcells ([] ++ s1.ss : List (Int × Int))) rfl (hC.r2 _ _ rfl) (.slice bc s2.ss.length bcc) s2.ss.length (pcells s2.ss) rfl 0 (HRB.out.below hHeld).ss (pcells_one _) (by have := HLN.out; unfold maxLen; simp; omega) (by have := HLN.out; simp; omega) hC.z ?_
                    intro p2b wP ownp2b growp2b atp2b
                    obtain ⟨p2ba, p2bn, p2bc, hp2b⟩ : ∃ a n c, p2b = .slice a n c := by obtain ⟨a', c', h'⟩ := rowg_slice ownp2b; exact ⟨_, _, _, h'⟩
                    subst hp2b
                    have hbp2b := hC.grow2 HBs.out hHeld growp2b
                    have hC2 := hC.app2 ownp2b growp2b atp2b
                    clear hC ownp2b growp2b atp2b
                    have hC := hC2
                    clear hC2
                    refine hK.out _ _ (hbp2b) (fun hHeld => ?_)
                    clear hK K
                    refine' wpAnyH_take (i := 16) (v := _) rfl (by kernel_rfl) (by kernel_rfl) (by kernel_rfl) (fun _ _ _ h => by cases h.1) (Or.inl ⟨by rfl, ?hy948⟩) hHeld ?hn948
                    case hy948 => (intro wz hSw; go_simp; first | done | with_reducible rfl)
                    try simp only [List.getElem_toArray, List.getElem_cons_zero, List.getElem_cons_succ, Act.put, List.setIfInBounds_toArray, List.set_cons_zero, List.set_cons_succ]
                    refine wpAnyH_ready (rs := [17]) (by kernel_rfl) (by simp) ?_
                    refine AllReadyH.cons rfl (fun K hK => ?_) AllReadyH.nil
                    go_simp
                    have hC2 := Cs.newq hC 44
                    have AL : Below (wP).heap.size wP (World.alloc wP (.cells #[.slice none 0 0, .slice none 0 0, .slice none 0 0] 44)) := (Below.refl _ _).alloc (Nat.le_refl _) _
                    obtain ⟨qb, hqb⟩ : ∃ x, x = (wP).heap.size := ⟨_, rfl⟩
                    rw [← hqb] at hC2 ⊢
                    clear hqb hC
                    have hC := hC2
                    clear hC2
                    generalize (World.alloc wP (.cells #[.slice none 0 0, .slice none 0 0, .slice none 0 0] 44)) = wQ at *
                    refine hK.out _ _ (Below.then hHeld AL hHeld.size) (fun hHeld => ?_)
                    clear hK K
                    refine wpAnyH_ready (rs := [18]) (by kernel_rfl) (by simp) ?_
                    refine AllReadyH.cons rfl (fun K hK => ?_) AllReadyH.nil
                    obtain ⟨CY, hyq⟩ := hC.bq _ rfl
                    obtain ⟨⟨c0, c1, c2⟩, f0, f1, f2⟩ := id CY
                    have GQ : C3 (((wQ.setCell ⟨qb, 0, none⟩ (.slice ba s2.n.length bac)).setCell ⟨qb, 1, none⟩ (.slice p1ba p1bn p1bc)).setCell ⟨qb, 2, none⟩ (.slice p2ba p2bn p2bc)) qb (.slice ba s2.n.length bac) (.slice p1ba p1bn p1bc) (.slice p2ba p2bn p2bc) := ((CY.set0 _).set1 _).set2 _
                    have hfar : ∀ b, b ≠ qb → (((wQ.setCell ⟨qb, 0, none⟩ (.slice ba s2.n.length bac)).setCell ⟨qb, 1, none⟩ (.slice p1ba p1bn p1bc)).setCell ⟨qb, 2, none⟩ (.slice p2ba p2bn p2bc)).heap[b]? = wQ.heap[b]? := fun b hb => ((Below.heap_setCell _ _ _ _ hb).trans (Below.heap_setCell _ _ _ _ hb)).trans (Below.heap_setCell _ _ _ _ hb)
                    have q1 := rowp_frame (hC.r1 _ _ rfl) (fun k hk => hfar k (fun e => hC.n1q _ _ _ rfl rfl (e ▸ hk)))
                    have q2 := rowp_frame (hC.r2 _ _ rfl) (fun k hk => hfar k (fun e => hC.n2q _ _ _ rfl rfl (e ▸ hk)))
                    have hyq' : w9.heap.size ≤ qb := by have := HBs.out; omega
                    have BQ : Below w9.heap.size w9 (((wQ.setCell ⟨qb, 0, none⟩ (.slice ba s2.n.length bac)).setCell ⟨qb, 1, none⟩ (.slice p1ba p1bn p1bc)).setCell ⟨qb, 2, none⟩ (.slice p2ba p2bn p2bc)) := ((hHeld.setCell hyq' _).setCell hyq' _).setCell hyq' _
                    go_simp
                    refine hK.out _ _ (BQ) (fun hHeld => ?_)
                    clear hK K
                    refine wpAnyH_done (by kernel_rfl) ?_ _
                    exact ⟨rfl, qb, _, _, ⟨rfl, rfl, rfl, rfl, rfl, rfl, rfl, rfl, rfl, rfl, rfl, trivial⟩, hHeld, GQ, q1, q2⟩
                  · go_simp
                    have hC2 := Cs.newq hC 44
                    have AL : Below (wP).heap.size wP (World.alloc wP (.cells #[.slice none 0 0, .slice none 0 0, .slice none 0 0] 44)) := (Below.refl _ _).alloc (Nat.le_refl _) _
                    obtain ⟨qb, hqb⟩ : ∃ x, x = (wP).heap.size := ⟨_, rfl⟩
                    rw [← hqb] at hC2 ⊢
                    clear hqb hC
                    have hC := hC2
                    clear hC2
                    generalize (World.alloc wP (.cells #[.slice none 0 0, .slice none 0 0, .slice none 0 0] 44)) = wQ at *
                    refine hK.out _ _ (Below.then hHeld AL hHeld.size) (fun hHeld => ?_)
                    clear hK K
                    refine wpAnyH_ready (rs := [15]) (by kernel_rfl) (by simp) ?_
                    refine AllReadyH.cons rfl (fun K hK => ?_) AllReadyH.nil
                    refine wp_append_row _ _ _ 42 rfl Bs 80 jsi _ 2 16 Try.underlying42 js0 js1 js2 js3 rfl (by decide) (.slice p2aa p2an p2ac) ([] ++ s1.ss : List (Int × Int)).length (pcells ([] ++ s1.ss : List (Int × Int))) rfl (hC.r2 _ _ rfl) (.slice bc s2.ss.length bcc) s2.ss.length (pcells s2.ss) rfl 0 (HRB.out.below hHeld).ss (pcells_one _) (by have := HLN.out; unfold maxLen; simp; omega) (by have := HLN.out; simp; omega) hC.z ?_
                    intro p2b wP ownp2b growp2b atp2b
                    obtain ⟨p2ba, p2bn, p2bc, hp2b⟩ : ∃ a n c, p2b = .slice a n c := by obtain ⟨a', c', h'⟩ := rowg_slice ownp2b; exact ⟨_, _, _, h'⟩
                    subst hp2b
                    have hbp2b := hC.grow2 HBs.out hHeld growp2b
                    have hC2 := hC.app2 ownp2b growp2b atp2b
                    clear hC ownp2b growp2b atp2b
                    have hC := hC2
                    clear hC2
                    refine hK.out _ _ (hbp2b) (fun hHeld => ?_)
                    clear hK K
                    refine' wpAnyH_take (i := 16) (v := _) rfl (by kernel_rfl) (by kernel_rfl) (by kernel_rfl) (fun _ _ _ h => by cases h.1) (Or.inl ⟨by rfl, ?hy949⟩) hHeld ?hn949
                    case hy949 => (intro wz hSw; go_simp; first | done | with_reducible rfl)
                    try simp only [List.getElem_toArray, List.getElem_cons_zero, List.getElem_cons_succ, Act.put, List.setIfInBounds_toArray, List.set_cons_zero, List.set_cons_succ]
                    refine wpAnyH_ready (rs := [18]) (by kernel_rfl) (by simp) ?_
                    refine AllReadyH.cons rfl (fun K hK => ?_) AllReadyH.nil
                    obtain ⟨CY, hyq⟩ := hC.bq _ rfl
                    obtain ⟨⟨c0, c1, c2⟩, f0, f1, f2⟩ := id CY
                    have GQ : C3 (((wP.setCell ⟨qb, 0, none⟩ (.slice ba s2.n.length bac)).setCell ⟨qb, 1, none⟩ (.slice p1ba p1bn p1bc)).setCell ⟨qb, 2, none⟩ (.slice p2ba p2bn p2bc)) qb (.slice ba s2.n.length bac) (.slice p1ba p1bn p1bc) (.slice p2ba p2bn p2bc) := ((CY.set0 _).set1 _).set2 _
                    have hfar : ∀ b, b ≠ qb → (((wP.setCell ⟨qb, 0, none⟩ (.slice ba s2.n.length bac)).setCell ⟨qb, 1, none⟩ (.slice p1ba p1bn p1bc)).setCell ⟨qb, 2, none⟩ (.slice p2ba p2bn p2bc)).heap[b]? = wP.heap[b]? := fun b hb => ((Below.heap_setCell _ _ _ _ hb).trans (Below.heap_setCell _ _ _ _ hb)).trans (Below.heap_setCell _ _ _ _ hb)
                    have q1 := rowp_frame (hC.r1 _ _ rfl) (fun k hk => hfar k (fun e => hC.n1q _ _ _ rfl rfl (e ▸ hk)))
                    have q2 := rowp_frame (hC.r2 _ _ rfl) (fun k hk => hfar k (fun e => hC.n2q _ _ _ rfl rfl (e ▸ hk)))
                    have hyq' : w9.heap.size ≤ qb := by have := HBs.out; omega
                    have BQ : Below w9.heap.size w9 (((wP.setCell ⟨qb, 0, none⟩ (.slice ba s2.n.length bac)).setCell ⟨qb, 1, none⟩ (.slice p1ba p1bn p1bc)).setCell ⟨qb, 2, none⟩ (.slice p2ba p2bn p2bc)) := ((hHeld.setCell hyq' _).setCell hyq' _).setCell hyq' _
                    go_simp
                    refine hK.out _ _ (BQ) (fun hHeld => ?_)
                    clear hK K
                    refine wpAnyH_done (by kernel_rfl) ?_ _
                    exact ⟨rfl, qb, _, _, ⟨rfl, rfl, rfl, rfl, rfl, rfl, rfl, rfl, rfl, rfl, rfl, trivial⟩, hHeld, GQ, q1, q2⟩
                · go_simp
                  have hC2 := Cs.newq hC 44
                  have AL : Below (wP).heap.size wP (World.alloc wP (.cells #[.slice none 0 0, .slice none 0 0, .slice none 0 0] 44)) := (Below.refl _ _).alloc (Nat.le_refl _) _
                  obtain ⟨qb, hqb⟩ : ∃ x, x = (wP).heap.size := ⟨_, rfl⟩
                  rw [← hqb] at hC2 ⊢
                  clear hqb hC
                  have hC := hC2
                  clear hC2
                  generalize (World.alloc wP (.cells #[.slice none 0 0, .slice none 0 0, .slice none 0 0] 44)) = wQ at *
                  refine hK.out _ _ (Below.then hHeld AL hHeld.size) (fun hHeld => ?_)
                  clear hK K
                  refine wpAnyH_ready (rs := [12]) (by kernel_rfl) (by simp) ?_
                  refine AllReadyH.cons rfl (fun K hK => ?_) AllReadyH.nil
                  refine wp_append_row _ _ _ 42 rfl Bs 80 jsi _ 2 16 Try.underlying42 js0 js1 js2 js3 rfl (by decide) (.slice (some ⟨g2, 0, none⟩) 0 0) ([] : List (Int × Int)).length (pcells ([] : List (Int × Int))) rfl (hC.r2 _ _ rfl) (.slice ac s1.ss.length acc) s1.ss.length (pcells s1.ss) rfl 0 (HRA.out.below hHeld).ss (pcells_one _) (by have := HLN.out; unfold maxLen; simp; omega) (by have := HLN.out; simp; omega) hC.z ?_
                  intro p2a wP ownp2a growp2a atp2a
                  obtain ⟨p2aa, p2an, p2ac, hp2a⟩ : ∃ a n c, p2a = .slice a n c := by obtain ⟨a', c', h'⟩ := rowg_slice ownp2a; exact ⟨_, _, _, h'⟩
                  subst hp2a
                  have hbp2a := hC.grow2 HBs.out hHeld growp2a
                  have hC2 := hC.app2 ownp2a growp2a atp2a
                  clear hC ownp2a growp2a atp2a
                  have hC := hC2
                  clear hC2
                  refine hK.out _ _ (hbp2a) (fun hHeld => ?_)
                  clear hK K
                  refine wpAnyH_ready (rs := [15]) (by kernel_rfl) (by simp) ?_
                  refine AllReadyH.cons rfl (fun K hK => ?_) AllReadyH.nil
                  refine wp_append_row _ _ _ 42 rfl Bs 80 jsi _ 2 16 Try.underlying42 js0 js1 js2 js3 rfl (by decide) (.slice p2aa p2an p2ac) ([] ++ s1.ss : List (Int × Int)).length (pcells ([] ++ s1.ss : List (Int × Int))) rfl (hC.r2 _ _ rfl) (.slice bc s2.ss.length bcc) s2.ss.length (pcells s2.ss) rfl 0 (HRB.out.below hHeld).ss (pcells_one _) (by have := HLN.out; unfold maxLen; simp; omega) (by have := HLN.out; simp; omega) hC.z ?_
                  intro p2b wP ownp2b growp2b atp2b
                  obtain ⟨p2ba, p2bn, p2bc, hp2b⟩ : ∃ a n c, p2b = .slice a n c := by obtain ⟨a', c', h'⟩ := rowg_slice ownp2b; exact ⟨_, _, _, h'⟩
                  subst hp2b
                  have hbp2b := hC.grow2 HBs.out hHeld growp2b
                  have hC2 := hC.app2 ownp2b growp2b atp2b
                  clear hC ownp2b growp2b atp2b
                  have hC := hC2
                  clear hC2
                  refine hK.out _ _ (hbp2b) (fun hHeld => ?_)
                  clear hK K
                  refine' wpAnyH_take (i := 16) (v := _) rfl (by kernel_rfl) (by kernel_rfl) (by kernel_rfl) (fun _ _ _ h => by cases h.1) (Or.inl ⟨by rfl, ?hy950⟩) hHeld ?hn950
                  case hy950 => (intro wz hSw; go_simp; first | done | with_reducible rfl)
                  try simp only [List.getElem_toArray, List.getElem_cons_zero, List.getElem_cons_succ, Act.put, List.setIfInBounds_toArray, List.set_cons_zero, List.set_cons_succ]
                  refine wpAnyH_ready (rs := [18]) (by kernel_rfl) (by simp) ?_
                  refine AllReadyH.cons rfl (fun K hK => ?_) AllReadyH.nil
                  obtain ⟨CY, hyq⟩ := hC.bq _ rfl
                  obtain ⟨⟨c0, c1, c2⟩, f0, f1, f2⟩ := id CY
                  have GQ : C3 (((wP.setCell ⟨qb, 0, none⟩ (.slice ba s2.n.length bac)).setCell ⟨qb, 1, none⟩ (.slice p1ba p1bn p1bc)).setCell ⟨qb, 2, none⟩ (.slice p2ba p2bn p2bc)) qb (.slice ba s2.n.length bac) (.slice p1ba p1bn p1bc) (.slice p2ba p2bn p2bc) := ((CY.set0 _).set1 _).set2 _
                  have hfar : ∀ b, b ≠ qb → (((wP.setCell ⟨qb, 0, none⟩ (.slice ba s2.n.length bac)).setCell ⟨qb, 1, none⟩ (.slice p1ba p1bn p1bc)).setCell ⟨qb, 2, none⟩ (.slice p2ba p2bn p2bc)).heap[b]? = wP.heap[b]? := fun b hb => ((Below.heap_setCell _ _ _ _ hb).trans (Below.heap_setCell _ _ _ _ hb)).trans (Below.heap_setCell _ _ _ _ hb)
                  have q1 := rowp_frame (hC.r1 _ _ rfl) (fun k hk => hfar k (fun e => hC.n1q _ _ _ rfl rfl (e ▸ hk)))
                  have q2 := rowp_frame (hC.r2 _ _ rfl) (fun k hk => hfar k (fun e => hC.n2q _ _ _ rfl rfl (e ▸ hk)))
                  have hyq' : w9.heap.size ≤ qb := by have := HBs.out; omega
                  have BQ : Below w9.heap.size w9 (((wP.setCell ⟨qb, 0, none⟩ (.slice ba s2.n.length bac)).setCell ⟨qb, 1, none⟩ (.slice p1ba p1bn p1bc)).setCell ⟨qb, 2, none⟩ (.slice p2ba p2bn p2bc)) := ((hHeld.setCell hyq' _).setCell hyq' _).setCell hyq' _
                  go_simp
                  refine hK.out _ _ (BQ) (fun hHeld => ?_)
                  clear hK K
                  refine wpAnyH_done (by kernel_rfl) ?_ _
                  exact ⟨rfl, qb, _, _, ⟨rfl, rfl, rfl, rfl, rfl, rfl, rfl, rfl, rfl, rfl, rfl, trivial⟩, hHeld, GQ, q1, q2⟩
              · go_simp
                have hC2 := Cs.newq hC 44
                have AL : Below (wQ).heap.size wQ (World.alloc wQ (.cells #[.slice none 0 0, .slice none 0 0, .slice none 0 0] 44)) := (Below.refl _ _).alloc (Nat.le_refl _) _
                obtain ⟨qb, hqb⟩ : ∃ x, x = (wQ).heap.size := ⟨_, rfl⟩
                rw [← hqb] at hC2 ⊢
                clear hqb hC
                have hC := hC2
                clear hC2
                generalize (World.alloc wQ (.cells #[.slice none 0 0, .slice none 0 0, .slice none 0 0] 44)) = wQ at *
                refine hK.out _ _ (Below.then hHeld AL hHeld.size) (fun hHeld => ?_)
                clear hK K
                refine wpAnyH_ready (rs := [8]) (by kernel_rfl) (by simp) ?_
                refine AllReadyH.cons rfl (fun K hK => ?_) AllReadyH.nil
                refine wp_append_row _ _ _ 41 rfl Bs 49 jwi _ 2 16 Try.underlying41 jw0 jw1 jw2 jw3 rfl (by decide) (.slice p1aa p1an p1ac) ([] ++ s1.ws : List (Int × Int)).length (pcells ([] ++ s1.ws : List (Int × Int))) rfl (hC.r1 _ _ rfl) (.slice bb s2.ws.length bbc) s2.ws.length (pcells s2.ws) rfl 0 (HRB.out.below hHeld).ws (pcells_one _) (by have := HLN.out; unfold maxLen; simp; omega) (by have := HLN.out; simp; omega) hC.z ?_
                intro p1b wP ownp1b growp1b atp1b
                obtain ⟨p1ba, p1bn, p1bc, hp1b⟩ : ∃ a n c, p1b = .slice a n c := by obtain ⟨a', c', h'⟩ := rowg_slice ownp1b; exact ⟨_, _, _, h'⟩
                subst hp1b
                have hbp1b := hC.grow1 HBs.out hHeld growp1b
                have hC2 := hC.app1 ownp1b growp1b atp1b
                clear hC ownp1b growp1b atp1b
                have hC := hC2
                clear hC2
                refine hK.out _ _ (hbp1b) (fun hHeld => ?_)
                clear hK K
                refine wpAnyH_ready (rs := [12]) (by kernel_rfl) (by simp) ?_
                refine AllReadyH.cons rfl (fun K hK => ?_) AllReadyH.nil
                refine wp_append_row _ _ _ 42 rfl Bs 80 jsi _ 2 16 Try.underlying42 js0 js1 js2 js3 rfl (by decide) (.slice (some ⟨g2, 0, none⟩) 0 0) ([] : List (Int × Int)).length (pcells ([] : List (Int × Int))) rfl (hC.r2 _ _ rfl) (.slice ac s1.ss.length acc) s1.ss.length (pcells s1.ss) rfl 0 (HRA.out.below hHeld).ss (pcells_one _) (by have := HLN.out; unfold maxLen; simp; omega) (by have := HLN.out; simp; omega) hC.z ?_
                intro p2a wP ownp2a growp2a atp2a
                obtain ⟨p2aa, p2an, p2ac, hp2a⟩ : ∃ a n c, p2a = .slice a n c := by obtain ⟨a', c', h'⟩ := rowg_slice ownp2a; exact ⟨_, _, _, h'⟩
                subst hp2a
                have hbp2a := hC.grow2 HBs.out hHeld growp2a
                have hC2 := hC.app2 ownp2a growp2a atp2a
                clear hC ownp2a growp2a atp2a
                have hC := hC2
                clear hC2
                refine hK.out _ _ (hbp2a) (fun hHeld => ?_)
                clear hK K
                refine wpAnyH_ready (rs := [15]) (by kernel_rfl) (by simp) ?_
                refine AllReadyH.cons rfl (fun K hK => ?_) AllReadyH.nil
                refine wp_append_row _ _ _ 42 rfl Bs 80 jsi _ 2 16 Try.underlying42 js0 js1 js2 js3 rfl (by decide) (.slice p2aa p2an p2ac) ([] ++ s1.ss : List (Int × Int)).length (pcells ([] ++ s1.ss : List (Int × Int))) rfl (hC.r2 _ _ rfl) (.slice bc s2.ss.length bcc) s2.ss.length (pcells s2.ss) rfl 0 (HRB.out.below hHeld).ss (pcells_one _) (by have := HLN.out; unfold maxLen; simp; omega) (by have := HLN.out; simp; omega) hC.z ?_
                intro p2b wP ownp2b growp2b atp2b
                obtain ⟨p2ba, p2bn, p2bc, hp2b⟩ : ∃ a n c, p2b = .slice a n c := by obtain ⟨a', c', h'⟩ := rowg_slice ownp2b; exact ⟨_, _, _, h'⟩
                subst hp2b
                have hbp2b := hC.grow2 HBs.out hHeld growp2b
                have hC2 := hC.app2 ownp2b growp2b atp2b
                clear hC ownp2b growp2b atp2b
                have hC := hC2
                clear hC2
                refine hK.out _ _ (hbp2b) (fun hHeld => ?_)
                clear hK K
                refine' wpAnyH_take (i := 16) (v := _) rfl (by kernel_rfl) (by kernel_rfl) (by kernel_rfl) (fun _ _ _ h => by cases h.1) (Or.inl ⟨by rfl, ?hy951⟩) hHeld ?hn951
                case hy951 => (intro wz hSw; go_simp; first | done | with_reducible rfl)
                try simp only [List.getElem_toArray, List.getElem_cons_zero, List.getElem_cons_succ, Act.put, List.setIfInBounds_toArray, List.set_cons_zero, List.set_cons_succ]
                refine wpAnyH_ready (rs := [18]) (by kernel_rfl) (by simp) ?_
                refine AllReadyH.cons rfl (fun K hK => ?_) AllReadyH.nil
                obtain ⟨CY, hyq⟩ := hC.bq _ rfl
                obtain ⟨⟨c0, c1, c2⟩, f0, f1, f2⟩ := id CY
                have GQ : C3 (((wP.setCell ⟨qb, 0, none⟩ (.slice ba s2.n.length bac)).setCell ⟨qb, 1, none⟩ (.slice p1ba p1bn p1bc)).setCell ⟨qb, 2, none⟩ (.slice p2ba p2bn p2bc)) qb (.slice ba s2.n.length bac) (.slice p1ba p1bn p1bc) (.slice p2ba p2bn p2bc) := ((CY.set0 _).set1 _).set2 _
                have hfar : ∀ b, b ≠ qb → (((wP.setCell ⟨qb, 0, none⟩ (.slice ba s2.n.length bac)).setCell ⟨qb, 1, none⟩ (.slice p1ba p1bn p1bc)).setCell ⟨qb, 2, none⟩ (.slice p2ba p2bn p2bc)).heap[b]? = wP.heap[b]? := fun b hb => ((Below.heap_setCell _ _ _ _ hb).trans (Below.heap_setCell _ _ _ _ hb)).trans (Below.heap_setCell _ _ _ _ hb)
                have q1 := rowp_frame (hC.r1 _ _ rfl) (fun k hk => hfar k (fun e => hC.n1q _ _ _ rfl rfl (e ▸ hk)))
                have q2 := rowp_frame (hC.r2 _ _ rfl) (fun k hk => hfar k (fun e => hC.n2q _ _ _ rfl rfl (e ▸ hk)))
                have hyq' : w9.heap.size ≤ qb := by have := HBs.out; omega
                have BQ : Below w9.heap.size w9 (((wP.setCell ⟨qb, 0, none⟩ (.slice ba s2.n.length bac)).setCell ⟨qb, 1, none⟩ (.slice p1ba p1bn p1bc)).setCell ⟨qb, 2, none⟩ (.slice p2ba p2bn p2bc)) := ((hHeld.setCell hyq' _).setCell hyq' _).setCell hyq' _
                go_simp
                refine hK.out _ _ (BQ) (fun hHeld => ?_)
                clear hK K
                refine wpAnyH_done (by kernel_rfl) ?_ _
                exact ⟨rfl, qb, _, _, ⟨rfl, rfl, rfl, rfl, rfl, rfl, rfl, rfl, rfl, rfl, rfl, trivial⟩, hHeld, GQ, q1, q2⟩
            · go_simp
              have hC2 := Cs.newq hC 44
              have AL : Below (wP).heap.size wP (World.alloc wP (.cells #[.slice none 0 0, .slice none 0 0, .slice none 0 0] 44)) := (Below.refl _ _).alloc (Nat.le_refl _) _
              obtain ⟨qb, hqb⟩ : ∃ x, x = (wP).heap.size := ⟨_, rfl⟩
              rw [← hqb] at hC2 ⊢
              clear hqb hC
              have hC := hC2
              clear hC2
              generalize (World.alloc wP (.cells #[.slice none 0 0, .slice none 0 0, .slice none 0 0] 44)) = wQ at *
              refine hK.out _ _ (Below.then hHeld AL hHeld.size) (fun hHeld => ?_)
              clear hK K
              refine wpAnyH_ready (rs := [8, 9]) (by kernel_rfl) (by simp) ?_
              refine AllReadyH.cons rfl (fun K hK => ?_) (AllReadyH.cons rfl (fun K hK => ?_) AllReadyH.nil)
              · refine wp_append_row _ _ _ 41 rfl Bs 49 jwi _ 2 16 Try.underlying41 jw0 jw1 jw2 jw3 rfl (by decide) (.slice p1aa p1an p1ac) ([] ++ s1.ws : List (Int × Int)).length (pcells ([] ++ s1.ws : List (Int × Int))) rfl (hC.r1 _ _ rfl) (.slice bb s2.ws.length bbc) s2.ws.length (pcells s2.ws) rfl 0 (HRB.out.below hHeld).ws (pcells_one _) (by have := HLN.out; unfold maxLen; simp; omega) (by have := HLN.out; simp; omega) hC.z ?_
                intro p1b wP ownp1b growp1b atp1b
                obtain ⟨p1ba, p1bn, p1bc, hp1b⟩ : ∃ a n c, p1b = .slice a n c := by obtain ⟨a', c', h'⟩ := rowg_slice ownp1b; exact ⟨_, _, _, h'⟩
                subst hp1b
                have hbp1b := hC.grow1 HBs.out hHeld growp1b
                have hC2 := hC.app1 ownp1b growp1b atp1b
                clear hC ownp1b growp1b atp1b
                have hC := hC2
                clear hC2
                refine hK.out _ _ (hbp1b) (fun hHeld => ?_)
                clear hK K
                refine wpAnyH_ready (rs := [9]) (by kernel_rfl) (by simp) ?_
                refine AllReadyH.cons rfl (fun K hK => ?_) AllReadyH.nil
                go_simp
                have hC2 := Cs.new2 hC
                have AL : Below (wP).heap.size wP (World.alloc wP (.cells #[] 80)) := (Below.refl _ _).alloc (Nat.le_refl _) _
                obtain ⟨g2, hg2⟩ : ∃ x, x = (wP).heap.size := ⟨_, rfl⟩
                rw [← hg2] at hC2 ⊢
                clear hg2 hC
                have hC := hC2
                clear hC2
                generalize (World.alloc wP (.cells #[] 80)) = wQ at *
                refine hK.out _ _ (Below.then hHeld AL hHeld.size) (fun hHeld => ?_)
                clear hK K
                refine wpAnyH_ready (rs := [12]) (by kernel_rfl) (by simp) ?_
                refine AllReadyH.cons rfl (fun K hK => ?_) AllReadyH.nil
                refine wp_append_row _ _ _ 42 rfl Bs 80 jsi _ 2 16 Try.underlying42 js0 js1 js2 js3 rfl (by decide) (.slice (some ⟨g2, 0, none⟩) 0 0) ([] : List (Int × Int)).length (pcells ([] : List (Int × Int))) rfl (hC.r2 _ _ rfl) (.slice ac s1.ss.length acc) s1.ss.length (pcells s1.ss) rfl 0 (HRA.out.below hHeld).ss (pcells_one _) (by have := HLN.out; unfold maxLen; simp; omega) (by have := HLN.out; simp; omega) hC.z ?_
                intro p2a wP ownp2a growp2a atp2a
                obtain ⟨p2aa, p2an, p2ac, hp2a⟩ : ∃ a n c, p2a = .slice a n c := by obtain ⟨a', c', h'⟩ := rowg_slice ownp2a; exact ⟨_, _, _, h'⟩
                subst hp2a
                have hbp2a := hC.grow2 HBs.out hHeld growp2a
                have hC2 := hC.app2 ownp2a growp2a atp2a
                clear hC ownp2a growp2a atp2a
                have hC := hC2
                clear hC2
                refine hK.out _ _ (hbp2a) (fun hHeld => ?_)
                clear hK K
                refine wpAnyH_ready (rs := [15]) (by kernel_rfl) (by simp) ?_
                refine AllReadyH.cons rfl (fun K hK => ?_) AllReadyH.nil
                refine wp_append_row _ _ _ 42 rfl Bs 80 jsi _ 2 16 Try.underlying42 js0 js1 js2 js3 rfl (by decide) (.slice p2aa p2an p2ac) ([] ++ s1.ss : List (Int × Int)).length (pcells ([] ++ s1.ss : List (Int × Int))) rfl (hC.r2 _ _ rfl) (.slice bc s2.ss.length bcc) s2.ss.length (pcells s2.ss) rfl 0 (HRB.out.below hHeld).ss (pcells_one _) (by have := HLN.out; unfold maxLen; simp; omega) (by have := HLN.out; simp; omega) hC.z ?_
                intro p2b wP ownp2b growp2b atp2b
                obtain ⟨p2ba, p2bn, p2bc, hp2b⟩ : ∃ a n c, p2b = .slice a n c := by obtain ⟨a', c', h'⟩ := rowg_slice ownp2b; exact ⟨_, _, _, h'⟩
                subst hp2b
                have hbp2b := hC.grow2 HBs.out hHeld growp2b
                have hC2 := hC.app2 ownp2b growp2b atp2b
                clear hC ownp2b growp2b atp2b
                have hC := hC2
                clear hC2
                refine hK.out _ _ (hbp2b) (fun hHeld => ?_)
                clear hK K
                refine' wpAnyH_take (i := 16) (v := _) rfl (by kernel_rfl) (by kernel_rfl) (by kernel_rfl) (fun _ _ _ h => by cases h.1) (Or.inl ⟨by rfl, ?hy952⟩) hHeld ?hn952
                case hy952 => (intro wz hSw; go_simp; first | done | with_reducible rfl)
                try simp only [List.getElem_toArray, List.getElem_cons_zero, List.getElem_cons_succ, Act.put, List.setIfInBounds_toArray, List.set_cons_zero, List.set_cons_succ]
                refine wpAnyH_ready (rs := [18]) (by kernel_rfl) (by simp) ?_
                refine AllReadyH.cons rfl (fun K hK => ?_) AllReadyH.nil
                obtain ⟨CY, hyq⟩ := hC.bq _ rfl
                obtain ⟨⟨c0, c1, c2⟩, f0, f1, f2⟩ := id CY
                have GQ : C3 (((wP.setCell ⟨qb, 0, none⟩ (.slice ba s2.n.length bac)).setCell ⟨qb, 1, none⟩ (.slice p1ba p1bn p1bc)).setCell ⟨qb, 2, none⟩ (.slice p2ba p2bn p2bc)) qb (.slice ba s2.n.length bac) (.slice p1ba p1bn p1bc) (.slice p2ba p2bn p2bc) := ((CY.set0 _).set1 _).set2 _
                have hfar : ∀ b, b ≠ qb → (((wP.setCell ⟨qb, 0, none⟩ (.slice ba s2.n.length bac)).setCell ⟨qb, 1, none⟩ (.slice p1ba p1bn p1bc)).setCell ⟨qb, 2, none⟩ (.slice p2ba p2bn p2bc)).heap[b]? = wP.heap[b]? := fun b hb => ((Below.heap_setCell _ _ _ _ hb).trans (Below.heap_setCell _ _ _ _ hb)).trans (Below.heap_setCell _ _ _ _ hb)
                have q1 := rowp_frame (hC.r1 _ _ rfl) (fun k hk => hfar k (fun e => hC.n1q _ _ _ rfl rfl (e ▸ hk)))
                have q2 := rowp_frame (hC.r2 _ _ rfl) (fun k hk => hfar k (fun e => hC.n2q _ _ _ rfl rfl (e ▸ hk)))
                have hyq' : w9.heap.size ≤ qb := by have := HBs.out; omega
                have BQ : Below w9.heap.size w9 (((wP.setCell ⟨qb, 0, none⟩ (.slice ba s2.n.length bac)).setCell ⟨qb, 1, none⟩ (.slice p1ba p1bn p1bc)).setCell ⟨qb, 2, none⟩ (.slice p2ba p2bn p2bc)) := ((hHeld.setCell hyq' _).setCell hyq' _).setCell hyq' _
                go_simp
                refine hK.out _ _ (BQ) (fun hHeld => ?_)
                clear hK K
                refine wpAnyH_done (by kernel_rfl) ?_ _
                exact ⟨rfl, qb, _, _, ⟨rfl, rfl, rfl, rfl, rfl, rfl, rfl, rfl, rfl, rfl, rfl, trivial⟩, hHeld, GQ, q1, q2⟩
              · go_simp
                have hC2 := Cs.new2 hC
                have AL : Below (wQ).heap.size wQ (World.alloc wQ (.cells #[] 80)) := (Below.refl _ _).alloc (Nat.le_refl _) _
                obtain ⟨g2, hg2⟩ : ∃ x, x = (wQ).heap.size := ⟨_, rfl⟩
                rw [← hg2] at hC2 ⊢
                clear hg2 hC
                have hC := hC2
                clear hC2
                generalize (World.alloc wQ (.cells #[] 80)) = wQ at *
                refine hK.out _ _ (Below.then hHeld AL hHeld.size) (fun hHeld => ?_)
                clear hK K
                refine wpAnyH_ready (rs := [8]) (by kernel_rfl) (by simp) ?_
                refine AllReadyH.cons rfl (fun K hK => ?_) AllReadyH.nil
                refine wp_append_row _ _ _ 41 rfl Bs 49 jwi _ 2 16 Try.underlying41 jw0 jw1 jw2 jw3 rfl (by decide) (.slice p1aa p1an p1ac) ([] ++ s1.ws : List (Int × Int)).length (pcells ([] ++ s1.ws : List (Int × Int))) rfl (hC.r1 _ _ rfl) (.slice bb s2.ws.length bbc) s2.ws.length (pcells s2.ws) rfl 0 (HRB.out.below hHeld).ws (pcells_one _) (by have := HLN.out; unfold maxLen; simp; omega) (by have := HLN.out; simp; omega) hC.z ?_
                intro p1b wP ownp1b growp1b atp1b
                obtain ⟨p1ba, p1bn, p1bc, hp1b⟩ : ∃ a n c, p1b = .slice a n c := by obtain ⟨a', c', h'⟩ := rowg_slice ownp1b; exact ⟨_, _, _, h'⟩
                subst hp1b
                have hbp1b := hC.grow1 HBs.out hHeld growp1b
                have hC2 := hC.app1 ownp1b growp1b atp1b
                clear hC ownp1b growp1b atp1b
                have hC := hC2
                clear hC2
                refine hK.out _ _ (hbp1b) (fun hHeld => ?_)
                clear hK K
                refine wpAnyH_ready (rs := [12]) (by kernel_rfl) (by simp) ?_
                refine AllReadyH.cons rfl (fun K hK => ?_) AllReadyH.nil
                refine wp_append_row _ _ _ 42 rfl Bs 80 jsi _ 2 16 Try.underlying42 js0 js1 js2 js3 rfl (by decide) (.slice (some ⟨g2, 0, none⟩) 0 0) ([] : List (Int × Int)).length (pcells ([] : List (Int × Int))) rfl (hC.r2 _ _ rfl) (.slice ac s1.ss.length acc) s1.ss.length (pcells s1.ss) rfl 0 (HRA.out.below hHeld).ss (pcells_one _) (by have := HLN.out; unfold maxLen; simp; omega) (by have := HLN.out; simp; omega) hC.z ?_
                intro p2a wP ownp2a growp2a atp2a
                obtain ⟨p2aa, p2an, p2ac, hp2a⟩ : ∃ a n c, p2a = .slice a n c := by obtain ⟨a', c', h'⟩ := rowg_slice ownp2a; exact ⟨_, _, _, h'⟩
                subst hp2a
                have hbp2a := hC.grow2 HBs.out hHeld growp2a
                have hC2 := hC.app2 ownp2a growp2a atp2a
                clear hC ownp2a growp2a atp2a
                have hC := hC2
                clear hC2
                refine hK.out _ _ (hbp2a) (fun hHeld => ?_)
                clear hK K
                refine wpAnyH_ready (rs := [15]) (by kernel_rfl) (by simp) ?_
                refine AllReadyH.cons rfl (fun K hK => ?_) AllReadyH.nil
                refine wp_append_row _ _ _ 42 rfl Bs 80 jsi _ 2 16 Try.underlying42 js0 js1 js2 js3 rfl (by decide) (.slice p2aa p2an p2ac) ([] ++ s1.ss : List (Int × Int)).length (pcells ([] ++ s1.ss : List (Int × Int))) rfl (hC.r2 _ _ rfl) (.slice bc s2.ss.length bcc) s2.ss.length (pcells s2.ss) rfl 0 (HRB.out.below hHeld).ss (pcells_one _) (by have := HLN.out; unfold maxLen; simp; omega) (by have := HLN.out; simp; omega) hC.z ?_
                intro p2b wP ownp2b growp2b atp2b
                obtain ⟨p2ba, p2bn, p2bc, hp2b⟩ : ∃ a n c, p2b = .slice a n c := by obtain ⟨a', c', h'⟩ := rowg_slice ownp2b; exact ⟨_, _, _, h'⟩
                subst hp2b
                have hbp2b := hC.grow2 HBs.out hHeld growp2b
                have hC2 := hC.app2 ownp2b growp2b atp2b
                clear hC ownp2b growp2b atp2b
                have hC := hC2
                clear hC2
                refine hK.out _ _ (hbp2b) (fun hHeld => ?_)
                clear hK K
                refine' wpAnyH_take (i := 16) (v := _) rfl (by kernel_rfl) (by kernel_rfl) (by kernel_rfl) (fun _ _ _ h => by cases h.1) (Or.inl ⟨by rfl, ?hy953⟩) hHeld ?hn953
                case hy953 => (intro wz hSw; go_simp; first | done | with_reducible rfl)
                try simp only [List.getElem_toArray, List.getElem_cons_zero, List.getElem_cons_succ, Act.put, List.setIfInBounds_toArray, List.set_cons_zero, List.set_cons_succ]
                refine wpAnyH_ready (rs := [18]) (by kernel_rfl) (by simp) ?_
                refine AllReadyH.cons rfl (fun K hK => ?_) AllReadyH.nil
                obtain ⟨CY, hyq⟩ := hC.bq _ rfl
                obtain ⟨⟨c0, c1, c2⟩, f0, f1, f2⟩ := id CY
                have GQ : C3 (((wP.setCell ⟨qb, 0, none⟩ (.slice ba s2.n.length bac)).setCell ⟨qb, 1, none⟩ (.slice p1ba p1bn p1bc)).setCell ⟨qb, 2, none⟩ (.slice p2ba p2bn p2bc)) qb (.slice ba s2.n.length bac) (.slice p1ba p1bn p1bc) (.slice p2ba p2bn p2bc) := ((CY.set0 _).set1 _).set2 _
                have hfar : ∀ b, b ≠ qb → (((wP.setCell ⟨qb, 0, none⟩ (.slice ba s2.n.length bac)).setCell ⟨qb, 1, none⟩ (.slice p1ba p1bn p1bc)).setCell ⟨qb, 2, none⟩ (.slice p2ba p2bn p2bc)).heap[b]? = wP.heap[b]? := fun b hb => ((Below.heap_setCell _ _ _ _ hb).trans (Below.heap_setCell _ _ _ _ hb)).trans (Below.heap_setCell _ _ _ _ hb)
                have q1 := rowp_frame (hC.r1 _ _ rfl) (fun k hk => hfar k (fun e => hC.n1q _ _ _ rfl rfl (e ▸ hk)))
                have q2 := rowp_frame (hC.r2 _ _ rfl) (fun k hk => hfar k (fun e => hC.n2q _ _ _ rfl rfl (e ▸ hk)))
                have hyq' : w9.heap.size ≤ qb := by have := HBs.out; omega
                have BQ : Below w9.heap.size w9 (((wP.setCell ⟨qb, 0, none⟩ (.slice ba s2.n.length bac)).setCell ⟨qb, 1, none⟩ (.slice p1ba p1bn p1bc)).setCell ⟨qb, 2, none⟩ (.slice p2ba p2bn p2bc)) := ((hHeld.setCell hyq' _).setCell hyq' _).setCell hyq' _
                go_simp
                refine hK.out _ _ (BQ) (fun hHeld => ?_)
                clear hK K
                refine wpAnyH_done (by kernel_rfl) ?_ _
                exact ⟨rfl, qb, _, _, ⟨rfl, rfl, rfl, rfl, rfl, rfl, rfl, rfl, rfl, rfl, rfl, trivial⟩, hHeld, GQ, q1, q2⟩
          · go_simp
            have hC2 := Cs.new2 hC
            have AL : Below (wQ).heap.size wQ (World.alloc wQ (.cells #[] 80)) := (Below.refl _ _).alloc (Nat.le_refl _) _
            obtain ⟨g2, hg2⟩ : ∃ x, x = (wQ).heap.size := ⟨_, rfl⟩
            rw [← hg2] at hC2 ⊢
            clear hg2 hC
            have hC := hC2
            clear hC2
            generalize (World.alloc wQ (.cells #[] 80)) = wQ at *
            refine hK.out _ _ (Below.then hHeld AL hHeld.size) (fun hHeld => ?_)
            clear hK K
            refine wpAnyH_ready (rs := [5, 17]) (by kernel_rfl) (by simp) ?_
            refine AllReadyH.cons rfl (fun K hK => ?_) (AllReadyH.cons rfl (fun K hK => ?_) AllReadyH.nil)
            · refine wp_append_row _ _ _ 41 rfl Bs 49 jwi _ 2 16 Try.underlying41 jw0 jw1 jw2 jw3 rfl (by decide) (.slice (some ⟨g1, 0, none⟩) 0 0) ([] : List (Int × Int)).length (pcells ([] : List (Int × Int))) rfl (hC.r1 _ _ rfl) (.slice ab s1.ws.length abc) s1.ws.length (pcells s1.ws) rfl 0 (HRA.out.below hHeld).ws (pcells_one _) (by have := HLN.out; unfold maxLen; simp; omega) (by have := HLN.out; simp; omega) hC.z ?_
              intro p1a wP ownp1a growp1a atp1a
              obtain ⟨p1aa, p1an, p1ac, hp1a⟩ : ∃ a n c, p1a = .slice a n c := by obtain ⟨a', c', h'⟩ := rowg_slice ownp1a; exact ⟨_, _, _, h'⟩
              subst hp1a
              have hbp1a := hC.grow1 HBs.out hHeld growp1a
              have hC2 := hC.app1 ownp1a growp1a atp1a
              clear hC ownp1a growp1a atp1a
              have hC := hC2
              clear hC2
              refine hK.out _ _ (hbp1a) (fun hHeld => ?_)
              clear hK K
              refine wpAnyH_ready (rs := [8, 17]) (by kernel_rfl) (by simp) ?_
              refine AllReadyH.cons rfl (fun K hK => ?_) (AllReadyH.cons rfl (fun K hK => ?_) AllReadyH.nil)
              · refine wp_append_row _ _ _ 41 rfl Bs 49 jwi _ 2 16 Try.underlying41 jw0 jw1 jw2 jw3 rfl (by decide) (.slice p1aa p1an p1ac) ([] ++ s1.ws : List (Int × Int)).length (pcells ([] ++ s1.ws : List (Int × Int))) rfl (hC.r1 _ _ rfl) (.slice bb s2.ws.length bbc) s2.ws.length (pcells s2.ws) rfl 0 (HRB.out.below hHeld).ws (pcells_one _) (by have := HLN.out; unfold maxLen; simp; omega) (by have := HLN.out; simp; omega) hC.z ?_
                intro p1b wP ownp1b growp1b atp1b
                obtain ⟨p1ba, p1bn, p1bc, hp1b⟩ : ∃ a n c, p1b = .slice a n c := by obtain ⟨a', c', h'⟩ := rowg_slice ownp1b; exact ⟨_, _, _, h'⟩
                subst hp1b
                have hbp1b := hC.grow1 HBs.out hHeld growp1b
                have hC2 := hC.app1 ownp1b growp1b atp1b
                clear hC ownp1b growp1b atp1b
                have hC := hC2
                clear hC2
                refine hK.out _ _ (hbp1b) (fun hHeld => ?_)
                clear hK K
                refine wpAnyH_ready (rs := [12, 17]) (by kernel_rfl) (by simp) ?_
                refine AllReadyH.cons rfl (fun K hK => ?_) (AllReadyH.cons rfl (fun K hK => ?_) AllReadyH.nil)
                · refine wp_append_row _ _ _ 42 rfl Bs 80 jsi _ 2 16 Try.underlying42 js0 js1 js2 js3 rfl (by decide) (.slice (some ⟨g2, 0, none⟩) 0 0) ([] : List (Int × Int)).length (pcells ([] : List (Int × Int))) rfl (hC.r2 _ _ rfl) (.slice ac s1.ss.length acc) s1.ss.length (pcells s1.ss) rfl 0 (HRA.out.below hHeld).ss (pcells_one _) (by have := HLN.out; unfold maxLen; simp; omega) (by have := HLN.out; simp; omega) hC.z ?_
                  intro p2a wP ownp2a growp2a atp2a
                  obtain ⟨p2aa, p2an, p2ac, hp2a⟩ : ∃ a n c, p2a = .slice a n c := by obtain ⟨a', c', h'⟩ := rowg_slice ownp2a; exact ⟨_, _, _, h'⟩
                  subst hp2a
                  have hbp2a := hC.grow2 HBs.out hHeld growp2a
                  have hC2 := hC.app2 ownp2a growp2a atp2a
                  clear hC ownp2a growp2a atp2a
                  have hC := hC2
                  clear hC2
                  refine hK.out _ _ (hbp2a) (fun hHeld => ?_)
                  clear hK K
                  refine wpAnyH_ready (rs := [15, 17]) (by kernel_rfl) (by simp) ?_
                  refine AllReadyH.cons rfl (fun K hK => ?_) (AllReadyH.cons rfl (fun K hK => ?_) AllReadyH.nil)
                  · refine wp_append_row _ _ _ 42 rfl Bs 80 jsi _ 2 16 Try.underlying42 js0 js1 js2 js3 rfl (by decide) (.slice p2aa p2an p2ac) ([] ++ s1.ss : List (Int × Int)).length (pcells ([] ++ s1.ss : List (Int × Int))) rfl (hC.r2 _ _ rfl) (.slice bc s2.ss.length bcc) s2.ss.length (pcells s2.ss) rfl 0 (HRB.out.below hHeld).ss (pcells_one _) (by have := HLN.out; unfold maxLen; simp; omega) (by have := HLN.out; simp; omega) hC.z ?_
                    intro p2b wP ownp2b growp2b atp2b
                    obtain ⟨p2ba, p2bn, p2bc, hp2b⟩ : ∃ a n c, p2b = .slice a n c := by obtain ⟨a', c', h'⟩ := rowg_slice ownp2b; exact ⟨_, _, _, h'⟩
                    subst hp2b
                    have hbp2b := hC.grow2 HBs.out hHeld growp2b
                    have hC2 := hC.app2 ownp2b growp2b atp2b
                    clear hC ownp2b growp2b atp2b
                    have hC := hC2
                    clear hC2
                    refine hK.out _ _ (hbp2b) (fun hHeld => ?_)
                    clear hK K
                    refine' wpAnyH_take (i := 16) (v := _) rfl (by kernel_rfl) (by kernel_rfl) (by kernel_rfl) (fun _ _ _ h => by cases h.1) (Or.inl ⟨by rfl, ?hy954⟩) hHeld ?hn954
                    case hy954 => (intro wz hSw; go_simp; first | done | with_reducible rfl)
                    try simp only [List.getElem_toArray, List.getElem_cons_zero, List.getElem_cons_succ, Act.put, List.setIfInBounds_toArray, List.set_cons_zero, List.set_cons_succ]
                    refine wpAnyH_ready (rs := [17]) (by kernel_rfl) (by simp) ?_
                    refine AllReadyH.cons rfl (fun K hK => ?_) AllReadyH.nil
                    go_simp
                    have hC2 := Cs.newq hC 44
                    have AL : Below (wP).heap.size wP (World.alloc wP (.cells #[.slice none 0 0, .slice none 0 0, .slice none 0 0] 44)) := (Below.refl _ _).alloc (Nat.le_refl _) _
                    obtain ⟨qb, hqb⟩ : ∃ x, x = (wP).heap.size := ⟨_, rfl⟩
                    rw [← hqb] at hC2 ⊢
                    clear hqb hC
                    have hC := hC2
                    clear hC2
                    generalize (World.alloc wP (.cells #[.slice none 0 0, .slice none 0 0, .slice none 0 0] 44)) = wQ at *
                    refine hK.out _ _ (Below.then hHeld AL hHeld.size) (fun hHeld => ?_)
                    clear hK K
                    refine wpAnyH_ready (rs := [18]) (by kernel_rfl) (by simp) ?_
                    refine AllReadyH.cons rfl (fun K hK => ?_) AllReadyH.nil
                    obtain ⟨CY, hyq⟩ := hC.bq _ rfl
                    obtain ⟨⟨c0, c1, c2⟩, f0, f1, f2⟩ := id CY
                    have GQ : C3 (((wQ.setCell ⟨qb, 0, none⟩ (.slice ba s2.n.length bac)).setCell ⟨qb, 1, none⟩ (.slice p1ba p1bn p1bc)).setCell ⟨qb, 2, none⟩ (.slice p2ba p2bn p2bc)) qb (.slice ba s2.n.length bac) (.slice p1ba p1bn p1bc) (.slice p2ba p2bn p2bc) := ((CY.set0 _).set1 _).set2 _
                    have hfar : ∀ b, b ≠ qb → (((wQ.setCell ⟨qb, 0, none⟩ (.slice ba s2.n.length bac)).setCell ⟨qb, 1, none⟩ (.slice p1ba p1bn p1bc)).setCell ⟨qb, 2, none⟩ (.slice p2ba p2bn p2bc)).heap[b]? = wQ.heap[b]? := fun b hb => ((Below.heap_setCell _ _ _ _ hb).trans (Below.heap_setCell _ _ _ _ hb)).trans (Below.heap_setCell _ _ _ _ hb)
                    have q1 := rowp_frame (hC.r1 _ _ rfl) (fun k hk => hfar k (fun e => hC.n1q _ _ _ rfl rfl (e ▸ hk)))
                    have q2 := rowp_frame (hC.r2 _ _ rfl) (fun k hk => hfar k (fun e => hC.n2q _ _ _ rfl rfl (e ▸ hk)))
                    have hyq' : w9.heap.size ≤ qb := by have := HBs.out; omega
                    have BQ : Below w9.heap.size w9 (((wQ.setCell ⟨qb, 0, none⟩ (.slice ba s2.n.length bac)).setCell ⟨qb, 1, none⟩ (.slice p1ba p1bn p1bc)).setCell ⟨qb, 2, none⟩ (.slice p2ba p2bn p2bc)) := ((hHeld.setCell hyq' _).setCell hyq' _).setCell hyq' _
                    go_simp
                    refine hK.out _ _ (BQ) (fun hHeld => ?_)
                    clear hK K
                    refine wpAnyH_done (by kernel_rfl) ?_ _
                    exact ⟨rfl, qb, _, _, ⟨rfl, rfl, rfl, rfl, rfl, rfl, rfl, rfl, rfl, rfl, rfl, trivial⟩, hHeld, GQ, q1, q2⟩
                  · go_simp
                    have hC2 := Cs.newq hC 44
                    have AL : Below (wP).heap.size wP (World.alloc wP (.cells #[.slice none 0 0, .slice none 0 0, .slice none 0 0] 44)) := (Below.refl _ _).alloc (Nat.le_refl _) _
                    obtain ⟨qb, hqb⟩ : ∃ x, x = (wP).heap.size := ⟨_, rfl⟩
                    rw [← hqb] at hC2 ⊢
                    clear hqb hC
                    have hC := hC2
                    clear hC2
                    generalize (World.alloc wP (.cells #[.slice none 0 0, .slice none 0 0, .slice none 0 0] 44)) = wQ at *
                    refine hK.out _ _ (Below.then hHeld AL hHeld.size) (fun hHeld => ?_)
                    clear hK K
                    refine wpAnyH_ready (rs := [15]) (by kernel_rfl) (by simp) ?_
                    refine AllReadyH.cons rfl (fun K hK => ?_) AllReadyH.nil
                    refine wp_append_row _ _ _ 42 rfl Bs 80 jsi _ 2 16 Try.underlying42 js0 js1 js2 js3 rfl (by decide) (.slice p2aa p2an p2ac) ([] ++ s1.ss : List (Int × Int)).length (pcells ([] ++ s1.ss : List (Int × Int))) rfl (hC.r2 _ _ rfl) (.slice bc s2.ss.length bcc) s2.ss.length (pcells s2.ss) rfl 0 (HRB.out.below hHeld).ss (pcells_one _) (by have := HLN.out; unfold maxLen; simp; omega) (by have := HLN.out; simp; omega) hC.z ?_
                    intro p2b wP ownp2b growp2b atp2b
                    obtain ⟨p2ba, p2bn, p2bc, hp2b⟩ : ∃ a n c, p2b = .slice a n c := by obtain ⟨a', c', h'⟩ := rowg_slice ownp2b; exact ⟨_, _, _, h'⟩
                    subst hp2b
                    have hbp2b := hC.grow2 HBs.out hHeld growp2b
                    have hC2 := hC.app2 ownp2b growp2b atp2b
                    clear hC ownp2b growp2b atp2b
                    have hC := hC2
                    clear hC2
                    refine hK.out _ _ (hbp2b) (fun hHeld => ?_)
                    clear hK K
                    refine' wpAnyH_take (i := 16) (v := _) rfl (by kernel_rfl) (by kernel_rfl) (by kernel_rfl) (fun _ _ _ h => by cases h.1) (Or.inl ⟨by rfl, ?hy955⟩) hHeld ?hn955
                    case hy955 => (intro wz hSw; go_simp; first | done | with_reducible rfl)
                    try simp only [List.getElem_toArray, List.getElem_cons_zero, List.getElem_cons_succ, Act.put, List.setIfInBounds_toArray, List.set_cons_zero, List.set_cons_succ]
                    refine wpAnyH_ready (rs := [18]) (by kernel_rfl) (by simp) ?_
                    refine AllReadyH.cons rfl (fun K hK => ?_) AllReadyH.nil
                    obtain ⟨CY, hyq⟩ := hC.bq _ rfl
                    obtain ⟨⟨c0, c1, c2⟩, f0, f1, f2⟩ := id CY
                    have GQ : C3 (((wP.setCell ⟨qb, 0, none⟩ (.slice ba s2.n.length bac)).setCell ⟨qb, 1, none⟩ (.slice p1ba p1bn p1bc)).setCell ⟨qb, 2, none⟩ (.slice p2ba p2bn p2bc)) qb (.slice ba s2.n.length bac) (.slice p1ba p1bn p1bc) (.slice p2ba p2bn p2bc) := ((CY.set0 _).set1 _).set2 _
                    have hfar : ∀ b, b ≠ qb → (((wP.setCell ⟨qb, 0, none⟩ (.slice ba s2.n.length bac)).setCell ⟨qb, 1, none⟩ (.slice p1ba p1bn p1bc)).setCell ⟨qb, 2, none⟩ (.slice p2ba p2bn p2bc)).heap[b]? = wP.heap[b]? := fun b hb => ((Below.heap_setCell _ _ _ _ hb).trans (Below.heap_setCell _ _ _ _ hb)).trans (Below.heap_setCell _ _ _ _ hb)
                    have q1 := rowp_frame (hC.r1 _ _ rfl) (fun k hk => hfar k (fun e => hC.n1q _ _ _ rfl rfl (e ▸ hk)))
                    have q2 := rowp_frame (hC.r2 _ _ rfl) (fun k hk => hfar k (fun e => hC.n2q _ _ _ rfl rfl (e ▸ hk)))
                    have hyq' : w9.heap.size ≤ qb := by have := HBs.out; omega
                    have BQ : Below w9.heap.size w9 (((wP.setCell ⟨qb, 0, none⟩ (.slice ba s2.n.length bac)).setCell ⟨qb, 1, none⟩ (.slice p1ba p1bn p1bc)).setCell ⟨qb, 2, none⟩ (.slice p2ba p2bn p2bc)) := ((hHeld.setCell hyq' _).setCell hyq' _).setCell hyq' _
                    go_simp
                    refine hK.out _ _ (BQ) (fun hHeld => ?_)
                    clear hK K
                    refine wpAnyH_done (by kernel_rfl) ?_ _
                    exact ⟨rfl, qb, _, _, ⟨rfl, rfl, rfl, rfl, rfl, rfl, rfl, rfl, rfl, rfl, rfl, trivial⟩, hHeld, GQ, q1, q2⟩
                · go_simp
                  have hC2 := Cs.newq hC 44
                  have AL : Below (wP).heap.size wP (World.alloc wP (.cells #[.slice none 0 0, .slice none 0 0, .slice none 0 0] 44)) := (Below.refl _ _).alloc (Nat.le_refl _) _
                  obtain ⟨qb, hqb⟩ : ∃ x, x = (wP).heap.size := ⟨_, rfl⟩
                  rw [← hqb] at hC2 ⊢
                  clear hqb hC
                  have hC := hC2
                  clear hC2
                  generalize (World.alloc wP (.cells #[.slice none 0 0, .slice none 0 0, .slice none 0 0] 44)) = wQ at *
                  refine hK.out _ _ (Below.then hHeld AL hHeld.size) (fun hHeld => ?_)
                  clear hK K
                  refine wpAnyH_ready (rs := [12]) (by kernel_rfl) (by simp) ?_
                  refine AllReadyH.cons rfl (fun K hK => ?_) AllReadyH.nil
                  refine wp_append_row _ _ _ 42 rfl Bs 80 jsi _ 2 16 Try.underlying42 js0 js1 js2 js3 rfl (by decide) (.slice (some ⟨g2, 0, none⟩) 0 0) ([] : List (Int × Int)).length (pcells ([] : List (Int × Int))) rfl (hC.r2 _ _ rfl) (.slice ac s1.ss.length acc) s1.ss.length (pcells s1.ss) rfl 0 (HRA.out.below hHeld).ss (pcells_one _) (by have := HLN.out; unfold maxLen; simp; omega) (by have := HLN.out; simp; omega) hC.z ?_
                  intro p2a wP ownp2a growp2a atp2a
                  obtain ⟨p2aa, p2an, p2ac, hp2a⟩ : ∃ a n c, p2a = .slice a n c := by obtain ⟨a', c', h'⟩ := rowg_slice ownp2a; exact ⟨_, _, _, h'⟩
                  subst hp2a
                  have hbp2a := hC.grow2 HBs.out hHeld growp2a
                  have hC2 := hC.app2 ownp2a growp2a atp2a
                  clear hC ownp2a growp2a atp2a
                  have hC := hC2
                  clear hC2
                  refine hK.out _ _ (hbp2a) (fun hHeld => ?_)
                  clear hK K
                  refine wpAnyH_ready (rs := [15]) (by kernel_rfl) (by simp) ?_
                  refine AllReadyH.cons rfl (fun K hK => ?_) AllReadyH.nil
                  refine wp_append_row _ _ _ 42 rfl Bs 80 jsi _ 2 16 Try.underlying42 js0 js1 js2 js3 rfl (by decide) (.slice p2aa p2an p2ac) ([] ++ s1.ss : List (Int × Int)).length (pcells ([] ++ s1.ss : List (Int × Int))) rfl (hC.r2 _ _ rfl) (.slice bc s2.ss.length bcc) s2.ss.length (pcells s2.ss) rfl 0 (HRB.out.below hHeld).ss (pcells_one _) (by have := HLN.out; unfold maxLen; simp; omega) (by have := HLN.out; simp; omega) hC.z ?_
                  intro p2b wP ownp2b growp2b atp2b
                  obtain ⟨p2ba, p2bn, p2bc, hp2b⟩ : ∃ a n c, p2b = .slice a n c := by obtain ⟨a', c', h'⟩ := rowg_slice ownp2b; exact ⟨_, _, _, h'⟩
                  subst hp2b
                  have hbp2b := hC.grow2 HBs.out hHeld growp2b
                  have hC2 := hC.app2 ownp2b growp2b atp2b
                  clear hC ownp2b growp2b atp2b
                  have hC := hC2
                  clear hC2
                  refine hK.out _ _ (hbp2b) (fun hHeld => ?_)
                  clear hK K
                  refine' wpAnyH_take (i := 16) (v := _) rfl (by kernel_rfl) (by kernel_rfl) (by kernel_rfl) (fun _ _ _ h => by cases h.1) (Or.inl ⟨by rfl, ?hy956⟩) hHeld ?hn956
                  case hy956 => (intro wz hSw; go_simp; first | done | with_reducible rfl)
                  try simp only [List.getElem_toArray, List.getElem_cons_zero, List.getElem_cons_succ, Act.put, List.setIfInBounds_toArray, List.set_cons_zero, List.set_cons_succ]
                  refine wpAnyH_ready (rs := [18]) (by kernel_rfl) (by simp) ?_
                  refine AllReadyH.cons rfl (fun K hK => ?_) AllReadyH.nil
                  obtain ⟨CY, hyq⟩ := hC.bq _ rfl
                  obtain ⟨⟨c0, c1, c2⟩, f0, f1, f2⟩ := id CY
                  have GQ : C3 (((wP.setCell ⟨qb, 0, none⟩ (.slice ba s2.n.length bac)).setCell ⟨qb, 1, none⟩ (.slice p1ba p1bn p1bc)).setCell ⟨qb, 2, none⟩ (.slice p2ba p2bn p2bc)) qb (.slice ba s2.n.length bac) (.slice p1ba p1bn p1bc) (.slice p2ba p2bn p2bc) := ((CY.set0 _).set1 _).set2 _
                  have hfar : ∀ b, b ≠ qb → (((wP.setCell ⟨qb, 0, none⟩ (.slice ba s2.n.length bac)).setCell ⟨qb, 1, none⟩ (.slice p1ba p1bn p1bc)).setCell ⟨qb, 2, none⟩ (.slice p2ba p2bn p2bc)).heap[b]? = wP.heap[b]? := fun b hb => ((Below.heap_setCell _ _ _ _ hb).trans (Below.heap_setCell _ _ _ _ hb)).trans (Below.heap_setCell _ _ _ _ hb)
                  have q1 := rowp_frame (hC.r1 _ _ rfl) (fun k hk => hfar k (fun e => hC.n1q _ _ _ rfl rfl (e ▸ hk)))
                  have q2 := rowp_frame (hC.r2 _ _ rfl) (fun k hk => hfar k (fun e => hC.n2q _ _ _ rfl rfl (e ▸ hk)))
                  have hyq' : w9.heap.size ≤ qb := by have := HBs.out; omega
                  have BQ : Below w9.heap.size w9 (((wP.setCell ⟨qb, 0, none⟩ (.slice ba s2.n.length bac)).setCell ⟨qb, 1, none⟩ (.slice p1ba p1bn p1bc)).setCell ⟨qb, 2, none⟩ (.slice p2ba p2bn p2bc)) := ((hHeld.setCell hyq' _).setCell hyq' _).setCell hyq' _
                  go_simp
                  refine hK.out _ _ (BQ) (fun hHeld => ?_)
                  clear hK K
                  refine wpAnyH_done (by kernel_rfl) ?_ _
                  exact ⟨rfl, qb, _, _, ⟨rfl, rfl, rfl, rfl, rfl, rfl, rfl, rfl, rfl, rfl, rfl, trivial⟩, hHeld, GQ, q1, q2⟩
              · go_simp
                have hC2 := Cs.newq hC 44
                have AL : Below (wP).heap.size wP (World.alloc wP (.cells #[.slice none 0 0, .slice none 0 0, .slice none 0 0] 44)) := (Below.refl _ _).alloc (Nat.le_refl _) _
                obtain ⟨qb, hqb⟩ : ∃ x, x = (wP).heap.size := ⟨_, rfl⟩
                rw [← hqb] at hC2 ⊢
                clear hqb hC
                have hC := hC2
                clear hC2
                generalize (World.alloc wP (.cells #[.slice none 0 0, .slice none 0 0, .slice none 0 0] 44)) = wQ at *
                refine hK.out _ _ (Below.then hHeld AL hHeld.size) (fun hHeld => ?_)
                clear hK K
                refine wpAnyH_ready (rs := [8]) (by kernel_rfl) (by simp) ?_
                refine AllReadyH.cons rfl (fun K hK => ?_) AllReadyH.nil
                refine wp_append_row _ _ _ 41 rfl Bs 49 jwi _ 2 16 Try.underlying41 jw0 jw1 jw2 jw3 rfl (by decide) (.slice p1aa p1an p1ac) ([] ++ s1.ws : List (Int × Int)).length (pcells ([] ++ s1.ws : List (Int × Int))) rfl (hC.r1 _ _ rfl) (.slice bb s2.ws.length bbc) s2.ws.length (pcells s2.ws) rfl 0 (HRB.out.below hHeld).ws (pcells_one _) (by have := HLN.out; unfold maxLen; simp; omega) (by have := HLN.out; simp; omega) hC.z ?_
                intro p1b wP ownp1b growp1b atp1b
                obtain ⟨p1ba, p1bn, p1bc, hp1b⟩ : ∃ a n c, p1b = .slice a n c := by obtain ⟨a', c', h'⟩ := rowg_slice ownp1b; exact ⟨_, _, _, h'⟩
                subst hp1b
                have hbp1b := hC.grow1 HBs.out hHeld growp1b
                have hC2 := hC.app1 ownp1b growp1b atp1b
                clear hC ownp1b growp1b atp1b
                have hC := hC2
                clear hC2
                refine hK.out _ _ (hbp1b) (fun hHeld => ?_)
                clear hK K
                refine wpAnyH_ready (rs := [12]) (by kernel_rfl) (by simp) ?_
                refine AllReadyH.cons rfl (fun K hK => ?_) AllReadyH.nil
                refine wp_append_row _ _ _ 42 rfl Bs 80 jsi _ 2 16 Try.underlying42 js0 js1 js2 js3 rfl (by decide) (.slice (some ⟨g2, 0, none⟩) 0 0) ([] : List (Int × Int)).length (pcells ([] : List (Int × Int))) rfl (hC.r2 _ _ rfl) (.slice ac s1.ss.length acc) s1.ss.length (pcells s1.ss) rfl 0 (HRA.out.below hHeld).ss (pcells_one _) (by have := HLN.out; unfold maxLen; simp; omega) (by have := HLN.out; simp; omega) hC.z ?_
                intro p2a wP ownp2a growp2a atp2a
                obtain ⟨p2aa, p2an, p2ac, hp2a⟩ : ∃ a n c, p2a = .slice a n c := by obtain ⟨a', c', h'⟩ := rowg_slice ownp2a; exact ⟨_, _, _, h'⟩
                subst hp2a
                have hbp2a := hC.grow2 HBs.out hHeld growp2a
                have hC2 := hC.app2 ownp2a growp2a atp2a
                clear hC ownp2a growp2a atp2a
                have hC := hC2
                clear hC2
                refine hK.out _ _ (hbp2a) (fun hHeld => ?_)
                clear hK K
                refine wpAnyH_ready (rs := [15]) (by kernel_rfl) (by simp) ?_
                refine AllReadyH.cons rfl (fun K hK => ?_) AllReadyH.nil
                refine wp_append_row _ _ _ 42 rfl Bs 80 jsi _ 2 16 Try.underlying42 js0 js1 js2 js3 rfl (by decide) (.slice p2aa p2an p2ac) ([] ++ s1.ss : List (Int × Int)).length (pcells ([] ++ s1.ss : List (Int × Int))) rfl (hC.r2 _ _ rfl) (.slice bc s2.ss.length bcc) s2.ss.length (pcells s2.ss) rfl 0 (HRB.out.below hHeld).ss (pcells_one _) (by have := HLN.out; unfold maxLen; simp; omega) (by have := HLN.out; simp; omega) hC.z ?_
                intro p2b wP ownp2b growp2b atp2b
                obtain ⟨p2ba, p2bn, p2bc, hp2b⟩ : ∃ a n c, p2b = .slice a n c := by obtain ⟨a', c', h'⟩ := rowg_slice ownp2b; exact ⟨_, _, _, h'⟩
                subst hp2b
                have hbp2b := hC.grow2 HBs.out hHeld growp2b
                have hC2 := hC.app2 ownp2b growp2b atp2b
                clear hC ownp2b growp2b atp2b
                have hC := hC2
                clear hC2
                refine hK.out _ _ (hbp2b) (fun hHeld => ?_)
                clear hK K
                refine' wpAnyH_take (i := 16) (v := _) rfl (by kernel_rfl) (by kernel_rfl) (by kernel_rfl) (fun _ _ _ h => by cases h.1) (Or.inl ⟨by rfl, ?hy957⟩) hHeld ?hn957
                case hy957 => (intro wz hSw; go_simp; first | done | with_reducible rfl)
                try simp only [List.getElem_toArray, List.getElem_cons_zero, List.getElem_cons_succ, Act.put, List.setIfInBounds_toArray, List.set_cons_zero, List.set_cons_succ]
                refine wpAnyH_ready (rs := [18]) (by kernel_rfl) (by simp) ?_
                refine AllReadyH.cons rfl (fun K hK => ?_) AllReadyH.nil
                obtain ⟨CY, hyq⟩ := hC.bq _ rfl
                obtain ⟨⟨c0, c1, c2⟩, f0, f1, f2⟩ := id CY
                have GQ : C3 (((wP.setCell ⟨qb, 0, none⟩ (.slice ba s2.n.length bac)).setCell ⟨qb, 1, none⟩ (.slice p1ba p1bn p1bc)).setCell ⟨qb, 2, none⟩ (.slice p2ba p2bn p2bc)) qb (.slice ba s2.n.length bac) (.slice p1ba p1bn p1bc) (.slice p2ba p2bn p2bc) := ((CY.set0 _).set1 _).set2 _
                have hfar : ∀ b, b ≠ qb → (((wP.setCell ⟨qb, 0, none⟩ (.slice ba s2.n.length bac)).setCell ⟨qb, 1, none⟩ (.slice p1ba p1bn p1bc)).setCell ⟨qb, 2, none⟩ (.slice p2ba p2bn p2bc)).heap[b]? = wP.heap[b]? := fun b hb => ((Below.heap_setCell _ _ _ _ hb).trans (Below.heap_setCell _ _ _ _ hb)).trans (Below.heap_setCell _ _ _ _ hb)
                have q1 := rowp_frame (hC.r1 _ _ rfl) (fun k hk => hfar k (fun e => hC.n1q _ _ _ rfl rfl (e ▸ hk)))
                have q2 := rowp_frame (hC.r2 _ _ rfl) (fun k hk => hfar k (fun e => hC.n2q _ _ _ rfl rfl (e ▸ hk)))
                have hyq' : w9.heap.size ≤ qb := by have := HBs.out; omega
                have BQ : Below w9.heap.size w9 (((wP.setCell ⟨qb, 0, none⟩ (.slice ba s2.n.length bac)).setCell ⟨qb, 1, none⟩ (.slice p1ba p1bn p1bc)).setCell ⟨qb, 2, none⟩ (.slice p2ba p2bn p2bc)) := ((hHeld.setCell hyq' _).setCell hyq' _).setCell hyq' _
                go_simp
                refine hK.out _ _ (BQ) (fun hHeld => ?_)
                clear hK K
                refine wpAnyH_done (by kernel_rfl) ?_ _
                exact ⟨rfl, qb, _, _, ⟨rfl, rfl, rfl, rfl, rfl, rfl, rfl, rfl, rfl, rfl, rfl, trivial⟩, hHeld, GQ, q1, q2⟩
            · go_simp
              have hC2 := Cs.newq hC 44
              have AL : Below (wQ).heap.size wQ (World.alloc wQ (.cells #[.slice none 0 0, .slice none 0 0, .slice none 0 0] 44)) := (Below.refl _ _).alloc (Nat.le_refl _) _
              obtain ⟨qb, hqb⟩ : ∃ x, x = (wQ).heap.size := ⟨_, rfl⟩
              rw [← hqb] at hC2 ⊢
              clear hqb hC
              have hC := hC2
              clear hC2
              generalize (World.alloc wQ (.cells #[.slice none 0 0, .slice none 0 0, .slice none 0 0] 44)) = wQ at *
              refine hK.out _ _ (Below.then hHeld AL hHeld.size) (fun hHeld => ?_)
              clear hK K
              refine wpAnyH_ready (rs := [5]) (by kernel_rfl) (by simp) ?_
              refine AllReadyH.cons rfl (fun K hK => ?_) AllReadyH.nil
              refine wp_append_row _ _ _ 41 rfl Bs 49 jwi _ 2 16 Try.underlying41 jw0 jw1 jw2 jw3 rfl (by decide) (.slice (some ⟨g1, 0, none⟩) 0 0) ([] : List (Int × Int)).length (pcells ([] : List (Int × Int))) rfl (hC.r1 _ _ rfl) (.slice ab s1.ws.length abc) s1.ws.length (pcells s1.ws) rfl 0 (HRA.out.below hHeld).ws (pcells_one _) (by have := HLN.out; unfold maxLen; simp; omega) (by have := HLN.out; simp; omega) hC.z ?_
              intro p1a wP ownp1a growp1a atp1a
              obtain ⟨p1aa, p1an, p1ac, hp1a⟩ : ∃ a n c, p1a = .slice a n c := by obtain ⟨a', c', h'⟩ := rowg_slice ownp1a; exact ⟨_, _, _, h'⟩
              subst hp1a
              have hbp1a := hC.grow1 HBs.out hHeld growp1a
              have hC2 := hC.app1 ownp1a growp1a atp1a
              clear hC ownp1a growp1a atp1a
              have hC := hC2
              clear hC2
              refine hK.out _ _ (hbp1a) (fun hHeld => ?_)
              clear hK K
              refine wpAnyH_ready (rs := [8]) (by kernel_rfl) (by simp) ?_
              refine AllReadyH.cons rfl (fun K hK => ?_) AllReadyH.nil
              refine wp_append_row _ _ _ 41 rfl Bs 49 jwi _ 2 16 Try.underlying41 jw0 jw1 jw2 jw3 rfl (by decide) (.slice p1aa p1an p1ac) ([] ++ s1.ws : List (Int × Int)).length (pcells ([] ++ s1.ws : List (Int × Int))) rfl (hC.r1 _ _ rfl) (.slice bb s2.ws.length bbc) s2.ws.length (pcells s2.ws) rfl 0 (HRB.out.below hHeld).ws (pcells_one _) (by have := HLN.out; unfold maxLen; simp; omega) (by have := HLN.out; simp; omega) hC.z ?_
              intro p1b wP ownp1b growp1b atp1b
              obtain ⟨p1ba, p1bn, p1bc, hp1b⟩ : ∃ a n c, p1b = .slice a n c := by obtain ⟨a', c', h'⟩ := rowg_slice ownp1b; exact ⟨_, _, _, h'⟩
              subst hp1b
              have hbp1b := hC.grow1 HBs.out hHeld growp1b
              have hC2 := hC.app1 ownp1b growp1b atp1b
              clear hC ownp1b growp1b atp1b
              have hC := hC2
              clear hC2
              refine hK.out _ _ (hbp1b) (fun hHeld => ?_)
              clear hK K
              refine wpAnyH_ready (rs := [12]) (by kernel_rfl) (by simp) ?_
              refine AllReadyH.cons rfl (fun K hK => ?_) AllReadyH.nil
              refine wp_append_row _ _ _ 42 rfl Bs 80 jsi _ 2 16 Try.underlying42 js0 js1 js2 js3 rfl (by decide) (.slice (some ⟨g2, 0, none⟩) 0 0) ([] : List (Int × Int)).length (pcells ([] : List (Int × Int))) rfl (hC.r2 _ _ rfl) (.slice ac s1.ss.length acc) s1.ss.length (pcells s1.ss) rfl 0 (HRA.out.below hHeld).ss (pcells_one _) (by have := HLN.out; unfold maxLen; simp; omega) (by have := HLN.out; simp; omega) hC.z ?_
              intro p2a wP ownp2a growp2a atp2a
              obtain ⟨p2aa, p2an, p2ac, hp2a⟩ : ∃ a n c, p2a = .slice a n c := by obtain ⟨a', c', h'⟩ := rowg_slice ownp2a; exact ⟨_, _, _, h'⟩
              subst hp2a
              have hbp2a := hC.grow2 HBs.out hHeld growp2a
              have hC2 := hC.app2 ownp2a growp2a atp2a
              clear hC ownp2a growp2a atp2a
              have hC := hC2
              clear hC2
              refine hK.out _ _ (hbp2a) (fun hHeld => ?_)
              clear hK K
              refine wpAnyH_ready (rs := [15]) (by kernel_rfl) (by simp) ?_
              refine AllReadyH.cons rfl (fun K hK => ?_) AllReadyH.nil
              refine wp_append_row _ _ _ 42 rfl Bs 80 jsi _ 2 16 Try.underlying42 js0 js1 js2 js3 rfl (by decide) (.slice p2aa p2an p2ac) ([] ++ s1.ss : List (Int × Int)).length (pcells ([] ++ s1.ss : List (Int × Int))) rfl (hC.r2 _ _ rfl) (.slice bc s2.ss.length bcc) s2.ss.length (pcells s2.ss) rfl 0 (HRB.out.below hHeld).ss (pcells_one _) (by have := HLN.out; unfold maxLen; simp; omega) (by have := HLN.out; simp; omega) hC.z ?_
              intro p2b wP ownp2b growp2b atp2b
              obtain ⟨p2ba, p2bn, p2bc, hp2b⟩ : ∃ a n c, p2b = .slice a n c := by obtain ⟨a', c', h'⟩ := rowg_slice ownp2b; exact ⟨_, _, _, h'⟩
              subst hp2b
              have hbp2b := hC.grow2 HBs.out hHeld growp2b
              have hC2 := hC.app2 ownp2b growp2b atp2b
              clear hC ownp2b growp2b atp2b
              have hC := hC2
              clear hC2
              refine hK.out _ _ (hbp2b) (fun hHeld => ?_)
              clear hK K
              refine' wpAnyH_take (i := 16) (v := _) rfl (by kernel_rfl) (by kernel_rfl) (by kernel_rfl) (fun _ _ _ h => by cases h.1) (Or.inl ⟨by rfl, ?hy958⟩) hHeld ?hn958
              case hy958 => (intro wz hSw; go_simp; first | done | with_reducible rfl)
              try simp only [List.getElem_toArray, List.getElem_cons_zero, List.getElem_cons_succ, Act.put, List.setIfInBounds_toArray, List.set_cons_zero, List.set_cons_succ]
              refine wpAnyH_ready (rs := [18]) (by kernel_rfl) (by simp) ?_
              refine AllReadyH.cons rfl (fun K hK => ?_) AllReadyH.nil
              obtain ⟨CY, hyq⟩ := hC.bq _ rfl
              obtain ⟨⟨c0, c1, c2⟩, f0, f1, f2⟩ := id CY
              have GQ : C3 (((wP.setCell ⟨qb, 0, none⟩ (.slice ba s2.n.length bac)).setCell ⟨qb, 1, none⟩ (.slice p1ba p1bn p1bc)).setCell ⟨qb, 2, none⟩ (.slice p2ba p2bn p2bc)) qb (.slice ba s2.n.length bac) (.slice p1ba p1bn p1bc) (.slice p2ba p2bn p2bc) := ((CY.set0 _).set1 _).set2 _
              have hfar : ∀ b, b ≠ qb → (((wP.setCell ⟨qb, 0, none⟩ (.slice ba s2.n.length bac)).setCell ⟨qb, 1, none⟩ (.slice p1ba p1bn p1bc)).setCell ⟨qb, 2, none⟩ (.slice p2ba p2bn p2bc)).heap[b]? = wP.heap[b]? := fun b hb => ((Below.heap_setCell _ _ _ _ hb).trans (Below.heap_setCell _ _ _ _ hb)).trans (Below.heap_setCell _ _ _ _ hb)
              have q1 := rowp_frame (hC.r1 _ _ rfl) (fun k hk => hfar k (fun e => hC.n1q _ _ _ rfl rfl (e ▸ hk)))
              have q2 := rowp_frame (hC.r2 _ _ rfl) (fun k hk => hfar k (fun e => hC.n2q _ _ _ rfl rfl (e ▸ hk)))
              have hyq' : w9.heap.size ≤ qb := by have := HBs.out; omega
              have BQ : Below w9.heap.size w9 (((wP.setCell ⟨qb, 0, none⟩ (.slice ba s2.n.length bac)).setCell ⟨qb, 1, none⟩ (.slice p1ba p1bn p1bc)).setCell ⟨qb, 2, none⟩ (.slice p2ba p2bn p2bc)) := ((hHeld.setCell hyq' _).setCell hyq' _).setCell hyq' _
              go_simp
              refine hK.out _ _ (BQ) (fun hHeld => ?_)
              clear hK K
              refine wpAnyH_done (by kernel_rfl) ?_ _
              exact ⟨rfl, qb, _, _, ⟨rfl, rfl, rfl, rfl, rfl, rfl, rfl, rfl, rfl, rfl, rfl, trivial⟩, hHeld, GQ, q1, q2⟩
          · go_simp
            have hC2 := Cs.newq hC 44
            have AL : Below (wQ).heap.size wQ (World.alloc wQ (.cells #[.slice none 0 0, .slice none 0 0, .slice none 0 0] 44)) := (Below.refl _ _).alloc (Nat.le_refl _) _
            obtain ⟨qb, hqb⟩ : ∃ x, x = (wQ).heap.size := ⟨_, rfl⟩
            rw [← hqb] at hC2 ⊢
            clear hqb hC
            have hC := hC2
            clear hC2
            generalize (World.alloc wQ (.cells #[.slice none 0 0, .slice none 0 0, .slice none 0 0] 44)) = wQ at *
            refine hK.out _ _ (Below.then hHeld AL hHeld.size) (fun hHeld => ?_)
            clear hK K
            refine wpAnyH_ready (rs := [5, 9]) (by kernel_rfl) (by simp) ?_
            refine AllReadyH.cons rfl (fun K hK => ?_) (AllReadyH.cons rfl (fun K hK => ?_) AllReadyH.nil)
            · refine wp_append_row _ _ _ 41 rfl Bs 49 jwi _ 2 16 Try.underlying41 jw0 jw1 jw2 jw3 rfl (by decide) (.slice (some ⟨g1, 0, none⟩) 0 0) ([] : List (Int × Int)).length (pcells ([] : List (Int × Int))) rfl (hC.r1 _ _ rfl) (.slice ab s1.ws.length abc) s1.ws.length (pcells s1.ws) rfl 0 (HRA.out.below hHeld).ws (pcells_one _) (by have := HLN.out; unfold maxLen; simp; omega) (by have := HLN.out; simp; omega) hC.z ?_
              intro p1a wP ownp1a growp1a atp1a
              obtain ⟨p1aa, p1an, p1ac, hp1a⟩ : ∃ a n c, p1a = .slice a n c := by obtain ⟨a', c', h'⟩ := rowg_slice ownp1a; exact ⟨_, _, _, h'⟩
              subst hp1a
              have hbp1a := hC.grow1 HBs.out hHeld growp1a
              have hC2 := hC.app1 ownp1a growp1a atp1a
              clear hC ownp1a growp1a atp1a
              have hC := hC2
              clear hC2
              refine hK.out _ _ (hbp1a) (fun hHeld => ?_)
              clear hK K
              refine wpAnyH_ready (rs := [8, 9]) (by kernel_rfl) (by simp) ?_
              refine AllReadyH.cons rfl (fun K hK => ?_) (AllReadyH.cons rfl (fun K hK => ?_) AllReadyH.nil)
              · refine wp_append_row _ _ _ 41 rfl Bs 49 jwi _ 2 16 Try.underlying41 jw0 jw1 jw2 jw3 rfl (by decide) (.slice p1aa p1an p1ac) ([] ++ s1.ws : List (Int × Int)).length (pcells ([] ++ s1.ws : List (Int × Int))) rfl (hC.r1 _ _ rfl) (.slice bb s2.ws.length bbc) s2.ws.length (pcells s2.ws) rfl 0 (HRB.out.below hHeld).ws (pcells_one _) (by have := HLN.out; unfold maxLen; simp; omega) (by have := HLN.out; simp; omega) hC.z ?_
                intro p1b wP ownp1b growp1b atp1b
                obtain ⟨p1ba, p1bn, p1bc, hp1b⟩ : ∃ a n c, p1b = .slice a n c := by obtain ⟨a', c', h'⟩ := rowg_slice ownp1b; exact ⟨_, _, _, h'⟩
                subst hp1b
                have hbp1b := hC.grow1 HBs.out hHeld growp1b
                have hC2 := hC.app1 ownp1b growp1b atp1b
                clear hC ownp1b growp1b atp1b
                have hC := hC2
                clear hC2
                refine hK.out _ _ (hbp1b) (fun hHeld => ?_)
                clear hK K
                refine wpAnyH_ready (rs := [9]) (by kernel_rfl) (by simp) ?_
                refine AllReadyH.cons rfl (fun K hK => ?_) AllReadyH.nil
                go_simp
                have hC2 := Cs.new2 hC
                have AL : Below (wP).heap.size wP (World.alloc wP (.cells #[] 80)) := (Below.refl _ _).alloc (Nat.le_refl _) _
                obtain ⟨g2, hg2⟩ : ∃ x, x = (wP).heap.size := ⟨_, rfl⟩
                rw [← hg2] at hC2 ⊢
                clear hg2 hC
                have hC := hC2
                clear hC2
                generalize (World.alloc wP (.cells #[] 80)) = wQ at *
                refine hK.out _ _ (Below.then hHeld AL hHeld.size) (fun hHeld => ?_)
                clear hK K
                refine wpAnyH_ready (rs := [12]) (by kernel_rfl) (by simp) ?_
                refine AllReadyH.cons rfl (fun K hK => ?_) AllReadyH.nil
                refine wp_append_row _ _ _ 42 rfl Bs 80 jsi _ 2 16 Try.underlying42 js0 js1 js2 js3 rfl (by decide) (.slice (some ⟨g2, 0, none⟩) 0 0) ([] : List (Int × Int)).length (pcells ([] : List (Int × Int))) rfl (hC.r2 _ _ rfl) (.slice ac s1.ss.length acc) s1.ss.length (pcells s1.ss) rfl 0 (HRA.out.below hHeld).ss (pcells_one _) (by have := HLN.out; unfold maxLen; simp; omega) (by have := HLN.out; simp; omega) hC.z ?_
                intro p2a wP ownp2a growp2a atp2a
                obtain ⟨p2aa, p2an, p2ac, hp2a⟩ : ∃ a n c, p2a = .slice a n c := by obtain ⟨a', c', h'⟩ := rowg_slice ownp2a; exact ⟨_, _, _, h'⟩
                subst hp2a
                have hbp2a := hC.grow2 HBs.out hHeld growp2a
                have hC2 := hC.app2 ownp2a growp2a atp2a
                clear hC ownp2a growp2a atp2a
                have hC := hC2
                clear hC2
                refine hK.out _ _ (hbp2a) (fun hHeld => ?_)
                clear hK K
                refine wpAnyH_ready (rs := [15]) (by kernel_rfl) (by simp) ?_
                refine AllReadyH.cons rfl (fun K hK => ?_) AllReadyH.nil
                refine wp_append_row _ _ _ 42 rfl Bs 80 jsi _ 2 16 Try.underlying42 js0 js1 js2 js3 rfl (by decide) (.slice p2aa p2an p2ac) ([] ++ s1.ss : List (Int × Int)).length (pcells ([] ++ s1.ss : List (Int × Int))) rfl (hC.r2 _ _ rfl) (.slice bc s2.ss.length bcc) s2.ss.length (pcells s2.ss) rfl 0 (HRB.out.below hHeld).ss (pcells_one _) (by have := HLN.out; unfold maxLen; simp; omega) (by have := HLN.out; simp; omega) hC.z ?_
                intro p2b wP ownp2b growp2b atp2b
                obtain ⟨p2ba, p2bn, p2bc, hp2b⟩ : ∃ a n c, p2b = .slice a n c := by obtain ⟨a', c', h'⟩ := rowg_slice ownp2b; exact ⟨_, _, _, h'⟩
                subst hp2b
                have hbp2b := hC.grow2 HBs.out hHeld growp2b
                have hC2 := hC.app2 ownp2b growp2b atp2b
                clear hC ownp2b growp2b atp2b
                have hC := hC2
                clear hC2
                refine hK.out _ _ (hbp2b) (fun hHeld => ?_)
                clear hK K
                refine' wpAnyH_take (i := 16) (v := _) rfl (by kernel_rfl) (by kernel_rfl) (by kernel_rfl) (fun _ _ _ h => by cases h.1) (Or.inl ⟨by rfl, ?hy959⟩) hHeld ?hn959
                case hy959 => (intro wz hSw; go_simp; first | done | with_reducible rfl)
                try simp only [List.getElem_toArray, List.getElem_cons_zero, List.getElem_cons_succ, Act.put, List.setIfInBounds_toArray, List.set_cons_zero, List.set_cons_succ]
                refine wpAnyH_ready (rs := [18]) (by kernel_rfl) (by simp) ?_
                refine AllReadyH.cons rfl (fun K hK => ?_) AllReadyH.nil
                obtain ⟨CY, hyq⟩ := hC.bq _ rfl
                obtain ⟨⟨c0, c1, c2⟩, f0, f1, f2⟩ := id CY
                have GQ : C3 (((wP.setCell ⟨qb, 0, none⟩ (.slice ba s2.n.length bac)).setCell ⟨qb, 1, none⟩ (.slice p1ba p1bn p1bc)).setCell ⟨qb, 2, none⟩ (.slice p2ba p2bn p2bc)) qb (.slice ba s2.n.length bac) (.slice p1ba p1bn p1bc) (.slice p2ba p2bn p2bc) := ((CY.set0 _).set1 _).set2 _
                have hfar : ∀ b, b ≠ qb → (((wP.setCell ⟨qb, 0, none⟩ (.slice ba s2.n.length bac)).setCell ⟨qb, 1, none⟩ (.slice p1ba p1bn p1bc)).setCell ⟨qb, 2, none⟩ (.slice p2ba p2bn p2bc)).heap[b]? = wP.heap[b]? := fun b hb => ((Below.heap_setCell _ _ _ _ hb).trans (Below.heap_setCell _ _ _ _ hb)).trans (Below.heap_setCell _ _ _ _ hb)
                have q1 := rowp_frame (hC.r1 _ _ rfl) (fun k hk => hfar k (fun e => hC.n1q _ _ _ rfl rfl (e ▸ hk)))
                have q2 := rowp_frame (hC.r2 _ _ rfl) (fun k hk => hfar k (fun e => hC.n2q _ _ _ rfl rfl (e ▸ hk)))
                have hyq' : w9.heap.size ≤ qb := by have := HBs.out; omega
                have BQ : Below w9.heap.size w9 (((wP.setCell ⟨qb, 0, none⟩ (.slice ba s2.n.length bac)).setCell ⟨qb, 1, none⟩ (.slice p1ba p1bn p1bc)).setCell ⟨qb, 2, none⟩ (.slice p2ba p2bn p2bc)) := ((hHeld.setCell hyq' _).setCell hyq' _).setCell hyq' _
                go_simp
                refine hK.out _ _ (BQ) (fun hHeld => ?_)
                clear hK K
                refine wpAnyH_done (by kernel_rfl) ?_ _
                exact ⟨rfl, qb, _, _, ⟨rfl, rfl, rfl, rfl, rfl, rfl, rfl, rfl, rfl, rfl, rfl, trivial⟩, hHeld, GQ, q1, q2⟩
              · go_simp
                have hC2 := Cs.new2 hC
                have AL : Below (wP).heap.size wP (World.alloc wP (.cells #[] 80)) := (Below.refl _ _).alloc (Nat.le_refl _) _
                obtain ⟨g2, hg2⟩ : ∃ x, x = (wP).heap.size := ⟨_, rfl⟩
                rw [← hg2] at hC2 ⊢
                clear hg2 hC
                have hC := hC2
                clear hC2
                generalize (World.alloc wP (.cells #[] 80)) = wQ at *
                refine hK.out _ _ (Below.then hHeld AL hHeld.size) (fun hHeld => ?_)
                clear hK K
                refine wpAnyH_ready (rs := [8]) (by kernel_rfl) (by simp) ?_
                refine AllReadyH.cons rfl (fun K hK => ?_) AllReadyH.nil
                refine wp_append_row _ _ _ 41 rfl Bs 49 jwi _ 2 16 Try.underlying41 jw0 jw1 jw2 jw3 rfl (by decide) (.slice p1aa p1an p1ac) ([] ++ s1.ws : List (Int × Int)).length (pcells ([] ++ s1.ws : List (Int × Int))) rfl (hC.r1 _ _ rfl) (.slice bb s2.ws.length bbc) s2.ws.length (pcells s2.ws) rfl 0 (HRB.out.below hHeld).ws (pcells_one _) (by have := HLN.out; unfold maxLen; simp; omega) (by have := HLN.out; simp; omega) hC.z ?_
                intro p1b wP ownp1b growp1b atp1b
                obtain ⟨p1ba, p1bn, p1bc, hp1b⟩ : ∃ a n c, p1b = .slice a n c := by obtain ⟨a', c', h'⟩ := rowg_slice ownp1b; exact ⟨_, _, _, h'⟩
                subst hp1b
                have hbp1b := hC.grow1 HBs.out hHeld growp1b
                have hC2 := hC.app1 ownp1b growp1b atp1b
                clear hC ownp1b growp1b atp1b
                have hC := hC2
                clear hC2
                refine hK.out _ _ (hbp1b) (fun hHeld => ?_)
                clear hK K
                refine wpAnyH_ready (rs := [12]) (by kernel_rfl) (by simp) ?_
                refine AllReadyH.cons rfl (fun K hK => ?_) AllReadyH.nil
                refine wp_append_row _ _ _ 42 rfl Bs 80 jsi _ 2 16 Try.underlying42 js0 js1 js2 js3 rfl (by decide) (.slice (some ⟨g2, 0, none⟩) 0 0) ([] : List (Int × Int)).length (pcells ([] : List (Int × Int))) rfl (hC.r2 _ _ rfl) (.slice ac s1.ss.length acc) s1.ss.length (pcells s1.ss) rfl 0 (HRA.out.below hHeld).ss (pcells_one _) (by have := HLN.out; unfold maxLen; simp; omega) (by have := HLN.out; simp; omega) hC.z ?_
                intro p2a wP ownp2a growp2a atp2a
                obtain ⟨p2aa, p2an, p2ac, hp2a⟩ : ∃ a n c, p2a = .slice a n c := by obtain ⟨a', c', h'⟩ := rowg_slice ownp2a; exact ⟨_, _, _, h'⟩
                subst hp2a
                have hbp2a := hC.grow2 HBs.out hHeld growp2a
                have hC2 := hC.app2 ownp2a growp2a atp2a
                clear hC ownp2a growp2a atp2a
                have hC := hC2
                clear hC2
                refine hK.out _ _ (hbp2a) (fun hHeld => ?_)
                clear hK K
                refine wpAnyH_ready (rs := [15]) (by kernel_rfl) (by simp) ?_
                refine AllReadyH.cons rfl (fun K hK => ?_) AllReadyH.nil
                refine wp_append_row _ _ _ 42 rfl Bs 80 jsi _ 2 16 Try.underlying42 js0 js1 js2 js3 rfl (by decide) (.slice p2aa p2an p2ac) ([] ++ s1.ss : List (Int × Int)).length (pcells ([] ++ s1.ss : List (Int × Int))) rfl (hC.r2 _ _ rfl) (.slice bc s2.ss.length bcc) s2.ss.length (pcells s2.ss) rfl 0 (HRB.out.below hHeld).ss (pcells_one _) (by have := HLN.out; unfold maxLen; simp; omega) (by have := HLN.out; simp; omega) hC.z ?_
                intro p2b wP ownp2b growp2b atp2b
                obtain ⟨p2ba, p2bn, p2bc, hp2b⟩ : ∃ a n c, p2b = .slice a n c := by obtain ⟨a', c', h'⟩ := rowg_slice ownp2b; exact ⟨_, _, _, h'⟩
                subst hp2b
                have hbp2b := hC.grow2 HBs.out hHeld growp2b
                have hC2 := hC.app2 ownp2b growp2b atp2b
                clear hC ownp2b growp2b atp2b
                have hC := hC2
                clear hC2
                refine hK.out _ _ (hbp2b) (fun hHeld => ?_)
                clear hK K
                refine' wpAnyH_take (i := 16) (v := _) rfl (by kernel_rfl) (by kernel_rfl) (by kernel_rfl) (fun _ _ _ h => by cases h.1) (Or.inl ⟨by rfl, ?hy960⟩) hHeld ?hn960
                case hy960 => (intro wz hSw; go_simp; first | done | with_reducible rfl)
                try simp only [List.getElem_toArray, List.getElem_cons_zero, List.getElem_cons_succ, Act.put, List.setIfInBounds_toArray, List.set_cons_zero, List.set_cons_succ]
                refine wpAnyH_ready (rs := [18]) (by kernel_rfl) (by simp) ?_
                refine AllReadyH.cons rfl (fun K hK => ?_) AllReadyH.nil
                obtain ⟨CY, hyq⟩ := hC.bq _ rfl
                obtain ⟨⟨c0, c1, c2⟩, f0, f1, f2⟩ := id CY
                have GQ : C3 (((wP.setCell ⟨qb, 0, none⟩ (.slice ba s2.n.length bac)).setCell ⟨qb, 1, none⟩ (.slice p1ba p1bn p1bc)).setCell ⟨qb, 2, none⟩ (.slice p2ba p2bn p2bc)) qb (.slice ba s2.n.length bac) (.slice p1ba p1bn p1bc) (.slice p2ba p2bn p2bc) := ((CY.set0 _).set1 _).set2 _
                have hfar : ∀ b, b ≠ qb → (((wP.setCell ⟨qb, 0, none⟩ (.slice ba s2.n.length bac)).setCell ⟨qb, 1, none⟩ (.slice p1ba p1bn p1bc)).setCell ⟨qb, 2, none⟩ (.slice p2ba p2bn p2bc)).heap[b]? = wP.heap[b]? := fun b hb => ((Below.heap_setCell _ _ _ _ hb).trans (Below.heap_setCell _ _ _ _ hb)).trans (Below.heap_setCell _ _ _ _ hb)
                have q1 := rowp_frame (hC.r1 _ _ rfl) (fun k hk => hfar k (fun e => hC.n1q _ _ _ rfl rfl (e ▸ hk)))
                have q2 := rowp_frame (hC.r2 _ _ rfl) (fun k hk => hfar k (fun e => hC.n2q _ _ _ rfl rfl (e ▸ hk)))
                have hyq' : w9.heap.size ≤ qb := by have := HBs.out; omega
                have BQ : Below w9.heap.size w9 (((wP.setCell ⟨qb, 0, none⟩ (.slice ba s2.n.length bac)).setCell ⟨qb, 1, none⟩ (.slice p1ba p1bn p1bc)).setCell ⟨qb, 2, none⟩ (.slice p2ba p2bn p2bc)) := ((hHeld.setCell hyq' _).setCell hyq' _).setCell hyq' _
                go_simp
                refine hK.out _ _ (BQ) (fun hHeld => ?_)
                clear hK K
                refine wpAnyH_done (by kernel_rfl) ?_ _
                exact ⟨rfl, qb, _, _, ⟨rfl, rfl, rfl, rfl, rfl, rfl, rfl, rfl, rfl, rfl, rfl, trivial⟩, hHeld, GQ, q1, q2⟩
            · go_simp
              have hC2 := Cs.new2 hC
              have AL : Below (wQ).heap.size wQ (World.alloc wQ (.cells #[] 80)) := (Below.refl _ _).alloc (Nat.le_refl _) _
              obtain ⟨g2, hg2⟩ : ∃ x, x = (wQ).heap.size := ⟨_, rfl⟩
              rw [← hg2] at hC2 ⊢
              clear hg2 hC
              have hC := hC2
              clear hC2
              generalize (World.alloc wQ (.cells #[] 80)) = wQ at *
              refine hK.out _ _ (Below.then hHeld AL hHeld.size) (fun hHeld => ?_)
              clear hK K
              refine wpAnyH_ready (rs := [5]) (by kernel_rfl) (by simp) ?_
              refine AllReadyH.cons rfl (fun K hK => ?_) AllReadyH.nil
              refine wp_append_row _ _ _ 41 rfl Bs 49 jwi _ 2 16 Try.underlying41 jw0 jw1 jw2 jw3 rfl (by decide) (.slice (some ⟨g1, 0, none⟩) 0 0) ([] : List (Int × Int)).length (pcells ([] : List (Int × Int))) rfl (hC.r1 _ _ rfl) (.slice ab s1.ws.length abc) s1.ws.length (pcells s1.ws) rfl 0 (HRA.out.below hHeld).ws (pcells_one _) (by have := HLN.out; unfold maxLen; simp; omega) (by have := HLN.out; simp; omega) hC.z ?_
              intro p1a wP ownp1a growp1a atp1a
              obtain ⟨p1aa, p1an, p1ac, hp1a⟩ : ∃ a n c, p1a = .slice a n c := by obtain ⟨a', c', h'⟩ := rowg_slice ownp1a; exact ⟨_, _, _, h'⟩
              subst hp1a
              have hbp1a := hC.grow1 HBs.out hHeld growp1a
              have hC2 := hC.app1 ownp1a growp1a atp1a
              clear hC ownp1a growp1a atp1a
              have hC := hC2
              clear hC2
              refine hK.out _ _ (hbp1a) (fun hHeld => ?_)
              clear hK K
              refine wpAnyH_ready (rs := [8]) (by kernel_rfl) (by simp) ?_
              refine AllReadyH.cons rfl (fun K hK => ?_) AllReadyH.nil
              refine wp_append_row _ _ _ 41 rfl Bs 49 jwi _ 2 16 Try.underlying41 jw0 jw1 jw2 jw3 rfl (by decide) (.slice p1aa p1an p1ac) ([] ++ s1.ws : List (Int × Int)).length (pcells ([] ++ s1.ws : List (Int × Int))) rfl (hC.r1 _ _ rfl) (.slice bb s2.ws.length bbc) s2.ws.length (pcells s2.ws) rfl 0 (HRB.out.below hHeld).ws (pcells_one _) (by have := HLN.out; unfold maxLen; simp; omega) (by have := HLN.out; simp; omega) hC.z ?_
              intro p1b wP ownp1b growp1b atp1b
              obtain ⟨p1ba, p1bn, p1bc, hp1b⟩ : ∃ a n c, p1b = .slice a n c := by obtain ⟨a', c', h'⟩ := rowg_slice ownp1b; exact ⟨_, _, _, h'⟩
              subst hp1b
              have hbp1b := hC.grow1 HBs.out hHeld growp1b
              have hC2 := hC.app1 ownp1b growp1b atp1b
              clear hC ownp1b growp1b atp1b
              have hC := hC2
              clear hC2
              refine hK.out _ _ (hbp1b) (fun hHeld => ?_)
              clear hK K
              refine wpAnyH_ready (rs := [12]) (by kernel_rfl) (by simp) ?_
              refine AllReadyH.cons rfl (fun K hK => ?_) AllReadyH.nil
              refine wp_append_row _ _ _ 42 rfl Bs 80 jsi _ 2 16 Try.underlying42 js0 js1 js2 js3 rfl (by decide) (.slice (some ⟨g2, 0, none⟩) 0 0) ([] : List (Int × Int)).length (pcells ([] : List (Int × Int))) rfl (hC.r2 _ _ rfl) (.slice ac s1.ss.length acc) s1.ss.length (pcells s1.ss) rfl 0 (HRA.out.below hHeld).ss (pcells_one _) (by have := HLN.out; unfold maxLen; simp; omega) (by have := HLN.out; simp; omega) hC.z ?_
              intro p2a wP ownp2a growp2a atp2a
              obtain ⟨p2aa, p2an, p2ac, hp2a⟩ : ∃ a n c, p2a = .slice a n c := by obtain ⟨a', c', h'⟩ := rowg_slice ownp2a; exact ⟨_, _, _, h'⟩
              subst hp2a
              have hbp2a := hC.grow2 HBs.out hHeld growp2a
              have hC2 := hC.app2 ownp2a growp2a atp2a
              clear hC ownp2a growp2a atp2a
              have hC := hC2
              clear hC2
              refine hK.out _ _ (hbp2a) (fun hHeld => ?_)
              clear hK K
              refine wpAnyH_ready (rs := [15]) (by kernel_rfl) (by simp) ?_
              refine AllReadyH.cons rfl (fun K hK => ?_) AllReadyH.nil
              refine wp_append_row _ _ _ 42 rfl Bs 80 jsi _ 2 16 Try.underlying42 js0 js1 js2 js3 rfl (by decide) (.slice p2aa p2an p2ac) ([] ++ s1.ss : List (Int × Int)).length (pcells ([] ++ s1.ss : List (Int × Int))) rfl (hC.r2 _ _ rfl) (.slice bc s2.ss.length bcc) s2.ss.length (pcells s2.ss) rfl 0 (HRB.out.below hHeld).ss (pcells_one _) (by have := HLN.out; unfold maxLen; simp; omega) (by have := HLN.out; simp; omega) hC.z ?_
              intro p2b wP ownp2b growp2b atp2b
              obtain ⟨p2ba, p2bn, p2bc, hp2b⟩ : ∃ a n c, p2b = .slice a n c := by obtain ⟨a', c', h'⟩ := rowg_slice ownp2b; exact ⟨_, _, _, h'⟩
              subst hp2b
              have hbp2b := hC.grow2 HBs.out hHeld growp2b
              have hC2 := hC.app2 ownp2b growp2b atp2b
              clear hC ownp2b growp2b atp2b
              have hC := hC2
              clear hC2
              refine hK.out _ _ (hbp2b) (fun hHeld => ?_)
              clear hK K
              refine' wpAnyH_take (i := 16) (v := _) rfl (by kernel_rfl) (by kernel_rfl) (by kernel_rfl) (fun _ _ _ h => by cases h.1) (Or.inl ⟨by rfl, ?hy961⟩) hHeld ?hn961
              case hy961 => (intro wz hSw; go_simp; first | done | with_reducible rfl)
              try simp only [List.getElem_toArray, List.getElem_cons_zero, List.getElem_cons_succ, Act.put, List.setIfInBounds_toArray, List.set_cons_zero, List.set_cons_succ]
              refine wpAnyH_ready (rs := [18]) (by kernel_rfl) (by simp) ?_
              refine AllReadyH.cons rfl (fun K hK => ?_) AllReadyH.nil
              obtain ⟨CY, hyq⟩ := hC.bq _ rfl
              obtain ⟨⟨c0, c1, c2⟩, f0, f1, f2⟩ := id CY
              have GQ : C3 (((wP.setCell ⟨qb, 0, none⟩ (.slice ba s2.n.length bac)).setCell ⟨qb, 1, none⟩ (.slice p1ba p1bn p1bc)).setCell ⟨qb, 2, none⟩ (.slice p2ba p2bn p2bc)) qb (.slice ba s2.n.length bac) (.slice p1ba p1bn p1bc) (.slice p2ba p2bn p2bc) := ((CY.set0 _).set1 _).set2 _
              have hfar : ∀ b, b ≠ qb → (((wP.setCell ⟨qb, 0, none⟩ (.slice ba s2.n.length bac)).setCell ⟨qb, 1, none⟩ (.slice p1ba p1bn p1bc)).setCell ⟨qb, 2, none⟩ (.slice p2ba p2bn p2bc)).heap[b]? = wP.heap[b]? := fun b hb => ((Below.heap_setCell _ _ _ _ hb).trans (Below.heap_setCell _ _ _ _ hb)).trans (Below.heap_setCell _ _ _ _ hb)
              have q1 := rowp_frame (hC.r1 _ _ rfl) (fun k hk => hfar k (fun e => hC.n1q _ _ _ rfl rfl (e ▸ hk)))
              have q2 := rowp_frame (hC.r2 _ _ rfl) (fun k hk => hfar k (fun e => hC.n2q _ _ _ rfl rfl (e ▸ hk)))
              have hyq' : w9.heap.size ≤ qb := by have := HBs.out; omega
              have BQ : Below w9.heap.size w9 (((wP.setCell ⟨qb, 0, none⟩ (.slice ba s2.n.length bac)).setCell ⟨qb, 1, none⟩ (.slice p1ba p1bn p1bc)).setCell ⟨qb, 2, none⟩ (.slice p2ba p2bn p2bc)) := ((hHeld.setCell hyq' _).setCell hyq' _).setCell hyq' _
              go_simp
              refine hK.out _ _ (BQ) (fun hHeld => ?_)
              clear hK K
              refine wpAnyH_done (by kernel_rfl) ?_ _
              exact ⟨rfl, qb, _, _, ⟨rfl, rfl, rfl, rfl, rfl, rfl, rfl, rfl, rfl, rfl, rfl, trivial⟩, hHeld, GQ, q1, q2⟩
        · go_simp
          have hC2 := Cs.new2 hC
          replace hC2 := hC2.below (Below.drew (Below.refl _ _))
          have AL : Below w9.heap.size w9 (World.drew (World.alloc w9 (.cells #[] 80))) := ((Below.refl _ _).alloc (Nat.le_refl _) _).drew
          obtain ⟨g2, hg2⟩ : ∃ x, x = (w9).heap.size := ⟨_, rfl⟩
          rw [← hg2] at hC2 ⊢
          clear hg2 hC
          have hC := hC2
          clear hC2
          generalize (World.drew (World.alloc w9 (.cells #[] 80))) = wQ at *
          refine hK.out _ _ (AL) (fun hHeld => ?_)
          clear hK K
          refine wpAnyH_ready (rs := [2, 17]) (by kernel_rfl) (by simp) ?_
          refine AllReadyH.cons rfl (fun K hK => ?_) (AllReadyH.cons rfl (fun K hK => ?_) AllReadyH.nil)
          · go_simp
            have hC2 := Cs.new1 hC
            have AL : Below (wQ).heap.size wQ (World.alloc wQ (.cells #[] 49)) := (Below.refl _ _).alloc (Nat.le_refl _) _
            obtain ⟨g1, hg1⟩ : ∃ x, x = (wQ).heap.size := ⟨_, rfl⟩
            rw [← hg1] at hC2 ⊢
            clear hg1 hC
            have hC := hC2
            clear hC2
            generalize (World.alloc wQ (.cells #[] 49)) = wQ at *
            refine hK.out _ _ (Below.then hHeld AL hHeld.size) (fun hHeld => ?_)
            clear hK K
            refine wpAnyH_ready (rs := [5, 17]) (by kernel_rfl) (by simp) ?_
            refine AllReadyH.cons rfl (fun K hK => ?_) (AllReadyH.cons rfl (fun K hK => ?_) AllReadyH.nil)
            · refine wp_append_row _ _ _ 41 rfl Bs 49 jwi _ 2 16 Try.underlying41 jw0 jw1 jw2 jw3 rfl (by decide) (.slice (some ⟨g1, 0, none⟩) 0 0) ([] : List (Int × Int)).length (pcells ([] : List (Int × Int))) rfl (hC.r1 _ _ rfl) (.slice ab s1.ws.length abc) s1.ws.length (pcells s1.ws) rfl 0 (HRA.out.below hHeld).ws (pcells_one _) (by have := HLN.out; unfold maxLen; simp; omega) (by have := HLN.out; simp; omega) hC.z ?_
              intro p1a wP ownp1a growp1a atp1a
              obtain ⟨p1aa, p1an, p1ac, hp1a⟩ : ∃ a n c, p1a = .slice a n c := by obtain ⟨a', c', h'⟩ := rowg_slice ownp1a; exact ⟨_, _, _, h'⟩
              subst hp1a
              have hbp1a := hC.grow1 HBs.out hHeld growp1a
              have hC2 := hC.app1 ownp1a growp1a atp1a
              clear hC ownp1a growp1a atp1a
              have hC := hC2
              clear hC2
              refine hK.out _ _ (hbp1a) (fun hHeld => ?_)
              clear hK K
              refine wpAnyH_ready (rs := [8, 17]) (by kernel_rfl) (by simp) ?_
              refine AllReadyH.cons rfl (fun K hK => ?_) (AllReadyH.cons rfl (fun K hK => ?_) AllReadyH.nil)
              · refine wp_append_row _ _ _ 41 rfl Bs 49 jwi _ 2 16 Try.underlying41 jw0 jw1 jw2 jw3 rfl (by decide) (.slice p1aa p1an p1ac) ([] ++ s1.ws : List (Int × Int)).length (pcells ([] ++ s1.ws : List (Int × Int))) rfl (hC.r1 _ _ rfl) (.slice bb s2.ws.length bbc) s2.ws.length (pcells s2.ws) rfl 0 (HRB.out.below hHeld).ws (pcells_one _) (by have := HLN.out; unfold maxLen; simp; omega) (by have := HLN.out; simp; omega) hC.z ?_
                intro p1b wP ownp1b growp1b atp1b
                obtain ⟨p1ba, p1bn, p1bc, hp1b⟩ : ∃ a n c, p1b = .slice a n c := by obtain ⟨a', c', h'⟩ := rowg_slice ownp1b; exact ⟨_, _, _, h'⟩
                subst hp1b
                have hbp1b := hC.grow1 HBs.out hHeld growp1b
                have hC2 := hC.app1 ownp1b growp1b atp1b
                clear hC ownp1b growp1b atp1b
                have hC := hC2
                clear hC2
                refine hK.out _ _ (hbp1b) (fun hHeld => ?_)
                clear hK K
                refine wpAnyH_ready (rs := [12, 17]) (by kernel_rfl) (by simp) ?_
                refine AllReadyH.cons rfl (fun K hK => ?_) (AllReadyH.cons rfl (fun K hK => ?_) AllReadyH.nil)
                · refine wp_append_row _ _ _ 42 rfl Bs 80 jsi _ 2 16 Try.underlying42 js0 js1 js2 js3 rfl (by decide) (.slice (some ⟨g2, 0, none⟩) 0 0) ([] : List (Int × Int)).length (pcells ([] : List (Int × Int))) rfl (hC.r2 _ _ rfl) (.slice ac s1.ss.length acc) s1.ss.length (pcells s1.ss) rfl 0 (HRA.out.below hHeld).ss (pcells_one _) (by have := HLN.out; unfold maxLen; simp; omega) (by have := HLN.out; simp; omega) hC.z ?_
                  intro p2a wP ownp2a growp2a atp2a
                  obtain ⟨p2aa, p2an, p2ac, hp2a⟩ : ∃ a n c, p2a = .slice a n c := by obtain ⟨a', c', h'⟩ := rowg_slice ownp2a; exact ⟨_, _, _, h'⟩
                  subst hp2a
                  have hbp2a := hC.grow2 HBs.out hHeld growp2a
                  have hC2 := hC.app2 ownp2a growp2a atp2a
                  clear hC ownp2a growp2a atp2a
                  have hC := hC2
                  clear hC2
                  refine hK.out _ _ (hbp2a) (fun hHeld => ?_)
                  clear hK K
                  refine wpAnyH_ready (rs := [15, 17]) (by kernel_rfl) (by simp) ?_
                  refine AllReadyH.cons rfl (fun K hK => ?_) (AllReadyH.cons rfl (fun K hK => ?_) AllReadyH.nil)
                  · refine wp_append_row _ _ _ 42 rfl Bs 80 jsi _ 2 16 Try.underlying42 js0 js1 js2 js3 rfl (by decide) (.slice p2aa p2an p2ac) ([] ++ s1.ss : List (Int × Int)).length (pcells ([] ++ s1.ss : List (Int × Int))) rfl (hC.r2 _ _ rfl) (.slice bc s2.ss.length bcc) s2.ss.length (pcells s2.ss) rfl 0 (HRB.out.below hHeld).ss (pcells_one _) (by have := HLN.out; unfold maxLen; simp; omega) (by have := HLN.out; simp; omega) hC.z ?_
                    intro p2b wP ownp2b growp2b atp2b
                    obtain ⟨p2ba, p2bn, p2bc, hp2b⟩ : ∃ a n c, p2b = .slice a n c := by obtain ⟨a', c', h'⟩ := rowg_slice ownp2b; exact ⟨_, _, _, h'⟩
                    subst hp2b
                    have hbp2b := hC.grow2 HBs.out hHeld growp2b
                    have hC2 := hC.app2 ownp2b growp2b atp2b
                    clear hC ownp2b growp2b atp2b
                    have hC := hC2
                    clear hC2
                    refine hK.out _ _ (hbp2b) (fun hHeld => ?_)
                    clear hK K
                    refine' wpAnyH_take (i := 16) (v := _) rfl (by kernel_rfl) (by kernel_rfl) (by kernel_rfl) (fun _ _ _ h => by cases h.1) (Or.inl ⟨by rfl, ?hy962⟩) hHeld ?hn962
                    case hy962 => (intro wz hSw; go_simp; first | done | with_reducible rfl)
                    try simp only [List.getElem_toArray, List.getElem_cons_zero, List.getElem_cons_succ, Act.put, List.setIfInBounds_toArray, List.set_cons_zero, List.set_cons_succ]
                    refine wpAnyH_ready (rs := [17]) (by kernel_rfl) (by simp) ?_
                    refine AllReadyH.cons rfl (fun K hK => ?_) AllReadyH.nil
                    go_simp
                    have hC2 := Cs.newq hC 44
                    have AL : Below (wP).heap.size wP (World.alloc wP (.cells #[.slice none 0 0, .slice none 0 0, .slice none 0 0] 44)) := (Below.refl _ _).alloc (Nat.le_refl _) _
                    obtain ⟨qb, hqb⟩ : ∃ x, x = (wP).heap.size := ⟨_, rfl⟩
                    rw [← hqb] at hC2 ⊢
                    clear hqb hC
                    have hC := hC2
                    clear hC2
                    generalize (World.alloc wP (.cells #[.slice none 0 0, .slice none 0 0, .slice none 0 0] 44)) = wQ at *
                    refine hK.out _ _ (Below.then hHeld AL hHeld.size) (fun hHeld => ?_)
                    clear hK K
                    refine wpAnyH_ready (rs := [18]) (by kernel_rfl) (by simp) ?_
                    refine AllReadyH.cons rfl (fun K hK => ?_) AllReadyH.nil
                    obtain ⟨CY, hyq⟩ := hC.bq _ rfl
                    obtain ⟨⟨c0, c1, c2⟩, f0, f1, f2⟩ := id CY
                    have GQ : C3 (((wQ.setCell ⟨qb, 0, none⟩ (.slice ba s2.n.length bac)).setCell ⟨qb, 1, none⟩ (.slice p1ba p1bn p1bc)).setCell ⟨qb, 2, none⟩ (.slice p2ba p2bn p2bc)) qb (.slice ba s2.n.length bac) (.slice p1ba p1bn p1bc) (.slice p2ba p2bn p2bc) := ((CY.set0 _).set1 _).set2 _
                    have hfar : ∀ b, b ≠ qb → (((wQ.setCell ⟨qb, 0, none⟩ (.slice ba s2.n.length bac)).setCell ⟨qb, 1, none⟩ (.slice p1ba p1bn p1bc)).setCell ⟨qb, 2, none⟩ (.slice p2ba p2bn p2bc)).heap[b]? = wQ.heap[b]? := fun b hb => ((Below.heap_setCell _ _ _ _ hb).trans (Below.heap_setCell _ _ _ _ hb)).trans (Below.heap_setCell _ _ _ _ hb)
                    have q1 := rowp_frame (hC.r1 _ _ rfl) (fun k hk => hfar k (fun e => hC.n1q _ _ _ rfl rfl (e ▸ hk)))
                    have q2 := rowp_frame (hC.r2 _ _ rfl) (fun k hk => hfar k (fun e => hC.n2q _ _ _ rfl rfl (e ▸ hk)))
                    have hyq' : w9.heap.size ≤ qb := by have := HBs.out; omega
                    have BQ : Below w9.heap.size w9 (((wQ.setCell ⟨qb, 0, none⟩ (.slice ba s2.n.length bac)).setCell ⟨qb, 1, none⟩ (.slice p1ba p1bn p1bc)).setCell ⟨qb, 2, none⟩ (.slice p2ba p2bn p2bc)) := ((hHeld.setCell hyq' _).setCell hyq' _).setCell hyq' _
                    go_simp
                    refine hK.out _ _ (BQ) (fun hHeld => ?_)
                    clear hK K
                    refine wpAnyH_done (by kernel_rfl) ?_ _
                    exact ⟨rfl, qb, _, _, ⟨rfl, rfl, rfl, rfl, rfl, rfl, rfl, rfl, rfl, rfl, rfl, trivial⟩, hHeld, GQ, q1, q2⟩
                  · go_simp
                    have hC2 := Cs.newq hC 44
                    have AL : Below (wP).heap.size wP (World.alloc wP (.cells #[.slice none 0 0, .slice none 0 0, .slice none 0 0] 44)) := (Below.refl _ _).alloc (Nat.le_refl _) _
                    obtain ⟨qb, hqb⟩ : ∃ x, x = (wP).heap.size := ⟨_, rfl⟩
                    rw [← hqb] at hC2 ⊢
                    clear hqb hC
                    have hC := hC2
                    clear hC2
                    generalize (World.alloc wP (.cells #[.slice none 0 0, .slice none 0 0, .slice none 0 0] 44)) = wQ at *
                    refine hK.out _ _ (Below.then hHeld AL hHeld.size) (fun hHeld => ?_)
                    clear hK K
                    refine wpAnyH_ready (rs := [15]) (by kernel_rfl) (by simp) ?_
                    refine AllReadyH.cons rfl (fun K hK => ?_) AllReadyH.nil
                    refine wp_append_row _ _ _ 42 rfl Bs 80 jsi _ 2 16 Try.underlying42 js0 js1 js2 js3 rfl (by decide) (.slice p2aa p2an p2ac) ([] ++ s1.ss : List (Int × Int)).length (pcells ([] ++ s1.ss : List (Int × Int))) rfl (hC.r2 _ _ rfl) (.slice bc s2.ss.length bcc) s2.ss.length (pcells s2.ss) rfl 0 (HRB.out.below hHeld).ss (pcells_one _) (by have := HLN.out; unfold maxLen; simp; omega) (by have := HLN.out; simp; omega) hC.z ?_
                    intro p2b wP ownp2b growp2b atp2b
                    obtain ⟨p2ba, p2bn, p2bc, hp2b⟩ : ∃ a n c, p2b = .slice a n c := by obtain ⟨a', c', h'⟩ := rowg_slice ownp2b; exact ⟨_, _, _, h'⟩
                    subst hp2b
                    have hbp2b := hC.grow2 HBs.out hHeld growp2b
                    have hC2 := hC.app2 ownp2b growp2b atp2b
                    clear hC ownp2b growp2b atp2b
                    have hC := hC2
                    clear hC2
                    refine hK.out _ _ (hbp2b) (fun hHeld => ?_)
                    clear hK K
                    refine' wpAnyH_take (i := 16) (v := _) rfl (by kernel_rfl) (by kernel_rfl) (by kernel_rfl) (fun _ _ _ h => by cases h.1) (Or.inl ⟨by rfl, ?hy963⟩) hHeld ?hn963
                    case hy963 => (intro wz hSw; go_simp; first | done | with_reducible rfl)
                    try simp only [List.getElem_toArray, List.getElem_cons_zero, List.getElem_cons_succ, Act.put, List.setIfInBounds_toArray, List.set_cons_zero, List.set_cons_succ]
                    refine wpAnyH_ready (rs := [18]) (by kernel_rfl) (by simp) ?_
                    refine AllReadyH.cons rfl (fun K hK => ?_) AllReadyH.nil
                    obtain ⟨CY, hyq⟩ := hC.bq _ rfl
                    obtain ⟨⟨c0, c1, c2⟩, f0, f1, f2⟩ := id CY
                    have GQ : C3 (((wP.setCell ⟨qb, 0, none⟩ (.slice ba s2.n.length bac)).setCell ⟨qb, 1, none⟩ (.slice p1ba p1bn p1bc)).setCell ⟨qb, 2, none⟩ (.slice p2ba p2bn p2bc)) qb (.slice ba s2.n.length bac) (.slice p1ba p1bn p1bc) (.slice p2ba p2bn p2bc) := ((CY.set0 _).set1 _).set2 _
                    have hfar : ∀ b, b ≠ qb → (((wP.setCell ⟨qb, 0, none⟩ (.slice ba s2.n.length bac)).setCell ⟨qb, 1, none⟩ (.slice p1ba p1bn p1bc)).setCell ⟨qb, 2, none⟩ (.slice p2ba p2bn p2bc)).heap[b]? = wP.heap[b]? := fun b hb => ((Below.heap_setCell _ _ _ _ hb).trans (Below.heap_setCell _ _ _ _ hb)).trans (Below.heap_setCell _ _ _ _ hb)
                    have q1 := rowp_frame (hC.r1 _ _ rfl) (fun k hk => hfar k (fun e => hC.n1q _ _ _ rfl rfl (e ▸ hk)))
                    have q2 := rowp_frame (hC.r2 _ _ rfl) (fun k hk => hfar k (fun e => hC.n2q _ _ _ rfl rfl (e ▸ hk)))
                    have hyq' : w9.heap.size ≤ qb := by have := HBs.out; omega
                    have BQ : Below w9.heap.size w9 (((wP.setCell ⟨qb, 0, none⟩ (.slice ba s2.n.length bac)).setCell ⟨qb, 1, none⟩ (.slice p1ba p1bn p1bc)).setCell ⟨qb, 2, none⟩ (.slice p2ba p2bn p2bc)) := ((hHeld.setCell hyq' _).setCell hyq' _).setCell hyq' _
                    go_simp
                    refine hK.out _ _ (BQ) (fun hHeld => ?_)
                    clear hK K
                    refine wpAnyH_done (by kernel_rfl) ?_ _
                    exact ⟨rfl, qb, _, _, ⟨rfl, rfl, rfl, rfl, rfl, rfl, rfl, rfl, rfl, rfl, rfl, trivial⟩, hHeld, GQ, q1, q2⟩
                · go_simp
                  have hC2 := Cs.newq hC 44
                  have AL : Below (wP).heap.size wP (World.alloc wP (.cells #[.slice none 0 0, .slice none 0 0, .slice none 0 0] 44)) := (Below.refl _ _).alloc (Nat.le_refl _) _
                  obtain ⟨qb, hqb⟩ : ∃ x, x = (wP).heap.size := ⟨_, rfl⟩
                  rw [← hqb] at hC2 ⊢
                  clear hqb hC
                  have hC := hC2
                  clear hC2
                  generalize (World.alloc wP (.cells #[.slice none 0 0, .slice none 0 0, .slice none 0 0] 44)) = wQ at *
                  refine hK.out _ _ (Below.then hHeld AL hHeld.size) (fun hHeld => ?_)
                  clear hK K
                  refine wpAnyH_ready (rs := [12]) (by kernel_rfl) (by simp) ?_
                  refine AllReadyH.cons rfl (fun K hK => ?_) AllReadyH.nil
                  refine wp_append_row _ _ _ 42 rfl Bs 80 jsi _ 2 16 Try.underlying42 js0 js1 js2 js3 rfl (by decide) (.slice (some ⟨g2, 0, none⟩) 0 0) ([] : List (Int × Int)).length (pcells ([] : List (Int × Int))) rfl (hC.r2 _ _ rfl) (.slice ac s1.ss.length acc) s1.ss.length (pcells s1.ss) rfl 0 (HRA.out.below hHeld).ss (pcells_one _) (by have := HLN.out; unfold maxLen; simp; omega) (by have := HLN.out; simp; omega) hC.z ?_
                  intro p2a wP ownp2a growp2a atp2a
                  obtain ⟨p2aa, p2an, p2ac, hp2a⟩ : ∃ a n c, p2a = .slice a n c := by obtain ⟨a', c', h'⟩ := rowg_slice ownp2a; exact ⟨_, _, _, h'⟩
                  subst hp2a
                  have hbp2a := hC.grow2 HBs.out hHeld growp2a
                  have hC2 := hC.app2 ownp2a growp2a atp2a
                  clear hC ownp2a growp2a atp2a
                  have hC := hC2
                  clear hC2
                  refine hK.out _ _ (hbp2a) (fun hHeld => ?_)
                  clear hK K
                  refine wpAnyH_ready (rs := [15]) (by kernel_rfl) (by simp) ?_
                  refine AllReadyH.cons rfl (fun K hK => ?_) AllReadyH.nil
                  refine wp_append_row _ _ _ 42 rfl Bs 80 jsi _ 2 16 Try.underlying42 js0 js1 js2 js3 rfl (by decide) (.slice p2aa p2an p2ac) ([] ++ s1.ss : List (Int × Int)).length (pcells ([] ++ s1.ss : List (Int × Int))) rfl (hC.r2 _ _ rfl) (.slice bc s2.ss.length bcc) s2.ss.length (pcells s2.ss) rfl 0 (HRB.out.below hHeld).ss (pcells_one _) (by have := HLN.out; unfold maxLen; simp; omega) (by have := HLN.out; simp; omega) hC.z ?_
                  intro p2b wP ownp2b growp2b atp2b
                  obtain ⟨p2ba, p2bn, p2bc, hp2b⟩ : ∃ a n c, p2b = .slice a n c := by obtain ⟨a', c', h'⟩ := rowg_slice ownp2b; exact ⟨_, _, _, h'⟩
                  subst hp2b
                  have hbp2b := hC.grow2 HBs.out hHeld growp2b
                  have hC2 := hC.app2 ownp2b growp2b atp2b
                  clear hC ownp2b growp2b atp2b
                  have hC := hC2
                  clear hC2
                  refine hK.out _ _ (hbp2b) (fun hHeld => ?_)
                  clear hK K
                  refine' wpAnyH_take (i := 16) (v := _) rfl (by kernel_rfl) (by kernel_rfl) (by kernel_rfl) (fun _ _ _ h => by cases h.1) (Or.inl ⟨by rfl, ?hy964⟩) hHeld ?hn964
                  case hy964 => (intro wz hSw; go_simp; first | done | with_reducible rfl)
                  try simp only [List.getElem_toArray, List.getElem_cons_zero, List.getElem_cons_succ, Act.put, List.setIfInBounds_toArray, List.set_cons_zero, List.set_cons_succ]
                  refine wpAnyH_ready (rs := [18]) (by kernel_rfl) (by simp) ?_
                  refine AllReadyH.cons rfl (fun K hK => ?_) AllReadyH.nil
                  obtain ⟨CY, hyq⟩ := hC.bq _ rfl
                  obtain ⟨⟨c0, c1, c2⟩, f0, f1, f2⟩ := id CY
                  have GQ : C3 (((wP.setCell ⟨qb, 0, none⟩ (.slice ba s2.n.length bac)).setCell ⟨qb, 1, none⟩ (.slice p1ba p1bn p1bc)).setCell ⟨qb, 2, none⟩ (.slice p2ba p2bn p2bc)) qb (.slice ba s2.n.length bac) (.slice p1ba p1bn p1bc) (.slice p2ba p2bn p2bc) := ((CY.set0 _).set1 _).set2 _
                  have hfar : ∀ b, b ≠ qb → (((wP.setCell ⟨qb, 0, none⟩ (.slice ba s2.n.length bac)).setCell ⟨qb, 1, none⟩ (.slice p1ba p1bn p1bc)).setCell ⟨qb, 2, none⟩ (.slice p2ba p2bn p2bc)).heap[b]? = wP.heap[b]? := fun b hb => ((Below.heap_setCell _ _ _ _ hb).trans (Below.heap_setCell _ _ _ _ hb)).trans (Below.heap_setCell _ _ _ _ hb)
                  have q1 := rowp_frame (hC.r1 _ _ rfl) (fun k hk => hfar k (fun e => hC.n1q _ _ _ rfl rfl (e ▸ hk)))
                  have q2 := rowp_frame (hC.r2 _ _ rfl) (fun k hk => hfar k (fun e => hC.n2q _ _ _ rfl rfl (e ▸ hk)))
                  have hyq' : w9.heap.size ≤ qb := by have := HBs.out; omega
                  have BQ : Below w9.heap.size w9 (((wP.setCell ⟨qb, 0, none⟩ (.slice ba s2.n.length bac)).setCell ⟨qb, 1, none⟩ (.slice p1ba p1bn p1bc)).setCell ⟨qb, 2, none⟩ (.slice p2ba p2bn p2bc)) := ((hHeld.setCell hyq' _).setCell hyq' _).setCell hyq' _
                  go_simp
                  refine hK.out _ _ (BQ) (fun hHeld => ?_)
                  clear hK K
                  refine wpAnyH_done (by kernel_rfl) ?_ _
                  exact ⟨rfl, qb, _, _, ⟨rfl, rfl, rfl, rfl, rfl, rfl, rfl, rfl, rfl, rfl, rfl, trivial⟩, hHeld, GQ, q1, q2⟩
              · go_simp
                have hC2 := Cs.newq hC 44
                have AL : Below (wP).heap.size wP (World.alloc wP (.cells #[.slice none 0 0, .slice none 0 0, .slice none 0 0] 44)) := (Below.refl _ _).alloc (Nat.le_refl _) _
                obtain ⟨qb, hqb⟩ : ∃ x, x = (wP).heap.size := ⟨_, rfl⟩
                rw [← hqb] at hC2 ⊢
                clear hqb hC
                have hC := hC2
                clear hC2
                generalize (World.alloc wP (.cells #[.slice none 0 0, .slice none 0 0, .slice none 0 0] 44)) = wQ at *
                refine hK.out _ _ (Below.then hHeld AL hHeld.size) (fun hHeld => ?_)
                clear hK K
                refine wpAnyH_ready (rs := [8]) (by kernel_rfl) (by simp) ?_
                refine AllReadyH.cons rfl (fun K hK => ?_) AllReadyH.nil
                refine wp_append_row _ _ _ 41 rfl Bs 49 jwi _ 2 16 Try.underlying41 jw0 jw1 jw2 jw3 rfl (by decide) (.slice p1aa p1an p1ac) ([] ++ s1.ws : List (Int × Int)).length (pcells ([] ++ s1.ws : List (Int × Int))) rfl (hC.r1 _ _ rfl) (.slice bb s2.ws.length bbc) s2.ws.length (pcells s2.ws) rfl 0 (HRB.out.below hHeld).ws (pcells_one _) (by have := HLN.out; unfold maxLen; simp; omega) (by have := HLN.out; simp; omega) hC.z ?_
                intro p1b wP ownp1b growp1b atp1b
                obtain ⟨p1ba, p1bn, p1bc, hp1b⟩ : ∃ a n c, p1b = .slice a n c := by obtain ⟨a', c', h'⟩ := rowg_slice ownp1b; exact ⟨_, _, _, h'⟩
                subst hp1b
                have hbp1b := hC.grow1 HBs.out hHeld growp1b
                have hC2 := hC.app1 ownp1b growp1b atp1b
                clear hC ownp1b growp1b atp1b
                have hC := hC2
                clear hC2
                refine hK.out _ _ (hbp1b) (fun hHeld => ?_)
                clear hK K
                refine wpAnyH_ready (rs := [12]) (by kernel_rfl) (by simp) ?_
                refine AllReadyH.cons rfl (fun K hK => ?_) AllReadyH.nil
                refine wp_append_row _ _ _ 42 rfl Bs 80 jsi _ 2 16 Try.underlying42 js0 js1 js2 js3 rfl (by decide) (.slice (some ⟨g2, 0, none⟩) 0 0) ([] : List (Int × Int)).length (pcells ([] : List (Int × Int))) rfl (hC.r2 _ _ rfl) (.slice ac s1.ss.length acc) s1.ss.length (pcells s1.ss) rfl 0 (HRA.out.below hHeld).ss (pcells_one _) (by have := HLN.out; unfold maxLen; simp; omega) (by have := HLN.out; simp; omega) hC.z ?_
                intro p2a wP ownp2a growp2a atp2a
                obtain ⟨p2aa, p2an, p2ac, hp2a⟩ : ∃ a n c, p2a = .slice a n c := by obtain ⟨a', c', h'⟩ := rowg_slice ownp2a; exact ⟨_, _, _, h'⟩
                subst hp2a
                have hbp2a := hC.grow2 HBs.out hHeld growp2a
                have hC2 := hC.app2 ownp2a growp2a atp2a
                clear hC ownp2a growp2a atp2a
                have hC := hC2
                clear hC2
                refine hK.out _ _ (hbp2a) (fun hHeld => ?_)
                clear hK K
                refine wpAnyH_ready (rs := [15]) (by kernel_rfl) (by simp) ?_
                refine AllReadyH.cons rfl (fun K hK => ?_) AllReadyH.nil
                refine wp_append_row _ _ _ 42 rfl Bs 80 jsi _ 2 16 Try.underlying42 js0 js1 js2 js3 rfl (by decide) (.slice p2aa p2an p2ac) ([] ++ s1.ss : List (Int × Int)).length (pcells ([] ++ s1.ss : List (Int × Int))) rfl (hC.r2 _ _ rfl) (.slice bc s2.ss.length bcc) s2.ss.length (pcells s2.ss) rfl 0 (HRB.out.below hHeld).ss (pcells_one _) (by have := HLN.out; unfold maxLen; simp; omega) (by have := HLN.out; simp; omega) hC.z ?_
                intro p2b wP ownp2b growp2b atp2b
                obtain ⟨p2ba, p2bn, p2bc, hp2b⟩ : ∃ a n c, p2b = .slice a n c := by obtain ⟨a', c', h'⟩ := rowg_slice ownp2b; exact ⟨_, _, _, h'⟩
                subst hp2b
                have hbp2b := hC.grow2 HBs.out hHeld growp2b
                have hC2 := hC.app2 ownp2b growp2b atp2b
                clear hC ownp2b growp2b atp2b
                have hC := hC2
                clear hC2
                refine hK.out _ _ (hbp2b) (fun hHeld => ?_)
                clear hK K
                refine' wpAnyH_take (i := 16) (v := _) rfl (by kernel_rfl) (by kernel_rfl) (by kernel_rfl) (fun _ _ _ h => by cases h.1) (Or.inl ⟨by rfl, ?hy965⟩) hHeld ?hn965
                case hy965 => (intro wz hSw; go_simp; first | done | with_reducible rfl)
                try simp only [List.getElem_toArray, List.getElem_cons_zero, List.getElem_cons_succ, Act.put, List.setIfInBounds_toArray, List.set_cons_zero, List.set_cons_succ]
                refine wpAnyH_ready (rs := [18]) (by kernel_rfl) (by simp) ?_
                refine AllReadyH.cons rfl (fun K hK => ?_) AllReadyH.nil
                obtain ⟨CY, hyq⟩ := hC.bq _ rfl
                obtain ⟨⟨c0, c1, c2⟩, f0, f1, f2⟩ := id CY
                have GQ : C3 (((wP.setCell ⟨qb, 0, none⟩ (.slice ba s2.n.length bac)).setCell ⟨qb, 1, none⟩ (.slice p1ba p1bn p1bc)).setCell ⟨qb, 2, none⟩ (.slice p2ba p2bn p2bc)) qb (.slice ba s2.n.length bac) (.slice p1ba p1bn p1bc) (.slice p2ba p2bn p2bc) := ((CY.set0 _).set1 _).set2 _
                have hfar : ∀ b, b ≠ qb → (((wP.setCell ⟨qb, 0, none⟩ (.slice ba s2.n.length bac)).setCell ⟨qb, 1, none⟩ (.slice p1ba p1bn p1bc)).setCell ⟨qb, 2, none⟩ (.slice p2ba p2bn p2bc)).heap[b]? = wP.heap[b]? := fun b hb => ((Below.heap_setCell _ _ _ _ hb).trans (Below.heap_setCell _ _ _ _ hb)).trans (Below.heap_setCell _ _ _ _ hb)
                have q1 := rowp_frame (hC.r1 _ _ rfl) (fun k hk => hfar k (fun e => hC.n1q _ _ _ rfl rfl (e ▸ hk)))
                have q2 := rowp_frame (hC.r2 _ _ rfl) (fun k hk => hfar k (fun e => hC.n2q _ _ _ rfl rfl (e ▸ hk)))
                have hyq' : w9.heap.size ≤ qb := by have := HBs.out; omega
                have BQ : Below w9.heap.size w9 (((wP.setCell ⟨qb, 0, none⟩ (.slice ba s2.n.length bac)).setCell ⟨qb, 1, none⟩ (.slice p1ba p1bn p1bc)).setCell ⟨qb, 2, none⟩ (.slice p2ba p2bn p2bc)) := ((hHeld.setCell hyq' _).setCell hyq' _).setCell hyq' _
                go_simp
                refine hK.out _ _ (BQ) (fun hHeld => ?_)
                clear hK K
                refine wpAnyH_done (by kernel_rfl) ?_ _
                exact ⟨rfl, qb, _, _, ⟨rfl, rfl, rfl, rfl, rfl, rfl, rfl, rfl, rfl, rfl, rfl, trivial⟩, hHeld, GQ, q1, q2⟩
            · go_simp
              have hC2 := Cs.newq hC 44
              have AL : Below (wQ).heap.size wQ (World.alloc wQ (.cells #[.slice none 0 0, .slice none 0 0, .slice none 0 0] 44)) := (Below.refl _ _).alloc (Nat.le_refl _) _
              obtain ⟨qb, hqb⟩ : ∃ x, x = (wQ).heap.size := ⟨_, rfl⟩
              rw [← hqb] at hC2 ⊢
              clear hqb hC
              have hC := hC2
              clear hC2
              generalize (World.alloc wQ (.cells #[.slice none 0 0, .slice none 0 0, .slice none 0 0] 44)) = wQ at *
              refine hK.out _ _ (Below.then hHeld AL hHeld.size) (fun hHeld => ?_)
              clear hK K
              refine wpAnyH_ready (rs := [5]) (by kernel_rfl) (by simp) ?_
              refine AllReadyH.cons rfl (fun K hK => ?_) AllReadyH.nil
              refine wp_append_row _ _ _ 41 rfl Bs 49 jwi _ 2 16 Try.underlying41 jw0 jw1 jw2 jw3 rfl (by decide) (.slice (some ⟨g1, 0, none⟩) 0 0) ([] : List (Int × Int)).length (pcells ([] : List (Int × Int))) rfl (hC.r1 _ _ rfl) (.slice ab s1.ws.length abc) s1.ws.length (pcells s1.ws) rfl 0 (HRA.out.below hHeld).ws (pcells_one _) (by have := HLN.out; unfold maxLen; simp; omega) (by have := HLN.out; simp; omega) hC.z ?_
              intro p1a wP ownp1a growp1a atp1a
              obtain ⟨p1aa, p1an, p1ac, hp1a⟩ : ∃ a n c, p1a = .slice a n c := by obtain ⟨a', c', h'⟩ := rowg_slice ownp1a; exact ⟨_, _, _, h'⟩
              subst hp1a
              have hbp1a := hC.grow1 HBs.out hHeld growp1a
              have hC2 := hC.app1 ownp1a growp1a atp1a
              clear hC ownp1a growp1a atp1a
              have hC := hC2
              clear hC2
              refine hK.out _ _ (hbp1a) (fun hHeld => ?_)
              clear hK K
              refine wpAnyH_ready (rs := [8]) (by kernel_rfl) (by simp) ?_
              refine AllReadyH.cons rfl (fun K hK => ?_) AllReadyH.nil
              refine wp_append_row _ _ _ 41 rfl Bs 49 jwi _ 2 16 Try.underlying41 jw0 jw1 jw2 jw3 rfl (by decide) (.slice p1aa p1an p1ac) ([] ++ s1.ws : List (Int × Int)).length (pcells ([] ++ s1.ws : List (Int × Int))) rfl (hC.r1 _ _ rfl) (.slice bb s2.ws.length bbc) s2.ws.length (pcells s2.ws) rfl 0 (HRB.out.below hHeld).ws (pcells_one _) (by have := HLN.out; unfold maxLen; simp; omega) (by have := HLN.out; simp; omega) hC.z ?_
              intro p1b wP ownp1b growp1b atp1b
              obtain ⟨p1ba, p1bn, p1bc, hp1b⟩ : ∃ a n c, p1b = .slice a n c := by obtain ⟨a', c', h'⟩ := rowg_slice ownp1b; exact ⟨_, _, _, h'⟩
              subst hp1b
              have hbp1b := hC.grow1 HBs.out hHeld growp1b
              have hC2 := hC.app1 ownp1b growp1b atp1b
              clear hC ownp1b growp1b atp1b
              have hC := hC2
              clear hC2
              refine hK.out _ _ (hbp1b) (fun hHeld => ?_)
              clear hK K
              refine wpAnyH_ready (rs := [12]) (by kernel_rfl) (by simp) ?_
              refine AllReadyH.cons rfl (fun K hK => ?_) AllReadyH.nil
              refine wp_append_row _ _ _ 42 rfl Bs 80 jsi _ 2 16 Try.underlying42 js0 js1 js2 js3 rfl (by decide) (.slice (some ⟨g2, 0, none⟩) 0 0) ([] : List (Int × Int)).length (pcells ([] : List (Int × Int))) rfl (hC.r2 _ _ rfl) (.slice ac s1.ss.length acc) s1.ss.length (pcells s1.ss) rfl 0 (HRA.out.below hHeld).ss (pcells_one _) (by have := HLN.out; unfold maxLen; simp; omega) (by have := HLN.out; simp; omega) hC.z ?_
              intro p2a wP ownp2a growp2a atp2a
              obtain ⟨p2aa, p2an, p2ac, hp2a⟩ : ∃ a n c, p2a = .slice a n c := by obtain ⟨a', c', h'⟩ := rowg_slice ownp2a; exact ⟨_, _, _, h'⟩
              subst hp2a
              have hbp2a := hC.grow2 HBs.out hHeld growp2a
              have hC2 := hC.app2 ownp2a growp2a atp2a
              clear hC ownp2a growp2a atp2a
              have hC := hC2
              clear hC2
              refine hK.out _ _ (hbp2a) (fun hHeld => ?_)
              clear hK K
              refine wpAnyH_ready (rs := [15]) (by kernel_rfl) (by simp) ?_
              refine AllReadyH.cons rfl (fun K hK => ?_) AllReadyH.nil
              refine wp_append_row _ _ _ 42 rfl Bs 80 jsi _ 2 16 Try.underlying42 js0 js1 js2 js3 rfl (by decide) (.slice p2aa p2an p2ac) ([] ++ s1.ss : List (Int × Int)).length (pcells ([] ++ s1.ss : List (Int × Int))) rfl (hC.r2 _ _ rfl) (.slice bc s2.ss.length bcc) s2.ss.length (pcells s2.ss) rfl 0 (HRB.out.below hHeld).ss (pcells_one _) (by have := HLN.out; unfold maxLen; simp; omega) (by have := HLN.out; simp; omega) hC.z ?_
              intro p2b wP ownp2b growp2b atp2b
              obtain ⟨p2ba, p2bn, p2bc, hp2b⟩ : ∃ a n c, p2b = .slice a n c := by obtain ⟨a', c', h'⟩ := rowg_slice ownp2b; exact ⟨_, _, _, h'⟩
              subst hp2b
              have hbp2b := hC.grow2 HBs.out hHeld growp2b
              have hC2 := hC.app2 ownp2b growp2b atp2b
              clear hC ownp2b growp2b atp2b
              have hC := hC2
              clear hC2
              refine hK.out _ _ (hbp2b) (fun hHeld => ?_)
              clear hK K
              refine' wpAnyH_take (i := 16) (v := _) rfl (by kernel_rfl) (by kernel_rfl) (by kernel_rfl) (fun _ _ _ h => by cases h.1) (Or.inl ⟨by rfl, ?hy966⟩) hHeld ?hn966
              case hy966 => (intro wz hSw; go_simp; first | done | with_reducible rfl)
              try simp only [List.getElem_toArray, List.getElem_cons_zero, List.getElem_cons_succ, Act.put, List.setIfInBounds_toArray, List.set_cons_zero, List.set_cons_succ]
              refine wpAnyH_ready (rs := [18]) (by kernel_rfl) (by simp) ?_
              refine AllReadyH.cons rfl (fun K hK => ?_) AllReadyH.nil
              obtain ⟨CY, hyq⟩ := hC.bq _ rfl
              obtain ⟨⟨c0, c1, c2⟩, f0, f1, f2⟩ := id CY
              have GQ : C3 (((wP.setCell ⟨qb, 0, none⟩ (.slice ba s2.n.length bac)).setCell ⟨qb, 1, none⟩ (.slice p1ba p1bn p1bc)).setCell ⟨qb, 2, none⟩ (.slice p2ba p2bn p2bc)) qb (.slice ba s2.n.length bac) (.slice p1ba p1bn p1bc) (.slice p2ba p2bn p2bc) := ((CY.set0 _).set1 _).set2 _
              have hfar : ∀ b, b ≠ qb → (((wP.setCell ⟨qb, 0, none⟩ (.slice ba s2.n.length bac)).setCell ⟨qb, 1, none⟩ (.slice p1ba p1bn p1bc)).setCell ⟨qb, 2, none⟩ (.slice p2ba p2bn p2bc)).heap[b]? = wP.heap[b]? := fun b hb => ((Below.heap_setCell _ _ _ _ hb).trans (Below.heap_setCell _ _ _ _ hb)).trans (Below.heap_setCell _ _ _ _ hb)
              have q1 := rowp_frame (hC.r1 _ _ rfl) (fun k hk => hfar k (fun e => hC.n1q _ _ _ rfl rfl (e ▸ hk)))
              have q2 := rowp_frame (hC.r2 _ _ rfl) (fun k hk => hfar k (fun e => hC.n2q _ _ _ rfl rfl (e ▸ hk)))
              have hyq' : w9.heap.size ≤ qb := by have := HBs.out; omega
              have BQ : Below w9.heap.size w9 (((wP.setCell ⟨qb, 0, none⟩ (.slice ba s2.n.length bac)).setCell ⟨qb, 1, none⟩ (.slice p1ba p1bn p1bc)).setCell ⟨qb, 2, none⟩ (.slice p2ba p2bn p2bc)) := ((hHeld.setCell hyq' _).setCell hyq' _).setCell hyq' _
              go_simp
              refine hK.out _ _ (BQ) (fun hHeld => ?_)
              clear hK K
              refine wpAnyH_done (by kernel_rfl) ?_ _
              exact ⟨rfl, qb, _, _, ⟨rfl, rfl, rfl, rfl, rfl, rfl, rfl, rfl, rfl, rfl, rfl, trivial⟩, hHeld, GQ, q1, q2⟩
          · go_simp
            have hC2 := Cs.newq hC 44
            have AL : Below (wQ).heap.size wQ (World.alloc wQ (.cells #[.slice none 0 0, .slice none 0 0, .slice none 0 0] 44)) := (Below.refl _ _).alloc (Nat.le_refl _) _
            obtain ⟨qb, hqb⟩ : ∃ x, x = (wQ).heap.size := ⟨_, rfl⟩
            rw [← hqb] at hC2 ⊢
            clear hqb hC
            have hC := hC2
            clear hC2
            generalize (World.alloc wQ (.cells #[.slice none 0 0, .slice none 0 0, .slice none 0 0] 44)) = wQ at *
            refine hK.out _ _ (Below.then hHeld AL hHeld.size) (fun hHeld => ?_)
            clear hK K
            refine wpAnyH_ready (rs := [2]) (by kernel_rfl) (by simp) ?_
            refine AllReadyH.cons rfl (fun K hK => ?_) AllReadyH.nil
            go_simp
            have hC2 := Cs.new1 hC
            have AL : Below (wQ).heap.size wQ (World.alloc wQ (.cells #[] 49)) := (Below.refl _ _).alloc (Nat.le_refl _) _
            obtain ⟨g1, hg1⟩ : ∃ x, x = (wQ).heap.size := ⟨_, rfl⟩
            rw [← hg1] at hC2 ⊢
            clear hg1 hC
            have hC := hC2
            clear hC2
            generalize (World.alloc wQ (.cells #[] 49)) = wQ at *
            refine hK.out _ _ (Below.then hHeld AL hHeld.size) (fun hHeld => ?_)
            clear hK K
            refine wpAnyH_ready (rs := [5]) (by kernel_rfl) (by simp) ?_
            refine AllReadyH.cons rfl (fun K hK => ?_) AllReadyH.nil
            refine wp_append_row _ _ _ 41 rfl Bs 49 jwi _ 2 16 Try.underlying41 jw0 jw1 jw2 jw3 rfl (by decide) (.slice (some ⟨g1, 0, none⟩) 0 0) ([] : List (Int × Int)).length (pcells ([] : List (Int × Int))) rfl (hC.r1 _ _ rfl) (.slice ab s1.ws.length abc) s1.ws.length (pcells s1.ws) rfl 0 (HRA.out.below hHeld).ws (pcells_one _) (by have := HLN.out; unfold maxLen; simp; omega) (by have := HLN.out; simp; omega) hC.z ?_
            intro p1a wP ownp1a growp1a atp1a
            obtain ⟨p1aa, p1an, p1ac, hp1a⟩ : ∃ a n c, p1a = .slice a n c := by obtain ⟨a', c', h'⟩ := rowg_slice ownp1a; exact ⟨_, _, _, h'⟩
            subst hp1a
            have hbp1a := hC.grow1 HBs.out hHeld growp1a
            have hC2 := hC.app1 ownp1a growp1a atp1a
            clear hC ownp1a growp1a atp1a
            have hC := hC2
            clear hC2
            refine hK.out _ _ (hbp1a) (fun hHeld => ?_)
            clear hK K
            refine wpAnyH_ready (rs := [8]) (by kernel_rfl) (by simp) ?_
            refine AllReadyH.cons rfl (fun K hK => ?_) AllReadyH.nil
            refine wp_append_row _ _ _ 41 rfl Bs 49 jwi _ 2 16 Try.underlying41 jw0 jw1 jw2 jw3 rfl (by decide) (.slice p1aa p1an p1ac) ([] ++ s1.ws : List (Int × Int)).length (pcells ([] ++ s1.ws : List (Int × Int))) rfl (hC.r1 _ _ rfl) (.slice bb s2.ws.length bbc) s2.ws.length (pcells s2.ws) rfl 0 (HRB.out.below hHeld).ws (pcells_one _) (by have := HLN.out; unfold maxLen; simp; omega) (by have := HLN.out; simp; omega) hC.z ?_
            intro p1b wP ownp1b growp1b atp1b
            obtain ⟨p1ba, p1bn, p1bc, hp1b⟩ : ∃ a n c, p1b = .slice a n c := by obtain ⟨a', c', h'⟩ := rowg_slice ownp1b; exact ⟨_, _, _, h'⟩
            subst hp1b
            have hbp1b := hC.grow1 HBs.out hHeld growp1b
            have hC2 := hC.app1 ownp1b growp1b atp1b
            clear hC ownp1b growp1b atp1b
            have hC := hC2
            clear hC2
            refine hK.out _ _ (hbp1b) (fun hHeld => ?_)
            clear hK K
            refine wpAnyH_ready (rs := [12]) (by kernel_rfl) (by simp) ?_
            refine AllReadyH.cons rfl (fun K hK => ?_) AllReadyH.nil
            refine wp_append_row _ _ _ 42 rfl Bs 80 jsi _ 2 16 Try.underlying42 js0 js1 js2 js3 rfl (by decide) (.slice (some ⟨g2, 0, none⟩) 0 0) ([] : List (Int × Int)).length (pcells ([] : List (Int × Int))) rfl (hC.r2 _ _ rfl) (.slice ac s1.ss.length acc) s1.ss.length (pcells s1.ss) rfl 0 (HRA.out.below hHeld).ss (pcells_one _) (by have := HLN.out; unfold maxLen; simp; omega) (by have := HLN.out; simp; omega) hC.z ?_
            intro p2a wP ownp2a growp2a atp2a
            obtain ⟨p2aa, p2an, p2ac, hp2a⟩ : ∃ a n c, p2a = .slice a n c := by obtain ⟨a', c', h'⟩ := rowg_slice ownp2a; exact ⟨_, _, _, h'⟩
            subst hp2a
            have hbp2a := hC.grow2 HBs.out hHeld growp2a
            have hC2 := hC.app2 ownp2a growp2a atp2a
            clear hC ownp2a growp2a atp2a
            have hC := hC2
            clear hC2
            refine hK.out _ _ (hbp2a) (fun hHeld => ?_)
            clear hK K
            refine wpAnyH_ready (rs := [15]) (by kernel_rfl) (by simp) ?_
            refine AllReadyH.cons rfl (fun K hK => ?_) AllReadyH.nil
            refine wp_append_row _ _ _ 42 rfl Bs 80 jsi _ 2 16 Try.underlying42 js0 js1 js2 js3 rfl (by decide) (.slice p2aa p2an p2ac) ([] ++ s1.ss : List (Int × Int)).length (pcells ([] ++ s1.ss : List (Int × Int))) rfl (hC.r2 _ _ rfl) (.slice bc s2.ss.length bcc) s2.ss.length (pcells s2.ss) rfl 0 (HRB.out.below hHeld).ss (pcells_one _) (by have := HLN.out; unfold maxLen; simp; omega) (by have := HLN.out; simp; omega) hC.z ?_
            intro p2b wP ownp2b growp2b atp2b
            obtain ⟨p2ba, p2bn, p2bc, hp2b⟩ : ∃ a n c, p2b = .slice a n c := by obtain ⟨a', c', h'⟩ := rowg_slice ownp2b; exact ⟨_, _, _, h'⟩
            subst hp2b
            have hbp2b := hC.grow2 HBs.out hHeld growp2b
            have hC2 := hC.app2 ownp2b growp2b atp2b
            clear hC ownp2b growp2b atp2b
            have hC := hC2
            clear hC2
            refine hK.out _ _ (hbp2b) (fun hHeld => ?_)
            clear hK K
            refine' wpAnyH_take (i := 16) (v := _) rfl (by kernel_rfl) (by kernel_rfl) (by kernel_rfl) (fun _ _ _ h => by cases h.1) (Or.inl ⟨by rfl, ?hy967⟩) hHeld ?hn967
            case hy967 => (intro wz hSw; go_simp; first | done | with_reducible rfl)
            try simp only [List.getElem_toArray, List.getElem_cons_zero, List.getElem_cons_succ, Act.put, List.setIfInBounds_toArray, List.set_cons_zero, List.set_cons_succ]
            refine wpAnyH_ready (rs := [18]) (by kernel_rfl) (by simp) ?_
            refine AllReadyH.cons rfl (fun K hK => ?_) AllReadyH.nil
            obtain ⟨CY, hyq⟩ := hC.bq _ rfl
            obtain ⟨⟨c0, c1, c2⟩, f0, f1, f2⟩ := id CY
            have GQ : C3 (((wP.setCell ⟨qb, 0, none⟩ (.slice ba s2.n.length bac)).setCell ⟨qb, 1, none⟩ (.slice p1ba p1bn p1bc)).setCell ⟨qb, 2, none⟩ (.slice p2ba p2bn p2bc)) qb (.slice ba s2.n.length bac) (.slice p1ba p1bn p1bc) (.slice p2ba p2bn p2bc) := ((CY.set0 _).set1 _).set2 _
            have hfar : ∀ b, b ≠ qb → (((wP.setCell ⟨qb, 0, none⟩ (.slice ba s2.n.length bac)).setCell ⟨qb, 1, none⟩ (.slice p1ba p1bn p1bc)).setCell ⟨qb, 2, none⟩ (.slice p2ba p2bn p2bc)).heap[b]? = wP.heap[b]? := fun b hb => ((Below.heap_setCell _ _ _ _ hb).trans (Below.heap_setCell _ _ _ _ hb)).trans (Below.heap_setCell _ _ _ _ hb)
            have q1 := rowp_frame (hC.r1 _ _ rfl) (fun k hk => hfar k (fun e => hC.n1q _ _ _ rfl rfl (e ▸ hk)))
            have q2 := rowp_frame (hC.r2 _ _ rfl) (fun k hk => hfar k (fun e => hC.n2q _ _ _ rfl rfl (e ▸ hk)))
            have hyq' : w9.heap.size ≤ qb := by have := HBs.out; omega
            have BQ : Below w9.heap.size w9 (((wP.setCell ⟨qb, 0, none⟩ (.slice ba s2.n.length bac)).setCell ⟨qb, 1, none⟩ (.slice p1ba p1bn p1bc)).setCell ⟨qb, 2, none⟩ (.slice p2ba p2bn p2bc)) := ((hHeld.setCell hyq' _).setCell hyq' _).setCell hyq' _
            go_simp
            refine hK.out _ _ (BQ) (fun hHeld => ?_)
            clear hK K
            refine wpAnyH_done (by kernel_rfl) ?_ _
            exact ⟨rfl, qb, _, _, ⟨rfl, rfl, rfl, rfl, rfl, rfl, rfl, rfl, rfl, rfl, rfl, trivial⟩, hHeld, GQ, q1, q2⟩
        · go_simp
          have hC2 := Cs.newq hC 44
          replace hC2 := hC2.below (Below.drew (Below.refl _ _))
          have AL : Below w9.heap.size w9 (World.drew (World.alloc w9 (.cells #[.slice none 0 0, .slice none 0 0, .slice none 0 0] 44))) := ((Below.refl _ _).alloc (Nat.le_refl _) _).drew
          obtain ⟨qb, hqb⟩ : ∃ x, x = (w9).heap.size := ⟨_, rfl⟩
          rw [← hqb] at hC2 ⊢
          clear hqb hC
          have hC := hC2
          clear hC2
          generalize (World.drew (World.alloc w9 (.cells #[.slice none 0 0, .slice none 0 0, .slice none 0 0] 44))) = wQ at *
          refine hK.out _ _ (AL) (fun hHeld => ?_)
          clear hK K
          refine wpAnyH_ready (rs := [2, 9]) (by kernel_rfl) (by simp) ?_
          refine AllReadyH.cons rfl (fun K hK => ?_) (AllReadyH.cons rfl (fun K hK => ?_) AllReadyH.nil)
          · go_simp
            have hC2 := Cs.new1 hC
            have AL : Below (wQ).heap.size wQ (World.alloc wQ (.cells #[] 49)) := (Below.refl _ _).alloc (Nat.le_refl _) _
            obtain ⟨g1, hg1⟩ : ∃ x, x = (wQ).heap.size := ⟨_, rfl⟩
            rw [← hg1] at hC2 ⊢
            clear hg1 hC
            have hC := hC2
            clear hC2
            generalize (World.alloc wQ (.cells #[] 49)) = wQ at *
            refine hK.out _ _ (Below.then hHeld AL hHeld.size) (fun hHeld => ?_)
            clear hK K
            refine wpAnyH_ready (rs := [5, 9]) (by kernel_rfl) (by simp) ?_
            refine AllReadyH.cons rfl (fun K hK => ?_) (AllReadyH.cons rfl (fun K hK => ?_) AllReadyH.nil)
            · refine wp_append_row _ _ _ 41 rfl Bs 49 jwi _ 2 16 Try.underlying41 jw0 jw1 jw2 jw3 rfl (by decide) (.slice (some ⟨g1, 0, none⟩) 0 0) ([] : List (Int × Int)).length (pcells ([] : List (Int × Int))) rfl (hC.r1 _ _ rfl) (.slice ab s1.ws.length abc) s1.ws.length (pcells s1.ws) rfl 0 (HRA.out.below hHeld).ws (pcells_one _) (by have := HLN.out; unfold maxLen; simp; omega) (by have := HLN.out; simp; omega) hC.z ?_
              intro p1a wP ownp1a growp1a atp1a
              obtain ⟨p1aa, p1an, p1ac, hp1a⟩ : ∃ a n c, p1a = .slice a n c := by obtain ⟨a', c', h'⟩ := rowg_slice ownp1a; exact ⟨_, _, _, h'⟩
              subst hp1a
              have hbp1a := hC.grow1 HBs.out hHeld growp1a
              have hC2 := hC.app1 ownp1a growp1a atp1a
              clear hC ownp1a growp1a atp1a
              have hC := hC2
              clear hC2
              refine hK.out _ _ (hbp1a) (fun hHeld => ?_)
              clear hK K
              refine wpAnyH_ready (rs := [8, 9]) (by kernel_rfl) (by simp) ?_
              refine AllReadyH.cons rfl (fun K hK => ?_) (AllReadyH.cons rfl (fun K hK => ?_) AllReadyH.nil)
              · refine wp_append_row _ _ _ 41 rfl Bs 49 jwi _ 2 16 Try.underlying41 jw0 jw1 jw2 jw3 rfl (by decide) (.slice p1aa p1an p1ac) ([] ++ s1.ws : List (Int × Int)).length (pcells ([] ++ s1.ws : List (Int × Int))) rfl (hC.r1 _ _ rfl) (.slice bb s2.ws.length bbc) s2.ws.length (pcells s2.ws) rfl 0 (HRB.out.below hHeld).ws (pcells_one _) (by have := HLN.out; unfold maxLen; simp; omega) (by have := HLN.out; simp; omega) hC.z ?_
                intro p1b wP ownp1b growp1b atp1b
                obtain ⟨p1ba, p1bn, p1bc, hp1b⟩ : ∃ a n c, p1b = .slice a n c := by obtain ⟨a', c', h'⟩ := rowg_slice ownp1b; exact ⟨_, _, _, h'⟩
                subst hp1b
                have hbp1b := hC.grow1 HBs.out hHeld growp1b
                have hC2 := hC.app1 ownp1b growp1b atp1b
                clear hC ownp1b growp1b atp1b
                have hC := hC2
                clear hC2
                refine hK.out _ _ (hbp1b) (fun hHeld => ?_)
                clear hK K
                refine wpAnyH_ready (rs := [9]) (by kernel_rfl) (by simp) ?_
                refine AllReadyH.cons rfl (fun K hK => ?_) AllReadyH.nil
                go_simp
                have hC2 := Cs.new2 hC
                have AL : Below (wP).heap.size wP (World.alloc wP (.cells #[] 80)) := (Below.refl _ _).alloc (Nat.le_refl _) _
                obtain ⟨g2, hg2⟩ : ∃ x, x = (wP).heap.size := ⟨_, rfl⟩
                rw [← hg2] at hC2 ⊢
                clear hg2 hC
                have hC := hC2
                clear hC2
                generalize (World.alloc wP (.cells #[] 80)) = wQ at *
                refine hK.out _ _ (Below.then hHeld AL hHeld.size) (fun hHeld => ?_)
                clear hK K
                refine wpAnyH_ready (rs := [12]) (by kernel_rfl) (by simp) ?_
                refine AllReadyH.cons rfl (fun K hK => ?_) AllReadyH.nil
                refine wp_append_row _ _ _ 42 rfl Bs 80 jsi _ 2 16 Try.underlying42 js0 js1 js2 js3 rfl (by decide) (.slice (some ⟨g2, 0, none⟩) 0 0) ([] : List (Int × Int)).length (pcells ([] : List (Int × Int))) rfl (hC.r2 _ _ rfl) (.slice ac s1.ss.length acc) s1.ss.length (pcells s1.ss) rfl 0 (HRA.out.below hHeld).ss (pcells_one _) (by have := HLN.out; unfold maxLen; simp; omega) (by have := HLN.out; simp; omega) hC.z ?_
                intro p2a wP ownp2a growp2a atp2a
                obtain ⟨p2aa, p2an, p2ac, hp2a⟩ : ∃ a n c, p2a = .slice a n c := by obtain ⟨a', c', h'⟩ := rowg_slice ownp2a; exact ⟨_, _, _, h'⟩
                subst hp2a
                have hbp2a := hC.grow2 HBs.out hHeld growp2a
                have hC2 := hC.app2 ownp2a growp2a atp2a
                clear hC ownp2a growp2a atp2a
                have hC := hC2
                clear hC2
                refine hK.out _ _ (hbp2a) (fun hHeld => ?_)
                clear hK K
                refine wpAnyH_ready (rs := [15]) (by kernel_rfl) (by simp) ?_
                refine AllReadyH.cons rfl (fun K hK => ?_) AllReadyH.nil
                refine wp_append_row _ _ _ 42 rfl Bs 80 jsi _ 2 16 Try.underlying42 js0 js1 js2 js3 rfl (by decide) (.slice p2aa p2an p2ac) ([] ++ s1.ss : List (Int × Int)).length (pcells ([] ++ s1.ss : List (Int × Int))) rfl (hC.r2 _ _ rfl) (.slice bc s2.ss.length bcc) s2.ss.length (pcells s2.ss) rfl 0 (HRB.out.below hHeld).ss (pcells_one _) (by have := HLN.out; unfold maxLen; simp; omega) (by have := HLN.out; simp; omega) hC.z ?_
                intro p2b wP ownp2b growp2b atp2b
                obtain ⟨p2ba, p2bn, p2bc, hp2b⟩ : ∃ a n c, p2b = .slice a n c := by obtain ⟨a', c', h'⟩ := rowg_slice ownp2b; exact ⟨_, _, _, h'⟩
                subst hp2b
                have hbp2b := hC.grow2 HBs.out hHeld growp2b
                have hC2 := hC.app2 ownp2b growp2b atp2b
                clear hC ownp2b growp2b atp2b
                have hC := hC2
                clear hC2
                refine hK.out _ _ (hbp2b) (fun hHeld => ?_)
                clear hK K
                refine' wpAnyH_take (i := 16) (v := _) rfl (by kernel_rfl) (by kernel_rfl) (by kernel_rfl) (fun _ _ _ h => by cases h.1) (Or.inl ⟨by rfl, ?hy968⟩) hHeld ?hn968
                case hy968 => (intro wz hSw; go_simp; first | done | with_reducible rfl)
                try simp only [List.getElem_toArray, List.getElem_cons_zero, List.getElem_cons_succ, Act.put, List.setIfInBounds_toArray, List.set_cons_zero, List.set_cons_succ]
                refine wpAnyH_ready (rs := [18]) (by kernel_rfl) (by simp) ?_
                refine AllReadyH.cons rfl (fun K hK => ?_) AllReadyH.nil
                obtain ⟨CY, hyq⟩ := hC.bq _ rfl
                obtain ⟨⟨c0, c1, c2⟩, f0, f1, f2⟩ := id CY
                have GQ : C3 (((wP.setCell ⟨qb, 0, none⟩ (.slice ba s2.n.length bac)).setCell ⟨qb, 1, none⟩ (.slice p1ba p1bn p1bc)).setCell ⟨qb, 2, none⟩ (.slice p2ba p2bn p2bc)) qb (.slice ba s2.n.length bac) (.slice p1ba p1bn p1bc) (.slice p2ba p2bn p2bc) := ((CY.set0 _).set1 _).set2 _
                have hfar : ∀ b, b ≠ qb → (((wP.setCell ⟨qb, 0, none⟩ (.slice ba s2.n.length bac)).setCell ⟨qb, 1, none⟩ (.slice p1ba p1bn p1bc)).setCell ⟨qb, 2, none⟩ (.slice p2ba p2bn p2bc)).heap[b]? = wP.heap[b]? := fun b hb => ((Below.heap_setCell _ _ _ _ hb).trans (Below.heap_setCell _ _ _ _ hb)).trans (Below.heap_setCell _ _ _ _ hb)
                have q1 := rowp_frame (hC.r1 _ _ rfl) (fun k hk => hfar k (fun e => hC.n1q _ _ _ rfl rfl (e ▸ hk)))
                have q2 := rowp_frame (hC.r2 _ _ rfl) (fun k hk => hfar k (fun e => hC.n2q _ _ _ rfl rfl (e ▸ hk)))
                have hyq' : w9.heap.size ≤ qb := by have := HBs.out; omega
                have BQ : Below w9.heap.size w9 (((wP.setCell ⟨qb, 0, none⟩ (.slice ba s2.n.length bac)).setCell ⟨qb, 1, none⟩ (.slice p1ba p1bn p1bc)).setCell ⟨qb, 2, none⟩ (.slice p2ba p2bn p2bc)) := ((hHeld.setCell hyq' _).setCell hyq' _).setCell hyq' _
                go_simp
                refine hK.out _ _ (BQ) (fun hHeld => ?_)
                clear hK K
                refine wpAnyH_done (by kernel_rfl) ?_ _
                exact ⟨rfl, qb, _, _, ⟨rfl, rfl, rfl, rfl, rfl, rfl, rfl, rfl, rfl, rfl, rfl, trivial⟩, hHeld, GQ, q1, q2⟩
              · go_simp
                have hC2 := Cs.new2 hC
                have AL : Below (wP).heap.size wP (World.alloc wP (.cells #[] 80)) := (Below.refl _ _).alloc (Nat.le_refl _) _
                obtain ⟨g2, hg2⟩ : ∃ x, x = (wP).heap.size := ⟨_, rfl⟩
                rw [← hg2] at hC2 ⊢
                clear hg2 hC
                have hC := hC2
                clear hC2
                generalize (World.alloc wP (.cells #[] 80)) = wQ at *
                refine hK.out _ _ (Below.then hHeld AL hHeld.size) (fun hHeld => ?_)
                clear hK K
                refine wpAnyH_ready (rs := [8]) (by kernel_rfl) (by simp) ?_
                refine AllReadyH.cons rfl (fun K hK => ?_) AllReadyH.nil
                refine wp_append_row _ _ _ 41 rfl Bs 49 jwi _ 2 16 Try.underlying41 jw0 jw1 jw2 jw3 rfl (by decide) (.slice p1aa p1an p1ac) ([] ++ s1.ws : List (Int × Int)).length (pcells ([] ++ s1.ws : List (Int × Int))) rfl (hC.r1 _ _ rfl) (.slice bb s2.ws.length bbc) s2.ws.length (pcells s2.ws) rfl 0 (HRB.out.below hHeld).ws (pcells_one _) (by have := HLN.out; unfold maxLen; simp; omega) (by have := HLN.out; simp; omega) hC.z ?_
                intro p1b wP ownp1b growp1b atp1b
                obtain ⟨p1ba, p1bn, p1bc, hp1b⟩ : ∃ a n c, p1b = .slice a n c := by obtain ⟨a', c', h'⟩ := rowg_slice ownp1b; exact ⟨_, _, _, h'⟩
                subst hp1b
                have hbp1b := hC.grow1 HBs.out hHeld growp1b
                have hC2 := hC.app1 ownp1b growp1b atp1b
                clear hC ownp1b growp1b atp1b
                have hC := hC2
                clear hC2
                refine hK.out _ _ (hbp1b) (fun hHeld => ?_)
                clear hK K
                refine wpAnyH_ready (rs := [12]) (by kernel_rfl) (by simp) ?_
                refine AllReadyH.cons rfl (fun K hK => ?_) AllReadyH.nil
                refine wp_append_row _ _ _ 42 rfl Bs 80 jsi _ 2 16 Try.underlying42 js0 js1 js2 js3 rfl (by decide) (.slice (some ⟨g2, 0, none⟩) 0 0) ([] : List (Int × Int)).length (pcells ([] : List (Int × Int))) rfl (hC.r2 _ _ rfl) (.slice ac s1.ss.length acc) s1.ss.length (pcells s1.ss) rfl 0 (HRA.out.below hHeld).ss (pcells_one _) (by have := HLN.out; unfold maxLen; simp; omega) (by have := HLN.out; simp; omega) hC.z ?_
                intro p2a wP ownp2a growp2a atp2a
                obtain ⟨p2aa, p2an, p2ac, hp2a⟩ : ∃ a n c, p2a = .slice a n c := by obtain ⟨a', c', h'⟩ := rowg_slice ownp2a; exact ⟨_, _, _, h'⟩
                subst hp2a
                have hbp2a := hC.grow2 HBs.out hHeld growp2a
                have hC2 := hC.app2 ownp2a growp2a atp2a
                clear hC ownp2a growp2a atp2a
                have hC := hC2
                clear hC2
                refine hK.out _ _ (hbp2a) (fun hHeld => ?_)
                clear hK K
                refine wpAnyH_ready (rs := [15]) (by kernel_rfl) (by simp) ?_
                refine AllReadyH.cons rfl (fun K hK => ?_) AllReadyH.nil
                refine wp_append_row _ _ _ 42 rfl Bs 80 jsi _ 2 16 Try.underlying42 js0 js1 js2 js3 rfl (by decide) (.slice p2aa p2an p2ac) ([] ++ s1.ss : List (Int × Int)).length (pcells ([] ++ s1.ss : List (Int × Int))) rfl (hC.r2 _ _ rfl) (.slice bc s2.ss.length bcc) s2.ss.length (pcells s2.ss) rfl 0 (HRB.out.below hHeld).ss (pcells_one _) (by have := HLN.out; unfold maxLen; simp; omega) (by have := HLN.out; simp; omega) hC.z ?_
                intro p2b wP ownp2b growp2b atp2b
                obtain ⟨p2ba, p2bn, p2bc, hp2b⟩ : ∃ a n c, p2b = .slice a n c := by obtain ⟨a', c', h'⟩ := rowg_slice ownp2b; exact ⟨_, _, _, h'⟩
                subst hp2b
                have hbp2b := hC.grow2 HBs.out hHeld growp2b
                have hC2 := hC.app2 ownp2b growp2b atp2b
                clear hC ownp2b growp2b atp2b
                have hC := hC2
                clear hC2
                refine hK.out _ _ (hbp2b) (fun hHeld => ?_)
                clear hK K
                refine' wpAnyH_take (i := 16) (v := _) rfl (by kernel_rfl) (by kernel_rfl) (by kernel_rfl) (fun _ _ _ h => by cases h.1) (Or.inl ⟨by rfl, ?hy969⟩) hHeld ?hn969
                case hy969 => (intro wz hSw; go_simp; first | done | with_reducible rfl)
                try simp only [List.getElem_toArray, List.getElem_cons_zero, List.getElem_cons_succ, Act.put, List.setIfInBounds_toArray, List.set_cons_zero, List.set_cons_succ]
                refine wpAnyH_ready (rs := [18]) (by kernel_rfl) (by simp) ?_
                refine AllReadyH.cons rfl (fun K hK => ?_) AllReadyH.nil
                obtain ⟨CY, hyq⟩ := hC.bq _ rfl
                obtain ⟨⟨c0, c1, c2⟩, f0, f1, f2⟩ := id CY
                have GQ : C3 (((wP.setCell ⟨qb, 0, none⟩ (.slice ba s2.n.length bac)).setCell ⟨qb, 1, none⟩ (.slice p1ba p1bn p1bc)).setCell ⟨qb, 2, none⟩ (.slice p2ba p2bn p2bc)) qb (.slice ba s2.n.length bac) (.slice p1ba p1bn p1bc) (.slice p2ba p2bn p2bc) := ((CY.set0 _).set1 _).set2 _
                have hfar : ∀ b, b ≠ qb → (((wP.setCell ⟨qb, 0, none⟩ (.slice ba s2.n.length bac)).setCell ⟨qb, 1, none⟩ (.slice p1ba p1bn p1bc)).setCell ⟨qb, 2, none⟩ (.slice p2ba p2bn p2bc)).heap[b]? = wP.heap[b]? := fun b hb => ((Below.heap_setCell _ _ _ _ hb).trans (Below.heap_setCell _ _ _ _ hb)).trans (Below.heap_setCell _ _ _ _ hb)
                have q1 := rowp_frame (hC.r1 _ _ rfl) (fun k hk => hfar k (fun e => hC.n1q _ _ _ rfl rfl (e ▸ hk)))
                have q2 := rowp_frame (hC.r2 _ _ rfl) (fun k hk => hfar k (fun e => hC.n2q _ _ _ rfl rfl (e ▸ hk)))
                have hyq' : w9.heap.size ≤ qb := by have := HBs.out; omega
                have BQ : Below w9.heap.size w9 (((wP.setCell ⟨qb, 0, none⟩ (.slice ba s2.n.length bac)).setCell ⟨qb, 1, none⟩ (.slice p1ba p1bn p1bc)).setCell ⟨qb, 2, none⟩ (.slice p2ba p2bn p2bc)) := ((hHeld.setCell hyq' _).setCell hyq' _).setCell hyq' _
                go_simp
                refine hK.out _ _ (BQ) (fun hHeld => ?_)
                clear hK K
                refine wpAnyH_done (by kernel_rfl) ?_ _
                exact ⟨rfl, qb, _, _, ⟨rfl, rfl, rfl, rfl, rfl, rfl, rfl, rfl, rfl, rfl, rfl, trivial⟩, hHeld, GQ, q1, q2⟩
            · go_simp
              have hC2 := Cs.new2 hC
              have AL : Below (wQ).heap.size wQ (World.alloc wQ (.cells #[] 80)) := (Below.refl _ _).alloc (Nat.le_refl _) _
              obtain ⟨g2, hg2⟩ : ∃ x, x = (wQ).heap.size := ⟨_, rfl⟩
              rw [← hg2] at hC2 ⊢
              clear hg2 hC
              have hC := hC2
              clear hC2
              generalize (World.alloc wQ (.cells #[] 80)) = wQ at *
              refine hK.out _ _ (Below.then hHeld AL hHeld.size) (fun hHeld => ?_)
              clear hK K
              refine wpAnyH_ready (rs := [5]) (by kernel_rfl) (by simp) ?_
              refine AllReadyH.cons rfl (fun K hK => ?_) AllReadyH.nil
              refine wp_append_row _ _ _ 41 rfl Bs 49 jwi _ 2 16 Try.underlying41 jw0 jw1 jw2 jw3 rfl (by decide) (.slice (some ⟨g1, 0, none⟩) 0 0) ([] : List (Int × Int)).length (pcells ([] : List (Int × Int))) rfl (hC.r1 _ _ rfl) (.slice ab s1.ws.length abc) s1.ws.length (pcells s1.ws) rfl 0 (HRA.out.below hHeld).ws (pcells_one _) (by have := HLN.out; unfold maxLen; simp; omega) (by have := HLN.out; simp; omega) hC.z ?_
              intro p1a wP ownp1a growp1a atp1a
              obtain ⟨p1aa, p1an, p1ac, hp1a⟩ : ∃ a n c, p1a = .slice a n c := by obtain ⟨a', c', h'⟩ := rowg_slice ownp1a; exact ⟨_, _, _, h'⟩
              subst hp1a
              have hbp1a := hC.grow1 HBs.out hHeld growp1a
              have hC2 := hC.app1 ownp1a growp1a atp1a
              clear hC ownp1a growp1a atp1a
              have hC := hC2
              clear hC2
              refine hK.out _ _ (hbp1a) (fun hHeld => ?_)
              clear hK K
              refine wpAnyH_ready (rs := [8]) (by kernel_rfl) (by simp) ?_
              refine AllReadyH.cons rfl (fun K hK => ?_) AllReadyH.nil
              refine wp_append_row _ _ _ 41 rfl Bs 49 jwi _ 2 16 Try.underlying41 jw0 jw1 jw2 jw3 rfl (by decide) (.slice p1aa p1an p1ac) ([] ++ s1.ws : List (Int × Int)).length (pcells ([] ++ s1.ws : List (Int × Int))) rfl (hC.r1 _ _ rfl) (.slice bb s2.ws.length bbc) s2.ws.length (pcells s2.ws) rfl 0 (HRB.out.below hHeld).ws (pcells_one _) (by have := HLN.out; unfold maxLen; simp; omega) (by have := HLN.out; simp; omega) hC.z ?_
              intro p1b wP ownp1b growp1b atp1b
              obtain ⟨p1ba, p1bn, p1bc, hp1b⟩ : ∃ a n c, p1b = .slice a n c := by obtain ⟨a', c', h'⟩ := rowg_slice ownp1b; exact ⟨_, _, _, h'⟩
              subst hp1b
              have hbp1b := hC.grow1 HBs.out hHeld growp1b
              have hC2 := hC.app1 ownp1b growp1b atp1b
              clear hC ownp1b growp1b atp1b
              have hC := hC2
              clear hC2
              refine hK.out _ _ (hbp1b) (fun hHeld => ?_)
              clear hK K
              refine wpAnyH_ready (rs := [12]) (by kernel_rfl) (by simp) ?_
              refine AllReadyH.cons rfl (fun K hK => ?_) AllReadyH.nil
              refine wp_append_row _ _ _ 42 rfl Bs 80 jsi _ 2 16 Try.underlying42 js0 js1 js2 js3 rfl (by decide) (.slice (some ⟨g2, 0, none⟩) 0 0) ([] : List (Int × Int)).length (pcells ([] : List (Int × Int))) rfl (hC.r2 _ _ rfl) (.slice ac s1.ss.length acc) s1.ss.length (pcells s1.ss) rfl 0 (HRA.out.below hHeld).ss (pcells_one _) (by have := HLN.out; unfold maxLen; simp; omega) (by have := HLN.out; simp; omega) hC.z ?_
              intro p2a wP ownp2a growp2a atp2a
              obtain ⟨p2aa, p2an, p2ac, hp2a⟩ : ∃ a n c, p2a = .slice a n c := by obtain ⟨a', c', h'⟩ := rowg_slice ownp2a; exact ⟨_, _, _, h'⟩
              subst hp2a
              have hbp2a := hC.grow2 HBs.out hHeld growp2a
              have hC2 := hC.app2 ownp2a growp2a atp2a
              clear hC ownp2a growp2a atp2a
              have hC := hC2
              clear hC2
              refine hK.out _ _ (hbp2a) (fun hHeld => ?_)
              clear hK K
              refine wpAnyH_ready (rs := [15]) (by kernel_rfl) (by simp) ?_
              refine AllReadyH.cons rfl (fun K hK => ?_) AllReadyH.nil
              refine wp_append_row _ _ _ 42 rfl Bs 80 jsi _ 2 16 Try.underlying42 js0 js1 js2 js3 rfl (by decide) (.slice p2aa p2an p2ac) ([] ++ s1.ss : List (Int × Int)).length (pcells ([] ++ s1.ss : List (Int × Int))) rfl (hC.r2 _ _ rfl) (.slice bc s2.ss.length bcc) s2.ss.length (pcells s2.ss) rfl 0 (HRB.out.below hHeld).ss (pcells_one _) (by have := HLN.out; unfold maxLen; simp; omega) (by have := HLN.out; simp; omega) hC.z ?_
              intro p2b wP ownp2b growp2b atp2b
              obtain ⟨p2ba, p2bn, p2bc, hp2b⟩ : ∃ a n c, p2b = .slice a n c := by obtain ⟨a', c', h'⟩ := rowg_slice ownp2b; exact ⟨_, _, _, h'⟩
              subst hp2b
              have hbp2b := hC.grow2 HBs.out hHeld growp2b
              have hC2 := hC.app2 ownp2b growp2b atp2b
              clear hC ownp2b growp2b atp2b
              have hC := hC2
              clear hC2
              refine hK.out _ _ (hbp2b) (fun hHeld => ?_)
              clear hK K
              refine' wpAnyH_take (i := 16) (v := _) rfl (by kernel_rfl) (by kernel_rfl) (by kernel_rfl) (fun _ _ _ h => by cases h.1) (Or.inl ⟨by rfl, ?hy970⟩) hHeld ?hn970
              case hy970 => (intro wz hSw; go_simp; first | done | with_reducible rfl)
              try simp only [List.getElem_toArray, List.getElem_cons_zero, List.getElem_cons_succ, Act.put, List.setIfInBounds_toArray, List.set_cons_zero, List.set_cons_succ]
              refine wpAnyH_ready (rs := [18]) (by kernel_rfl) (by simp) ?_
              refine AllReadyH.cons rfl (fun K hK => ?_) AllReadyH.nil
              obtain ⟨CY, hyq⟩ := hC.bq _ rfl
              obtain ⟨⟨c0, c1, c2⟩, f0, f1, f2⟩ := id CY
              have GQ : C3 (((wP.setCell ⟨qb, 0, none⟩ (.slice ba s2.n.length bac)).setCell ⟨qb, 1, none⟩ (.slice p1ba p1bn p1bc)).setCell ⟨qb, 2, none⟩ (.slice p2ba p2bn p2bc)) qb (.slice ba s2.n.length bac) (.slice p1ba p1bn p1bc) (.slice p2ba p2bn p2bc) := ((CY.set0 _).set1 _).set2 _
              have hfar : ∀ b, b ≠ qb → (((wP.setCell ⟨qb, 0, none⟩ (.slice ba s2.n.length bac)).setCell ⟨qb, 1, none⟩ (.slice p1ba p1bn p1bc)).setCell ⟨qb, 2, none⟩ (.slice p2ba p2bn p2bc)).heap[b]? = wP.heap[b]? := fun b hb => ((Below.heap_setCell _ _ _ _ hb).trans (Below.heap_setCell _ _ _ _ hb)).trans (Below.heap_setCell _ _ _ _ hb)
              have q1 := rowp_frame (hC.r1 _ _ rfl) (fun k hk => hfar k (fun e => hC.n1q _ _ _ rfl rfl (e ▸ hk)))
              have q2 := rowp_frame (hC.r2 _ _ rfl) (fun k hk => hfar k (fun e => hC.n2q _ _ _ rfl rfl (e ▸ hk)))
              have hyq' : w9.heap.size ≤ qb := by have := HBs.out; omega
              have BQ : Below w9.heap.size w9 (((wP.setCell ⟨qb, 0, none⟩ (.slice ba s2.n.length bac)).setCell ⟨qb, 1, none⟩ (.slice p1ba p1bn p1bc)).setCell ⟨qb, 2, none⟩ (.slice p2ba p2bn p2bc)) := ((hHeld.setCell hyq' _).setCell hyq' _).setCell hyq' _
              go_simp
              refine hK.out _ _ (BQ) (fun hHeld => ?_)
              clear hK K
              refine wpAnyH_done (by kernel_rfl) ?_ _
              exact ⟨rfl, qb, _, _, ⟨rfl, rfl, rfl, rfl, rfl, rfl, rfl, rfl, rfl, rfl, rfl, trivial⟩, hHeld, GQ, q1, q2⟩
          · go_simp
            have hC2 := Cs.new2 hC
            have AL : Below (wQ).heap.size wQ (World.alloc wQ (.cells #[] 80)) := (Below.refl _ _).alloc (Nat.le_refl _) _
            obtain ⟨g2, hg2⟩ : ∃ x, x = (wQ).heap.size := ⟨_, rfl⟩
            rw [← hg2] at hC2 ⊢
            clear hg2 hC
            have hC := hC2
            clear hC2
            generalize (World.alloc wQ (.cells #[] 80)) = wQ at *
            refine hK.out _ _ (Below.then hHeld AL hHeld.size) (fun hHeld => ?_)
            clear hK K
            refine wpAnyH_ready (rs := [2]) (by kernel_rfl) (by simp) ?_
            refine AllReadyH.cons rfl (fun K hK => ?_) AllReadyH.nil
            go_simp
            have hC2 := Cs.new1 hC
            have AL : Below (wQ).heap.size wQ (World.alloc wQ (.cells #[] 49)) := (Below.refl _ _).alloc (Nat.le_refl _) _
            obtain ⟨g1, hg1⟩ : ∃ x, x = (wQ).heap.size := ⟨_, rfl⟩
            rw [← hg1] at hC2 ⊢
            clear hg1 hC
            have hC := hC2
            clear hC2
            generalize (World.alloc wQ (.cells #[] 49)) = wQ at *
            refine hK.out _ _ (Below.then hHeld AL hHeld.size) (fun hHeld => ?_)
            clear hK K
            refine wpAnyH_ready (rs := [5]) (by kernel_rfl) (by simp) ?_
            refine AllReadyH.cons rfl (fun K hK => ?_) AllReadyH.nil
            refine wp_append_row _ _ _ 41 rfl Bs 49 jwi _ 2 16 Try.underlying41 jw0 jw1 jw2 jw3 rfl (by decide) (.slice (some ⟨g1, 0, none⟩) 0 0) ([] : List (Int × Int)).length (pcells ([] : List (Int × Int))) rfl (hC.r1 _ _ rfl) (.slice ab s1.ws.length abc) s1.ws.length (pcells s1.ws) rfl 0 (HRA.out.below hHeld).ws (pcells_one _) (by have := HLN.out; unfold maxLen; simp; omega) (by have := HLN.out; simp; omega) hC.z ?_
            intro p1a wP ownp1a growp1a atp1a
            obtain ⟨p1aa, p1an, p1ac, hp1a⟩ : ∃ a n c, p1a = .slice a n c := by obtain ⟨a', c', h'⟩ := rowg_slice ownp1a; exact ⟨_, _, _, h'⟩
            subst hp1a
            have hbp1a := hC.grow1 HBs.out hHeld growp1a
            have hC2 := hC.app1 ownp1a growp1a atp1a
            clear hC ownp1a growp1a atp1a
            have hC := hC2
            clear hC2
            refine hK.out _ _ (hbp1a) (fun hHeld => ?_)
            clear hK K
            refine wpAnyH_ready (rs := [8]) (by kernel_rfl) (by simp) ?_
            refine AllReadyH.cons rfl (fun K hK => ?_) AllReadyH.nil
            refine wp_append_row _ _ _ 41 rfl Bs 49 jwi _ 2 16 Try.underlying41 jw0 jw1 jw2 jw3 rfl (by decide) (.slice p1aa p1an p1ac) ([] ++ s1.ws : List (Int × Int)).length (pcells ([] ++ s1.ws : List (Int × Int))) rfl (hC.r1 _ _ rfl) (.slice bb s2.ws.length bbc) s2.ws.length (pcells s2.ws) rfl 0 (HRB.out.below hHeld).ws (pcells_one _) (by have := HLN.out; unfold maxLen; simp; omega) (by have := HLN.out; simp; omega) hC.z ?_
            intro p1b wP ownp1b growp1b atp1b
            obtain ⟨p1ba, p1bn, p1bc, hp1b⟩ : ∃ a n c, p1b = .slice a n c := by obtain ⟨a', c', h'⟩ := rowg_slice ownp1b; exact ⟨_, _, _, h'⟩
            subst hp1b
            have hbp1b := hC.grow1 HBs.out hHeld growp1b
            have hC2 := hC.app1 ownp1b growp1b atp1b
            clear hC ownp1b growp1b atp1b
            have hC := hC2
            clear hC2
            refine hK.out _ _ (hbp1b) (fun hHeld => ?_)
            clear hK K
            refine wpAnyH_ready (rs := [12]) (by kernel_rfl) (by simp) ?_
            refine AllReadyH.cons rfl (fun K hK => ?_) AllReadyH.nil
            refine wp_append_row _ _ _ 42 rfl Bs 80 jsi _ 2 16 Try.underlying42 js0 js1 js2 js3 rfl (by decide) (.slice (some ⟨g2, 0, none⟩) 0 0) ([] : List (Int × Int)).length (pcells ([] : List (Int × Int))) rfl (hC.r2 _ _ rfl) (.slice ac s1.ss.length acc) s1.ss.length (pcells s1.ss) rfl 0 (HRA.out.below hHeld).ss (pcells_one _) (by have := HLN.out; unfold maxLen; simp; omega) (by have := HLN.out; simp; omega) hC.z ?_
            intro p2a wP ownp2a growp2a atp2a
            obtain ⟨p2aa, p2an, p2ac, hp2a⟩ : ∃ a n c, p2a = .slice a n c := by obtain ⟨a', c', h'⟩ := rowg_slice ownp2a; exact ⟨_, _, _, h'⟩
            subst hp2a
            have hbp2a := hC.grow2 HBs.out hHeld growp2a
            have hC2 := hC.app2 ownp2a growp2a atp2a
            clear hC ownp2a growp2a atp2a
            have hC := hC2
            clear hC2
            refine hK.out _ _ (hbp2a) (fun hHeld => ?_)
            clear hK K
            refine wpAnyH_ready (rs := [15]) (by kernel_rfl) (by simp) ?_
            refine AllReadyH.cons rfl (fun K hK => ?_) AllReadyH.nil
            refine wp_append_row _ _ _ 42 rfl Bs 80 jsi _ 2 16 Try.underlying42 js0 js1 js2 js3 rfl (by decide) (.slice p2aa p2an p2ac) ([] ++ s1.ss : List (Int × Int)).length (pcells ([] ++ s1.ss : List (Int × Int))) rfl (hC.r2 _ _ rfl) (.slice bc s2.ss.length bcc) s2.ss.length (pcells s2.ss) rfl 0 (HRB.out.below hHeld).ss (pcells_one _) (by have := HLN.out; unfold maxLen; simp; omega) (by have := HLN.out; simp; omega) hC.z ?_
            intro p2b wP ownp2b growp2b atp2b
            obtain ⟨p2ba, p2bn, p2bc, hp2b⟩ : ∃ a n c, p2b = .slice a n c := by obtain ⟨a', c', h'⟩ := rowg_slice ownp2b; exact ⟨_, _, _, h'⟩
            subst hp2b
            have hbp2b := hC.grow2 HBs.out hHeld growp2b
            have hC2 := hC.app2 ownp2b growp2b atp2b
            clear hC ownp2b growp2b atp2b
            have hC := hC2
            clear hC2
            refine hK.out _ _ (hbp2b) (fun hHeld => ?_)
            clear hK K
            refine' wpAnyH_take (i := 16) (v := _) rfl (by kernel_rfl) (by kernel_rfl) (by kernel_rfl) (fun _ _ _ h => by cases h.1) (Or.inl ⟨by rfl, ?hy971⟩) hHeld ?hn971
            case hy971 => (intro wz hSw; go_simp; first | done | with_reducible rfl)
            try simp only [List.getElem_toArray, List.getElem_cons_zero, List.getElem_cons_succ, Act.put, List.setIfInBounds_toArray, List.set_cons_zero, List.set_cons_succ]
            refine wpAnyH_ready (rs := [18]) (by kernel_rfl) (by simp) ?_
            refine AllReadyH.cons rfl (fun K hK => ?_) AllReadyH.nil
            obtain ⟨CY, hyq⟩ := hC.bq _ rfl
            obtain ⟨⟨c0, c1, c2⟩, f0, f1, f2⟩ := id CY
            have GQ : C3 (((wP.setCell ⟨qb, 0, none⟩ (.slice ba s2.n.length bac)).setCell ⟨qb, 1, none⟩ (.slice p1ba p1bn p1bc)).setCell ⟨qb, 2, none⟩ (.slice p2ba p2bn p2bc)) qb (.slice ba s2.n.length bac) (.slice p1ba p1bn p1bc) (.slice p2ba p2bn p2bc) := ((CY.set0 _).set1 _).set2 _
            have hfar : ∀ b, b ≠ qb → (((wP.setCell ⟨qb, 0, none⟩ (.slice ba s2.n.length bac)).setCell ⟨qb, 1, none⟩ (.slice p1ba p1bn p1bc)).setCell ⟨qb, 2, none⟩ (.slice p2ba p2bn p2bc)).heap[b]? = wP.heap[b]? := fun b hb => ((Below.heap_setCell _ _ _ _ hb).trans (Below.heap_setCell _ _ _ _ hb)).trans (Below.heap_setCell _ _ _ _ hb)
            have q1 := rowp_frame (hC.r1 _ _ rfl) (fun k hk => hfar k (fun e => hC.n1q _ _ _ rfl rfl (e ▸ hk)))
            have q2 := rowp_frame (hC.r2 _ _ rfl) (fun k hk => hfar k (fun e => hC.n2q _ _ _ rfl rfl (e ▸ hk)))
            have hyq' : w9.heap.size ≤ qb := by have := HBs.out; omega
            have BQ : Below w9.heap.size w9 (((wP.setCell ⟨qb, 0, none⟩ (.slice ba s2.n.length bac)).setCell ⟨qb, 1, none⟩ (.slice p1ba p1bn p1bc)).setCell ⟨qb, 2, none⟩ (.slice p2ba p2bn p2bc)) := ((hHeld.setCell hyq' _).setCell hyq' _).setCell hyq' _
            go_simp
            refine hK.out _ _ (BQ) (fun hHeld => ?_)
            clear hK K
            refine wpAnyH_done (by kernel_rfl) ?_ _
            exact ⟨rfl, qb, _, _, ⟨rfl, rfl, rfl, rfl, rfl, rfl, rfl, rfl, rfl, rfl, rfl, trivial⟩, hHeld, GQ, q1, q2⟩

      case hq =>
        clear ka0 ka1 ka2 kb0 kb1 kb2 jw0 jw1 jw2 jw3 js0 js1 js2 js3
        rintro e a wx ⟨rfl, qb, V1, V2, hact, hbx, hcq, q1, q2⟩
        obtain ⟨u, rfl, hk⟩ := actIs_open hact
        have e5 : u 5 = .pointer (some ⟨w1.heap.size, 0, none⟩) := hk 5 _ (by simp)
        have e6 : u 6 = .slice (some ad) zs.length nc := hk 6 _ (by simp)
        have e9 : u 9 = .pointer (some ⟨w5.heap.size, 0, none⟩) := hk 9 _ (by simp)
        have e11 : u 11 = .int .i64 (cut : Int) := hk 11 _ (by simp)
        have e12 : u 12 = .pointer (some ⟨ya, 0, none⟩) := hk 12 _ (by simp)
        have e13 : u 13 = .bool true := hk 13 _ (by simp)
        have e14 : u 14 = .pointer (some ⟨zb, 0, none⟩) := hk 14 _ (by simp)
        have e15 : u 15 = .bool true := hk 15 _ (by simp)
        have e16 : u 16 = .pointer (some ⟨qb, 0, none⟩) := hk 16 _ (by simp)
        clear hk hact
        simp only [e5, e6, e9, e11, e12, e13, e14, e15, e16]
        clear e5 e6 e9 e11 e12 e13 e14 e15 e16
        obtain ⟨va1, vc1, hv1⟩ := rowg_slice q1
        obtain ⟨va2, vc2, hv2⟩ := rowg_slice q2
        subst hv1 hv2
        obtain ⟨_, o1, -⟩ := row_pown q1
        obtain ⟨_, o2, -⟩ := row_pown q2
        have hB7x : Below w7.heap.size w7 wx := Below.then HB79.out hbx HB79.out.size
        have HRX : Hid (Ran wx w1.heap.size w5.heap.size (.slice la ls.length lc) (.slice sa (ln (d + 1) (l : List (Pay × Tr d × Tr d))) sc) (.slice (some ad) zs.length nc) (.slice xa rs.n.length xac) (.slice xb rs.ws.length xbc) (.slice xc rs.ss.length xcc) ls d l zs rs) := HR7.out.below hB7x
        have HBx : Hid (Below w.heap.size w wx) := Below.then HB7.out hB7x HB7.out.size
        have KL : Hid _ := lcRun_same (ns := rs.n) (ws := rs.ws) (ss := rs.ss) (by rw [HEQ.out]; exact HRB.out.reps.1.below hbx) (by rw [HEQ.out]; exact o1.rep) (by rw [HEQ.out]; exact o2.rep) HRX.out.xn HRX.out.xw HRX.out.xs
        obtain ⟨⟨c0, c1, c2⟩, -⟩ := hcq
        obtain ⟨⟨kx0, kx1, kx2⟩, -⟩ := HRX.out.x
        generalize ([] ++ s1.ws ++ s2.ws).length = m1 at *
        generalize ([] ++ s1.ss ++ s2.ss).length = m2 at *
        clear q1 q2 o1 o2 hbx hB7x
        go_wp2_with fail
        go_at_call 19; refine Calls.mono KL.out ?_
        rintro e wq ⟨rfl, hbq⟩
        have HBq : Hid (Below w.heap.size w wq) := Below.then HBx.out hbq HBx.out.size
        clear hbq
        go_wp2
        go_ret
        exact ⟨rfl, HBq.out⟩

end Go.Proofs.Ytepacahfpbedoaa

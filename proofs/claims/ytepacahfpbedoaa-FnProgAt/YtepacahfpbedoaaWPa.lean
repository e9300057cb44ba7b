/- Steps are counted as they stand: the law, walked. -/
import Derived.Test.YtepacahfpbedoaaDat
import Derived.Test.YtepacahfpbedoaaLcs
import Derived.Test.YtepacahfpbedoaaPal
import Derived.Test.YtepacahfpbedoaaAtS
import Derived.Test.YtepacahfpbedoaaImp
import Derived.Test.YtepacahfpbedoaaSpx
import Derived.Test.YtepacahfpbedoaaPrl
namespace Go.Proofs.Ytepacahfpbedoaa
open Go.RowKit
set_option linter.unusedSimpArgs false
set_option linter.unusedVariables false
attribute [local go_sem ↓] Go.wp_at_zero Go.wp_at_succ
attribute [local go_sem] World.cell?_alloc_some

/-- How far the steps are gone through. -/
def AtInv (w8 : World) (d : Nat) (l : List (Pay × Tr d × Tr d)) (n : Int) (jn jr : Value) (wr : World) : Prop := ∃ (k rb ro rc : Nat), k ≤ l.length ∧ jn = .int .i64 (n - (cnt (d + 1) (l.take k : List (Pay × Tr d × Tr d)) : Int)) ∧ jr = .slice (some ⟨rb, ro, none⟩) (l.length - k) rc ∧ (cnt (d + 1) (l.take k : List (Pay × Tr d × Tr d)) : Int) ≤ n ∧ Rep w8 (d + 1) (.slice (some ⟨rb, ro, none⟩) (l.length - k) rc) (l.drop k : List (Pay × Tr d × Tr d)) ∧ Below w8.heap.size w8 wr

def slLen : Value → Nat
  | .slice _ n _ => n
  | _ => 0

set_option maxHeartbeats 8000000 in
set_option maxRecDepth 20000 in
theorem fnProgAt_walk (a0 : Option Addr) (len0 cap0 : Nat) (z0 : List Int) (w : World) (h0 : IsRow .u8 w a0 len0 cap0 z0) :
    Calls Try.prog 3 #[.slice a0 len0 cap0] w fun e w' => e = .returned (.bool true) ∧ Below w.heap.size w w' := by
  by_cases hl0 : (1048576 : Int) < (len0 : Int)
  · go_enter Try.func3, Try.ntmps3
    go_wp2
    go_ret
    exact ⟨rfl, Below.refl _ _⟩
  have C1 : Hid _ := drawProgAt_any w a0 len0 cap0 z0 h0
  clear h0
  go_enter Try.func3, Try.ntmps3
  go_wp2_with fail
  go_at_call 11; refine Calls.mono C1.out ?_
  rintro e w1 ⟨lv, sv, ls, d, l, n, rfl, hLp, hRp, hn, ll, cn, hb1⟩
  have hL := hLp.rep
  have hR := hRp.rep
  obtain ⟨la, lc, rfl, -⟩ := id hL
  obtain ⟨sa, sc, rfl⟩ := hR.slice
  have HLR : Hid (∀ wz, Below w1.heap.size w1 wz → LRep wz (.slice la ls.length lc) ls ∧ Rep wz (d + 1) (.slice sa (ln (d + 1) (l : List (Pay × Tr d × Tr d))) sc) (l : List (Pay × Tr d × Tr d))) := (show ∀ wz, _ from fun wz hb => ⟨hL.below hb, hR.below hb⟩)
  have HB1 : Hid (Below w.heap.size w w1) := hb1
  have A : Below w1.heap.size w1 (w1.alloc (.cells #[.slice la ls.length lc, .slice sa (ln (d + 1) (l : List (Pay × Tr d × Tr d))) sc] 26)) := (Below.refl _ _).alloc (Nat.le_refl _) _
  have G2 := C2.new w1 (.slice la ls.length lc) (.slice sa (ln (d + 1) (l : List (Pay × Tr d × Tr d))) sc) 26
  generalize hw2 : w1.alloc (.cells #[.slice la ls.length lc, .slice sa (ln (d + 1) (l : List (Pay × Tr d × Tr d))) sc] 26) = w2 at A G2
  have HW2 : Hid _ := hw2
  have HA : Hid (Below w1.heap.size w1 w2) := A
  have HG2 : Hid (C2 w2 w1.heap.size (.slice la ls.length lc) (.slice sa (ln (d + 1) (l : List (Pay × Tr d × Tr d))) sc)) := G2
  obtain ⟨x, hx⟩ : ∃ x, xAt ls (d + 1) (l : List (Pay × Tr d × Tr d)) n = x := ⟨_, rfl⟩
  obtain ⟨ok, hok⟩ : ∃ b, okAt ls (d + 1) (l : List (Pay × Tr d × Tr d)) n = b := ⟨_, rfl⟩
  have HX : Hid _ := hx
  have HOK : Hid _ := hok
  have KS : Hid (∀ wz, Below w1.heap.size w1 wz → Calls Try.prog 12 #[.agg #[.slice la ls.length lc, .slice sa (ln (d + 1) (l : List (Pay × Tr d × Tr d))) sc], .int .i64 n] wz fun e w' => Below wz.heap.size wz w' ∧ ∃ t' e', e = .returned (.tuple #[stepOf x.2.1 t' e', .bool ok]) ∧ Rep w' x.1 t' x.2.2.1 ∧ Rep w' x.1 e' x.2.2.2) := (show ∀ wz, _ from fun wz hb => Calls.mono (sProgAt_any n (HLR.out wz hb).1 (HLR.out wz hb).2 (by omega)) (fun e w' h => by have := at_one h; rw [hx, hok] at this; exact this))
  have KI : Hid (∀ wz, Below w1.heap.size w1 wz → Calls Try.prog 13 #[.agg #[.slice la ls.length lc, .slice sa (ln (d + 1) (l : List (Pay × Tr d × Tr d))) sc], .int .i64 n] wz fun e w' => Below wz.heap.size wz w' ∧ ∃ t' e', e = .returned (.tuple #[stepOf x.2.1 t' e', .bool ok]) ∧ Rep w' x.1 t' x.2.2.1 ∧ Rep w' x.1 e' x.2.2.2) := (show ∀ wz, _ from fun wz hb => Calls.mono (progAt_any n (HLR.out wz hb).1 (HLR.out wz hb).2) (fun e w' h => by have := at_one h; rw [hx, hok] at this; exact this))
  clear hLp hRp hb1 C1 A G2 hw2 hL hR hx hok
  go_wp2_with fail
  rw [HW2.out]
  go_at_call 12; refine Calls.mono (KS.out w2 HA.out) ?_
  rintro e w3 ⟨hb3, tw, ew, rfl, rtw, rew⟩
  obtain ⟨twa, twc, rfl⟩ := rtw.slice
  obtain ⟨ewa, ewc, rfl⟩ := rew.slice
  have HB3 : Hid (Below w1.heap.size w1 w3) := Below.then HA.out hb3 HA.out.size
  have G3 := HG2.out.same (hb3.block _ (C2.lt' HG2.out))
  have HG3 : Hid (C2 w3 w1.heap.size (.slice la ls.length lc) (.slice sa (ln (d + 1) (l : List (Pay × Tr d × Tr d))) sc)) := G3
  obtain ⟨w4, hw4⟩ : ∃ y, y = w3.alloc (.cells #[.int .i64 x.2.1.k, .int .i64 x.2.1.v, .int .i64 x.2.1.vk, .int .i64 x.2.1.va, .int .i64 x.2.1.vb, .int .i64 x.2.1.h, .slice twa (ln x.1 x.2.2.1) twc, .slice ewa (ln x.1 x.2.2.2) ewc] 32) := ⟨_, rfl⟩
  have A4 : Below w3.heap.size w3 w4 := by rw [hw4]; exact (Below.refl _ _).alloc (Nat.le_refl _) _
  have HB4 : Hid (Below w1.heap.size w1 w4) := Below.then HB3.out A4 HB3.out.size
  have HGW : Hid (C8 w4 w3.heap.size (.int .i64 x.2.1.k) (.int .i64 x.2.1.v) (.int .i64 x.2.1.vk) (.int .i64 x.2.1.va) (.int .i64 x.2.1.vb) (.int .i64 x.2.1.h) (.slice twa (ln x.1 x.2.2.1) twc) (.slice ewa (ln x.1 x.2.2.2) ewc)) := (show C8 w4 w3.heap.size (.int .i64 x.2.1.k) (.int .i64 x.2.1.v) (.int .i64 x.2.1.vk) (.int .i64 x.2.1.va) (.int .i64 x.2.1.vb) (.int .i64 x.2.1.h) (.slice twa (ln x.1 x.2.2.1) twc) (.slice ewa (ln x.1 x.2.2.2) ewc) by rw [hw4]; exact C8.new _ _ _ _ _ _ _ _ _ _)
  have HRW : Hid (Rep w4 x.1 (.slice twa (ln x.1 x.2.2.1) twc) x.2.2.1 ∧ Rep w4 x.1 (.slice ewa (ln x.1 x.2.2.2) ewc) x.2.2.2) := ⟨rtw.below A4, rew.below A4⟩
  have HG4 : Hid (C2 w4 w1.heap.size (.slice la ls.length lc) (.slice sa (ln (d + 1) (l : List (Pay × Tr d × Tr d))) sc)) := G3.same (A4.block _ (C2.lt' G3))
  have HW4 : Hid _ := hw4
  obtain ⟨⟨p0, p1⟩, -⟩ := G3
  clear hb3 rtw rew A4 hw4 HG2 HA HW2
  simp only [stepOf]
  go_wp2_with fail
  rw [← HW4.out]
  go_at_call 13; refine Calls.mono (KI.out w4 HB4.out) ?_
  rintro e w5 ⟨hb5, ts, es, rfl, rts, res⟩
  obtain ⟨tsa, tsc, rfl⟩ := rts.slice
  obtain ⟨esa, esc, rfl⟩ := res.slice
  clear p0 p1 HW4
  have HB45 : Hid (Below w4.heap.size w4 w5) := hb5
  have HGW5 : Hid (C8 w5 w3.heap.size (.int .i64 x.2.1.k) (.int .i64 x.2.1.v) (.int .i64 x.2.1.vk) (.int .i64 x.2.1.va) (.int .i64 x.2.1.vb) (.int .i64 x.2.1.h) (.slice twa (ln x.1 x.2.2.1) twc) (.slice ewa (ln x.1 x.2.2.2) ewc)) := HGW.out.below hb5
  obtain ⟨⟨v0, v1, v2, v3, v4, v5, v6, v7⟩, -⟩ := HGW5.out
  obtain ⟨w6, hw6⟩ : ∃ y, y = w5.alloc (.cells #[.int .i64 x.2.1.k, .int .i64 x.2.1.v, .int .i64 x.2.1.vk, .int .i64 x.2.1.va, .int .i64 x.2.1.vb, .int .i64 x.2.1.h, .slice tsa (ln x.1 x.2.2.1) tsc, .slice esa (ln x.1 x.2.2.2) esc] 32) := ⟨_, rfl⟩
  obtain ⟨wA, hwA⟩ : ∃ y, y = w6.alloc (.cells #[.int .i64 x.2.1.k, .int .i64 x.2.1.v, .int .i64 x.2.1.vk, .int .i64 x.2.1.va, .int .i64 x.2.1.vb, .int .i64 x.2.1.h, .slice tsa (ln x.1 x.2.2.1) tsc, .slice esa (ln x.1 x.2.2.2) esc] 32) := ⟨_, rfl⟩
  obtain ⟨w7, hw7⟩ : ∃ y, y = wA.alloc (.cells #[.int .i64 x.2.1.k, .int .i64 x.2.1.v, .int .i64 x.2.1.vk, .int .i64 x.2.1.va, .int .i64 x.2.1.vb, .int .i64 x.2.1.h, .slice twa (ln x.1 x.2.2.1) twc, .slice ewa (ln x.1 x.2.2.2) ewc] 32) := ⟨_, rfl⟩
  have z6 : w6.heap.size = w5.heap.size + 1 := by rw [hw6]; simp
  have zA : wA.heap.size = w5.heap.size + 1 + 1 := by rw [hwA]; simp [z6]
  have A6 : Below w5.heap.size w5 w6 := by rw [hw6]; exact (Below.refl _ _).alloc (Nat.le_refl _) _
  have AA : Below w6.heap.size w6 wA := by rw [hwA]; exact (Below.refl _ _).alloc (Nat.le_refl _) _
  have A7 : Below wA.heap.size wA w7 := by rw [hw7]; exact (Below.refl _ _).alloc (Nat.le_refl _) _
  have A67 : Below w6.heap.size w6 w7 := Below.then AA A7 AA.size
  have HGS : Hid (C8 w6 w5.heap.size (.int .i64 x.2.1.k) (.int .i64 x.2.1.v) (.int .i64 x.2.1.vk) (.int .i64 x.2.1.va) (.int .i64 x.2.1.vb) (.int .i64 x.2.1.h) (.slice tsa (ln x.1 x.2.2.1) tsc) (.slice esa (ln x.1 x.2.2.2) esc)) := (show C8 w6 w5.heap.size (.int .i64 x.2.1.k) (.int .i64 x.2.1.v) (.int .i64 x.2.1.vk) (.int .i64 x.2.1.va) (.int .i64 x.2.1.vb) (.int .i64 x.2.1.h) (.slice tsa (ln x.1 x.2.2.1) tsc) (.slice esa (ln x.1 x.2.2.2) esc) by rw [hw6]; exact C8.new _ _ _ _ _ _ _ _ _ _)
  have HRS : Hid (Rep w6 x.1 (.slice tsa (ln x.1 x.2.2.1) tsc) x.2.2.1 ∧ Rep w6 x.1 (.slice esa (ln x.1 x.2.2.2) esc) x.2.2.2) := ⟨rts.below A6, res.below A6⟩
  have HB56 : Hid (Below w5.heap.size w5 w6) := A6
  have HB16 : Hid (Below w1.heap.size w1 w6) := Below.then (Below.then HB4.out hb5 HB4.out.size) A6 (Nat.le_trans HB4.out.size hb5.size)
  have HRW6 : Hid (Rep w6 x.1 (.slice twa (ln x.1 x.2.2.1) twc) x.2.2.1 ∧ Rep w6 x.1 (.slice ewa (ln x.1 x.2.2.2) ewc) x.2.2.2) := ⟨(HRW.out.1.below hb5).below A6, (HRW.out.2.below hb5).below A6⟩
  have HGW6 : Hid (C8 w6 w3.heap.size (.int .i64 x.2.1.k) (.int .i64 x.2.1.v) (.int .i64 x.2.1.vk) (.int .i64 x.2.1.va) (.int .i64 x.2.1.vb) (.int .i64 x.2.1.h) (.slice twa (ln x.1 x.2.2.1) twc) (.slice ewa (ln x.1 x.2.2.2) ewc)) := HGW5.out.below A6
  have HG6 : Hid (C2 w6 w1.heap.size (.slice la ls.length lc) (.slice sa (ln (d + 1) (l : List (Pay × Tr d × Tr d))) sc)) := (HG4.out.same (hb5.block _ (C2.lt' HG4.out))).same (A6.block _ (Nat.lt_of_lt_of_le (C2.lt' HG4.out) hb5.size))
  have S1 : Rep wA (x.1 + 1) (.slice (some ⟨w5.heap.size + 1, 0, none⟩) 1 1) (single x) := by rw [hwA, ← z6]; exact rep_single HRS.out.1 HRS.out.2 _
  have S2 : Rep w7 (x.1 + 1) (.slice (some ⟨w5.heap.size + 1 + 1, 0, none⟩) 1 1) (single x) := by rw [hw7, ← zA]; exact rep_single (HRW6.out.1.below AA) (HRW6.out.2.below AA) _
  have K7 : Hid _ := lcSteps_same (x.1 + 1) (single x) _ _ w7 (S1.below A7) S2
  have HB67 : Hid (Below w6.heap.size w6 w7) := A67
  have HW6 : Hid _ := hw6
  have HWA : Hid _ := hwA
  have HW7 : Hid _ := hw7
  clear hw6 hwA hw7 z6 zA A6 AA A7 A67 S1 S2 rts res hb5 HGW HRW HGW5 HB4
  simp only [stepOf]
  cases ok
  · go_wp2_with fail
    rw [← HW6.out, ← HWA.out, ← HW7.out]
    go_at_call 14; refine Calls.mono K7.out ?_
    rintro e w8 ⟨rfl, hb8⟩
    have HB68 : Hid (Below w6.heap.size w6 w8) := Below.then HB67.out hb8 HB67.out.size
    clear v0 v1 v2 v3 v4 v5 v6 v7
    obtain ⟨⟨v0, v1, v2, v3, v4, v5, v6, v7⟩, -⟩ := HGW6.out.below HB68.out
    obtain ⟨⟨u0, u1, u2, u3, u4, u5, u6, u7⟩, -⟩ := HGS.out.below HB68.out
    obtain ⟨wB, hwB⟩ : ∃ y, y = w8.alloc (.cells #[.int .i64 x.2.1.k, .int .i64 x.2.1.v, .int .i64 x.2.1.vk, .int .i64 x.2.1.va, .int .i64 x.2.1.vb, .int .i64 x.2.1.h, .slice tsa (ln x.1 x.2.2.1) tsc, .slice esa (ln x.1 x.2.2.2) esc] 32) := ⟨_, rfl⟩
    obtain ⟨wC, hwC⟩ : ∃ y, y = wB.alloc (.cells #[.int .i64 x.2.1.k, .int .i64 x.2.1.v, .int .i64 x.2.1.vk, .int .i64 x.2.1.va, .int .i64 x.2.1.vb, .int .i64 x.2.1.h, .slice twa (ln x.1 x.2.2.1) twc, .slice ewa (ln x.1 x.2.2.2) ewc] 32) := ⟨_, rfl⟩
    have zB : wB.heap.size = w8.heap.size + 1 := by rw [hwB]; simp
    have AB : Below w8.heap.size w8 wB := by rw [hwB]; exact (Below.refl _ _).alloc (Nat.le_refl _) _
    have AC : Below wB.heap.size wB wC := by rw [hwC]; exact (Below.refl _ _).alloc (Nat.le_refl _) _
    have S1 : Rep wB (x.1 + 1) (.slice (some ⟨w8.heap.size, 0, none⟩) 1 1) (single x) := by rw [hwB]; exact rep_single (HRS.out.1.below HB68.out) (HRS.out.2.below HB68.out) _
    have S2 : Rep wC (x.1 + 1) (.slice (some ⟨w8.heap.size + 1, 0, none⟩) 1 1) (single x) := by rw [hwC, ← zB]; exact rep_single ((HRW6.out.1.below HB68.out).below AB) ((HRW6.out.2.below HB68.out).below AB) _
    have K9 : Hid _ := lcSteps_same (x.1 + 1) (single x) _ _ wC (S1.below AC) S2
    have HBC : Hid (Below w1.heap.size w1 wC) := Below.then HB16.out (Below.then HB68.out (Below.then AB AC AB.size) HB68.out.size) HB16.out.size
    have HWB : Hid _ := hwB
    have HWC : Hid _ := hwC
    clear hwB hwC zB AB AC S1 S2 hb8 K7
    go_wp2_with fail
    rw [← HWB.out, ← HWC.out]
    go_at_call 14; refine Calls.mono K9.out ?_
    rintro e w9 ⟨rfl, hb9⟩
    have HB9 : Hid (Below w.heap.size w w9) := Below.then HB1.out (Below.then HBC.out hb9 HBC.out.size) HB1.out.size
    clear hb9 K9
    go_wp2
    go_ret
    exact ⟨rfl, HB9.out⟩
  have hO := HOK.out
  have hO2 : progB ls (d + 1) (l : List (Pay × Tr d × Tr d)) = true ∧ vIn (cnt (d + 1) (l : List (Pay × Tr d × Tr d))) n = true := by unfold okAt at hO; simpa using hO
  have HPB : Hid (progB ls (d + 1) (l : List (Pay × Tr d × Tr d)) = true) := hO2.1
  have hnr : 0 ≤ n ∧ n < (cnt (d + 1) (l : List (Pay × Tr d × Tr d)) : Int) := by have := hO2.2; unfold vIn at this; simpa using this
  have HXF : Hid ((flat (d + 1) (l : List (Pay × Tr d × Tr d)))[n.toNat]? = some x) := (show (flat (d + 1) (l : List (Pay × Tr d × Tr d)))[n.toNat]? = some x by
    have e := HX.out
    unfold xAt at e
    rw [if_pos hO] at e
    have hlt : n.toNat < (flat (d + 1) (l : List (Pay × Tr d × Tr d))).length := by have := flat_length (d + 1) (l : List (Pay × Tr d × Tr d)); omega
    rw [List.getElem?_eq_getElem hlt] at e ⊢
    exact congrArg some e)
  have hlp : 0 < l.length := by
    rcases Nat.eq_zero_or_pos l.length with h | h
    · have hl : l = [] := List.length_eq_zero_iff.1 h
      rw [hl] at hnr
      have : cnt (d + 1) ([] : List (Pay × Tr d × Tr d)) = 0 := rfl
      omega
    · exact h
  obtain ⟨b, off, hsa, hsc⟩ : ∃ b off, sa = some ⟨b, off, none⟩ ∧ l.length ≤ sc := by
    obtain ⟨a', c', hs, hlc, -, hr⟩ := (HLR.out w6 HB16.out).2
    obtain ⟨b, off, _, _, ha, -⟩ := hr 0 hlp
    simp only [Value.slice.injEq] at hs
    exact ⟨b, off, hs.1.trans ha, by omega⟩
  subst hsa
  have HNR : Hid (0 ≤ n ∧ n < (cnt (d + 1) (l : List (Pay × Tr d × Tr d)) : Int)) := hnr
  have HLP : Hid (0 < l.length ∧ l.length ≤ sc) := ⟨hlp, hsc⟩
  clear hO hO2 hnr hlp hsc
  go_wp2_with fail
  rw [← HW6.out, ← HWA.out, ← HW7.out]
  go_at_call 14; refine Calls.mono K7.out ?_
  rintro e w8 ⟨rfl, hb8⟩
  have HB68 : Hid (Below w6.heap.size w6 w8) := Below.then HB67.out hb8 HB67.out.size
  have HB18 : Hid (Below w1.heap.size w1 w8) := Below.then HB16.out HB68.out HB16.out.size
  clear v0 v1 v2 v3 v4 v5 v6 v7
  obtain ⟨⟨u0, u1, u2, u3, u4, u5, u6, u7⟩, -⟩ := HGS.out.below HB68.out
  obtain ⟨⟨p0, p1⟩, -⟩ := HG6.out.same (HB68.out.block _ (C2.lt' HG6.out))
  have HRS8 : Hid (Rep w8 x.1 (.slice tsa (ln x.1 x.2.2.1) tsc) x.2.2.1 ∧ Rep w8 x.1 (.slice esa (ln x.1 x.2.2.2) esc) x.2.2.2) := ⟨HRS.out.1.below HB68.out, HRS.out.2.below HB68.out⟩
  have HB8 : Hid (Below w.heap.size w w8) := Below.then HB1.out HB18.out HB1.out.size
  clear hb8 K7 HW6 HWA HW7 HB67 HRS HGS HG6 HRW6 HGW6 HB56 HB45 HG4 HG3 HB3
  by_cases hn0 : n = 0
  · obtain ⟨y0, hy0⟩ : ∃ y, l[0]'HLP.out.1 = y := ⟨_, rfl⟩
    have HXE : Hid (x = ⟨d, y0⟩) := (show x = ⟨d, y0⟩ by
      have e := flat_top l 0 HLP.out.1
      have e2 := HXF.out
      rw [hn0] at e2
      have : cnt (d + 1) (l.take 0 : List (Pay × Tr d × Tr d)) = 0 := rfl
      rw [this, hy0] at e
      exact Option.some.inj (e2.symm.trans e))
    have HT1 : Hid (∀ wz, Below w8.heap.size w8 wz → Rep wz (d + 1) (.slice (some ⟨b, off, none⟩) 1 sc) ([y0] : List (Pay × Tr d × Tr d))) := (show ∀ wz, _ from fun wz hb => by
      have q := rep_take (HLR.out wz (Below.then HB18.out hb HB18.out.size)).2 1 HLP.out.1
      have e : l.take 1 = [y0] := by
        rw [List.take_succ_eq_append_getElem HLP.out.1, hy0]; rfl
      rw [e] at q; exact q)
    have h1c : (1 : Int) ≤ (sc : Int) := by have := HLP.out; omega
    have h1d : 1 ≤ sc := by have := HLP.out; omega
    clear hy0
    go_wp2_with fail
    refine wp_region_held (S := (fun wz => Below w8.heap.size w8 wz)) (by kernel_rfl) ?_
    change wpAnyH _ _ _ _ _ _ _ _ (World.drew _)
    have hHeld := (Below.refl w8.heap.size w8).drew
    refine' wpAnyH_take (i := 0) (v := (.agg #[.int .i64 x.2.1.k, .int .i64 x.2.1.v, .int .i64 x.2.1.vk, .int .i64 x.2.1.va, .int .i64 x.2.1.vb, .int .i64 x.2.1.h, .slice tsa (ln x.1 x.2.2.1) tsc, .slice esa (ln x.1 x.2.2.2) esc])) rfl (by kernel_rfl) (by kernel_rfl) (by kernel_rfl) (fun _ _ _ h => h) (Or.inl ⟨by rfl, ?hy301⟩) hHeld ?hn301
    case hy301 => (intro wz hSw; have k0 := cell_later hSw u0; have k1 := cell_later hSw u1; have k2 := cell_later hSw u2; have k3 := cell_later hSw u3; have k4 := cell_later hSw u4; have k5 := cell_later hSw u5; have k6 := cell_later hSw u6; have k7 := cell_later hSw u7; go_simp)
    try simp only [List.getElem_toArray, List.getElem_cons_zero, List.getElem_cons_succ, Act.put, List.setIfInBounds_toArray, List.set_cons_zero, List.set_cons_succ]
    refine' wpAnyH_take (i := 2) (v := _) rfl (by kernel_rfl) (by kernel_rfl) (by kernel_rfl) (fun _ _ _ h => h) (Or.inl ⟨by rfl, ?hy302⟩) hHeld ?hn302
    case hy302 => (intro wz hSw; (try dsimp only at hSw); go_simp; first | done | with_reducible rfl)
    try simp only [List.getElem_toArray, List.getElem_cons_zero, List.getElem_cons_succ, Act.put, List.setIfInBounds_toArray, List.set_cons_zero, List.set_cons_succ]
    refine' wpAnyH_take (i := 3) (v := (.slice (some ⟨b, off, none⟩) (ln (d + 1) (l : List (Pay × Tr d × Tr d))) sc)) rfl (by kernel_rfl) (by kernel_rfl) (by kernel_rfl) (fun _ _ _ h => h) (Or.inl ⟨by rfl, ?hy303⟩) hHeld ?hn303
    case hy303 => (intro wz hSw; have k := cell_later hSw p1; go_simp)
    try simp only [List.getElem_toArray, List.getElem_cons_zero, List.getElem_cons_succ, Act.put, List.setIfInBounds_toArray, List.set_cons_zero, List.set_cons_succ]
    refine' wpAnyH_take (i := 4) (v := (.slice (some ⟨b, off, none⟩) 1 sc)) rfl (by kernel_rfl) (by kernel_rfl) (by kernel_rfl) (fun _ _ _ h => h) (Or.inl ⟨by rfl, ?hy304⟩) hHeld ?hn304
    case hy304 => (intro wz hSw; go_simp; first | done | with_reducible rfl | (simp; done) | omega)
    try simp only [List.getElem_toArray, List.getElem_cons_zero, List.getElem_cons_succ, Act.put, List.setIfInBounds_toArray, List.set_cons_zero, List.set_cons_succ]
    refine wpAnyH_ready (rs := [1]) (by kernel_rfl) (by simp) ?_
    refine AllReadyH.cons rfl (fun K hK => ?_) AllReadyH.nil
    go_simp
    have S1 := (rep_single (HRS8.out.1) (HRS8.out.2) 32).below (Below.drew (Below.refl _ _))
    have hK2 : Below w8.heap.size w8 (World.drew (World.alloc w8 (.cells #[.int .i64 x.2.1.k, .int .i64 x.2.1.v, .int .i64 x.2.1.vk, .int .i64 x.2.1.va, .int .i64 x.2.1.vb, .int .i64 x.2.1.h, .slice tsa (ln x.1 x.2.2.1) tsc, .slice esa (ln x.1 x.2.2.2) esc] 32))) := ((Below.refl _ _).alloc (Nat.le_refl _) _).drew
    generalize (World.drew (World.alloc w8 (.cells #[.int .i64 x.2.1.k, .int .i64 x.2.1.v, .int .i64 x.2.1.vk, .int .i64 x.2.1.va, .int .i64 x.2.1.vb, .int .i64 x.2.1.h, .slice tsa (ln x.1 x.2.2.1) tsc, .slice esa (ln x.1 x.2.2.2) esc] 32))) = wS at *
    refine hK.out _ _ (hK2) (fun hHeld => ?_)
    clear hK K
    refine wpAnyH_ready (rs := [5]) (by kernel_rfl) (by simp) ?_
    refine AllReadyH.cons rfl (fun K hK => ?_) AllReadyH.nil
    go_simp
    refine Calls.mono (lcSteps_same (d + 1) ([y0] : List (Pay × Tr d × Tr d)) _ _ _ (single_eq HXE.out S1) (HT1.out _ hHeld)) ?_
    rintro e' wq2 ⟨rfl, hbx⟩
    have hK2 := Below.then hHeld hbx hHeld.size
    refine hK.out _ _ (hK2) (fun hHeld => ?_)
    clear hK K
    refine' wpAnyH_take (i := 6) (v := _) rfl (by kernel_rfl) (by kernel_rfl) (by kernel_rfl) (fun _ _ _ h => h) (Or.inl ⟨by rfl, ?hy305⟩) hHeld ?hn305
    case hy305 => (intro wz hSw; (try dsimp only at hSw); go_simp; first | done | with_reducible rfl)
    try simp only [List.getElem_toArray, List.getElem_cons_zero, List.getElem_cons_succ, Act.put, List.setIfInBounds_toArray, List.set_cons_zero, List.set_cons_succ]
    refine wpAnyH_done (by kernel_rfl) ?_ _
    have HBq : Hid (Below w.heap.size w _) := Below.then HB8.out hHeld HB8.out.size
    clear hHeld
    go_wp2
    go_ret
    exact ⟨rfl, HBq.out⟩
  · go_wp2_with fail
    go_loopw [4, 9] (fun jn jr wr => AtInv w8 d l n jn jr wr) (fun _ jr _ => slLen jr)
    case atStart =>
      have e0 : cnt (d + 1) (l.take 0 : List (Pay × Tr d × Tr d)) = 0 := rfl
      unfold AtInv
      refine ⟨0, b, off, sc, by omega, ?_, rfl, ?_, (HLR.out w8 HB18.out).2, Below.refl _ _⟩
      · rw [e0]; simp
      · rw [e0]; exact HNR.out.1
    case round =>
      unfold AtInv at hrel
      obtain ⟨k, rb, ro, rc, hk, rfl, rfl, hkn, hrr, hbr⟩ := hrel
      have hcd : cnt (d + 1) (l : List (Pay × Tr d × Tr d)) = cnt (d + 1) (l.take k : List (Pay × Tr d × Tr d)) + cnt (d + 1) (l.drop k : List (Pay × Tr d × Tr d)) := by
        have := cnt_app (l.take k) (l.drop k)
        rw [List.take_append_drop] at this; exact this
      have hkl : k < l.length := by
        rcases Nat.lt_or_ge k l.length with h | h
        · exact h
        · have e : l.drop k = [] := List.drop_eq_nil_of_le h
          rw [e] at hcd
          have : cnt (d + 1) ([] : List (Pay × Tr d × Tr d)) = 0 := rfl
          have := HNR.out
          omega
      obtain ⟨y, hy⟩ : ∃ y, l[k] = y := ⟨_, rfl⟩
      have hdr : l.drop k = y :: l.drop (k + 1) := by rw [← hy]; exact List.drop_eq_getElem_cons hkl
      have hcy : cnt (d + 1) (l.drop k : List (Pay × Tr d × Tr d)) = (1 + cnt d y.2.1 + cnt d y.2.2) + cnt (d + 1) (l.drop (k + 1) : List (Pay × Tr d × Tr d)) := by rw [hdr]; rfl
      have hct : cnt (d + 1) (l.take (k + 1) : List (Pay × Tr d × Tr d)) = cnt (d + 1) (l.take k : List (Pay × Tr d × Tr d)) + (1 + cnt d y.2.1 + cnt d y.2.2) := by
        have := cnt_take l k hkl
        rw [hy] at this; omega
      have hrc : 1 ≤ rc := by
        obtain ⟨a', c', hs, hlc, -, -⟩ := hrr
        simp only [Value.slice.injEq] at hs
        have : (l.drop k).length = l.length - k := List.length_drop
        omega
      have HRR : Hid (Rep w8 (d + 1) (.slice (some ⟨rb, ro, none⟩) (l.length - k) rc) (l.drop k : List (Pay × Tr d × Tr d))) := hrr
      have HT1 : Hid (∀ wz, Below w8.heap.size w8 wz → Rep wz (d + 1) (.slice (some ⟨rb, ro, none⟩) 1 rc) ([y] : List (Pay × Tr d × Tr d))) := (show ∀ wz, _ from fun wz hb => by
        have hl : l.length - k = (l.drop k).length := List.length_drop.symm
        have h2 := HRR.out
        rw [hl] at h2
        have q := rep_take (h2.below hb) 1 (by omega)
        have e : (l.drop k).take 1 = [y] := by rw [hdr]; rfl
        rw [e] at q; exact q)
      have hpy : progB ls (d + 1) ([y] : List (Pay × Tr d × Tr d)) = true := by
        have q := (progB_cut (progB_cut HPB.out k).2 1).1
        have e : (l.drop k).take 1 = [y] := by rw [hdr]; rfl
        rw [e] at q; exact q
      have hcy1 : cnt (d + 1) ([y] : List (Pay × Tr d × Tr d)) = (1 + cnt d y.2.1 + cnt d y.2.2) := by show ([1 + cnt d y.2.1 + cnt d y.2.2] : List Nat).sum = _; simp
      have HBr : Hid (Below w8.heap.size w8 wr) := hbr
      have HB1r : Hid (Below w1.heap.size w1 wr) := Below.then HB18.out hbr HB18.out.size
      have KZ : Hid (∀ wz, Below wr.heap.size wr wz → Calls Try.prog 15 #[.agg #[.slice la ls.length lc, .slice (some ⟨rb, ro, none⟩) 1 rc]] wz fun e w' => e = .returned (.int .i64 ((1 + cnt d y.2.1 + cnt d y.2.2) : Nat)) ∧ Below wz.heap.size wz w') := (show ∀ wz, _ from fun wz hb => by
        have q := progSize_any (HLR.out wz (Below.then HB1r.out hb HB1r.out.size)).1 (HT1.out wz (Below.then HBr.out hb HBr.out.size))
        rw [if_pos hpy, hcy1] at q; exact q)
      have hcn : cnt (d + 1) (l : List (Pay × Tr d × Tr d)) ≤ 8 := (progB_parts HPB.out).2.2.2
      obtain ⟨nc, hnc⟩ : ∃ nc : Int, n - (cnt (d + 1) (l.take k : List (Pay × Tr d × Tr d)) : Int) = nc := ⟨_, rfl⟩
      have hnc0 : 0 ≤ nc ∧ nc ≤ 8 := by have := HNR.out; omega
      obtain ⟨m, hm⟩ : ∃ m, l.length - k = m := ⟨_, rfl⟩
      have hm1 : 0 < m := by omega
      obtain ⟨sz, hsz⟩ : ∃ sz : Nat, (1 + cnt d y.2.1 + cnt d y.2.2) = sz := ⟨_, rfl⟩
      have hsz8 : sz ≤ 8 := by omega
      have hw64 := w64 (nc - (sz : Int)) (by omega)
      rw [hsz] at KZ
      rw [hnc, hm]
      have HALL : Hid (cnt (d + 1) (l : List (Pay × Tr d × Tr d)) = cnt (d + 1) (l.take k : List (Pay × Tr d × Tr d)) + cnt (d + 1) (l.drop k : List (Pay × Tr d × Tr d)) ∧ cnt (d + 1) (l.take (k + 1) : List (Pay × Tr d × Tr d)) = cnt (d + 1) (l.take k : List (Pay × Tr d × Tr d)) + sz ∧ n - (cnt (d + 1) (l.take k : List (Pay × Tr d × Tr d)) : Int) = nc ∧ l.length - k = m ∧ (1 + cnt d y.2.1 + cnt d y.2.2) = sz ∧ k < l.length ∧ l.drop k = y :: l.drop (k + 1)) := ⟨hcd, by omega, hnc, hm, hsz, hkl, hdr⟩
      have HY : Hid (∃ h : k < l.length, l[k] = y) := ⟨hkl, hy⟩
      have kp0 := cell_later hbr p0
      have r1c : (1 : Int) ≤ (rc : Int) := by omega
      clear hcd hcy hct hcy1 hpy hdr hy hkn hrr hbr hnc hm hsz hcn hkl hk
      go_wp2_with fail
      refine wp_region_held (S := (fun wz => Below wr.heap.size wr wz)) (by kernel_rfl) ?_
      change wpAnyH _ _ _ _ _ _ _ _ (World.drew _)
      have hHeld := (Below.refl wr.heap.size wr).drew
      refine' wpAnyH_take (i := 0) (v := _) rfl (by kernel_rfl) (by kernel_rfl) (by kernel_rfl) (fun _ _ _ h => h) (Or.inl ⟨by rfl, ?hy306⟩) hHeld ?hn306
      case hy306 => (intro wz hSw; (try dsimp only at hSw); go_simp; first | done | with_reducible rfl)
      try simp only [List.getElem_toArray, List.getElem_cons_zero, List.getElem_cons_succ, Act.put, List.setIfInBounds_toArray, List.set_cons_zero, List.set_cons_succ]
      refine' wpAnyH_take (i := 1) (v := (.slice la ls.length lc)) rfl (by kernel_rfl) (by kernel_rfl) (by kernel_rfl) (fun _ _ _ h => h) (Or.inl ⟨by rfl, ?hy307⟩) hHeld ?hn307
      case hy307 => (intro wz hSw; have k := cell_later hSw kp0; go_simp)
      try simp only [List.getElem_toArray, List.getElem_cons_zero, List.getElem_cons_succ, Act.put, List.setIfInBounds_toArray, List.set_cons_zero, List.set_cons_succ]
      refine' wpAnyH_take (i := 2) (v := _) rfl (by kernel_rfl) (by kernel_rfl) (by kernel_rfl) (fun _ _ _ h => h) (Or.inl ⟨by rfl, ?hy308⟩) hHeld ?hn308
      case hy308 => (intro wz hSw; (try dsimp only at hSw); go_simp; first | done | with_reducible rfl)
      try simp only [List.getElem_toArray, List.getElem_cons_zero, List.getElem_cons_succ, Act.put, List.setIfInBounds_toArray, List.set_cons_zero, List.set_cons_succ]
      refine' wpAnyH_take (i := 3) (v := (.slice (some ⟨rb, ro, none⟩) 1 rc)) rfl (by kernel_rfl) (by kernel_rfl) (by kernel_rfl) (fun _ _ _ h => h) (Or.inl ⟨by rfl, ?hy309⟩) hHeld ?hn309
      case hy309 => (intro wz hSw; go_simp; first | done | with_reducible rfl | (simp; done) | omega)
      try simp only [List.getElem_toArray, List.getElem_cons_zero, List.getElem_cons_succ, Act.put, List.setIfInBounds_toArray, List.set_cons_zero, List.set_cons_succ]
      refine' wpAnyH_take (i := 4) (v := _) rfl (by kernel_rfl) (by kernel_rfl) (by kernel_rfl) (fun _ _ _ h => h) (Or.inl ⟨by rfl, ?hy310⟩) hHeld ?hn310
      case hy310 => (intro wz hSw; (try dsimp only at hSw); go_simp; first | done | with_reducible rfl)
      try simp only [List.getElem_toArray, List.getElem_cons_zero, List.getElem_cons_succ, Act.put, List.setIfInBounds_toArray, List.set_cons_zero, List.set_cons_succ]
      refine wpAnyH_ready (rs := [5]) (by kernel_rfl) (by simp) ?_
      refine AllReadyH.cons rfl (fun K hK => ?_) AllReadyH.nil
      go_simp
      refine Calls.mono (KZ.out _ hHeld) ?_
      rintro e' wq ⟨rfl, hbx⟩
      have hK2 := Below.then hHeld hbx hHeld.size
      refine hK.out _ _ (hK2) (fun hHeld => ?_)
      clear hK K
      refine' wpAnyH_take (i := 6) (v := _) rfl (by kernel_rfl) (by kernel_rfl) (by kernel_rfl) (fun _ _ _ h => h) (Or.inl ⟨by rfl, ?hy311⟩) hHeld ?hn311
      case hy311 => (intro wz hSw; (try dsimp only at hSw); go_simp; first | done | with_reducible rfl)
      try simp only [List.getElem_toArray, List.getElem_cons_zero, List.getElem_cons_succ, Act.put, List.setIfInBounds_toArray, List.set_cons_zero, List.set_cons_succ]
      refine wpAnyH_done (by kernel_rfl) ?_ _
      have HBq : Hid (Below wr.heap.size wr wq) := hHeld
      clear hHeld hK2 hbx kp0
      by_cases hlt : nc < (sz : Int)
      · have HBwq : Hid (Below w8.heap.size w8 wq) := Below.then HBr.out HBq.out HBr.out.size
        replace u0 := cell_later HBwq.out u0
        replace u1 := cell_later HBwq.out u1
        replace u2 := cell_later HBwq.out u2
        replace u3 := cell_later HBwq.out u3
        replace u4 := cell_later HBwq.out u4
        replace u5 := cell_later HBwq.out u5
        replace u6 := cell_later HBwq.out u6
        replace u7 := cell_later HBwq.out u7
        have HRSq : Hid (Rep wq x.1 (.slice tsa (ln x.1 x.2.2.1) tsc) x.2.2.1 ∧ Rep wq x.1 (.slice esa (ln x.1 x.2.2.2) esc) x.2.2.2) := ⟨HRS8.out.1.below HBwq.out, HRS8.out.2.below HBwq.out⟩
        by_cases hz : nc = 0
        · have HXE : Hid (x = ⟨d, y⟩) := (show x = ⟨d, y⟩ by
            obtain ⟨hkl, hy⟩ := HY.out
            have e := flat_top l k hkl
            have e2 := HXF.out
            have : n.toNat = cnt (d + 1) (l.take k : List (Pay × Tr d × Tr d)) := by have := HALL.out.2.2.1; omega
            rw [this] at e2
            rw [hy] at e
            exact Option.some.inj (e2.symm.trans e))
          have HT1q : Hid (∀ wz, Below wq.heap.size wq wz → Rep wz (d + 1) (.slice (some ⟨rb, ro, none⟩) 1 rc) ([y] : List (Pay × Tr d × Tr d))) := (show ∀ wz, _ from fun wz hb => HT1.out wz (Below.then HBwq.out hb HBwq.out.size))
          go_wp2_with fail
          refine wp_region_held (S := (fun wz => Below wq.heap.size wq wz)) (by kernel_rfl) ?_
          change wpAnyH _ _ _ _ _ _ _ _ (World.drew _)
          have hHeld := (Below.refl wq.heap.size wq).drew
          refine' wpAnyH_take (i := 0) (v := (.agg #[.int .i64 x.2.1.k, .int .i64 x.2.1.v, .int .i64 x.2.1.vk, .int .i64 x.2.1.va, .int .i64 x.2.1.vb, .int .i64 x.2.1.h, .slice tsa (ln x.1 x.2.2.1) tsc, .slice esa (ln x.1 x.2.2.2) esc])) rfl (by kernel_rfl) (by kernel_rfl) (by kernel_rfl) (fun _ _ _ h => h) (Or.inl ⟨by rfl, ?hy312⟩) hHeld ?hn312
          case hy312 => (intro wz hSw; have k0 := cell_later hSw u0; have k1 := cell_later hSw u1; have k2 := cell_later hSw u2; have k3 := cell_later hSw u3; have k4 := cell_later hSw u4; have k5 := cell_later hSw u5; have k6 := cell_later hSw u6; have k7 := cell_later hSw u7; go_simp)
          try simp only [List.getElem_toArray, List.getElem_cons_zero, List.getElem_cons_succ, Act.put, List.setIfInBounds_toArray, List.set_cons_zero, List.set_cons_succ]
          refine' wpAnyH_take (i := 2) (v := _) rfl (by kernel_rfl) (by kernel_rfl) (by kernel_rfl) (fun _ _ _ h => h) (Or.inl ⟨by rfl, ?hy313⟩) hHeld ?hn313
          case hy313 => (intro wz hSw; (try dsimp only at hSw); go_simp; first | done | with_reducible rfl)
          try simp only [List.getElem_toArray, List.getElem_cons_zero, List.getElem_cons_succ, Act.put, List.setIfInBounds_toArray, List.set_cons_zero, List.set_cons_succ]
          refine' wpAnyH_take (i := 3) (v := (.slice (some ⟨rb, ro, none⟩) 1 rc)) rfl (by kernel_rfl) (by kernel_rfl) (by kernel_rfl) (fun _ _ _ h => h) (Or.inl ⟨by rfl, ?hy314⟩) hHeld ?hn314
          case hy314 => (intro wz hSw; go_simp; first | done | with_reducible rfl | (simp; done) | omega)
          try simp only [List.getElem_toArray, List.getElem_cons_zero, List.getElem_cons_succ, Act.put, List.setIfInBounds_toArray, List.set_cons_zero, List.set_cons_succ]
          refine wpAnyH_ready (rs := [1]) (by kernel_rfl) (by simp) ?_
          refine AllReadyH.cons rfl (fun K hK => ?_) AllReadyH.nil
          go_simp
          have S1 := (rep_single (HRSq.out.1) (HRSq.out.2) 32).below (Below.drew (Below.refl _ _))
          have hK2 : Below wq.heap.size wq (World.drew (World.alloc wq (.cells #[.int .i64 x.2.1.k, .int .i64 x.2.1.v, .int .i64 x.2.1.vk, .int .i64 x.2.1.va, .int .i64 x.2.1.vb, .int .i64 x.2.1.h, .slice tsa (ln x.1 x.2.2.1) tsc, .slice esa (ln x.1 x.2.2.2) esc] 32))) := ((Below.refl _ _).alloc (Nat.le_refl _) _).drew
          generalize (World.drew (World.alloc wq (.cells #[.int .i64 x.2.1.k, .int .i64 x.2.1.v, .int .i64 x.2.1.vk, .int .i64 x.2.1.va, .int .i64 x.2.1.vb, .int .i64 x.2.1.h, .slice tsa (ln x.1 x.2.2.1) tsc, .slice esa (ln x.1 x.2.2.2) esc] 32))) = wS at *
          refine hK.out _ _ (hK2) (fun hHeld => ?_)
          clear hK K
          refine wpAnyH_ready (rs := [4]) (by kernel_rfl) (by simp) ?_
          refine AllReadyH.cons rfl (fun K hK => ?_) AllReadyH.nil
          go_simp
          refine Calls.mono (lcSteps_same (d + 1) ([y] : List (Pay × Tr d × Tr d)) _ _ _ (single_eq HXE.out S1) (HT1q.out _ hHeld)) ?_
          rintro e' wq2 ⟨rfl, hbx⟩
          have hK2 := Below.then hHeld hbx hHeld.size
          refine hK.out _ _ (hK2) (fun hHeld => ?_)
          clear hK K
          refine' wpAnyH_take (i := 5) (v := _) rfl (by kernel_rfl) (by kernel_rfl) (by kernel_rfl) (fun _ _ _ h => h) (Or.inl ⟨by rfl, ?hy315⟩) hHeld ?hn315
          case hy315 => (intro wz hSw; (try dsimp only at hSw); go_simp; first | done | with_reducible rfl)
          try simp only [List.getElem_toArray, List.getElem_cons_zero, List.getElem_cons_succ, Act.put, List.setIfInBounds_toArray, List.set_cons_zero, List.set_cons_succ]
          refine wpAnyH_done (by kernel_rfl) ?_ _
          have HBe : Hid (Below w.heap.size w _) := Below.then HB8.out (Below.then HBwq.out hHeld HBwq.out.size) HB8.out.size
          clear hHeld
          go_wp2
          go_ret
          exact ⟨rfl, HBe.out⟩
        · cases d with
          | zero =>
            exfalso
            have h1 := HALL.out.2.2.2.2.1
            have h2 : cnt 0 y.2.1 = 0 := rfl
            have h3 : cnt 0 y.2.2 = 0 := rfl
            omega
          | succ d =>
            obtain ⟨A, hA⟩ : ∃ A : List (Pay × Tr d × Tr d), y.2.1 = A := ⟨_, rfl⟩
            obtain ⟨B, hB⟩ : ∃ B : List (Pay × Tr d × Tr d), y.2.2 = B := ⟨_, rfl⟩
            have hcA : cnt (d + 1) y.2.1 = cnt (d + 1) (A : List (Pay × Tr d × Tr d)) := by rw [hA]
            have hcB : cnt (d + 1) y.2.2 = cnt (d + 1) (B : List (Pay × Tr d × Tr d)) := by rw [hB]
            obtain ⟨vt, ve, hm6, hm7, rA, rB⟩ : ∃ vt ve, w8.cell? ⟨rb, ro + 6, none⟩ = some vt ∧ w8.cell? ⟨rb, ro + 7, none⟩ = some ve ∧ Rep w8 (d + 1) vt (A : List (Pay × Tr d × Tr d)) ∧ Rep w8 (d + 1) ve (B : List (Pay × Tr d × Tr d)) := by
              obtain ⟨a', c', hs, -, -, hr⟩ := HT1.out w8 (Below.refl _ _)
              obtain ⟨b', off', vt, ve, ha, ⟨-, -, -, -, -, -, q6, q7⟩, r1, r2⟩ := hr 0 (by simp)
              simp only [Value.slice.injEq] at hs
              have hab := hs.1.trans ha
              simp only [Option.some.injEq, Addr.mk.injEq] at hab
              obtain ⟨rfl, rfl, -⟩ := hab
              simp only [Nat.zero_mul, Nat.add_zero] at q6 q7
              refine ⟨vt, ve, q6, q7, ?_, ?_⟩
              · have : Rep w8 (d + 1) vt y.2.1 := r1
                rw [hA] at this; exact this
              · have : Rep w8 (d + 1) ve y.2.2 := r2
                rw [hB] at this; exact this
            obtain ⟨ta, tc, rfl⟩ := rA.slice
            obtain ⟨ea, ec, rfl⟩ := rB.slice
            have m6 := cell_later HBwq.out hm6
            have m7 := cell_later HBwq.out hm7
            have RA : Hid (Rep wq (d + 1) (.slice ta (ln (d + 1) (A : List (Pay × Tr d × Tr d))) tc) (A : List (Pay × Tr d × Tr d)) ∧ Rep wq (d + 1) (.slice ea (ln (d + 1) (B : List (Pay × Tr d × Tr d))) ec) (B : List (Pay × Tr d × Tr d))) := ⟨rA.below HBwq.out, rB.below HBwq.out⟩
            have HCAB : Hid (1 + cnt (d + 1) (A : List (Pay × Tr d × Tr d)) + cnt (d + 1) (B : List (Pay × Tr d × Tr d)) = sz) := (show 1 + cnt (d + 1) (A : List (Pay × Tr d × Tr d)) + cnt (d + 1) (B : List (Pay × Tr d × Tr d)) = sz by have := HALL.out.2.2.2.2.1; omega)
            have HAB : Hid (A.length ≤ 8 ∧ B.length ≤ 8) := (show A.length ≤ 8 ∧ B.length ≤ 8 by
              have h1 : A.length ≤ cnt (d + 1) (A : List (Pay × Tr d × Tr d)) := ln_le_cnt (d + 1) (A : List (Pay × Tr d × Tr d))
              have h2 : B.length ≤ cnt (d + 1) (B : List (Pay × Tr d × Tr d)) := ln_le_cnt (d + 1) (B : List (Pay × Tr d × Tr d))
              have := HCAB.out
              omega)
            have HPI : Hid (okAt ls (d + 1) (A ++ B : List (Pay × Tr d × Tr d)) (nc - 1) = true ∧ xAt ls (d + 1) (A ++ B : List (Pay × Tr d × Tr d)) (nc - 1) = x) := (show okAt ls (d + 1) (A ++ B : List (Pay × Tr d × Tr d)) (nc - 1) = true ∧ xAt ls (d + 1) (A ++ B : List (Pay × Tr d × Tr d)) (nc - 1) = x by
              obtain ⟨hkl, hy⟩ := HY.out
              have hp := progB_in HPB.out k hkl A B (by rw [hy]; exact hA) (by rw [hy]; exact hB)
              have hc : cnt (d + 1) (A ++ B : List (Pay × Tr d × Tr d)) = cnt (d + 1) (A : List (Pay × Tr d × Tr d)) + cnt (d + 1) (B : List (Pay × Tr d × Tr d)) := cnt_app A B
              have ho : okAt ls (d + 1) (A ++ B : List (Pay × Tr d × Tr d)) (nc - 1) = true := by
                unfold okAt
                rw [hp, hc]
                unfold vIn
                have := HCAB.out
                simp; omega
              refine ⟨ho, ?_⟩
              obtain ⟨mm, hmm⟩ : ∃ mm : Nat, nc - 1 = (mm : Int) := ⟨(nc - 1).toNat, by omega⟩
              have hml : mm < cnt (d + 1) l[k].2.1 + cnt (d + 1) l[k].2.2 := by rw [hy, hcA, hcB]; have := HCAB.out; omega
              have e1 := flat_in l k mm hkl hml
              have hA' : flat (d + 1) l[k].2.1 = flat (d + 1) (A : List (Pay × Tr d × Tr d)) := by rw [hy, hA]
              have hB' : flat (d + 1) l[k].2.2 = flat (d + 1) (B : List (Pay × Tr d × Tr d)) := by rw [hy, hB]
              rw [hA', hB', ← flat_appd A B] at e1
              have e2 := HXF.out
              have hn : n.toNat = cnt (d + 1 + 1) (l.take k : List (Pay × Tr (d + 1) × Tr (d + 1))) + (1 + mm) := by have := HALL.out.2.2.1; omega
              rw [hn, e1] at e2
              unfold xAt
              rw [if_pos ho, hmm, Int.toNat_natCast, e2]
              rfl)
            obtain ⟨ji, j0, j1, j2, j3⟩ := info_parts infoStep
            have hwn := w64 (nc - 1) (by omega)
            clear hA hB hcA hcB hm6 hm7 rA rB
            go_wp2_with fail
            refine wp_region_held (S := (fun wz => Below wq.heap.size wq wz)) (by kernel_rfl) ?_
            change wpAnyH _ _ _ _ _ _ _ _ (World.drew _)
            have hHeld := (Below.refl wq.heap.size wq).drew
            refine' wpAnyH_take (i := 1) (v := _) rfl (by kernel_rfl) (by kernel_rfl) (by kernel_rfl) (fun _ _ _ h => h) (Or.inl ⟨by rfl, ?hy316⟩) hHeld ?hn316
            case hy316 => (intro wz hSw; (try dsimp only at hSw); go_simp; first | done | with_reducible rfl)
            try simp only [List.getElem_toArray, List.getElem_cons_zero, List.getElem_cons_succ, Act.put, List.setIfInBounds_toArray, List.set_cons_zero, List.set_cons_succ]
            refine' wpAnyH_take (i := 2) (v := _) rfl (by kernel_rfl) (by kernel_rfl) (by kernel_rfl) (fun _ _ _ h => h) (Or.inl ⟨by rfl, ?hy317⟩) hHeld ?hn317
            case hy317 => (intro wz hSw; go_simp; first | done | with_reducible rfl | (simp; done) | omega)
            try simp only [List.getElem_toArray, List.getElem_cons_zero, List.getElem_cons_succ, Act.put, List.setIfInBounds_toArray, List.set_cons_zero, List.set_cons_succ]
            refine' wpAnyH_take (i := 3) (v := _) rfl (by kernel_rfl) (by kernel_rfl) (by kernel_rfl) (fun _ _ _ h => h) (Or.inl ⟨by rfl, ?hy318⟩) hHeld ?hn318
            case hy318 => (intro wz hSw; (try dsimp only at hSw); go_simp; first | done | with_reducible rfl)
            try simp only [List.getElem_toArray, List.getElem_cons_zero, List.getElem_cons_succ, Act.put, List.setIfInBounds_toArray, List.set_cons_zero, List.set_cons_succ]
            refine' wpAnyH_take (i := 4) (v := (.slice ta (ln (d + 1) (A : List (Pay × Tr d × Tr d))) tc)) rfl (by kernel_rfl) (by kernel_rfl) (by kernel_rfl) (fun _ _ _ h => h) (Or.inl ⟨by rfl, ?hy319⟩) hHeld ?hn319
            case hy319 => (intro wz hSw; have k := cell_later hSw m6; go_simp)
            try simp only [List.getElem_toArray, List.getElem_cons_zero, List.getElem_cons_succ, Act.put, List.setIfInBounds_toArray, List.set_cons_zero, List.set_cons_succ]
            refine' wpAnyH_take (i := 6) (v := _) rfl (by kernel_rfl) (by kernel_rfl) (by kernel_rfl) (fun _ _ _ h => h) (Or.inl ⟨by rfl, ?hy320⟩) hHeld ?hn320
            case hy320 => (intro wz hSw; (try dsimp only at hSw); go_simp; first | done | with_reducible rfl)
            try simp only [List.getElem_toArray, List.getElem_cons_zero, List.getElem_cons_succ, Act.put, List.setIfInBounds_toArray, List.set_cons_zero, List.set_cons_succ]
            refine' wpAnyH_take (i := 7) (v := _) rfl (by kernel_rfl) (by kernel_rfl) (by kernel_rfl) (fun _ _ _ h => h) (Or.inl ⟨by rfl, ?hy321⟩) hHeld ?hn321
            case hy321 => (intro wz hSw; go_simp; first | done | with_reducible rfl | (simp; done) | omega)
            try simp only [List.getElem_toArray, List.getElem_cons_zero, List.getElem_cons_succ, Act.put, List.setIfInBounds_toArray, List.set_cons_zero, List.set_cons_succ]
            refine' wpAnyH_take (i := 8) (v := _) rfl (by kernel_rfl) (by kernel_rfl) (by kernel_rfl) (fun _ _ _ h => h) (Or.inl ⟨by rfl, ?hy322⟩) hHeld ?hn322
            case hy322 => (intro wz hSw; (try dsimp only at hSw); go_simp; first | done | with_reducible rfl)
            try simp only [List.getElem_toArray, List.getElem_cons_zero, List.getElem_cons_succ, Act.put, List.setIfInBounds_toArray, List.set_cons_zero, List.set_cons_succ]
            refine' wpAnyH_take (i := 9) (v := (.slice ea (ln (d + 1) (B : List (Pay × Tr d × Tr d))) ec)) rfl (by kernel_rfl) (by kernel_rfl) (by kernel_rfl) (fun _ _ _ h => h) (Or.inl ⟨by rfl, ?hy323⟩) hHeld ?hn323
            case hy323 => (intro wz hSw; have k := cell_later hSw m7; go_simp)
            try simp only [List.getElem_toArray, List.getElem_cons_zero, List.getElem_cons_succ, Act.put, List.setIfInBounds_toArray, List.set_cons_zero, List.set_cons_succ]
            refine wpAnyH_ready (rs := [0]) (by kernel_rfl) (by simp) ?_
            refine AllReadyH.cons rfl (fun K hK => ?_) AllReadyH.nil
            go_simp
            have own0 : (World.drew (World.alloc wq (.cells #[] 32))).ownsRow wq.heap.size 32 8 (.slice (some ⟨wq.heap.size, 0, none⟩) 0 0) 0 [] := rowp_frame (made0 wq 32 8) (fun k hk => rfl)
            have hK2 : Below wq.heap.size wq (World.drew (World.alloc wq (.cells #[] 32))) := ((Below.refl _ _).alloc (Nat.le_refl _) _).drew
            generalize (World.drew (World.alloc wq (.cells #[] 32))) = wS at own0 hK2 ⊢
            refine hK.out _ _ (hK2) (fun hHeld => ?_)
            clear hK K
            refine wpAnyH_ready (rs := [5]) (by kernel_rfl) (by simp) ?_
            refine AllReadyH.cons rfl (fun K hK => ?_) AllReadyH.nil
            skip
            refine wp_append_steps _ _ _ 24 rfl wq.heap.size 32 ji _ 96 Try.underlying24 j0 j1 j2 j3 rfl (.slice (some ⟨wq.heap.size, 0, none⟩) 0 0) (0) ([]) rfl own0 wq (fun _ _ h => cell_later hHeld h) d ta tc A rfl RA.out.1 (by have := HAB.out; unfold maxLen; omega) (by have := HAB.out; omega) hHeld.size ?_
            intro q5 wq5 newsq5 ownq5 flq5 growq5 atq5
            have hK2 : Below wq.heap.size wq wq5 := hHeld.grown growq5 hHeld.size (fun k hk => (World.ownsRow.lt own0 k hk).1)
            obtain ⟨q5a, q5n, q5c, hq5⟩ : ∃ a n c, q5 = .slice a n c := by obtain ⟨a', c', h'⟩ := row_slice ownq5; exact ⟨_, _, _, h'⟩
            subst hq5
            refine hK.out _ _ (hK2) (fun hHeld => ?_)
            clear hK K
            refine wpAnyH_ready (rs := [10]) (by kernel_rfl) (by simp) ?_
            refine AllReadyH.cons rfl (fun K hK => ?_) AllReadyH.nil
            skip
            refine wp_append_steps _ _ _ 24 rfl wq.heap.size 32 ji _ 96 Try.underlying24 j0 j1 j2 j3 rfl (.slice q5a q5n q5c) (0 + A.length) ([] ++ newsq5) rfl ownq5 wq (fun _ _ h => cell_later hHeld h) d ea ec B rfl RA.out.2 (by have := HAB.out; unfold maxLen; omega) (by have := HAB.out; omega) hHeld.size ?_
            intro q6 wq6 newsq6 ownq6 flq6 growq6 atq6
            have hK2 : Below wq.heap.size wq wq6 := hHeld.grown growq6 hHeld.size (fun k hk => (World.ownsRow.lt ownq5 k hk).1)
            obtain ⟨q6a, q6n, q6c, hq6⟩ : ∃ a n c, q6 = .slice a n c := by obtain ⟨a', c', h'⟩ := row_slice ownq6; exact ⟨_, _, _, h'⟩
            subst hq6
            refine hK.out _ _ (hK2) (fun hHeld => ?_)
            clear hK K
            refine' wpAnyH_take (i := 11) (v := _) rfl (by kernel_rfl) (by kernel_rfl) (by kernel_rfl) (fun _ _ _ h => h) (Or.inl ⟨by rfl, ?hy324⟩) hHeld ?hn324
            case hy324 => (intro wz hSw; (try dsimp only at hSw); go_simp; first | done | with_reducible rfl)
            try simp only [List.getElem_toArray, List.getElem_cons_zero, List.getElem_cons_succ, Act.put, List.setIfInBounds_toArray, List.set_cons_zero, List.set_cons_succ]
            refine wpAnyH_done (by kernel_rfl) ?_ _
            have RIN : Rep wq6 (d + 1) (.slice q6a q6n q6c) (A ++ B : List (Pay × Tr d × Tr d)) := by
              have hf := FlatR.app flq5 flq6
              rw [← List.map_append] at hf
              refine rep_flat (B := wq.heap.size) (e := 32) ?_ hf (fun _ _ h => cell_later hHeld h)
              rw [List.length_append]
              have e : [] ++ newsq5 ++ newsq6 = newsq5 ++ newsq6 := rfl
              rw [e, Nat.zero_add] at ownq6
              exact ownq6
            have HB1w : Hid (Below w1.heap.size w1 wq6) := Below.then HB18.out (Below.then HBwq.out hHeld HBwq.out.size) HB18.out.size
            have HBqw : Hid (Below wq.heap.size wq wq6) := hHeld
            have KP : Hid _ := Calls.mono (progAt_any (nc - 1) (HLR.out wq6 HB1w.out).1 RIN) (fun e w' h => at_one h)
            rw [HPI.out.1, HPI.out.2] at KP
            obtain ⟨kp0, -⟩ : wq6.cell? ⟨w1.heap.size, 0, none⟩ = some (.slice la ls.length lc) ∧ True := ⟨cell_later HBqw.out (cell_later HBwq.out p0), trivial⟩
            clear hHeld hK2 own0 ownq5 ownq6 flq5 flq6 growq5 growq6 atq5 atq6 RIN m6 m7
            go_wp2_with fail
            go_at_call 13; refine Calls.mono KP.out ?_
            rintro e wE ⟨hbE, tx, ex, rfl, rtx, rex⟩
            obtain ⟨txa, txc, rfl⟩ := rtx.slice
            obtain ⟨exa, exc, rfl⟩ := rex.slice
            have HBqE : Hid (Below wq.heap.size wq wE) := Below.then HBqw.out hbE HBqw.out.size
            replace u0 := cell_later HBqE.out u0
            replace u1 := cell_later HBqE.out u1
            replace u2 := cell_later HBqE.out u2
            replace u3 := cell_later HBqE.out u3
            replace u4 := cell_later HBqE.out u4
            replace u5 := cell_later HBqE.out u5
            replace u6 := cell_later HBqE.out u6
            replace u7 := cell_later HBqE.out u7
            obtain ⟨wF, hwF⟩ : ∃ y, y = wE.alloc (.cells #[.int .i64 x.2.1.k, .int .i64 x.2.1.v, .int .i64 x.2.1.vk, .int .i64 x.2.1.va, .int .i64 x.2.1.vb, .int .i64 x.2.1.h, .slice txa (ln x.1 x.2.2.1) txc, .slice exa (ln x.1 x.2.2.2) exc] 32) := ⟨_, rfl⟩
            obtain ⟨wG, hwG⟩ : ∃ y, y = wF.alloc (.cells #[.int .i64 x.2.1.k, .int .i64 x.2.1.v, .int .i64 x.2.1.vk, .int .i64 x.2.1.va, .int .i64 x.2.1.vb, .int .i64 x.2.1.h, .slice txa (ln x.1 x.2.2.1) txc, .slice exa (ln x.1 x.2.2.2) exc] 32) := ⟨_, rfl⟩
            obtain ⟨wH, hwH⟩ : ∃ y, y = wG.alloc (.cells #[.int .i64 x.2.1.k, .int .i64 x.2.1.v, .int .i64 x.2.1.vk, .int .i64 x.2.1.va, .int .i64 x.2.1.vb, .int .i64 x.2.1.h, .slice tsa (ln x.1 x.2.2.1) tsc, .slice esa (ln x.1 x.2.2.2) esc] 32) := ⟨_, rfl⟩
            have zF : wF.heap.size = wE.heap.size + 1 := by rw [hwF]; simp
            have zG : wG.heap.size = wE.heap.size + 1 + 1 := by rw [hwG]; simp [zF]
            have AF : Below wE.heap.size wE wF := by rw [hwF]; exact (Below.refl _ _).alloc (Nat.le_refl _) _
            have AG : Below wF.heap.size wF wG := by rw [hwG]; exact (Below.refl _ _).alloc (Nat.le_refl _) _
            have AH : Below wG.heap.size wG wH := by rw [hwH]; exact (Below.refl _ _).alloc (Nat.le_refl _) _
            have BqG : Below wq.heap.size wq wG := Below.then HBqE.out (Below.then AF AG AF.size) HBqE.out.size
            have S1 : Rep wG (x.1 + 1) (.slice (some ⟨wE.heap.size + 1, 0, none⟩) 1 1) (single x) := by rw [hwG, ← zF]; exact rep_single (rtx.below AF) (rex.below AF) _
            have S2 : Rep wH (x.1 + 1) (.slice (some ⟨wE.heap.size + 1 + 1, 0, none⟩) 1 1) (single x) := by rw [hwH, ← zG]; exact rep_single (HRSq.out.1.below BqG) (HRSq.out.2.below BqG) _
            have KL : Hid _ := lcSteps_same (x.1 + 1) (single x) _ _ wH (S1.below AH) S2
            have HBH : Hid (Below w.heap.size w wH) := Below.then HB8.out (Below.then HBwq.out (Below.then BqG AH BqG.size) HBwq.out.size) HB8.out.size
            have HWF : Hid _ := hwF
            have HWG : Hid _ := hwG
            have HWH : Hid _ := hwH
            clear hwF hwG hwH zF zG AF AG AH BqG S1 S2 rtx rex hbE KP kp0
            simp only [stepOf]
            go_wp2_with fail
            rw [← HWF.out, ← HWG.out, ← HWH.out]
            go_at_call 14; refine Calls.mono KL.out ?_
            rintro e wI ⟨rfl, hbI⟩
            have HBI : Hid (Below w.heap.size w wI) := Below.then HBH.out hbI HBH.out.size
            clear hbI KL
            go_wp2
            go_ret
            exact ⟨rfl, HBI.out⟩
      · have HWQ : Hid (Below w8.heap.size w8 wq) := Below.then HBr.out HBq.out HBr.out.size
        have HNEW : Hid (∀ ro', (ro' = if rc = 1 then ro else ro + 8) → Rep w8 (d + 1) (.slice (some ⟨rb, ro', none⟩) (l.length - (k + 1)) (rc - 1)) (l.drop (k + 1) : List (Pay × Tr d × Tr d))) := (show ∀ ro', (ro' = if rc = 1 then ro else ro + 8) → Rep w8 (d + 1) (.slice (some ⟨rb, ro', none⟩) (l.length - (k + 1)) (rc - 1)) (l.drop (k + 1) : List (Pay × Tr d × Tr d)) by
          intro ro' hro
          have hl : l.length - k = (l.drop k).length := List.length_drop.symm
          have h2 := HRR.out
          rw [hl] at h2
          have hl1 : 1 ≤ (l.drop k).length := by have := HALL.out.2.2.2.1; omega
          have e : (l.drop k).drop 1 = l.drop (k + 1) := by rw [List.drop_drop]
          have e3 : (l.drop k).length - 1 = l.length - (k + 1) := by omega
          by_cases hrc1 : rc = 1
          · rw [if_pos hrc1] at hro
            have hz2 : l.drop (k + 1) = [] := List.drop_eq_nil_of_le (by
              obtain ⟨a', c', hs, hlc, -, -⟩ := h2
              simp only [Value.slice.injEq] at hs
              omega)
            have hz3 : l.length - (k + 1) = 0 := by have : (l.drop (k + 1)).length = 0 := by rw [hz2]; rfl
                                                    rwa [List.length_drop] at this
            rw [hz2, hz3, hrc1, hro]
            exact ⟨_, _, rfl, by simp, by unfold maxLen; omega, fun i hi => by simp at hi⟩
          · rw [if_neg hrc1] at hro
            have q := rep_drop h2 1 hl1
            rw [e, e3] at q
            rw [hro]; exact q)
        have hkk : k + 1 ≤ l.length := by have := HALL.out.2.2.2.2.2.1; omega
        by_cases hrc1 : rc = 1
        · have q := HNEW.out ro (by rw [if_pos hrc1])
          have HQ : Hid _ := q
          clear q
          subst hrc1
          go_wp2
          refine ⟨by unfold AtInv; exact ⟨k + 1, rb, ro, 0, hkk, by have := HALL.out; rw [this.2.1]; congr 1; omega, by have := HALL.out; congr 1; omega, by have := HALL.out; omega, HQ.out, HWQ.out⟩, ?_⟩
          first | (simp [slLen]; omega) | omega
        · have q := HNEW.out (ro + 8) (by rw [if_neg hrc1])
          have HQ : Hid _ := q
          clear q
          go_wp2
          refine ⟨by unfold AtInv; exact ⟨k + 1, rb, ro + 8, rc - 1, hkk, by have := HALL.out; rw [this.2.1]; congr 1; omega, by have := HALL.out; congr 1; omega, by have := HALL.out; omega, HQ.out, HWQ.out⟩, ?_⟩
          first | (simp [slLen]; omega) | omega

end Go.Proofs.Ytepacahfpbedoaa

/- Steps looked at, one behind the other. -/
import Derived.Test.YthcgdhlemieboaaGreatDoorSnTlk
namespace Go.Proofs.YthcgdhlemieboaaGreatDoor
open Go.RowKit
set_option linter.unusedSimpArgs false
set_option linter.unusedVariables false
attribute [local go_sem] World.cell?_alloc_some

set_option maxHeartbeats 8000000 in
set_option maxRecDepth 20000 in
theorem look_any {W : World} {B D : Nat} {s1 : Addr} {ls : List (Int × Int)} {vv : Value} (hWB : W.heap.size ≤ B) (hWD : W.heap.size ≤ D) (hg : W.cell? ⟨1, 0, none⟩ = some (.iface 166 (.pointer (some s1)))) (hL : LRep W vv ls) (hls : labsB ls = true) (hn4 : ls.length ≤ 4) :
    ∀ (d : Nat) (T : Tr d) (m : Nat) (tv : Value), Rep W d tv T → stB ls.length d (m : Int) T = true → LookOk W B D s1 ls vv m d T tv := by
  intro d
  induction d with
  | zero =>
    intro T m tv hr hst w t s ds1 h1 bd hb hB hv hf hG hds hh has hc hca
    obtain ⟨a, c, rfl⟩ := hr
    have HG : Hid (Tg B w D t s) := hG
    have HV : Hid _ := And.intro hv hf
    clear hG hv hf hds has
    go_enter Tryz.func58, Tryz.ntmps58
    go_wp2
    refine wp_loop_rounds 1 ?_
    rw [rounds_succ]
    go_wp2
    exact bodyPost_ret (v := .int .i64 0) (by simp [results, Tryz.results58, go_sem]) rfl ⟨t, rfl, rfl, by rw [HV.out.2]; simp [prs, badJ_nil], by simpa [prs, setsL, flat] using HG.out, Mv.refl _ _⟩
  | succ d ih =>
    intro (l : List (Pay × Tr d × Tr d)) m tv hr hst w t s ds1 h1 bd hb hB hv hf hG hds hh has hc hca
    obtain ⟨a, c, rfl, hlc, hcm, hcell⟩ := hr
    have hlm : (l.length : Int) ≤ 9223372036854775807 := by unfold maxLen at hcm; omega
    have HC : Hid (∀ i (hi : i < l.length), ∃ (p : Pay) (T1 T2 : Tr d) (b off : Nat) (ta : Option Addr) (tc : Nat) (ea : Option Addr) (ec : Nat), l[i] = (p, T1, T2) ∧ a = some ⟨b, off, none⟩ ∧ StepAt W b (off + i * 8) p (.slice ta (ln d T1) tc) (.slice ea (ln d T2) ec) ∧ Rep W d (.slice ta (ln d T1) tc) T1 ∧ Rep W d (.slice ea (ln d T2) ec) T2) := (show ∀ i (hi : i < l.length), _ by
      intro i hi
      obtain ⟨b, off, t, e, ha, hS, r1, r2⟩ := hcell i hi
      obtain ⟨ta, tc, rfl⟩ := r1.slice
      obtain ⟨ea, ec, rfl⟩ := r2.slice
      exact ⟨_, _, _, b, off, ta, tc, ea, ec, rfl, ha, hS, r1, r2⟩)
    have HST : Hid (∀ i (hi : i < l.length), payB ls.length l[i].1 (decide (ln d l[i].2.1 + ln d l[i].2.2 = 0)) = true ∧ stB ls.length d ((m : Int) - 1) l[i].2.1 = true ∧ stB ls.length d ((m : Int) - 1) l[i].2.2 = true ∧ 1 ≤ m) := (show ∀ i (hi : i < l.length), _ by
      intro i hi
      have hs' : (l.all fun x => decide (1 ≤ (m : Int)) && payB ls.length x.1 (decide (ln d x.2.1 + ln d x.2.2 = 0)) && (stB ls.length d ((m : Int) - 1) x.2.1 && stB ls.length d ((m : Int) - 1) x.2.2)) = true := hst
      have hx := List.all_eq_true.1 hs' l[i] (List.getElem_mem hi)
      simp only [Bool.and_eq_true_iff] at hx
      exact ⟨hx.1.2, hx.2.1, hx.2.2, by have := of_decide_eq_true hx.1.1; omega⟩)
    have IH : Hid _ := ih
    have HBW : Hid (Below W.heap.size W w) := hb
    have hWs : W.heap.size ≤ w.heap.size := hb.size
    have HG0 : Hid (Tg B w D t s) := hG
    have HG0X : Hid (∀ b, t.X D b → W.heap.size ≤ b) := (show ∀ b, _ → _ from hG.xge hWB hWD)
    have HV : Hid _ := hv
    have HFV : Hid _ := hf
    have HDS : Hid _ := hds
    have HAS : Hid _ := has
    have HL : Hid _ := hL
    have HGL : Hid _ := hg
    obtain ⟨nA, hnA⟩ : ∃ n, n = s.aw.length := ⟨_, rfl⟩
    rw [← hnA] at hca
    have HNA : Hid _ := hnA
    clear ih hcell hb hst hG hv hf hds has hL hg hnA
    go_enter Tryz.func58, Tryz.ntmps58
    go_wp2
    go_loopw [5, 10] (fun tr j wr => ∃ (i : Nat) (t' : Tv), i ≤ l.length ∧ j = .int .i64 i ∧ tr = .int .i64 (setT ls (d + 1) (l.take i : List (Pay × Tr d × Tr d))) ∧ t'.vv = vv ∧ t'.fv = fval s1 (badJ ls bd s.aw.length (prs ls (d + 1) (l.take i : List (Pay × Tr d × Tr d)) h1)) ∧ Tg B wr D t' ⟨s.ds, s.aw ++ (prs ls (d + 1) (l.take i : List (Pay × Tr d × Tr d)) h1).map (·.2), s.ss ++ setsL ls (d + 1) (l.take i : List (Pay × Tr d × Tr d))⟩ ∧ Mv (t.X D) w wr (t'.X D)) (fun _ j _ => l.length - (intOf j).toNat)
    case atStart => exact ⟨0, t, by omega, rfl, rfl, HV.out, by rw [HFV.out]; simp [prs, badJ_nil], by simpa [prs, setsL, flat] using HG0.out, Mv.refl _ _⟩
    case round =>
      clear HG0
      obtain ⟨i, t', hi, rfl, rfl, hv', hf', hG, hM⟩ := hrel
      have HV' : Hid _ := hv'
      have HF' : Hid _ := hf'
      clear hv' hf'
      by_cases hlt : i < l.length
      · obtain ⟨p, T1, T2, b, off, ta, tc, ea, ec, hx, rfl, hS, r1, r2⟩ := HC.out i hlt
        obtain ⟨hp, hs1, hs2, hm1⟩ := HST.out i hlt
        have em : (m : Int) - 1 = ((m - 1 : Nat) : Int) := by omega
        rw [em] at hs1 hs2
        have q1 := cnt_take l i hlt
        have q2 := cnt_take_le l (i + 1)
        have q3 := prs_take ls l i hlt h1
        have q4 := setsL_take ls l i hlt
        have q5 := setT_take ls l i hlt
        have q6 := prs_length ls (d + 1) (l.take i : List (Pay × Tr d × Tr d)) h1
        have q7 := setsL_length ls (d + 1) (l.take i : List (Pay × Tr d × Tr d))
        have b5 := setT_bd hls (d + 1) (l.take i : List (Pay × Tr d × Tr d))
        have b6 := setX_bd hls ⟨d, l[i]⟩
        rw [hx] at hp hs1 hs2 q1 q3 q4 q5 b6
        dsimp only at hp hs1 hs2 q1 q3 q4
        have BW : Below W.heap.size W wr := HBW.out.trans (hM.below (fun b hb => HG0X.out b hb) hWs)
        have zr : w.heap.size ≤ wr.heap.size := hM.size
        obtain ⟨k0, k1, k2, k3, k4, k5, k6, k7⟩ := hS.on (w' := wr) (fun a v h => cell_later BW h)
        have i0' : (0 : Int) ≤ (i : Int) := by omega
        have i1' : (i : Int) < (l.length : Int) := by omega
        have A1 : Below wr.heap.size wr (wr.alloc (.cells #[.int .i64 p.k, .int .i64 p.v, .int .i64 p.vk, .int .i64 p.va, .int .i64 p.vb, .int .i64 p.h, .slice ta (ln d T1) tc, .slice ea (ln d T2) ec] 97)) := (Below.refl _ _).alloc (Nat.le_refl _) _
        have C1 : Hid _ := lookAt_of (m := m - 1) (W := W) (B := B) (D := D) (d := d) (T1 := T1) (T2 := T2) p (ta := ta) (ea := ea) (tc := tc) (ec := ec) (bd := badJ ls bd s.aw.length (prs ls (d + 1) (l.take i : List (Pay × Tr d × Tr d)) h1)) hWB hWD (Below.then BW A1 BW.size) (by have := A1.size; omega) HGL.out (HV'.out.symm ▸ HL.out) hls hn4 hp (hG.below A1) HDS.out hh HF'.out (by have := HAS.out; simp [q6, q7]; omega) (by omega) (by have := HNA.out; simp [q6]; omega)
          (by rw [HV'.out]; exact IH.out T1 (m - 1) _ r1 hs1) (by rw [HV'.out]; exact IH.out T2 (m - 1) _ r2 hs2)
        have HMA : Hid (Mv (t.X D) w (wr.alloc (.cells #[.int .i64 p.k, .int .i64 p.v, .int .i64 p.vk, .int .i64 p.va, .int .i64 p.vb, .int .i64 p.h, .slice ta (ln d T1) tc, .slice ea (ln d T2) ec] 97)) (t'.X D)) := hM.trans (Mv.of A1)
        have CJ : Hid _ := fun wx => joined_any (setT ls (d + 1) (l.take i : List (Pay × Tr d × Tr d))) (setX ls ⟨d, p, T1, T2⟩) wx b5.1 b5.2 b6.1 b6.2
        have HQ3 : Hid _ := q3
        have HQ4 : Hid _ := q4
        have HQ5 : Hid _ := q5
        have HQ6 : Hid _ := q6
        generalize setT ls (d + 1) (l.take i : List (Pay × Tr d × Tr d)) = sT at CJ HQ5 ⊢
        generalize hsX : setX ls ⟨d, p, T1, T2⟩ = sX at C1 CJ HQ5 HQ4
        clear hG hM hS r1 r2 BW A1 q1 q2 q3 q4 q5 q6 q7 b5 b6 hx hsX
        go_wp2_with fail
        go_at_call 78; refine Calls.mono C1.out ?_
        rintro e w2 ⟨t2, rfl, v2, f2, g2, m2⟩
        have HF : Hid _ := And.intro v2 (And.intro f2 (And.intro g2 (HMA.out.trans m2)))
        clear v2 f2 g2 m2 C1 HMA k0 k1 k2 k3 k4 k5 k6 k7
        go_wp2_with fail
        go_at_call 77; refine Calls.mono (CJ.out _) ?_
        rintro e w3 ⟨rfl, hw3⟩
        subst w3
        clear CJ
        go_wp2
        obtain ⟨v2, f2, g2, m2⟩ := HF.out
        exact ⟨⟨i + 1, t2, by omega, by simp, by rw [HQ5.out], v2.trans HV'.out, by rw [f2, HQ3.out, ← badJ_app]; simp, by rw [HQ3.out, HQ4.out]; simpa [List.append_assoc] using g2, m2⟩, by simp [intOf]; omega⟩
      · have : i = l.length := by omega
        subst this
        have HF : Hid _ := And.intro hG hM
        clear hG hM
        go_wp2
        obtain ⟨hG, hM⟩ := HF.out
        have hf := HF'.out
        rw [List.take_length] at hG hf
        exact bodyPost_ret (v := .int .i64 (setT ls (d + 1) (l : List (Pay × Tr d × Tr d)))) (by simp [results, Tryz.results58, go_sem]) rfl ⟨t', rfl, HV'.out.trans HV.out.symm, hf, hG, hM⟩

end Go.Proofs.YthcgdhlemieboaaGreatDoor

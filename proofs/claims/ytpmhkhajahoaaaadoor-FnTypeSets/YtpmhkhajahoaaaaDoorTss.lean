/- Who trusts what each step sets, by the model. -/
import Derived.Test.YtpmhkhajahoaaaaDoorTsl
import Derived.Test.YtpmhkhajahoaaaaDoorTks
import Derived.Test.YtpmhkhajahoaaaaDoorCpx
namespace Go.Proofs.YtpmhkhajahoaaaaDoor
open Go.RowKit
set_option linter.unusedSimpArgs false
set_option linter.unusedVariables false
attribute [local go_sem] World.cell?_alloc_some
theorem C2.below' {w w' : World} {b : Nat} {v0 v1 : Value} (h : C2 w b v0 v1) (hb : Below w.heap.size w w') : C2 w' b v0 v1 := C2.same h (hb.block _ (World.block_lt_of_cell? _ _ h.1.1))
theorem stB_up {n : Int} : ∀ (d : Nat) (T : Tr d) (deep deep' : Int), deep ≤ deep' → stB n d deep T = true → stB n d deep' T = true
  | 0, _, _, _, _, _ => rfl
  | d + 1, (l : List (Pay × Tr d × Tr d)), deep, deep', hd, h => by
    have h' : (l.all fun x => decide (1 ≤ deep) && payB n x.1 (decide (ln d x.2.1 + ln d x.2.2 = 0)) && (stB n d (deep - 1) x.2.1 && stB n d (deep - 1) x.2.2)) = true := h
    show (l.all fun x => decide (1 ≤ deep') && payB n x.1 (decide (ln d x.2.1 + ln d x.2.2 = 0)) && (stB n d (deep' - 1) x.2.1 && stB n d (deep' - 1) x.2.2)) = true
    refine List.all_eq_true.2 fun x hx => ?_
    have := List.all_eq_true.1 h' x hx
    simp only [Bool.and_eq_true_iff, decide_eq_true_eq] at this ⊢
    exact ⟨⟨by omega, this.1.2⟩, stB_up d _ _ _ (by omega) this.2.1, stB_up d _ _ _ (by omega) this.2.2⟩
/-- Each step that is counted is in form alone. -/
theorem st_flat3 : ∀ (d : Nat) (T : Tr d) (n deep : Int), deep ≤ 3 → stB n d deep T = true → ∀ x ∈ flat d T, stB n (x.1 + 1) 3 ([x.2] : List (Pay × Tr x.1 × Tr x.1)) = true
  | 0, _, _, _, _, _ => by intro x hx; cases hx
  | d + 1, (l : List (Pay × Tr d × Tr d)), n, deep, hd, hs => by
    intro x hx
    obtain ⟨y, hy, hx⟩ := List.mem_flatMap.1 (show x ∈ List.flatMap _ l from hx)
    have hs' : (l.all fun x => decide (1 ≤ deep) && payB n x.1 (decide (ln d x.2.1 + ln d x.2.2 = 0)) && (stB n d (deep - 1) x.2.1 && stB n d (deep - 1) x.2.2)) = true := hs
    have hq := List.all_eq_true.1 hs' y hy
    have hq0 := hq
    simp only [Bool.and_eq_true_iff] at hq
    rcases List.mem_cons.1 hx with rfl | hx
    · refine stB_up (d + 1) _ deep 3 hd ?_
      show List.all [y] _ = true
      rw [List.all_cons, hq0]; rfl
    · rcases List.mem_append.1 hx with hx | hx
      · exact st_flat3 d _ n _ (by omega) hq.2.1 x hx
      · exact st_flat3 d _ n _ (by omega) hq.2.2 x hx

theorem setT_one (ls : List (Int × Int)) (d : Nat) (x : Pay × Tr d × Tr d) : setT ls (d + 1) ([x] : List (Pay × Tr d × Tr d)) = setX ls ⟨d, x⟩ := by
  show List.foldl _ 0 [x] = _
  rw [List.foldl_cons, List.foldl_nil]
  exact orI_zero (orI_nn _ _)

set_option maxHeartbeats 8000000 in
set_option maxRecDepth 20000 in
theorem sTypeSets_any {d : Nat} {T : Tr d} {lv sv : Value} {ls : List (Int × Int)} {w : World} (hL : LRep w lv ls) (hR : Rep w d sv T) (hc : cnt d T ≤ 1048576) :
    Calls Tryd.prog 23 #[.agg #[lv, sv]] w (NaPost w (seR ls d T)) := by
  obtain ⟨j0, hj0, hy0, hy1, hy2⟩ := info_parts infoIntT
  have A : Below w.heap.size w ((w.alloc (.cells #[lv, sv] 26)).alloc (.cells #[] 3)) := ((Below.refl _ _).alloc (Nat.le_refl _) _).alloc (by simp) _
  have C1 : Hid _ := sProgOk_any (hL.below A) (hR.below A) hc
  have HL : Hid (LRep w lv ls) := hL
  have HR : Hid (Rep w d sv T) := hR
  obtain ⟨la, lc, rfl, -⟩ := id hL
  obtain ⟨sa, sc, rfl⟩ := id hR.slice
  have G0 : C2 ((w.alloc (.cells #[.slice la ls.length lc, .slice sa (ln d T) sc] 26)).alloc (.cells #[] 3)) w.heap.size (.slice la ls.length lc) (.slice sa (ln d T) sc) := C2.same (C2.new w _ _ 26) (by rw [World.alloc]; simp [Array.getElem?_push])
  have O0 : ((w.alloc (.cells #[.slice la ls.length lc, .slice sa (ln d T) sc] 26)).alloc (.cells #[] 3)).ownsRow w.heap.size 3 1 (.slice (some ⟨w.heap.size + 1, 0, none⟩) 0 0) 0 [] := by
    have := World.ownsRow_made (base := w.heap.size) (e := 3) (size := 1) (w.alloc (.cells #[.slice la ls.length lc, .slice sa (ln d T) sc] 26)) #[] 0 (by simp) (by unfold maxLen; omega) (by simp)
    simpa using this
  have HA : Hid _ := A
  have HG0 : Hid _ := G0
  have HO0 : Hid (((w.alloc (.cells #[.slice la ls.length lc, .slice sa (ln d T) sc] 26)).alloc (.cells #[] 3)).ownsRow w.heap.size 3 1 (.slice (some ⟨w.heap.size + 1, 0, none⟩) 0 0) 0 []) := O0
  have hz0 : ((w.alloc (.cells #[.slice la ls.length lc, .slice sa (ln d T) sc] 26)).alloc (.cells #[] 3)).heap.size = w.heap.size + 2 := by simp
  have HZ0 : Hid _ := hz0
  clear hL hR A G0 O0 hz0
  go_enter Tryd.func23, Tryd.ntmps23
  go_wp2_with fail
  go_at_call 18; refine Calls.mono C1.out ?_; rintro e w1 ⟨rfl, hb1⟩
  have HB1 : Hid (Below w.heap.size w w1) := Below.then HA.out hb1 HA.out.size
  have z1 : w.heap.size + 2 ≤ w1.heap.size := by have := hb1.size; have := HZ0.out; omega
  have HG1 : Hid (C2 w1 w.heap.size (.slice la ls.length lc) (.slice sa (ln d T) sc)) := C2.same HG0.out (hb1.block _ (by have := HZ0.out; omega))
  have HO1 : Hid (w1.ownsRow w.heap.size 3 1 (.slice (some ⟨w.heap.size + 1, 0, none⟩) 0 0) 0 []) := rowt_frame HO0.out (fun b e => hb1.block b (World.ownsRow.lt HO0.out b e).2)
  obtain ⟨⟨p0, p1⟩, -⟩ := id HG1.out
  clear hb1 C1 HG0 HO0 HA HZ0
  obtain ⟨pb, hpb⟩ : ∃ x, progB ls d T = x := ⟨_, rfl⟩
  rw [hpb]
  have HPB : Hid _ := hpb
  clear hpb
  cases pb
  · have HE : Hid (seR ls d T = []) := (show seR ls d T = [] by unfold seR; rw [HPB.out]; rfl)
    clear p0 p1
    go_wp2
    exact bodyPost_ret (v := .slice (some ⟨w.heap.size + 1, 0, none⟩) 0 0) (by simp [results, Tryd.results23, go_sem]) rfl ⟨_, rfl, HB1.out, by rw [HE.out]; exact HO1.out⟩
  · have hls := progB_labs HPB.out
    have hst := progB_st HPB.out
    have hc8 := progB_cnt HPB.out
    have HE : Hid (seR ls d T = setsL ls d T) := (show seR ls d T = setsL ls d T by unfold seR; rw [HPB.out]; rfl)
    have C2' : Hid _ := l2All_any w d T _ w1 HR.out HB1.out hc
    go_wp2_with fail
    go_at_call 54; refine Calls.mono C2'.out ?_; rintro e w2 ⟨v2, xs, rfl, hb2, own2, fl2, nn2⟩
    obtain ⟨g2, c2, rfl, hg20, hg21⟩ := row_some own2 nn2
    have HB2 : Hid (Below w.heap.size w w2) := Below.then HB1.out hb2 HB1.out.size
    have z2 : w1.heap.size ≤ w2.heap.size := hb2.size
    have HG2 : Hid (C2 w2 w.heap.size (.slice la ls.length lc) (.slice sa (ln d T) sc)) := C2.below' HG1.out hb2
    have HP0 : Hid _ := HG2.out.1.1
    have HP1 : Hid _ := HG2.out.1.2
    have HOO : Hid (w2.ownsRow w.heap.size 3 1 (.slice (some ⟨w.heap.size + 1, 0, none⟩) 0 0) 0 []) := rowt_frame HO1.out (fun b e => hb2.block b (World.ownsRow.lt HO1.out b e).2)
    have hc2n : cnt d T ≤ c2 := by
      rcases own2.2 with ⟨h, _⟩ | ⟨g, cap, cur, h, _, _, hcc, _⟩
      · cases h
      · cases h; exact hcc
    have hc2m : c2 ≤ maxLen := by
      rcases own2.2 with ⟨h, _⟩ | ⟨g, cap, cur, h, _, _, _, hcc, _⟩
      · cases h
      · cases h; exact hcc
    have hsl : (setsL ls d T).length = cnt d T := setsL_length ls d T
    have HSG : Hid (∀ i (hi : i < cnt d T), ∃ (x : Sg) (t e : Value), (setsL ls d T)[i]? = some (setX ls x) ∧ StepAt w2 g2 (i * 8) x.2.1 t e ∧ Rep w x.1 t x.2.2.1 ∧ Rep w x.1 e x.2.2.2 ∧ stB ls.length (x.1 + 1) 3 ([x.2] : List (Pay × Tr x.1 × Tr x.1)) = true) := (show ∀ i (hi : i < cnt d T), _ from fun i hi => by
      have hf : i < (flat d T).length := by rw [flat_length]; omega
      obtain ⟨t, e, hcs, r1, r2⟩ := FlatR.get fl2 (List.getElem?_eq_getElem hf)
      refine ⟨(flat d T)[i], t, e, by simp [setsL, hf], row_cells own2 hcs, r1, r2, ?_⟩
      exact st_flat3 d T ls.length 3 (by decide) hst _ (List.getElem_mem hf))
    have HSL : Hid _ := hsl
    obtain ⟨N, hN⟩ : ∃ N, N = cnt d T := ⟨_, rfl⟩
    rw [← hN] at hc8 hc2n ⊢
    have HN : Hid _ := hN
    have hNm : (N : Int) ≤ 8 := by omega
    clear hb2 own2 fl2 nn2 C2' HO1 HG1 p0 p1 hsl hN hst
    obtain ⟨⟨p0, p1⟩, -⟩ := id HG2.out
    go_wp2
    go_loopw [3, 5] (fun o j wr => ∃ (i : Nat) (oa : Option Addr) (oc : Nat), i ≤ N ∧ j = .int .i64 i ∧ o = .slice oa i oc ∧ wr.ownsRow w.heap.size 3 1 (.slice oa i oc) i (((setsL ls d T).take i).map (Value.int .i64)) ∧ Mv (fun b => b = w.heap.size + 1) w2 wr (fun b => (Value.slice oa i oc).ownBlock = some b) ∧ wr.cell? ⟨w.heap.size, 0, none⟩ = some (.slice la ls.length lc) ∧ wr.cell? ⟨w.heap.size, 1, none⟩ = some (.slice sa (ln d T) sc)) (fun _ j _ => N - (intOf j).toNat)
    case atStart => exact ⟨0, _, _, by omega, rfl, rfl, by simpa using HOO.out, ⟨rfl, rfl, rfl, Nat.le_refl _, fun _ _ _ => rfl, fun b e => .inl (by have := Option.some.inj e; exact this.symm)⟩, HP0.out, HP1.out⟩
    case round =>
      clear p0 p1
      obtain ⟨i, oa, oc, hi, rfl, rfl, hO, hM, p0, p1⟩ := hrel
      have HO : Hid (wr.ownsRow w.heap.size 3 1 (.slice oa i oc) i (((setsL ls d T).take i).map (Value.int .i64))) := hO
      have HM : Hid (Mv (fun b => b = w.heap.size + 1) w2 wr (fun b => (Value.slice oa i oc).ownBlock = some b)) := hM
      have zr : w2.heap.size ≤ wr.heap.size := hM.size
      have BWr : Below w.heap.size w wr := HB2.out.trans (hM.below (fun b hb => by have hb : b = w.heap.size + 1 := hb; omega) (by omega))
      have i0' : (0 : Int) ≤ (i : Int) := by omega
      by_cases hlt : i < N
      · have i1' : (i : Int) < (N : Int) := by omega
        obtain ⟨x, t, e, hsx, hS, r1, r2, hstx⟩ := HSG.out i (by have := HN.out; omega)
        have eg : wr.heap[g2]? = w2.heap[g2]? := hM.block _ hg21 (fun hx => by have hx : g2 = w.heap.size + 1 := hx; omega)
        have hSr : StepAt wr g2 (i * 8) x.2.1 t e := stepAt_same eg hS
        have hRx : Rep wr (x.1 + 1) (.slice (some ⟨g2, i * 8, none⟩) 1 (c2 - i)) ([x.2] : List (Pay × Tr x.1 × Tr x.1)) := ⟨_, _, rfl, by show 1 ≤ c2 - i; omega, by omega, fun q hq => by
          match q, hq with
          | 0, _ => exact ⟨g2, i * 8, t, e, rfl, by simpa using hSr, r1.on (fun a v h => cell_later BWr h), r2.on (fun a v h => cell_later BWr h)⟩⟩
        have HCALL : Hid (∀ wz, Below wr.heap.size wr wz → Calls Tryd.prog 55 #[.agg #[.slice la ls.length lc, .slice sa (ln d T) sc], .slice (some ⟨g2, i * 8, none⟩) 1 (c2 - i)] wz fun e w' => e = .returned (.int .i64 (setX ls x)) ∧ Below wz.heap.size wz w') := (show ∀ wz, _ from fun wz hb => by
          have := l11Sets_any wr hls (pa := sa) (pn := ln d T) (pc := sc) (LRep.below BWr HL.out) (x.1 + 1) ([x.2] : List (Pay × Tr x.1 × Tr x.1)) 3 _ wz hRx hb hstx
          rw [setT_one] at this
          exact this)
        have HTK : Hid ((setsL ls d T).take (i + 1) = (setsL ls d T).take i ++ [setX ls x]) := (show _ = _ by rw [List.take_add_one, hsx]; rfl)
        have HCI : Hid (i < c2 ∧ i + 1 ≤ c2 ∧ (i : Int) + 1 ≤ (c2 : Int) ∧ (0 : Int) ≤ (i : Int)) := ⟨by omega, by omega, by omega, by omega⟩
        have HWI : Hid _ := w64 ((i : Int) + 1) (by omega)
        generalize setX ls x = sxi at HCALL HTK
        clear hsx hS r1 r2 hstx eg hSr hRx hO hM BWr
        go_wp2_with fail
        refine wp_region_held (S := (fun wz => wz.cell? ⟨w.heap.size, 0, none⟩ = some (.slice la ls.length lc) ∧ wz.cell? ⟨w.heap.size, 1, none⟩ = some (.slice sa (ln d T) sc))) (by kernel_rfl) ?_
        change wpAnyH _ _ _ _ _ _ _ _ (World.drew _)
        have hHeld : (fun wz => wz.cell? ⟨w.heap.size, 0, none⟩ = some (.slice la ls.length lc) ∧ wz.cell? ⟨w.heap.size, 1, none⟩ = some (.slice sa (ln d T) sc)) (World.drew wr) := ⟨p0, p1⟩
        refine' wpAnyH_take (i := 0) (v := _) rfl (by kernel_rfl) (by kernel_rfl) (by kernel_rfl) (fun _ _ _ h => h) (Or.inl ⟨by rfl, ?hy130001⟩) hHeld ?hn130001
        case hy130001 => (intro wz hSw; go_simp; first | done | with_reducible rfl)
        try simp only [List.getElem_toArray, List.getElem_cons_zero, List.getElem_cons_succ, Act.put, List.setIfInBounds_toArray, List.set_cons_zero, List.set_cons_succ]
        refine' wpAnyH_take (i := 1) (v := (.agg #[.slice la ls.length lc, .slice sa (ln d T) sc])) rfl (by kernel_rfl) (by kernel_rfl) (by kernel_rfl) (fun _ _ _ h => h) (Or.inl ⟨by rfl, ?hy130002⟩) hHeld ?hn130002
        case hy130002 => (intro wz hSw; obtain ⟨j0, j1⟩ := hSw; go_simp)
        try simp only [List.getElem_toArray, List.getElem_cons_zero, List.getElem_cons_succ, Act.put, List.setIfInBounds_toArray, List.set_cons_zero, List.set_cons_succ]
        refine' wpAnyH_take (i := 2) (v := _) rfl (by kernel_rfl) (by kernel_rfl) (by kernel_rfl) (fun _ _ _ h => h) (Or.inl ⟨by rfl, ?hy130003⟩) hHeld ?hn130003
        case hy130003 => (intro wz hSw; go_simp; first | done | with_reducible rfl)
        try simp only [List.getElem_toArray, List.getElem_cons_zero, List.getElem_cons_succ, Act.put, List.setIfInBounds_toArray, List.set_cons_zero, List.set_cons_succ]
        refine' wpAnyH_take (i := 3) (v := _) rfl (by kernel_rfl) (by kernel_rfl) (by kernel_rfl) (fun _ _ _ h => h) (Or.inl ⟨by rfl, ?hy130004⟩) hHeld ?hn130004
        case hy130004 => (intro wz hSw; go_simp; first | done | with_reducible rfl)
        try simp only [List.getElem_toArray, List.getElem_cons_zero, List.getElem_cons_succ, Act.put, List.setIfInBounds_toArray, List.set_cons_zero, List.set_cons_succ]
        refine' wpAnyH_take (i := 4) (v := _) rfl (by kernel_rfl) (by kernel_rfl) (by kernel_rfl) (fun _ _ _ h => h) (Or.inl ⟨by rfl, ?hy130005⟩) hHeld ?hn130005
        case hy130005 => (intro wz hSw; go_simp; first | done | with_reducible rfl)
        try simp only [List.getElem_toArray, List.getElem_cons_zero, List.getElem_cons_succ, Act.put, List.setIfInBounds_toArray, List.set_cons_zero, List.set_cons_succ]
        refine' wpAnyH_take (i := 5) (v := (.int .i64 ((i : Int) + 1))) rfl (by kernel_rfl) (by kernel_rfl) (by kernel_rfl) (fun _ _ _ h => h) (Or.inl ⟨by rfl, ?hy130006⟩) hHeld ?hn130006
        case hy130006 => (intro wz hSw; have h := HWI.out; go_simp; first | done | simp [h] | omega)
        try simp only [List.getElem_toArray, List.getElem_cons_zero, List.getElem_cons_succ, Act.put, List.setIfInBounds_toArray, List.set_cons_zero, List.set_cons_succ]
        refine' wpAnyH_take (i := 6) (v := (.slice (some ⟨g2, i * 8, none⟩) 1 (c2 - i))) rfl (by kernel_rfl) (by kernel_rfl) (by kernel_rfl) (fun _ _ _ h => h) (Or.inl ⟨by rfl, ?hy130007⟩) hHeld ?hn130007
        case hy130007 => (intro wz hSw; have h1 := HCI.out; go_simp; rw [if_pos (show (0 : Int) ≤ (i : Int) + 1 by omega), if_neg (show ¬ c2 = i by omega)])
        try simp only [List.getElem_toArray, List.getElem_cons_zero, List.getElem_cons_succ, Act.put, List.setIfInBounds_toArray, List.set_cons_zero, List.set_cons_succ]
        refine wpAnyH_ready (rs := [7]) (by kernel_rfl) (by simp) ?_
        refine AllReadyH.cons rfl (fun K hK => ?_) AllReadyH.nil
        go_simp
        refine Calls.mono (HCALL.out _ ((Below.refl _ _).drew)) ?_
        rintro e x7 ⟨rfl, hb7⟩
        have hB7 : Below wr.heap.size wr x7 := Below.then ((Below.refl _ _).drew) hb7 (Nat.le_refl _)
        have M7 := HM.out.trans (Mv.of hB7)
        have O7 : x7.ownsRow w.heap.size 3 1 (.slice oa i oc) i (((setsL ls d T).take i).map (Value.int .i64)) := rowt_frame HO.out (fun b e => hB7.block b (World.ownsRow.lt HO.out b e).2)
        have z7 := hB7.size
        refine hK.out _ _ (⟨cell_later hb7 hHeld.1, cell_later hb7 hHeld.2⟩) (fun hHeld => ?_)
        clear hK K
        refine wpAnyH_ready (rs := [8]) (by kernel_rfl) (by simp) ?_
        refine AllReadyH.cons rfl (fun K hK => ?_) AllReadyH.nil
        go_simp
        obtain ⟨ya, hya⟩ : ∃ y, y = x7.alloc (.cells #[.int .i64 sxi] 3) := ⟨_, rfl⟩
        rw [← hya]
        have nwa : ∀ j u, [Value.int .i64 sxi][j]? = some u → ya.cell? ((⟨x7.heap.size, 0, none⟩ : Addr).add j) = some u := by rw [hya]; exact cells_new1x _ _ _ _ rfl
        have Aa : Below x7.heap.size x7 ya := by rw [hya]; exact (Below.refl _ _).alloc (Nat.le_refl _) _
        have Ma := M7.trans (Mv.of Aa)
        have Oa : ya.ownsRow w.heap.size 3 1 (.slice oa i oc) i (((setsL ls d T).take i).map (Value.int .i64)) := rowt_frame O7 (fun b e => Aa.block b (World.ownsRow.lt O7 b e).2)
        have zya := Aa.size
        clear hya
        refine hK.out _ _ (⟨cell_later Aa hHeld.1, cell_later Aa hHeld.2⟩) (fun hHeld => ?_)
        clear hK K
        refine wpAnyH_ready (rs := [9]) (by kernel_rfl) (by simp) ?_
        refine AllReadyH.cons rfl (fun K hK => ?_) AllReadyH.nil
        refine wp_append_atT _ _ _ 35 rfl w.heap.size 3 j0 _ 1 8 Tryd.underlying35 hj0 hy0 hy1 hy2 rfl (by decide) _ _ _ rfl Oa ⟨x7.heap.size, 0, none⟩ 1 1 [.int .i64 sxi] rfl rfl nwa (by simp [Value.oneCell']) (by unfold maxLen; omega) (by omega) (by omega) ?_
        intro v3 y3 own3 grow3 hn3 hat3
        have M3 : Mv (fun b => b = w.heap.size + 1) w2 y3 (fun b => v3.ownBlock = some b) := Ma.trans ⟨grow3.os, grow3.tape, grow3.output, grow3.size, fun b hb hx => grow3.block b hb (fun e => hx e.symm), fun b hb => by
          rcases hat3 with k | k
          · exact .inl (k ▸ hb)
          · rw [k] at hb; exact .inr (by have := Option.some.inj hb; omega)⟩
        obtain ⟨va3, vc3, hv3⟩ := rowt_slice own3
        subst hv3
        have P3 : y3.heap[w.heap.size]? = w2.heap[w.heap.size]? := M3.block _ (by omega) (by omega)
        refine hK.out _ _ (⟨(World.cell?_of_block (a := ⟨w.heap.size, 0, none⟩) P3).trans HP0.out, (World.cell?_of_block (a := ⟨w.heap.size, 1, none⟩) P3).trans HP1.out⟩) (fun hHeld => ?_)
        clear hK K
        refine' wpAnyH_take (i := 10) (v := _) rfl (by kernel_rfl) (by kernel_rfl) (by kernel_rfl) (fun _ _ _ h => h) (Or.inl ⟨by rfl, ?hy130008⟩) hHeld ?hn130008
        case hy130008 => (intro wz hSw; go_simp; first | done | with_reducible rfl)
        try simp only [List.getElem_toArray, List.getElem_cons_zero, List.getElem_cons_succ, Act.put, List.setIfInBounds_toArray, List.set_cons_zero, List.set_cons_succ]
        refine wpAnyH_done (by kernel_rfl) ?_ _
        have HO3 : Hid (y3.ownsRow w.heap.size 3 1 (.slice va3 (i + 1) vc3) (i + 1) (((setsL ls d T).take (i + 1)).map (Value.int .i64))) := (show y3.ownsRow w.heap.size 3 1 (.slice va3 (i + 1) vc3) (i + 1) (((setsL ls d T).take (i + 1)).map (Value.int .i64)) by rw [HTK.out, List.map_append]; exact own3)
        have HM3 : Hid _ := M3
        have p0 := hHeld.1
        have p1 := hHeld.2
        have HP0' : Hid _ := p0
        have HP1' : Hid _ := p1
        clear hHeld M3 own3 grow3 hn3 hat3 Ma Oa M7 O7 nwa
        go_wp2
        exact ⟨⟨i + 1, va3, vc3, by omega, by simp, rfl, HO3.out, HM3.out, HP0'.out, HP1'.out⟩, by simp [intOf]; omega⟩
      · have hie : i = N := by omega
        subst hie
        have HF : Hid (NaPost w (seR ls d T) (.returned (.slice oa i oc)) wr) := ⟨_, rfl, BWr, by
          have h1 : (setsL ls d T).length = i := HSL.out.trans HN.out.symm
          rw [HE.out, h1]
          have h2 := hO
          rw [List.take_of_length_le (by omega)] at h2
          exact h2⟩
        clear hO hM BWr
        go_wp2
        exact bodyPost_ret (v := .slice oa i oc) (by simp [results, Tryd.results23, go_sem]) rfl HF.out

end Go.Proofs.YtpmhkhajahoaaaaDoor

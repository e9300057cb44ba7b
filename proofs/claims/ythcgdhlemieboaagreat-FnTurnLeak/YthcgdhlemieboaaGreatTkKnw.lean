/- Which variables a host may know, and which it trusts: the model's rows, and the program's. -/
import Derived.Test.YthcgdhlemieboaaGreatTkTyp
import Derived.Test.YthcgdhlemieboaaGreatTkImp
import Derived.Test.YthcgdhlemieboaaGreatTkTsh
import Derived.Test.YthcgdhlemieboaaGreatTkRtx
namespace Go.Proofs.YthcgdhlemieboaaGreat
open Go.RowKit
set_option linter.unusedSimpArgs false
set_option linter.unusedVariables false
attribute [local go_sem] World.cell?_alloc_some

def hosB (s h : Int) : Bool := decide (0 ≤ h) && (decide (h < 3) && hasB s h)
def knowL (ls : List (Int × Int)) (h : Int) : List Bool := ls.map fun a => hosB a.1 h
def trustL (ls : List (Int × Int)) (h : Int) : List Bool := ls.map fun a => hosB a.2 h

theorem l1Has_all (s h : Int) (w : World) (s0 : 0 ≤ s) (s7 : s ≤ 7) :
    Calls Tryz.prog 44 #[.int .i64 s, .int .i64 h] w fun e w' => e = .returned (.bool (hosB s h)) ∧ w' = w := by
  by_cases h0 : 0 ≤ h
  · by_cases h1 : h < 3
    · have e : hosB s h = hasB s h := by simp [hosB, h0, h1]
      rw [e]
      exact l1Has_any s h w s0 s7 h0 (by omega)
    · have e : hosB s h = false := by simp [hosB, h1]
      rw [e]
      go_enter Tryz.func44, Tryz.ntmps44
      go_wp2
      go_ret
      exact ⟨rfl, rfl⟩
  · have e : hosB s h = false := by simp [hosB, h0]
    have hd : decide (0 ≤ h) = false := by simpa using h0
    rw [e]
    go_enter Tryz.func44, Tryz.ntmps44
    go_wp2
    go_ret
    exact ⟨rfl, rfl⟩
def KnPost (w : World) (zs : List Bool) (e : Ending) (w' : World) : Prop := ∃ v bs, e = .returned v ∧ Below w.heap.size w w' ∧ GOwn Value.bool w' v zs bs ∧ (∀ b ∈ bs, w.heap.size ≤ b ∧ b < w'.heap.size)
theorem row1_cell {w : World} {base : Nat} {e : TypeId} {g n c : Nat} {ys : List Value} (h : w.ownsRow base e 1 (.slice (some ⟨g, 0, none⟩) n c) n ys) {i : Nat} (hi : i < n) : ∃ v, w.cell? ⟨g, i, none⟩ = some v ∧ w.frozen? ⟨g, i, none⟩ = false := by
  have yl : ys.length = n * 1 := h.1
  have hy : i < ys.length := by omega
  have hc := h.cells rfl i ys[i] (List.getElem?_eq_getElem hy)
  rw [Addr.add_mid, Nat.zero_add] at hc
  refine ⟨_, hc, ?_⟩
  obtain ⟨_, ⟨h1, h2⟩ | ⟨g', cap, cur, hv, hg, hh, _⟩⟩ := h
  · omega
  · simp at hv
    rw [← hv.1] at hh
    simp [World.frozen?, hh]
theorem rowp_below {w w' : World} {base : Nat} {e : TypeId} {sz : Nat} {v : Value} {n : Nat} {xs : List Value} (h : w.ownsRow base e sz v n xs) (hb : Below w.heap.size w w') : w'.ownsRow base e sz v n xs :=
  ⟨h.1, h.2.imp id fun ⟨g, cap, cur, hv, hg, hh, hr⟩ => ⟨g, cap, cur, hv, hg, by rw [hb.block g (World.ownsRow.lt h g (by rw [hv]; rfl)).2]; exact hh, hr⟩⟩

set_option maxHeartbeats 2000000 in
set_option maxRecDepth 8000 in
theorem hostRow_know {d : Nat} {T : Tr d} {lv sv : Value} {ls : List (Int × Int)} (h : Int) {w : World} (hL : LRep w lv ls) (hR : Rep w d sv T) :
    Calls Tryz.prog 47 #[.agg #[lv, sv], .int .i64 h, .func (.func 48) #[] #[]] w (KnPost w (if progB ls d T then knowL ls h else [])) := by
  obtain ⟨i0, hi0, hz0, hz1, hz2⟩ := info_parts infoBool
  have A : Below w.heap.size w (w.alloc (.cells #[lv, sv] 26)) := (Below.refl _ _).alloc (Nat.le_refl _) _
  have L1 := hL.below A
  have R1 := hR.below A
  have C1 : Hid _ := progOk_any L1 R1
  obtain ⟨la, lc, rfl, hlc, hcm, hcell⟩ := hL
  obtain ⟨sa, sc, rfl⟩ := hR.slice
  generalize hz : (if progB ls d T = true then knowL ls h else []) = zs
  have HZ : Hid _ := hz
  have HCL : Hid _ := hcell
  clear hz L1 R1 A hR hcell
  go_enter Tryz.func47, Tryz.ntmps47
  go_wp2_with fail
  go_at_call 17; refine Calls.mono C1.out ?_; rintro e w1 ⟨rfl, hb1⟩
  have p0 : w1.cell? ⟨w.heap.size, 0, none⟩ = some (.slice la ls.length lc) := cell_later hb1 (by simp)
  have B1 : Below w.heap.size w w1 := Below.then ((Below.refl _ _).alloc (Nat.le_refl _) _) hb1 (by simp)
  have s1 : w.heap.size < w1.heap.size := by have := hb1.size; simp at this; omega
  have HB1 : Hid _ := B1
  clear hb1 C1 B1
  cases hp : progB ls d T
  · have HE : Hid (zs = []) := (show zs = [] by rw [← HZ.out, hp]; rfl)
    go_wp2
    go_ret
    exact ⟨_, [], rfl, HB1.out, .inl ⟨by rw [HE.out]; rfl, ⟨none, 0, rfl, by unfold maxLen; omega⟩, rfl⟩, by simp⟩
  · have HE : Hid (zs = knowL ls h) := (show zs = knowL ls h by rw [← HZ.out, hp]; rfl)
    have l4 := progB_len hp
    have hls := progB_labs hp
    have hlm : (ls.length : Int) ≤ 9223372036854775807 := by omega
    have HC : Hid (∀ i (hi : i < ls.length), ∃ b off k t, ls[i] = (k, t) ∧ la = some ⟨b, off, none⟩ ∧ w.cell? ⟨b, off + i * 2, none⟩ = some (.int .i64 k) ∧ w.cell? ⟨b, off + i * 2 + 1, none⟩ = some (.int .i64 t) ∧ (0 ≤ k ∧ k ≤ 7) ∧ (0 ≤ t ∧ t ≤ 7)) := (show ∀ i (hi : i < ls.length), _ by
      intro i hi
      obtain ⟨b, off, ha, h0, h1⟩ := HCL.out i hi
      have := List.all_eq_true.1 hls ls[i] (List.getElem_mem hi)
      exact ⟨b, off, _, _, rfl, ha, h0, h1, okB_iff.1 this⟩)
    clear HCL HZ hls hp
    go_wp2_with (at_make; refine wpList_make_full _ rfl _ _ 43 rfl w.heap.size 4 i0 _ 1 Tryz.underlying43 hi0 hz0 hz1 .i64 .i64 _ _ ls.length rfl rfl rfl rfl ?b2 ?b3 ?b4 ?_)
    case b2 => rw [hz2]; omega
    case b3 => unfold maxLen; omega
    case b4 => omega
    intro w2 own2 grow2
    have B2 : Below w.heap.size w w2 := HB1.out.grown grow2 (by omega) (fun j hj => by cases hj)
    have p1 : w2.cell? ⟨w.heap.size, 0, none⟩ = some (.slice la ls.length lc) := by
      rw [World.cell?_of_block (grow2.block w.heap.size s1 (by simp))]; exact p0
    have s2 : w1.heap.size ≤ w2.heap.size := grow2.size
    have H0 : Hid (∃ ys : List Value, w2.ownsRow w.heap.size 4 1 (.slice (some ⟨w1.heap.size, 0, none⟩) ls.length ls.length) ls.length ys) := ⟨_, own2⟩
    have HB2 : Hid _ := B2
    clear own2 grow2 p0 HB1 B2
    go_wp2
    go_loopw [8, 20] (fun j k wr => ∃ (i : Nat) (ys : List Value), i ≤ ls.length ∧ k = .int .i64 i ∧ Below w.heap.size w wr ∧ wr.ownsRow w.heap.size 4 1 (.slice (some ⟨w1.heap.size, 0, none⟩) ls.length ls.length) ls.length ys ∧ (∀ q (hq : q < ls.length), q < i → ys[q]? = some (.bool (hosB ls[q].1 h))) ∧ w1.heap.size ≤ wr.heap.size) (fun _ j _ => ls.length - (intOf j).toNat)
    case atStart => obtain ⟨ys, hy⟩ := H0.out; exact ⟨0, ys, by omega, rfl, HB2.out, hy, fun q _ h => by omega, s2⟩
    case round =>
      clear H0 HB2 p1
      obtain ⟨i, ys, hi, rfl, hbr, hor, hys, hsz⟩ := hrel
      by_cases hlt : i < ls.length
      · obtain ⟨b, off, k, t, hx, rfl, h0, h1, ⟨k0, k7⟩, t0, t7⟩ := HC.out i hlt
        replace h0 := cell_later hbr h0
        replace h1 := cell_later hbr h1
        have i0' : (0 : Int) ≤ (i : Int) := by omega
        have i1' : (i : Int) < (ls.length : Int) := by omega
        have HBR : Hid (Below w.heap.size w wr) := hbr
        have HOR : Hid _ := hor
        have HYS : Hid _ := hys
        have HX : Hid (ls[i] = (k, t)) := hx
        clear hbr hor hys hx
        have hl4 : i < 4 := by omega
        go_wp2_with fail
        go_at_call 18; refine (isBelow_any _ _ _).mono ?_; rintro e w3 ⟨rfl, hw3⟩
        have B3 : Below wr.heap.size wr w3 := by
          rw [hw3]
          repeat' (first | exact Below.refl _ _ | assumption | (refine Below.drew ?_) | (refine Below.then ?_ (by assumption) ?_) | (refine Below.alloc ?_ ?_ _) | (refine Below.setCell ?_ ?_ _) | (simp; done) | (simp at *; omega) | omega)
        have c0 : w3.cell? ⟨wr.heap.size, 0, none⟩ = some (.int .i64 k) := by rw [hw3]; simp [go_sem, World.cell?_setCell_far]
        have c1 : w3.cell? ⟨wr.heap.size, 1, none⟩ = some (.int .i64 t) := by rw [hw3]; simp [go_sem, World.cell?_setCell_far]
        have HO3 : Hid (w3.ownsRow w.heap.size 4 1 (.slice (some ⟨w1.heap.size, 0, none⟩) ls.length ls.length) ls.length ys) := rowp_below HOR.out B3
        have BW3 : Hid (Below w.heap.size w w3) := Below.then HBR.out B3 HBR.out.size
        have s3 : w1.heap.size ≤ w3.heap.size := by have := B3.size; omega
        clear hw3 h0 h1 B3 HBR HOR
        cases hv : vIn 3 h
        · obtain ⟨v0, cg, fg⟩ := row1_cell HO3.out hlt
          have HV : Hid (hosB ls[i].1 h = false) := (show hosB ls[i].1 h = false by
            unfold hosB
            unfold vIn at hv
            rw [← Bool.and_assoc, hv, Bool.false_and])
          clear c0 c1
          go_wp2
          refine ⟨⟨i + 1, ys.set i (.bool false), by omega, by simp, BW3.out.setCell (by show w.heap.size ≤ w1.heap.size; omega) _, (World.ownsRow.stored HO3.out i (.bool false)).1, ?_, by simpa [World.setCell] using s3⟩, by simp [intOf]; omega⟩
          intro q hq hqi
          by_cases hqe : q = i
          · subst hqe
            have yl : ys.length = ls.length * 1 := HO3.out.1
            rw [HV.out, List.getElem?_set_self (by omega)]
          · rw [List.getElem?_set_ne (by omega)]
            exact HYS.out q hq (by omega)
        · obtain ⟨h30, h33⟩ : 0 ≤ h ∧ h < 3 := by simpa [vIn] using hv
          have HV : Hid (hosB ls[i].1 h = hasB k h) := (show hosB ls[i].1 h = hasB k h by rw [HX.out]; simp [hosB, h30, h33])
          go_wp2_with fail
          go_at_call 48; refine (knowers_any _ _ _).mono ?_; rintro e w4 ⟨rfl, hb4⟩
          have HO4 : Hid (w4.ownsRow w.heap.size 4 1 (.slice (some ⟨w1.heap.size, 0, none⟩) ls.length ls.length) ls.length ys) := rowp_below HO3.out hb4
          have BW4 : Hid (Below w.heap.size w w4) := Below.then BW3.out hb4 BW3.out.size
          have s4 : w1.heap.size ≤ w4.heap.size := by have := hb4.size; omega
          obtain ⟨v0, cg, fg⟩ := row1_cell HO4.out hlt
          clear hb4 HO3 BW3 c0 c1
          go_wp2_with fail
          go_at_call 67; refine (has_any _ _ _ (by omega) (by omega) (by omega) (by omega)).mono ?_; rintro e w5 ⟨rfl, hw5⟩
          rw [hw5]
          clear hw5 w5
          generalize hasB k h = res at *
          go_wp2
          refine ⟨⟨i + 1, ys.set i (.bool res), by omega, by simp, BW4.out.setCell (by show w.heap.size ≤ w1.heap.size; omega) _, (World.ownsRow.stored HO4.out i (.bool res)).1, ?_, by simpa [World.setCell] using s4⟩, by simp [intOf]; omega⟩
          intro q hq hqi
          by_cases hqe : q = i
          · subst hqe
            have yl : ys.length = ls.length * 1 := HO4.out.1
            rw [HV.out, List.getElem?_set_self (by omega)]
          · rw [List.getElem?_set_ne (by omega)]
            exact HYS.out q hq (by omega)
      · have : i = ls.length := by omega
        subst this
        have yl : ys.length = ls.length * 1 := hor.1
        have ye : ys = (knowL ls h).map Value.bool := by
          apply List.ext_getElem?
          intro q
          by_cases hq : q < ls.length
          · rw [hys q hq hq]; simp [knowL, hq]
          · rw [List.getElem?_eq_none (by omega), List.getElem?_eq_none (by simp [knowL]; omega)]
        have kl : (knowL ls h).length = ls.length := by simp [knowL]
        rw [ye] at hor
        have hor' : wr.ownsRow w.heap.size 4 1 (.slice (some ⟨w1.heap.size, 0, none⟩) ls.length ls.length) (knowL ls h).length ((knowL ls h).map Value.bool) := by rw [kl]; exact hor
        obtain ⟨bs, g1, g2⟩ := row_gown hor'
        have HG : Hid (GOwn Value.bool wr (.slice (some ⟨w1.heap.size, 0, none⟩) ls.length ls.length) (knowL ls h) bs ∧ (∀ b ∈ bs, w.heap.size ≤ b ∧ b < wr.heap.size)) := ⟨g1, fun b hb => World.ownsRow.lt hor b (g2 b hb)⟩
        have HBR : Hid (Below w.heap.size w wr) := hbr
        clear hor hor' g1 g2 hbr ye yl hys kl
        go_wp2
        go_ret
        exact ⟨_, bs, rfl, HBR.out, by rw [HE.out]; exact HG.out.1, HG.out.2⟩

theorem typeKnows_any {d : Nat} {T : Tr d} {lv sv : Value} {ls : List (Int × Int)} (h : Int) {w : World} (hL : LRep w lv ls) (hR : Rep w d sv T) :
    Calls Tryz.prog 20 #[.agg #[lv, sv], .int .i64 h] w (KnPost w (if progB ls d T then knowL ls h else [])) := by
  have A : Below w.heap.size w (w.alloc (.cells #[lv, sv] 26)) := (Below.refl _ _).alloc (Nat.le_refl _) _
  have C1 : Hid _ := hostRow_know h (hL.below A) (hR.below A)
  obtain ⟨la, lc, rfl, hlc, hcm, hcell⟩ := hL
  obtain ⟨sa, sc, rfl⟩ := hR.slice
  generalize (if progB ls d T = true then knowL ls h else []) = zs at *
  have HA : Hid _ := A
  clear hR hcell A
  go_enter Tryz.func20, Tryz.ntmps20
  go_wp2_with fail
  go_at_call 47; refine Calls.mono C1.out ?_; rintro e w1 ⟨v, bs, rfl, hb1, hg, hr⟩
  obtain ⟨va, vc, rfl, -⟩ := hg.rep
  have HG : Hid _ := hg
  have HB : Hid _ := hb1
  clear hg hb1
  go_wp2
  go_ret
  exact ⟨_, bs, rfl, Below.then HA.out HB.out (by simp), HG.out, fun b hb => by have := hr b hb; simp at this; omega⟩

set_option maxHeartbeats 2000000 in
set_option maxRecDepth 8000 in
theorem sTypeKnows_any {d : Nat} {T : Tr d} {lv sv : Value} {ls : List (Int × Int)} (h : Int) {w : World} (hL : LRep w lv ls) (hR : Rep w d sv T) (hcn : cnt d T ≤ 1048576) :
    Calls Tryz.prog 16 #[.agg #[lv, sv], .int .i64 h] w (KnPost w (if progB ls d T then knowL ls h else [])) := by
  obtain ⟨i0, hi0, hz0, hz1, hz2⟩ := info_parts infoBool
  have HLR : Hid (∀ w', Below w.heap.size w w' → LRep w' lv ls ∧ Rep w' d sv T) := (show ∀ w', _ from fun w' hb => ⟨hL.below hb, hR.below hb⟩)
  obtain ⟨la, lc, rfl, hlc, hcm, hcell⟩ := hL
  obtain ⟨sa, sc, rfl⟩ := hR.slice
  have hlm : (ls.length : Int) ≤ 9223372036854775807 := by unfold maxLen at hcm; omega
  generalize hz : (if progB ls d T = true then knowL ls h else []) = zs
  have HZ : Hid _ := hz
  have HCL : Hid _ := hcell
  clear hz hR hcell
  have H0 : Hid (Below w.heap.size w ((w.alloc (.cells #[.slice la ls.length lc, .slice sa (ln d T) sc] 26)).alloc (.cells #[] 4)) ∧ ((w.alloc (.cells #[.slice la ls.length lc, .slice sa (ln d T) sc] 26)).alloc (.cells #[] 4)).cell? ⟨w.heap.size, 0, none⟩ = some (.slice la ls.length lc) ∧ ((w.alloc (.cells #[.slice la ls.length lc, .slice sa (ln d T) sc] 26)).alloc (.cells #[] 4)).cell? ⟨w.heap.size, 1, none⟩ = some (.slice sa (ln d T) sc) ∧ w.heap.size < ((w.alloc (.cells #[.slice la ls.length lc, .slice sa (ln d T) sc] 26)).alloc (.cells #[] 4)).heap.size ∧ ((w.alloc (.cells #[.slice la ls.length lc, .slice sa (ln d T) sc] 26)).alloc (.cells #[] 4)).ownsRow (w.heap.size + 1) 4 1 (.slice (some ⟨w.heap.size + 1, 0, none⟩) 0 0) 0 []) :=
    ⟨((Below.refl _ _).alloc (Nat.le_refl _) _).alloc (by simp) _, by simp [go_sem], by simp [go_sem], by simp; omega, by
      have := World.ownsRow_made (base := w.heap.size + 1) (e := 4) (size := 1) (w.alloc (.cells #[.slice la ls.length lc, .slice sa (ln d T) sc] 26)) #[] 0 (by simp) (by unfold maxLen; omega) (by simp)
      simpa using this⟩
  go_enter Tryz.func16, Tryz.ntmps16
  go_wp2
  go_loopw [5, 6] (fun o j wr => ∃ (i : Nat) (c : Nat) (g : Nat), i ≤ ls.length ∧ j = .int .i64 i ∧ o = .slice (some ⟨g, 0, none⟩) i c ∧ Below w.heap.size w wr ∧ (wr.cell? ⟨w.heap.size, 0, none⟩ = some (.slice la ls.length lc) ∧ wr.cell? ⟨w.heap.size, 1, none⟩ = some (.slice sa (ln d T) sc)) ∧ w.heap.size < wr.heap.size ∧ wr.ownsRow (w.heap.size + 1) 4 1 o i ((((knowL ls h).take i)).map Value.bool) ∧ (0 < i → progB ls d T = true)) (fun _ j _ => ls.length - (intOf j).toNat)
  case atStart => exact ⟨0, 0, _, by omega, rfl, rfl, H0.out.1, ⟨H0.out.2.1, H0.out.2.2.1⟩, H0.out.2.2.2.1, H0.out.2.2.2.2, fun h => by omega⟩
  case round =>
    clear H0
    obtain ⟨i, c, g, hi, rfl, rfl, hbr, ⟨x0, x1⟩, hsz, hor, hpi⟩ := hrel
    have HOR : Hid _ := hor
    have HBR : Hid (Below w.heap.size w wr) := hbr
    have hgl := World.ownsRow.lt hor g rfl
    have kl : (knowL ls h).length = ls.length := by simp [knowL]
    have HKL : Hid _ := kl
    have HPI : Hid _ := hpi
    clear hor hbr kl hpi
    have END : Hid (∀ (wz : World) (i : Nat) (c : Nat), wz.ownsRow (w.heap.size + 1) 4 1 (.slice (some ⟨g, 0, none⟩) i c) i ((((knowL ls h).take i)).map Value.bool) → (knowL ls h).take i = zs → i ≤ ls.length → ∃ bs, GOwn Value.bool wz (.slice (some ⟨g, 0, none⟩) i c) zs bs ∧ (∀ b ∈ bs, w.heap.size ≤ b ∧ b < wz.heap.size)) := (show ∀ (wz : World) (i : Nat) (c : Nat), _ by
      intro wz i c ho hz hi
      have hl : zs.length = i := by rw [← hz]; simp [HKL.out, hi]
      rw [hz] at ho
      have ho' : wz.ownsRow (w.heap.size + 1) 4 1 (.slice (some ⟨g, 0, none⟩) i c) zs.length (zs.map Value.bool) := by rw [hl]; exact ho
      obtain ⟨bs, g1, g2⟩ := row_gown ho'
      exact ⟨bs, g1, fun b hb => by have := World.ownsRow.lt ho b (g2 b hb); omega⟩)
    by_cases hlt : i < ls.length
    · have i0' : (0 : Int) ≤ (i : Int) := by omega
      have i1' : (i : Int) < (ls.length : Int) := by omega
      have C1 : Hid _ := sProgOk_any (HLR.out wr HBR.out).1 (HLR.out wr HBR.out).2 hcn
      go_wp2_with fail
      go_at_call 13; refine Calls.mono C1.out ?_; rintro e w1 ⟨rfl, hb1⟩
      replace x0 := cell_later hb1 x0
      replace x1 := cell_later hb1 x1
      have HO1 : Hid (w1.ownsRow (w.heap.size + 1) 4 1 (.slice (some ⟨g, 0, none⟩) i c) i ((((knowL ls h).take i)).map Value.bool)) := rowp_below HOR.out hb1
      have HB1 : Hid (Below w.heap.size w w1) := Below.then HBR.out hb1 HBR.out.size
      have s1 : wr.heap.size ≤ w1.heap.size := hb1.size
      clear hb1 C1 HOR HBR
      cases hp : progB ls d T
      · have hz' : zs = [] := by rw [← HZ.out, hp]; rfl
        have h0 : i = 0 := by
          rcases Nat.eq_zero_or_pos i with h | h
          · exact h
          · have := HPI.out h; rw [hp] at this; cases this
        obtain ⟨bs, g1, g2⟩ := END.out w1 i c HO1.out (by rw [hz', h0]; rfl) hi
        have HG : Hid (GOwn Value.bool w1 (.slice (some ⟨g, 0, none⟩) i c) zs bs) := g1
        clear g1 h0 hz'
        go_wp2
        go_ret
        exact ⟨_, bs, rfl, HB1.out, HG.out, g2⟩
      · have hls := progB_labs hp
        obtain ⟨b, off, ha, h0, h1⟩ := HCL.out i hlt
        have hk := List.all_eq_true.1 hls ls[i] (List.getElem_mem hlt)
        have hk' : (0 ≤ ls[i].1 ∧ ls[i].1 ≤ 7) ∧ (0 ≤ ls[i].2 ∧ ls[i].2 ≤ 7) := okB_iff.1 hk
        replace h0 := cell_later HB1.out h0
        have HT : Hid ((knowL ls h).take (i + 1) = (knowL ls h).take i ++ [hosB ls[i].1 h]) := (show (knowL ls h).take (i + 1) = (knowL ls h).take i ++ [hosB ls[i].1 h] by
          rw [List.take_succ_eq_append_getElem (by rw [HKL.out]; exact hlt)]
          simp [knowL])
        obtain ⟨⟨k0, k7⟩, t0, t7⟩ := hk'
        generalize ls[i] = y at *
        obtain ⟨k, t⟩ := y
        dsimp only at h0 h1 k0 k7 t0 t7
        subst ha
        clear h1 hk hls
        go_wp2_with fail
        go_at_call 44; refine (l1Has_all _ _ _ (by omega) (by omega)).mono ?_; rintro e w2 ⟨rfl, hw2⟩
        rw [hw2]
        clear hw2 w2
        generalize hosB k h = res at *
        go_wp2_with (at_builtin; refine wpList_append_own_at _ rfl _ _ 43 rfl (w.heap.size + 1) 4 i0 _ 1 1 Tryz.underlying43 hi0 hz0 hz1 hz2 rfl (by decide) _ _ _ rfl (HO1.out.alloc _) ⟨w1.heap.size, 0, none⟩ 1 1 [.bool res] rfl rfl ?c1 ?c2 ?c3 ?c4 ?c5 ?_)
        case c1 => exact cells_new1 _ _ _ _ rfl
        case c2 => simp [Value.oneCell']
        case c3 => unfold maxLen at hcm ⊢; have := progB_len hp; omega
        case c4 => have := progB_len hp; omega
        case c5 => simp; omega
        intro v3 w3 own3 grow3 hn3 hat3
        have B3 : Below w.heap.size w w3 := (HB1.out.alloc (by omega) _).grown grow3 (by simp; omega) (fun j hj => by have : g = j := Option.some.inj hj; omega)
        have nn3 : v3 ≠ .slice none 0 0 := by intro e; have := hn3; simp [e] at this
        have bx : w3.heap[w.heap.size]? = w1.heap[w.heap.size]? := (grow3.block w.heap.size (by simp; omega) (by intro e; have : w.heap.size = g := Option.some.inj e; omega)).trans (Below.heap_alloc _ _ _ (by omega))
        have y0 : w3.cell? ⟨w.heap.size, 0, none⟩ = some (.slice (some ⟨b, off, none⟩) ls.length lc) := (World.cell?_of_block bx).trans x0
        have y1 : w3.cell? ⟨w.heap.size, 1, none⟩ = some (.slice sa (ln d T) sc) := (World.cell?_of_block bx).trans x1
        obtain ⟨g3, c3, hv3⟩ : ∃ g3 c3, v3 = .slice (some ⟨g3, 0, none⟩) (i + 1) c3 := by
          obtain ⟨_, ⟨h1, _⟩ | ⟨g, cap, cur, hv', _⟩⟩ := id own3
          · exact (nn3 h1).elim
          · exact ⟨g, cap, hv'⟩
        subst hv3
        have s3 : w.heap.size < w3.heap.size := by have := grow3.size; simp at this; omega
        have H3 : Hid (w3.ownsRow (w.heap.size + 1) 4 1 (.slice (some ⟨g3, 0, none⟩) (i + 1) c3) (i + 1) ((((knowL ls h).take (i + 1))).map Value.bool)) := (show w3.ownsRow (w.heap.size + 1) 4 1 (.slice (some ⟨g3, 0, none⟩) (i + 1) c3) (i + 1) ((((knowL ls h).take (i + 1))).map Value.bool) by
          rw [HT.out, List.map_append, List.map_take]; exact own3)
        have HB3 : Hid _ := B3
        clear own3 grow3 hn3 hat3 nn3 bx B3 x0 x1 h0 HO1 HB1
        go_wp2
        exact ⟨⟨i + 1, c3, g3, by omega, by simp, by simp, HB3.out, ⟨y0, y1⟩, s3, by simpa using H3.out, fun _ => hp⟩, by simp [intOf]; omega⟩
    · have : i = ls.length := by omega
      subst this
      have hz' : (knowL ls h).take ls.length = zs := by
        rw [← HZ.out]
        cases hp : progB ls d T
        · have : ls.length = 0 := by
            rcases Nat.eq_zero_or_pos ls.length with h | h
            · exact h
            · have := HPI.out h; rw [hp] at this; cases this
          rw [this]; rfl
        · rw [if_pos rfl, ← HKL.out, List.take_length]
      obtain ⟨bs, g1, g2⟩ := END.out wr _ c HOR.out hz' (Nat.le_refl _)
      have HG : Hid (GOwn Value.bool wr (.slice (some ⟨g, 0, none⟩) ls.length c) zs bs) := g1
      clear g1 hz'
      go_wp2
      go_ret
      exact ⟨_, bs, rfl, HBR.out, HG.out, g2⟩

end Go.Proofs.YthcgdhlemieboaaGreat

/- An argument laid anew: steps, labels, a program. -/
import Derived.Test.YtlhfbhidgabgbaaToA
import Derived.Test.YtlhfbhidgabgbaaCsB
import Derived.OwnWalk
import Derived.Deep.Upon
namespace Go.Proofs.Ytlhfbhidgabgbaa
open Go.RowKit
set_option linter.unusedSimpArgs false
set_option linter.unusedVariables false

theorem below_setCells {B : Nat} {a : World} {g : Nat} (hg : B ≤ g) : ∀ (vs : List Value) (o : Nat) (w : World), Below B a w → Below B a (w.setCells g o vs)
  | [], _, _, h => h
  | v :: r, o, w, h => below_setCells hg r (o + 1) _ (h.setCell hg v)
theorem heap_setCells {g : Nat} : ∀ (vs : List Value) (o : Nat) (w : World) (b : Nat), b ≠ g → (w.setCells g o vs).heap[b]? = w.heap[b]?
  | [], _, _, _, _ => rfl
  | v :: r, o, w, b, h => (heap_setCells r (o + 1) _ b h).trans (Below.heap_setCell _ _ _ _ h)
theorem size_setCells {g : Nat} : ∀ (vs : List Value) (o : Nat) (w : World), (w.setCells g o vs).heap.size = w.heap.size
  | [], _, _ => rfl
  | v :: r, o, w => (size_setCells r (o + 1) _).trans (by simp [World.setCell])
theorem row_there {w : World} {base : Nat} {e : TypeId} {size g n c : Nat} {xs : List Value} (h : w.ownsRow base e size (.slice (some ⟨g, 0, none⟩) n c) n xs) : w.there g 0 (n * size) := by
  obtain ⟨_, ⟨h1, _⟩ | ⟨g', cap, cur, hv, hg, hh, hc, hm, hs, ht⟩⟩ := h
  · cases h1
  · cases hv
    intro j hj
    have hlt : j < cur.size := by rw [hs]; exact Nat.lt_of_lt_of_le hj (Nat.mul_le_mul_right _ hc)
    constructor
    · simp [World.cell?, hh, hlt]
    · simp [World.frozen?, hh]

set_option maxHeartbeats 4000000 in
theorem toStepS_any : ∀ (d : Nat) (T : Tr d) (s : Value) (w : World), Rep w d s T → cnt d T ≤ 1048576 →
    Calls Try.prog 63 #[s] w fun e w' => ∃ v' bs, e = .returned v' ∧ Below w.heap.size w w' ∧ Own w' d v' T bs ∧ (∀ b ∈ bs, w.heap.size ≤ b ∧ b < w'.heap.size) ∧ bs.Nodup := by
  intro d
  obtain ⟨i0, hi0, hz0, hz1, hz2⟩ := info_parts infoStep
  induction d with
  | zero =>
    intro T s w h hc
    obtain ⟨a, c, rfl⟩ := h
    go_enter Try.func63, Try.ntmps63
    go_wp2_with (at_make; refine wpList_make_full _ rfl _ _ 24 rfl w.heap.size 91 i0 _ 8 Try.underlying24 hi0 hz0 hz1 _ _ _ _ 0 rfl rfl rfl rfl ?b2 ?b3 ?b4 ?_)
    case b2 => rw [hz2]; omega
    case b3 => unfold maxLen; omega
    case b4 => exact Nat.le_refl _
    intro w0 own0 grow0
    have B0 : Below w.heap.size w w0 := (Below.refl _ _).grown grow0 (Nat.le_refl _) (fun k hk => by cases hk)
    clear own0 grow0
    go_wp2_with fail
    refine wp_loop_rounds 1 ?_
    rw [rounds_succ]
    go_wp2
    go_ret
    exact ⟨_, [], rfl, B0, ⟨⟨_, _, rfl⟩, rfl⟩, by simp, by simp⟩
  | succ d ih =>
    intro (l : List (Pay × Tr d × Tr d)) s w h hcn
    obtain ⟨a, c, rfl, hlc, hcm, hcell⟩ := h
    have hll := ln_le_cnt (d + 1) (l : List (Pay × Tr d × Tr d))
    have hll' : l.length ≤ cnt (d + 1) (l : List (Pay × Tr d × Tr d)) := hll
    have hlen : l.length ≤ 1048576 := by omega
    have HC : Hid (∀ i (hi : i < l.length), ∃ (p : Pay) (T1 T2 : Tr d) (b off : Nat) (ta : Option Addr) (tc : Nat) (ea : Option Addr) (ec : Nat), l[i] = (p, T1, T2) ∧ a = some ⟨b, off, none⟩ ∧ StepAt w b (off + i * 8) p (.slice ta (ln d T1) tc) (.slice ea (ln d T2) ec) ∧ Rep w d (.slice ta (ln d T1) tc) T1 ∧ Rep w d (.slice ea (ln d T2) ec) T2) := (show ∀ i (hi : i < l.length), _ by
      intro i hi
      obtain ⟨b, off, t, e, ha, hS, r1, r2⟩ := hcell i hi
      obtain ⟨ta, tc, rfl⟩ := r1.slice
      obtain ⟨ea, ec, rfl⟩ := r2.slice
      exact ⟨_, _, _, b, off, ta, tc, ea, ec, rfl, ha, hS, r1, r2⟩)
    have IH : Hid _ := ih
    clear ih hcell hll
    go_enter Try.func63, Try.ntmps63
    go_wp2_with (at_make; refine wpList_make_full _ rfl _ _ 24 rfl w.heap.size 91 i0 _ 8 Try.underlying24 hi0 hz0 hz1 _ _ _ _ l.length rfl rfl rfl rfl ?b2 ?b3 ?b4 ?_)
    case b2 => rw [hz2]; omega
    case b3 => unfold maxLen; omega
    case b4 => exact Nat.le_refl _
    intro w0 own0 grow0
    have t0 := row_there own0
    have B0 : Below w.heap.size w w0 := (Below.refl _ _).grown grow0 (Nat.le_refl _) (fun k hk => by cases hk)
    have s0 : w.heap.size < w0.heap.size := (own0.lt w.heap.size rfl).2
    clear own0 grow0
    go_wp2_with fail
    go_loopw [4] (fun j wr => ∃ (i : Nat) (parts : List (List Nat)), i ≤ l.length ∧ j = .int .i64 i ∧ Below w.heap.size w wr ∧ w.heap.size < wr.heap.size ∧ wr.there w.heap.size 0 (l.length * 8) ∧ parts.length = i ∧ (∀ b ∈ parts.flatten, w.heap.size < b ∧ b < wr.heap.size) ∧ parts.flatten.Nodup ∧
        ∀ q (hq : q < l.length), q < i → ∃ t e b1 b2, parts[q]? = some (b1 ++ b2) ∧ wr.rangeAt w.heap.size (q * 8) (cells8 l[q].1 t e) ∧ Own wr d t l[q].2.1 b1 ∧ Own wr d e l[q].2.2 b2) (fun j _ => l.length - (intOf j).toNat)
    case atStart => exact ⟨0, [], by omega, rfl, B0, s0, t0, rfl, by simp, by simp, fun q _ h => by omega⟩
    case round =>
      obtain ⟨i, parts, hi, rfl, hbr, hgs, hth, hpl, hrg, hnd, hown⟩ := hrel
      have hsz : w.heap.size ≤ wr.heap.size := hbr.size
      by_cases hlt : i < l.length
      · obtain ⟨p, T1, T2, b, off, ta, tc, ea, ec, hx, rfl, hS, r1, r2⟩ := HC.out i hlt
        obtain ⟨k0, k1, k2, k3, k4, k5, k6, k7⟩ := hS.on (w' := wr) (fun a v h => cell_later hbr h)
        have i0' : (0 : Int) ≤ (i : Int) := by omega
        have i1' : (i : Int) < (l.length : Int) := by omega
        have q1 := cnt_take l i hlt
        rw [hx] at q1
        dsimp only at q1
        have q2 := cnt_take_le l (i + 1)
        have c1 : Hid (Calls Try.prog 91 #[.agg #[.int .i64 p.k, .int .i64 p.v, .int .i64 p.vk, .int .i64 p.va, .int .i64 p.vb, .int .i64 p.h, .slice ta (ln d T1) tc, .slice ea (ln d T2) ec]] wr
            fun e w' => ∃ t' e' b1 b2, e = .returned (.agg #[.int .i64 p.k, .int .i64 p.v, .int .i64 p.vk, .int .i64 p.va, .int .i64 p.vb, .int .i64 p.h, t', e']) ∧ Below wr.heap.size wr w' ∧ Own w' d t' T1 b1 ∧ Own w' d e' T2 b2 ∧ (∀ b ∈ b1 ++ b2, wr.heap.size ≤ b ∧ b < w'.heap.size) ∧ (b1 ++ b2).Nodup) :=
          toStep_of d T1 T2 p ta ea (ln d T1) tc (ln d T2) ec wr (fun wx hwx => IH.out T1 _ wx ((r1.below hbr).below hwx) (by omega)) (fun wx hwx => IH.out T2 _ wx ((r2.below hbr).below hwx) (by omega))
        have HTH : Hid _ := hth
        have HRG : Hid _ := hrg
        have HOW : Hid _ := hown
        have HBR : Hid (Below w.heap.size w wr) := hbr
        clear hS r1 r2 q1 q2 hth hrg hown hbr
        go_wp2_with fail
        go_at_call 91; refine Calls.mono c1.out ?_
        rintro e w1 ⟨t', e', b1, b2, rfl, hb1, o1, o2, rg, nd⟩
        obtain ⟨ta', tc', rfl⟩ := o1.slice
        obtain ⟨ea', ec', rfl⟩ := o2.slice
        clear k0 k1 k2 k3 k4 k5 k6 k7 c1
        have th1 : w1.there w.heap.size 0 (l.length * 8) := there_same (hb1.block _ hgs) HTH.out
        have HT1 : Hid (w1.there w.heap.size (i * 8) 8) := (show w1.there w.heap.size (i * 8) 8 from fun j hj => by
          have := th1 (i * 8 + j) (by omega)
          rwa [Nat.zero_add] at this)
        have H1 : Hid _ := th1
        have HB1 : Hid (Below wr.heap.size wr w1) := hb1
        have HO1 : Hid _ := o1
        have HO2 : Hid _ := o2
        clear th1 hb1 o1 o2
        go_wp2_with (refine wpList_store_mid rfl _ _ _ rfl w.heap.size (i * 8) _ rfl rfl ?ht ?hi ?h1 ?_)
        case ht => exact HT1.out
        case hi => rw [hi0]; simp [hz1]
        case h1 => exact all_oneCell_toArray (cells8_one p ta' ea' _ _ _ _)
        have hb1 : Below wr.heap.size wr w1 := HB1.out
        have s1 : wr.heap.size ≤ w1.heap.size := hb1.size
        have hrg : ∀ b ∈ parts.flatten, w.heap.size < b ∧ b < wr.heap.size := HRG.out
        have hhp : ∀ b, w.heap.size < b → b < wr.heap.size → (w1.setCells w.heap.size (i * 8) (cells8 p (.slice ta' (ln d T1) tc') (.slice ea' (ln d T2) ec'))).heap[b]? = wr.heap[b]? := fun b h1 h2 => (heap_setCells _ _ _ _ (by omega)).trans (hb1.block b h2)
        have hhp2 : ∀ b, w.heap.size < b → (w1.setCells w.heap.size (i * 8) (cells8 p (.slice ta' (ln d T1) tc') (.slice ea' (ln d T2) ec'))).heap[b]? = w1.heap[b]? := fun b h1 => heap_setCells _ _ _ _ (by omega)
        refine ⟨⟨i + 1, parts ++ [b1 ++ b2], by omega, by simp, below_setCells (Nat.le_refl _) _ _ _ (Below.then HBR.out hb1 hsz), by rw [size_setCells]; omega, World.there_setCells H1.out _ _ _, by simp [hpl], ?_, ?_, ?_⟩, by simp [intOf]; omega⟩
        · intro b hb
          rw [size_setCells]
          rw [List.flatten_append] at hb
          rcases List.mem_append.1 hb with hb | hb
          · have := hrg b hb; omega
          · have := rg b (by simpa using hb); omega
        · rw [List.flatten_append]
          refine List.nodup_append.2 ⟨hnd, by simpa using nd, ?_⟩
          intro a ha b hb
          have := hrg a ha
          have := rg b (by simpa using hb)
          omega
        · intro q hq hqi
          by_cases hqe : q = i
          · subst hqe
            refine ⟨.slice ta' (ln d T1) tc', .slice ea' (ln d T2) ec', b1, b2, by rw [List.getElem?_append_right (by omega), hpl]; simp, ?_, ?_, ?_⟩
            · rw [hx]; exact World.rangeAt_setCells_same w1 w.heap.size (q * 8) (cells8 p (.slice ta' (ln d T1) tc') (.slice ea' (ln d T2) ec')) HT1.out
            · rw [hx]; exact Own.frame (fun b hb => hhp2 b (by have := rg b (List.mem_append_left _ hb); omega)) HO1.out
            · rw [hx]; exact Own.frame (fun b hb => hhp2 b (by have := rg b (List.mem_append_right _ hb); omega)) HO2.out
          · obtain ⟨t, e, c1, c2, hp1, hra, oo1, oo2⟩ := HOW.out q hq (by omega)
            have hm : ∀ b ∈ c1 ++ c2, b ∈ parts.flatten := fun b hbm => List.mem_flatten.2 ⟨_, List.mem_of_getElem? hp1, hbm⟩
            refine ⟨t, e, c1, c2, by rw [List.getElem?_append_left (by omega)]; exact hp1, World.rangeAt_setCells_apart (range_same (hb1.block _ hgs) hra) _ _ _ (.inr (.inl (by simp [cells8]; omega))), ?_, ?_⟩
            · exact Own.frame (fun b hb => by have := hrg b (hm b (List.mem_append_left _ hb)); exact hhp b this.1 this.2) oo1
            · exact Own.frame (fun b hb => by have := hrg b (hm b (List.mem_append_right _ hb)); exact hhp b this.1 this.2) oo2
      · have hie : i = l.length := by omega
        subst hie
        have HTH : Hid _ := hth
        have HRG : Hid _ := hrg
        have HOW : Hid _ := hown
        have HBR : Hid (Below w.heap.size w wr) := hbr
        clear hth hrg hown hbr
        go_wp2
        go_ret
        by_cases hz : l.length = 0
        · exact ⟨_, [], rfl, HBR.out, .inl ⟨hz, ⟨_, _, by rw [hz]; rfl, by unfold maxLen; omega⟩, rfl⟩, by simp, by simp⟩
        · refine ⟨_, w.heap.size :: parts.flatten, rfl, HBR.out, .inr ⟨by omega, w.heap.size, l.length, parts, rfl, Nat.le_refl _, by unfold maxLen; omega, HTH.out, hpl, rfl, fun q hq => HOW.out q hq hq⟩, ?_, ?_⟩
          · intro b hb
            rcases List.mem_cons.1 hb with rfl | hb
            · exact ⟨Nat.le_refl _, hgs⟩
            · have := HRG.out b hb; omega
          · refine List.nodup_cons.2 ⟨fun hm => ?_, hnd⟩
            have := HRG.out _ hm; omega

end Go.Proofs.Ytlhfbhidgabgbaa

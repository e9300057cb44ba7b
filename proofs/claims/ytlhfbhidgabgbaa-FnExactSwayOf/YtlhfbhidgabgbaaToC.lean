/- An argument laid anew: labels, a program. -/
import Derived.Test.YtlhfbhidgabgbaaToB
namespace Go.Proofs.Ytlhfbhidgabgbaa
open Go.RowKit
set_option linter.unusedSimpArgs false
set_option linter.unusedVariables false
attribute [local go_sem] World.cell?_alloc_some

theorem toLabel_any (k t : Int) (w : World) :
    Calls Try.prog 90 #[.agg #[.int .i64 k, .int .i64 t]] w fun e w' => e = .returned (.agg #[.int .i64 k, .int .i64 t]) ∧ Below w.heap.size w w' := by
  go_enter Try.func90, Try.ntmps90
  go_wp2
  refine bodyPost_ret (v := .agg #[.int .i64 k, .int .i64 t]) (by simp [results, Try.results90, go_sem]) rfl ⟨rfl, ?_⟩
  repeat' (first | exact Below.refl _ _ | assumption | (refine Below.drew ?_) | (refine Below.then ?_ (by assumption) ?_) | (refine Below.alloc ?_ ?_ _) | (refine Below.setCell ?_ ?_ _) | (simp; done) | (simp at *; omega) | omega)

/-- Labels in a block of their own. -/
def LOwn (w : World) (v : Value) (ls : List (Int × Int)) (bs : List Nat) : Prop := (ls.length = 0 ∧ (∃ a c, v = .slice a 0 c ∧ c ≤ maxLen) ∧ bs = []) ∨
  (0 < ls.length ∧ ∃ (g c : Nat), v = .slice (some ⟨g, 0, none⟩) ls.length c ∧ ls.length ≤ c ∧ c ≤ maxLen ∧ w.there g 0 (ls.length * 2) ∧ bs = [g] ∧ ∀ i (hi : i < ls.length), w.rangeAt g (i * 2) [.int .i64 ls[i].1, .int .i64 ls[i].2])
theorem LOwn.frame {w w' : World} {v : Value} {ls : List (Int × Int)} {bs : List Nat} (hb : ∀ b ∈ bs, w'.heap[b]? = w.heap[b]?) (h : LOwn w v ls bs) : LOwn w' v ls bs := by
  rcases h with h | ⟨h0, g, c, rfl, hlc, hcm, ht, rfl, hr⟩
  · exact .inl h
  · exact .inr ⟨h0, g, c, rfl, hlc, hcm, there_same (hb g (by simp)) ht, rfl, fun i hi => range_same (hb g (by simp)) (hr i hi)⟩
theorem LOwn.rep {w : World} {v : Value} {ls : List (Int × Int)} {bs : List Nat} (h : LOwn w v ls bs) : LRep w v ls := by
  rcases h with ⟨h0, ⟨a, c, rfl, hc⟩, _⟩ | ⟨h0, g, c, rfl, hlc, hcm, ht, rfl, hr⟩
  · exact ⟨a, c, by rw [h0], by omega, hc, fun i hi => by omega⟩
  · refine ⟨_, c, rfl, hlc, hcm, fun i hi => ⟨g, 0, rfl, ?_, ?_⟩⟩
    · have := hr i hi 0 _ rfl; simpa using this
    · have := hr i hi 1 _ rfl; simpa using this
theorem infoLabel : (Try.prog.info? 82).map (fun i => (i.zero, i.size, i.bytes)) = some (some (.agg #[.int .i64 0, .int .i64 0]), 2, 16) := by kernel_rfl

set_option maxHeartbeats 4000000 in
theorem toLabelS_any {lv : Value} {ls : List (Int × Int)} {w : World} (hL : LRep w lv ls) (hlen : ls.length ≤ 1048576) :
    Calls Try.prog 62 #[lv] w fun e w' => ∃ v' bs, e = .returned v' ∧ Below w.heap.size w w' ∧ LOwn w' v' ls bs ∧ (∀ b ∈ bs, w.heap.size ≤ b ∧ b < w'.heap.size) := by
  obtain ⟨i0, hi0, hz0, hz1, hz2⟩ := info_parts infoLabel
  obtain ⟨la, lc, rfl, hlc, hcm, hcell⟩ := hL
  have HC : Hid (∀ i (hi : i < ls.length), ∃ b off k t, ls[i] = (k, t) ∧ la = some ⟨b, off, none⟩ ∧ w.cell? ⟨b, off + i * 2, none⟩ = some (.int .i64 k) ∧ w.cell? ⟨b, off + i * 2 + 1, none⟩ = some (.int .i64 t)) := (show ∀ i (hi : i < ls.length), _ by
    intro i hi
    obtain ⟨b, off, ha, h0, h1⟩ := hcell i hi
    exact ⟨b, off, _, _, rfl, ha, h0, h1⟩)
  clear hcell
  go_enter Try.func62, Try.ntmps62
  go_wp2_with (at_make; refine wpList_make_full _ rfl _ _ 23 rfl w.heap.size 82 i0 _ 2 Try.underlying23 hi0 hz0 hz1 _ _ _ _ ls.length rfl rfl rfl rfl ?b2 ?b3 ?b4 ?_)
  case b2 => rw [hz2]; omega
  case b3 => unfold maxLen; omega
  case b4 => exact Nat.le_refl _
  intro w0 own0 grow0
  have t0 := row_there own0
  have B0 : Below w.heap.size w w0 := (Below.refl _ _).grown grow0 (Nat.le_refl _) (fun k hk => by cases hk)
  have s0 : w.heap.size < w0.heap.size := (own0.lt w.heap.size rfl).2
  clear own0 grow0
  go_wp2_with fail
  go_loopw [4] (fun j wr => ∃ (i : Nat), i ≤ ls.length ∧ j = .int .i64 i ∧ Below w.heap.size w wr ∧ w.heap.size < wr.heap.size ∧ wr.there w.heap.size 0 (ls.length * 2) ∧
      ∀ q (hq : q < ls.length), q < i → wr.rangeAt w.heap.size (q * 2) [.int .i64 ls[q].1, .int .i64 ls[q].2]) (fun j _ => ls.length - (intOf j).toNat)
  case atStart => exact ⟨0, by omega, rfl, B0, s0, t0, fun q _ h => by omega⟩
  case round =>
    obtain ⟨i, hi, rfl, hbr, hgs, hth, hown⟩ := hrel
    have hsz : w.heap.size ≤ wr.heap.size := hbr.size
    by_cases hlt : i < ls.length
    · obtain ⟨b, off, k, t, hx, rfl, k0, k1⟩ := HC.out i hlt
      replace k0 := cell_later hbr k0
      replace k1 := cell_later hbr k1
      have i0' : (0 : Int) ≤ (i : Int) := by omega
      have i1' : (i : Int) < (ls.length : Int) := by omega
      have HTH : Hid _ := hth
      have HOW : Hid _ := hown
      have HBR : Hid (Below w.heap.size w wr) := hbr
      clear hth hown hbr
      go_wp2_with fail
      go_at_call 90; refine (toLabel_any _ _ _).mono ?_
      rintro e w1 ⟨rfl, hb1⟩
      clear k0 k1
      have th1 : w1.there w.heap.size 0 (ls.length * 2) := there_same (hb1.block _ hgs) HTH.out
      have HT1 : Hid (w1.there w.heap.size (i * 2) 2) := (show w1.there w.heap.size (i * 2) 2 from fun j hj => by
        have := th1 (i * 2 + j) (by omega)
        rwa [Nat.zero_add] at this)
      have H1 : Hid _ := th1
      have HB1 : Hid (Below wr.heap.size wr w1) := hb1
      clear th1 hb1
      go_wp2_with (refine wpList_store_mid rfl _ _ _ rfl w.heap.size (i * 2) _ rfl rfl ?ht ?hi ?h1 ?_)
      case ht => exact HT1.out
      case hi => rw [hi0]; simp [hz1]
      case h1 => simp [Value.oneCell']
      have hb1 : Below wr.heap.size wr w1 := HB1.out
      have s1 : wr.heap.size ≤ w1.heap.size := hb1.size
      refine ⟨⟨i + 1, by omega, by simp, below_setCells (Nat.le_refl _) _ _ _ (Below.then HBR.out hb1 hsz), by rw [size_setCells]; omega, World.there_setCells H1.out _ _ _, ?_⟩, by simp [intOf]; omega⟩
      intro q hq hqi
      by_cases hqe : q = i
      · subst hqe
        rw [hx]; exact World.rangeAt_setCells_same w1 w.heap.size (q * 2) [.int .i64 k, .int .i64 t] HT1.out
      · exact World.rangeAt_setCells_apart (range_same (hb1.block _ hgs) (HOW.out q hq (by omega))) _ _ _ (.inr (.inl (by simp; omega)))
    · have hie : i = ls.length := by omega
      subst hie
      have HTH : Hid _ := hth
      have HOW : Hid _ := hown
      have HBR : Hid (Below w.heap.size w wr) := hbr
      clear hth hown hbr
      go_wp2
      go_ret
      by_cases hz : ls.length = 0
      · exact ⟨_, [], rfl, HBR.out, .inl ⟨hz, ⟨_, _, by rw [hz]; rfl, by unfold maxLen; omega⟩, rfl⟩, by simp⟩
      · refine ⟨_, [w.heap.size], rfl, HBR.out, .inr ⟨by omega, w.heap.size, ls.length, rfl, Nat.le_refl _, by unfold maxLen; omega, HTH.out, rfl, fun q hq => HOW.out q hq hq⟩, ?_⟩
        intro b hb
        obtain rfl : b = w.heap.size := by simpa using hb
        exact ⟨Nat.le_refl _, hgs⟩

set_option maxHeartbeats 2000000 in
theorem toProg_any {d : Nat} {T : Tr d} {lv sv : Value} {ls : List (Int × Int)} {w : World} (hL : LRep w lv ls) (hR : Rep w d sv T) (hlen : ls.length ≤ 1048576) (hcn : cnt d T ≤ 1048576) :
    Calls Try.prog 30 #[.agg #[lv, sv]] w fun e w' => ∃ lv' sv' b1 b2, e = .returned (.agg #[lv', sv']) ∧ Below w.heap.size w w' ∧ LOwn w' lv' ls b1 ∧ Own w' d sv' T b2 ∧ (∀ b ∈ b1 ++ b2, w.heap.size ≤ b ∧ b < w'.heap.size) ∧ b2.Nodup ∧ (∀ b ∈ b1, b ∉ b2) := by
  have A : Below w.heap.size w (((w.alloc (.cells #[lv, sv] 53)).alloc (.cells #[.slice none 0 0, .slice none 0 0] 26)).alloc (.cells #[.slice none 0 0, .slice none 0 0] 26)) :=
    (((Below.refl _ _).alloc (Nat.le_refl _) _).alloc (by simp) _).alloc (by simp; omega) _
  have C1 : Hid _ := toLabelS_any (hL.below A) hlen
  have HR : Hid (∀ w', Below w.heap.size w w' → Rep w' d sv T) := (show ∀ w', _ from fun w' hb => hR.below hb)
  obtain ⟨la, lc, rfl, -⟩ := hL
  obtain ⟨sa, sc, rfl⟩ := hR.slice
  clear hR
  go_enter Try.func30, Try.ntmps30
  go_wp2_with fail
  go_at_call 62; refine Calls.mono C1.out ?_
  rintro e w1 ⟨lv', b1, rfl, hb1, o1, r1⟩
  obtain ⟨la', lc', rfl, -⟩ := o1.rep
  have p1 : w1.cell? ⟨w.heap.size, 1, none⟩ = some (.slice sa (ln d T) sc) := cell_later hb1 (by go_simp)
  have z0 : w1.cell? ⟨w.heap.size + 1 + 1, 0, none⟩ = some (.slice none 0 0) := cell_later hb1 (by go_simp)
  have z1 : w1.cell? ⟨w.heap.size + 1 + 1, 1, none⟩ = some (.slice none 0 0) := cell_later hb1 (by go_simp)
  have y0 : w1.cell? ⟨w.heap.size + 1, 0, none⟩ = some (.slice none 0 0) := cell_later hb1 (by go_simp)
  have y1 : w1.cell? ⟨w.heap.size + 1, 1, none⟩ = some (.slice none 0 0) := cell_later hb1 (by go_simp)
  have hf : ∀ b o, b < w.heap.size + 3 → w1.frozen? ⟨b, o, none⟩ = (((w.alloc (.cells #[.slice la ls.length lc, .slice sa (ln d T) sc] 53)).alloc (.cells #[.slice none 0 0, .slice none 0 0] 26)).alloc (.cells #[.slice none 0 0, .slice none 0 0] 26)).frozen? ⟨b, o, none⟩ := fun b o h => hb1.frozen (p := ⟨b, o, none⟩) (by simp; omega)
  have f0 : w1.frozen? ⟨w.heap.size + 1 + 1, 0, none⟩ = false := (hf _ _ (by omega)).trans (by go_simp)
  have f1 : w1.frozen? ⟨w.heap.size + 1 + 1, 1, none⟩ = false := (hf _ _ (by omega)).trans (by go_simp)
  have g0 : w1.frozen? ⟨w.heap.size + 1, 0, none⟩ = false := (hf _ _ (by omega)).trans (by go_simp)
  have g1 : w1.frozen? ⟨w.heap.size + 1, 1, none⟩ = false := (hf _ _ (by omega)).trans (by go_simp)
  have B1 : Below w.heap.size w w1 := Below.then A hb1 (by simp; omega)
  have s1 : w.heap.size + 1 + 1 < w1.heap.size := by have := hb1.size; simp at this; omega
  have R1 : Hid (∀ b ∈ b1, w.heap.size + 1 + 1 < b ∧ b < w1.heap.size) := (show ∀ b ∈ b1, _ from fun b hb => by have := r1 b hb; simp at this; omega)
  have O1 : Hid _ := o1
  clear hb1 A C1 r1 o1 hf
  go_wp2_with fail
  have B2 : Below w.heap.size w (w1.setCell ⟨w.heap.size + 1 + 1, 0, none⟩ (.slice la' ls.length lc')) := B1.setCell (by simp; omega) _
  have C2 : Hid _ := toStepS_any d T _ _ (HR.out _ B2) hcn
  have z0' : (w1.setCell ⟨w.heap.size + 1 + 1, 0, none⟩ (.slice la' ls.length lc')).cell? ⟨w.heap.size + 1 + 1, 0, none⟩ = some (.slice la' ls.length lc') := World.cell?_setCell_same _ _ _ z0
  have z1' : (w1.setCell ⟨w.heap.size + 1 + 1, 0, none⟩ (.slice la' ls.length lc')).cell? ⟨w.heap.size + 1 + 1, 1, none⟩ = some (.slice none 0 0) := (World.cell?_setCell_other _ _ _ _ (by simp)).trans z1
  have y0' : (w1.setCell ⟨w.heap.size + 1 + 1, 0, none⟩ (.slice la' ls.length lc')).cell? ⟨w.heap.size + 1, 0, none⟩ = some (.slice none 0 0) := (World.cell?_setCell_other _ _ _ _ (by simp)).trans y0
  have y1' : (w1.setCell ⟨w.heap.size + 1 + 1, 0, none⟩ (.slice la' ls.length lc')).cell? ⟨w.heap.size + 1, 1, none⟩ = some (.slice none 0 0) := (World.cell?_setCell_other _ _ _ _ (by simp)).trans y1
  have s2 : (w1.setCell ⟨w.heap.size + 1 + 1, 0, none⟩ (.slice la' ls.length lc')).heap.size = w1.heap.size := by simp [World.setCell]
  have fz : ∀ a, (w1.setCell ⟨w.heap.size + 1 + 1, 0, none⟩ (.slice la' ls.length lc')).frozen? a = w1.frozen? a := fun a => World.frozen?_setCell _ _ _ _
  have o1 : LOwn (w1.setCell ⟨w.heap.size + 1 + 1, 0, none⟩ (.slice la' ls.length lc')) (.slice la' ls.length lc') ls b1 := LOwn.frame (fun b hb => Below.heap_setCell _ _ _ _ (by have := R1.out b hb; show b ≠ w.heap.size + 1 + 1; omega)) O1.out
  clear O1 z0 z1 y0 y1 p1 B1
  go_at_call 63; refine Calls.mono C2.out ?_
  generalize (w1.setCell ⟨w.heap.size + 1 + 1, 0, none⟩ (.slice la' ls.length lc')) = w2 at *
  rintro e w3 ⟨sv', b2, rfl, hb3, o2, r2, n2⟩
  obtain ⟨sa', sc', rfl⟩ := o2.slice
  have R2 : Hid (∀ b ∈ b2, w1.heap.size ≤ b ∧ b < w3.heap.size) := (show ∀ b ∈ b2, _ from fun b hb => by have := r2 b hb; omega)
  replace z0' := cell_later hb3 z0'
  replace z1' := cell_later hb3 z1'
  replace y0' := cell_later hb3 y0'
  replace y1' := cell_later hb3 y1'
  have hf3 : ∀ b o, b < w.heap.size + 3 → w3.frozen? ⟨b, o, none⟩ = w1.frozen? ⟨b, o, none⟩ := fun b o h => (hb3.frozen (p := ⟨b, o, none⟩) (by show b < w2.heap.size; omega)).trans (fz _)
  replace f0 := (hf3 _ _ (by omega)).trans f0
  replace f1 := (hf3 _ _ (by omega)).trans f1
  replace g0 := (hf3 _ _ (by omega)).trans g0
  replace g1 := (hf3 _ _ (by omega)).trans g1
  have B3 : Below w.heap.size w w3 := Below.then B2 hb3 B2.size
  have s3 : w1.heap.size ≤ w3.heap.size := by have := hb3.size; omega
  have O1 : Hid (LOwn w3 (.slice la' ls.length lc') ls b1) := LOwn.frame (fun b hb => hb3.block b (by have := R1.out b hb; omega)) o1
  have O2 : Hid _ := o2
  have N2 : Hid _ := n2
  clear hb3 o1 o2 n2 r2 fz hf3 B2 C2
  go_wp2
  have hh : ∀ b, w.heap.size + 1 + 1 < b → (((w3.setCell ⟨w.heap.size + 1 + 1, 1, none⟩ (.slice sa' (ln d T) sc')).setCell ⟨w.heap.size + 1, 0, none⟩ (.slice la' ls.length lc')).setCell ⟨w.heap.size + 1, 1, none⟩ (.slice sa' (ln d T) sc')).heap[b]? = w3.heap[b]? := fun b h => by
    rw [Below.heap_setCell _ _ _ _ (by show b ≠ w.heap.size + 1; omega), Below.heap_setCell _ _ _ _ (by show b ≠ w.heap.size + 1; omega), Below.heap_setCell _ _ _ _ (by show b ≠ w.heap.size + 1 + 1; omega)]
  have sF : (((w3.setCell ⟨w.heap.size + 1 + 1, 1, none⟩ (.slice sa' (ln d T) sc')).setCell ⟨w.heap.size + 1, 0, none⟩ (.slice la' ls.length lc')).setCell ⟨w.heap.size + 1, 1, none⟩ (.slice sa' (ln d T) sc')).heap.size = w3.heap.size := by simp [World.setCell]
  have R1' := R1.out
  have R2' := R2.out
  refine bodyPost_ret (v := .agg #[.slice la' ls.length lc', .slice sa' (ln d T) sc']) (by simp [results, Try.results30, go_sem, y0', y1', World.cell?_setCell_far]) rfl ⟨_, _, b1, b2, rfl, ?_, LOwn.frame (fun b hb => hh b (R1' b hb).1) O1.out, Own.frame (fun b hb => hh b (by have := R2' b hb; omega)) O2.out, ?_, N2.out, ?_⟩
  · exact ((B3.setCell (by show w.heap.size ≤ w.heap.size + 1 + 1; omega) _).setCell (by show w.heap.size ≤ w.heap.size + 1; omega) _).setCell (by show w.heap.size ≤ w.heap.size + 1; omega) _
  · intro b hb
    rw [sF]
    rcases List.mem_append.1 hb with hb | hb
    · have := R1' b hb; omega
    · have := R2' b hb; omega
  · intro b hb hb'
    have := R1' b hb
    have := R2' b hb'
    omega

end Go.Proofs.Ytlhfbhidgabgbaa

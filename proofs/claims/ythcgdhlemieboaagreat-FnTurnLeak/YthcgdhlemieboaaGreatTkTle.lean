/- The program's labels: each turned, and each moved to the place of its new name. -/
import Derived.Test.YthcgdhlemieboaaGreatTkTwl
import Derived.Test.YthcgdhlemieboaaGreatTkTmt
namespace Go.Proofs.YthcgdhlemieboaaGreat
open Go.RowKit
set_option linter.unusedSimpArgs false
set_option linter.unusedVariables false
attribute [local go_sem] World.cell?_alloc_some

def turnLs (zs : List Int) (ls : List (Int × Int)) : List (Int × Int) := ls.map fun a => (turnI a.1 zs, turnI a.2 zs)
theorem turnLs_len (zs : List Int) (ls : List (Int × Int)) : (turnLs zs ls).length = ls.length := List.length_map _
theorem labs_at {ls : List (Int × Int)} (h : labsB ls = true) (i : Nat) (hi : i < ls.length) : (0 ≤ ls[i].1 ∧ ls[i].1 ≤ 7) ∧ (0 ≤ ls[i].2 ∧ ls[i].2 ≤ 7) := okB_iff.1 (List.all_eq_true.1 h _ (List.getElem_mem hi))

set_option maxHeartbeats 4000000 in
set_option maxRecDepth 20000 in
theorem labelsEach_any {lv : Value} {ls : List (Int × Int)} {zs : List Int} {ra : Option Addr} {rc : Nat} {w : World} (hL : LRep w lv ls) (hlen : ls.length ≤ 1048576) (hlb : labsB ls = true) (hr : rowB zs 3 = true) (hN : GRep (Value.int .i64) w (.slice ra zs.length rc) zs) :
    Calls Tryz.prog 26 #[lv, .slice ra zs.length rc, .func (.func 27) #[] #[]] w fun e w' => ∃ v' bs, e = .returned v' ∧ Below w.heap.size w w' ∧ LOwn w' v' (turnLs zs ls) bs ∧ (∀ b ∈ bs, w.heap.size ≤ b ∧ b < w'.heap.size) := by
  obtain ⟨i0, hi0, hz0, hz1, hz2⟩ := info_parts infoLabel
  obtain ⟨la, lc, rfl, hlc, hcm, hcell⟩ := hL
  have hp : 0 < zs.length := by rw [rowB_len hr]; omega
  by_cases hzero : ls.length = 0
  · have : ls = [] := List.eq_nil_of_length_eq_zero hzero
    subst this
    go_enter Tryz.func26, Tryz.ntmps26
    go_wp2
    go_ret
    exact ⟨_, [], rfl, Below.refl _ _, .inl ⟨rfl, ⟨_, _, rfl, by unfold maxLen; omega⟩, rfl⟩, by simp⟩
  have hne0 : ¬ (ls.length : Int) = 0 := by omega
  have HC : Hid (∀ i (hi : i < ls.length), ∃ b off k t, ls[i] = (k, t) ∧ la = some ⟨b, off, none⟩ ∧ w.cell? ⟨b, off + i * 2, none⟩ = some (.int .i64 k) ∧ w.cell? ⟨b, off + i * 2 + 1, none⟩ = some (.int .i64 t) ∧ (0 ≤ k ∧ k ≤ 7) ∧ (0 ≤ t ∧ t ≤ 7)) := (show ∀ i (hi : i < ls.length), _ by
    intro i hi
    obtain ⟨b, off, ha, h0, h1⟩ := hcell i hi
    obtain ⟨l1, l2⟩ := labs_at hlb i hi
    exact ⟨b, off, _, _, rfl, ha, h0, h1, l1, l2⟩)
  have HK : Hid (∀ (k t : Int) wx, Below w.heap.size w wx → (0 ≤ k ∧ k ≤ 7) → (0 ≤ t ∧ t ≤ 7) → Calls Tryz.prog 27 #[.agg #[.int .i64 k, .int .i64 t], .slice ra zs.length rc] wx fun e w' => e = .returned (.agg #[.int .i64 (turnI k zs), .int .i64 (turnI t zs)]) ∧ Below wx.heap.size wx w') := (show ∀ (k t : Int) wx, _ from fun k t wx hb hk ht => labelTurned_any k t hk ht hr hp (hN.below hb))
  clear hcell hr hp hN
  obtain ⟨rn, hrn⟩ : ∃ rn, zs.length = rn := ⟨_, rfl⟩
  rw [hrn] at HK ⊢
  clear hrn
  go_enter Tryz.func26, Tryz.ntmps26
  go_wp2_with (at_make; refine wpList_make_full _ rfl _ _ 23 rfl w.heap.size 59 i0 _ 2 Tryz.underlying23 hi0 hz0 hz1 _ _ _ _ ls.length rfl rfl rfl rfl ?b2 ?b3 ?b4 ?_)
  case b2 => rw [hz2]; omega
  case b3 => unfold maxLen; omega
  case b4 => exact Nat.le_refl _
  intro w0 own0 grow0
  have t0 := row_there own0
  have B0 : Below w.heap.size w w0 := (Below.refl _ _).grown grow0 (Nat.le_refl _) (fun k hk => by cases hk)
  have s0 : w.heap.size < w0.heap.size := (own0.lt w.heap.size rfl).2
  clear own0 grow0
  go_wp2_with fail
  go_loopw [18] (fun j wr => ∃ (i : Nat), i ≤ ls.length ∧ j = .int .i64 i ∧ Below w.heap.size w wr ∧ w.heap.size < wr.heap.size ∧ wr.there w.heap.size 0 (ls.length * 2) ∧
      ∀ q (hq : q < ls.length), q < i → wr.rangeAt w.heap.size (q * 2) [.int .i64 (turnI ls[q].1 zs), .int .i64 (turnI ls[q].2 zs)]) (fun j _ => ls.length - (intOf j).toNat)
  case atStart => exact ⟨0, by omega, rfl, B0, s0, t0, fun q _ h => by omega⟩
  case round =>
    obtain ⟨i, hi, rfl, hbr, hgs, hth, hown⟩ := hrel
    have hsz : w.heap.size ≤ wr.heap.size := hbr.size
    by_cases hlt : i < ls.length
    · obtain ⟨b, off, k, t, hx, rfl, k0, k1, hk, ht⟩ := HC.out i hlt
      replace k0 := cell_later hbr k0
      replace k1 := cell_later hbr k1
      have i0' : (0 : Int) ≤ (i : Int) := by omega
      have i1' : (i : Int) < (ls.length : Int) := by omega
      have HTH : Hid _ := hth
      have HOW : Hid _ := hown
      have HBR : Hid (Below w.heap.size w wr) := hbr
      have A1 : Below wr.heap.size wr (wr.alloc (.cells #[.int .i64 k, .int .i64 t] 59)) := (Below.refl _ _).alloc (Nat.le_refl _) _
      have HA1 : Hid _ := A1
      have C1 : Hid _ := HK.out k t _ (Below.then hbr A1 hsz) hk ht
      clear hth hown hbr A1
      go_wp2_with fail
      (try go_at_call 27); refine Calls.mono C1.out ?_
      rintro e w1 ⟨rfl, hb1'⟩
      have hb1 : Below wr.heap.size wr w1 := Below.then HA1.out hb1' (by simp)
      generalize hk' : turnI k zs = tk at *
      generalize ht' : turnI t zs = tt at *
      have HKT : Hid (turnI k zs = tk ∧ turnI t zs = tt) := ⟨hk', ht'⟩
      clear k0 k1 hb1' hk' ht' C1 HA1
      have th1 : w1.there w.heap.size 0 (ls.length * 2) := there_same (hb1.block _ hgs) HTH.out
      have HT1 : Hid (w1.there w.heap.size (i * 2) 2) := (show w1.there w.heap.size (i * 2) 2 from fun j hj => by
        have := th1 (i * 2 + j) (by omega)
        rwa [Nat.zero_add] at this)
      have H1 : Hid _ := th1
      have HB1 : Hid (Below wr.heap.size wr w1) := hb1
      clear th1 hb1
      go_wp2_with (refine wpList_store_mid rfl _ _ _ rfl w.heap.size (i * 2) _ rfl rfl ?ht ?hi ?h1 ?_)
      case ht => exact HT1.out
      case hi => rw [hi0]; simp [hz1]
      case h1 => simp [Value.oneCell']
      have hb1 : Below wr.heap.size wr w1 := HB1.out
      have s1 : wr.heap.size ≤ w1.heap.size := hb1.size
      refine ⟨⟨i + 1, by omega, by simp, below_setCells (Nat.le_refl _) _ _ _ (Below.then HBR.out hb1 hsz), by rw [size_setCells]; omega, World.there_setCells H1.out _ _ _, ?_⟩, by simp [intOf]; omega⟩
      intro q hq hqi
      by_cases hqe : q = i
      · subst hqe
        rw [hx]; dsimp only; rw [HKT.out.1, HKT.out.2]; exact World.rangeAt_setCells_same w1 w.heap.size (q * 2) [.int .i64 tk, .int .i64 tt] HT1.out
      · exact World.rangeAt_setCells_apart (range_same (hb1.block _ hgs) (HOW.out q hq (by omega))) _ _ _ (.inr (.inl (by simp; omega)))
    · have hie : i = ls.length := by omega
      subst hie
      have HTH : Hid _ := hth
      have HOW : Hid _ := hown
      have HBR : Hid (Below w.heap.size w wr) := hbr
      clear hth hown hbr
      go_wp2
      go_ret
      refine ⟨_, [w.heap.size], rfl, HBR.out, .inr ⟨by rw [turnLs_len]; omega, w.heap.size, ls.length, by rw [turnLs_len]; rfl, by rw [turnLs_len]; exact Nat.le_refl _, by unfold maxLen; omega, by rw [turnLs_len]; exact HTH.out, rfl, fun q hq => ?_⟩, ?_⟩
      · have hq' : q < ls.length := by rwa [turnLs_len] at hq
        have := HOW.out q hq' hq'
        simpa [turnLs] using this
      · intro b hb
        obtain rfl : b = w.heap.size := by simpa using hb
        exact ⟨Nat.le_refl _, hgs⟩

end Go.Proofs.YthcgdhlemieboaaGreat

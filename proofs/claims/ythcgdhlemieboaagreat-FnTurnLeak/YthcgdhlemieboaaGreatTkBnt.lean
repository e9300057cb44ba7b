/- A program in which something is not as it was, drawn. -/
import Derived.Test.YthcgdhlemieboaaGreatTkBnl
namespace Go.Proofs.YthcgdhlemieboaaGreat
open Go.RowKit
set_option linter.unusedSimpArgs false
set_option linter.unusedVariables false
attribute [local go_sem] World.cell?_alloc_some

def lenAt (w : World) (o : Nat) : Nat := match w.cell? ⟨o, 1, none⟩ with | some (.slice _ n _) => n | _ => 0
theorem wrap_alloc {w : World} {r : Nat} {x : World} {O : Obj} {o : Nat} {u : Value} {lo so : Value} {ls : List (Int × Int)} {d : Nat} {l : List (Pay × Tr d × Tr d)} {ys : List Value} {k : Nat} (ho : o < x.heap.size) (h : Bn w r ((x.alloc O).setCell ⟨o, 1, none⟩ u) o lo so ls d l ys k) : Bn w r ((x.setCell ⟨o, 1, none⟩ u).alloc O) o lo so ls d l ys k := by
  rw [World.setCell_alloc_past _ _ _ _ ho] at h
  exact h

def Cld (ops : Array Oper) (l : Array Bool) : Prop := ∀ i o, ops[i]? = some o → l.getD i false = true → ∀ e ∈ o.after, Region.binds .any e = true → l.getD e.on false = true
theorem wp_region_inv' {P : Program} {id : Nat} {ops : Array Oper} {Q : Exit → Act → World → Prop} {a : Act} {w : World} (hm : P.follows .mixedOrders = true) (Inv : Array Bool → Act → World → Prop)
    (hlow : ∀ (i : Nat) (o : Oper), ops[i]? = some o → ∀ e ∈ o.after, e.on < i)
    (h0 : Inv (Array.replicate ops.size false) a w.drew)
    (hstep : ∀ l a w i, i ∈ Region.ready .any ops l → Inv l a w ∧ Cld ops l → wpOp P ops Q i (Inv (l.setIfInBounds i true)) a w)
    (hdone : ∀ l a w, (∀ k, k < ops.size → l.getD k false = true) → Inv l a w → Q .normal a w) : (Code.region id ops true).wp P Q a w := by
  refine wp_region_inv hm (fun l a w => Inv l a w ∧ Cld ops l) hlow ⟨h0, fun i o _ h => ?_⟩ (fun l a w i hr hi => ?_) (fun l a w hk hi => hdone l a w hk hi.1)
  · simp [Array.getD] at h
  · refine wpOp_mono (fun a' w' h' => ⟨h', ?_⟩) (hstep l a w i hr hi)
    rw [mem_ready] at hr
    obtain ⟨_, o, ho, hall⟩ := hr
    intro j o' ho' hj e he hb
    by_cases hji : j = i
    · subst hji
      rw [ho] at ho'
      cases ho'
      have hlt := hlow j o ho e he
      rw [getD_set_ne false (by omega)]
      exact hall e he hb
    · rw [getD_set_ne false (fun q => hji q.symm)] at hj
      have := hi.2 j o' ho' hj e he hb
      by_cases hei : e.on = i
      · rw [hei]
        rw [hei] at this
        have hs : i < l.size := by
          rcases Nat.lt_or_ge i l.size with h | h
          · exact h
          · simp [Array.getD, Nat.not_lt.2 h] at this
        simp [Array.getD, hs]
      · rw [getD_set_ne false (fun q => hei q.symm)]
        exact this
def FAg (v : Value) : Prop := ∃ a b : Int, v = .agg #[.int .i64 a, .int .i64 b, .int .i64 0]
def FSt (v : Value) : Prop := ∃ p : Pay, v = .agg #[.int .i64 p.k, .int .i64 p.v, .int .i64 p.vk, .int .i64 p.va, .int .i64 p.vb, .int .i64 p.h, .slice none 0 0, .slice none 0 0]
def FNw (r : Nat) (v : Value) (x : World) : Prop := ∃ b p, v = .slice (some ⟨b, 0, none⟩) 1 1 ∧ b ≠ r ∧ ∀ j u, (cells8 p (.slice none 0 0) (.slice none 0 0))[j]? = some u → x.cell? ((⟨b, 0, none⟩ : Addr).add j) = some u
theorem FNw.oth {r : Nat} {v : Value} {x x' : World} (h : FNw r v x) (k : Oth r x x') : FNw r v x' := by
  obtain ⟨b, p, rfl, hb, hc⟩ := h
  refine ⟨b, p, rfl, hb, fun j u hu => ?_⟩
  have := hc j u hu
  rw [Addr.add_mid] at this ⊢
  exact k.cell hb this
theorem bn_ex {w : World} {r : Nat} {x x' : World} {o : Nat} {lo so : Value} {ls : List (Int × Int)} {d : Nat} {l : List (Pay × Tr d × Tr d)} {ys : List Value} {q : Nat} {L : Array Bool} (h : ∃ k, Bn w r x o lo so ls d l ys k) (hr : r < w.heap.size) (hx : Oth r x x') (hrd : Rd2 x' r q) : L.getD 15 false = false → ∃ k, Bn w r x' o lo so ls d l ys k := by
  obtain ⟨k, h⟩ := h
  exact fun _ => ⟨q, h.on hr hx hrd⟩
theorem last_set {l : Array Bool} {s : Nat} (h : ∀ j, j < s → l.getD j false = true) : Last (l.setIfInBounds s true) s := fun _ j hj => by
  rw [getD_set_ne false (by omega)]
  exact h j hj
theorem Last.on {l : Array Bool} {s i : Nat} (h : Last l s) (hi : s < i) (hd : l.getD s false = true) : Last (l.setIfInBounds i true) s := fun _ j hj => by
  rw [getD_set_ne false (by omega)]
  exact h hd j hj
theorem On.off {l : Array Bool} {s i k : Nat} {p : Prop} (hi : i ≠ s) (hd : l.getD s false = true) : On (l.setIfInBounds i true) s k p := by
  intro _ h
  rw [getD_set_ne false hi, hd] at h
  cases h

set_option maxHeartbeats 8000000 in
set_option maxRecDepth 20000 in
theorem l71Bent_any (w : World) (r m : Nat) (lv sv : Value) (ls : List (Int × Int)) (T : List (Pay × Tr 2 × Tr 2)) (h : Rd2 w r m) (hm : m ≤ 100000000) (hL : LRep w lv ls) (hR : Rep w 3 sv (T : List (Pay × Tr 2 × Tr 2))) (l1 : 1 ≤ ls.length) (l4 : ls.length ≤ 4) (hc : cnt 3 (T : List (Pay × Tr 2 × Tr 2)) ≤ 292) :
    Calls Tryz.prog 33 #[.pointer (some ⟨r, 0, none⟩), .agg #[lv, sv]] w (BnPost w r m) := by
  have hlt := h.lt
  obtain ⟨i0, hi0, hz0, hz1, hz2⟩ := info_parts infoStep
  obtain ⟨j0, hj0, hy0, hy1, hy2⟩ := info_parts infoLab
  obtain ⟨la, lc, hla, hll, hlm, hcell⟩ := id hL
  obtain ⟨sa, sc, hsa⟩ := hR.slice
  subst hla hsa
  obtain ⟨lb, lf, hlb, -, -⟩ := hcell 0 (by omega)
  subst hlb
  have HL : Hid (∀ w', Below w.heap.size w w' → ∀ j u, (pcells ls)[j]? = some u → w'.cell? ((⟨lb, lf, none⟩ : Addr).add j) = some u) := (show ∀ w', _ by
    intro w' hb j u hu
    have hj : j < 2 * ls.length := by have := (List.getElem?_eq_some_iff.1 hu).1; simpa [pcells_length] using this
    obtain ⟨b', o', hb', c0, c1⟩ := hcell (j / 2) (by omega)
    simp only [Option.some.injEq, Addr.mk.injEq] at hb'
    obtain ⟨rfl, rfl, -⟩ := hb'
    obtain ⟨g0, g1⟩ := pcells_get ls (j / 2) (by omega)
    rw [Addr.add_mid]
    refine cell_later hb ?_
    rcases Nat.mod_two_eq_zero_or_one j with h2 | h2
    · have e : j / 2 * 2 = j := by omega
      rw [e] at g0 c0
      rw [hu] at g0
      rw [c0]; exact g0.symm
    · have e : j / 2 * 2 + 1 = j := by omega
      rw [e] at g1
      rw [Nat.add_assoc, e] at c1
      rw [hu] at g1
      rw [c1]; exact g1.symm)
  have HR : Hid (∀ w', Below w.heap.size w w' → Rep w' 3 (.slice sa (ln 3 T) sc) T) := (show ∀ w', _ from fun w' hb => hR.below hb)
  have H : Hid (Rd2 w r m) := h
  clear hcell hL hR h
  have A1 : Below w.heap.size w ((w.alloc (.cells #[.slice (some ⟨lb, lf, none⟩) ls.length lc, .slice sa (ln 3 T) sc] 26)).alloc (.cells #[.slice none 0 0, .slice none 0 0] 26)) := ((Below.refl _ _).alloc (Nat.le_refl _) _).alloc (by simp) _
  have c0 : ((w.alloc (.cells #[.slice (some ⟨lb, lf, none⟩) ls.length lc, .slice sa (ln 3 T) sc] 26)).alloc (.cells #[.slice none 0 0, .slice none 0 0] 26)).cell? ⟨w.heap.size, 0, none⟩ = some (.slice (some ⟨lb, lf, none⟩) ls.length lc) := by simp [go_sem]
  have c1 : ((w.alloc (.cells #[.slice (some ⟨lb, lf, none⟩) ls.length lc, .slice sa (ln 3 T) sc] 26)).alloc (.cells #[.slice none 0 0, .slice none 0 0] 26)).cell? ⟨w.heap.size, 1, none⟩ = some (.slice sa (ln 3 T) sc) := by simp [go_sem]
  have G1 : C2 ((w.alloc (.cells #[.slice (some ⟨lb, lf, none⟩) ls.length lc, .slice sa (ln 3 T) sc] 26)).alloc (.cells #[.slice none 0 0, .slice none 0 0] 26)) (w.heap.size + 1) (.slice none 0 0) (.slice none 0 0) := by
    have := C2.new (w.alloc (.cells #[.slice (some ⟨lb, lf, none⟩) ls.length lc, .slice sa (ln 3 T) sc] 26)) (.slice none 0 0) (.slice none 0 0) 26
    simpa using this
  have z1 : ((w.alloc (.cells #[.slice (some ⟨lb, lf, none⟩) ls.length lc, .slice sa (ln 3 T) sc] 26)).alloc (.cells #[.slice none 0 0, .slice none 0 0] 26)).heap.size = w.heap.size + 2 := by simp
  go_enter Tryz.func33, Tryz.ntmps33
  go_upto_region 1 with fail
  generalize ((w.alloc (.cells #[.slice (some ⟨lb, lf, none⟩) ls.length lc, .slice sa (ln 3 T) sc] 26)).alloc (.cells #[.slice none 0 0, .slice none 0 0] 26)) = w1 at *
  refine Code.wp_mono (Q := fun e a x => e = .normal ∧ ∃ (o : Nat) (lo so : Value) (ys : List Value) (u7 u8 u9 u10 u11 u12 u13 u14 : Value), a = { tmps := #[.pointer (some ⟨r, 0, none⟩), .agg #[.slice (some ⟨lb, lf, none⟩) ls.length lc, .slice sa (ln 3 T) sc], undef, .pointer (some ⟨w.heap.size, 0, none⟩), .pointer (some ⟨w.heap.size + 1, 0, none⟩), .pointer (some ⟨o, 0, none⟩), undef, u7, u8, u9, u10, u11, u12, u13, u14, undef, undef, undef, undef, undef, undef, undef, undef, undef, undef, undef, undef, undef, undef, undef, undef, undef, undef, undef, undef, undef, undef, undef, undef, undef, undef, undef, undef, undef, undef, undef, undef, undef, undef, undef, undef, undef, undef, undef, undef, undef, undef, undef, undef, undef, undef, undef, undef, undef, undef, undef, undef, undef, undef, undef, undef, undef, undef, undef, undef, undef, undef, undef, undef, undef, undef, undef, undef, undef, undef, undef, undef, undef, undef, undef, undef, undef, undef, undef, undef, undef, undef, undef, undef, undef, undef, undef, undef, undef, undef, undef], defers := [] } ∧ Bn w r x o lo so ls 2 T ys m) ?hq ?hr
  case hr =>
    refine wp_region_held (S := fun wz => Below (w.heap.size + 2) w1 wz) (by kernel_rfl) ?_
    change wpAnyH _ _ _ _ _ _ _ _ (World.drew _)
    have hHeld : Below (w.heap.size + 2) w1 w1.drew := (Below.refl _ _).drew
    have zx0 : w1.drew.heap.size = w.heap.size + 2 := z1
    generalize w1.drew = x0 at hHeld zx0 ⊢
    refine' wpAnyH_take (i := 1) (v := _) rfl (by kernel_rfl) (by kernel_rfl) (by kernel_rfl) (fun _ _ _ h => by cases h.1) (Or.inl ⟨by rfl, ?hy1⟩) hHeld ?hn1
    case hy1 => (intro wz hSw; go_simp; first | done | with_reducible rfl)
    try simp only [nrm, Act.put]
    refine' wpAnyH_take (i := 2) (v := .slice (some ⟨lb, lf, none⟩) ls.length lc) rfl (by kernel_rfl) (by kernel_rfl) (by kernel_rfl) (fun _ _ _ h => by cases h.1) (Or.inl ⟨by rfl, ?hy2⟩) hHeld ?hn2
    case hy2 => (intro wz hSw; have k0 := (hSw.cell (p := ⟨w.heap.size, 0, none⟩) (by show w.heap.size < w.heap.size + 2; omega)).trans c0; go_simp)
    try simp only [nrm, Act.put]
    refine' wpAnyH_take (i := 4) (v := _) rfl (by kernel_rfl) (by kernel_rfl) (by kernel_rfl) (fun _ _ _ h => by cases h.1) (Or.inl ⟨by rfl, ?hy3⟩) hHeld ?hn3
    case hy3 => (intro wz hSw; go_simp; first | done | with_reducible rfl)
    try simp only [nrm, Act.put]
    refine' wpAnyH_take (i := 5) (v := .slice sa (ln 3 T) sc) rfl (by kernel_rfl) (by kernel_rfl) (by kernel_rfl) (fun _ _ _ h => by cases h.1) (Or.inl ⟨by rfl, ?hy4⟩) hHeld ?hn4
    case hy4 => (intro wz hSw; have k0 := (hSw.cell (p := ⟨w.heap.size, 1, none⟩) (by show w.heap.size < w.heap.size + 2; omega)).trans c1; go_simp)
    try simp only [nrm, Act.put]
    refine wpAnyH_ready (rs := [0, 8]) (by kernel_rfl) (by simp) ?_
    refine AllReadyH.cons rfl (fun K hK => ?_) (AllReadyH.cons rfl (fun K hK => ?_) AllReadyH.nil)
    · go_simp
      obtain ⟨x1, hx1⟩ : ∃ x1, x1 = x0.alloc (.cells #[] 59) := ⟨_, rfl⟩
      rw [← hx1]
      have Bx1 : Below x0.heap.size x0 x1 := by rw [hx1]; exact (Below.refl _ _).alloc (Nat.le_refl _) _
      have zx1 : x1.heap.size = w.heap.size + 3 := by rw [hx1]; simp; omega
      have Lx1 : x1.ownsRow (w.heap.size + 2) 59 2 (.slice (some ⟨w.heap.size + 2, 0, none⟩) 0 0) 0 [] := by
        have := World.ownsRow_made (base := w.heap.size + 2) (e := 59) (size := 2) x0 #[] 0 (by omega) (by unfold maxLen; omega) (by simp)
        rw [hx1]
        simpa [zx0] using this
      clear hx1
      refine hK.out _ _ (hHeld.trans (Bx1.mono (by omega))) (fun hHeld => ?_)
      clear hK K
      refine wpAnyH_ready (rs := [3, 8]) (by kernel_rfl) (by simp) ?_
      refine AllReadyH.cons rfl (fun K hK => ?_) (AllReadyH.cons rfl (fun K hK => ?_) AllReadyH.nil)
      · refine wp_append_at' _ _ _ 23 rfl (w.heap.size + 2) 59 j0 _ 2 16 Tryz.underlying23 hj0 hy0 hy1 hy2 rfl (by decide) _ _ _ rfl Lx1 ⟨lb, lf, none⟩ ls.length lc (pcells ls) rfl (by rw [pcells_length]; omega) (HL.out _ (A1.trans (hHeld.mono (by omega)))) (pcells_one ls) (by unfold maxLen; omega) (by omega) (by omega) ?_
        intro lo x2 ownx2 growx2 hnx2 hatx2
        rw [Nat.zero_add, List.nil_append] at ownx2
        have zx2 : x1.heap.size ≤ x2.heap.size := growx2.size
        have Bx2 : Below (w.heap.size + 2) w1 x2 := hHeld.grown growx2 (by omega) (fun j hj => by have : w.heap.size + 2 = j := Option.some.inj hj; omega)
        clear hnx2 hatx2
        refine hK.out _ _ (Bx2) (fun hHeld => ?_)
        clear hK K
        refine wpAnyH_ready (rs := [6, 8]) (by kernel_rfl) (by simp) ?_
        refine AllReadyH.cons rfl (fun K hK => ?_) (AllReadyH.cons rfl (fun K hK => ?_) AllReadyH.nil)
        · go_simp
          refine (l2Copy_own 2 T _ _ (HR.out _ (A1.trans (hHeld.mono (by omega)))) (show cnt 3 T ≤ 1048576 by omega)).mono ?_
          rintro e' x3 ⟨so, bs, ys, rfl, Bx3, ow, rg, nd, oy⟩
          have zx3 : x2.heap.size ≤ x3.heap.size := Bx3.size
          have Lx3 : x3.ownsRow (w.heap.size + 2) 59 2 lo ls.length (pcells ls) := rowp_frame ownx2 (fun k hk => Bx3.block k (World.ownsRow.lt ownx2 k hk).2)
          have Px3 : RowP (fun b => x2.heap.size ≤ b ∧ lo.ownBlock ≠ some b) x3 2 so T ys := RowP.of ow nd oy (fun b hb => ⟨(rg b hb).1, fun e => by have := (World.ownsRow.lt ownx2 b e).2; have := (rg b hb).1; omega⟩) (fun k hk => ⟨(World.ownsRow.lt oy k hk).1, fun e => by have := (World.ownsRow.lt ownx2 k e).2; have := (World.ownsRow.lt oy k hk).1; omega⟩)
          have Qx3 : RowP (fun b => w.heap.size + 1 < b ∧ lo.ownBlock ≠ some b) x3 2 so T ys := Px3.frame (fun b p hl => ⟨rfl, by have := p.1; omega, p.2⟩)
          obtain ⟨soa, soc, hso⟩ := rowg_slice oy
          obtain ⟨loa, loc, hlo⟩ := rowg_slice Lx3
          subst hso hlo
          clear ow rg nd oy
          refine hK.out _ _ (hHeld.trans (Bx3.mono (by omega))) (fun hHeld => ?_)
          clear hK K
          refine' wpAnyH_take (i := 7) (v := _) rfl (by kernel_rfl) (by kernel_rfl) (by kernel_rfl) (fun _ _ _ h => by cases h.1) (Or.inl ⟨by rfl, ?hy5⟩) hHeld ?hn5
          case hy5 => (intro wz hSw; go_simp; first | done | with_reducible rfl)
          try simp only [nrm, Act.put]
          refine wpAnyH_ready (rs := [8]) (by kernel_rfl) (by simp) ?_
          refine AllReadyH.cons rfl (fun K hK => ?_) AllReadyH.nil
          go_simp
          obtain ⟨x4, hx4⟩ : ∃ x4, x4 = x3.alloc (.cells #[.slice none 0 0, .slice none 0 0] 26) := ⟨_, rfl⟩
          rw [← hx4]
          have Bx4 : Below x3.heap.size x3 x4 := by rw [hx4]; exact (Below.refl _ _).alloc (Nat.le_refl _) _
          have zx4 : x3.heap.size < x4.heap.size := by rw [hx4]; simp
          have Gx4 : C2 x4 (x3.heap.size) (.slice none 0 0) (.slice none 0 0) := by
            have := C2.new x3 (.slice none 0 0) (.slice none 0 0) 26
            rw [hx4]
            exact this
          have Lx4 : x4.ownsRow (w.heap.size + 2) 59 2 (Value.slice loa ls.length loc) ls.length (pcells ls) := rowp_frame Lx3 (fun k hk => Bx4.block k (World.ownsRow.lt Lx3 k hk).2)
          have nex4 : ∀ k, (Value.slice loa ls.length loc).ownBlock = some k → k ≠ x3.heap.size := fun k hk e => by have := (World.ownsRow.lt Lx3 k hk).2; omega
          have Px4 : RowP (fun b => w.heap.size + 1 < b ∧ b < x3.heap.size ∧ (Value.slice loa ls.length loc).ownBlock ≠ some b) x4 2 (.slice soa T.length soc) T ys := Qx3.frame (fun b p hl => ⟨Bx4.block b hl, p.1, hl, p.2⟩)
          clear hx4
          refine hK.out _ _ (hHeld.trans (Bx4.mono (by omega))) (fun hHeld => ?_)
          clear hK K
          refine wpAnyH_ready (rs := [9]) (by kernel_rfl) (by simp) ?_
          refine AllReadyH.cons rfl (fun K hK => ?_) AllReadyH.nil
          obtain ⟨⟨b0, b1⟩, f0, f1⟩ := id Gx4
          go_simp
          have Gx5 := (Gx4.set0 (Value.slice loa ls.length loc)).set1 (.slice soa T.length soc)
          have hbx5 : ∀ b, b ≠ (x3.heap.size) → ((x4.setCell ⟨(x3.heap.size), 0, none⟩ (Value.slice loa ls.length loc)).setCell ⟨(x3.heap.size), 1, none⟩ (.slice soa T.length soc)).heap[b]? = x4.heap[b]? := fun b hb => (Below.heap_setCell _ _ _ _ hb).trans (Below.heap_setCell _ _ _ _ hb)
          have Bx5 : Below (w.heap.size + 2) w1 ((x4.setCell ⟨(x3.heap.size), 0, none⟩ (Value.slice loa ls.length loc)).setCell ⟨(x3.heap.size), 1, none⟩ (.slice soa T.length soc)) := (hHeld.setCell (by show w.heap.size + 2 ≤ (x3.heap.size); omega) _).setCell (by show w.heap.size + 2 ≤ (x3.heap.size); omega) _
          generalize ((x4.setCell ⟨(x3.heap.size), 0, none⟩ (Value.slice loa ls.length loc)).setCell ⟨(x3.heap.size), 1, none⟩ (.slice soa T.length soc)) = x5 at Gx5 hbx5 Bx5 ⊢
          have Fx5 : Bn w r x5 (x3.heap.size) (Value.slice loa ls.length loc) (.slice soa T.length soc) ls 2 T ys m := ⟨Gx5, G1.same (Bx5.block _ (by omega)), by omega, rowp_zero (rowp_frame Lx4 (fun k hk => hbx5 k (nex4 k hk))), fun b hb => ⟨by have := (World.ownsRow.lt Lx4 b hb).1; omega, nex4 b hb⟩, Px4.frame (fun b p hl => ⟨hbx5 b (by have := p.2.1; omega), p.1, by have := p.2.1; omega, p.2.2⟩), rd2_same H.out (fun n hn => (Bx5.block n (by omega)).trans (A1.block n (by omega))), Oth.of_below (A1.trans (Bx5.mono (by omega)))⟩
          refine hK.out _ _ (Bx5) (fun hHeld => ?_)
          clear hK K
          refine wpAnyH_done (by kernel_rfl) ?_ _
          exact ⟨rfl, (x3.heap.size), _, _, ys, _, _, _, _, _, _, _, _, rfl, Fx5⟩
        · go_simp
          obtain ⟨x3, hx3⟩ : ∃ x3, x3 = x2.alloc (.cells #[.slice none 0 0, .slice none 0 0] 26) := ⟨_, rfl⟩
          rw [← hx3]
          have Bx3 : Below x2.heap.size x2 x3 := by rw [hx3]; exact (Below.refl _ _).alloc (Nat.le_refl _) _
          have zx3 : x2.heap.size < x3.heap.size := by rw [hx3]; simp
          have Gx3 : C2 x3 (x2.heap.size) (.slice none 0 0) (.slice none 0 0) := by
            have := C2.new x2 (.slice none 0 0) (.slice none 0 0) 26
            rw [hx3]
            exact this
          have Lx3 : x3.ownsRow (w.heap.size + 2) 59 2 lo ls.length (pcells ls) := rowp_frame ownx2 (fun k hk => Bx3.block k (World.ownsRow.lt ownx2 k hk).2)
          have nex3 : ∀ k, lo.ownBlock = some k → k ≠ x2.heap.size := fun k hk e => by have := (World.ownsRow.lt ownx2 k hk).2; omega
          clear hx3
          refine hK.out _ _ (hHeld.trans (Bx3.mono (by omega))) (fun hHeld => ?_)
          clear hK K
          refine wpAnyH_ready (rs := [6]) (by kernel_rfl) (by simp) ?_
          refine AllReadyH.cons rfl (fun K hK => ?_) AllReadyH.nil
          go_simp
          refine (l2Copy_own 2 T _ _ (HR.out _ (A1.trans (hHeld.mono (by omega)))) (show cnt 3 T ≤ 1048576 by omega)).mono ?_
          rintro e' x4 ⟨so, bs, ys, rfl, Bx4, ow, rg, nd, oy⟩
          have zx4 : x3.heap.size ≤ x4.heap.size := Bx4.size
          have Lx4 : x4.ownsRow (w.heap.size + 2) 59 2 lo ls.length (pcells ls) := rowp_frame Lx3 (fun k hk => Bx4.block k (World.ownsRow.lt Lx3 k hk).2)
          have Px4 : RowP (fun b => x3.heap.size ≤ b ∧ lo.ownBlock ≠ some b) x4 2 so T ys := RowP.of ow nd oy (fun b hb => ⟨(rg b hb).1, fun e => by have := (World.ownsRow.lt Lx3 b e).2; have := (rg b hb).1; omega⟩) (fun k hk => ⟨(World.ownsRow.lt oy k hk).1, fun e => by have := (World.ownsRow.lt Lx3 k e).2; have := (World.ownsRow.lt oy k hk).1; omega⟩)
          have Gx4 : C2 x4 (x2.heap.size) (.slice none 0 0) (.slice none 0 0) := Gx3.same (Bx4.block _ Gx3.lt')
          have Qx4 : RowP (fun b => w.heap.size + 1 < b ∧ b ≠ (x2.heap.size) ∧ lo.ownBlock ≠ some b) x4 2 so T ys := Px4.frame (fun b p hl => ⟨rfl, by have := p.1; omega, by have := p.1; have := Gx3.lt'; omega, p.2⟩)
          obtain ⟨soa, soc, hso⟩ := rowg_slice oy
          obtain ⟨loa, loc, hlo⟩ := rowg_slice Lx4
          subst hso hlo
          clear ow rg nd oy
          refine hK.out _ _ (hHeld.trans (Bx4.mono (by omega))) (fun hHeld => ?_)
          clear hK K
          refine' wpAnyH_take (i := 7) (v := _) rfl (by kernel_rfl) (by kernel_rfl) (by kernel_rfl) (fun _ _ _ h => by cases h.1) (Or.inl ⟨by rfl, ?hy6⟩) hHeld ?hn6
          case hy6 => (intro wz hSw; go_simp; first | done | with_reducible rfl)
          try simp only [nrm, Act.put]
          refine wpAnyH_ready (rs := [9]) (by kernel_rfl) (by simp) ?_
          refine AllReadyH.cons rfl (fun K hK => ?_) AllReadyH.nil
          obtain ⟨⟨b0, b1⟩, f0, f1⟩ := id Gx4
          go_simp
          have Gx5 := (Gx4.set0 (Value.slice loa ls.length loc)).set1 (.slice soa T.length soc)
          have hbx5 : ∀ b, b ≠ (x2.heap.size) → ((x4.setCell ⟨(x2.heap.size), 0, none⟩ (Value.slice loa ls.length loc)).setCell ⟨(x2.heap.size), 1, none⟩ (.slice soa T.length soc)).heap[b]? = x4.heap[b]? := fun b hb => (Below.heap_setCell _ _ _ _ hb).trans (Below.heap_setCell _ _ _ _ hb)
          have Bx5 : Below (w.heap.size + 2) w1 ((x4.setCell ⟨(x2.heap.size), 0, none⟩ (Value.slice loa ls.length loc)).setCell ⟨(x2.heap.size), 1, none⟩ (.slice soa T.length soc)) := (hHeld.setCell (by show w.heap.size + 2 ≤ (x2.heap.size); omega) _).setCell (by show w.heap.size + 2 ≤ (x2.heap.size); omega) _
          generalize ((x4.setCell ⟨(x2.heap.size), 0, none⟩ (Value.slice loa ls.length loc)).setCell ⟨(x2.heap.size), 1, none⟩ (.slice soa T.length soc)) = x5 at Gx5 hbx5 Bx5 ⊢
          have Fx5 : Bn w r x5 (x2.heap.size) (Value.slice loa ls.length loc) (.slice soa T.length soc) ls 2 T ys m := ⟨Gx5, G1.same (Bx5.block _ (by omega)), by omega, rowp_zero (rowp_frame Lx4 (fun k hk => hbx5 k (nex3 k hk))), fun b hb => ⟨by have := (World.ownsRow.lt Lx4 b hb).1; omega, nex3 b hb⟩, Qx4.frame (fun b p hl => ⟨hbx5 b (by have := p.2.1; omega), p.1, by have := p.2.1; omega, p.2.2⟩), rd2_same H.out (fun n hn => (Bx5.block n (by omega)).trans (A1.block n (by omega))), Oth.of_below (A1.trans (Bx5.mono (by omega)))⟩
          refine hK.out _ _ (Bx5) (fun hHeld => ?_)
          clear hK K
          refine wpAnyH_done (by kernel_rfl) ?_ _
          exact ⟨rfl, (x2.heap.size), _, _, ys, _, _, _, _, _, _, _, _, rfl, Fx5⟩
      · go_simp
        obtain ⟨x2, hx2⟩ : ∃ x2, x2 = x1.alloc (.cells #[.slice none 0 0, .slice none 0 0] 26) := ⟨_, rfl⟩
        rw [← hx2]
        have Bx2 : Below x1.heap.size x1 x2 := by rw [hx2]; exact (Below.refl _ _).alloc (Nat.le_refl _) _
        have zx2 : x2.heap.size = w.heap.size + 4 := by rw [hx2]; simp; omega
        have Gx2 : C2 x2 (w.heap.size + 3) (.slice none 0 0) (.slice none 0 0) := by
          have := C2.new x1 (.slice none 0 0) (.slice none 0 0) 26
          rw [hx2]
          simpa [zx1] using this
        have Lx2 : x2.ownsRow (w.heap.size + 2) 59 2 (.slice (some ⟨w.heap.size + 2, 0, none⟩) 0 0) 0 [] := rowp_frame Lx1 (fun k hk => Bx2.block k (World.ownsRow.lt Lx1 k hk).2)
        clear hx2
        refine hK.out _ _ (hHeld.trans (Bx2.mono (by omega))) (fun hHeld => ?_)
        clear hK K
        refine wpAnyH_ready (rs := [3]) (by kernel_rfl) (by simp) ?_
        refine AllReadyH.cons rfl (fun K hK => ?_) AllReadyH.nil
        refine wp_append_at' _ _ _ 23 rfl (w.heap.size + 2) 59 j0 _ 2 16 Tryz.underlying23 hj0 hy0 hy1 hy2 rfl (by decide) _ _ _ rfl Lx2 ⟨lb, lf, none⟩ ls.length lc (pcells ls) rfl (by rw [pcells_length]; omega) (HL.out _ (A1.trans (hHeld.mono (by omega)))) (pcells_one ls) (by unfold maxLen; omega) (by omega) (by omega) ?_
        intro lo x3 ownx3 growx3 hnx3 hatx3
        rw [Nat.zero_add, List.nil_append] at ownx3
        have zx3 : x2.heap.size ≤ x3.heap.size := growx3.size
        have Bx3 : Below (w.heap.size + 2) w1 x3 := hHeld.grown growx3 (by omega) (fun j hj => by have : w.heap.size + 2 = j := Option.some.inj hj; omega)
        have Gx3 : C2 x3 (w.heap.size + 3) (.slice none 0 0) (.slice none 0 0) := Gx2.same (growx3.block _ Gx2.lt' (fun e => by have : (w.heap.size + 3) = w.heap.size + 2 := Option.some.inj e; omega))
        have nex3 : ∀ k, lo.ownBlock = some k → k ≠ (w.heap.size + 3) := fun k hk e => by
          rcases hatx3 with h | h
          · rw [h] at hk; have : w.heap.size + 2 = k := Option.some.inj hk; omega
          · rw [h] at hk; have := Option.some.inj hk; have := Gx2.lt'; omega
        clear hnx3 hatx3
        refine hK.out _ _ (Bx3) (fun hHeld => ?_)
        clear hK K
        refine wpAnyH_ready (rs := [6]) (by kernel_rfl) (by simp) ?_
        refine AllReadyH.cons rfl (fun K hK => ?_) AllReadyH.nil
        go_simp
        refine (l2Copy_own 2 T _ _ (HR.out _ (A1.trans (hHeld.mono (by omega)))) (show cnt 3 T ≤ 1048576 by omega)).mono ?_
        rintro e' x4 ⟨so, bs, ys, rfl, Bx4, ow, rg, nd, oy⟩
        have zx4 : x3.heap.size ≤ x4.heap.size := Bx4.size
        have Lx4 : x4.ownsRow (w.heap.size + 2) 59 2 lo ls.length (pcells ls) := rowp_frame ownx3 (fun k hk => Bx4.block k (World.ownsRow.lt ownx3 k hk).2)
        have Px4 : RowP (fun b => x3.heap.size ≤ b ∧ lo.ownBlock ≠ some b) x4 2 so T ys := RowP.of ow nd oy (fun b hb => ⟨(rg b hb).1, fun e => by have := (World.ownsRow.lt ownx3 b e).2; have := (rg b hb).1; omega⟩) (fun k hk => ⟨(World.ownsRow.lt oy k hk).1, fun e => by have := (World.ownsRow.lt ownx3 k e).2; have := (World.ownsRow.lt oy k hk).1; omega⟩)
        have Gx4 : C2 x4 (w.heap.size + 3) (.slice none 0 0) (.slice none 0 0) := Gx3.same (Bx4.block _ Gx3.lt')
        have Qx4 : RowP (fun b => w.heap.size + 1 < b ∧ b ≠ (w.heap.size + 3) ∧ lo.ownBlock ≠ some b) x4 2 so T ys := Px4.frame (fun b p hl => ⟨rfl, by have := p.1; omega, by have := p.1; have := Gx3.lt'; omega, p.2⟩)
        obtain ⟨soa, soc, hso⟩ := rowg_slice oy
        obtain ⟨loa, loc, hlo⟩ := rowg_slice Lx4
        subst hso hlo
        clear ow rg nd oy
        refine hK.out _ _ (hHeld.trans (Bx4.mono (by omega))) (fun hHeld => ?_)
        clear hK K
        refine' wpAnyH_take (i := 7) (v := _) rfl (by kernel_rfl) (by kernel_rfl) (by kernel_rfl) (fun _ _ _ h => by cases h.1) (Or.inl ⟨by rfl, ?hy7⟩) hHeld ?hn7
        case hy7 => (intro wz hSw; go_simp; first | done | with_reducible rfl)
        try simp only [nrm, Act.put]
        refine wpAnyH_ready (rs := [9]) (by kernel_rfl) (by simp) ?_
        refine AllReadyH.cons rfl (fun K hK => ?_) AllReadyH.nil
        obtain ⟨⟨b0, b1⟩, f0, f1⟩ := id Gx4
        go_simp
        have Gx5 := (Gx4.set0 (Value.slice loa ls.length loc)).set1 (.slice soa T.length soc)
        have hbx5 : ∀ b, b ≠ (w.heap.size + 3) → ((x4.setCell ⟨(w.heap.size + 3), 0, none⟩ (Value.slice loa ls.length loc)).setCell ⟨(w.heap.size + 3), 1, none⟩ (.slice soa T.length soc)).heap[b]? = x4.heap[b]? := fun b hb => (Below.heap_setCell _ _ _ _ hb).trans (Below.heap_setCell _ _ _ _ hb)
        have Bx5 : Below (w.heap.size + 2) w1 ((x4.setCell ⟨(w.heap.size + 3), 0, none⟩ (Value.slice loa ls.length loc)).setCell ⟨(w.heap.size + 3), 1, none⟩ (.slice soa T.length soc)) := (hHeld.setCell (by show w.heap.size + 2 ≤ (w.heap.size + 3); omega) _).setCell (by show w.heap.size + 2 ≤ (w.heap.size + 3); omega) _
        generalize ((x4.setCell ⟨(w.heap.size + 3), 0, none⟩ (Value.slice loa ls.length loc)).setCell ⟨(w.heap.size + 3), 1, none⟩ (.slice soa T.length soc)) = x5 at Gx5 hbx5 Bx5 ⊢
        have Fx5 : Bn w r x5 (w.heap.size + 3) (Value.slice loa ls.length loc) (.slice soa T.length soc) ls 2 T ys m := ⟨Gx5, G1.same (Bx5.block _ (by omega)), by omega, rowp_zero (rowp_frame Lx4 (fun k hk => hbx5 k (nex3 k hk))), fun b hb => ⟨by have := (World.ownsRow.lt Lx4 b hb).1; omega, nex3 b hb⟩, Qx4.frame (fun b p hl => ⟨hbx5 b (by have := p.2.1; omega), p.1, by have := p.2.1; omega, p.2.2⟩), rd2_same H.out (fun n hn => (Bx5.block n (by omega)).trans (A1.block n (by omega))), Oth.of_below (A1.trans (Bx5.mono (by omega)))⟩
        refine hK.out _ _ (Bx5) (fun hHeld => ?_)
        clear hK K
        refine wpAnyH_done (by kernel_rfl) ?_ _
        exact ⟨rfl, (w.heap.size + 3), _, _, ys, _, _, _, _, _, _, _, _, rfl, Fx5⟩
    · go_simp
      obtain ⟨x1, hx1⟩ : ∃ x1, x1 = x0.alloc (.cells #[.slice none 0 0, .slice none 0 0] 26) := ⟨_, rfl⟩
      rw [← hx1]
      have Bx1 : Below x0.heap.size x0 x1 := by rw [hx1]; exact (Below.refl _ _).alloc (Nat.le_refl _) _
      have zx1 : x1.heap.size = w.heap.size + 3 := by rw [hx1]; simp; omega
      have Gx1 : C2 x1 (w.heap.size + 2) (.slice none 0 0) (.slice none 0 0) := by
        have := C2.new x0 (.slice none 0 0) (.slice none 0 0) 26
        rw [hx1]
        simpa [zx0] using this
      clear hx1
      refine hK.out _ _ (hHeld.trans (Bx1.mono (by omega))) (fun hHeld => ?_)
      clear hK K
      refine wpAnyH_ready (rs := [0]) (by kernel_rfl) (by simp) ?_
      refine AllReadyH.cons rfl (fun K hK => ?_) AllReadyH.nil
      go_simp
      obtain ⟨x2, hx2⟩ : ∃ x2, x2 = x1.alloc (.cells #[] 59) := ⟨_, rfl⟩
      rw [← hx2]
      have Bx2 : Below x1.heap.size x1 x2 := by rw [hx2]; exact (Below.refl _ _).alloc (Nat.le_refl _) _
      have zx2 : x2.heap.size = w.heap.size + 4 := by rw [hx2]; simp; omega
      have Lx2 : x2.ownsRow (w.heap.size + 2) 59 2 (.slice (some ⟨w.heap.size + 3, 0, none⟩) 0 0) 0 [] := by
        have := World.ownsRow_made (base := w.heap.size + 2) (e := 59) (size := 2) x1 #[] 0 (by omega) (by unfold maxLen; omega) (by simp)
        rw [hx2]
        simpa [zx1] using this
      have Gx2 : C2 x2 (w.heap.size + 2) (.slice none 0 0) (.slice none 0 0) := Gx1.same (Bx2.block _ Gx1.lt')
      clear hx2
      refine hK.out _ _ (hHeld.trans (Bx2.mono (by omega))) (fun hHeld => ?_)
      clear hK K
      refine wpAnyH_ready (rs := [3]) (by kernel_rfl) (by simp) ?_
      refine AllReadyH.cons rfl (fun K hK => ?_) AllReadyH.nil
      refine wp_append_at' _ _ _ 23 rfl (w.heap.size + 2) 59 j0 _ 2 16 Tryz.underlying23 hj0 hy0 hy1 hy2 rfl (by decide) _ _ _ rfl Lx2 ⟨lb, lf, none⟩ ls.length lc (pcells ls) rfl (by rw [pcells_length]; omega) (HL.out _ (A1.trans (hHeld.mono (by omega)))) (pcells_one ls) (by unfold maxLen; omega) (by omega) (by omega) ?_
      intro lo x3 ownx3 growx3 hnx3 hatx3
      rw [Nat.zero_add, List.nil_append] at ownx3
      have zx3 : x2.heap.size ≤ x3.heap.size := growx3.size
      have Bx3 : Below (w.heap.size + 2) w1 x3 := hHeld.grown growx3 (by omega) (fun j hj => by have : w.heap.size + 3 = j := Option.some.inj hj; omega)
      have Gx3 : C2 x3 (w.heap.size + 2) (.slice none 0 0) (.slice none 0 0) := Gx2.same (growx3.block _ Gx2.lt' (fun e => by have : (w.heap.size + 2) = w.heap.size + 3 := Option.some.inj e; omega))
      have nex3 : ∀ k, lo.ownBlock = some k → k ≠ (w.heap.size + 2) := fun k hk e => by
        rcases hatx3 with h | h
        · rw [h] at hk; have : w.heap.size + 3 = k := Option.some.inj hk; omega
        · rw [h] at hk; have := Option.some.inj hk; have := Gx2.lt'; omega
      clear hnx3 hatx3
      refine hK.out _ _ (Bx3) (fun hHeld => ?_)
      clear hK K
      refine wpAnyH_ready (rs := [6]) (by kernel_rfl) (by simp) ?_
      refine AllReadyH.cons rfl (fun K hK => ?_) AllReadyH.nil
      go_simp
      refine (l2Copy_own 2 T _ _ (HR.out _ (A1.trans (hHeld.mono (by omega)))) (show cnt 3 T ≤ 1048576 by omega)).mono ?_
      rintro e' x4 ⟨so, bs, ys, rfl, Bx4, ow, rg, nd, oy⟩
      have zx4 : x3.heap.size ≤ x4.heap.size := Bx4.size
      have Lx4 : x4.ownsRow (w.heap.size + 2) 59 2 lo ls.length (pcells ls) := rowp_frame ownx3 (fun k hk => Bx4.block k (World.ownsRow.lt ownx3 k hk).2)
      have Px4 : RowP (fun b => x3.heap.size ≤ b ∧ lo.ownBlock ≠ some b) x4 2 so T ys := RowP.of ow nd oy (fun b hb => ⟨(rg b hb).1, fun e => by have := (World.ownsRow.lt ownx3 b e).2; have := (rg b hb).1; omega⟩) (fun k hk => ⟨(World.ownsRow.lt oy k hk).1, fun e => by have := (World.ownsRow.lt ownx3 k e).2; have := (World.ownsRow.lt oy k hk).1; omega⟩)
      have Gx4 : C2 x4 (w.heap.size + 2) (.slice none 0 0) (.slice none 0 0) := Gx3.same (Bx4.block _ Gx3.lt')
      have Qx4 : RowP (fun b => w.heap.size + 1 < b ∧ b ≠ (w.heap.size + 2) ∧ lo.ownBlock ≠ some b) x4 2 so T ys := Px4.frame (fun b p hl => ⟨rfl, by have := p.1; omega, by have := p.1; have := Gx3.lt'; omega, p.2⟩)
      obtain ⟨soa, soc, hso⟩ := rowg_slice oy
      obtain ⟨loa, loc, hlo⟩ := rowg_slice Lx4
      subst hso hlo
      clear ow rg nd oy
      refine hK.out _ _ (hHeld.trans (Bx4.mono (by omega))) (fun hHeld => ?_)
      clear hK K
      refine' wpAnyH_take (i := 7) (v := _) rfl (by kernel_rfl) (by kernel_rfl) (by kernel_rfl) (fun _ _ _ h => by cases h.1) (Or.inl ⟨by rfl, ?hy8⟩) hHeld ?hn8
      case hy8 => (intro wz hSw; go_simp; first | done | with_reducible rfl)
      try simp only [nrm, Act.put]
      refine wpAnyH_ready (rs := [9]) (by kernel_rfl) (by simp) ?_
      refine AllReadyH.cons rfl (fun K hK => ?_) AllReadyH.nil
      obtain ⟨⟨b0, b1⟩, f0, f1⟩ := id Gx4
      go_simp
      have Gx5 := (Gx4.set0 (Value.slice loa ls.length loc)).set1 (.slice soa T.length soc)
      have hbx5 : ∀ b, b ≠ (w.heap.size + 2) → ((x4.setCell ⟨(w.heap.size + 2), 0, none⟩ (Value.slice loa ls.length loc)).setCell ⟨(w.heap.size + 2), 1, none⟩ (.slice soa T.length soc)).heap[b]? = x4.heap[b]? := fun b hb => (Below.heap_setCell _ _ _ _ hb).trans (Below.heap_setCell _ _ _ _ hb)
      have Bx5 : Below (w.heap.size + 2) w1 ((x4.setCell ⟨(w.heap.size + 2), 0, none⟩ (Value.slice loa ls.length loc)).setCell ⟨(w.heap.size + 2), 1, none⟩ (.slice soa T.length soc)) := (hHeld.setCell (by show w.heap.size + 2 ≤ (w.heap.size + 2); omega) _).setCell (by show w.heap.size + 2 ≤ (w.heap.size + 2); omega) _
      generalize ((x4.setCell ⟨(w.heap.size + 2), 0, none⟩ (Value.slice loa ls.length loc)).setCell ⟨(w.heap.size + 2), 1, none⟩ (.slice soa T.length soc)) = x5 at Gx5 hbx5 Bx5 ⊢
      have Fx5 : Bn w r x5 (w.heap.size + 2) (Value.slice loa ls.length loc) (.slice soa T.length soc) ls 2 T ys m := ⟨Gx5, G1.same (Bx5.block _ (by omega)), by omega, rowp_zero (rowp_frame Lx4 (fun k hk => hbx5 k (nex3 k hk))), fun b hb => ⟨by have := (World.ownsRow.lt Lx4 b hb).1; omega, nex3 b hb⟩, Qx4.frame (fun b p hl => ⟨hbx5 b (by have := p.2.1; omega), p.1, by have := p.2.1; omega, p.2.2⟩), rd2_same H.out (fun n hn => (Bx5.block n (by omega)).trans (A1.block n (by omega))), Oth.of_below (A1.trans (Bx5.mono (by omega)))⟩
      refine hK.out _ _ (Bx5) (fun hHeld => ?_)
      clear hK K
      refine wpAnyH_done (by kernel_rfl) ?_ _
      exact ⟨rfl, (w.heap.size + 2), _, _, ys, _, _, _, _, _, _, _, _, rfl, Fx5⟩
  case hq =>
    clear c0 c1 G1 HL HR A1 H z1
    rintro e a x ⟨rfl, o, lo, so, ys, u7, u8, u9, u10, u11, u12, u13, u14, rfl, hBn⟩
    go_wp2_with fail
    go_at_call 11; refine (pick2 _ r m 8 hBn.rd (by omega) (by omega) (by omega)).mono ?_
    rintro e x1 ⟨kk, rfl, k0, k8, rd1, ot1⟩
    have hB1 := hBn.on hlt ot1 rd1
    clear hBn rd1 ot1 x
    obtain ⟨loa, loc, hlo⟩ := rowg_slice hB1.lab
    obtain ⟨soa, soc, hso⟩ := rowg_slice hB1.row.1
    subst hlo hso
    have HB : Hid _ := hB1
    obtain ⟨⟨b0, b1⟩, f0, f1⟩ := hB1.box
    obtain ⟨⟨r0, r1⟩, g0, g1⟩ := hB1.res
    have hob := hB1.ho
    clear hB1
    obtain ⟨g, hg⟩ : ∃ g, loa = some ⟨g, 0, none⟩ := by
      obtain ⟨_, ⟨h1, h2⟩ | ⟨g, cap, cur, hv, _⟩⟩ := id HB.out.lab
      · omega
      · simp at hv; exact ⟨g, hv.1⟩
    subst hg
    have hTl : T.length ≤ 292 := by have := ln_le_cnt 3 (T : List (Pay × Tr 2 × Tr 2)); have e : ln 3 (T : List (Pay × Tr 2 × Tr 2)) = T.length := rfl; omega
    have hTc : ∀ p : Pay, cnt 3 (T ++ [(p, noT 2, noT 2)] : List (Pay × Tr 2 × Tr 2)) = cnt 3 (T : List (Pay × Tr 2 × Tr 2)) + 1 := fun p => by
      show ((T ++ [(p, noT 2, noT 2)]).map fun x => 1 + cnt 2 x.2.1 + cnt 2 x.2.2).sum = (T.map fun x => 1 + cnt 2 x.2.1 + cnt 2 x.2.2).sum + 1
      rw [List.map_append, List.sum_append]
      simp [cnt_noT]
    have HTC : Hid _ := hTc
    clear hTc
    have hcase : kk = 0 ∨ kk = 1 ∨ kk = 2 ∨ kk = 3 ∨ kk = 4 ∨ kk = 5 ∨ kk = 6 ∨ kk = 7 := by omega
    rcases hcase with rfl | rfl | rfl | rfl | rfl | rfl | rfl | rfl
    · -- 0: the first label
      obtain ⟨a, tl, hls⟩ : ∃ a tl, ls = a :: tl := by
        cases ls with
        | nil => simp at l1
        | cons a tl => exact ⟨a, tl, rfl⟩
      subst hls
      have cg : x1.cell? ⟨g, 0, none⟩ = some (.int .i64 a.1) := by
        have := HB.out.lab.cells rfl 0 (.int .i64 a.1) (by simp [pcells])
        rwa [Addr.add_mid] at this
      have fg : x1.frozen? ⟨g, 0, none⟩ = false := HB.out.lab.frozenAt 0
      have hpos : (0 : Int) < (((a :: tl).length : Nat) : Int) := by simp <;> omega
      have hgo := HB.out.lb g rfl
      generalize hn : (a :: tl).length = n at hpos
      have hB2 := HB.out.spoil hlt 8
      rw [hn] at hB2 b0 hll l1 l4
      go_upto_region 22 with fail
      revert hB2
      generalize (x1.setCell ⟨g, 0, none⟩ (.int .i64 8)) = x2
      intro hB2
      clear b0 b1 f0 f1 r0 r1 g0 g1
      obtain ⟨⟨b0, b1⟩, -, -⟩ := hB2.box
      obtain ⟨⟨r0, r1⟩, g0, g1⟩ := hB2.res
      have HB2 : Hid _ := hB2
      clear hB2
      go_wp2
      obtain ⟨F1, F2⟩ := Bn.fin (m := m) HB2.out hlt (by omega) (by simp at hn ⊢; omega) (Nat.le_trans hc (by omega))
      have HF2 : Hid _ := F2
      obtain ⟨⟨q0, q1⟩, -⟩ := F1
      exact bodyPost_ret (v := .agg #[_, _]) (by simp [results, Tryz.results33, go_sem, q0, q1] <;> exact ⟨rfl, rfl⟩) rfl HF2.out
    · -- 1: a step of whatever kind
      clear b0 b1 f0 f1 r0 r1 g0 g1
      go_upto_region 7 with fail
      refine wp_region_held (S := fun _ => True) (by kernel_rfl) ?_
      change wpAnyH _ _ _ _ _ _ _ _ (World.drew _)
      have hHeld : True := trivial
      have hB0 : Hid (Bn w r x1.drew o (.slice (some ⟨g, 0, none⟩) ls.length loc) (.slice soa T.length soc) ls 2 T ys (m + 1)) := HB.out.on hlt (Oth.refl _ _).drew (HB.out.rd.same (fun _ _ => rfl))
      generalize x1.drew = y0 at hB0 ⊢
      refine' wpAnyH_take (i := 0) (v := _) rfl (by kernel_rfl) (by kernel_rfl) (by kernel_rfl) (fun _ _ _ h => h) (Or.inl ⟨by rfl, ?hy9⟩) hHeld ?hn9
      case hy9 => (intro wz hSw; go_simp; first | done | with_reducible rfl)
      try simp only [nrm, Act.put]
      refine' wpAnyH_take (i := 2) (v := _) rfl (by kernel_rfl) (by kernel_rfl) (by kernel_rfl) (fun _ _ _ h => h) (Or.inl ⟨by rfl, ?hy10⟩) hHeld ?hn10
      case hy10 => (intro wz hSw; go_simp; first | done | with_reducible rfl)
      try simp only [nrm, Act.put]
      refine wpAnyH_ready (rs := [1, 3]) (by kernel_rfl) (by simp) ?_
      refine AllReadyH.cons rfl (fun K hK => ?_) (AllReadyH.cons rfl (fun K hK => ?_) AllReadyH.nil)
      · obtain ⟨⟨b0, b1⟩, -, -⟩ := hB0.out.box
        go_simp
        clear b0 b1
        refine hK.out _ _ (trivial) (fun hHeld => ?_)
        clear hK K
        refine wpAnyH_ready (rs := [3]) (by kernel_rfl) (by simp) ?_
        refine AllReadyH.cons rfl (fun K hK => ?_) AllReadyH.nil
        go_simp
        refine (pick2 _ r _ 6 hB0.out.rd (by omega) (by omega) (by omega)).mono ?_
        rintro e' y1 ⟨kv, rfl, q0, q6, rd1, ot1⟩
        have hB1 : Hid _ := hB0.out.on hlt ot1 rd1
        have vkv := w64 (kv - 1) (by omega)
        clear rd1 ot1
        refine hK.out _ _ (trivial) (fun hHeld => ?_)
        clear hK K
        refine' wpAnyH_take (i := 4) (v := _) rfl (by kernel_rfl) (by kernel_rfl) (by kernel_rfl) (fun _ _ _ h => h) (Or.inl ⟨by rfl, ?hy11⟩) hHeld ?hn11
        case hy11 => (intro wz hSw; go_simp; first | done | with_reducible rfl)
        try simp only [nrm, Act.put]
        refine' wpAnyH_take (i := 5) (v := _) rfl (by kernel_rfl) (by kernel_rfl) (by kernel_rfl) (fun _ _ _ h => h) (Or.inl ⟨by rfl, ?hy12⟩) hHeld ?hn12
        case hy12 => (intro wz hSw; go_simp; first | done | with_reducible rfl)
        try simp only [nrm, Act.put]
        refine wpAnyH_ready (rs := [6]) (by kernel_rfl) (by simp) ?_
        refine AllReadyH.cons rfl (fun K hK => ?_) AllReadyH.nil
        go_simp
        obtain ⟨y2, hy2⟩ : ∃ y, y = y1.alloc (.cells (cells8 ⟨kv - 1, 0, 0, 0, 0, 0⟩ (.slice none 0 0) (.slice none 0 0)).toArray 66) := ⟨_, rfl⟩
        have nw2 : ∀ j u, (cells8 ⟨kv - 1, 0, 0, 0, 0, 0⟩ (.slice none 0 0) (.slice none 0 0))[j]? = some u → y2.cell? ((⟨y1.heap.size, 0, none⟩ : Addr).add j) = some u := by rw [hy2]; exact cells8_new _ _ _ _ _
        have A2 : Below y1.heap.size y1 y2 := by rw [hy2]; exact (Below.refl _ _).alloc (Nat.le_refl _) _
        have hB2 : Hid _ := hB1.out.on hlt (Oth.of_below A2) (hB1.out.rd.oth A2)
        change K _ (y1.alloc (.cells (cells8 ⟨kv - 1, 0, 0, 0, 0, 0⟩ (.slice none 0 0) (.slice none 0 0)).toArray 66))
        rw [← hy2]
        clear hy2 A2
        refine hK.out _ _ (trivial) (fun hHeld => ?_)
        clear hK K
        refine wpAnyH_ready (rs := [7]) (by kernel_rfl) (by simp) ?_
        refine AllReadyH.cons rfl (fun K hK => ?_) AllReadyH.nil
        refine wp_append_at' _ _ _ 24 rfl 0 66 i0 _ 8 96 Tryz.underlying24 hi0 hz0 hz1 hz2 rfl (by decide) _ _ _ rfl hB2.out.row.1 ⟨y1.heap.size, 0, none⟩ 1 1 (cells8 ⟨kv - 1, 0, 0, 0, 0, 0⟩ (.slice none 0 0) (.slice none 0 0)) rfl rfl nw2 (cells8_one _ _ _ _ _ _ _) (by unfold maxLen; omega) (by omega) (by omega) ?_
        intro v3 x3 own3 grow3 hn3 hat3
        have hB3 := hB2.out.push hlt (Below.refl _ _) ⟨kv - 1, 0, 0, 0, 0, 0⟩ own3 grow3 hat3
        obtain ⟨va3, vc3, hv3⟩ := rowg_slice own3
        subst hv3
        have B3 : x3.heap[o]? = y2.heap[o]? := grow3.block o hB2.out.box.lt' (fun e => (hB2.out.row.2.1 o e.symm).2.1 rfl)
        obtain ⟨⟨b0, b1⟩, f0, f1⟩ := hB2.out.box
        replace b0 := (World.cell?_of_block (a := ⟨o, 0, none⟩) B3).trans b0
        replace b1 := (World.cell?_of_block (a := ⟨o, 1, none⟩) B3).trans b1
        replace f0 := (World.frozen?_of_block (a := ⟨o, 0, none⟩) B3).trans f0
        replace f1 := (World.frozen?_of_block (a := ⟨o, 1, none⟩) B3).trans f1
        clear own3 grow3 hn3 hat3 B3
        refine hK.out _ _ (trivial) (fun hHeld => ?_)
        clear hK K
        refine' wpAnyH_take (i := 8) (v := _) rfl (by kernel_rfl) (by kernel_rfl) (by kernel_rfl) (fun _ _ _ h => h) (Or.inl ⟨by rfl, ?hy13⟩) hHeld ?hn13
        case hy13 => (intro wz hSw; go_simp; first | done | with_reducible rfl)
        try simp only [nrm, Act.put]
        refine wpAnyH_ready (rs := [9]) (by kernel_rfl) (by simp) ?_
        refine AllReadyH.cons rfl (fun K hK => ?_) AllReadyH.nil
        go_simp
        refine hK.out _ _ (trivial) (fun hHeld => ?_)
        clear hK K
        refine wpAnyH_done (by kernel_rfl) ?_ _
        go_upto_region 22 with fail
        revert hB3
        generalize (x3.setCell ⟨o, 1, none⟩ (.slice va3 _ vc3)) = x2
        intro hB3
        clear b0 b1 f0 f1
        obtain ⟨⟨b0, b1⟩, -, -⟩ := hB3.box
        obtain ⟨⟨r0, r1⟩, g0, g1⟩ := hB3.res
        have HB2 : Hid _ := hB3
        clear hB3
        go_wp2
        obtain ⟨F1, F2⟩ := Bn.fin (m := m) HB2.out hlt (by omega) (by omega) (Nat.le_trans (Nat.le_of_eq (HTC.out ⟨kv - 1, 0, 0, 0, 0, 0⟩)) (by omega))
        have HF2 : Hid _ := F2
        obtain ⟨⟨q0, q1⟩, -⟩ := F1
        exact bodyPost_ret (v := .agg #[_, _]) (by simp [results, Tryz.results33, go_sem, q0, q1] <;> exact ⟨rfl, rfl⟩) rfl HF2.out
      · go_simp
        refine (pick2 _ r _ 6 hB0.out.rd (by omega) (by omega) (by omega)).mono ?_
        rintro e' y1 ⟨kv, rfl, q0, q6, rd1, ot1⟩
        have hB1 : Hid _ := hB0.out.on hlt ot1 rd1
        have vkv := w64 (kv - 1) (by omega)
        clear rd1 ot1
        refine hK.out _ _ (trivial) (fun hHeld => ?_)
        clear hK K
        refine' wpAnyH_take (i := 4) (v := _) rfl (by kernel_rfl) (by kernel_rfl) (by kernel_rfl) (fun _ _ _ h => h) (Or.inl ⟨by rfl, ?hy14⟩) hHeld ?hn14
        case hy14 => (intro wz hSw; go_simp; first | done | with_reducible rfl)
        try simp only [nrm, Act.put]
        refine' wpAnyH_take (i := 5) (v := _) rfl (by kernel_rfl) (by kernel_rfl) (by kernel_rfl) (fun _ _ _ h => h) (Or.inl ⟨by rfl, ?hy15⟩) hHeld ?hn15
        case hy15 => (intro wz hSw; go_simp; first | done | with_reducible rfl)
        try simp only [nrm, Act.put]
        refine wpAnyH_ready (rs := [1, 6]) (by kernel_rfl) (by simp) ?_
        refine AllReadyH.cons rfl (fun K hK => ?_) (AllReadyH.cons rfl (fun K hK => ?_) AllReadyH.nil)
        · obtain ⟨⟨b0, b1⟩, -, -⟩ := hB1.out.box
          go_simp
          clear b0 b1
          refine hK.out _ _ (trivial) (fun hHeld => ?_)
          clear hK K
          refine wpAnyH_ready (rs := [6]) (by kernel_rfl) (by simp) ?_
          refine AllReadyH.cons rfl (fun K hK => ?_) AllReadyH.nil
          go_simp
          obtain ⟨y2, hy2⟩ : ∃ y, y = y1.alloc (.cells (cells8 ⟨kv - 1, 0, 0, 0, 0, 0⟩ (.slice none 0 0) (.slice none 0 0)).toArray 66) := ⟨_, rfl⟩
          have nw2 : ∀ j u, (cells8 ⟨kv - 1, 0, 0, 0, 0, 0⟩ (.slice none 0 0) (.slice none 0 0))[j]? = some u → y2.cell? ((⟨y1.heap.size, 0, none⟩ : Addr).add j) = some u := by rw [hy2]; exact cells8_new _ _ _ _ _
          have A2 : Below y1.heap.size y1 y2 := by rw [hy2]; exact (Below.refl _ _).alloc (Nat.le_refl _) _
          have hB2 : Hid _ := hB1.out.on hlt (Oth.of_below A2) (hB1.out.rd.oth A2)
          change K _ (y1.alloc (.cells (cells8 ⟨kv - 1, 0, 0, 0, 0, 0⟩ (.slice none 0 0) (.slice none 0 0)).toArray 66))
          rw [← hy2]
          clear hy2 A2
          refine hK.out _ _ (trivial) (fun hHeld => ?_)
          clear hK K
          refine wpAnyH_ready (rs := [7]) (by kernel_rfl) (by simp) ?_
          refine AllReadyH.cons rfl (fun K hK => ?_) AllReadyH.nil
          refine wp_append_at' _ _ _ 24 rfl 0 66 i0 _ 8 96 Tryz.underlying24 hi0 hz0 hz1 hz2 rfl (by decide) _ _ _ rfl hB2.out.row.1 ⟨y1.heap.size, 0, none⟩ 1 1 (cells8 ⟨kv - 1, 0, 0, 0, 0, 0⟩ (.slice none 0 0) (.slice none 0 0)) rfl rfl nw2 (cells8_one _ _ _ _ _ _ _) (by unfold maxLen; omega) (by omega) (by omega) ?_
          intro v3 x3 own3 grow3 hn3 hat3
          have hB3 := hB2.out.push hlt (Below.refl _ _) ⟨kv - 1, 0, 0, 0, 0, 0⟩ own3 grow3 hat3
          obtain ⟨va3, vc3, hv3⟩ := rowg_slice own3
          subst hv3
          have B3 : x3.heap[o]? = y2.heap[o]? := grow3.block o hB2.out.box.lt' (fun e => (hB2.out.row.2.1 o e.symm).2.1 rfl)
          obtain ⟨⟨b0, b1⟩, f0, f1⟩ := hB2.out.box
          replace b0 := (World.cell?_of_block (a := ⟨o, 0, none⟩) B3).trans b0
          replace b1 := (World.cell?_of_block (a := ⟨o, 1, none⟩) B3).trans b1
          replace f0 := (World.frozen?_of_block (a := ⟨o, 0, none⟩) B3).trans f0
          replace f1 := (World.frozen?_of_block (a := ⟨o, 1, none⟩) B3).trans f1
          clear own3 grow3 hn3 hat3 B3
          refine hK.out _ _ (trivial) (fun hHeld => ?_)
          clear hK K
          refine' wpAnyH_take (i := 8) (v := _) rfl (by kernel_rfl) (by kernel_rfl) (by kernel_rfl) (fun _ _ _ h => h) (Or.inl ⟨by rfl, ?hy16⟩) hHeld ?hn16
          case hy16 => (intro wz hSw; go_simp; first | done | with_reducible rfl)
          try simp only [nrm, Act.put]
          refine wpAnyH_ready (rs := [9]) (by kernel_rfl) (by simp) ?_
          refine AllReadyH.cons rfl (fun K hK => ?_) AllReadyH.nil
          go_simp
          refine hK.out _ _ (trivial) (fun hHeld => ?_)
          clear hK K
          refine wpAnyH_done (by kernel_rfl) ?_ _
          go_upto_region 22 with fail
          revert hB3
          generalize (x3.setCell ⟨o, 1, none⟩ (.slice va3 _ vc3)) = x2
          intro hB3
          clear b0 b1 f0 f1
          obtain ⟨⟨b0, b1⟩, -, -⟩ := hB3.box
          obtain ⟨⟨r0, r1⟩, g0, g1⟩ := hB3.res
          have HB2 : Hid _ := hB3
          clear hB3
          go_wp2
          obtain ⟨F1, F2⟩ := Bn.fin (m := m) HB2.out hlt (by omega) (by omega) (Nat.le_trans (Nat.le_of_eq (HTC.out ⟨kv - 1, 0, 0, 0, 0, 0⟩)) (by omega))
          have HF2 : Hid _ := F2
          obtain ⟨⟨q0, q1⟩, -⟩ := F1
          exact bodyPost_ret (v := .agg #[_, _]) (by simp [results, Tryz.results33, go_sem, q0, q1] <;> exact ⟨rfl, rfl⟩) rfl HF2.out
        · go_simp
          obtain ⟨y2, hy2⟩ : ∃ y, y = y1.alloc (.cells (cells8 ⟨kv - 1, 0, 0, 0, 0, 0⟩ (.slice none 0 0) (.slice none 0 0)).toArray 66) := ⟨_, rfl⟩
          have nw2 : ∀ j u, (cells8 ⟨kv - 1, 0, 0, 0, 0, 0⟩ (.slice none 0 0) (.slice none 0 0))[j]? = some u → y2.cell? ((⟨y1.heap.size, 0, none⟩ : Addr).add j) = some u := by rw [hy2]; exact cells8_new _ _ _ _ _
          have A2 : Below y1.heap.size y1 y2 := by rw [hy2]; exact (Below.refl _ _).alloc (Nat.le_refl _) _
          have hB2 : Hid _ := hB1.out.on hlt (Oth.of_below A2) (hB1.out.rd.oth A2)
          change K _ (y1.alloc (.cells (cells8 ⟨kv - 1, 0, 0, 0, 0, 0⟩ (.slice none 0 0) (.slice none 0 0)).toArray 66))
          rw [← hy2]
          clear hy2 A2
          refine hK.out _ _ (trivial) (fun hHeld => ?_)
          clear hK K
          refine wpAnyH_ready (rs := [1]) (by kernel_rfl) (by simp) ?_
          refine AllReadyH.cons rfl (fun K hK => ?_) AllReadyH.nil
          obtain ⟨⟨b0, b1⟩, -, -⟩ := hB2.out.box
          go_simp
          clear b0 b1
          refine hK.out _ _ (trivial) (fun hHeld => ?_)
          clear hK K
          refine wpAnyH_ready (rs := [7]) (by kernel_rfl) (by simp) ?_
          refine AllReadyH.cons rfl (fun K hK => ?_) AllReadyH.nil
          refine wp_append_at' _ _ _ 24 rfl 0 66 i0 _ 8 96 Tryz.underlying24 hi0 hz0 hz1 hz2 rfl (by decide) _ _ _ rfl hB2.out.row.1 ⟨y1.heap.size, 0, none⟩ 1 1 (cells8 ⟨kv - 1, 0, 0, 0, 0, 0⟩ (.slice none 0 0) (.slice none 0 0)) rfl rfl nw2 (cells8_one _ _ _ _ _ _ _) (by unfold maxLen; omega) (by omega) (by omega) ?_
          intro v3 x3 own3 grow3 hn3 hat3
          have hB3 := hB2.out.push hlt (Below.refl _ _) ⟨kv - 1, 0, 0, 0, 0, 0⟩ own3 grow3 hat3
          obtain ⟨va3, vc3, hv3⟩ := rowg_slice own3
          subst hv3
          have B3 : x3.heap[o]? = y2.heap[o]? := grow3.block o hB2.out.box.lt' (fun e => (hB2.out.row.2.1 o e.symm).2.1 rfl)
          obtain ⟨⟨b0, b1⟩, f0, f1⟩ := hB2.out.box
          replace b0 := (World.cell?_of_block (a := ⟨o, 0, none⟩) B3).trans b0
          replace b1 := (World.cell?_of_block (a := ⟨o, 1, none⟩) B3).trans b1
          replace f0 := (World.frozen?_of_block (a := ⟨o, 0, none⟩) B3).trans f0
          replace f1 := (World.frozen?_of_block (a := ⟨o, 1, none⟩) B3).trans f1
          clear own3 grow3 hn3 hat3 B3
          refine hK.out _ _ (trivial) (fun hHeld => ?_)
          clear hK K
          refine' wpAnyH_take (i := 8) (v := _) rfl (by kernel_rfl) (by kernel_rfl) (by kernel_rfl) (fun _ _ _ h => h) (Or.inl ⟨by rfl, ?hy17⟩) hHeld ?hn17
          case hy17 => (intro wz hSw; go_simp; first | done | with_reducible rfl)
          try simp only [nrm, Act.put]
          refine wpAnyH_ready (rs := [9]) (by kernel_rfl) (by simp) ?_
          refine AllReadyH.cons rfl (fun K hK => ?_) AllReadyH.nil
          go_simp
          refine hK.out _ _ (trivial) (fun hHeld => ?_)
          clear hK K
          refine wpAnyH_done (by kernel_rfl) ?_ _
          go_upto_region 22 with fail
          revert hB3
          generalize (x3.setCell ⟨o, 1, none⟩ (.slice va3 _ vc3)) = x2
          intro hB3
          clear b0 b1 f0 f1
          obtain ⟨⟨b0, b1⟩, -, -⟩ := hB3.box
          obtain ⟨⟨r0, r1⟩, g0, g1⟩ := hB3.res
          have HB2 : Hid _ := hB3
          clear hB3
          go_wp2
          obtain ⟨F1, F2⟩ := Bn.fin (m := m) HB2.out hlt (by omega) (by omega) (Nat.le_trans (Nat.le_of_eq (HTC.out ⟨kv - 1, 0, 0, 0, 0, 0⟩)) (by omega))
          have HF2 : Hid _ := F2
          obtain ⟨⟨q0, q1⟩, -⟩ := F1
          exact bodyPost_ret (v := .agg #[_, _]) (by simp [results, Tryz.results33, go_sem, q0, q1] <;> exact ⟨rfl, rfl⟩) rfl HF2.out
    · -- 2: a variable that there is not
      go_wp2_with (at_builtin; refine wpList_append_own_at _ rfl _ _ 24 rfl 0 66 i0 _ 8 96 Tryz.underlying24 hi0 hz0 hz1 hz2 rfl (by decide) _ _ _ rfl (HB.out.row.1.alloc _) ⟨x1.heap.size, 0, none⟩ 1 1 (cells8 ⟨1, ls.length, 1, 0, 0, 0⟩ (.slice none 0 0) (.slice none 0 0)) rfl rfl ?c1 ?c2 ?c3 ?c4 ?c5 ?_)
      case c1 => exact cells8_new _ _ _ _ _
      case c2 => exact cells8_one _ _ _ _ _ _ _
      case c3 => unfold maxLen; omega
      case c4 => omega
      case c5 => omega
      intro v3 x3 own3 grow3 hn3 hat3
      have hB3 := HB.out.push hlt ((Below.refl _ _).alloc (Nat.le_refl _) _) ⟨1, ls.length, 1, 0, 0, 0⟩ own3 grow3 (by simpa using hat3)
      obtain ⟨va3, vc3, hv3⟩ := rowg_slice own3
      subst hv3
      have B3 : x3.heap[o]? = x1.heap[o]? := (grow3.block o (by simp; have := HB.out.box.lt'; omega) (fun e => (HB.out.row.2.1 o e.symm).2.1 rfl)).trans (Below.heap_alloc _ _ _ HB.out.box.lt')
      replace b0 := (World.cell?_of_block (a := ⟨o, 0, none⟩) B3).trans b0
      replace b1 := (World.cell?_of_block (a := ⟨o, 1, none⟩) B3).trans b1
      replace f0 := (World.frozen?_of_block (a := ⟨o, 0, none⟩) B3).trans f0
      replace f1 := (World.frozen?_of_block (a := ⟨o, 1, none⟩) B3).trans f1
      clear own3 grow3 hn3 hat3 B3
      go_upto_region 22 with fail
      revert hB3
      generalize (x3.setCell ⟨o, 1, none⟩ (.slice va3 _ vc3)) = x2
      intro hB3
      clear b0 b1 f0 f1 r0 r1 g0 g1
      obtain ⟨⟨b0, b1⟩, -, -⟩ := hB3.box
      obtain ⟨⟨r0, r1⟩, g0, g1⟩ := hB3.res
      have HB2 : Hid _ := hB3
      clear hB3
      go_wp2
      obtain ⟨F1, F2⟩ := Bn.fin (m := m) HB2.out hlt (by omega) (by omega) (Nat.le_trans (Nat.le_of_eq (HTC.out ⟨1, ls.length, 1, 0, 0, 0⟩)) (by omega))
      have HF2 : Hid _ := F2
      obtain ⟨⟨q0, q1⟩, -⟩ := F1
      exact bodyPost_ret (v := .agg #[_, _]) (by simp [results, Tryz.results33, go_sem, q0, q1] <;> exact ⟨rfl, rfl⟩) rfl HF2.out
    · -- 3: a value that is none
      clear b0 b1 f0 f1 r0 r1 g0 g1
      go_upto_region 11 with fail
      have hBs : ∃ k, Bn w r x1.drew o (.slice (some ⟨g, 0, none⟩) ls.length loc) (.slice soa T.length soc) ls 2 T ys k := ⟨_, HB.out.on hlt (Oth.refl _ _).drew (HB.out.rd.same (fun _ _ => rfl))⟩
      obtain ⟨q0, hq0, hR0⟩ := HB.out.rd
      refine wp_region_inv' (by kernel_rfl) (fun l a x => ∃ u54 u55 u56 u57 u58 u59 u60 u61 u62 u63 u64 u65 u66 u67 u68 u69 u70, a = { tmps := #[.pointer (some ⟨r, 0, none⟩), .agg #[.slice (some ⟨lb, lf, none⟩) ls.length lc, .slice sa (ln 3 T) sc], undef, .pointer (some ⟨w.heap.size, 0, none⟩), .pointer (some ⟨w.heap.size + 1, 0, none⟩), .pointer (some ⟨o, 0, none⟩), undef, u7, u8, u9, u10, u11, u12, u13, u14, .pointer (some ⟨r, 0, none⟩), .int .i64 3, undef, undef, undef, undef, undef, undef, .bool false, .bool false, undef, undef, undef, undef, .bool false, .bool false, undef, undef, undef, undef, undef, undef, undef, undef, undef, .bool false, .bool false, undef, undef, undef, undef, undef, undef, undef, undef, undef, undef, .bool true, .bool true, u54, u55, u56, u57, u58, u59, u60, u61, u62, u63, u64, u65, u66, u67, u68, u69, u70, undef, undef, undef, undef, undef, undef, undef, undef, undef, undef, undef, undef, undef, undef, undef, undef, undef, undef, undef, undef, undef, undef, undef, undef, undef, undef, undef, undef, undef, undef, undef, undef, undef, undef, undef], defers := [] } ∧ (l.getD 15 false = false → ∃ k, Bn w r x o (.slice (some ⟨g, 0, none⟩) ls.length loc) (.slice soa T.length soc) ls 2 T ys k) ∧ Cnt l 4 9 x r (m + 1) ∧ Last l 15 ∧ Last l 16 ∧ Last l 17 ∧ On l 15 0 (u54 = .pointer (some ⟨o, 1, none⟩)) ∧ On l 15 1 (u55 = (.slice soa T.length soc)) ∧ On l 15 2 (FTab r [1, 1, 2, 3, 0, 5] u56 x) ∧ On l 15 3 (u57 = .pointer (some ⟨r, 0, none⟩)) ∧ On l 15 4 (FIdx 6 u58) ∧ On l 15 5 (FEl r (-1) 10 u59 x) ∧ On l 15 6 (FNum (-1) 10 u60) ∧ On l 15 7 (FTab r [10, -1, 4] u61 x) ∧ On l 15 8 (u62 = .pointer (some ⟨r, 0, none⟩)) ∧ On l 15 9 (FIdx 3 u63) ∧ On l 15 10 (FEl r (-1) 10 u64 x) ∧ On l 15 11 (FNum (-1) 10 u65) ∧ On l 15 12 (FAg u66) ∧ On l 15 13 (FSt u67) ∧ On l 15 14 (FNw r u68 x) ∧ (l.getD 15 false = true → l.getD 17 false = false → (∃ (p : Pay) (va : Option Addr) (vc k : Nat), u69 = .slice va (T.length + 1) vc ∧ C2 x o (.slice (some ⟨g, 0, none⟩) ls.length loc) (.slice soa T.length soc) ∧ Bn w r (x.setCell ⟨o, 1, none⟩ u69) o (.slice (some ⟨g, 0, none⟩) ls.length loc) u69 ls 2 (T ++ [(p, noT 2, noT 2)]) (ys ++ cells8 p (.slice none 0 0) (.slice none 0 0)) k)) ∧ On l 17 16 (u70 = .pointer (some ⟨o, 1, none⟩)) ∧ (l.getD 17 false = true → (∃ (p : Pay) (so' : Value) (ys' : List Value) (k : Nat), Bn w r x o (.slice (some ⟨g, 0, none⟩) ls.length loc) so' ls 2 (T ++ [(p, noT 2, noT 2)]) ys' k))) (low_of (by kernel_rfl)) ?_ ?_ ?_
      · exact ⟨_, _, _, _, _, _, _, _, _, _, _, _, _, _, _, _, _, rfl, fun _ => hBs, ⟨q0, hR0.same (fun _ _ => rfl), by omega, fun _ => by omega, fun _ => by omega⟩, Last.none, Last.none, Last.none, On.none, On.none, On.none, On.none, On.none, On.none, On.none, On.none, On.none, On.none, On.none, On.none, On.none, On.none, On.none, fun h => absurd h (by simp [Array.getD]), On.none, fun h => absurd h (by simp [Array.getD])⟩
      · clear hBs
        rintro l a x i hr ⟨⟨u54, u55, u56, u57, u58, u59, u60, u61, u62, u63, u64, u65, u66, u67, u68, u69, u70, rfl, hBN, hC, hZ15, hZ16, hZ17, f0, f1, f2, f3, f4, f5, f6, f7, f8, f9, f10, f11, f12, f13, f14, hA, f16, hD⟩, hcl⟩
        have hrx : r < x.heap.size := by obtain ⟨q, hR, _⟩ := hC; exact hR.lt
        rw [mem_ready] at hr
        obtain ⟨hun, o', ho, hall⟩ := hr
        have hi : i < 18 := by
          rcases Nat.lt_or_ge i 18 with h | h
          · exact h
          · rw [Array.getElem?_eq_none (by simpa using h)] at ho
            cases ho
        have : i = 0 ∨ i = 1 ∨ i = 2 ∨ i = 3 ∨ i = 4 ∨ i = 5 ∨ i = 6 ∨ i = 7 ∨ i = 8 ∨ i = 9 ∨ i = 10 ∨ i = 11 ∨ i = 12 ∨ i = 13 ∨ i = 14 ∨ i = 15 ∨ i = 16 ∨ i = 17 := by omega
        rcases this with rfl | rfl | rfl | rfl | rfl | rfl | rfl | rfl | rfl | rfl | rfl | rfl | rfl | rfl | rfl | rfl | rfl | rfl
        · cases ho
          have hs := hZ15.not (show 0 < 15 by decide) hun
          have hs7 := hZ17.not (show 0 < 17 by decide) hun
          refine wpOp_abs rfl rfl (fun K hK => ?_)
          go_simp
          refine hK.out _ _ ⟨_, _, _, _, _, _, _, _, _, _, _, _, _, _, _, _, _, rfl, fun _ => hBN hs, hC.keep (by decide) (by decide) (fun _ _ => rfl), hZ15.keep (by decide) hun, hZ16.keep (by decide) hun, hZ17.keep (by decide) hun, On.new (rfl), f1.keep (by decide) (by decide) (fun h => h), f2.keep (by decide) (by decide) (fun h => h), f3.keep (by decide) (by decide) (fun h => h), f4.keep (by decide) (by decide) (fun h => h), f5.keep (by decide) (by decide) (fun h => h), f6.keep (by decide) (by decide) (fun h => h), f7.keep (by decide) (by decide) (fun h => h), f8.keep (by decide) (by decide) (fun h => h), f9.keep (by decide) (by decide) (fun h => h), f10.keep (by decide) (by decide) (fun h => h), f11.keep (by decide) (by decide) (fun h => h), f12.keep (by decide) (by decide) (fun h => h), f13.keep (by decide) (by decide) (fun h => h), f14.keep (by decide) (by decide) (fun h => h), fun h => absurd h (by rw [getD_set_ne false (by decide), hs]; decide), f16.keep (by decide) (by decide) (fun h => h), fun h => absurd h (by rw [getD_set_ne false (by decide), hs7]; decide)⟩
        · cases ho
          have hs := hZ15.not (show 1 < 15 by decide) hun
          have hs7 := hZ17.not (show 1 < 17 by decide) hun
          have d0 : l.getD 0 false = true := hall ⟨0, .data⟩ (by simp) rfl
          obtain rfl := f0 d0 hs
          obtain ⟨kB, hB⟩ := hBN hs
          obtain ⟨⟨b0, b1⟩, -, -⟩ := hB.box
          refine wpOp_abs rfl rfl (fun K hK => ?_)
          go_simp
          refine hK.out _ _ ⟨_, _, _, _, _, _, _, _, _, _, _, _, _, _, _, _, _, rfl, fun _ => ⟨kB, hB⟩, hC.keep (by decide) (by decide) (fun _ _ => rfl), hZ15.keep (by decide) hun, hZ16.keep (by decide) hun, hZ17.keep (by decide) hun, On.new rfl, On.new (rfl), f2.keep (by decide) (by decide) (fun h => h), f3.keep (by decide) (by decide) (fun h => h), f4.keep (by decide) (by decide) (fun h => h), f5.keep (by decide) (by decide) (fun h => h), f6.keep (by decide) (by decide) (fun h => h), f7.keep (by decide) (by decide) (fun h => h), f8.keep (by decide) (by decide) (fun h => h), f9.keep (by decide) (by decide) (fun h => h), f10.keep (by decide) (by decide) (fun h => h), f11.keep (by decide) (by decide) (fun h => h), f12.keep (by decide) (by decide) (fun h => h), f13.keep (by decide) (by decide) (fun h => h), f14.keep (by decide) (by decide) (fun h => h), fun h => absurd h (by rw [getD_set_ne false (by decide), hs]; decide), f16.keep (by decide) (by decide) (fun h => h), fun h => absurd h (by rw [getD_set_ne false (by decide), hs7]; decide)⟩
        · cases ho
          have hs := hZ15.not (show 2 < 15 by decide) hun
          have hs7 := hZ17.not (show 2 < 17 by decide) hun
          refine wpOp_abs rfl rfl (fun K hK => ?_)
          go_simp
          have hAl : Below x.heap.size x (x.alloc (.cells ([1, 1, 2, 3, 0, 5].map fun n => Value.int .i64 n).toArray 3)) := (Below.refl _ _).alloc (Nat.le_refl _) _
          have hx : Oth r x (x.alloc (.cells ([1, 1, 2, 3, 0, 5].map fun n => Value.int .i64 n).toArray 3)) := Oth.of_below hAl
          refine hK.out _ _ ⟨_, _, _, _, _, _, _, _, _, _, _, _, _, _, _, _, _, rfl, fun _ => (hBN hs).imp fun k hB => hB.on hlt hx (hB.rd.oth hAl), hC.keep (by decide) (by decide) (below_same hAl hrx), hZ15.keep (by decide) hun, hZ16.keep (by decide) hun, hZ17.keep (by decide) hun, f0.keep (by decide) (by decide) (fun h => h), f1.keep (by decide) (by decide) (fun h => h), On.new (⟨x.heap.size, rfl, by omega, Tab_alloc x [1, 1, 2, 3, 0, 5] 3⟩), f3.keep (by decide) (by decide) (fun h => h), f4.keep (by decide) (by decide) (fun h => h), f5.keep (by decide) (by decide) (fun h => h.oth hx), f6.keep (by decide) (by decide) (fun h => h), f7.keep (by decide) (by decide) (fun h => h.oth hx), f8.keep (by decide) (by decide) (fun h => h), f9.keep (by decide) (by decide) (fun h => h), f10.keep (by decide) (by decide) (fun h => h.oth hx), f11.keep (by decide) (by decide) (fun h => h), f12.keep (by decide) (by decide) (fun h => h), f13.keep (by decide) (by decide) (fun h => h), f14.keep (by decide) (by decide) (fun h => h.oth hx), fun h => absurd h (by rw [getD_set_ne false (by decide), hs]; decide), f16.keep (by decide) (by decide) (fun h => h), fun h => absurd h (by rw [getD_set_ne false (by decide), hs7]; decide)⟩
        · cases ho
          have hs := hZ15.not (show 3 < 15 by decide) hun
          have hs7 := hZ17.not (show 3 < 17 by decide) hun
          refine wpOp_abs rfl rfl (fun K hK => ?_)
          go_simp
          refine hK.out _ _ ⟨_, _, _, _, _, _, _, _, _, _, _, _, _, _, _, _, _, rfl, fun _ => hBN hs, hC.keep (by decide) (by decide) (fun _ _ => rfl), hZ15.keep (by decide) hun, hZ16.keep (by decide) hun, hZ17.keep (by decide) hun, f0.keep (by decide) (by decide) (fun h => h), f1.keep (by decide) (by decide) (fun h => h), f2.keep (by decide) (by decide) (fun h => h), On.new (rfl), f4.keep (by decide) (by decide) (fun h => h), f5.keep (by decide) (by decide) (fun h => h), f6.keep (by decide) (by decide) (fun h => h), f7.keep (by decide) (by decide) (fun h => h), f8.keep (by decide) (by decide) (fun h => h), f9.keep (by decide) (by decide) (fun h => h), f10.keep (by decide) (by decide) (fun h => h), f11.keep (by decide) (by decide) (fun h => h), f12.keep (by decide) (by decide) (fun h => h), f13.keep (by decide) (by decide) (fun h => h), f14.keep (by decide) (by decide) (fun h => h), fun h => absurd h (by rw [getD_set_ne false (by decide), hs]; decide), f16.keep (by decide) (by decide) (fun h => h), fun h => absurd h (by rw [getD_set_ne false (by decide), hs7]; decide)⟩
        · cases ho
          have hs := hZ15.not (show 4 < 15 by decide) hun
          have hs7 := hZ17.not (show 4 < 17 by decide) hun
          have d3 : l.getD 3 false = true := hall ⟨3, .data⟩ (by simp) rfl
          obtain rfl := f3 d3 hs
          obtain ⟨q, hR, q1, q2, q3⟩ := hC
          have hq := q3 (un_false hun)
          have n9 : q ≤ 1000000000 := by omega
          refine wpOp_abs rfl rfl (fun K hK => ?_)
          go_wp2_with (go_at_call 11; refine (pick_r _ r q 6 hR n9 (by omega) (by omega)).mono ?_; rintro e x' ⟨k, rfl, k0, k1, hR', hx⟩)
          refine hK.out _ _ ⟨_, _, _, _, _, _, _, _, _, _, _, _, _, _, _, _, _, rfl, bn_ex (hBN hs) hlt hx ⟨q + 1, Nat.le_refl _, hR'⟩, ⟨q + 1, hR', by omega, fun _ => by omega, fun h => (by rw [set_on hun] at h; cases h)⟩, hZ15.keep (by decide) hun, hZ16.keep (by decide) hun, hZ17.keep (by decide) hun, f0.keep (by decide) (by decide) (fun h => h), f1.keep (by decide) (by decide) (fun h => h), f2.keep (by decide) (by decide) (fun h => h.oth hx), On.new rfl, On.new (⟨k.toNat, by omega, by rw [Int.toNat_of_nonneg k0]⟩), f5.keep (by decide) (by decide) (fun h => h.oth hx), f6.keep (by decide) (by decide) (fun h => h), f7.keep (by decide) (by decide) (fun h => h.oth hx), f8.keep (by decide) (by decide) (fun h => h), f9.keep (by decide) (by decide) (fun h => h), f10.keep (by decide) (by decide) (fun h => h.oth hx), f11.keep (by decide) (by decide) (fun h => h), f12.keep (by decide) (by decide) (fun h => h), f13.keep (by decide) (by decide) (fun h => h), f14.keep (by decide) (by decide) (fun h => h.oth hx), fun h => absurd h (by rw [getD_set_ne false (by decide), hs]; decide), f16.keep (by decide) (by decide) (fun h => h), fun h => absurd h (by rw [getD_set_ne false (by decide), hs7]; decide)⟩
        · cases ho
          have hs := hZ15.not (show 5 < 15 by decide) hun
          have hs7 := hZ17.not (show 5 < 17 by decide) hun
          have d2 : l.getD 2 false = true := hall ⟨2, .data⟩ (by simp) rfl
          have d4 : l.getD 4 false = true := hall ⟨4, .data⟩ (by simp) rfl
          obtain ⟨b, rfl, hb, ht⟩ := f2 d2 hs
          obtain ⟨k, hk, rfl⟩ := f4 d4 hs
          have hk9 : (k : Int) < 6 := by omega
          refine wpOp_abs rfl rfl (fun K hK => ?_)
          simp only [List.length_cons, List.length_nil, Nat.reduceAdd]
          go_simp
          refine hK.out _ _ ⟨_, _, _, _, _, _, _, _, _, _, _, _, _, _, _, _, _, rfl, fun _ => hBN hs, hC.keep (by decide) (by decide) (fun _ _ => rfl), hZ15.keep (by decide) hun, hZ16.keep (by decide) hun, hZ17.keep (by decide) hun, f0.keep (by decide) (by decide) (fun h => h), f1.keep (by decide) (by decide) (fun h => h), f2.keep (by decide) (by decide) (fun h => h), f3.keep (by decide) (by decide) (fun h => h), f4.keep (by decide) (by decide) (fun h => h), On.new (tab_el (-1) 10 hb ht hk (by decide)), f6.keep (by decide) (by decide) (fun h => h), f7.keep (by decide) (by decide) (fun h => h), f8.keep (by decide) (by decide) (fun h => h), f9.keep (by decide) (by decide) (fun h => h), f10.keep (by decide) (by decide) (fun h => h), f11.keep (by decide) (by decide) (fun h => h), f12.keep (by decide) (by decide) (fun h => h), f13.keep (by decide) (by decide) (fun h => h), f14.keep (by decide) (by decide) (fun h => h), fun h => absurd h (by rw [getD_set_ne false (by decide), hs]; decide), f16.keep (by decide) (by decide) (fun h => h), fun h => absurd h (by rw [getD_set_ne false (by decide), hs7]; decide)⟩
        · cases ho
          have hs := hZ15.not (show 6 < 15 by decide) hun
          have hs7 := hZ17.not (show 6 < 17 by decide) hun
          have d5 : l.getD 5 false = true := hall ⟨5, .data⟩ (by simp) rfl
          obtain ⟨b, k, z, rfl, hb, hc', hz⟩ := f5 d5 hs
          refine wpOp_abs rfl rfl (fun K hK => ?_)
          go_simp
          refine hK.out _ _ ⟨_, _, _, _, _, _, _, _, _, _, _, _, _, _, _, _, _, rfl, fun _ => hBN hs, hC.keep (by decide) (by decide) (fun _ _ => rfl), hZ15.keep (by decide) hun, hZ16.keep (by decide) hun, hZ17.keep (by decide) hun, f0.keep (by decide) (by decide) (fun h => h), f1.keep (by decide) (by decide) (fun h => h), f2.keep (by decide) (by decide) (fun h => h), f3.keep (by decide) (by decide) (fun h => h), f4.keep (by decide) (by decide) (fun h => h), f5.keep (by decide) (by decide) (fun h => h), On.new (⟨z, rfl, hz⟩), f7.keep (by decide) (by decide) (fun h => h), f8.keep (by decide) (by decide) (fun h => h), f9.keep (by decide) (by decide) (fun h => h), f10.keep (by decide) (by decide) (fun h => h), f11.keep (by decide) (by decide) (fun h => h), f12.keep (by decide) (by decide) (fun h => h), f13.keep (by decide) (by decide) (fun h => h), f14.keep (by decide) (by decide) (fun h => h), fun h => absurd h (by rw [getD_set_ne false (by decide), hs]; decide), f16.keep (by decide) (by decide) (fun h => h), fun h => absurd h (by rw [getD_set_ne false (by decide), hs7]; decide)⟩
        · cases ho
          have hs := hZ15.not (show 7 < 15 by decide) hun
          have hs7 := hZ17.not (show 7 < 17 by decide) hun
          refine wpOp_abs rfl rfl (fun K hK => ?_)
          go_simp
          have hAl : Below x.heap.size x (x.alloc (.cells ([10, -1, 4].map fun n => Value.int .i64 n).toArray 3)) := (Below.refl _ _).alloc (Nat.le_refl _) _
          have hx : Oth r x (x.alloc (.cells ([10, -1, 4].map fun n => Value.int .i64 n).toArray 3)) := Oth.of_below hAl
          refine hK.out _ _ ⟨_, _, _, _, _, _, _, _, _, _, _, _, _, _, _, _, _, rfl, fun _ => (hBN hs).imp fun k hB => hB.on hlt hx (hB.rd.oth hAl), hC.keep (by decide) (by decide) (below_same hAl hrx), hZ15.keep (by decide) hun, hZ16.keep (by decide) hun, hZ17.keep (by decide) hun, f0.keep (by decide) (by decide) (fun h => h), f1.keep (by decide) (by decide) (fun h => h), f2.keep (by decide) (by decide) (fun h => h.oth hx), f3.keep (by decide) (by decide) (fun h => h), f4.keep (by decide) (by decide) (fun h => h), f5.keep (by decide) (by decide) (fun h => h.oth hx), f6.keep (by decide) (by decide) (fun h => h), On.new (⟨x.heap.size, rfl, by omega, Tab_alloc x [10, -1, 4] 3⟩), f8.keep (by decide) (by decide) (fun h => h), f9.keep (by decide) (by decide) (fun h => h), f10.keep (by decide) (by decide) (fun h => h.oth hx), f11.keep (by decide) (by decide) (fun h => h), f12.keep (by decide) (by decide) (fun h => h), f13.keep (by decide) (by decide) (fun h => h), f14.keep (by decide) (by decide) (fun h => h.oth hx), fun h => absurd h (by rw [getD_set_ne false (by decide), hs]; decide), f16.keep (by decide) (by decide) (fun h => h), fun h => absurd h (by rw [getD_set_ne false (by decide), hs7]; decide)⟩
        · cases ho
          have hs := hZ15.not (show 8 < 15 by decide) hun
          have hs7 := hZ17.not (show 8 < 17 by decide) hun
          refine wpOp_abs rfl rfl (fun K hK => ?_)
          go_simp
          refine hK.out _ _ ⟨_, _, _, _, _, _, _, _, _, _, _, _, _, _, _, _, _, rfl, fun _ => hBN hs, hC.keep (by decide) (by decide) (fun _ _ => rfl), hZ15.keep (by decide) hun, hZ16.keep (by decide) hun, hZ17.keep (by decide) hun, f0.keep (by decide) (by decide) (fun h => h), f1.keep (by decide) (by decide) (fun h => h), f2.keep (by decide) (by decide) (fun h => h), f3.keep (by decide) (by decide) (fun h => h), f4.keep (by decide) (by decide) (fun h => h), f5.keep (by decide) (by decide) (fun h => h), f6.keep (by decide) (by decide) (fun h => h), f7.keep (by decide) (by decide) (fun h => h), On.new (rfl), f9.keep (by decide) (by decide) (fun h => h), f10.keep (by decide) (by decide) (fun h => h), f11.keep (by decide) (by decide) (fun h => h), f12.keep (by decide) (by decide) (fun h => h), f13.keep (by decide) (by decide) (fun h => h), f14.keep (by decide) (by decide) (fun h => h), fun h => absurd h (by rw [getD_set_ne false (by decide), hs]; decide), f16.keep (by decide) (by decide) (fun h => h), fun h => absurd h (by rw [getD_set_ne false (by decide), hs7]; decide)⟩
        · cases ho
          have hs := hZ15.not (show 9 < 15 by decide) hun
          have hs7 := hZ17.not (show 9 < 17 by decide) hun
          have d8 : l.getD 8 false = true := hall ⟨8, .data⟩ (by simp) rfl
          have d4 : l.getD 4 false = true := hall ⟨4, .chain⟩ (by simp) rfl
          obtain rfl := f8 d8 hs
          obtain ⟨q, hR, q1, q2, q3⟩ := hC
          have hq := q2 (un_false hun)
          have n9 : q ≤ 1000000000 := by omega
          refine wpOp_abs rfl rfl (fun K hK => ?_)
          go_wp2_with (go_at_call 11; refine (pick_r _ r q 3 hR n9 (by omega) (by omega)).mono ?_; rintro e x' ⟨k, rfl, k0, k1, hR', hx⟩)
          refine hK.out _ _ ⟨_, _, _, _, _, _, _, _, _, _, _, _, _, _, _, _, _, rfl, bn_ex (hBN hs) hlt hx ⟨q + 1, Nat.le_refl _, hR'⟩, ⟨q + 1, hR', by omega, fun h => (by rw [set_on hun] at h; cases h), fun h => (by rw [getD_set_ne false (by decide), d4] at h; cases h)⟩, hZ15.keep (by decide) hun, hZ16.keep (by decide) hun, hZ17.keep (by decide) hun, f0.keep (by decide) (by decide) (fun h => h), f1.keep (by decide) (by decide) (fun h => h), f2.keep (by decide) (by decide) (fun h => h.oth hx), f3.keep (by decide) (by decide) (fun h => h), f4.keep (by decide) (by decide) (fun h => h), f5.keep (by decide) (by decide) (fun h => h.oth hx), f6.keep (by decide) (by decide) (fun h => h), f7.keep (by decide) (by decide) (fun h => h.oth hx), On.new rfl, On.new (⟨k.toNat, by omega, by rw [Int.toNat_of_nonneg k0]⟩), f10.keep (by decide) (by decide) (fun h => h.oth hx), f11.keep (by decide) (by decide) (fun h => h), f12.keep (by decide) (by decide) (fun h => h), f13.keep (by decide) (by decide) (fun h => h), f14.keep (by decide) (by decide) (fun h => h.oth hx), fun h => absurd h (by rw [getD_set_ne false (by decide), hs]; decide), f16.keep (by decide) (by decide) (fun h => h), fun h => absurd h (by rw [getD_set_ne false (by decide), hs7]; decide)⟩
        · cases ho
          have hs := hZ15.not (show 10 < 15 by decide) hun
          have hs7 := hZ17.not (show 10 < 17 by decide) hun
          have d7 : l.getD 7 false = true := hall ⟨7, .data⟩ (by simp) rfl
          have d9 : l.getD 9 false = true := hall ⟨9, .data⟩ (by simp) rfl
          obtain ⟨b, rfl, hb, ht⟩ := f7 d7 hs
          obtain ⟨k, hk, rfl⟩ := f9 d9 hs
          have hk9 : (k : Int) < 3 := by omega
          refine wpOp_abs rfl rfl (fun K hK => ?_)
          simp only [List.length_cons, List.length_nil, Nat.reduceAdd]
          go_simp
          refine hK.out _ _ ⟨_, _, _, _, _, _, _, _, _, _, _, _, _, _, _, _, _, rfl, fun _ => hBN hs, hC.keep (by decide) (by decide) (fun _ _ => rfl), hZ15.keep (by decide) hun, hZ16.keep (by decide) hun, hZ17.keep (by decide) hun, f0.keep (by decide) (by decide) (fun h => h), f1.keep (by decide) (by decide) (fun h => h), f2.keep (by decide) (by decide) (fun h => h), f3.keep (by decide) (by decide) (fun h => h), f4.keep (by decide) (by decide) (fun h => h), f5.keep (by decide) (by decide) (fun h => h), f6.keep (by decide) (by decide) (fun h => h), f7.keep (by decide) (by decide) (fun h => h), f8.keep (by decide) (by decide) (fun h => h), f9.keep (by decide) (by decide) (fun h => h), On.new (tab_el (-1) 10 hb ht hk (by decide)), f11.keep (by decide) (by decide) (fun h => h), f12.keep (by decide) (by decide) (fun h => h), f13.keep (by decide) (by decide) (fun h => h), f14.keep (by decide) (by decide) (fun h => h), fun h => absurd h (by rw [getD_set_ne false (by decide), hs]; decide), f16.keep (by decide) (by decide) (fun h => h), fun h => absurd h (by rw [getD_set_ne false (by decide), hs7]; decide)⟩
        · cases ho
          have hs := hZ15.not (show 11 < 15 by decide) hun
          have hs7 := hZ17.not (show 11 < 17 by decide) hun
          have d10 : l.getD 10 false = true := hall ⟨10, .data⟩ (by simp) rfl
          obtain ⟨b, k, z, rfl, hb, hc', hz⟩ := f10 d10 hs
          refine wpOp_abs rfl rfl (fun K hK => ?_)
          go_simp
          refine hK.out _ _ ⟨_, _, _, _, _, _, _, _, _, _, _, _, _, _, _, _, _, rfl, fun _ => hBN hs, hC.keep (by decide) (by decide) (fun _ _ => rfl), hZ15.keep (by decide) hun, hZ16.keep (by decide) hun, hZ17.keep (by decide) hun, f0.keep (by decide) (by decide) (fun h => h), f1.keep (by decide) (by decide) (fun h => h), f2.keep (by decide) (by decide) (fun h => h), f3.keep (by decide) (by decide) (fun h => h), f4.keep (by decide) (by decide) (fun h => h), f5.keep (by decide) (by decide) (fun h => h), f6.keep (by decide) (by decide) (fun h => h), f7.keep (by decide) (by decide) (fun h => h), f8.keep (by decide) (by decide) (fun h => h), f9.keep (by decide) (by decide) (fun h => h), f10.keep (by decide) (by decide) (fun h => h), On.new (⟨z, rfl, hz⟩), f12.keep (by decide) (by decide) (fun h => h), f13.keep (by decide) (by decide) (fun h => h), f14.keep (by decide) (by decide) (fun h => h), fun h => absurd h (by rw [getD_set_ne false (by decide), hs]; decide), f16.keep (by decide) (by decide) (fun h => h), fun h => absurd h (by rw [getD_set_ne false (by decide), hs7]; decide)⟩
        · cases ho
          have hs := hZ15.not (show 12 < 15 by decide) hun
          have hs7 := hZ17.not (show 12 < 17 by decide) hun
          have d6 : l.getD 6 false = true := hall ⟨6, .data⟩ (by simp) rfl
          have d11 : l.getD 11 false = true := hall ⟨11, .data⟩ (by simp) rfl
          obtain ⟨z, rfl, hz⟩ := f6 d6 hs
          obtain ⟨y, rfl, hy⟩ := f11 d11 hs
          refine wpOp_abs rfl rfl (fun K hK => ?_)
          go_simp
          refine hK.out _ _ ⟨_, _, _, _, _, _, _, _, _, _, _, _, _, _, _, _, _, rfl, fun _ => hBN hs, hC.keep (by decide) (by decide) (fun _ _ => rfl), hZ15.keep (by decide) hun, hZ16.keep (by decide) hun, hZ17.keep (by decide) hun, f0.keep (by decide) (by decide) (fun h => h), f1.keep (by decide) (by decide) (fun h => h), f2.keep (by decide) (by decide) (fun h => h), f3.keep (by decide) (by decide) (fun h => h), f4.keep (by decide) (by decide) (fun h => h), f5.keep (by decide) (by decide) (fun h => h), f6.keep (by decide) (by decide) (fun h => h), f7.keep (by decide) (by decide) (fun h => h), f8.keep (by decide) (by decide) (fun h => h), f9.keep (by decide) (by decide) (fun h => h), f10.keep (by decide) (by decide) (fun h => h), f11.keep (by decide) (by decide) (fun h => h), On.new (⟨z, y, rfl⟩), f13.keep (by decide) (by decide) (fun h => h), f14.keep (by decide) (by decide) (fun h => h), fun h => absurd h (by rw [getD_set_ne false (by decide), hs]; decide), f16.keep (by decide) (by decide) (fun h => h), fun h => absurd h (by rw [getD_set_ne false (by decide), hs7]; decide)⟩
        · cases ho
          have hs := hZ15.not (show 13 < 15 by decide) hun
          have hs7 := hZ17.not (show 13 < 17 by decide) hun
          have d12 : l.getD 12 false = true := hall ⟨12, .data⟩ (by simp) rfl
          obtain ⟨z, y, rfl⟩ := f12 d12 hs
          refine wpOp_abs rfl rfl (fun K hK => ?_)
          go_simp
          refine hK.out _ _ ⟨_, _, _, _, _, _, _, _, _, _, _, _, _, _, _, _, _, rfl, fun _ => hBN hs, hC.keep (by decide) (by decide) (fun _ _ => rfl), hZ15.keep (by decide) hun, hZ16.keep (by decide) hun, hZ17.keep (by decide) hun, f0.keep (by decide) (by decide) (fun h => h), f1.keep (by decide) (by decide) (fun h => h), f2.keep (by decide) (by decide) (fun h => h), f3.keep (by decide) (by decide) (fun h => h), f4.keep (by decide) (by decide) (fun h => h), f5.keep (by decide) (by decide) (fun h => h), f6.keep (by decide) (by decide) (fun h => h), f7.keep (by decide) (by decide) (fun h => h), f8.keep (by decide) (by decide) (fun h => h), f9.keep (by decide) (by decide) (fun h => h), f10.keep (by decide) (by decide) (fun h => h), f11.keep (by decide) (by decide) (fun h => h), f12.keep (by decide) (by decide) (fun h => h), On.new (⟨⟨1, 0, z, y, 0, 0⟩, rfl⟩), f14.keep (by decide) (by decide) (fun h => h), fun h => absurd h (by rw [getD_set_ne false (by decide), hs]; decide), f16.keep (by decide) (by decide) (fun h => h), fun h => absurd h (by rw [getD_set_ne false (by decide), hs7]; decide)⟩
        · cases ho
          have hs := hZ15.not (show 14 < 15 by decide) hun
          have hs7 := hZ17.not (show 14 < 17 by decide) hun
          have d13 : l.getD 13 false = true := hall ⟨13, .data⟩ (by simp) rfl
          obtain ⟨p, rfl⟩ := f13 d13 hs
          refine wpOp_abs rfl rfl (fun K hK => ?_)
          go_simp
          have hAl : Below x.heap.size x (x.alloc (.cells (cells8 p (.slice none 0 0) (.slice none 0 0)).toArray 66)) := (Below.refl _ _).alloc (Nat.le_refl _) _
          have hx : Oth r x (x.alloc (.cells (cells8 p (.slice none 0 0) (.slice none 0 0)).toArray 66)) := Oth.of_below hAl
          refine hK.out _ _ ⟨_, _, _, _, _, _, _, _, _, _, _, _, _, _, _, _, _, rfl, fun _ => (hBN hs).imp fun k hB => hB.on hlt hx (hB.rd.oth hAl), hC.keep (by decide) (by decide) (below_same hAl hrx), hZ15.keep (by decide) hun, hZ16.keep (by decide) hun, hZ17.keep (by decide) hun, f0.keep (by decide) (by decide) (fun h => h), f1.keep (by decide) (by decide) (fun h => h), f2.keep (by decide) (by decide) (fun h => h.oth hx), f3.keep (by decide) (by decide) (fun h => h), f4.keep (by decide) (by decide) (fun h => h), f5.keep (by decide) (by decide) (fun h => h.oth hx), f6.keep (by decide) (by decide) (fun h => h), f7.keep (by decide) (by decide) (fun h => h.oth hx), f8.keep (by decide) (by decide) (fun h => h), f9.keep (by decide) (by decide) (fun h => h), f10.keep (by decide) (by decide) (fun h => h.oth hx), f11.keep (by decide) (by decide) (fun h => h), f12.keep (by decide) (by decide) (fun h => h), On.new ⟨p, rfl⟩, On.new (⟨x.heap.size, p, rfl, by omega, cells8_new _ _ _ _ _⟩), fun h => absurd h (by rw [getD_set_ne false (by decide), hs]; decide), f16.keep (by decide) (by decide) (fun h => h), fun h => absurd h (by rw [getD_set_ne false (by decide), hs7]; decide)⟩
        · cases ho
          have hs := un_false hun
          have hs7 := hZ17.not (show 15 < 17 by decide) hun
          have d1 : l.getD 1 false = true := hall ⟨1, .data⟩ (by simp) rfl
          have d14 : l.getD 14 false = true := hall ⟨14, .data⟩ (by simp) rfl
          have d9 : l.getD 9 false = true := hall ⟨9, .chain⟩ (by simp) rfl
          have d13 : l.getD 13 false = true := hcl 14 _ rfl d14 ⟨13, .data⟩ (by simp) rfl
          have d12 : l.getD 12 false = true := hcl 13 _ rfl d13 ⟨12, .data⟩ (by simp) rfl
          have d6 : l.getD 6 false = true := hcl 12 _ rfl d12 ⟨6, .data⟩ (by simp) rfl
          have d11 : l.getD 11 false = true := hcl 12 _ rfl d12 ⟨11, .data⟩ (by simp) rfl
          have d5 : l.getD 5 false = true := hcl 6 _ rfl d6 ⟨5, .data⟩ (by simp) rfl
          have d2 : l.getD 2 false = true := hcl 5 _ rfl d5 ⟨2, .data⟩ (by simp) rfl
          have d4 : l.getD 4 false = true := hcl 5 _ rfl d5 ⟨4, .data⟩ (by simp) rfl
          have d10 : l.getD 10 false = true := hcl 11 _ rfl d11 ⟨10, .data⟩ (by simp) rfl
          have d7 : l.getD 7 false = true := hcl 10 _ rfl d10 ⟨7, .data⟩ (by simp) rfl
          have d8 : l.getD 8 false = true := hcl 9 _ rfl d9 ⟨8, .data⟩ (by simp) rfl
          have d3 : l.getD 3 false = true := hcl 4 _ rfl d4 ⟨3, .data⟩ (by simp) rfl
          have d0 : l.getD 0 false = true := hcl 1 _ rfl d1 ⟨0, .data⟩ (by simp) rfl
          obtain rfl := f1 d1 hs
          obtain ⟨b, p, rfl, hb, hnw⟩ := f14 d14 hs
          obtain ⟨kB, hB⟩ := hBN hs
          refine wpOp_abs rfl rfl (fun K hK => ?_)
          refine wp_append_at' _ _ _ 24 rfl 0 66 i0 _ 8 96 Tryz.underlying24 hi0 hz0 hz1 hz2 rfl (by decide) _ _ _ rfl hB.row.1 ⟨b, 0, none⟩ 1 1 (cells8 p (.slice none 0 0) (.slice none 0 0)) rfl rfl hnw (cells8_one _ _ _ _ _ _ _) (by unfold maxLen; omega) (by omega) (by omega) ?_
          intro v3 x3 own3 grow3 hn3 hat3
          have hB3 := hB.push hlt (Below.refl _ _) p own3 grow3 hat3
          obtain ⟨va3, vc3, hv3⟩ := rowg_slice own3
          subst hv3
          have B3 : x3.heap[o]? = x.heap[o]? := grow3.block o hB.box.lt' (fun e => (hB.row.2.1 o e.symm).2.1 rfl)
          have hrd3 : ∀ n, n ≤ r → x3.heap[n]? = x.heap[n]? := fun n hn => grow3.block n (by omega) (fun e => by have := (hB.row.2.1 n e.symm).1; omega)
          refine hK.out _ _ ⟨_, _, _, _, _, _, _, _, _, _, _, _, _, _, _, _, _, rfl, fun h => absurd (set_on hun) (by rw [h]; decide), hC.keep (by decide) (by decide) hrd3, last_set (by intro j hj; have : j = 0 ∨ j = 1 ∨ j = 2 ∨ j = 3 ∨ j = 4 ∨ j = 5 ∨ j = 6 ∨ j = 7 ∨ j = 8 ∨ j = 9 ∨ j = 10 ∨ j = 11 ∨ j = 12 ∨ j = 13 ∨ j = 14 := (by omega); rcases this with rfl | rfl | rfl | rfl | rfl | rfl | rfl | rfl | rfl | rfl | rfl | rfl | rfl | rfl | rfl <;> first | assumption | exact hall ⟨_, .phase⟩ (by simp) rfl), hZ16.keep (by decide) hun, hZ17.keep (by decide) hun, On.shut (set_on hun), On.shut (set_on hun), On.shut (set_on hun), On.shut (set_on hun), On.shut (set_on hun), On.shut (set_on hun), On.shut (set_on hun), On.shut (set_on hun), On.shut (set_on hun), On.shut (set_on hun), On.shut (set_on hun), On.shut (set_on hun), On.shut (set_on hun), On.shut (set_on hun), On.shut (set_on hun), fun _ _ => ⟨p, va3, vc3, kB, rfl, hB.box.same B3, hB3⟩, f16.keep (by decide) (by decide) (fun h => h), fun h => absurd h (by rw [getD_set_ne false (by decide), hs7]; decide)⟩
        · cases ho
          have hs7 := hZ17.not (show 16 < 17 by decide) hun
          have d15 : l.getD 15 false = true := hall ⟨15, .phase⟩ (by simp) rfl
          refine wpOp_abs rfl rfl (fun K hK => ?_)
          go_simp
          refine hK.out _ _ ⟨_, _, _, _, _, _, _, _, _, _, _, _, _, _, _, _, _, rfl, fun h => absurd h (by rw [getD_set_ne false (by decide), d15]; decide), hC.keep (by decide) (by decide) (fun _ _ => rfl), hZ15.on (by decide) (by exact d15), last_set (by intro j hj; have : j = 0 ∨ j = 1 ∨ j = 2 ∨ j = 3 ∨ j = 4 ∨ j = 5 ∨ j = 6 ∨ j = 7 ∨ j = 8 ∨ j = 9 ∨ j = 10 ∨ j = 11 ∨ j = 12 ∨ j = 13 ∨ j = 14 ∨ j = 15 := (by omega); rcases this with rfl | rfl | rfl | rfl | rfl | rfl | rfl | rfl | rfl | rfl | rfl | rfl | rfl | rfl | rfl | rfl <;> first | assumption | exact hall ⟨_, .phase⟩ (by simp) rfl), hZ17.keep (by decide) hun, On.off (by decide) d15, On.off (by decide) d15, On.off (by decide) d15, On.off (by decide) d15, On.off (by decide) d15, On.off (by decide) d15, On.off (by decide) d15, On.off (by decide) d15, On.off (by decide) d15, On.off (by decide) d15, On.off (by decide) d15, On.off (by decide) d15, On.off (by decide) d15, On.off (by decide) d15, On.off (by decide) d15, fun _ _ => hA d15 hs7, On.new rfl, fun h => absurd h (by rw [getD_set_ne false (by decide), hs7]; decide)⟩
        · cases ho
          have hs7 := un_false hun
          have d16 : l.getD 16 false = true := hall ⟨16, .data⟩ (by simp) rfl
          have d15 : l.getD 15 false = true := hall ⟨15, .data⟩ (by simp) rfl
          obtain rfl := f16 d16 hs7
          obtain ⟨p, va3, vc3, kB, rfl, hbox, hB3⟩ := hA d15 hs7
          obtain ⟨⟨b0, b1⟩, g0, g1⟩ := id hbox
          have hrd7 : ∀ n, n ≤ r → (x.setCell ⟨o, 1, none⟩ (.slice va3 (T.length + 1) vc3)).heap[n]? = x.heap[n]? := fun n hn => Below.heap_setCell _ _ _ _ (by show n ≠ o; omega)
          refine wpOp_abs rfl rfl (fun K hK => ?_)
          go_simp
          refine hK.out _ _ ⟨_, _, _, _, _, _, _, _, _, _, _, _, _, _, _, _, _, rfl, fun h => absurd h (by rw [getD_set_ne false (by decide), d15]; decide), hC.keep (by decide) (by decide) hrd7, hZ15.on (by decide) (by exact d15), hZ16.on (by decide) (by exact d16), last_set (by intro j hj; have : j = 0 ∨ j = 1 ∨ j = 2 ∨ j = 3 ∨ j = 4 ∨ j = 5 ∨ j = 6 ∨ j = 7 ∨ j = 8 ∨ j = 9 ∨ j = 10 ∨ j = 11 ∨ j = 12 ∨ j = 13 ∨ j = 14 ∨ j = 15 ∨ j = 16 := (by omega); rcases this with rfl | rfl | rfl | rfl | rfl | rfl | rfl | rfl | rfl | rfl | rfl | rfl | rfl | rfl | rfl | rfl | rfl <;> first | assumption | exact hall ⟨_, .phase⟩ (by simp) rfl), On.off (by decide) d15, On.off (by decide) d15, On.off (by decide) d15, On.off (by decide) d15, On.off (by decide) d15, On.off (by decide) d15, On.off (by decide) d15, On.off (by decide) d15, On.off (by decide) d15, On.off (by decide) d15, On.off (by decide) d15, On.off (by decide) d15, On.off (by decide) d15, On.off (by decide) d15, On.off (by decide) d15, fun _ h => absurd (set_on hun) (by rw [h]; decide), On.shut (set_on hun), fun _ => ⟨p, _, _, kB, hB3⟩⟩
      · clear hBs
        rintro l a x hall ⟨u54, u55, u56, u57, u58, u59, u60, u61, u62, u63, u64, u65, u66, u67, u68, u69, u70, rfl, hBN, hC, hZ15, hZ16, hZ17, f0, f1, f2, f3, f4, f5, f6, f7, f8, f9, f10, f11, f12, f13, f14, hA, f16, hD⟩
        obtain ⟨p, so', ys', k, hB3⟩ := hD (hall 17 (by decide))
        obtain ⟨q, hR, q1, q2, q3⟩ := hC
        have hB2 : Bn w r x o (.slice (some ⟨g, 0, none⟩) ls.length loc) so' ls 2 (T ++ [(p, noT 2, noT 2)]) ys' (m + 3) := ⟨hB3.box, hB3.res, hB3.ho, hB3.lab, hB3.lb, hB3.row, ⟨q, by omega, hR⟩, hB3.oth⟩
        obtain ⟨va3, vc3, hv3⟩ := rowg_slice hB2.row.1
        subst hv3
        rw [show (T ++ [(p, noT 2, noT 2)]).length = T.length + 1 by simp] at hB2
        clear hBN hZ15 hZ16 hZ17 f0 f1 f2 f3 f4 f5 f6 f7 f8 f9 f10 f11 f12 f13 f14 hA f16 hD hR q1 q2 q3 hall hB3 HB hR0
        go_upto_region 22 with fail
        obtain ⟨⟨b0, b1⟩, -, -⟩ := hB2.box
        obtain ⟨⟨r0, r1⟩, g0, g1⟩ := hB2.res
        have HB2 : Hid _ := hB2
        clear hB2
        go_wp2
        obtain ⟨F1, F2⟩ := Bn.fin (m := m) HB2.out hlt (by omega) (by omega) (Nat.le_trans (Nat.le_of_eq (HTC.out p)) (by omega))
        have HF2 : Hid _ := F2
        obtain ⟨⟨q0, q1⟩, -⟩ := F1
        exact bodyPost_ret (v := .agg #[_, _]) (by simp [results, Tryz.results33, go_sem, q0, q1] <;> exact ⟨rfl, rfl⟩) rfl HF2.out
    · -- 4: too many steps
      have H0 : Hid (∃ (so : Value) (l : List (Pay × Tr 2 × Tr 2)) (ys : List Value), Bn w r x1 o (.slice (some ⟨g, 0, none⟩) ls.length loc) so ls 2 l ys (m + 1) ∧ cnt 3 (l : List (Pay × Tr 2 × Tr 2)) ≤ 292 + min l.length 9) := ⟨_, _, _, HB.out, Nat.le_trans hc (by omega)⟩
      clear HB b0 b1 f0 f1 r0 r1 g0 g1 HTC hTl
      go_wp2
      go_loopw [] (fun wr => ∃ (so : Value) (l : List (Pay × Tr 2 × Tr 2)) (ys : List Value), Bn w r wr o (.slice (some ⟨g, 0, none⟩) ls.length loc) so ls 2 l ys (m + 1) ∧ cnt 3 (l : List (Pay × Tr 2 × Tr 2)) ≤ 292 + min l.length 9) (fun wr => 9 - lenAt wr o)
      case atStart => exact H0.out
      case round =>
        clear H0
        obtain ⟨so, l, ys', hBr, hcl⟩ := hrel
        obtain ⟨soa', soc', hso'⟩ := rowg_slice hBr.row.1
        subst hso'
        have HB : Hid _ := hBr
        obtain ⟨⟨b0, b1⟩, f0, f1⟩ := hBr.box
        obtain ⟨⟨r0, r1⟩, g0, g1⟩ := hBr.res
        have hln : lenAt wr o = l.length := by simp [lenAt, b1]
        have HLN : Hid _ := hln
        have HCL : Hid _ := hcl
        have lm : l.length ≤ maxLen := by
          obtain ⟨_, ⟨h1, h2⟩ | ⟨g, cap, cur, hv, _, _, hc1, hc2, _⟩⟩ := id hBr.row.1
          · omega
          · omega
        have hlm' : (l.length : Int) ≤ 9223372036854775807 := by unfold maxLen at lm; omega
        clear hBr hln hcl
        by_cases hle : (l.length : Int) ≤ 8
        · have hTc : cnt 3 (l ++ [((⟨3, 0, 0, 0, 0, 0⟩ : Pay), noT 2, noT 2)] : List (Pay × Tr 2 × Tr 2)) = cnt 3 (l : List (Pay × Tr 2 × Tr 2)) + 1 := by
            show ((l ++ [((⟨3, 0, 0, 0, 0, 0⟩ : Pay), noT 2, noT 2)]).map fun x => 1 + cnt 2 x.2.1 + cnt 2 x.2.2).sum = (l.map fun x => 1 + cnt 2 x.2.1 + cnt 2 x.2.2).sum + 1
            rw [List.map_append, List.sum_append]
            simp [cnt_noT]
          have HTC : Hid _ := hTc
          clear hTc
          go_wp2_with (at_builtin; refine wpList_append_own_at _ rfl _ _ 24 rfl 0 66 i0 _ 8 96 Tryz.underlying24 hi0 hz0 hz1 hz2 rfl (by decide) _ _ _ rfl (HB.out.row.1.alloc _) ⟨wr.heap.size, 0, none⟩ 1 1 (cells8 ⟨3, 0, 0, 0, 0, 0⟩ (.slice none 0 0) (.slice none 0 0)) rfl rfl ?c1 ?c2 ?c3 ?c4 ?c5 ?_)
          case c1 => exact cells8_new _ _ _ _ _
          case c2 => exact cells8_one _ _ _ _ _ _ _
          case c3 => unfold maxLen; omega
          case c4 => omega
          case c5 => omega
          intro v3 x3 own3 grow3 hn3 hat3
          have hB3 := HB.out.push hlt ((Below.refl _ _).alloc (Nat.le_refl _) _) ⟨3, 0, 0, 0, 0, 0⟩ own3 grow3 (by simpa using hat3)
          obtain ⟨va3, vc3, hv3⟩ := rowg_slice own3
          subst hv3
          have B3 : x3.heap[o]? = wr.heap[o]? := (grow3.block o (by simp; have := HB.out.box.lt'; omega) (fun e => (HB.out.row.2.1 o e.symm).2.1 rfl)).trans (Below.heap_alloc _ _ _ HB.out.box.lt')
          replace b0 := (World.cell?_of_block (a := ⟨o, 0, none⟩) B3).trans b0
          replace b1 := (World.cell?_of_block (a := ⟨o, 1, none⟩) B3).trans b1
          replace f0 := (World.frozen?_of_block (a := ⟨o, 0, none⟩) B3).trans f0
          replace f1 := (World.frozen?_of_block (a := ⟨o, 1, none⟩) B3).trans f1
          clear own3 grow3 hn3 hat3 B3
          have HB3 : Hid _ := hB3
          have HB1 : Hid _ := b1
          clear hB3
          go_wp2
          refine ⟨⟨_, _, _, HB3.out, Nat.le_trans (Nat.le_of_eq HTC.out) (by have := HCL.out; simp; omega)⟩, ?_⟩
          have e3 : lenAt (x3.setCell ⟨o, 1, none⟩ (.slice va3 (l.length + 1) vc3)) o = l.length + 1 := by
            unfold lenAt
            rw [World.cell?_setCell_same _ _ _ HB1.out]
          rw [e3, HLN.out]
          omega
        · have hB2 := HB.out
          go_upto_region 22 with fail
          clear b0 b1 f0 f1 r0 r1 g0 g1
          obtain ⟨⟨b0, b1⟩, -, -⟩ := hB2.box
          obtain ⟨⟨r0, r1⟩, g0, g1⟩ := hB2.res
          have HB2 : Hid _ := hB2
          clear hB2
          go_wp2
          obtain ⟨F1, F2⟩ := Bn.fin (m := m) HB2.out hlt (by omega) (by omega) (Nat.le_trans HCL.out (by omega))
          have HF2 : Hid _ := F2
          obtain ⟨⟨q0, q1⟩, -⟩ := F1
          exact bodyPost_ret (v := .agg #[_, _]) (by simp [results, Tryz.results33, go_sem, q0, q1] <;> exact ⟨rfl, rfl⟩) rfl HF2.out
    · -- 5: too deep
      have H0 : Hid (∃ (n : Nat) (so : Value) (d : Nat) (l : List (Pay × Tr d × Tr d)) (ys : List Value), n ≤ 4 ∧ Value.int .i64 0 = .int .i64 n ∧ Bn w r x1 o (.slice (some ⟨g, 0, none⟩) ls.length loc) so ls d l ys (m + 1) ∧ cnt (d + 1) (l : List (Pay × Tr d × Tr d)) ≤ 292 + n) := ⟨0, _, _, _, _, by omega, rfl, HB.out, Nat.le_trans hc (by omega)⟩
      clear HB b0 b1 f0 f1 r0 r1 g0 g1 HTC hTl
      go_wp2
      go_loopw [6] (fun j wr => ∃ (n : Nat) (so : Value) (d : Nat) (l : List (Pay × Tr d × Tr d)) (ys : List Value), n ≤ 4 ∧ j = .int .i64 n ∧ Bn w r wr o (.slice (some ⟨g, 0, none⟩) ls.length loc) so ls d l ys (m + 1) ∧ cnt (d + 1) (l : List (Pay × Tr d × Tr d)) ≤ 292 + n) (fun j _ => 4 - (intOf j).toNat)
      case atStart => exact H0.out
      case round =>
        clear H0
        obtain ⟨n, so, d, l, ys', hn4, rfl, hBr, hcl⟩ := hrel
        obtain ⟨soa', soc', hso'⟩ := rowg_slice hBr.row.1
        subst hso'
        have HB : Hid _ := hBr
        obtain ⟨⟨b0, b1⟩, f0, f1⟩ := hBr.box
        obtain ⟨⟨r0, r1⟩, g0, g1⟩ := hBr.res
        have HCL : Hid _ := hcl
        have hol := hBr.box.lt'
        clear hBr hcl
        by_cases hlt4 : (n : Int) < 4
        · have hTc : cnt (d + 1 + 1) ([(⟨2, 0, 0, 0, 0, 0⟩, (l : Tr (d + 1)), noT (d + 1))] : List (Pay × Tr (d + 1) × Tr (d + 1))) = cnt (d + 1) (l : List (Pay × Tr d × Tr d)) + 1 := by
            have e : cnt (d + 1) (noT (d + 1)) = 0 := cnt_noT (d + 1)
            show (1 + cnt (d + 1) (l : List (Pay × Tr d × Tr d)) + cnt (d + 1) (noT (d + 1))) + 0 = _
            omega
          have HTC : Hid _ := hTc
          have HB3 : Hid _ := wrap_alloc hol (HB.out.wrap hlt ⟨2, 0, 0, 0, 0, 0⟩)
          clear hTc
          go_wp2
          exact ⟨⟨n + 1, _, _, _, _, by omega, by simp, HB3.out, Nat.le_trans (Nat.le_of_eq HTC.out) (by have := HCL.out; omega)⟩, by simp [intOf]; omega⟩
        · have hB2 := HB.out
          go_upto_region 22 with fail
          clear b0 b1 f0 f1 r0 r1 g0 g1
          obtain ⟨⟨b0, b1⟩, -, -⟩ := hB2.box
          obtain ⟨⟨r0, r1⟩, g0, g1⟩ := hB2.res
          have HB2 : Hid _ := hB2
          clear hB2
          go_wp2
          obtain ⟨F1, F2⟩ := Bn.fin (m := m) HB2.out hlt (by omega) (by omega) (Nat.le_trans HCL.out (by omega))
          have HF2 : Hid _ := F2
          obtain ⟨⟨q0, q1⟩, -⟩ := F1
          exact bodyPost_ret (v := .agg #[_, _]) (by simp [results, Tryz.results33, go_sem, q0, q1] <;> exact ⟨rfl, rfl⟩) rfl HF2.out
    · -- 6: too many labels
      go_wp2_with (at_builtin; refine wpList_append_own_at _ rfl _ _ 23 rfl 0 59 j0 _ 2 16 Tryz.underlying23 hj0 hy0 hy1 hy2 rfl (by decide) _ _ _ rfl (HB.out.lab.alloc _) ⟨x1.heap.size, 0, none⟩ 4 4 (pcells [(0, 0), (0, 0), (0, 0), (0, 0)]) rfl rfl ?c1 ?c2 ?c3 ?c4 ?c5 ?_)
      case c1 => exact (World.ownsRow_lit (base := 0) (e := 59) (size := 2) x1 #[.int .i64 0, .int .i64 0, .int .i64 0, .int .i64 0, .int .i64 0, .int .i64 0, .int .i64 0, .int .i64 0] 4 (Nat.zero_le _) (by unfold maxLen; omega) (by simp)).cells rfl
      case c2 => exact pcells_one _
      case c3 => unfold maxLen; omega
      case c4 => omega
      case c5 => omega
      intro v3 x3 own3 grow3 hn3 hat3
      have own3' : x3.ownsRow 0 59 2 v3 (ls ++ [(0, 0), (0, 0), (0, 0), (0, 0)]).length (pcells (ls ++ [(0, 0), (0, 0), (0, 0), (0, 0)])) := by
        have e : pcells (ls ++ [(0, 0), (0, 0), (0, 0), (0, 0)]) = pcells ls ++ pcells [(0, 0), (0, 0), (0, 0), (0, 0)] := by simp [pcells]
        rw [e, List.length_append]; exact own3
      have hB3 := HB.out.labs hlt ((Below.refl _ _).alloc (Nat.le_refl _) _) own3' grow3 (by simpa using hat3)
      have hlen : (ls ++ [(0, 0), (0, 0), (0, 0), (0, 0)]).length = ls.length + 4 := by simp
      generalize ls ++ [(0, 0), (0, 0), (0, 0), (0, 0)] = ls3 at hB3 own3' hlen
      obtain ⟨va3, vc3, hv3⟩ := rowg_slice own3
      subst hv3
      have B3 : x3.heap[o]? = x1.heap[o]? := (grow3.block o (by simp; have := HB.out.box.lt'; omega) (fun e => (HB.out.lb o e.symm).2 rfl)).trans (Below.heap_alloc _ _ _ HB.out.box.lt')
      replace b0 := (World.cell?_of_block (a := ⟨o, 0, none⟩) B3).trans b0
      replace b1 := (World.cell?_of_block (a := ⟨o, 1, none⟩) B3).trans b1
      replace f0 := (World.frozen?_of_block (a := ⟨o, 0, none⟩) B3).trans f0
      replace f1 := (World.frozen?_of_block (a := ⟨o, 1, none⟩) B3).trans f1
      clear own3 own3' grow3 hn3 hat3 B3
      go_upto_region 22 with fail
      revert hB3
      generalize (x3.setCell ⟨o, 0, none⟩ (.slice va3 _ vc3)) = x2
      intro hB3
      clear b0 b1 f0 f1 r0 r1 g0 g1
      obtain ⟨⟨b0, b1⟩, -, -⟩ := hB3.box
      obtain ⟨⟨r0, r1⟩, g0, g1⟩ := hB3.res
      have HB2 : Hid _ := hB3
      clear hB3
      go_wp2
      obtain ⟨F1, F2⟩ := Bn.fin (m := m) HB2.out hlt (by omega) (by omega) (Nat.le_trans hc (by omega))
      have HF2 : Hid _ := F2
      obtain ⟨⟨q0, q1⟩, -⟩ := F1
      exact bodyPost_ret (v := .agg #[_, _]) (by simp [results, Tryz.results33, go_sem, q0, q1] <;> exact ⟨rfl, rfl⟩) rfl HF2.out
    · -- 7: a host that there is not
      go_wp2_with (at_builtin; refine wpList_append_own_at _ rfl _ _ 24 rfl 0 66 i0 _ 8 96 Tryz.underlying24 hi0 hz0 hz1 hz2 rfl (by decide) _ _ _ rfl (HB.out.row.1.alloc _) ⟨x1.heap.size, 0, none⟩ 1 1 (cells8 ⟨3, 0, 0, 0, 0, 3⟩ (.slice none 0 0) (.slice none 0 0)) rfl rfl ?c1 ?c2 ?c3 ?c4 ?c5 ?_)
      case c1 => exact cells8_new _ _ _ _ _
      case c2 => exact cells8_one _ _ _ _ _ _ _
      case c3 => unfold maxLen; omega
      case c4 => omega
      case c5 => omega
      intro v3 x3 own3 grow3 hn3 hat3
      have hB3 := HB.out.push hlt ((Below.refl _ _).alloc (Nat.le_refl _) _) ⟨3, 0, 0, 0, 0, 3⟩ own3 grow3 (by simpa using hat3)
      obtain ⟨va3, vc3, hv3⟩ := rowg_slice own3
      subst hv3
      have B3 : x3.heap[o]? = x1.heap[o]? := (grow3.block o (by simp; have := HB.out.box.lt'; omega) (fun e => (HB.out.row.2.1 o e.symm).2.1 rfl)).trans (Below.heap_alloc _ _ _ HB.out.box.lt')
      replace b0 := (World.cell?_of_block (a := ⟨o, 0, none⟩) B3).trans b0
      replace b1 := (World.cell?_of_block (a := ⟨o, 1, none⟩) B3).trans b1
      replace f0 := (World.frozen?_of_block (a := ⟨o, 0, none⟩) B3).trans f0
      replace f1 := (World.frozen?_of_block (a := ⟨o, 1, none⟩) B3).trans f1
      clear own3 grow3 hn3 hat3 B3
      go_upto_region 22 with fail
      revert hB3
      generalize (x3.setCell ⟨o, 1, none⟩ (.slice va3 _ vc3)) = x2
      intro hB3
      clear b0 b1 f0 f1 r0 r1 g0 g1
      obtain ⟨⟨b0, b1⟩, -, -⟩ := hB3.box
      obtain ⟨⟨r0, r1⟩, g0, g1⟩ := hB3.res
      have HB2 : Hid _ := hB3
      clear hB3
      go_wp2
      obtain ⟨F1, F2⟩ := Bn.fin (m := m) HB2.out hlt (by omega) (by omega) (Nat.le_trans (Nat.le_of_eq (HTC.out ⟨3, 0, 0, 0, 0, 3⟩)) (by omega))
      have HF2 : Hid _ := F2
      obtain ⟨⟨q0, q1⟩, -⟩ := F1
      exact bodyPost_ret (v := .agg #[_, _]) (by simp [results, Tryz.results33, go_sem, q0, q1] <;> exact ⟨rfl, rfl⟩) rfl HF2.out

end Go.Proofs.YthcgdhlemieboaaGreat

/- What is drawn for laws of what comes of a program, and what stands once it came out both ways. -/
import Derived.Test.YtepacahfpbedoaaWRn
import Derived.Test.YtepacahfpbedoaaLcx
namespace Go.Proofs.Ytepacahfpbedoaa
open Go.RowKit
set_option linter.unusedSimpArgs false
set_option linter.unusedVariables false
attribute [local go_sem] World.cell?_alloc_some

theorem GRep.fr {α : Type} {f : α → Value} {w w' : World} {ad : Addr} {c : Nat} {xs : List α} (h : GRep f w (.slice (some ad) xs.length c) xs) (hb : w'.heap[ad.block]? = w.heap[ad.block]?) : GRep f w' (.slice (some ad) xs.length c) xs := by
  obtain ⟨a, c', hs, hl, hc, hcell⟩ := h
  simp only [Value.slice.injEq] at hs
  obtain ⟨rfl, -, rfl⟩ := hs
  refine ⟨_, _, rfl, hl, hc, fun i hi => ?_⟩
  obtain ⟨b, off, ha, h0⟩ := hcell i hi
  simp only [Option.some.injEq] at ha
  subst ha
  exact ⟨b, off, rfl, (World.cell?_of_block (w := w) (a := ⟨b, off + i, none⟩) hb).trans h0⟩

set_option maxHeartbeats 2000000 in
theorem drawRunOf_any (w : World) (a0 : Option Addr) (len0 cap0 : Nat) (zs0 : List Int) (h : IsRow .u8 w a0 len0 cap0 zs0) : Calls Try.prog 16 #[.slice a0 len0 cap0] w (DnPost w) := by
  have A0 : Below w.heap.size w (w.alloc (.cells #[.slice none 0 0, .slice none 0 0] 26)) := (Below.refl _ _).alloc (Nat.le_refl _) _
  have C1 : Hid _ := drawNumsOk_any _ a0 len0 cap0 zs0 (isRow_onN h A0)
  have Z0 := C2.new w (.slice none 0 0) (.slice none 0 0) 26
  have s0 : (w.alloc (.cells #[.slice none 0 0, .slice none 0 0] 26)).heap.size = w.heap.size + 1 := by simp
  have HS0 : Hid _ := s0
  have HZ0 : Hid (C2 (w.alloc (.cells #[.slice none 0 0, .slice none 0 0] 26)) w.heap.size (.slice none 0 0) (.slice none 0 0)) := Z0
  have HA0 : Hid (Below w.heap.size w (w.alloc (.cells #[.slice none 0 0, .slice none 0 0] 26))) := A0
  clear A0 Z0 h s0
  go_enter Try.func16, Try.ntmps16
  go_wp2_with fail
  go_at_call 31; refine Calls.mono C1.out ?_
  rintro e w1 ⟨lv, sv, nv, ls, d, l, zs, rfl, hLp, hRp, ⟨hN, ad, nc, rfl, had⟩, ll, cn, hb1⟩
  have hs1 := HS0.out
  have HB1 : Hid (Below w.heap.size w w1) := Below.then HA0.out hb1 HA0.out.size
  have Z1 : C2 w1 w.heap.size (.slice none 0 0) (.slice none 0 0) := HZ0.out.same (hb1.block _ (by omega))
  obtain ⟨la, lc, rfl, -⟩ := hLp.rep
  obtain ⟨sa, sc, rfl⟩ := hRp.slice
  have hset : ∀ b, b ≠ w.heap.size → ((w1.setCell ⟨w.heap.size, 0, none⟩ (.slice la ls.length lc)).setCell ⟨w.heap.size, 1, none⟩ (.slice sa (ln (d + 1) (l : List (Pay × Tr d × Tr d))) sc)).heap[b]? = w1.heap[b]? := fun b hb => (Below.heap_setCell _ _ _ _ hb).trans (Below.heap_setCell _ _ _ _ hb)
  have FL : LRepP (fun b => w.heap.size ≤ b) ((w1.setCell ⟨w.heap.size, 0, none⟩ (.slice la ls.length lc)).setCell ⟨w.heap.size, 1, none⟩ (.slice sa (ln (d + 1) (l : List (Pay × Tr d × Tr d))) sc)) (.slice la ls.length lc) ls := hLp.frame (fun b p hl => ⟨hset b (by omega), by omega⟩)
  have FR : RepP (fun b => w.heap.size ≤ b) ((w1.setCell ⟨w.heap.size, 0, none⟩ (.slice la ls.length lc)).setCell ⟨w.heap.size, 1, none⟩ (.slice sa (ln (d + 1) (l : List (Pay × Tr d × Tr d))) sc)) (d + 1) (.slice sa (ln (d + 1) (l : List (Pay × Tr d × Tr d))) sc) (l : List (Pay × Tr d × Tr d)) := hRp.frame (fun b p hl => ⟨hset b (by omega), by omega⟩)
  have FN : GRep (Value.int .i64) ((w1.setCell ⟨w.heap.size, 0, none⟩ (.slice la ls.length lc)).setCell ⟨w.heap.size, 1, none⟩ (.slice sa (ln (d + 1) (l : List (Pay × Tr d × Tr d))) sc)) (.slice (some ad) zs.length nc) zs := hN.fr (hset _ (by omega))
  have HF : Hid _ := FL
  have HFR : Hid _ := FR
  have HFN : Hid _ := FN
  have GG : Hid _ := (C2.set0 (.slice la ls.length lc) Z1).set1 (.slice sa (ln (d + 1) (l : List (Pay × Tr d × Tr d))) sc)
  have had' : w.heap.size ≤ ad.block := by omega
  obtain ⟨⟨q0, q1⟩, u0, u1⟩ := id Z1
  clear FL FR FN hset Z1 hb1 HZ0 HA0 C1 hLp hRp hN hs1 HS0 had
  go_wp2
  obtain ⟨⟨q0, q1⟩, -⟩ := GG.out
  exact bodyPost_ret (v := .tuple #[.agg #[.slice la ls.length lc, .slice sa (ln (d + 1) (l : List (Pay × Tr d × Tr d))) sc], .slice (some ad) zs.length nc]) (by simp [results, Try.results16, go_sem, q0, q1]) rfl ⟨_, _, _, ls, d, l, zs, rfl, HF.out, HFR.out, ⟨HFN.out, ad, nc, rfl, had'⟩, ll, cn, (HB1.out.setCell (Nat.le_refl _) _).setCell (Nat.le_refl _) _⟩

/-- A program in its box, its numbers, and what came of it in a box of its own. -/
structure Ran (w : World) (P X : Nat) (lv sv nv xa xb xc : Value) (ls : List (Int × Int)) (d : Nat) (l : List (Pay × Tr d × Tr d)) (zs : List Int) (r : RSt) : Prop where
  L : LRep w lv ls
  T : Rep w (d + 1) sv (l : List (Pay × Tr d × Tr d))
  N : GRep (Value.int .i64) w nv zs
  p : C2 w P lv sv
  x : C3 w X xa xb xc
  xn : GRep (Value.int .i64) w xa r.n
  xw : LRep w xb r.ws
  xs : LRep w xc r.ss
theorem Ran.below {w w' : World} {P X : Nat} {lv sv nv xa xb xc : Value} {ls : List (Int × Int)} {d : Nat} {l : List (Pay × Tr d × Tr d)} {zs : List Int} {r : RSt} (h : Ran w P X lv sv nv xa xb xc ls d l zs r) (hb : Below w.heap.size w w') : Ran w' P X lv sv nv xa xb xc ls d l zs r :=
  ⟨h.L.below hb, h.T.below hb, h.N.below hb, h.p.same (hb.block _ (C2.lt' h.p)), h.x.below hb, h.xn.below hb, h.xw.below hb, h.xs.below hb⟩
theorem R3.reps {B : Nat} {w : World} {a b c : Value} {s : RSt} (h : R3 B w a b c s) : GRep (Value.int .i64) w a s.n ∧ LRep w b s.ws ∧ LRep w c s.ss := by
  obtain ⟨_, h1, _⟩ := row_gown h.n
  obtain ⟨_, h2, _⟩ := row_pown h.ws
  obtain ⟨_, h3, _⟩ := row_pown h.ss
  exact ⟨h1.rep, h2.rep, h3.rep⟩

theorem ints_news {w : World} {ad : Addr} {nc : Nat} {zs : List Int} (h : GRep (Value.int .i64) w (.slice (some ad) zs.length nc) zs) : ∀ j u, (zs.map (Value.int .i64))[j]? = some u → w.cell? (ad.add j) = some u := by
  obtain ⟨a, c', hs, hl, hc, hcell⟩ := h
  simp only [Value.slice.injEq] at hs
  obtain ⟨rfl, -, rfl⟩ := hs
  intro j u hj
  rw [List.getElem?_map, Option.map_eq_some_iff] at hj
  obtain ⟨x, hx, rfl⟩ := hj
  obtain ⟨hlt, rfl⟩ := List.getElem?_eq_some_iff.1 hx
  obtain ⟨b, off, ha, h0⟩ := hcell j hlt
  simp only [Option.some.injEq] at ha
  subst ha
  rw [Addr.add_mid]
  exact h0
theorem ints_one (zs : List Int) : ∀ u ∈ zs.map (Value.int .i64), u.oneCell' = true := by
  intro u hu
  obtain ⟨x, -, rfl⟩ := List.mem_map.1 hu
  rfl
theorem made0 (w : World) (T : TypeId) (size : Nat) : (w.alloc (.cells #[] T)).ownsRow w.heap.size T size (.slice (some ⟨w.heap.size, 0, none⟩) 0 0) 0 [] := by
  have := World.ownsRow_made (base := w.heap.size) (e := T) (size := size) w #[] 0 (by omega) (by unfold maxLen; omega) (by simp)
  simpa using this
/-- A copy of numbers, in a row of its own that may be written. -/
theorem row_open {w : World} {base : Nat} {e : TypeId} {v : Value} {n : Nat} {xs : List Value} (h : w.ownsRow base e 1 v n xs) (hn : 0 < n) : ∃ g c, v = .slice (some ⟨g, 0, none⟩) n c ∧ base ≤ g ∧ n ≤ c ∧ c ≤ maxLen := by
  obtain ⟨h0, ⟨h1, h2⟩ | ⟨g, cap, cur, hv, hg, hh, hc, hm, hs, ht⟩⟩ := h
  · omega
  · exact ⟨g, cap, hv, hg, hc, hm⟩

end Go.Proofs.Ytepacahfpbedoaa

/- Programs and hosts that are drawn for leaks. -/
import Derived.Test.YthcgdhlemieboaaGreatTkLed
import Derived.Test.YthcgdhlemieboaaGreatTkAnx
namespace Go.Proofs.YthcgdhlemieboaaGreat
open Go.RowKit
set_option linter.unusedSimpArgs false
set_option linter.unusedVariables false
attribute [local go_sem ↓] Go.wp_at_zero Go.wp_at_succ
attribute [local go_sem] World.cell?_alloc_some

theorem isRow_onL {k : IntKind} {w w' : World} {a : Option Addr} {len cap : Nat} {zs : List Int} (h : IsRow k w a len cap zs) (hb : Below w.heap.size w w') : IsRow k w' a len cap zs := by
  rcases h with h | ⟨x, h0, h1, h2, h3, h4, h5⟩
  · exact .inl h
  · exact .inr ⟨x, h0, h1, h2, h3, fun i hi => cell_later hb (h4 i hi), h5⟩
structure Lq (w : World) (r pb : Nat) (x : World) (lv sv : Value) (ls : List (Int × Int)) (d : Nat) (l : List (Pay × Tr d × Tr d)) (k : Nat) : Prop where
  res : C2 x w.heap.size (.slice none 0 0) (.slice none 0 0)
  box : C2 x pb lv sv
  h1 : w.heap.size < r
  h2 : r < pb
  lab : LRepP (fun b => r < b ∧ b ≠ pb) x lv ls
  st : RepP (fun b => r < b ∧ b ≠ pb) x (d + 1) sv (l : List (Pay × Tr d × Tr d))
  ll : 1 ≤ ls.length ∧ ls.length ≤ 8
  cn : cnt (d + 1) (l : List (Pay × Tr d × Tr d)) ≤ 400
  rd : Rd2 x r k
  bel : Below w.heap.size w x
theorem Lq.on {w : World} {r pb : Nat} {x x' : World} {lv sv : Value} {ls : List (Int × Int)} {d : Nat} {l : List (Pay × Tr d × Tr d)} {k k' : Nat} (h : Lq w r pb x lv sv ls d l k) (hx : Oth r x x') (hrd : Rd2 x' r k') : Lq w r pb x' lv sv ls d l k' := by
  have h1 := h.h1
  have h2 := h.h2
  exact ⟨h.res.oth hx (by omega), h.box.oth hx (by omega), h1, h2, h.lab.frame (fun b p hl => ⟨hx.block b hl (by have := p.1; omega), p⟩), h.st.frame (fun b p hl => ⟨hx.block b hl (by have := p.1; omega), p⟩), h.ll, h.cn, hrd, h.bel.trans (hx.below (by omega) (by have := h.bel.size; omega))⟩
theorem Lq.of_below {w : World} {r pb : Nat} {x x' : World} {lv sv : Value} {ls : List (Int × Int)} {d : Nat} {l : List (Pay × Tr d × Tr d)} {k : Nat} (h : Lq w r pb x lv sv ls d l k) (hb : Below x.heap.size x x') : Lq w r pb x' lv sv ls d l k := h.on (Oth.of_below hb) (h.rd.oth hb)
theorem Lq.reps {w : World} {r pb : Nat} {x : World} {lv sv : Value} {ls : List (Int × Int)} {d : Nat} {l : List (Pay × Tr d × Tr d)} {k : Nat} (h : Lq w r pb x lv sv ls d l k) : LRep x lv ls ∧ Rep x (d + 1) sv (l : List (Pay × Tr d × Tr d)) := ⟨h.lab.rep, h.st.rep⟩
theorem Lq.put {w : World} {r pb : Nat} {x y : World} {lv sv lv' sv' : Value} {ls ls' : List (Int × Int)} {d d' : Nat} {l : List (Pay × Tr d × Tr d)} {l' : List (Pay × Tr d' × Tr d')} {k k' : Nat} (h : Lq w r pb x lv sv ls d l k) (ho : Oth r x y)
    (hL : LRepP (fun b => x.heap.size ≤ b) y lv' ls') (hR : RepP (fun b => x.heap.size ≤ b) y (d' + 1) sv' (l' : List (Pay × Tr d' × Tr d'))) (ll : 1 ≤ ls'.length ∧ ls'.length ≤ 8) (cn : cnt (d' + 1) (l' : List (Pay × Tr d' × Tr d')) ≤ 400) (hrd : Rd2 y r k') :
    Lq w r pb ((y.setCell ⟨pb, 0, none⟩ lv').setCell ⟨pb, 1, none⟩ sv') lv' sv' ls' d' l' k' := by
  have h1 := h.h1
  have h2 := h.h2
  have hp : pb < x.heap.size := World.block_lt_of_cell? _ _ h.box.1.1
  have G := h.box.oth ho (by omega)
  have hset : ∀ b, b ≠ pb → ((y.setCell ⟨pb, 0, none⟩ lv').setCell ⟨pb, 1, none⟩ sv').heap[b]? = y.heap[b]? := fun b hb => (Below.heap_setCell _ _ _ _ hb).trans (Below.heap_setCell _ _ _ _ hb)
  have hO : Oth r y y := Oth.refl _ _
  refine ⟨(h.res.oth ho (by omega)).same (hset _ (by omega)), (C2.set0 lv' G).set1 sv', h1, h2, hL.frame (fun b p hl => ⟨hset b (by omega), by omega, by omega⟩), hR.frame (fun b p hl => ⟨hset b (by omega), by omega, by omega⟩), ll, cn, ?_, ((h.bel.trans (ho.below (by omega) (by have := h.bel.size; omega))).setCell (by show w.heap.size ≤ pb; omega) _).setCell (by show w.heap.size ≤ pb; omega) _⟩
  obtain ⟨p, hp', hq⟩ := hrd
  exact ⟨p, hp', hq.same (fun n hn => hset n (by omega))⟩
def DlPost (w : World) (e : Ending) (w' : World) : Prop := ∃ (la sa : Option Addr) (lc sc : Nat) (ls : List (Int × Int)) (d : Nat) (l : List (Pay × Tr d × Tr d)) (h : Int), e = .returned (.tuple #[.agg #[.slice la ls.length lc, .slice sa (ln (d + 1) (l : List (Pay × Tr d × Tr d))) sc], .int .i64 h]) ∧ LRep w' (.slice la ls.length lc) ls ∧ Rep w' (d + 1) (.slice sa (ln (d + 1) (l : List (Pay × Tr d × Tr d))) sc) (l : List (Pay × Tr d × Tr d)) ∧ (1 ≤ ls.length ∧ ls.length ≤ 8) ∧ cnt (d + 1) (l : List (Pay × Tr d × Tr d)) ≤ 400 ∧ Below w.heap.size w w'
theorem Lq.done {w : World} {r pb : Nat} {x : World} {la sa : Option Addr} {lc sc : Nat} {ls : List (Int × Int)} {d : Nat} {l : List (Pay × Tr d × Tr d)} {k : Nat} (hh : Int) (h : Lq w r pb x (.slice la ls.length lc) (.slice sa (ln (d + 1) (l : List (Pay × Tr d × Tr d))) sc) ls d l k) :
    DlPost w (.returned (.tuple #[.agg #[.slice la ls.length lc, .slice sa (ln (d + 1) (l : List (Pay × Tr d × Tr d))) sc], .int .i64 hh])) ((x.setCell ⟨w.heap.size, 0, none⟩ (.slice la ls.length lc)).setCell ⟨w.heap.size, 1, none⟩ (.slice sa (ln (d + 1) (l : List (Pay × Tr d × Tr d))) sc)) := by
  have h1 := h.h1
  have hset : ∀ b, b ≠ w.heap.size → ((x.setCell ⟨w.heap.size, 0, none⟩ (.slice la ls.length lc)).setCell ⟨w.heap.size, 1, none⟩ (.slice sa (ln (d + 1) (l : List (Pay × Tr d × Tr d))) sc)).heap[b]? = x.heap[b]? := fun b hb => (Below.heap_setCell _ _ _ _ hb).trans (Below.heap_setCell _ _ _ _ hb)
  exact ⟨la, sa, lc, sc, ls, d, l, hh, rfl, (h.lab.frame (P' := fun _ => True) (fun b p hl => ⟨hset b (by have := p.1; omega), trivial⟩)).rep, (h.st.frame (P' := fun _ => True) (fun b p hl => ⟨hset b (by have := p.1; omega), trivial⟩)).rep, h.ll, h.cn, (h.bel.setCell (Nat.le_refl _) _).setCell (Nat.le_refl _) _⟩

set_option maxHeartbeats 8000000 in
set_option maxRecDepth 20000 in
theorem drawLeakOf_any (w : World) (a0 : Option Addr) (len0 cap0 : Nat) (zs : List Int) (h : IsRow .u8 w a0 len0 cap0 zs) : Calls Tryz.prog 4 #[.slice a0 len0 cap0] w (DlPost w) := by
  have A0 : Below w.heap.size w (w.alloc (.cells #[.slice none 0 0, .slice none 0 0] 26)) := (Below.refl _ _).alloc (Nat.le_refl _) _
  have C1 : Hid _ := l6Open_any _ a0 len0 cap0 zs (isRow_onL h A0)
  have Z0 := C2.new w (.slice none 0 0) (.slice none 0 0) 26
  have s0 : (w.alloc (.cells #[.slice none 0 0, .slice none 0 0] 26)).heap.size = w.heap.size + 1 := by simp
  have HZ0 : Hid (C2 (w.alloc (.cells #[.slice none 0 0, .slice none 0 0] 26)) w.heap.size (.slice none 0 0) (.slice none 0 0)) := Z0
  have HA0 : Hid (Below w.heap.size w (w.alloc (.cells #[.slice none 0 0, .slice none 0 0] 26))) := A0
  clear A0 Z0 h
  go_enter Tryz.func4, Tryz.ntmps4
  go_wp2_with fail
  go_at_call 9; refine Calls.mono C1.out ?_
  rintro e w1 ⟨rfl, rd1, sz1, hb1⟩
  have B1 : Below w.heap.size w w1 := Below.then HA0.out hb1 (by omega)
  have Z1 : C2 w1 w.heap.size (.slice none 0 0) (.slice none 0 0) := HZ0.out.same (hb1.block _ (by omega))
  rw [s0] at rd1 sz1 ⊢
  have P1 : Hid _ := l71Prog_pg w1 (w.heap.size + 1) 0 ⟨0, by omega, rd1⟩ (by omega)
  have HB1 : Hid (Below w.heap.size w w1) := B1
  have HZ1 : Hid (C2 w1 w.heap.size (.slice none 0 0) (.slice none 0 0)) := Z1
  have hr1 : w.heap.size + 1 < w1.heap.size := rd1.lt
  clear hb1 B1 Z1 HZ0 HA0 C1 rd1
  go_wp2_with fail
  go_at_call 10; refine Calls.mono P1.out ?_
  rintro e w2 ⟨lv, sv, ls, T, rfl, hL, hR, ll, cn, rd2, ot2⟩
  obtain ⟨la, lc, rfl, -⟩ := id hL.rep
  obtain ⟨sa, sc, rfl⟩ := hR.slice
  have AB : Below w2.heap.size w2 (w2.alloc (.cells #[.slice la ls.length lc, .slice sa (ln 3 T) sc] 26)) := (Below.refl _ _).alloc (Nat.le_refl _) _
  have hs12 : w1.heap.size ≤ w2.heap.size := ot2.size
  have HQ : Hid (Lq w (w.heap.size + 1) w2.heap.size (w2.alloc (.cells #[.slice la ls.length lc, .slice sa (ln 3 T) sc] 26)) (.slice la ls.length lc) (.slice sa (ln (2 + 1) T) sc) ls 2 T 40000) :=
    ⟨(HZ1.out.oth ot2 (by omega)).same (AB.block _ (by omega)), C2.new _ _ _ _, by omega, by omega, hL.frame (fun b p hl => ⟨AB.block b hl, by omega, by omega⟩), hR.frame (fun b p hl => ⟨AB.block b hl, by omega, by omega⟩), ⟨ll.1, by omega⟩, (show cnt 3 T ≤ 400 by omega), (show Rd2 w2 (w.heap.size + 1) 40000 from rd2).oth AB, (HB1.out.trans (ot2.below (by omega) (by have := HB1.out.size; omega))).trans (AB.mono (by omega))⟩
  obtain ⟨w3, hw3⟩ : ∃ W, w2.alloc (.cells #[.slice la ls.length lc, .slice sa (ln 3 T) sc] 26) = W := ⟨_, rfl⟩
  rw [hw3] at HQ
  have HW3 : Hid _ := hw3
  obtain ⟨pb, hpb⟩ : ∃ x, x = w2.heap.size := ⟨_, rfl⟩
  have HPB : Hid _ := hpb
  rw [← hpb] at HQ
  clear hw3 hpb hL hR rd2 ot2 AB P1 HZ1 HB1 hs12 hr1 ll cn sz1
  have PK : Hid _ := pick2 _ _ _ 4 HQ.out.rd (by omega) (by omega) (by omega)
  go_wp2_with fail
  rw [HW3.out, ← HPB.out]
  clear HW3
  (try go_at_call 11); refine Calls.mono PK.out ?_
  rintro e w4 ⟨k1, rfl, a1, a2, rd4, ot4⟩
  replace HQ : Hid _ := HQ.out.on ot4 rd4
  clear rd4 ot4 PK
  have PK : Hid _ := pick2 _ _ _ 9 HQ.out.rd (by omega) (by omega) (by omega)
  go_wp2_with fail
  (try go_at_call 11); refine Calls.mono PK.out ?_
  rintro e w5 ⟨k2, rfl, a3, a4, rd5, ot5⟩
  replace HQ : Hid _ := HQ.out.on ot5 rd5
  clear rd5 ot5 PK
  go_wp2_with fail
  go_loopw [6, 7] (fun hv j wr => ∃ (i : Nat) (hx : Int) (la sa : Option Addr) (lc sc : Nat) (ls : List (Int × Int)) (d : Nat) (l : List (Pay × Tr d × Tr d)), i ≤ 20 ∧ j = .int .i64 i ∧ hv = .int .i64 hx ∧ Hid (Lq w (w.heap.size + 1) pb wr (.slice la ls.length lc) (.slice sa (ln (d + 1) (l : List (Pay × Tr d × Tr d))) sc) ls d l (40002 + i * 40002))) (fun _ j _ => 20 - (intOf j).toNat)
  case atStart => exact ⟨0, _, la, sa, lc, sc, ls, 2, T, by omega, rfl, rfl, HQ.out⟩
  case round =>
    clear HQ
    obtain ⟨i, hx, la, sa, lc, sc, ls, d, l, hi, rfl, rfl, HQ⟩ := hrel
    by_cases hlt : i < 20
    · have i1' : (i : Int) < 20 := by omega
      have PK : Hid _ := pick2 _ _ _ 16 HQ.out.rd (by omega) (by omega) (by omega)
      go_wp2_with fail
      (try go_at_call 11); refine Calls.mono PK.out ?_
      rintro e w6 ⟨k3, rfl, a5, a6, rd6, ot6⟩
      replace HQ : Hid _ := HQ.out.on ot6 rd6
      clear rd6 ot6 PK
      by_cases hk3 : 0 < k3
      · have KL : Hid _ := sLeakOf_any hx HQ.out.reps.1 HQ.out.reps.2 (by have := HQ.out.cn; omega)
        obtain ⟨⟨y0, y1⟩, -⟩ := HQ.out.box
        go_wp2_with fail
        (try go_at_call 5); refine Calls.mono KL.out ?_
        rintro e w7 ⟨o, va, vb, -, rfl, hb7, -, -⟩
        replace HQ : Hid _ := HQ.out.of_below hb7
        clear hb7 y0 y1 KL
        cases o with
        | some x =>
          obtain ⟨⟨z0, z1⟩, u0, u1⟩ := HQ.out.res
          obtain ⟨⟨y0, y1⟩, -⟩ := HQ.out.box
          have HZZ : Hid _ := (C2.set0 (.slice la ls.length lc) HQ.out.res).set1 (.slice sa (ln (d + 1) (l : List (Pay × Tr d × Tr d))) sc)
          have HDN : Hid _ := HQ.out.done hx
          go_wp2
          obtain ⟨⟨q0, q1⟩, -⟩ := HZZ.out
          exact bodyPost_ret (v := .tuple #[.agg #[.slice la ls.length lc, .slice sa (ln (d + 1) (l : List (Pay × Tr d × Tr d))) sc], .int .i64 hx]) (by simp [results, Tryz.results4, go_sem, q0, q1]) rfl HDN.out
        | none =>
          have PP : Hid _ := l71Prog_pg _ _ _ HQ.out.rd (by omega)
          go_wp2_with fail
          (try go_at_call 10); refine Calls.mono PP.out ?_
          rintro e x9 ⟨lv9, sv9, ls9, T9, rfl, hL9, hR9, ll9, cn9, rd9, ot9⟩
          obtain ⟨la9, lc9, rfl, -⟩ := id hL9.rep
          obtain ⟨sa9, sc9, rfl⟩ := hR9.slice
          obtain ⟨⟨y0, y1⟩, u2, u3⟩ := HQ.out.box.oth ot9 (by have := HQ.out.h2; omega)
          have HQ2 : Hid _ := HQ.out.put (d' := 2) (l' := T9) ot9 hL9 hR9 ⟨ll9.1, by omega⟩ (show cnt 3 T9 ≤ 400 by omega) rd9
          clear hL9 hR9 rd9 ot9 PP HQ
          have PK : Hid _ := pick2 _ _ _ 3 HQ2.out.rd (by omega) (by omega) (by omega)
          go_wp2_with fail
          clear y0 y1 u2 u3
          (try go_at_call 11); refine Calls.mono PK.out ?_
          rintro e x10 ⟨k9, rfl, e0, e1, rd10, ot10⟩
          have HQ3 : Hid _ := HQ2.out.on ot10 (rd10.mono (show _ ≤ 40002 + (i + 1) * 40002 by omega))
          clear rd10 ot10 PK HQ2
          go_wp2
          exact ⟨⟨i + 1, k9, la9, sa9, lc9, sc9, ls9, 2, T9, by omega, by simp, by simp, HQ3.out⟩, by simp [intOf]; omega⟩
      · have hk3' : ¬ (0 < k3) := hk3
        have PK : Hid _ := pick2 _ _ _ 2 HQ.out.rd (by omega) (by omega) (by omega)
        go_wp2_with fail
        (try go_at_call 11); refine Calls.mono PK.out ?_
        rintro e x8 ⟨k8, rfl, e0, e1, rd8, ot8⟩
        replace HQ : Hid _ := HQ.out.on ot8 rd8
        clear rd8 ot8 PK
        by_cases hk8 : k8 = 0
        · subst hk8
          have PA : Hid _ := l71Any_any _ _ _ HQ.out.rd (by omega)
          go_wp2_with fail
          (try go_at_call 12); refine Calls.mono PA.out ?_
          rintro e x9 ⟨lv9, sv9, ls9, d9, l9, rfl, hL9, hR9, ll9, cn9, rd9, ot9⟩
          obtain ⟨la9, lc9, rfl, -⟩ := id hL9.rep
          obtain ⟨sa9, sc9, rfl⟩ := hR9.slice
          have hr1 := HQ.out.h1
          have hr2 := HQ.out.h2
          have hne : w.heap.size < pb := by omega
          obtain ⟨⟨z0, z1⟩, u0, u1⟩ := HQ.out.res.oth ot9 (by omega)
          obtain ⟨⟨y0, y1⟩, u2, u3⟩ := HQ.out.box.oth ot9 (by omega)
          replace HQ : Hid _ := HQ.out.put ot9 hL9 hR9 ll9 cn9 rd9
          have HZZ : Hid _ := (C2.set0 (.slice la9 ls9.length lc9) HQ.out.res).set1 (.slice sa9 (ln (d9 + 1) (l9 : List (Pay × Tr d9 × Tr d9))) sc9)
          have HDN : Hid _ := HQ.out.done hx
          clear hL9 hR9 rd9 ot9 PA hr1 hr2
          go_wp2
          obtain ⟨⟨q0, q1⟩, -⟩ := HZZ.out
          exact bodyPost_ret (v := .tuple #[.agg #[.slice la9 ls9.length lc9, .slice sa9 (ln (d9 + 1) (l9 : List (Pay × Tr d9 × Tr d9))) sc9], .int .i64 hx]) (by simp [results, Tryz.results4, go_sem, q0, q1]) rfl HDN.out
        · skip
          obtain ⟨⟨z0, z1⟩, u0, u1⟩ := HQ.out.res
          obtain ⟨⟨y0, y1⟩, -⟩ := HQ.out.box
          have HZZ : Hid _ := (C2.set0 (.slice la ls.length lc) HQ.out.res).set1 (.slice sa (ln (d + 1) (l : List (Pay × Tr d × Tr d))) sc)
          have HDN : Hid _ := HQ.out.done hx
          go_wp2
          obtain ⟨⟨q0, q1⟩, -⟩ := HZZ.out
          exact bodyPost_ret (v := .tuple #[.agg #[.slice la ls.length lc, .slice sa (ln (d + 1) (l : List (Pay × Tr d × Tr d))) sc], .int .i64 hx]) (by simp [results, Tryz.results4, go_sem, q0, q1]) rfl HDN.out
    · have hie : i = 20 := by omega
      subst hie
      have PK : Hid _ := pick2 _ _ _ 2 HQ.out.rd (by omega) (by omega) (by omega)
      go_wp2_with fail
      (try go_at_call 11); refine Calls.mono PK.out ?_
      rintro e x8 ⟨k8, rfl, e0, e1, rd8, ot8⟩
      replace HQ : Hid _ := HQ.out.on ot8 rd8
      clear rd8 ot8 PK
      by_cases hk8 : k8 = 0
      · subst hk8
        have PA : Hid _ := l71Any_any _ _ _ HQ.out.rd (by omega)
        go_wp2_with fail
        (try go_at_call 12); refine Calls.mono PA.out ?_
        rintro e x9 ⟨lv9, sv9, ls9, d9, l9, rfl, hL9, hR9, ll9, cn9, rd9, ot9⟩
        obtain ⟨la9, lc9, rfl, -⟩ := id hL9.rep
        obtain ⟨sa9, sc9, rfl⟩ := hR9.slice
        have hr1 := HQ.out.h1
        have hr2 := HQ.out.h2
        have hne : w.heap.size < pb := by omega
        obtain ⟨⟨z0, z1⟩, u0, u1⟩ := HQ.out.res.oth ot9 (by omega)
        obtain ⟨⟨y0, y1⟩, u2, u3⟩ := HQ.out.box.oth ot9 (by omega)
        replace HQ : Hid _ := HQ.out.put ot9 hL9 hR9 ll9 cn9 rd9
        have HZZ : Hid _ := (C2.set0 (.slice la9 ls9.length lc9) HQ.out.res).set1 (.slice sa9 (ln (d9 + 1) (l9 : List (Pay × Tr d9 × Tr d9))) sc9)
        have HDN : Hid _ := HQ.out.done hx
        clear hL9 hR9 rd9 ot9 PA hr1 hr2
        go_wp2
        obtain ⟨⟨q0, q1⟩, -⟩ := HZZ.out
        exact bodyPost_ret (v := .tuple #[.agg #[.slice la9 ls9.length lc9, .slice sa9 (ln (d9 + 1) (l9 : List (Pay × Tr d9 × Tr d9))) sc9], .int .i64 hx]) (by simp [results, Tryz.results4, go_sem, q0, q1]) rfl HDN.out
      · skip
        obtain ⟨⟨z0, z1⟩, u0, u1⟩ := HQ.out.res
        obtain ⟨⟨y0, y1⟩, -⟩ := HQ.out.box
        have HZZ : Hid _ := (C2.set0 (.slice la ls.length lc) HQ.out.res).set1 (.slice sa (ln (d + 1) (l : List (Pay × Tr d × Tr d))) sc)
        have HDN : Hid _ := HQ.out.done hx
        go_wp2
        obtain ⟨⟨q0, q1⟩, -⟩ := HZZ.out
        exact bodyPost_ret (v := .tuple #[.agg #[.slice la ls.length lc, .slice sa (ln (d + 1) (l : List (Pay × Tr d × Tr d))) sc], .int .i64 hx]) (by simp [results, Tryz.results4, go_sem, q0, q1]) rfl HDN.out

end Go.Proofs.YthcgdhlemieboaaGreat

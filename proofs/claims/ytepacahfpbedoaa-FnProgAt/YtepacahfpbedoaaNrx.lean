/- Numbers that are drawn. -/
import Derived.Test.YtepacahfpbedoaaSrn
import Derived.Test.YtepacahfpbedoaaDpr
namespace Go.Proofs.Ytepacahfpbedoaa
open Go.RowKit
set_option linter.unusedSimpArgs false
set_option linter.unusedVariables false
attribute [local go_sem] World.cell?_alloc_some

theorem Oth.grown {r : Nat} {a w w' : World} {row : Option Nat} (h : Oth r a w) (hg : w.grownBy w' row) (hr : ∀ k, row = some k → a.heap.size ≤ k) : Oth r a w' :=
  ⟨hg.os.trans h.os, hg.tape.trans h.tape, hg.output.trans h.output, Nat.le_trans h.size hg.size, fun k hk hne => (hg.block k (Nat.lt_of_lt_of_le hk h.size) (fun e => by have := hr k e.symm; omega)).trans (h.block k hk hne)⟩
theorem rowq_oth {r : Nat} {w w' : World} {base : Nat} {e : TypeId} {sz : Nat} {v : Value} {n : Nat} {xs : List Value} (h : w.ownsRow base e sz v n xs) (k : Oth r w w') (hr : r < base) : w'.ownsRow base e sz v n xs :=
  rowg_frame h (fun b e => k.block b (World.ownsRow.lt h b e).2 (by have := (World.ownsRow.lt h b e).1; omega))
theorem tab6 (w : World) (v0 v1 v2 v3 v4 v5 : Int) (T : TypeId) (k : Int) (h0 : 0 ≤ k) (h1 : k < 6) : ∃ x, (w.alloc (.cells #[.int .i64 v0, .int .i64 v1, .int .i64 v2, .int .i64 v3, .int .i64 v4, .int .i64 v5] T)).cell? ⟨w.heap.size, k.toNat, none⟩ = some (.int .i64 x) := by
  obtain rfl | rfl | rfl | rfl | rfl | rfl : k = 0 ∨ k = 1 ∨ k = 2 ∨ k = 3 ∨ k = 4 ∨ k = 5 := by omega
  · exact ⟨v0, by simp⟩
  · exact ⟨v1, by simp⟩
  · exact ⟨v2, by simp⟩
  · exact ⟨v3, by simp⟩
  · exact ⟨v4, by simp⟩
  · exact ⟨v5, by simp⟩
theorem tab2 (w : World) (v0 v1 : Int) (T : TypeId) (k : Int) (h0 : 0 ≤ k) (h1 : k < 2) : ∃ x, (w.alloc (.cells #[.int .i64 v0, .int .i64 v1] T)).cell? ⟨w.heap.size, k.toNat, none⟩ = some (.int .i64 x) := by
  obtain rfl | rfl : k = 0 ∨ k = 1 := by omega
  · exact ⟨v0, by simp⟩
  · exact ⟨v1, by simp⟩

set_option maxHeartbeats 8000000 in
set_option maxRecDepth 20000 in
theorem l71Nums_any (w : World) (r m : Nat) (la sa : Option Addr) (n lc k0 sc : Nat) (h : Rd2 w r m) (hm : m ≤ 100000) (hn : 1 ≤ n) (hn4 : n ≤ 4) :
    Calls Try.prog 55 #[.pointer (some ⟨r, 0, none⟩), .agg #[.slice la n lc, .slice sa k0 sc]] w fun e w' => ∃ (zs : List Int) (ad : Addr) (c : Nat), e = .returned (.slice (some ad) zs.length c) ∧ Rd2 w' r (m + 10) ∧ Oth r w w' ∧ w'.ownsRow (w.heap.size + 1) 3 1 (.slice (some ad) zs.length c) zs.length (zs.map (Value.int .i64)) := by
  obtain ⟨i0, hi0, hz0, hz1, hz2⟩ := info_parts infoInt
  have hlt := h.lt
  have hn64 : (n : Int) ≤ 4 := by omega
  have A0 : Below w.heap.size w (w.alloc (.cells #[.slice la n lc, .slice sa k0 sc] 26)) := (Below.refl _ _).alloc (Nat.le_refl _) _
  have A1 : Below w.heap.size w ((w.alloc (.cells #[.slice la n lc, .slice sa k0 sc] 26)).alloc (.cells #[] 3)) := A0.alloc (by simp) _
  have H0 : Hid _ := And.intro (h.oth A1) (And.intro (Oth.of_below (r := r) A1) (And.intro ((C2.new w (.slice la n lc) (.slice sa k0 sc) 26).same (Below.heap_alloc _ (.cells #[] 3) _ (by simp))) (World.ownsRow_made (base := w.heap.size + 1) (e := 3) (size := 1) (w.alloc (.cells #[.slice la n lc, .slice sa k0 sc] 26)) #[] 0 (by simp) (by unfold maxLen; omega) (by simp))))
  clear h A0 A1
  go_enter Try.func55, Try.ntmps55
  go_wp2
  go_loopw [5, 6] (fun o j wr => ∃ (zs : List Int) (g gc : Nat), zs.length ≤ n ∧ j = .int .i64 zs.length ∧ o = .slice (some ⟨g, 0, none⟩) zs.length gc ∧ Rd2 wr r (m + zs.length) ∧ Oth r w wr ∧ C2 wr w.heap.size (.slice la n lc) (.slice sa k0 sc) ∧ wr.ownsRow (w.heap.size + 1) 3 1 (.slice (some ⟨g, 0, none⟩) zs.length gc) zs.length (zs.map (Value.int .i64)) ∧ w.heap.size < wr.heap.size) (fun _ j _ => n - (intOf j).toNat)
  case atStart => exact ⟨[], w.heap.size + 1, 0, by simp, rfl, rfl, H0.out.1, H0.out.2.1, H0.out.2.2.1, by simpa using H0.out.2.2.2, by simp; omega⟩
  case round =>
    obtain ⟨zs, g, gc, hzl, rfl, rfl, hrd, hot, hc2, hor, hsz⟩ := hrel
    have hgl := World.ownsRow.lt hor g rfl
    have HOR : Hid (wr.ownsRow (w.heap.size + 1) 3 1 (.slice (some ⟨g, 0, none⟩) zs.length gc) zs.length (zs.map (Value.int .i64))) := hor
    have HOT : Hid (Oth r w wr) := hot
    have HC2 : Hid (C2 wr w.heap.size (.slice la n lc) (.slice sa k0 sc)) := hc2
    obtain ⟨⟨c0, c1⟩, -⟩ := hc2
    have hzi : (zs.length : Int) ≤ 4 := by omega
    by_cases hlt2 : zs.length < n
    · have i1' : (zs.length : Int) < (n : Int) := by omega
      have i0' : (0 : Int) ≤ (zs.length : Int) := by omega
      have AT : Below wr.heap.size wr (wr.alloc (.cells #[.int .i64 0, .int .i64 0, .int .i64 1, .int .i64 2, .int .i64 5, .int .i64 9] 3)) := (Below.refl _ _).alloc (Nat.le_refl _) _
      have P1 : Hid _ := pick2 _ r _ 6 (hrd.oth AT) (by omega) (by omega) (by omega)
      have HAT : Hid _ := AT
      clear hrd hot hor AT
      go_wp2_with fail
      go_at_call 35; refine Calls.mono P1.out ?_
      rintro e w2 ⟨k, rfl, kl, kh, rd2, ot2⟩
      obtain ⟨x, hx⟩ := tab6 wr 0 0 1 2 5 9 3 k kl kh
      have hx2 : w2.cell? ⟨wr.heap.size, k.toNat, none⟩ = some (.int .i64 x) := ot2.cell (by simp; omega) hx
      have O2 : Oth r wr w2 := (Oth.of_below HAT.out).trans ot2
      have s2 : wr.heap.size + 1 ≤ w2.heap.size := by have := ot2.size; simpa using this
      have OR2 : Hid (w2.ownsRow (w.heap.size + 1) 3 1 (.slice (some ⟨g, 0, none⟩) zs.length gc) zs.length (zs.map (Value.int .i64))) := rowq_oth HOR.out O2 (by omega)
      have HO2 : Hid (Oth r w w2) := HOT.out.trans O2
      have HC22 : Hid (C2 w2 w.heap.size (.slice la n lc) (.slice sa k0 sc)) := HC2.out.oth O2 (by omega)
      have HRD2 : Hid _ := rd2
      obtain ⟨kn, rfl⟩ := Int.eq_ofNat_of_zero_le kl
      simp only [Int.toNat_natCast] at hx2
      clear hx ot2 O2 rd2 P1 c0 c1 HAT
      go_wp2_with (at_builtin; refine wpList_append_own_at _ rfl _ _ 38 rfl (w.heap.size + 1) 3 i0 _ 1 8 Try.underlying38 hi0 hz0 hz1 hz2 rfl (by decide) _ _ _ rfl (OR2.out.alloc _) ⟨w2.heap.size, 0, none⟩ 1 1 [.int .i64 x] rfl rfl ?c1 ?c2 ?c3 ?c4 ?c5 ?_)
      case c1 => exact cells_new1 w2 _ _ _ rfl
      case c2 => simp [Value.oneCell']
      case c3 => unfold maxLen; omega
      case c4 => omega
      case c5 => simp; omega
      intro v5 w5 own5 grow5 nn5 at5
      have nz : v5 ≠ .slice none 0 0 := by intro e; have := nn5; simp [e] at this
      obtain ⟨g5, gc5, hv5⟩ : ∃ g5 gc5, v5 = .slice (some ⟨g5, 0, none⟩) (zs.length + 1) gc5 := by
        obtain ⟨_, ⟨q, _⟩ | ⟨g5, c5, _, q, _⟩⟩ := id own5
        · exact (nz q).elim
        · exact ⟨g5, c5, q⟩
      subst hv5
      have A5 : Below w2.heap.size w2 (w2.alloc (.cells #[.int .i64 x] 3)) := (Below.refl _ _).alloc (Nat.le_refl _) _
      have O5 : Oth r w w5 := (HO2.out.alloc _).grown grow5 (fun k hk => by have e : g = k := (by simpa [Value.ownBlock] using hk); have := hgl.1; omega)
      have bl5 : ∀ b, b < w2.heap.size → b ≠ g → w5.heap[b]? = w2.heap[b]? := fun b hb hne => (grow5.block b (by simp; omega) (fun q => hne (by cases q; rfl))).trans (Below.heap_alloc _ _ _ hb)
      have C5 : C2 w5 w.heap.size (.slice la n lc) (.slice sa k0 sc) := HC22.out.same (bl5 w.heap.size (by omega) (by omega))
      have RD5 : Rd2 w5 r (m + (zs ++ [x]).length) := Rd2.mono (Rd2.same HRD2.out (fun b hb => bl5 b (by omega) (by omega))) (by simp; omega)
      have s5 : w2.heap.size + 1 ≤ w5.heap.size := by have := grow5.size; simpa using this
      have HO5 : Hid _ := O5
      have HC5 : Hid _ := C5
      have HR5 : Hid _ := RD5
      have HW5 : Hid (w5.ownsRow (w.heap.size + 1) 3 1 (.slice (some ⟨g5, 0, none⟩) (zs.length + 1) gc5) (zs.length + 1) (zs.map (Value.int .i64) ++ [.int .i64 x])) := own5
      clear own5 grow5 nn5 at5 nz A5 O5 bl5 C5 RD5 hx2
      go_wp2
      exact ⟨⟨zs ++ [x], g5, gc5, by simp; omega, by simp, by simp, HR5.out, HO5.out, HC5.out, by simpa using HW5.out, by omega⟩, by simp [intOf]; omega⟩
    · have hzn : zs.length = n := by omega
      have P1 : Hid _ := pick2 wr r _ 20 hrd (by omega) (by omega) (by omega)
      have hne : ¬ ((zs.length : Int) < (n : Int)) := by omega
      have hpos : (0 : Int) < (zs.length : Int) := by omega
      have hp1 : 0 < zs.length := by omega
      clear hot hor hzn
      go_wp2_with fail
      go_at_call 35; refine Calls.mono P1.out ?_
      rintro e w2 ⟨k, rfl, kl, kh, rd2, ot2⟩
      have s2 : wr.heap.size ≤ w2.heap.size := ot2.size
      have OR2 : Hid (w2.ownsRow (w.heap.size + 1) 3 1 (.slice (some ⟨g, 0, none⟩) zs.length gc) zs.length (zs.map (Value.int .i64))) := rowq_oth HOR.out ot2 (by omega)
      have HO2 : Hid (Oth r w w2) := HOT.out.trans ot2
      have HRD2 : Hid _ := rd2
      clear hrd ot2 P1 c0 c1
      by_cases hk0 : k = 0
      · subst hk0
        clear rd2
        go_wp2_with (at_builtin; refine wpList_append_own_at _ rfl _ _ 38 rfl (w.heap.size + 1) 3 i0 _ 1 8 Try.underlying38 hi0 hz0 hz1 hz2 rfl (by decide) _ _ _ rfl (OR2.out.alloc _) ⟨w2.heap.size, 0, none⟩ 1 1 [.int .i64 0] rfl rfl ?d1 ?d2 ?d3 ?d4 ?d5 ?_)
        case d1 => exact cells_new1 w2 _ _ _ rfl
        case d2 => simp [Value.oneCell']
        case d3 => unfold maxLen; omega
        case d4 => omega
        case d5 => simp; omega
        intro v5 w5 own5 grow5 nn5 at5
        have nz : v5 ≠ .slice none 0 0 := by intro e; have := nn5; simp [e] at this
        obtain ⟨g5, gc5, hv5⟩ : ∃ g5 gc5, v5 = .slice (some ⟨g5, 0, none⟩) (zs.length + 1) gc5 := by
          obtain ⟨_, ⟨q, _⟩ | ⟨g5, c5, _, q, _⟩⟩ := id own5
          · exact (nz q).elim
          · exact ⟨g5, c5, q⟩
        subst hv5
        have O5 : Oth r w w5 := (HO2.out.alloc _).grown grow5 (fun k hk => by have e : g = k := (by simpa [Value.ownBlock] using hk); have := hgl.1; omega)
        have bl5 : ∀ b, b < w2.heap.size → b ≠ g → w5.heap[b]? = w2.heap[b]? := fun b hb hne => (grow5.block b (by simp; omega) (fun q => hne (by cases q; rfl))).trans (Below.heap_alloc _ _ _ hb)
        have RD5 : Rd2 w5 r (m + 10) := Rd2.mono (Rd2.same HRD2.out (fun b hb => bl5 b (by omega) (by omega))) (by omega)
        have HO5 : Hid _ := O5
        have HR5 : Hid _ := RD5
        have HW5 : Hid (w5.ownsRow (w.heap.size + 1) 3 1 (.slice (some ⟨g5, 0, none⟩) (zs.length + 1) gc5) (zs.length + 1) (zs.map (Value.int .i64) ++ [.int .i64 0])) := own5
        clear own5 grow5 nn5 at5 nz O5 bl5 RD5
        go_wp2
        go_ret
        exact ⟨zs ++ [0], ⟨g5, 0, none⟩, gc5, by simp, HR5.out, HO5.out, by simpa using HW5.out⟩
      · by_cases hk1 : k = 1
        · subst hk1
          have AT : Below w2.heap.size w2 (w2.alloc (.cells #[.int .i64 (-1), .int .i64 10] 3)) := (Below.refl _ _).alloc (Nat.le_refl _) _
          have P2 : Hid _ := pick2 _ r _ 2 (rd2.oth AT) (by omega) (by omega) (by omega)
          have HAT : Hid _ := AT
          clear AT rd2
          go_wp2_with fail
          go_at_call 35; refine Calls.mono P2.out ?_
          rintro e w3 ⟨q, rfl, ql, qh, rd3, ot3⟩
          obtain ⟨x, hx⟩ := tab2 w2 (-1) 10 3 q ql qh
          have hx3 : w3.cell? ⟨w2.heap.size, q.toNat, none⟩ = some (.int .i64 x) := ot3.cell (by simp; omega) hx
          have O3 : Oth r w2 w3 := (Oth.of_below HAT.out).trans ot3
          have OR3 := rowq_oth OR2.out O3 (by omega)
          obtain ⟨qn, rfl⟩ := Int.eq_ofNat_of_zero_le ql
          simp only [Int.toNat_natCast] at hx3
          have hc0 : w3.cell? ⟨g, 0, none⟩ = (zs.map (Value.int .i64))[0]? := World.ownsRow.cellAt OR3 0 (by omega)
          have hf0 : w3.frozen? ⟨g, 0, none⟩ = false := World.ownsRow.frozenAt OR3 0
          have hc0' : w3.cell? ⟨g, 0, none⟩ = some (.int .i64 (zs[0]'hp1)) := by rw [hc0]; simp [hp1]
          have ST := World.ownsRow.stored OR3 0 (.int .i64 x)
          have HST : Hid _ := ST
          have HO3 : Hid (Oth r w w3) := HO2.out.trans O3
          have HRD3 : Hid _ := rd3
          have hl0 : ((zs.set 0 x).length) = zs.length := by simp
          have HL0 : Hid _ := hl0
          clear hx ot3 O3 rd3 P2 HAT OR3 hc0 ST hl0
          generalize zs[0]'hp1 = y at *
          go_wp2
          go_ret
          refine ⟨zs.set 0 x, ⟨g, 0, none⟩, gc, by rw [HL0.out]; rfl, ?_, ?_, ?_⟩
          · exact Rd2.mono (Rd2.same HRD3.out (fun b hb => Below.heap_setCell _ _ _ _ (by show b ≠ g; omega))) (by omega)
          · exact HO3.out.new (by show w.heap.size ≤ g; omega) _
          · rw [HL0.out, List.map_set]; exact HST.out.1
        · have HR : Hid _ := rd2
          clear rd2
          go_wp2
          go_ret
          exact ⟨zs, ⟨g, 0, none⟩, gc, rfl, Rd2.mono HR.out (by omega), HO2.out, OR2.out⟩

end Go.Proofs.Ytepacahfpbedoaa

namespace Go.Proofs.Ytepacahfpbedoaa
open Go.RowKit
set_option linter.unusedSimpArgs false
set_option linter.unusedVariables false
attribute [local go_sem] World.cell?_alloc_some

set_option maxHeartbeats 8000000 in
set_option maxRecDepth 20000 in
theorem l71Nums8_any (w : World) (r m : Nat) (la sa : Option Addr) (n lc k0 sc : Nat) (h : Rd2 w r m) (hm : m ≤ 100000) (hn : 1 ≤ n) (hn4 : n ≤ 8) :
    Calls Try.prog 55 #[.pointer (some ⟨r, 0, none⟩), .agg #[.slice la n lc, .slice sa k0 sc]] w fun e w' => ∃ (zs : List Int) (ad : Addr) (c : Nat), e = .returned (.slice (some ad) zs.length c) ∧ Rd2 w' r (m + 10) ∧ Oth r w w' ∧ w'.ownsRow (w.heap.size + 1) 3 1 (.slice (some ad) zs.length c) zs.length (zs.map (Value.int .i64)) := by
  obtain ⟨i0, hi0, hz0, hz1, hz2⟩ := info_parts infoInt
  have hlt := h.lt
  have hn64 : (n : Int) ≤ 8 := by omega
  have A0 : Below w.heap.size w (w.alloc (.cells #[.slice la n lc, .slice sa k0 sc] 26)) := (Below.refl _ _).alloc (Nat.le_refl _) _
  have A1 : Below w.heap.size w ((w.alloc (.cells #[.slice la n lc, .slice sa k0 sc] 26)).alloc (.cells #[] 3)) := A0.alloc (by simp) _
  have H0 : Hid _ := And.intro (h.oth A1) (And.intro (Oth.of_below (r := r) A1) (And.intro ((C2.new w (.slice la n lc) (.slice sa k0 sc) 26).same (Below.heap_alloc _ (.cells #[] 3) _ (by simp))) (World.ownsRow_made (base := w.heap.size + 1) (e := 3) (size := 1) (w.alloc (.cells #[.slice la n lc, .slice sa k0 sc] 26)) #[] 0 (by simp) (by unfold maxLen; omega) (by simp))))
  clear h A0 A1
  go_enter Try.func55, Try.ntmps55
  go_wp2
  go_loopw [5, 6] (fun o j wr => ∃ (zs : List Int) (g gc : Nat), zs.length ≤ n ∧ j = .int .i64 zs.length ∧ o = .slice (some ⟨g, 0, none⟩) zs.length gc ∧ Rd2 wr r (m + zs.length) ∧ Oth r w wr ∧ C2 wr w.heap.size (.slice la n lc) (.slice sa k0 sc) ∧ wr.ownsRow (w.heap.size + 1) 3 1 (.slice (some ⟨g, 0, none⟩) zs.length gc) zs.length (zs.map (Value.int .i64)) ∧ w.heap.size < wr.heap.size) (fun _ j _ => n - (intOf j).toNat)
  case atStart => exact ⟨[], w.heap.size + 1, 0, by simp, rfl, rfl, H0.out.1, H0.out.2.1, H0.out.2.2.1, by simpa using H0.out.2.2.2, by simp; omega⟩
  case round =>
    obtain ⟨zs, g, gc, hzl, rfl, rfl, hrd, hot, hc2, hor, hsz⟩ := hrel
    have hgl := World.ownsRow.lt hor g rfl
    have HOR : Hid (wr.ownsRow (w.heap.size + 1) 3 1 (.slice (some ⟨g, 0, none⟩) zs.length gc) zs.length (zs.map (Value.int .i64))) := hor
    have HOT : Hid (Oth r w wr) := hot
    have HC2 : Hid (C2 wr w.heap.size (.slice la n lc) (.slice sa k0 sc)) := hc2
    obtain ⟨⟨c0, c1⟩, -⟩ := hc2
    have hzi : (zs.length : Int) ≤ 8 := by omega
    by_cases hlt2 : zs.length < n
    · have i1' : (zs.length : Int) < (n : Int) := by omega
      have i0' : (0 : Int) ≤ (zs.length : Int) := by omega
      have AT : Below wr.heap.size wr (wr.alloc (.cells #[.int .i64 0, .int .i64 0, .int .i64 1, .int .i64 2, .int .i64 5, .int .i64 9] 3)) := (Below.refl _ _).alloc (Nat.le_refl _) _
      have P1 : Hid _ := pick2 _ r _ 6 (hrd.oth AT) (by omega) (by omega) (by omega)
      have HAT : Hid _ := AT
      clear hrd hot hor AT
      go_wp2_with fail
      go_at_call 35; refine Calls.mono P1.out ?_
      rintro e w2 ⟨k, rfl, kl, kh, rd2, ot2⟩
      obtain ⟨x, hx⟩ := tab6 wr 0 0 1 2 5 9 3 k kl kh
      have hx2 : w2.cell? ⟨wr.heap.size, k.toNat, none⟩ = some (.int .i64 x) := ot2.cell (by simp; omega) hx
      have O2 : Oth r wr w2 := (Oth.of_below HAT.out).trans ot2
      have s2 : wr.heap.size + 1 ≤ w2.heap.size := by have := ot2.size; simpa using this
      have OR2 : Hid (w2.ownsRow (w.heap.size + 1) 3 1 (.slice (some ⟨g, 0, none⟩) zs.length gc) zs.length (zs.map (Value.int .i64))) := rowq_oth HOR.out O2 (by omega)
      have HO2 : Hid (Oth r w w2) := HOT.out.trans O2
      have HC22 : Hid (C2 w2 w.heap.size (.slice la n lc) (.slice sa k0 sc)) := HC2.out.oth O2 (by omega)
      have HRD2 : Hid _ := rd2
      obtain ⟨kn, rfl⟩ := Int.eq_ofNat_of_zero_le kl
      simp only [Int.toNat_natCast] at hx2
      clear hx ot2 O2 rd2 P1 c0 c1 HAT
      go_wp2_with (at_builtin; refine wpList_append_own_at _ rfl _ _ 38 rfl (w.heap.size + 1) 3 i0 _ 1 8 Try.underlying38 hi0 hz0 hz1 hz2 rfl (by decide) _ _ _ rfl (OR2.out.alloc _) ⟨w2.heap.size, 0, none⟩ 1 1 [.int .i64 x] rfl rfl ?c1 ?c2 ?c3 ?c4 ?c5 ?_)
      case c1 => exact cells_new1 w2 _ _ _ rfl
      case c2 => simp [Value.oneCell']
      case c3 => unfold maxLen; omega
      case c4 => omega
      case c5 => simp; omega
      intro v5 w5 own5 grow5 nn5 at5
      have nz : v5 ≠ .slice none 0 0 := by intro e; have := nn5; simp [e] at this
      obtain ⟨g5, gc5, hv5⟩ : ∃ g5 gc5, v5 = .slice (some ⟨g5, 0, none⟩) (zs.length + 1) gc5 := by
        obtain ⟨_, ⟨q, _⟩ | ⟨g5, c5, _, q, _⟩⟩ := id own5
        · exact (nz q).elim
        · exact ⟨g5, c5, q⟩
      subst hv5
      have A5 : Below w2.heap.size w2 (w2.alloc (.cells #[.int .i64 x] 3)) := (Below.refl _ _).alloc (Nat.le_refl _) _
      have O5 : Oth r w w5 := (HO2.out.alloc _).grown grow5 (fun k hk => by have e : g = k := (by simpa [Value.ownBlock] using hk); have := hgl.1; omega)
      have bl5 : ∀ b, b < w2.heap.size → b ≠ g → w5.heap[b]? = w2.heap[b]? := fun b hb hne => (grow5.block b (by simp; omega) (fun q => hne (by cases q; rfl))).trans (Below.heap_alloc _ _ _ hb)
      have C5 : C2 w5 w.heap.size (.slice la n lc) (.slice sa k0 sc) := HC22.out.same (bl5 w.heap.size (by omega) (by omega))
      have RD5 : Rd2 w5 r (m + (zs ++ [x]).length) := Rd2.mono (Rd2.same HRD2.out (fun b hb => bl5 b (by omega) (by omega))) (by simp; omega)
      have s5 : w2.heap.size + 1 ≤ w5.heap.size := by have := grow5.size; simpa using this
      have HO5 : Hid _ := O5
      have HC5 : Hid _ := C5
      have HR5 : Hid _ := RD5
      have HW5 : Hid (w5.ownsRow (w.heap.size + 1) 3 1 (.slice (some ⟨g5, 0, none⟩) (zs.length + 1) gc5) (zs.length + 1) (zs.map (Value.int .i64) ++ [.int .i64 x])) := own5
      clear own5 grow5 nn5 at5 nz A5 O5 bl5 C5 RD5 hx2
      go_wp2
      exact ⟨⟨zs ++ [x], g5, gc5, by simp; omega, by simp, by simp, HR5.out, HO5.out, HC5.out, by simpa using HW5.out, by omega⟩, by simp [intOf]; omega⟩
    · have hzn : zs.length = n := by omega
      have P1 : Hid _ := pick2 wr r _ 20 hrd (by omega) (by omega) (by omega)
      have hne : ¬ ((zs.length : Int) < (n : Int)) := by omega
      have hpos : (0 : Int) < (zs.length : Int) := by omega
      have hp1 : 0 < zs.length := by omega
      clear hot hor hzn
      go_wp2_with fail
      go_at_call 35; refine Calls.mono P1.out ?_
      rintro e w2 ⟨k, rfl, kl, kh, rd2, ot2⟩
      have s2 : wr.heap.size ≤ w2.heap.size := ot2.size
      have OR2 : Hid (w2.ownsRow (w.heap.size + 1) 3 1 (.slice (some ⟨g, 0, none⟩) zs.length gc) zs.length (zs.map (Value.int .i64))) := rowq_oth HOR.out ot2 (by omega)
      have HO2 : Hid (Oth r w w2) := HOT.out.trans ot2
      have HRD2 : Hid _ := rd2
      clear hrd ot2 P1 c0 c1
      by_cases hk0 : k = 0
      · subst hk0
        clear rd2
        go_wp2_with (at_builtin; refine wpList_append_own_at _ rfl _ _ 38 rfl (w.heap.size + 1) 3 i0 _ 1 8 Try.underlying38 hi0 hz0 hz1 hz2 rfl (by decide) _ _ _ rfl (OR2.out.alloc _) ⟨w2.heap.size, 0, none⟩ 1 1 [.int .i64 0] rfl rfl ?d1 ?d2 ?d3 ?d4 ?d5 ?_)
        case d1 => exact cells_new1 w2 _ _ _ rfl
        case d2 => simp [Value.oneCell']
        case d3 => unfold maxLen; omega
        case d4 => omega
        case d5 => simp; omega
        intro v5 w5 own5 grow5 nn5 at5
        have nz : v5 ≠ .slice none 0 0 := by intro e; have := nn5; simp [e] at this
        obtain ⟨g5, gc5, hv5⟩ : ∃ g5 gc5, v5 = .slice (some ⟨g5, 0, none⟩) (zs.length + 1) gc5 := by
          obtain ⟨_, ⟨q, _⟩ | ⟨g5, c5, _, q, _⟩⟩ := id own5
          · exact (nz q).elim
          · exact ⟨g5, c5, q⟩
        subst hv5
        have O5 : Oth r w w5 := (HO2.out.alloc _).grown grow5 (fun k hk => by have e : g = k := (by simpa [Value.ownBlock] using hk); have := hgl.1; omega)
        have bl5 : ∀ b, b < w2.heap.size → b ≠ g → w5.heap[b]? = w2.heap[b]? := fun b hb hne => (grow5.block b (by simp; omega) (fun q => hne (by cases q; rfl))).trans (Below.heap_alloc _ _ _ hb)
        have RD5 : Rd2 w5 r (m + 10) := Rd2.mono (Rd2.same HRD2.out (fun b hb => bl5 b (by omega) (by omega))) (by omega)
        have HO5 : Hid _ := O5
        have HR5 : Hid _ := RD5
        have HW5 : Hid (w5.ownsRow (w.heap.size + 1) 3 1 (.slice (some ⟨g5, 0, none⟩) (zs.length + 1) gc5) (zs.length + 1) (zs.map (Value.int .i64) ++ [.int .i64 0])) := own5
        clear own5 grow5 nn5 at5 nz O5 bl5 RD5
        go_wp2
        go_ret
        exact ⟨zs ++ [0], ⟨g5, 0, none⟩, gc5, by simp, HR5.out, HO5.out, by simpa using HW5.out⟩
      · by_cases hk1 : k = 1
        · subst hk1
          have AT : Below w2.heap.size w2 (w2.alloc (.cells #[.int .i64 (-1), .int .i64 10] 3)) := (Below.refl _ _).alloc (Nat.le_refl _) _
          have P2 : Hid _ := pick2 _ r _ 2 (rd2.oth AT) (by omega) (by omega) (by omega)
          have HAT : Hid _ := AT
          clear AT rd2
          go_wp2_with fail
          go_at_call 35; refine Calls.mono P2.out ?_
          rintro e w3 ⟨q, rfl, ql, qh, rd3, ot3⟩
          obtain ⟨x, hx⟩ := tab2 w2 (-1) 10 3 q ql qh
          have hx3 : w3.cell? ⟨w2.heap.size, q.toNat, none⟩ = some (.int .i64 x) := ot3.cell (by simp; omega) hx
          have O3 : Oth r w2 w3 := (Oth.of_below HAT.out).trans ot3
          have OR3 := rowq_oth OR2.out O3 (by omega)
          obtain ⟨qn, rfl⟩ := Int.eq_ofNat_of_zero_le ql
          simp only [Int.toNat_natCast] at hx3
          have hc0 : w3.cell? ⟨g, 0, none⟩ = (zs.map (Value.int .i64))[0]? := World.ownsRow.cellAt OR3 0 (by omega)
          have hf0 : w3.frozen? ⟨g, 0, none⟩ = false := World.ownsRow.frozenAt OR3 0
          have hc0' : w3.cell? ⟨g, 0, none⟩ = some (.int .i64 (zs[0]'hp1)) := by rw [hc0]; simp [hp1]
          have ST := World.ownsRow.stored OR3 0 (.int .i64 x)
          have HST : Hid _ := ST
          have HO3 : Hid (Oth r w w3) := HO2.out.trans O3
          have HRD3 : Hid _ := rd3
          have hl0 : ((zs.set 0 x).length) = zs.length := by simp
          have HL0 : Hid _ := hl0
          clear hx ot3 O3 rd3 P2 HAT OR3 hc0 ST hl0
          generalize zs[0]'hp1 = y at *
          go_wp2
          go_ret
          refine ⟨zs.set 0 x, ⟨g, 0, none⟩, gc, by rw [HL0.out]; rfl, ?_, ?_, ?_⟩
          · exact Rd2.mono (Rd2.same HRD3.out (fun b hb => Below.heap_setCell _ _ _ _ (by show b ≠ g; omega))) (by omega)
          · exact HO3.out.new (by show w.heap.size ≤ g; omega) _
          · rw [HL0.out, List.map_set]; exact HST.out.1
        · have HR : Hid _ := rd2
          clear rd2
          go_wp2
          go_ret
          exact ⟨zs, ⟨g, 0, none⟩, gc, rfl, Rd2.mono HR.out (by omega), HO2.out, OR2.out⟩

end Go.Proofs.Ytepacahfpbedoaa

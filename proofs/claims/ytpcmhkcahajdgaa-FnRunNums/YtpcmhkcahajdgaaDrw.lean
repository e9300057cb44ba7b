/- The reader of codes: what it leaves alone, and what it answers. -/
import Derived.Test.YtpcmhkcahajdgaaLab
import Derived.Deep.QuietTactic
import Derived.BigQuiet
import Derived.Deep.RegionHeld3
namespace Go.Proofs.Ytpcmhkcahajdgaa
open Go.RowKit
set_option linter.unusedSimpArgs false
set_option linter.unusedVariables false

theorem frozen_later {w wx : World} {a : Addr} {v : Value} (hb : Below w.heap.size w wx) (h : w.cell? a = some v) (hf : w.frozen? a = false) : wx.frozen? a = false :=
  (hb.frozen (World.block_lt_of_cell? _ _ h)).trans hf
theorem cell_set {w : World} {p a : Addr} {v u : Value} (h : w.cell? a = some u) (hne : p.block ≠ a.block) : (w.setCell p v).cell? a = some u := by
  rw [World.cell?_setCell_far _ _ _ _ hne, h]
theorem set_two0 {w : World} {b : Nat} {v0 v1 x y : Value} (h0 : w.cell? ⟨b, 0, none⟩ = some x) (h1 : w.cell? ⟨b, 1, none⟩ = some y) : ((w.setCell ⟨b, 0, none⟩ v0).setCell ⟨b, 1, none⟩ v1).cell? ⟨b, 0, none⟩ = some v0 := by
  rw [World.cell?_setCell_other _ _ _ _ (by simp), World.cell?_setCell_same _ _ _ h0]
theorem set_two1 {w : World} {b : Nat} {v0 v1 x y : Value} (h0 : w.cell? ⟨b, 0, none⟩ = some x) (h1 : w.cell? ⟨b, 1, none⟩ = some y) : ((w.setCell ⟨b, 0, none⟩ v0).setCell ⟨b, 1, none⟩ v1).cell? ⟨b, 1, none⟩ = some v1 := by
  rw [World.cell?_setCell_same _ _ _ ((World.cell?_setCell_other _ _ _ _ (by simp)).trans h1)]
/-- All blocks but one are as they were. -/
structure Oth (r : Nat) (w w' : World) : Prop where
  os : w'.os = w.os
  tape : w'.tape = w.tape
  output : w'.output = w.output
  size : w.heap.size ≤ w'.heap.size
  block : ∀ k, k < w.heap.size → k ≠ r → w'.heap[k]? = w.heap[k]?

theorem Oth.refl (r : Nat) (w : World) : Oth r w w := ⟨rfl, rfl, rfl, Nat.le_refl _, fun _ _ _ => rfl⟩
theorem Oth.trans {r : Nat} {a b c : World} (h : Oth r a b) (k : Oth r b c) : Oth r a c :=
  ⟨k.os.trans h.os, k.tape.trans h.tape, k.output.trans h.output, Nat.le_trans h.size k.size, fun n hn hr => (k.block n (Nat.lt_of_lt_of_le hn h.size) hr).trans (h.block n hn hr)⟩
theorem Oth.drew {r : Nat} {a w : World} (h : Oth r a w) : Oth r a w.drew := ⟨h.os, h.tape, h.output, h.size, h.block⟩
theorem Oth.of_below {r : Nat} {w w' : World} (h : Below w.heap.size w w') : Oth r w w' := ⟨h.os, h.tape, h.output, h.size, fun k hk _ => h.block k hk⟩
theorem Oth.alloc {r : Nat} {a w : World} (h : Oth r a w) (o : Obj) : Oth r a (w.alloc o) := h.trans (Oth.of_below ((Below.refl _ _).alloc (Nat.le_refl _) o))
theorem Oth.setCell {r : Nat} {a w : World} (h : Oth r a w) {o : Nat} (v : Value) : Oth r a (w.setCell ⟨r, o, none⟩ v) := by
  have k := (Below.refl 0 w).setCell (p := ⟨r, o, none⟩) (Nat.zero_le _) v
  exact h.trans ⟨k.os, k.tape, k.output, k.size, fun n _ hr => Below.heap_setCell w ⟨r, o, none⟩ v n hr⟩
theorem Oth.new {r : Nat} {a w : World} (h : Oth r a w) {p : Addr} (hp : a.heap.size ≤ p.block) (v : Value) : Oth r a (w.setCell p v) := by
  have k := (Below.refl 0 w).setCell (p := p) (Nat.zero_le _) v
  exact ⟨k.os.trans h.os, k.tape.trans h.tape, k.output.trans h.output, Nat.le_trans h.size k.size, fun n hn hr => (Below.heap_setCell w p v n (by omega)).trans (h.block n hn hr)⟩
theorem Oth.cell {r : Nat} {w w' : World} (h : Oth r w w') {a : Addr} {v : Value} (hr : a.block ≠ r) (hc : w.cell? a = some v) : w'.cell? a = some v :=
  (World.cell?_of_block (w := w) (h.block a.block (World.block_lt_of_cell? _ _ hc) hr)).trans hc
theorem Oth.frozen {r : Nat} {w w' : World} (h : Oth r w w') {a : Addr} {v : Value} (hr : a.block ≠ r) (hc : w.cell? a = some v) (hf : w.frozen? a = false) : w'.frozen? a = false :=
  (World.frozen?_of_block (w := w) (h.block a.block (World.block_lt_of_cell? _ _ hc) hr)).trans hf
theorem Oth.below {r : Nat} {w w' : World} {B : Nat} (h : Oth r w w') (hr : B ≤ r) (hw : B ≤ w.heap.size) : Below B w w' :=
  ⟨h.os, h.tape, h.output, h.size, fun k hk => h.block k (by omega) (by omega)⟩

/-- The bytes of a code, in a block that is not the reader's. -/
def Row8 (w : World) (r : Nat) (a : Option Addr) (len : Nat) (zs : List Int) : Prop :=
  len = 0 ∨ ∃ b off, a = some ⟨b, off, none⟩ ∧ b < r ∧ ∀ i, i < len → w.cell? ⟨b, off + i, none⟩ = some (.int .u8 (zs.getD i 0)) ∧ 0 ≤ zs.getD i 0 ∧ zs.getD i 0 ≤ 255
/-- A reader at a place. -/
structure St (w : World) (r : Nat) (a : Option Addr) (len cap : Nat) (zs : List Int) (p : Nat) : Prop where
  c0 : w.cell? ⟨r, 0, none⟩ = some (.slice a len cap)
  c1 : w.cell? ⟨r, 1, none⟩ = some (.int .i64 (p : Int))
  f1 : w.frozen? ⟨r, 1, none⟩ = false
  small : len ≤ 2000
  row : Row8 w r a len zs

theorem Row8.oth {w w' : World} {r : Nat} {a : Option Addr} {len : Nat} {zs : List Int} (h : Row8 w r a len zs) (k : Oth r w w') : Row8 w' r a len zs := by
  rcases h with h | ⟨b, off, rfl, hb, hc⟩
  · exact .inl h
  · exact .inr ⟨b, off, rfl, hb, fun i hi => ⟨k.cell (Nat.ne_of_lt hb) (hc i hi).1, (hc i hi).2⟩⟩
theorem St.below {w w' : World} {r : Nat} {a : Option Addr} {len cap : Nat} {zs : List Int} {p : Nat} (h : St w r a len cap zs p) (k : Below w.heap.size w w') : St w' r a len cap zs p :=
  ⟨cell_later k h.c0, cell_later k h.c1, frozen_later k h.c1 h.f1, h.small, h.row.oth (Oth.of_below k)⟩

theorem bits_xor_i64_nat (a b : Nat) (ha : a < 2 ^ 62) (hb : b < 2 ^ 62) : bits .xor .i64 (a : Int) (b : Int) = ((a ^^^ b : Nat) : Int) := by
  have hx : a ^^^ b < 2 ^ 62 := Nat.xor_lt_two_pow ha hb
  have h1 : (BitVec.ofInt 64 (a : Int)).toNat = a := by
    rw [BitVec.ofInt_natCast, BitVec.toNat_ofNat]; exact Nat.mod_eq_of_lt (by omega)
  have h2 : (BitVec.ofInt 64 (b : Int)).toNat = b := by
    rw [BitVec.ofInt_natCast, BitVec.toNat_ofNat]; exact Nat.mod_eq_of_lt (by omega)
  show IntKind.i64.wrap ((BitVec.ofInt 64 (a : Int) ^^^ BitVec.ofInt 64 (b : Int)).toNat : Int) = _
  rw [BitVec.toNat_xor, h1, h2]
  simp [IntKind.wrap, IntKind.bits, IntKind.signed]
  omega
theorem tmod_nat (x y : Nat) : ((x : Int).tmod (y : Int)) = ((x % y : Nat) : Int) := by
  rw [Int.tmod_eq_emod_of_nonneg (by omega)]; simp
theorem xor_nn (x : Int) (h0 : 0 ≤ x) (h1 : x ≤ 1000000000000) : 0 ≤ bits .xor .i64 x (x / 64) ∧ bits .xor .i64 x (x / 64) ≤ 9223372036854775807 := by
  obtain ⟨n, rfl⟩ := Int.eq_ofNat_of_zero_le h0
  have e : ((n : Int) / 64) = ((n / 64 : Nat) : Int) := by omega
  rw [e, bits_xor_i64_nat n (n / 64) (by omega) (by omega)]
  have hx : n ^^^ (n / 64) < 2 ^ 62 := Nat.xor_lt_two_pow (by omega) (by omega)
  omega

set_option maxHeartbeats 1000000 in
theorem pick_any (w : World) (r : Nat) (a : Option Addr) (len cap : Nat) (zs : List Int) (p : Nat) (n : Int) (h : St w r a len cap zs p) (hp : p ≤ 1000000) (n1 : 1 ≤ n) (n2 : n ≤ 1000000) :
    Calls Try.prog 65 #[.pointer (some ⟨r, 0, none⟩), .int .i64 n] w fun e w' => ∃ k, e = .returned (.int .i64 k) ∧ 0 ≤ k ∧ k < n ∧ St w' r a len cap zs (p + 1) ∧ Oth r w w' := by
  obtain ⟨c0, c1, f1, small, row⟩ := h
  have hnl : ¬ n < 1 := by omega
  have d1 : (w.setCell ⟨r, 1, none⟩ (.int .i64 ((p : Int) + 1))).cell? ⟨r, 1, none⟩ = some (.int .i64 ((p : Int) + 1)) := World.cell?_setCell_same _ _ _ c1
  have d0 : (w.setCell ⟨r, 1, none⟩ (.int .i64 ((p : Int) + 1))).cell? ⟨r, 0, none⟩ = some (.slice a len cap) := by rw [World.cell?_setCell_other _ _ _ _ (by simp), c0]
  have g1 : (w.setCell ⟨r, 1, none⟩ (.int .i64 ((p : Int) + 1))).frozen? ⟨r, 1, none⟩ = false := by simpa using f1
  have HO : Hid (Oth r w (w.setCell ⟨r, 1, none⟩ (.int .i64 ((p : Int) + 1)))) := (Oth.refl r w).setCell _
  have HS : Hid (St (w.setCell ⟨r, 1, none⟩ (.int .i64 ((p : Int) + 1))) r a len cap zs (p + 1)) := ⟨d0, by rw [d1]; simp, g1, small, row.oth HO⟩
  rcases row with h0 | ⟨b, off, rfl, hb, hc⟩
  · subst h0
    go_enter Try.func65, Try.ntmps65
    go_wp2
    go_ret
    exact ⟨0, rfl, by omega, by omega, HS.out, HO.out⟩
  · by_cases hl : len = 0
    · subst hl
      go_enter Try.func65, Try.ntmps65
      go_wp2
      go_ret
      exact ⟨0, rfl, by omega, by omega, HS.out, HO.out⟩
    · have hl0 : ((len : Int) == 0) = false := by simp; omega
      by_cases hk : p < len
      · obtain ⟨hcp, z0, z1⟩ := hc p hk
        have dp : (w.setCell ⟨r, 1, none⟩ (.int .i64 ((p : Int) + 1))).cell? ⟨b, off + p, none⟩ = some (.int .u8 (zs.getD p 0)) := cell_set hcp (by simp; omega)
        clear hc
        go_enter Try.func65, Try.ntmps65
        go_wp2
        go_ret
        refine ⟨_, rfl, ?_, ?_, HS.out, HO.out⟩
        · rw [IntWalk.wrap64_in _ (by simp at z0 z1; omega)]
          exact Int.tmod_nonneg _ (by simpa using z0)
        · exact Int.tmod_lt_of_pos _ (by omega)
      · have m1 : p % len < len := Nat.mod_lt _ (by omega)
        have m2 : (p * 7 + 3) % len < len := Nat.mod_lt _ (by omega)
        obtain ⟨hc1, z0, z1⟩ := hc _ m1
        obtain ⟨hc2, y0, y1⟩ := hc _ m2
        have t1 : ((p : Int).tmod (len : Int)) = ((p % len : Nat) : Int) := tmod_nat p len
        have t2 : (((p : Int) * 7 + 3).tmod (len : Int)) = (((p * 7 + 3) % len : Nat) : Int) := by rw [← tmod_nat]; rfl
        have t3 : ((p : Int) % (len : Int)) = ((p % len : Nat) : Int) := by simp
        have t4 : (((p : Int) * 7 + 3) % (len : Int)) = (((p * 7 + 3) % len : Nat) : Int) := by simp
        have t5 : ((p : Int).tdiv (len : Int)) = ((p / len : Nat) : Int) := by rw [Int.tdiv_eq_ediv_of_nonneg (by omega)]; simp
        have t6 : ((p : Int) / (len : Int)) = ((p / len : Nat) : Int) := by simp
        have q1 : p / len ≤ p := Nat.div_le_self _ _
        generalize p % len = i1 at *
        generalize (p * 7 + 3) % len = i2 at *
        generalize p / len = i3 at *
        clear hc
        have dp : (w.setCell ⟨r, 1, none⟩ (.int .i64 ((p : Int) + 1))).cell? ⟨b, off + i1, none⟩ = some (.int .u8 (zs.getD i1 0)) := cell_set hc1 (by simp; omega)
        have dq : (w.setCell ⟨r, 1, none⟩ (.int .i64 ((p : Int) + 1))).cell? ⟨b, off + i2, none⟩ = some (.int .u8 (zs.getD i2 0)) := cell_set hc2 (by simp; omega)
        generalize zs.getD i1 0 = v1 at *
        generalize zs.getD i2 0 = v2 at *
        have b1 : (i1 : Int) < (len : Int) := by omega
        have b2 : (i2 : Int) < (len : Int) := by omega
        have b3 : (0 : Int) ≤ (i1 : Int) := by omega
        have b4 : (0 : Int) ≤ (i2 : Int) := by omega
        have b5 : (1 : Int) ≤ (len : Int) := by omega
        clear hc1 hc2
        go_enter Try.func65, Try.ntmps65
        go_wp2
        go_quiet (fail)
        go_wp2
        go_ret
        have hx := xor_nn (v1 * 131 + v2 * 1117 + (p : Int) * 29 + (i3 : Int) * 53) (by omega) (by omega)
        have hB := below_drewN (Below.refl (w.setCell ⟨r, 1, none⟩ (.int .i64 ((p : Int) + 1))).heap.size (w.setCell ⟨r, 1, none⟩ (.int .i64 ((p : Int) + 1)))) nq
        refine ⟨_, rfl, ?_, ?_, HS.out.below hB, HO.out.trans (Oth.of_below hB)⟩
        · exact Int.tmod_nonneg _ hx.1
        · exact Int.tmod_lt_of_pos _ (by omega)

/-- A reader at a place, whatever its code. -/
def Rdr (w : World) (r p : Nat) : Prop := ∃ a len cap zs, St w r a len cap zs p
theorem Rdr.below {w w' : World} {r p : Nat} (h : Rdr w r p) (k : Below w.heap.size w w') : Rdr w' r p := by
  obtain ⟨a, len, cap, zs, h⟩ := h
  exact ⟨a, len, cap, zs, h.below k⟩
theorem Rdr.lt {w : World} {r p : Nat} (h : Rdr w r p) : r < w.heap.size := by
  obtain ⟨a, len, cap, zs, h⟩ := h
  exact World.block_lt_of_cell? _ _ h.c0
theorem Rdr.same {w w' : World} {r p : Nat} (h : Rdr w r p) (k : ∀ n, n ≤ r → w'.heap[n]? = w.heap[n]?) : Rdr w' r p := by
  obtain ⟨a, len, cap, zs, h⟩ := h
  have hr : w'.heap[r]? = w.heap[r]? := k r (Nat.le_refl _)
  refine ⟨a, len, cap, zs, ?_, ?_, ?_, h.small, ?_⟩
  · exact (World.cell?_of_block (w := w) (a := ⟨r, 0, none⟩) hr).trans h.c0
  · exact (World.cell?_of_block (w := w) (a := ⟨r, 1, none⟩) hr).trans h.c1
  · exact (World.frozen?_of_block (w := w) (a := ⟨r, 1, none⟩) hr).trans h.f1
  · rcases h.row with h0 | ⟨b, off, rfl, hb, hc⟩
    · exact .inl h0
    · exact .inr ⟨b, off, rfl, hb, fun i hi => ⟨(World.cell?_of_block (w := w) (a := ⟨b, off + i, none⟩) (k b (Nat.le_of_lt hb))).trans (hc i hi).1, (hc i hi).2⟩⟩
theorem pick_r (w : World) (r p : Nat) (n : Int) (h : Rdr w r p) (hp : p ≤ 1000000) (n1 : 1 ≤ n) (n2 : n ≤ 1000000) :
    Calls Try.prog 65 #[.pointer (some ⟨r, 0, none⟩), .int .i64 n] w fun e w' => ∃ k, e = .returned (.int .i64 k) ∧ 0 ≤ k ∧ k < n ∧ Rdr w' r (p + 1) ∧ Oth r w w' := by
  obtain ⟨a, len, cap, zs, h⟩ := h
  refine (pick_any w r a len cap zs p n h hp n1 n2).mono ?_
  rintro e w' ⟨k, h1, h2, h3, h4, h5⟩
  exact ⟨k, h1, h2, h3, ⟨a, len, cap, zs, h4⟩, h5⟩

/-- What the reader's opening gives: a reader at the code's beginning, in a block of its own. -/
theorem l6Open_any (w : World) (a0 : Option Addr) (len0 cap0 : Nat) (zs : List Int) (h : IsRow .u8 w a0 len0 cap0 zs) :
    Calls Try.prog 63 #[.slice a0 len0 cap0] w fun e w' => e = .returned (.pointer (some ⟨w.heap.size, 0, none⟩)) ∧ Rdr w' w.heap.size 0 ∧ w.heap.size < w'.heap.size ∧ Below w.heap.size w w' := by
  have row : ∀ (w' : World), Below w.heap.size w w' → ∀ len, len ≤ len0 → Row8 w' w.heap.size a0 len zs := by
    intro w' hb len hl
    rcases h with ⟨rfl, rfl, rfl, rfl⟩ | ⟨x, rfl, h1, h2, h3, h4, h5⟩
    · exact .inl (by omega)
    · by_cases hz : len = 0
      · exact .inl hz
      · obtain ⟨b, off, spot⟩ := x
        have hc := h4 0 (by omega)
        have hspot : spot = none := by simpa [Addr.add] using World.cell?_spot hc
        subst hspot
        have hlt := World.block_lt_of_cell? _ _ hc
        simp [Addr.add] at hlt
        refine .inr ⟨b, off, rfl, by omega, fun i hi => ⟨?_, ?_, ?_⟩⟩
        · have := h4 i (by omega)
          refine cell_later hb ?_
          by_cases hi0 : i = 0
          · subst hi0
            simpa [Addr.add] using this
          · simpa [Addr.add, hi0] using this
        · have := range_u8 h5 i
          simpa using this.1
        · have := range_u8 h5 i
          simpa using this.2
  have hcap : len0 ≤ cap0 := by
    rcases h with ⟨_, rfl, rfl, _⟩ | ⟨x, _, h1, _⟩ <;> omega
  have hmax : cap0 ≤ maxLen := by
    rcases h with ⟨_, rfl, rfl, _⟩ | ⟨x, _, _, h2, _⟩
    · exact Nat.zero_le _
    · exact h2
  unfold maxLen at hmax
  by_cases hl : len0 ≤ 2000
  · have hn : ¬ ((2000 : Int) < (len0 : Int)) := by omega
    go_enter Try.func63, Try.ntmps63
    go_wp2
    go_ret
    refine ⟨rfl, ⟨a0, len0, cap0, zs, by simp [go_sem], by simp [go_sem], by simp [go_sem], hl, row _ ((Below.refl _ _).alloc (Nat.le_refl _) _) _ (Nat.le_refl _)⟩, by simp, (Below.refl _ _).alloc (Nat.le_refl _) _⟩
  · have hn : (2000 : Int) < (len0 : Int) := by omega
    rcases h with ⟨_, rfl, rfl, _⟩ | ⟨x, rfl, h1, h2, h3, h4, h5⟩
    · omega
    obtain ⟨b, off, spot⟩ := x
    have hspot : spot = none := by simpa [Addr.add] using World.cell?_spot (h4 0 (by omega))
    subst hspot
    have hn2 : (2000 : Int) ≤ (cap0 : Int) := by omega
    clear h4 h5 h3
    go_enter Try.func63, Try.ntmps63
    go_wp2
    go_ret
    refine ⟨rfl, ⟨some ⟨b, off, none⟩, 2000, cap0, zs, by simp [go_sem], by simp [go_sem], by simp [go_sem], by omega, row _ ((Below.refl _ _).alloc (Nat.le_refl _) _) _ (by omega)⟩, by simp, (Below.refl _ _).alloc (Nat.le_refl _) _⟩

end Go.Proofs.Ytpcmhkcahajdgaa

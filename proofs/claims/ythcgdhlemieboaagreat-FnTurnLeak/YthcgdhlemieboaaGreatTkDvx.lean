/- Drawn values. -/
import Derived.Test.YthcgdhlemieboaaGreatTkDrx
import Derived.Test.YthcgdhlemieboaaGreatTkCpy
namespace Go.Proofs.YthcgdhlemieboaaGreat
open Go.RowKit
set_option linter.unusedSimpArgs false
set_option linter.unusedVariables false
attribute [local go_sem] World.cell?_alloc_some

theorem pick2 (w : World) (r m : Nat) (n : Int) (h : Rd2 w r m) (hp : m ≤ 1000000000) (n1 : 1 ≤ n) (n2 : n ≤ 1000000) :
    Calls Tryz.prog 11 #[.pointer (some ⟨r, 0, none⟩), .int .i64 n] w fun e w' => ∃ k, e = .returned (.int .i64 k) ∧ 0 ≤ k ∧ k < n ∧ Rd2 w' r (m + 1) ∧ Oth r w w' := by
  obtain ⟨p, hp', h⟩ := h
  refine (pick_r w r p n h (by omega) n1 n2).mono ?_
  rintro e w' ⟨k, h1, h2, h3, h4, h5⟩
  exact ⟨k, h1, h2, h3, ⟨p + 1, by omega, h4⟩, h5⟩
theorem Rd2.oth {w w' : World} {r m : Nat} (h : Rd2 w r m) (k : Below w.heap.size w w') : Rd2 w' r m := by
  obtain ⟨p, hp, h⟩ := h
  exact ⟨p, hp, h.below k⟩
def Cq3 (w : World) (b : Nat) (v0 v1 v2 : Value) : Prop :=
  (w.cell? ⟨b, 0, none⟩ = some v0 ∧ w.cell? ⟨b, 1, none⟩ = some v1 ∧ w.cell? ⟨b, 2, none⟩ = some v2) ∧ (w.frozen? ⟨b, 0, none⟩ = false ∧ w.frozen? ⟨b, 1, none⟩ = false ∧ w.frozen? ⟨b, 2, none⟩ = false)
theorem Cq3.oth {w w' : World} {b r : Nat} {v0 v1 v2 : Value} (h : Cq3 w b v0 v1 v2) (k : Oth r w w') (hb : b ≠ r) : Cq3 w' b v0 v1 v2 :=
  ⟨⟨k.cell hb h.1.1, k.cell hb h.1.2.1, k.cell hb h.1.2.2⟩, k.frozen hb h.1.1 h.2.1, k.frozen hb h.1.2.1 h.2.2.1, k.frozen hb h.1.2.2 h.2.2.2⟩
theorem Cq3.new (w : World) (v0 v1 v2 : Value) (T : TypeId) : Cq3 (w.alloc (.cells #[v0, v1, v2] T)) w.heap.size v0 v1 v2 := by
  refine ⟨⟨?_, ?_, ?_⟩, ?_, ?_, ?_⟩ <;> simp
theorem Cq3.put {w : World} {b : Nat} {v0 v1 v2 : Value} (h : Cq3 w b v0 v1 v2) (u0 u1 u2 : Value) : Cq3 (((w.setCell ⟨b, 0, none⟩ u0).setCell ⟨b, 1, none⟩ u1).setCell ⟨b, 2, none⟩ u2) b u0 u1 u2 := by
  obtain ⟨⟨c0, c1, c2⟩, f⟩ := h
  refine ⟨⟨?_, ?_, ?_⟩, by simpa only [World.frozen?_setCell] using f⟩
  · exact (World.cell?_setCell_other _ _ _ _ (by simp)).trans ((World.cell?_setCell_other _ _ _ _ (by simp)).trans (World.cell?_setCell_same _ _ _ c0))
  · exact (World.cell?_setCell_other _ _ _ _ (by simp)).trans (World.cell?_setCell_same _ _ _ ((World.cell?_setCell_other _ _ _ _ (by simp)).trans c1))
  · exact World.cell?_setCell_same _ _ _ ((World.cell?_setCell_other _ _ _ _ (by simp)).trans ((World.cell?_setCell_other _ _ _ _ (by simp)).trans c2))

set_option maxHeartbeats 4000000 in
theorem l71Val_any (w : World) (r m : Nat) (vars : Int) (h : Rd2 w r m) (hm : m ≤ 900000000) (n1 : 1 ≤ vars) (n2 : vars ≤ 100) :
    Calls Tryz.prog 55 #[.pointer (some ⟨r, 0, none⟩), .int .i64 vars] w fun e w' => ∃ vk va vb, e = .returned (.agg #[.int .i64 vk, .int .i64 va, .int .i64 vb]) ∧ Rd2 w' r (m + 3) ∧ Oth r w w' := by
  have hlt := h.lt
  have A : Below w.heap.size w (w.alloc (.cells #[.int .i64 0, .int .i64 0, .int .i64 0] 64)) := (Below.refl _ _).alloc (Nat.le_refl _) _
  have Z := Cq3.new w (.int .i64 0) (.int .i64 0) (.int .i64 0) 64
  have C1 : Hid _ := pick2 _ r m 5 (h.oth A) (by omega) (by omega) (by omega)
  have HZ : Hid _ := Z
  have hne : w.heap.size ≠ r := by omega
  clear Z
  go_enter Tryz.func55, Tryz.ntmps55
  go_wp2_with fail
  go_at_call 11; refine Calls.mono C1.out ?_
  rintro e w1 ⟨k, rfl, k0, k5, rd1, ot1⟩
  have Z1 : Cq3 w1 w.heap.size (.int .i64 0) (.int .i64 0) (.int .i64 0) := Cq3.oth HZ.out ot1 hne
  have O1 : Hid (Oth r w w1) := (Oth.of_below A).trans ot1
  clear ot1 C1 A HZ
  have hk : k = 0 ∨ (k = 1 ∨ k = 2) ∨ k = 3 ∨ k = 4 := by omega
  clear k0 k5
  rcases hk with rfl | hk | hk | hk
  · have C2 : Hid _ := pick2 w1 r (m + 1) 10 rd1 (by omega) (by omega) (by omega)
    go_wp2_with fail
    go_at_call 11; refine Calls.mono C2.out ?_
    rintro e w2 ⟨a, rfl, _, _, rd2, ot2⟩
    have Z2 := Z1.oth ot2 hne
    have Z3 := Z2.put (.int .i64 1) (.int .i64 a) (.int .i64 0)
    obtain ⟨⟨x0, x1, x2⟩, y0, y1, y2⟩ := Z2
    clear Z1 C2
    go_wp2
    obtain ⟨⟨c0, c1, c2⟩, -⟩ := Z3
    refine bodyPost_ret (v := .agg #[.int .i64 1, .int .i64 a, .int .i64 0]) (by simp [results, Tryz.results55, go_sem, c0, c1, c2]) rfl ⟨1, a, 0, rfl, ?_, ?_⟩
    · exact (rd2.same (fun n hn => by rw [Below.heap_setCell _ _ _ _ (by show n ≠ w.heap.size; omega), Below.heap_setCell _ _ _ _ (by show n ≠ w.heap.size; omega), Below.heap_setCell _ _ _ _ (by show n ≠ w.heap.size; omega)])).mono (by omega)
    · exact (((O1.out.trans ot2).new (p := ⟨w.heap.size, 0, none⟩) (Nat.le_refl _) _).new (p := ⟨w.heap.size, 1, none⟩) (Nat.le_refl _) _).new (p := ⟨w.heap.size, 2, none⟩) (Nat.le_refl _) _
  · have C2 : Hid _ := pick2 w1 r (m + 1) vars rd1 (by omega) (by omega) (by omega)
    rcases hk with rfl | rfl
    all_goals
      go_wp2_with fail
      go_at_call 11; refine Calls.mono C2.out ?_
      rintro e w2 ⟨a, rfl, _, _, rd2, ot2⟩
      have Z2 := Z1.oth ot2 hne
      have Z3 := Z2.put (.int .i64 2) (.int .i64 a) (.int .i64 0)
      obtain ⟨⟨x0, x1, x2⟩, y0, y1, y2⟩ := Z2
      clear Z1 C2
      go_wp2
      obtain ⟨⟨c0, c1, c2⟩, -⟩ := Z3
      refine bodyPost_ret (v := .agg #[.int .i64 2, .int .i64 a, .int .i64 0]) (by simp [results, Tryz.results55, go_sem, c0, c1, c2]) rfl ⟨2, a, 0, rfl, ?_, ?_⟩
      · exact (rd2.same (fun n hn => by rw [Below.heap_setCell _ _ _ _ (by show n ≠ w.heap.size; omega), Below.heap_setCell _ _ _ _ (by show n ≠ w.heap.size; omega), Below.heap_setCell _ _ _ _ (by show n ≠ w.heap.size; omega)])).mono (by omega)
      · exact (((O1.out.trans ot2).new (p := ⟨w.heap.size, 0, none⟩) (Nat.le_refl _) _).new (p := ⟨w.heap.size, 1, none⟩) (Nat.le_refl _) _).new (p := ⟨w.heap.size, 2, none⟩) (Nat.le_refl _) _
  · subst hk
    have C2 : Hid _ := pick2 w1 r (m + 1) vars rd1 (by omega) (by omega) (by omega)
    go_wp2_with fail
    go_at_call 11; refine Calls.mono C2.out ?_
    rintro e w2 ⟨a, rfl, _, _, rd2, ot2⟩
    have Cq3' : Hid _ := pick2 w2 r (m + 2) vars rd2 (by omega) (by omega) (by omega)
    have Z2 := Z1.oth ot2 hne
    clear Z1 C2
    go_wp2_with fail
    go_at_call 11; refine Calls.mono Cq3'.out ?_
    rintro e w3 ⟨a', rfl, _, _, rd3, ot3⟩
    have Z3' := Z2.oth ot3 hne
    have Z3 := Z3'.put (.int .i64 3) (.int .i64 a) (.int .i64 a')
    obtain ⟨⟨x0, x1, x2⟩, y0, y1, y2⟩ := Z3'
    clear Z2 Cq3'
    go_wp2
    obtain ⟨⟨c0, c1, c2⟩, -⟩ := Z3
    refine bodyPost_ret (v := .agg #[.int .i64 3, .int .i64 a, .int .i64 a']) (by simp [results, Tryz.results55, go_sem, c0, c1, c2]) rfl ⟨3, a, a', rfl, ?_, ?_⟩
    · exact (rd3.same (fun n hn => by rw [Below.heap_setCell _ _ _ _ (by show n ≠ w.heap.size; omega), Below.heap_setCell _ _ _ _ (by show n ≠ w.heap.size; omega), Below.heap_setCell _ _ _ _ (by show n ≠ w.heap.size; omega)])).mono (by omega)
    · exact ((((O1.out.trans ot2).trans ot3).new (p := ⟨w.heap.size, 0, none⟩) (Nat.le_refl _) _).new (p := ⟨w.heap.size, 1, none⟩) (Nat.le_refl _) _).new (p := ⟨w.heap.size, 2, none⟩) (Nat.le_refl _) _
  · subst hk
    have C2 : Hid _ := pick2 w1 r (m + 1) vars rd1 (by omega) (by omega) (by omega)
    go_wp2_with fail
    go_at_call 11; refine Calls.mono C2.out ?_
    rintro e w2 ⟨a, rfl, _, _, rd2, ot2⟩
    have Cq3' : Hid _ := pick2 w2 r (m + 2) vars rd2 (by omega) (by omega) (by omega)
    have Z2 := Z1.oth ot2 hne
    clear Z1 C2
    go_wp2_with fail
    go_at_call 11; refine Calls.mono Cq3'.out ?_
    rintro e w3 ⟨a', rfl, _, _, rd3, ot3⟩
    have Z3' := Z2.oth ot3 hne
    have Z3 := Z3'.put (.int .i64 4) (.int .i64 a) (.int .i64 a')
    obtain ⟨⟨x0, x1, x2⟩, y0, y1, y2⟩ := Z3'
    clear Z2 Cq3'
    go_wp2
    obtain ⟨⟨c0, c1, c2⟩, -⟩ := Z3
    refine bodyPost_ret (v := .agg #[.int .i64 4, .int .i64 a, .int .i64 a']) (by simp [results, Tryz.results55, go_sem, c0, c1, c2]) rfl ⟨4, a, a', rfl, ?_, ?_⟩
    · exact (rd3.same (fun n hn => by rw [Below.heap_setCell _ _ _ _ (by show n ≠ w.heap.size; omega), Below.heap_setCell _ _ _ _ (by show n ≠ w.heap.size; omega), Below.heap_setCell _ _ _ _ (by show n ≠ w.heap.size; omega)])).mono (by omega)
    · exact ((((O1.out.trans ot2).trans ot3).new (p := ⟨w.heap.size, 0, none⟩) (Nat.le_refl _) _).new (p := ⟨w.heap.size, 1, none⟩) (Nat.le_refl _) _).new (p := ⟨w.heap.size, 2, none⟩) (Nat.le_refl _) _

end Go.Proofs.YthcgdhlemieboaaGreat

namespace Go.Proofs.YthcgdhlemieboaaGreat
open Go.RowKit
set_option linter.unusedSimpArgs false
set_option linter.unusedVariables false
attribute [local go_sem] World.cell?_alloc_some

theorem row_oth {w w' : World} {base r : Nat} {e : TypeId} {size : Nat} {v : Value} {n : Nat} {xs : List Value} (h : w.ownsRow base e size v n xs) (hb : Oth r w w') (hr : r < base) : w'.ownsRow base e size v n xs := by
  obtain ⟨h0, h1 | ⟨g, cap, cur, hv, hg, hh, q⟩⟩ := h
  · exact ⟨h0, .inl h1⟩
  · have hlt : g < w.heap.size := by
      rcases Nat.lt_or_ge g w.heap.size with h | h
      · exact h
      · rw [Array.getElem?_eq_none h] at hh; cases hh
    exact ⟨h0, .inr ⟨g, cap, cur, hv, hg, (hb.block g hlt (by omega)).trans hh, q⟩⟩
theorem C8.oth {w w' : World} {b r : Nat} {v0 v1 v2 v3 v4 v5 v6 v7 : Value} (h : C8 w b v0 v1 v2 v3 v4 v5 v6 v7) (k : Oth r w w') (hb : b ≠ r) : C8 w' b v0 v1 v2 v3 v4 v5 v6 v7 := by
  obtain ⟨⟨c0, c1, c2, c3, c4, c5, c6, c7⟩, f⟩ := h
  exact ⟨⟨k.cell hb c0, k.cell hb c1, k.cell hb c2, k.cell hb c3, k.cell hb c4, k.cell hb c5, k.cell hb c6, k.cell hb c7⟩,
    k.frozen hb c0 f.1, k.frozen hb c1 f.2.1, k.frozen hb c2 f.2.2.1, k.frozen hb c3 f.2.2.2.1, k.frozen hb c4 f.2.2.2.2.1, k.frozen hb c5 f.2.2.2.2.2.1, k.frozen hb c6 f.2.2.2.2.2.2.1, k.frozen hb c7 f.2.2.2.2.2.2.2⟩
theorem own_nil (w : World) : ∀ d : Nat, ∃ T : Tr d, Own w d (.slice none 0 0) T [] ∧ cnt d T = 0 ∧ ln d T = 0
  | 0 => ⟨(), ⟨⟨_, _, rfl⟩, rfl⟩, rfl, rfl⟩
  | d + 1 => ⟨([] : List (Pay × Tr d × Tr d)), .inl ⟨rfl, ⟨_, _, rfl, by unfold maxLen; omega⟩, rfl⟩, rfl, rfl⟩
def pk : Nat → Nat
  | 0 => 0
  | d + 1 => 1 + 4 * (6 + 2 * pk d)
def ck : Nat → Nat
  | 0 => 0
  | d + 1 => 4 * (1 + 2 * ck d)
def DrPost (d : Nat) (w : World) (r m c : Nat) (e : Ending) (w' : World) : Prop := ∃ (v' : Value) (T : Tr d) (bs : List Nat), e = .returned v' ∧ Rd2 w' r m ∧ Oth r w w' ∧ Own w' d v' T bs ∧ (∀ b ∈ bs, w.heap.size ≤ b ∧ b < w'.heap.size) ∧ bs.Nodup ∧ cnt d T ≤ c
def Dr (d : Nat) (w : World) (r m : Nat) (most deep vars : Int) : Prop :=
  Calls Tryz.prog 31 #[.pointer (some ⟨r, 0, none⟩), .int .i64 most, .int .i64 deep, .int .i64 vars] w (DrPost d w r (m + pk d) (ck d))

set_option maxHeartbeats 8000000 in
set_option maxRecDepth 20000 in
theorem l71Steps_of (d : Nat) (w : World) (r m : Nat) (most vars : Int) (h : Rd2 w r m) (hm : m ≤ 500000000) (hp : pk d ≤ 10000) (hc : ck d ≤ 10000) (n1 : 1 ≤ vars) (n2 : vars ≤ 100) (m1 : 1 ≤ most) (m2 : most ≤ 4) (hd : d ≤ 3)
    (ch : 1 ≤ d → ∀ wx mx, Rd2 wx r mx → mx ≤ m + 200000 → Dr d wx r mx 2 d vars) : Dr (d + 1) w r m most (d + 1) vars := by
  unfold Dr
  obtain ⟨i0, hi0, hz0, hz1, hz2⟩ := info_parts infoStep
  have hlt := h.lt
  have CH : Hid _ := ch
  have A : Below w.heap.size w (w.alloc (.cells #[] 66)) := (Below.refl _ _).alloc (Nat.le_refl _) _
  have C1 : Hid _ := pick2 _ r m (most + 1) (h.oth A) (by omega) (by omega) (by omega)
  have hw1 := w64 (most + 1) (by omega)
  obtain ⟨pp, hpp⟩ : ∃ x, x = pk d := ⟨_, rfl⟩
  obtain ⟨cc, hcc⟩ : ∃ x, x = ck d := ⟨_, rfl⟩
  have hpk : pk (d + 1) = 1 + 4 * (6 + 2 * pp) := by rw [hpp]; rfl
  have hck : ck (d + 1) = 4 * (1 + 2 * cc) := by rw [hcc]; rfl
  rw [hpk, hck]
  have HPP : Hid _ := hpp
  have HCC : Hid _ := hcc
  rw [← hpp] at hp
  rw [← hcc] at hc
  clear ch hpk hck hpp hcc
  go_enter Tryz.func31, Tryz.ntmps31
  go_wp2_with fail
  go_at_call 11; refine Calls.mono C1.out ?_
  rintro e w0 ⟨N, rfl, N0, N4, rd0, ot0⟩
  obtain ⟨n, rfl⟩ : ∃ n : Nat, N = n := ⟨N.toNat, by omega⟩
  have hn4 : n ≤ 4 := by omega
  have HO0 : Hid (Oth r w w0) := (Oth.of_below A).trans ot0
  have HW0 : Hid (w0.ownsRow w.heap.size 66 8 (.slice (some ⟨w.heap.size, 0, none⟩) 0 0) 0 []) := row_oth (World.ownsRow_made w #[] 0 (Nat.le_refl _) (by unfold maxLen; omega) (by simp)) ot0 hlt
  have HRD0 : Hid _ := rd0
  clear A C1 ot0 rd0 N0 N4
  go_wp2_with fail
  go_loopw [9, 10] (fun o j wr => ∃ (i : Nat) (l : List (Pay × Tr d × Tr d)) (parts : List (List Nat)) (ys : List Value), i ≤ n ∧ j = .int .i64 ((n : Int) - i) ∧ l.length = i ∧ Oth r w wr ∧ Rd2 wr r (m + 1 + i * (6 + 2 * pp)) ∧ wr.ownsRow w.heap.size 66 8 o i ys ∧ parts.length = i ∧ (∀ b ∈ parts.flatten, (w.heap.size ≤ b ∧ b < wr.heap.size) ∧ some b ≠ o.ownBlock) ∧ parts.flatten.Nodup ∧
      (∀ q (hq : q < l.length), q < i → ∃ t e b1 b2, parts[q]? = some (b1 ++ b2) ∧ (∀ j, j < 8 → ys[q * 8 + j]? = (cells8 l[q].1 t e)[j]?) ∧ Own wr d t l[q].2.1 b1 ∧ Own wr d e l[q].2.2 b2) ∧ cnt (d + 1) (l : List (Pay × Tr d × Tr d)) ≤ i * (1 + 2 * cc)) (fun _ j _ => (intOf j).toNat)
  case atStart => exact ⟨0, [], [], [], by omega, by simp, rfl, HO0.out, Rd2.mono HRD0.out (by omega), HW0.out, rfl, by simp, by simp, fun q h => by simp at h, by simp [cnt]⟩
  case round =>
    obtain ⟨i, l, parts, ys, hi, rfl, hll, hot, hrd, hor, hpl, hrg, hnd, hown, hcnt⟩ := hrel
    have hsz : w.heap.size ≤ wr.heap.size := hot.size
    by_cases hlt' : i < n
    · have hg0 : (0 : Int) < (n : Int) - i := by omega
      have hwd := w64 ((n : Int) - i - 1) (by omega)
      obtain ⟨ga, gc, rfl⟩ := row_slice hor
      have HOR : Hid (wr.ownsRow w.heap.size 66 8 (.slice ga i gc) i ys) := hor
      have HRG : Hid (∀ b ∈ parts.flatten, (w.heap.size ≤ b ∧ b < wr.heap.size) ∧ some b ≠ (Value.slice ga i gc).ownBlock) := hrg
      have HOW : Hid _ := hown
      have HOW0 : Hid (Oth r w wr) := hot
      have ib : i * (6 + 2 * pp) ≤ 100000 := Nat.le_trans (Nat.mul_le_mul (show i ≤ 4 by omega) (show 6 + 2 * pp ≤ 25000 by omega)) (by omega)
      have C1 : Hid _ := pick2 wr r _ vars hrd (by omega) n1 (by omega)
      clear hor hrg hown hot
      go_wp2_with fail
      go_at_call 11; refine Calls.mono C1.out ?_
      rintro e w1 ⟨v, rfl, _, _, rd1, ot1⟩
      have s1 : wr.heap.size ≤ w1.heap.size := ot1.size
      have X1 := C8.new w1 (.int .i64 1) (.int .i64 v) (.int .i64 0) (.int .i64 0) (.int .i64 0) (.int .i64 0) (.slice none 0 0) (.slice none 0 0) 66
      have A1 : Below w1.heap.size w1 (w1.alloc (.cells #[.int .i64 1, .int .i64 v, .int .i64 0, .int .i64 0, .int .i64 0, .int .i64 0, .slice none 0 0, .slice none 0 0] 66)) := (Below.refl _ _).alloc (Nat.le_refl _) _
      have C2 : Hid _ := pick2 _ r _ 5 (rd1.oth A1) (by omega) (by omega) (by omega)
      have HX1 : Hid _ := X1
      have HO1' : Hid (Oth r wr (w1.alloc (.cells #[.int .i64 1, .int .i64 v, .int .i64 0, .int .i64 0, .int .i64 0, .int .i64 0, .slice none 0 0, .slice none 0 0] 66))) := ot1.trans (Oth.of_below A1)
      clear C1 X1 A1 ot1 rd1
      go_wp2_with fail
      go_at_call 11; refine Calls.mono C2.out ?_
      rintro e w2 ⟨kk, rfl, kk0, kk5, rd2, ot2⟩
      have X2 : C8 w2 w1.heap.size (.int .i64 1) (.int .i64 v) (.int .i64 0) (.int .i64 0) (.int .i64 0) (.int .i64 0) (.slice none 0 0) (.slice none 0 0) := C8.oth HX1.out ot2 (by omega)
      have O2 : Oth r wr w2 := HO1'.out.trans ot2
      replace rd2 : Rd2 w2 r (m + 1 + i * (6 + 2 * pp) + 2) := rd2
      have s2 : w1.heap.size < w2.heap.size := World.block_lt_of_cell? w2 _ X2.1.1
      clear C2 HX1 HO1' ot2
      have hk : kk = 0 ∨ ((kk = 1 ∨ kk = 2) ∧ 1 ≤ d) ∨ (((kk = 1 ∨ kk = 2) ∧ d = 0) ∨ kk = 3 ∨ kk = 4) := by omega
      clear kk0 kk5
      rcases hk with rfl | ⟨hk, hd1⟩ | hk
      · have X2' : C8 (w2.setCell ⟨w1.heap.size, 0, none⟩ (.int .i64 3)) w1.heap.size (.int .i64 3) (.int .i64 v) (.int .i64 0) (.int .i64 0) (.int .i64 0) (.int .i64 0) (.slice none 0 0) (.slice none 0 0) := X2.set0 _
        have O2' : Oth r wr (w2.setCell ⟨w1.heap.size, 0, none⟩ (.int .i64 3)) := O2.new (p := ⟨w1.heap.size, 0, none⟩) (by show wr.heap.size ≤ w1.heap.size; omega) _
        have rd2' : Rd2 (w2.setCell ⟨w1.heap.size, 0, none⟩ (.int .i64 3)) r (m + 1 + i * (6 + 2 * pp) + 2) := rd2.same (fun n hn => Below.heap_setCell _ _ _ _ (by show n ≠ w1.heap.size; omega))
        have Cq3 : Hid _ := pick2 _ r _ 3 rd2' (by omega) (by omega) (by omega)
        obtain ⟨⟨x0, x1, x2, x3, x4, x5, x6, x7⟩, y0, y1, y2, y3, y4, y5, y6, y7⟩ := X2
        go_wp2_with fail
        go_at_call 11; refine Calls.mono Cq3.out ?_
        generalize w2.setCell ⟨w1.heap.size, 0, none⟩ (.int .i64 3) = w2' at *
        rintro e w3 ⟨hh, rfl, _, _, rd3, ot3⟩
        have X3 := X2'.oth ot3 (by omega)
        have XF : C8 (w3.setCell ⟨w1.heap.size, 5, none⟩ (.int .i64 hh)) w1.heap.size (.int .i64 3) (.int .i64 v) (.int .i64 0) (.int .i64 0) (.int .i64 0) (.int .i64 hh) (.slice none 0 0) (.slice none 0 0) := X3.set5 _
        have OF : Oth r wr (w3.setCell ⟨w1.heap.size, 5, none⟩ (.int .i64 hh)) := (O2'.trans ot3).new (p := ⟨w1.heap.size, 5, none⟩) (by show wr.heap.size ≤ w1.heap.size; omega) _
        have RF : Rd2 (w3.setCell ⟨w1.heap.size, 5, none⟩ (.int .i64 hh)) r (m + 1 + (i + 1) * (6 + 2 * pp)) := (rd3.same (fun n hn => Below.heap_setCell _ _ _ _ (by show n ≠ w1.heap.size; omega))).mono (by rw [Nat.add_mul]; omega)
        clear x0 x1 x2 x3 x4 x5 x6 x7 y0 y1 y2 y3 y4 y5 y6 y7 Cq3 rd2' O2' X2' ot3 rd3
        obtain ⟨⟨a0, a1, a2, a3, a4, a5, a6, a7⟩, e0, e1, e2, e3, e4, e5, e6, e7⟩ := X3
        obtain ⟨T0, on0, cn0, ln0⟩ := own_nil (w3.setCell ⟨w1.heap.size, 5, none⟩ (.int .i64 hh)) d
        obtain ⟨T1, hT1⟩ : ∃ T : Tr d, T = T0 := ⟨_, rfl⟩
        obtain ⟨T2, hT2⟩ : ∃ T : Tr d, T = T0 := ⟨_, rfl⟩
        obtain ⟨b1, hb1⟩ : ∃ b : List Nat, b = [] := ⟨_, rfl⟩
        obtain ⟨b2, hb2⟩ : ∃ b : List Nat, b = [] := ⟨_, rfl⟩
        have o1 : Own (w3.setCell ⟨w1.heap.size, 5, none⟩ (.int .i64 hh)) d (.slice none 0 0) T1 b1 := by rw [hT1, hb1]; exact on0
        have o2 : Own (w3.setCell ⟨w1.heap.size, 5, none⟩ (.int .i64 hh)) d (.slice none 0 0) T2 b2 := by rw [hT2, hb2]; exact on0
        have r12 : ∀ b ∈ b1 ++ b2, w1.heap.size < b ∧ b < (w3.setCell ⟨w1.heap.size, 5, none⟩ (.int .i64 hh)).heap.size := by rw [hb1, hb2]; simp
        have n12 : (b1 ++ b2).Nodup := by rw [hb1, hb2]; simp
        have cT1 : cnt d T1 ≤ cc := by rw [hT1, cn0]; omega
        have cT2 : cnt d T2 ≤ cc := by rw [hT2, cn0]; omega
        clear on0 hT1 hT2 hb1 hb2
        have s1f : w1.heap.size < (w3.setCell ⟨w1.heap.size, 5, none⟩ (.int .i64 hh)).heap.size := World.block_lt_of_cell? (w3.setCell ⟨w1.heap.size, 5, none⟩ (.int .i64 hh)) _ XF.1.1
        have srf : wr.heap.size ≤ (w3.setCell ⟨w1.heap.size, 5, none⟩ (.int .i64 hh)).heap.size := OF.size
        have swe : (w3.setCell ⟨w1.heap.size, 5, none⟩ (.int .i64 hh)).heap.size = w3.heap.size := by simp [World.setCell]
        have OR4 : (w3.setCell ⟨w1.heap.size, 5, none⟩ (.int .i64 hh)).ownsRow w.heap.size 66 8 (.slice ga i gc) i ys := row_oth HOR.out OF (by omega)
        have HOF : Hid (Oth r wr (w3.setCell ⟨w1.heap.size, 5, none⟩ (.int .i64 hh))) := OF
        have HRF : Hid _ := RF
        have HO1 : Hid _ := o1
        have HO2 : Hid _ := o2
        have HR12 : Hid _ := r12
        have HN12 : Hid _ := n12
        obtain ⟨⟨x0, x1, x2, x3, x4, x5, x6, x7⟩, y0, y1, y2, y3, y4, y5, y6, y7⟩ := XF
        clear OF RF o1 o2 r12 n12
        go_wp2_with (at_builtin; refine wpList_append_own_at _ rfl _ _ 24 rfl w.heap.size 66 i0 _ 8 96 Tryz.underlying24 hi0 hz0 hz1 hz2 rfl (by decide) _ _ _ rfl (OR4.alloc _) ⟨w3.heap.size, 0, none⟩ 1 1 (cells8 (⟨3, v, 0, 0, 0, hh⟩ : Pay) (.slice none 0 0) (.slice none 0 0)) rfl rfl ?c1 ?c2 ?c3 ?c4 ?c5 ?_)
        case c1 => (have := cells8_new (w3.setCell ⟨w1.heap.size, 5, none⟩ (.int .i64 hh)) (⟨3, v, 0, 0, 0, hh⟩ : Pay) (.slice none 0 0) (.slice none 0 0) 66; rw [show (w3.setCell ⟨w1.heap.size, 5, none⟩ (.int .i64 hh)).heap.size = w3.heap.size by simp [World.setCell]] at this; exact this)
        case c2 => exact cells8_one _ _ _ _ _ _ _
        case c3 => unfold maxLen; omega
        case c4 => omega
        case c5 => simp; omega
        intro v5 w5 hown5 hgrow5 _ hat5
        have sM : ((w3.setCell ⟨w1.heap.size, 5, none⟩ (.int .i64 hh)).alloc (.cells #[.int .i64 3, .int .i64 v, .int .i64 0, .int .i64 0, .int .i64 0, .int .i64 hh, .slice none 0 0, .slice none 0 0] 66)).heap.size = (w3.setCell ⟨w1.heap.size, 5, none⟩ (.int .i64 hh)).heap.size + 1 := by simp
        have s5 : (w3.setCell ⟨w1.heap.size, 5, none⟩ (.int .i64 hh)).heap.size + 1 ≤ w5.heap.size := by have := hgrow5.size; rw [sM] at this; exact this
        have hgb : ∀ k, (Value.slice ga i gc).ownBlock = some k → w.heap.size ≤ k ∧ k < wr.heap.size := fun k hk => World.ownsRow.lt HOR.out k hk
        have hsame : ∀ b, b < (w3.setCell ⟨w1.heap.size, 5, none⟩ (.int .i64 hh)).heap.size → some b ≠ (Value.slice ga i gc).ownBlock → w5.heap[b]? = (w3.setCell ⟨w1.heap.size, 5, none⟩ (.int .i64 hh)).heap[b]? := fun b h1 h2 => (hgrow5.block b (by rw [sM]; omega) h2).trans (Below.heap_alloc _ _ _ h1)
        have hobk : ∀ b, b < (w3.setCell ⟨w1.heap.size, 5, none⟩ (.int .i64 hh)).heap.size → some b ≠ (Value.slice ga i gc).ownBlock → some b ≠ v5.ownBlock := fun b h1 h2 e => by
          rcases hat5 with h | h
          · exact h2 (e.trans h)
          · rw [h] at e
            have e' := Option.some.inj e
            try simp at e'
            omega
        have O5 : Oth r w w5 := ⟨hgrow5.os.trans (HOF.out.os.trans HOW0.out.os), hgrow5.tape.trans (HOF.out.tape.trans HOW0.out.tape), hgrow5.output.trans (HOF.out.output.trans HOW0.out.output), by omega, fun k hk hr => (hsame k (by omega) (fun e => by have := hgb k e.symm; omega)).trans ((HOF.out.block k (by omega) hr).trans (HOW0.out.block k hk hr))⟩
        have R5 : Rd2 w5 r (m + 1 + (i + 1) * (6 + 2 * pp)) := Rd2.same HRF.out (fun n hn => hsame n (by omega) (fun e => by have := hgb n e.symm; omega))
        have ylen : ys.length = i * 8 := HOR.out.1
        have hrg : ∀ b ∈ parts.flatten, (w.heap.size ≤ b ∧ b < wr.heap.size) ∧ some b ≠ (Value.slice ga i gc).ownBlock := HRG.out
        have r12 : ∀ b ∈ b1 ++ b2, w1.heap.size < b ∧ b < (w3.setCell ⟨w1.heap.size, 5, none⟩ (.int .i64 hh)).heap.size := HR12.out
        have H5 : Hid (w5.ownsRow w.heap.size 66 8 v5 (i + 1) (ys ++ cells8 (⟨3, v, 0, 0, 0, hh⟩ : Pay) (.slice none 0 0) (.slice none 0 0))) := hown5
        clear hgrow5 hown5 hat5 OR4 x0 x1 x2 x3 x4 x5 x6 x7 y0 y1 y2 y3 y4 y5 y6 y7
        go_wp2
        refine ⟨⟨i + 1, l ++ [((⟨3, v, 0, 0, 0, hh⟩ : Pay), T1, T2)], parts ++ [b1 ++ b2], ys ++ cells8 (⟨3, v, 0, 0, 0, hh⟩ : Pay) (.slice none 0 0) (.slice none 0 0), by omega, ?nn, by simp [hll], O5, R5, H5.out, by simp [hpl], ?rg, ?nd, ?rows, ?cn⟩, ?ms⟩
        case nn => (simp; try omega)
        case rg =>
          intro b hb
          rw [List.flatten_append] at hb
          rcases List.mem_append.1 hb with hb | hb
          · have := hrg b hb
            exact ⟨⟨this.1.1, by omega⟩, hobk b (by omega) this.2⟩
          · have hb' := r12 b (by simpa using hb)
            exact ⟨⟨by omega, by omega⟩, hobk b (by omega) (fun e => by have := hgb b e.symm; omega)⟩
        case nd =>
          rw [List.flatten_append]
          refine List.nodup_append.2 ⟨hnd, by simp only [List.flatten_cons, List.flatten_nil, List.append_nil]; exact HN12.out, ?_⟩
          intro a ha b hb
          have h1 := hrg a ha
          have h2 := r12 b (by simpa using hb)
          omega
        case rows =>
          intro q hq hqi
          by_cases hqe : q = i
          · subst hqe
            have hlq : (l ++ [((⟨3, v, 0, 0, 0, hh⟩ : Pay), T1, T2)])[q] = ((⟨3, v, 0, 0, 0, hh⟩ : Pay), T1, T2) := by
              rw [List.getElem_append_right (by omega)]; simp
            rw [hlq]
            refine ⟨(.slice none 0 0), (.slice none 0 0), b1, b2, by rw [List.getElem?_append_right (by omega), hpl]; simp, ?_, ?_, ?_⟩
            · intro j hj
              rw [List.getElem?_append_right (by omega), ylen, show q * 8 + j - q * 8 = j by omega]
            · exact Own.frame (fun b hb => by have := r12 b (List.mem_append_left _ hb); exact hsame b this.2 (fun e => by have := hgb b e.symm; omega)) HO1.out
            · exact Own.frame (fun b hb => by have := r12 b (List.mem_append_right _ hb); exact hsame b this.2 (fun e => by have := hgb b e.symm; omega)) HO2.out
          · have hqi' : q < l.length := by omega
            obtain ⟨t, e, c1, c2, hp1, hra, oo1, oo2⟩ := HOW.out q hqi' (by omega)
            have hlq : (l ++ [((⟨3, v, 0, 0, 0, hh⟩ : Pay), T1, T2)])[q] = l[q] := List.getElem_append_left hqi'
            rw [hlq]
            have hm : ∀ b ∈ c1 ++ c2, b ∈ parts.flatten := fun b hbm => List.mem_flatten.2 ⟨_, List.mem_of_getElem? hp1, hbm⟩
            have hbk : ∀ b ∈ c1 ++ c2, w5.heap[b]? = wr.heap[b]? := fun b hb => by
              have := hrg b (hm b hb)
              exact (hsame b (by omega) this.2).trans (HOF.out.block b this.1.2 (by omega))
            refine ⟨t, e, c1, c2, by rw [List.getElem?_append_left (by omega)]; exact hp1, ?_, Own.frame (fun b hb => hbk b (List.mem_append_left _ hb)) oo1, Own.frame (fun b hb => hbk b (List.mem_append_right _ hb)) oo2⟩
            intro j hj
            rw [List.getElem?_append_left (by rw [ylen]; omega)]; exact hra j hj
        case cn =>
          have : cnt (d + 1) (l ++ [((⟨3, v, 0, 0, 0, hh⟩ : Pay), T1, T2)] : List (Pay × Tr d × Tr d)) = cnt (d + 1) (l : List (Pay × Tr d × Tr d)) + (1 + cnt d T1 + cnt d T2) := by
            show ((l ++ [((⟨3, v, 0, 0, 0, hh⟩ : Pay), T1, T2)]).map _).sum = (l.map _).sum + _
            simp
          rw [this, Nat.add_mul]
          omega
        case ms => (simp [intOf]; omega)
      · have hgt : (1 : Int) < (d : Int) + 1 := by omega
        have hwd1 := w64 ((d : Int) + 1 - 1) (by omega)
        have hdd : (d : Int) + 1 - 1 = d := by omega
        have X2' : C8 (w2.setCell ⟨w1.heap.size, 0, none⟩ (.int .i64 2)) w1.heap.size (.int .i64 2) (.int .i64 v) (.int .i64 0) (.int .i64 0) (.int .i64 0) (.int .i64 0) (.slice none 0 0) (.slice none 0 0) := X2.set0 _
        have O2' : Oth r wr (w2.setCell ⟨w1.heap.size, 0, none⟩ (.int .i64 2)) := O2.new (p := ⟨w1.heap.size, 0, none⟩) (by show wr.heap.size ≤ w1.heap.size; omega) _
        have rd2' : Rd2 (w2.setCell ⟨w1.heap.size, 0, none⟩ (.int .i64 2)) r (m + 1 + i * (6 + 2 * pp) + 2) := rd2.same (fun n hn => Below.heap_setCell _ _ _ _ (by show n ≠ w1.heap.size; omega))
        have Cq3 : Hid (Calls Tryz.prog 31 #[.pointer (some ⟨r, 0, none⟩), .int .i64 2, .int .i64 d, .int .i64 vars] (w2.setCell ⟨w1.heap.size, 0, none⟩ (.int .i64 2)) (DrPost d (w2.setCell ⟨w1.heap.size, 0, none⟩ (.int .i64 2)) r (m + 1 + i * (6 + 2 * pp) + 2 + pk d) (ck d))) := CH.out hd1 _ _ rd2' (by omega)
        obtain ⟨⟨x0, x1, x2, x3, x4, x5, x6, x7⟩, y0, y1, y2, y3, y4, y5, y6, y7⟩ := X2
        rcases hk with rfl | rfl
        all_goals
          go_wp2_with fail
          go_at_call 31; refine Calls.mono Cq3.out ?_
          have z2 : (w2.setCell ⟨w1.heap.size, 0, none⟩ (.int .i64 2)).heap.size = w2.heap.size := by simp [World.setCell]
          generalize (w2.setCell ⟨w1.heap.size, 0, none⟩ (.int .i64 2)) = w2' at *
          rintro e w3 ⟨t', T1, b1, rfl, rd3, ot3, o1, r1, n1', cT1⟩
          obtain ⟨ta, tc, rfl⟩ := o1.slice
          have X3 := X2'.oth ot3 (by omega)
          have s3 : w2'.heap.size ≤ w3.heap.size := ot3.size
          have X3' : C8 (w3.setCell ⟨w1.heap.size, 6, none⟩ (.slice ta (ln d T1) tc)) w1.heap.size (.int .i64 2) (.int .i64 v) (.int .i64 0) (.int .i64 0) (.int .i64 0) (.int .i64 0) (.slice ta (ln d T1) tc) (.slice none 0 0) := X3.set6 _
          have O3' : Oth r wr (w3.setCell ⟨w1.heap.size, 6, none⟩ (.slice ta (ln d T1) tc)) := (O2'.trans ot3).new (p := ⟨w1.heap.size, 6, none⟩) (by show wr.heap.size ≤ w1.heap.size; omega) _
          have rd3' : Rd2 (w3.setCell ⟨w1.heap.size, 6, none⟩ (.slice ta (ln d T1) tc)) r (m + 1 + i * (6 + 2 * pp) + 2 + pk d) := rd3.same (fun n hn => Below.heap_setCell _ _ _ _ (by show n ≠ w1.heap.size; omega))
          have o1' : Own (w3.setCell ⟨w1.heap.size, 6, none⟩ (.slice ta (ln d T1) tc)) d (.slice ta (ln d T1) tc) T1 b1 := o1.set (a := ⟨w1.heap.size, 6, none⟩) (fun b hb => by have := r1 b hb; show b ≠ w1.heap.size; omega) _
          have hpd : pk d ≤ 10000 := by rw [← HPP.out]; exact hp
          have C4 : Hid (Calls Tryz.prog 31 #[.pointer (some ⟨r, 0, none⟩), .int .i64 2, .int .i64 d, .int .i64 vars] (w3.setCell ⟨w1.heap.size, 6, none⟩ (.slice ta (ln d T1) tc)) (DrPost d (w3.setCell ⟨w1.heap.size, 6, none⟩ (.slice ta (ln d T1) tc)) r (m + 1 + i * (6 + 2 * pp) + 2 + pk d + pk d) (ck d))) := CH.out hd1 _ _ rd3' (by omega)
          have z3 : (w3.setCell ⟨w1.heap.size, 6, none⟩ (.slice ta (ln d T1) tc)).heap.size = w3.heap.size := by simp [World.setCell]
          clear x0 x1 x2 x3 x4 x5 x6 x7 y0 y1 y2 y3 y4 y5 y6 y7 Cq3 rd2' O2' X2' ot3 rd3 o1
          obtain ⟨⟨x0, x1, x2, x3, x4, x5, x6, x7⟩, y0, y1, y2, y3, y4, y5, y6, y7⟩ := X3
          go_wp2_with fail
          go_at_call 31; refine Calls.mono C4.out ?_
          generalize (w3.setCell ⟨w1.heap.size, 6, none⟩ (.slice ta (ln d T1) tc)) = w3' at *
          rintro e w4 ⟨e', T2, b2, rfl, rd4, ot4, o2, r2, n2', cT2⟩
          obtain ⟨ea, ec, rfl⟩ := o2.slice
          have s4 : w3'.heap.size ≤ w4.heap.size := ot4.size
          have X4 := X3'.oth ot4 (by omega)
          have XF : C8 (w4.setCell ⟨w1.heap.size, 7, none⟩ (.slice ea (ln d T2) ec)) w1.heap.size (.int .i64 2) (.int .i64 v) (.int .i64 0) (.int .i64 0) (.int .i64 0) (.int .i64 0) (.slice ta (ln d T1) tc) (.slice ea (ln d T2) ec) := X4.set7 _
          have OF : Oth r wr (w4.setCell ⟨w1.heap.size, 7, none⟩ (.slice ea (ln d T2) ec)) := (O3'.trans ot4).new (p := ⟨w1.heap.size, 7, none⟩) (by show wr.heap.size ≤ w1.heap.size; omega) _
          have hpp := HPP.out
          have RF : Rd2 (w4.setCell ⟨w1.heap.size, 7, none⟩ (.slice ea (ln d T2) ec)) r (m + 1 + (i + 1) * (6 + 2 * pp)) := (rd4.same (fun n hn => Below.heap_setCell _ _ _ _ (by show n ≠ w1.heap.size; omega))).mono (by rw [Nat.add_mul]; omega)
          have o1f : Own (w4.setCell ⟨w1.heap.size, 7, none⟩ (.slice ea (ln d T2) ec)) d (.slice ta (ln d T1) tc) T1 b1 := (o1'.frame (fun b hb => ot4.block b (by have := r1 b hb; omega) (by have := r1 b hb; omega))).set (a := ⟨w1.heap.size, 7, none⟩) (fun b hb => by have := r1 b hb; show b ≠ w1.heap.size; omega) _
          have o2f : Own (w4.setCell ⟨w1.heap.size, 7, none⟩ (.slice ea (ln d T2) ec)) d (.slice ea (ln d T2) ec) T2 b2 := o2.set (a := ⟨w1.heap.size, 7, none⟩) (fun b hb => by have := r2 b hb; show b ≠ w1.heap.size; omega) _
          have z4 : (w4.setCell ⟨w1.heap.size, 7, none⟩ (.slice ea (ln d T2) ec)).heap.size = w4.heap.size := by simp [World.setCell]
          have r12 : ∀ b ∈ b1 ++ b2, w1.heap.size < b ∧ b < (w4.setCell ⟨w1.heap.size, 7, none⟩ (.slice ea (ln d T2) ec)).heap.size := fun b hb => by
            rcases List.mem_append.1 hb with hb | hb
            · have := r1 b hb; omega
            · have := r2 b hb; omega
          have n12 : (b1 ++ b2).Nodup := List.nodup_append.2 ⟨n1', n2', fun a ha b hb => by have := r1 a ha; have := r2 b hb; omega⟩
          have hcc := HCC.out
          have cT1' : cnt d T1 ≤ cc := by rw [hcc]; exact cT1
          have cT2' : cnt d T2 ≤ cc := by rw [hcc]; exact cT2
          clear x0 x1 x2 x3 x4 x5 x6 x7 y0 y1 y2 y3 y4 y5 y6 y7 C4 rd3' O3' X3' ot4 rd4 o2 o1' hpp hcc
          have o1 := o1f
          have o2 := o2f
          clear o1f o2f
          obtain ⟨⟨a0, a1, a2, a3, a4, a5, a6, a7⟩, e0, e1, e2, e3, e4, e5, e6, e7⟩ := X4
          have s1f : w1.heap.size < (w4.setCell ⟨w1.heap.size, 7, none⟩ (.slice ea (ln d T2) ec)).heap.size := World.block_lt_of_cell? (w4.setCell ⟨w1.heap.size, 7, none⟩ (.slice ea (ln d T2) ec)) _ XF.1.1
          have srf : wr.heap.size ≤ (w4.setCell ⟨w1.heap.size, 7, none⟩ (.slice ea (ln d T2) ec)).heap.size := OF.size
          have swe : (w4.setCell ⟨w1.heap.size, 7, none⟩ (.slice ea (ln d T2) ec)).heap.size = w4.heap.size := by simp [World.setCell]
          have OR4 : (w4.setCell ⟨w1.heap.size, 7, none⟩ (.slice ea (ln d T2) ec)).ownsRow w.heap.size 66 8 (.slice ga i gc) i ys := row_oth HOR.out OF (by omega)
          have HOF : Hid (Oth r wr (w4.setCell ⟨w1.heap.size, 7, none⟩ (.slice ea (ln d T2) ec))) := OF
          have HRF : Hid _ := RF
          have HO1 : Hid _ := o1
          have HO2 : Hid _ := o2
          have HR12 : Hid _ := r12
          have HN12 : Hid _ := n12
          obtain ⟨⟨x0, x1, x2, x3, x4, x5, x6, x7⟩, y0, y1, y2, y3, y4, y5, y6, y7⟩ := XF
          clear OF RF o1 o2 r12 n12
          go_wp2_with (at_builtin; refine wpList_append_own_at _ rfl _ _ 24 rfl w.heap.size 66 i0 _ 8 96 Tryz.underlying24 hi0 hz0 hz1 hz2 rfl (by decide) _ _ _ rfl (OR4.alloc _) ⟨w4.heap.size, 0, none⟩ 1 1 (cells8 (⟨2, v, 0, 0, 0, 0⟩ : Pay) (.slice ta (ln d T1) tc) (.slice ea (ln d T2) ec)) rfl rfl ?c1 ?c2 ?c3 ?c4 ?c5 ?_)
          case c1 => (have := cells8_new (w4.setCell ⟨w1.heap.size, 7, none⟩ (.slice ea (ln d T2) ec)) (⟨2, v, 0, 0, 0, 0⟩ : Pay) (.slice ta (ln d T1) tc) (.slice ea (ln d T2) ec) 66; rw [show (w4.setCell ⟨w1.heap.size, 7, none⟩ (.slice ea (ln d T2) ec)).heap.size = w4.heap.size by simp [World.setCell]] at this; exact this)
          case c2 => exact cells8_one _ _ _ _ _ _ _
          case c3 => unfold maxLen; omega
          case c4 => omega
          case c5 => simp; omega
          intro v5 w5 hown5 hgrow5 _ hat5
          have sM : ((w4.setCell ⟨w1.heap.size, 7, none⟩ (.slice ea (ln d T2) ec)).alloc (.cells #[.int .i64 2, .int .i64 v, .int .i64 0, .int .i64 0, .int .i64 0, .int .i64 0, .slice ta (ln d T1) tc, .slice ea (ln d T2) ec] 66)).heap.size = (w4.setCell ⟨w1.heap.size, 7, none⟩ (.slice ea (ln d T2) ec)).heap.size + 1 := by simp
          have s5 : (w4.setCell ⟨w1.heap.size, 7, none⟩ (.slice ea (ln d T2) ec)).heap.size + 1 ≤ w5.heap.size := by have := hgrow5.size; rw [sM] at this; exact this
          have hgb : ∀ k, (Value.slice ga i gc).ownBlock = some k → w.heap.size ≤ k ∧ k < wr.heap.size := fun k hk => World.ownsRow.lt HOR.out k hk
          have hsame : ∀ b, b < (w4.setCell ⟨w1.heap.size, 7, none⟩ (.slice ea (ln d T2) ec)).heap.size → some b ≠ (Value.slice ga i gc).ownBlock → w5.heap[b]? = (w4.setCell ⟨w1.heap.size, 7, none⟩ (.slice ea (ln d T2) ec)).heap[b]? := fun b h1 h2 => (hgrow5.block b (by rw [sM]; omega) h2).trans (Below.heap_alloc _ _ _ h1)
          have hobk : ∀ b, b < (w4.setCell ⟨w1.heap.size, 7, none⟩ (.slice ea (ln d T2) ec)).heap.size → some b ≠ (Value.slice ga i gc).ownBlock → some b ≠ v5.ownBlock := fun b h1 h2 e => by
            rcases hat5 with h | h
            · exact h2 (e.trans h)
            · rw [h] at e
              have e' := Option.some.inj e
              try simp at e'
              omega
          have O5 : Oth r w w5 := ⟨hgrow5.os.trans (HOF.out.os.trans HOW0.out.os), hgrow5.tape.trans (HOF.out.tape.trans HOW0.out.tape), hgrow5.output.trans (HOF.out.output.trans HOW0.out.output), by omega, fun k hk hr => (hsame k (by omega) (fun e => by have := hgb k e.symm; omega)).trans ((HOF.out.block k (by omega) hr).trans (HOW0.out.block k hk hr))⟩
          have R5 : Rd2 w5 r (m + 1 + (i + 1) * (6 + 2 * pp)) := Rd2.same HRF.out (fun n hn => hsame n (by omega) (fun e => by have := hgb n e.symm; omega))
          have ylen : ys.length = i * 8 := HOR.out.1
          have hrg : ∀ b ∈ parts.flatten, (w.heap.size ≤ b ∧ b < wr.heap.size) ∧ some b ≠ (Value.slice ga i gc).ownBlock := HRG.out
          have r12 : ∀ b ∈ b1 ++ b2, w1.heap.size < b ∧ b < (w4.setCell ⟨w1.heap.size, 7, none⟩ (.slice ea (ln d T2) ec)).heap.size := HR12.out
          have H5 : Hid (w5.ownsRow w.heap.size 66 8 v5 (i + 1) (ys ++ cells8 (⟨2, v, 0, 0, 0, 0⟩ : Pay) (.slice ta (ln d T1) tc) (.slice ea (ln d T2) ec))) := hown5
          clear hgrow5 hown5 hat5 OR4 x0 x1 x2 x3 x4 x5 x6 x7 y0 y1 y2 y3 y4 y5 y6 y7
          go_wp2
          refine ⟨⟨i + 1, l ++ [((⟨2, v, 0, 0, 0, 0⟩ : Pay), T1, T2)], parts ++ [b1 ++ b2], ys ++ cells8 (⟨2, v, 0, 0, 0, 0⟩ : Pay) (.slice ta (ln d T1) tc) (.slice ea (ln d T2) ec), by omega, ?nn, by simp [hll], O5, R5, H5.out, by simp [hpl], ?rg, ?nd, ?rows, ?cn⟩, ?ms⟩
          case nn => (simp; try omega)
          case rg =>
            intro b hb
            rw [List.flatten_append] at hb
            rcases List.mem_append.1 hb with hb | hb
            · have := hrg b hb
              exact ⟨⟨this.1.1, by omega⟩, hobk b (by omega) this.2⟩
            · have hb' := r12 b (by simpa using hb)
              exact ⟨⟨by omega, by omega⟩, hobk b (by omega) (fun e => by have := hgb b e.symm; omega)⟩
          case nd =>
            rw [List.flatten_append]
            refine List.nodup_append.2 ⟨hnd, by simp only [List.flatten_cons, List.flatten_nil, List.append_nil]; exact HN12.out, ?_⟩
            intro a ha b hb
            have h1 := hrg a ha
            have h2 := r12 b (by simpa using hb)
            omega
          case rows =>
            intro q hq hqi
            by_cases hqe : q = i
            · subst hqe
              have hlq : (l ++ [((⟨2, v, 0, 0, 0, 0⟩ : Pay), T1, T2)])[q] = ((⟨2, v, 0, 0, 0, 0⟩ : Pay), T1, T2) := by
                rw [List.getElem_append_right (by omega)]; simp
              rw [hlq]
              refine ⟨(.slice ta (ln d T1) tc), (.slice ea (ln d T2) ec), b1, b2, by rw [List.getElem?_append_right (by omega), hpl]; simp, ?_, ?_, ?_⟩
              · intro j hj
                rw [List.getElem?_append_right (by omega), ylen, show q * 8 + j - q * 8 = j by omega]
              · exact Own.frame (fun b hb => by have := r12 b (List.mem_append_left _ hb); exact hsame b this.2 (fun e => by have := hgb b e.symm; omega)) HO1.out
              · exact Own.frame (fun b hb => by have := r12 b (List.mem_append_right _ hb); exact hsame b this.2 (fun e => by have := hgb b e.symm; omega)) HO2.out
            · have hqi' : q < l.length := by omega
              obtain ⟨t, e, c1, c2, hp1, hra, oo1, oo2⟩ := HOW.out q hqi' (by omega)
              have hlq : (l ++ [((⟨2, v, 0, 0, 0, 0⟩ : Pay), T1, T2)])[q] = l[q] := List.getElem_append_left hqi'
              rw [hlq]
              have hm : ∀ b ∈ c1 ++ c2, b ∈ parts.flatten := fun b hbm => List.mem_flatten.2 ⟨_, List.mem_of_getElem? hp1, hbm⟩
              have hbk : ∀ b ∈ c1 ++ c2, w5.heap[b]? = wr.heap[b]? := fun b hb => by
                have := hrg b (hm b hb)
                exact (hsame b (by omega) this.2).trans (HOF.out.block b this.1.2 (by omega))
              refine ⟨t, e, c1, c2, by rw [List.getElem?_append_left (by omega)]; exact hp1, ?_, Own.frame (fun b hb => hbk b (List.mem_append_left _ hb)) oo1, Own.frame (fun b hb => hbk b (List.mem_append_right _ hb)) oo2⟩
              intro j hj
              rw [List.getElem?_append_left (by rw [ylen]; omega)]; exact hra j hj
          case cn =>
            have : cnt (d + 1) (l ++ [((⟨2, v, 0, 0, 0, 0⟩ : Pay), T1, T2)] : List (Pay × Tr d × Tr d)) = cnt (d + 1) (l : List (Pay × Tr d × Tr d)) + (1 + cnt d T1 + cnt d T2) := by
              show ((l ++ [((⟨2, v, 0, 0, 0, 0⟩ : Pay), T1, T2)]).map _).sum = (l.map _).sum + _
              simp
            rw [this, Nat.add_mul]
            omega
          case ms => (simp [intOf]; omega)
      · rcases hk with ⟨rfl | rfl, hd0⟩ | rfl | rfl
        all_goals
          try (have hgt : ¬ (1 : Int) < (d : Int) + 1 := by omega)
          try clear hd0
          have Cq3' : Hid _ := l71Val_any w2 r _ vars rd2 (by omega) n1 n2
          have HX2 : Hid (C8 w2 w1.heap.size (.int .i64 1) (.int .i64 v) (.int .i64 0) (.int .i64 0) (.int .i64 0) (.int .i64 0) (.slice none 0 0) (.slice none 0 0)) := X2
          obtain ⟨⟨x0, x1, x2, x3, x4, x5, x6, x7⟩, y0, y1, y2, y3, y4, y5, y6, y7⟩ := X2
          go_wp2_with fail
          go_at_call 55; refine Calls.mono Cq3'.out ?_
          rintro e w3 ⟨vk, va, vb, rfl, rd3, ot3⟩
          have X3 := C8.oth HX2.out ot3 (by omega)
          have XF : C8 (((w3.setCell ⟨w1.heap.size, 2, none⟩ (.int .i64 vk)).setCell ⟨w1.heap.size, 3, none⟩ (.int .i64 va)).setCell ⟨w1.heap.size, 4, none⟩ (.int .i64 vb)) w1.heap.size (.int .i64 1) (.int .i64 v) (.int .i64 vk) (.int .i64 va) (.int .i64 vb) (.int .i64 0) (.slice none 0 0) (.slice none 0 0) := ((X3.set2 _).set3 _).set4 _
          have OF : Oth r wr (((w3.setCell ⟨w1.heap.size, 2, none⟩ (.int .i64 vk)).setCell ⟨w1.heap.size, 3, none⟩ (.int .i64 va)).setCell ⟨w1.heap.size, 4, none⟩ (.int .i64 vb)) := (((O2.trans ot3).new (p := ⟨w1.heap.size, 2, none⟩) (by show wr.heap.size ≤ w1.heap.size; omega) _).new (p := ⟨w1.heap.size, 3, none⟩) (by show wr.heap.size ≤ w1.heap.size; omega) _).new (p := ⟨w1.heap.size, 4, none⟩) (by show wr.heap.size ≤ w1.heap.size; omega) _
          have RF : Rd2 (((w3.setCell ⟨w1.heap.size, 2, none⟩ (.int .i64 vk)).setCell ⟨w1.heap.size, 3, none⟩ (.int .i64 va)).setCell ⟨w1.heap.size, 4, none⟩ (.int .i64 vb)) r (m + 1 + (i + 1) * (6 + 2 * pp)) := (rd3.same (fun n hn => by rw [Below.heap_setCell _ _ _ _ (by show n ≠ w1.heap.size; omega), Below.heap_setCell _ _ _ _ (by show n ≠ w1.heap.size; omega), Below.heap_setCell _ _ _ _ (by show n ≠ w1.heap.size; omega)])).mono (by rw [Nat.add_mul]; omega)
          clear x0 x1 x2 x3 x4 x5 x6 x7 y0 y1 y2 y3 y4 y5 y6 y7 Cq3' ot3 rd3 O2 rd2 HX2
          obtain ⟨⟨a0, a1, a2, a3, a4, a5, a6, a7⟩, e0, e1, e2, e3, e4, e5, e6, e7⟩ := X3
          obtain ⟨T0, on0, cn0, ln0⟩ := own_nil (((w3.setCell ⟨w1.heap.size, 2, none⟩ (.int .i64 vk)).setCell ⟨w1.heap.size, 3, none⟩ (.int .i64 va)).setCell ⟨w1.heap.size, 4, none⟩ (.int .i64 vb)) d
          obtain ⟨T1, hT1⟩ : ∃ T : Tr d, T = T0 := ⟨_, rfl⟩
          obtain ⟨T2, hT2⟩ : ∃ T : Tr d, T = T0 := ⟨_, rfl⟩
          obtain ⟨b1, hb1⟩ : ∃ b : List Nat, b = [] := ⟨_, rfl⟩
          obtain ⟨b2, hb2⟩ : ∃ b : List Nat, b = [] := ⟨_, rfl⟩
          have o1 : Own (((w3.setCell ⟨w1.heap.size, 2, none⟩ (.int .i64 vk)).setCell ⟨w1.heap.size, 3, none⟩ (.int .i64 va)).setCell ⟨w1.heap.size, 4, none⟩ (.int .i64 vb)) d (.slice none 0 0) T1 b1 := by rw [hT1, hb1]; exact on0
          have o2 : Own (((w3.setCell ⟨w1.heap.size, 2, none⟩ (.int .i64 vk)).setCell ⟨w1.heap.size, 3, none⟩ (.int .i64 va)).setCell ⟨w1.heap.size, 4, none⟩ (.int .i64 vb)) d (.slice none 0 0) T2 b2 := by rw [hT2, hb2]; exact on0
          have r12 : ∀ b ∈ b1 ++ b2, w1.heap.size < b ∧ b < (((w3.setCell ⟨w1.heap.size, 2, none⟩ (.int .i64 vk)).setCell ⟨w1.heap.size, 3, none⟩ (.int .i64 va)).setCell ⟨w1.heap.size, 4, none⟩ (.int .i64 vb)).heap.size := by rw [hb1, hb2]; simp
          have n12 : (b1 ++ b2).Nodup := by rw [hb1, hb2]; simp
          have cT1 : cnt d T1 ≤ cc := by rw [hT1, cn0]; omega
          have cT2 : cnt d T2 ≤ cc := by rw [hT2, cn0]; omega
          clear on0 hT1 hT2 hb1 hb2
          have s1f : w1.heap.size < (((w3.setCell ⟨w1.heap.size, 2, none⟩ (.int .i64 vk)).setCell ⟨w1.heap.size, 3, none⟩ (.int .i64 va)).setCell ⟨w1.heap.size, 4, none⟩ (.int .i64 vb)).heap.size := World.block_lt_of_cell? (((w3.setCell ⟨w1.heap.size, 2, none⟩ (.int .i64 vk)).setCell ⟨w1.heap.size, 3, none⟩ (.int .i64 va)).setCell ⟨w1.heap.size, 4, none⟩ (.int .i64 vb)) _ XF.1.1
          have srf : wr.heap.size ≤ (((w3.setCell ⟨w1.heap.size, 2, none⟩ (.int .i64 vk)).setCell ⟨w1.heap.size, 3, none⟩ (.int .i64 va)).setCell ⟨w1.heap.size, 4, none⟩ (.int .i64 vb)).heap.size := OF.size
          have swe : (((w3.setCell ⟨w1.heap.size, 2, none⟩ (.int .i64 vk)).setCell ⟨w1.heap.size, 3, none⟩ (.int .i64 va)).setCell ⟨w1.heap.size, 4, none⟩ (.int .i64 vb)).heap.size = w3.heap.size := by simp [World.setCell]
          have OR4 : (((w3.setCell ⟨w1.heap.size, 2, none⟩ (.int .i64 vk)).setCell ⟨w1.heap.size, 3, none⟩ (.int .i64 va)).setCell ⟨w1.heap.size, 4, none⟩ (.int .i64 vb)).ownsRow w.heap.size 66 8 (.slice ga i gc) i ys := row_oth HOR.out OF (by omega)
          have HOF : Hid (Oth r wr (((w3.setCell ⟨w1.heap.size, 2, none⟩ (.int .i64 vk)).setCell ⟨w1.heap.size, 3, none⟩ (.int .i64 va)).setCell ⟨w1.heap.size, 4, none⟩ (.int .i64 vb))) := OF
          have HRF : Hid _ := RF
          have HO1 : Hid _ := o1
          have HO2 : Hid _ := o2
          have HR12 : Hid _ := r12
          have HN12 : Hid _ := n12
          obtain ⟨⟨x0, x1, x2, x3, x4, x5, x6, x7⟩, y0, y1, y2, y3, y4, y5, y6, y7⟩ := XF
          clear OF RF o1 o2 r12 n12
          go_wp2_with (at_builtin; refine wpList_append_own_at _ rfl _ _ 24 rfl w.heap.size 66 i0 _ 8 96 Tryz.underlying24 hi0 hz0 hz1 hz2 rfl (by decide) _ _ _ rfl (OR4.alloc _) ⟨w3.heap.size, 0, none⟩ 1 1 (cells8 (⟨1, v, vk, va, vb, 0⟩ : Pay) (.slice none 0 0) (.slice none 0 0)) rfl rfl ?c1 ?c2 ?c3 ?c4 ?c5 ?_)
          case c1 => (have := cells8_new (((w3.setCell ⟨w1.heap.size, 2, none⟩ (.int .i64 vk)).setCell ⟨w1.heap.size, 3, none⟩ (.int .i64 va)).setCell ⟨w1.heap.size, 4, none⟩ (.int .i64 vb)) (⟨1, v, vk, va, vb, 0⟩ : Pay) (.slice none 0 0) (.slice none 0 0) 66; rw [show (((w3.setCell ⟨w1.heap.size, 2, none⟩ (.int .i64 vk)).setCell ⟨w1.heap.size, 3, none⟩ (.int .i64 va)).setCell ⟨w1.heap.size, 4, none⟩ (.int .i64 vb)).heap.size = w3.heap.size by simp [World.setCell]] at this; exact this)
          case c2 => exact cells8_one _ _ _ _ _ _ _
          case c3 => unfold maxLen; omega
          case c4 => omega
          case c5 => simp; omega
          intro v5 w5 hown5 hgrow5 _ hat5
          have sM : ((((w3.setCell ⟨w1.heap.size, 2, none⟩ (.int .i64 vk)).setCell ⟨w1.heap.size, 3, none⟩ (.int .i64 va)).setCell ⟨w1.heap.size, 4, none⟩ (.int .i64 vb)).alloc (.cells #[.int .i64 1, .int .i64 v, .int .i64 vk, .int .i64 va, .int .i64 vb, .int .i64 0, .slice none 0 0, .slice none 0 0] 66)).heap.size = (((w3.setCell ⟨w1.heap.size, 2, none⟩ (.int .i64 vk)).setCell ⟨w1.heap.size, 3, none⟩ (.int .i64 va)).setCell ⟨w1.heap.size, 4, none⟩ (.int .i64 vb)).heap.size + 1 := by simp
          have s5 : (((w3.setCell ⟨w1.heap.size, 2, none⟩ (.int .i64 vk)).setCell ⟨w1.heap.size, 3, none⟩ (.int .i64 va)).setCell ⟨w1.heap.size, 4, none⟩ (.int .i64 vb)).heap.size + 1 ≤ w5.heap.size := by have := hgrow5.size; rw [sM] at this; exact this
          have hgb : ∀ k, (Value.slice ga i gc).ownBlock = some k → w.heap.size ≤ k ∧ k < wr.heap.size := fun k hk => World.ownsRow.lt HOR.out k hk
          have hsame : ∀ b, b < (((w3.setCell ⟨w1.heap.size, 2, none⟩ (.int .i64 vk)).setCell ⟨w1.heap.size, 3, none⟩ (.int .i64 va)).setCell ⟨w1.heap.size, 4, none⟩ (.int .i64 vb)).heap.size → some b ≠ (Value.slice ga i gc).ownBlock → w5.heap[b]? = (((w3.setCell ⟨w1.heap.size, 2, none⟩ (.int .i64 vk)).setCell ⟨w1.heap.size, 3, none⟩ (.int .i64 va)).setCell ⟨w1.heap.size, 4, none⟩ (.int .i64 vb)).heap[b]? := fun b h1 h2 => (hgrow5.block b (by rw [sM]; omega) h2).trans (Below.heap_alloc _ _ _ h1)
          have hobk : ∀ b, b < (((w3.setCell ⟨w1.heap.size, 2, none⟩ (.int .i64 vk)).setCell ⟨w1.heap.size, 3, none⟩ (.int .i64 va)).setCell ⟨w1.heap.size, 4, none⟩ (.int .i64 vb)).heap.size → some b ≠ (Value.slice ga i gc).ownBlock → some b ≠ v5.ownBlock := fun b h1 h2 e => by
            rcases hat5 with h | h
            · exact h2 (e.trans h)
            · rw [h] at e
              have e' := Option.some.inj e
              try simp at e'
              omega
          have O5 : Oth r w w5 := ⟨hgrow5.os.trans (HOF.out.os.trans HOW0.out.os), hgrow5.tape.trans (HOF.out.tape.trans HOW0.out.tape), hgrow5.output.trans (HOF.out.output.trans HOW0.out.output), by omega, fun k hk hr => (hsame k (by omega) (fun e => by have := hgb k e.symm; omega)).trans ((HOF.out.block k (by omega) hr).trans (HOW0.out.block k hk hr))⟩
          have R5 : Rd2 w5 r (m + 1 + (i + 1) * (6 + 2 * pp)) := Rd2.same HRF.out (fun n hn => hsame n (by omega) (fun e => by have := hgb n e.symm; omega))
          have ylen : ys.length = i * 8 := HOR.out.1
          have hrg : ∀ b ∈ parts.flatten, (w.heap.size ≤ b ∧ b < wr.heap.size) ∧ some b ≠ (Value.slice ga i gc).ownBlock := HRG.out
          have r12 : ∀ b ∈ b1 ++ b2, w1.heap.size < b ∧ b < (((w3.setCell ⟨w1.heap.size, 2, none⟩ (.int .i64 vk)).setCell ⟨w1.heap.size, 3, none⟩ (.int .i64 va)).setCell ⟨w1.heap.size, 4, none⟩ (.int .i64 vb)).heap.size := HR12.out
          have H5 : Hid (w5.ownsRow w.heap.size 66 8 v5 (i + 1) (ys ++ cells8 (⟨1, v, vk, va, vb, 0⟩ : Pay) (.slice none 0 0) (.slice none 0 0))) := hown5
          clear hgrow5 hown5 hat5 OR4 x0 x1 x2 x3 x4 x5 x6 x7 y0 y1 y2 y3 y4 y5 y6 y7
          go_wp2
          refine ⟨⟨i + 1, l ++ [((⟨1, v, vk, va, vb, 0⟩ : Pay), T1, T2)], parts ++ [b1 ++ b2], ys ++ cells8 (⟨1, v, vk, va, vb, 0⟩ : Pay) (.slice none 0 0) (.slice none 0 0), by omega, ?nn, by simp [hll], O5, R5, H5.out, by simp [hpl], ?rg, ?nd, ?rows, ?cn⟩, ?ms⟩
          case nn => (simp; try omega)
          case rg =>
            intro b hb
            rw [List.flatten_append] at hb
            rcases List.mem_append.1 hb with hb | hb
            · have := hrg b hb
              exact ⟨⟨this.1.1, by omega⟩, hobk b (by omega) this.2⟩
            · have hb' := r12 b (by simpa using hb)
              exact ⟨⟨by omega, by omega⟩, hobk b (by omega) (fun e => by have := hgb b e.symm; omega)⟩
          case nd =>
            rw [List.flatten_append]
            refine List.nodup_append.2 ⟨hnd, by simp only [List.flatten_cons, List.flatten_nil, List.append_nil]; exact HN12.out, ?_⟩
            intro a ha b hb
            have h1 := hrg a ha
            have h2 := r12 b (by simpa using hb)
            omega
          case rows =>
            intro q hq hqi
            by_cases hqe : q = i
            · subst hqe
              have hlq : (l ++ [((⟨1, v, vk, va, vb, 0⟩ : Pay), T1, T2)])[q] = ((⟨1, v, vk, va, vb, 0⟩ : Pay), T1, T2) := by
                rw [List.getElem_append_right (by omega)]; simp
              rw [hlq]
              refine ⟨(.slice none 0 0), (.slice none 0 0), b1, b2, by rw [List.getElem?_append_right (by omega), hpl]; simp, ?_, ?_, ?_⟩
              · intro j hj
                rw [List.getElem?_append_right (by omega), ylen, show q * 8 + j - q * 8 = j by omega]
              · exact Own.frame (fun b hb => by have := r12 b (List.mem_append_left _ hb); exact hsame b this.2 (fun e => by have := hgb b e.symm; omega)) HO1.out
              · exact Own.frame (fun b hb => by have := r12 b (List.mem_append_right _ hb); exact hsame b this.2 (fun e => by have := hgb b e.symm; omega)) HO2.out
            · have hqi' : q < l.length := by omega
              obtain ⟨t, e, c1, c2, hp1, hra, oo1, oo2⟩ := HOW.out q hqi' (by omega)
              have hlq : (l ++ [((⟨1, v, vk, va, vb, 0⟩ : Pay), T1, T2)])[q] = l[q] := List.getElem_append_left hqi'
              rw [hlq]
              have hm : ∀ b ∈ c1 ++ c2, b ∈ parts.flatten := fun b hbm => List.mem_flatten.2 ⟨_, List.mem_of_getElem? hp1, hbm⟩
              have hbk : ∀ b ∈ c1 ++ c2, w5.heap[b]? = wr.heap[b]? := fun b hb => by
                have := hrg b (hm b hb)
                exact (hsame b (by omega) this.2).trans (HOF.out.block b this.1.2 (by omega))
              refine ⟨t, e, c1, c2, by rw [List.getElem?_append_left (by omega)]; exact hp1, ?_, Own.frame (fun b hb => hbk b (List.mem_append_left _ hb)) oo1, Own.frame (fun b hb => hbk b (List.mem_append_right _ hb)) oo2⟩
              intro j hj
              rw [List.getElem?_append_left (by rw [ylen]; omega)]; exact hra j hj
          case cn =>
            have : cnt (d + 1) (l ++ [((⟨1, v, vk, va, vb, 0⟩ : Pay), T1, T2)] : List (Pay × Tr d × Tr d)) = cnt (d + 1) (l : List (Pay × Tr d × Tr d)) + (1 + cnt d T1 + cnt d T2) := by
              show ((l ++ [((⟨1, v, vk, va, vb, 0⟩ : Pay), T1, T2)]).map _).sum = (l.map _).sum + _
              simp
            rw [this, Nat.add_mul]
            omega
          case ms => (simp [intOf]; omega)
    · have hie : i = n := by omega
      subst hie
      have hg0 : ¬ (0 : Int) < (i : Int) - i := by omega
      have HOR : Hid _ := hor
      have HRG : Hid _ := hrg
      have HOW : Hid _ := hown
      have HOT : Hid _ := hot
      have HRD : Hid _ := hrd
      clear hor hrg hown hot hrd
      go_wp2
      go_ret
      have hor : wr.ownsRow w.heap.size 66 8 u9 i ys := HOR.out
      have ib : i * (6 + 2 * pp) ≤ 4 * (6 + 2 * pp) := Nat.mul_le_mul_right _ hn4
      have ic : i * (1 + 2 * cc) ≤ 4 * (1 + 2 * cc) := Nat.mul_le_mul_right _ hn4
      by_cases hz : i = 0
      · subst hz
        obtain ⟨ga, gc, hu⟩ := row_slice hor
        have hgc : gc ≤ maxLen := by
          obtain ⟨_, ⟨h1, _⟩ | ⟨g, cap, cur, hv, hg, hh, hc, hm, hs, ht⟩⟩ := hor
          · rw [h1] at hu; simp only [Value.slice.injEq] at hu; unfold maxLen; omega
          · rw [hv] at hu; simp only [Value.slice.injEq] at hu; omega
        exact ⟨_, (l : List (Pay × Tr d × Tr d)), [], rfl, Rd2.mono HRD.out (by omega), HOT.out, .inl ⟨hll, ⟨ga, gc, hu, hgc⟩, rfl⟩, by simp, by simp, by omega⟩
      · obtain ⟨hy, ⟨h1, h2⟩ | ⟨g, cap, cur, hv, hg, hh, hc, hm, hs, ht⟩⟩ := id hor
        · omega
        · subst hv
          have gl := World.ownsRow.lt hor g rfl
          refine ⟨_, (l : List (Pay × Tr d × Tr d)), g :: parts.flatten, rfl, Rd2.mono HRD.out (by omega), HOT.out, .inr ⟨by omega, g, cap, parts, by rw [hll]; rfl, by omega, hm, by rw [hll]; exact row_there hor, by omega, rfl, fun q hq => ?_⟩, ?_, ?_, by omega⟩
          · obtain ⟨t, e, c1, c2, hp1, hra, oo1, oo2⟩ := HOW.out q hq (by omega)
            exact ⟨t, e, c1, c2, hp1, rows_range hor hra rfl, oo1, oo2⟩
          · intro b hb
            rcases List.mem_cons.1 hb with rfl | hb
            · exact gl
            · exact (HRG.out b hb).1
          · refine List.nodup_cons.2 ⟨fun hm => ?_, hnd⟩
            exact (HRG.out _ hm).2 rfl

end Go.Proofs.YthcgdhlemieboaaGreat

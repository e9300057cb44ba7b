/- LeakOf and SwayOf of the program: the first pair of rows that leak, or sway. -/
import Derived.Test.YthcgdhlemieboaaGreatTkFpr
import Derived.Test.YthcgdhlemieboaaGreatTkTmw
import Derived.Test.YthcgdhlemieboaaGreatTkLed
import Derived.Test.YthcgdhlemieboaaGreatTkKnw
import Derived.Test.YthcgdhlemieboaaGreatTkPcx
namespace Go.Proofs.YthcgdhlemieboaaGreat
open Go.RowKit
set_option linter.unusedSimpArgs false
set_option linter.unusedVariables false
attribute [local go_sem] World.cell?_alloc_some

def LkpPost (w : World) (ok : Bool) (P : Nat → Nat → Bool) (n : Nat) (e : Ending) (w' : World) : Prop := ∃ (o : Option (Nat × Nat)) (va vb : Value), (if ok then FirstP P (2 ^ n) o else o = none) ∧ e = .returned (.tuple #[va, vb, .bool o.isSome]) ∧ Below w.heap.size w w' ∧ TwoR w.heap.size w' va vb (rowsO n o).1 (rowsO n o).2

theorem staysSame_any {ka : Option Addr} {kl kc : Nat} (w : World) :
    Calls Tryz.prog 19 #[.slice ka kl kc] w fun e w' => e = .returned (.func (.func 46) #[] #[.pointer (some ⟨w.heap.size, 0, none⟩)]) ∧ Below w.heap.size w w' ∧ w.heap.size < w'.heap.size ∧ w'.cell? ⟨w.heap.size, 0, none⟩ = some (.slice ka kl kc) := by
  go_enter Tryz.func19, Tryz.ntmps19
  go_wp2
  go_ret
  exact ⟨rfl, (Below.refl _ _).alloc (Nat.le_refl _) _, by simp, by simp⟩

theorem one_len {w : World} {B : Nat} {e : TypeId} {sz : Nat} {v : Value} {n : Nat} {xs : List Value} (h : w.ownsRow B e sz v n xs) : ∃ a c, v = .slice a n c := by
  obtain ⟨a, l, c, rfl⟩ := own_sl h
  have := own_len h
  subst this
  exact ⟨a, c, rfl⟩

theorem TwoR.nil (B : Nat) (w : World) : TwoR B w (.slice none 0 0) (.slice none 0 0) [] [] := ⟨World.ownsRow_nil _ _ _ _, World.ownsRow_nil _ _ _ _, by simp [Value.ownBlock]⟩
theorem TwoR.base {B B' : Nat} {w : World} {va vb : Value} {xs ys : List Int} (h : TwoR B w va vb xs ys) (hle : B' ≤ B) : TwoR B' w va vb xs ys := ⟨own_base h.a hle, own_base h.b hle, h.ne⟩

theorem holdsAt_leak {w : World} {ls : List (Int × Int)} {d : Nat} {T : Tr d} {h : Int} {kv : Value} {bK bH kb : Addr}
    (hK : w.cell? bK = some (.func (.func 46) #[] #[.pointer (some kb)])) (hH : w.cell? bH = some (.int .i64 h)) (hkb : w.cell? kb = some kv) (hkv : GRep Value.bool w kv (knowL ls h)) :
    HoldsAt w ls d T (leakP ls d T (knowL ls h) h) 22 #[.pointer (some bK), .pointer (some bH)] := by
  intro wz hb k i x y hki hi ox oy
  obtain ⟨rx, nx, sx, tx⟩ := x
  obtain ⟨ry, ny, sy, ty⟩ := y
  obtain ⟨-, -, ex⟩ := ox.run.repsL
  obtain ⟨-, -, ey⟩ := oy.run.repsL
  obtain ⟨_, gx, -⟩ := row_gown ox.row
  obtain ⟨_, gy, -⟩ := row_gown oy.row
  have gx := gx.rep
  have gy := gy.rep
  obtain ⟨a1, c1, e1⟩ := one_len ox.row
  obtain ⟨a2, c2, e2⟩ := one_len oy.row
  obtain ⟨a3, c3, e3⟩ := one_len ox.run.n
  obtain ⟨a4, c4, e4⟩ := one_len oy.run.n
  obtain ⟨a5, c5, e5⟩ := one_len ox.run.ws
  obtain ⟨a6, c6, e6⟩ := one_len oy.run.ws
  obtain ⟨a7, c7, e7⟩ := one_len ox.run.ss
  obtain ⟨a8, c8, e8⟩ := one_len oy.run.ss
  dsimp only at *
  subst e1 e2 e3 e4 e5 e6 e7 e8
  exact holdsL_any h (cell_later hb hK) (cell_later hb hH) (cell_later hb hkb) (hkv.below hb) gx gy ex ey (by rw [(knOf_len ls h).1, bitsL_len]; exact Nat.le_refl _) (by rw [(knOf_len ls h).1, bitsL_len]; exact Nat.le_refl _) told_fewL.1 told_fewL.1

set_option maxHeartbeats 4000000 in
set_option maxRecDepth 20000 in
theorem leakOf_any {d : Nat} {T : Tr d} {lv sv : Value} {ls : List (Int × Int)} (h : Int) {w : World} (hL : LRep w lv ls) (hR : Rep w d sv T) :
    Calls Tryz.prog 6 #[.agg #[lv, sv], .int .i64 h] w (LkpPost w (progB ls d T && vIn 3 h) (leakP ls d T (knowL ls h) h) ls.length) := by
  obtain ⟨la, lc, rfl, -⟩ := id hL
  obtain ⟨sa, sc, rfl⟩ := id hR.slice
  have A2 : Below w.heap.size w ((w.alloc (.cells #[.slice la ls.length lc, .slice sa (ln d T) sc] 26)).alloc (.cells #[.int .i64 h] 3)) := ((Below.refl _ _).alloc (Nat.le_refl _) _).alloc (by simp) _
  have HX : Hid (∀ wz, Below w.heap.size w wz → LRep wz (.slice la ls.length lc) ls ∧ Rep wz d (.slice sa (ln d T) sc) T) := (show ∀ wz, _ from fun wz hb => ⟨hL.below hb, hR.below hb⟩)
  obtain ⟨w2, hw2⟩ : ∃ W, (w.alloc (.cells #[.slice la ls.length lc, .slice sa (ln d T) sc] 26)).alloc (.cells #[.int .i64 h] 3) = W := ⟨_, rfl⟩
  have p0 : w2.cell? ⟨w.heap.size, 0, none⟩ = some (.slice la ls.length lc) := by rw [← hw2]; simp
  have p1 : w2.cell? ⟨w.heap.size, 1, none⟩ = some (.slice sa (ln d T) sc) := by rw [← hw2]; simp
  have p2 : w2.cell? ⟨w.heap.size + 1, 0, none⟩ = some (.int .i64 h) := by rw [← hw2]; simp
  rw [hw2] at A2
  have HW2 : Hid _ := hw2
  have HA2 : Hid (Below w.heap.size w w2) := A2
  obtain ⟨pb, hpb⟩ : ∃ x, progB ls d T = x := ⟨_, rfl⟩
  have K1 : Hid _ := progOk_any (HX.out w2 A2).1 (HX.out w2 A2).2
  rw [hpb] at K1
  have HPBB : Hid _ := hpb
  have HWX : Hid (∀ wz, Below w2.heap.size w2 wz → Below w.heap.size w wz) := (show ∀ wz, _ from fun wz hb => Below.then HA2.out hb HA2.out.size)
  clear hL hR A2 hw2 hpb
  rw [show (progB ls d T && vIn 3 h) = (pb && vIn 3 h) by rw [HPBB.out]]
  go_enter Tryz.func6, Tryz.ntmps6
  go_wp2_with fail
  rw [HW2.out]
  clear HW2
  (try go_at_call 17); refine Calls.mono K1.out ?_
  rintro e w3 ⟨rfl, hb3⟩
  have HB3 : Hid (Below w2.heap.size w2 w3) := hb3
  replace p0 := cell_later hb3 p0
  replace p1 := cell_later hb3 p1
  replace p2 := cell_later hb3 p2
  clear hb3 K1
  cases pb
  · go_wp2
    exact bodyPost_ret (v := .tuple #[.slice none 0 0, .slice none 0 0, .bool false]) (by simp [results, Tryz.results6, go_sem]) rfl ⟨none, _, _, (by first | rfl | (rw [HVB.out]; rfl)), rfl, HWX.out _ HB3.out, TwoR.nil _ _⟩
  obtain ⟨vb, hvb⟩ : ∃ x, vIn 3 h = x := ⟨_, rfl⟩
  have K2 : Hid _ := isBelow_any h 3 w3
  rw [hvb] at K2
  rw [hvb]
  have HVB : Hid _ := hvb
  clear hvb
  go_wp2_with fail
  (try go_at_call 18); refine Calls.mono K2.out ?_
  rintro e w4 ⟨rfl, e4⟩
  rw [e4]
  clear e4 K2 w4
  cases vb
  · go_wp2
    exact bodyPost_ret (v := .tuple #[.slice none 0 0, .slice none 0 0, .bool false]) (by simp [results, Tryz.results6, go_sem]) rfl ⟨none, _, _, (by first | rfl | (rw [HVB.out]; rfl)), rfl, HWX.out _ HB3.out, TwoR.nil _ _⟩
  have hp : ls.length ≤ 4 := by
    have := HPBB.out
    unfold progB at this
    simp only [Bool.and_eq_true_iff, decide_eq_true_eq] at this
    omega
  have HP : Hid _ := hp
  have K5 : Hid _ := typeKnows_any h (HX.out w3 (HWX.out _ HB3.out)).1 (HX.out w3 (HWX.out _ HB3.out)).2
  rw [HPBB.out] at K5
  clear hp
  go_wp2_with fail
  (try go_at_call 20); refine Calls.mono K5.out ?_
  rintro e w5 ⟨kv, bs, rfl, hb5, hg5, -⟩
  replace hg5 := hg5.rep
  simp only [if_true] at hg5
  obtain ⟨ka, kc, rfl, -⟩ := id hg5
  have HB5 : Hid (Below w3.heap.size w3 w5) := hb5
  have HG5 : Hid (GRep Value.bool w5 (.slice ka (knowL ls h).length kc) (knowL ls h)) := hg5
  replace p0 := cell_later hb5 p0
  replace p1 := cell_later hb5 p1
  replace p2 := cell_later hb5 p2
  clear hg5 hb5 K5
  have B5 : Hid (Below w.heap.size w w5) := HWX.out _ (Below.then HB3.out HB5.out HB3.out.size)
  have K6 : Hid _ := staysSame_any (ka := ka) (kl := (knowL ls h).length) (kc := kc) w5
  go_wp2_with fail
  (try go_at_call 19); refine Calls.mono K6.out ?_
  rintro e w6 ⟨rfl, hb6, hlt6, hc6⟩
  replace p0 := cell_later hb6 p0
  replace p1 := cell_later hb6 p1
  replace p2 := cell_later hb6 p2
  have HB6 : Hid (Below w5.heap.size w5 w6) := hb6
  have B6 : Below w.heap.size w w6 := Below.then B5.out hb6 B5.out.size
  have HC6 : Hid _ := hc6
  clear hc6 hb6 K6
  go_wp2_with fail
  obtain ⟨w7, hw7⟩ : ∃ W, w6.alloc (.cells #[.func (.func 46) #[] #[.pointer (some ⟨w5.heap.size, 0, none⟩)]] 34) = W := ⟨_, rfl⟩
  have B67 : Below w6.heap.size w6 w7 := by rw [← hw7]; exact (Below.refl _ _).alloc (Nat.le_refl _) _
  have B7 : Below w.heap.size w w7 := Below.then B6 B67 B6.size
  have c7 : w7.cell? ⟨w6.heap.size, 0, none⟩ = some (.func (.func 46) #[] #[.pointer (some ⟨w5.heap.size, 0, none⟩)]) := by rw [← hw7]; simp
  have HH : HoldsAt w7 ls d T (leakP ls d T (knowL ls h) h) 22 #[.pointer (some ⟨w6.heap.size, 0, none⟩), .pointer (some ⟨w.heap.size + 1, 0, none⟩)] := holdsAt_leak c7 (cell_later B67 p2) (cell_later B67 HC6.out) (HG5.out.below (Below.then HB6.out B67 HB6.out.size))
  have KF : Hid _ := firstPair_any (hf := 22) (leakP ls d T (knowL ls h) h) (HX.out w7 B7).1 (HX.out w7 B7).2 HP.out (enters_of Tryz.func22 (by kernel_rfl) rfl) HH
  rw [hw7]
  have HBB : Hid _ := B7
  clear hw7 B67 B6 B7 c7 HH p2 p0 p1
  (try go_at_call 21); refine Calls.mono KF.out ?_
  rintro e w9 ⟨o, va, vb, hF, rfl, hb9, h2⟩
  obtain ⟨va1, va2, va3, rfl⟩ := own_sl h2.a
  obtain ⟨vb1, vb2, vb3, rfl⟩ := own_sl h2.b
  have HF : Hid _ := hF
  have H2 : Hid _ := h2
  have HB9 : Hid _ := hb9
  clear hF h2 hb9 KF
  go_wp2
  exact bodyPost_ret (v := .tuple #[.slice va1 va2 va3, .slice vb1 vb2 vb3, .bool o.isSome]) (by simp [results, Tryz.results6, go_sem]) rfl ⟨o, _, _, (by first | exact HF.out | (rw [HVB.out]; exact HF.out)), rfl, Below.then HBB.out HB9.out HBB.out.size, H2.out.base HBB.out.size⟩

end Go.Proofs.YthcgdhlemieboaaGreat

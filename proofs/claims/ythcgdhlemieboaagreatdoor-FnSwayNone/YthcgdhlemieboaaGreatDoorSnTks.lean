/- What is said of rows of bits, and of steps that tell; small comparisons of the leak laws. -/
import Derived.Test.YthcgdhlemieboaaGreatDoorSnLej
import Derived.Test.YthcgdhlemieboaaGreatDoorSnTmb
import Derived.Test.YthcgdhlemieboaaGreatDoorSnNin
import Derived.Test.YthcgdhlemieboaaGreatDoorSnLeh
import Derived.Test.YthcgdhlemieboaaGreatDoorSnTyo
import Derived.Test.YthcgdhlemieboaaGreatDoorSnTyx
namespace Go.Proofs.YthcgdhlemieboaaGreatDoor
open Go.RowKit
set_option linter.unusedSimpArgs false
set_option linter.unusedVariables false
attribute [local go_sem] World.cell?_alloc_some

theorem bits01 {k n : Nat} (h : k < 16) (hn : n ≤ 4) : ∀ x ∈ bitsL k n, x = 0 ∨ x = 1 := by
  have H : ∀ n : Nat, n < 5 → ∀ k : Nat, k < 16 → ((bitsL k n).all fun x => decide (x = 0 ∨ x = 1)) = true := by decide +kernel
  intro x hx
  simpa using List.all_eq_true.1 (H n (by omega) k h) x hx
theorem two_pow16 {n : Nat} (hn : n ≤ 4) : 2 ^ n ≤ 16 := Nat.le_trans (Nat.pow_le_pow_right (by omega) hn) (by decide)
theorem sameB_at {ks : List Bool} {xs ys : List Int} (h : sameB ks xs ys = true) (q : Nat) (hq : q < ks.length) (hk : ks.getD q false = true) : xs.getD q 0 = ys.getD q 0 := by
  have := List.all_eq_true.1 h q (List.mem_range.2 hq)
  simp only [hk, Bool.not_true, Bool.false_or, decide_eq_true_eq] at this
  exact this
theorem sway_yes {ls : List (Int × Int)} {d : Nat} {T : Tr d} {ks : List Bool} {k i : Nat} (hp : FirstP (swayP ls d T ks) (2 ^ ls.length) (some (k, i))) :
    sameB ks (bitsL k ls.length) (bitsL i ls.length) = true ∧ setV ks (runS ls d T (bitsL k ls.length)).ws ≠ setV ks (runS ls d T (bitsL i ls.length)).ws := by
  have e := hp.2.2.1
  unfold swayP at e
  simpa using e
def tellB (h : Int) : (d : Nat) → Tr d → Bool
  | 0, _ => false
  | d + 1, (l : List (Pay × Tr d × Tr d)) => l.any fun x => (decide (x.1.k = 3) && decide (x.1.h = h)) || tellB h d x.2.1 || tellB h d x.2.2
end Go.Proofs.YthcgdhlemieboaaGreatDoor

namespace Go.Proofs.YthcgdhlemieboaaGreatDoor
open Go.RowKit
set_option linter.unusedSimpArgs false
set_option linter.unusedVariables false

theorem setV_eqvL {K : Int × Int → Bool} {ls : List (Int × Int)} {ks : List Bool} (hk : ∀ i (h1 : i < ls.length), ks.getD i true = K ls[i]) (hkl : ks.length = ls.length) {ws us : List (Int × Int)} (h1 : ∀ x ∈ ws, vIn ls.length x.1 = true) (h2 : ∀ x ∈ us, vIn ls.length x.1 = true) (h : ws.filter (fun x => K (lab ls x.1)) = us.filter (fun x => K (lab ls x.1))) : setV ks ws = setV ks us := by
  have e : ∀ v : Int, vIn ls.length v = true → setB ks v = K (lab ls v) := by
    intro v hv
    unfold vIn at hv
    simp at hv
    have hll : v.toNat < ls.length := by omega
    unfold setB lab vIn
    rw [List.getD_eq_getElem?_getD, List.getD_eq_getElem?_getD, List.getElem?_eq_getElem hll, List.getElem?_eq_getElem (by omega)]
    have := hk v.toNat hll
    rw [List.getD_eq_getElem?_getD, List.getElem?_eq_getElem (by omega)] at this
    simp only [Option.getD_some] at this ⊢
    rw [this, decide_eq_true (by omega : (0 : Int) ≤ v), decide_eq_true (by omega : v < (ks.length : Int))]
    rfl
  unfold setV
  rw [List.filter_congr (fun x hx => e x.1 (h1 x hx)), List.filter_congr (fun x hx => e x.1 (h2 x hx))]
  exact h
theorem bits_ten {k n : Nat} (hk : k < 16) (hn : n ≤ 4) : tenB (bitsL k n) = true := by
  refine List.all_eq_true.2 fun x hx => ?_
  rcases bits01 hk hn x hx with rfl | rfl <;> decide
theorem bits_nums {ls : List (Int × Int)} {d : Nat} {T : Tr d} {k : Nat} (hp : progB ls d T = true) (hl : ls.length ≤ 4) (hk : k < 2 ^ ls.length) : numsB ls d T (bitsL k ls.length) = true := by
  unfold numsB
  rw [hp, bits_ten (Nat.lt_of_lt_of_le hk (two_pow16 hl)) hl, bitsL_len]
  simp
theorem prog_parts {ls : List (Int × Int)} {d : Nat} {T : Tr d} (hp : progB ls d T = true) : ls.length ≤ 4 ∧ labsB ls = true ∧ stB ls.length d 3 T = true := by
  unfold progB at hp
  simp only [Bool.and_eq_true_iff, decide_eq_true_eq] at hp
  exact ⟨by omega, hp.2.1, hp.2.2.1⟩
theorem kn_at {f : Int × Int → Int} {ls : List (Int × Int)} {h : Int} (h0 : 0 ≤ h) (h3 : h < 3) (i : Nat) (h1 : i < ls.length) : (ls.map fun a => hosB (f a) h).getD i true = hasB (f ls[i]) h := by
  rw [List.getD_eq_getElem?_getD, List.getElem?_map, List.getElem?_eq_getElem h1]
  simp [hosB, h0, h3]
theorem eqv_rows {f : Int × Int → Int} {ls : List (Int × Int)} {tl : Option Int} {h : Int} (h0 : 0 ≤ h) (h3 : h < 3) {xs ys : List Int} (hx : xs.length = ls.length) (hy : ys.length = ls.length) (hs : sameB (ls.map fun a => hosB (f a) h) xs ys = true) :
    Eqv (fun a => hasB (f a) h) ls tl ⟨xs, [], []⟩ ⟨ys, [], []⟩ := by
  refine ⟨by show xs.length = ys.length; omega, fun i hi => ?_, rfl, fun _ _ => rfl⟩
  show xs.getD i 0 = ys.getD i 0
  by_cases hlt : i < ls.length
  · have e : lab ls (i : Int) = ls[i] := by unfold lab; rw [Int.toNat_natCast]; simp [hlt]
    rw [e] at hi
    refine sameB_at hs i (by simpa using hlt) ?_
    have := kn_at (f := f) h0 h3 i hlt
    rw [List.getD_eq_getElem?_getD] at this ⊢
    rw [List.getElem?_map, List.getElem?_eq_getElem hlt] at this ⊢
    simp only [Option.map_some, Option.getD_some] at this ⊢
    rw [this]; exact hi
  · rw [List.getD_eq_getElem?_getD, List.getD_eq_getElem?_getD, List.getElem?_eq_none (by omega), List.getElem?_eq_none (by omega)]
theorem fine_no_sway {ls : List (Int × Int)} {d : Nat} {T : Tr d} {h : Int} {k i : Nat} (hp : progB ls d T = true) (ha : AllF ls (prs ls d T topL)) (h0 : 0 ≤ h) (h3 : h < 3) (hf : FirstP (swayP ls d T (trustL ls h)) (2 ^ ls.length) (some (k, i))) : False := by
  obtain ⟨hl, hlab, hst⟩ := prog_parts hp
  obtain ⟨hs, hne⟩ := sway_yes hf
  have hi := hf.1
  have hk : k < 2 ^ ls.length := Nat.lt_trans hf.2.1 hi
  refine hne ?_
  have e := nin (say_trust h0 (by omega)) hlab (tel_none (K := fun a => hasB a.2 h) (ls := ls)) d T 3 topL _ _ topL_ok hst ha (eqv_rows (f := fun a => a.2) (tl := none) h0 h3 (bitsL_len k ls.length) (bitsL_len i ls.length) hs)
  have e1 : runS ls d T (bitsL k ls.length) = doT d T ⟨bitsL k ls.length, [], []⟩ := by unfold runS; rw [if_pos (bits_nums hp hl hk)]
  have e2 : runS ls d T (bitsL i ls.length) = doT d T ⟨bitsL i ls.length, [], []⟩ := by unfold runS; rw [if_pos (bits_nums hp hl hi)]
  rw [e1, e2]
  refine setV_eqvL (K := fun a => hasB a.2 h) (fun q hq => kn_at (f := fun a => a.2) h0 h3 q hq) (by simp [trustL]) ?_ ?_ e.2.2.1
  · exact doT_vars d T ls.length 3 ⟨bitsL k ls.length, [], []⟩ hst (by simp)
  · exact doT_vars d T ls.length 3 ⟨bitsL i ls.length, [], []⟩ hst (by simp)

end Go.Proofs.YthcgdhlemieboaaGreatDoor

namespace Go.Proofs.YthcgdhlemieboaaGreatDoor
open Go.RowKit
set_option linter.unusedSimpArgs false
set_option linter.unusedVariables false
attribute [local go_sem] World.cell?_alloc_some

theorem errR_cases (s0 s1 : Addr) (ls : List (Int × Int)) (d : Nat) (T : Tr d) : (errR s0 s1 ls d T = .nilIface ∧ (progB ls d T && !(whyR ls d T).2) = true) ∨ (∃ u v, errR s0 s1 ls d T = .iface u v ∧ (progB ls d T && !(whyR ls d T).2) = false) := by
  unfold errR whyR
  cases hp : progB ls d T
  · exact .inr ⟨_, _, rfl, by simp⟩
  · cases hb : badI ls (prs ls d T topL) with
    | none => exact .inl ⟨rfl, by simp⟩
    | some i => exact .inr ⟨_, _, rfl, by simp⟩

set_option maxHeartbeats 4000000 in
set_option maxRecDepth 20000 in
theorem typeOk_any {d : Nat} {T : Tr d} {lv sv : Value} {ls : List (Int × Int)} {w : World} {s0 s1 : Addr} (hL : LRep w lv ls) (hR : Rep w d sv T) (hg0 : w.cell? ⟨0, 0, none⟩ = some (.iface 166 (.pointer (some s0)))) (hg1 : w.cell? ⟨1, 0, none⟩ = some (.iface 166 (.pointer (some s1)))) :
    Calls Tryz.prog 9 #[.agg #[lv, sv]] w fun e w' => e = .returned (.bool (progB ls d T && !(whyR ls d T).2)) ∧ Below w.heap.size w w' := by
  have A : Below w.heap.size w (w.alloc (.cells #[lv, sv] 26)) := (Below.refl _ _).alloc (Nat.le_refl _) _
  have C1 : Hid _ := typingOf_any (hL.below A) (hR.below A) (cell_later A hg0) (cell_later A hg1)
  obtain ⟨la, lc, rfl, -⟩ := id hL
  obtain ⟨sa, sc, rfl⟩ := id hR.slice
  have HA : Hid _ := A
  have hec := errR_cases s0 s1 ls d T
  obtain ⟨ok, hok⟩ : ∃ x, (progB ls d T && !(whyR ls d T).2) = x := ⟨_, rfl⟩
  rw [hok] at hec ⊢
  have HEC : Hid _ := hec
  clear hok hec
  clear hL hR hg0 hg1 A
  go_enter Tryz.func9, Tryz.ntmps9
  go_wp2_with fail
  go_at_call 29; refine Calls.mono C1.out ?_; rintro e w1 ⟨va, vn, vc, da, dn, dc, aa, ac, sa, sc, bd, rfl, hb, -, -⟩
  have HB : Hid (Below w.heap.size w (w1.alloc (.cells #[.slice none 0 0] 3))) := (Below.then (show Below w.heap.size w (w.alloc (.cells #[_, _] 26)) from (Below.refl _ _).alloc (Nat.le_refl _) _) hb (by simp)).alloc (by have := hb.size; simp at this; omega) _
  have HB1 : Hid (Below w.heap.size w w1) := (Below.then (show Below w.heap.size w (w.alloc (.cells #[_, _] 26)) from (Below.refl _ _).alloc (Nat.le_refl _) _) hb (by simp))
  have hz1 : w.heap.size ≤ w1.heap.size := HB1.out.size
  have HZ1 : Hid _ := hz1
  clear hb C1 HB hz1 HA
  rcases bd with _ | ib
  · rcases HEC.out with ⟨he, hv⟩ | ⟨u, v, he, hv⟩
    · have HV : Hid _ := hv
      rw [he]
      clear hv HEC he
      try simp only [fval]
      go_wp2_with fail
      have HBF : Hid _ := HB1.out.alloc HZ1.out (.cells #[.slice va vn vc, .slice da dn dc, .slice aa (atR ls d T).length ac, .slice sa (seR ls d T).length sc, .nilIface] 58)
      exact bodyPost_ret (v := .bool true) (by simp [results, Tryz.results9, go_sem]) rfl ⟨by rw [HV.out], HBF.out⟩
    · have HV : Hid _ := hv
      rw [he]
      clear hv HEC he
      try simp only [fval]
      go_wp2_with fail
      have HBF : Hid _ := HB1.out.alloc HZ1.out (.cells #[.slice va vn vc, .slice da dn dc, .slice aa (atR ls d T).length ac, .slice sa (seR ls d T).length sc, .nilIface] 58)
      exact bodyPost_ret (v := .bool false) (by simp [results, Tryz.results9, go_sem]) rfl ⟨by rw [HV.out], HBF.out⟩
  · rcases HEC.out with ⟨he, hv⟩ | ⟨u, v, he, hv⟩
    · have HV : Hid _ := hv
      rw [he]
      clear hv HEC he
      try simp only [fval]
      go_wp2_with fail
      have HBF : Hid _ := HB1.out.alloc HZ1.out (.cells #[.slice va vn vc, .slice da dn dc, .slice aa (atR ls d T).length ac, .slice sa (seR ls d T).length sc, .iface 138 (.agg #[.int .i64 (ib : Int), .iface 166 (.pointer (some s1))])] 58)
      exact bodyPost_ret (v := .bool true) (by simp [results, Tryz.results9, go_sem]) rfl ⟨by rw [HV.out], HBF.out⟩
    · have HV : Hid _ := hv
      rw [he]
      clear hv HEC he
      try simp only [fval]
      go_wp2_with fail
      have HBF : Hid _ := HB1.out.alloc HZ1.out (.cells #[.slice va vn vc, .slice da dn dc, .slice aa (atR ls d T).length ac, .slice sa (seR ls d T).length sc, .iface 138 (.agg #[.int .i64 (ib : Int), .iface 166 (.pointer (some s1))])] 58)
      exact bodyPost_ret (v := .bool false) (by simp [results, Tryz.results9, go_sem]) rfl ⟨by rw [HV.out], HBF.out⟩

def LaPost (w : World) (xs : List (Int × Int)) (e : Ending) (w' : World) : Prop := ∃ v, e = .returned v ∧ Below w.heap.size w w' ∧ w'.ownsRow w.heap.size 68 2 v xs.length (pcells xs)
def NaPost (w : World) (xs : List Int) (e : Ending) (w' : World) : Prop := ∃ v, e = .returned v ∧ Below w.heap.size w w' ∧ w'.ownsRow w.heap.size 3 1 v xs.length (xs.map (Value.int .i64))

end Go.Proofs.YthcgdhlemieboaaGreatDoor

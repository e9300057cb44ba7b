/- What is said of rows of bits, and of steps that tell; small comparisons of the leak laws. -/
import Derived.Test.YthcgdhlemieboaaGreatTkLej
import Derived.Test.YthcgdhlemieboaaGreatTkTmw
import Derived.Test.YthcgdhlemieboaaGreatTkTps
import Derived.Test.YthcgdhlemieboaaGreatTkRtx
import Derived.Test.YthcgdhlemieboaaGreatTkSrn
import Derived.Test.YthcgdhlemieboaaGreatTkTsh
import Derived.Deep.DeepCutAuto
import Derived.Deep.RegionHeld3
import Derived.Deep.DrawnRows
namespace Go.Proofs.YthcgdhlemieboaaGreat
open Go.RowKit
set_option linter.unusedSimpArgs false
set_option linter.unusedVariables false
attribute [local go_sem] World.cell?_alloc_some

theorem bits01 {k n : Nat} (h : k < 16) (hn : n ≤ 4) : ∀ x ∈ bitsL k n, x = 0 ∨ x = 1 := by
  have H : ∀ n : Nat, n < 5 → ∀ k : Nat, k < 16 → ((bitsL k n).all fun x => decide (x = 0 ∨ x = 1)) = true := by decide +kernel
  intro x hx
  simpa using List.all_eq_true.1 (H n (by omega) k h) x hx
theorem two_pow16 {n : Nat} (hn : n ≤ 4) : 2 ^ n ≤ 16 := Nat.le_trans (Nat.pow_le_pow_right (by omega) hn) (by decide)
theorem sameB_at {ks : List Bool} {xs ys : List Int} (h : sameB ks xs ys = true) (q : Nat) (hq : q < ks.length) (hk : ks.getD q false = true) : xs.getD q 0 = ys.getD q 0 := by
  have := List.all_eq_true.1 h q (List.mem_range.2 hq)
  simp only [hk, Bool.not_true, Bool.false_or, decide_eq_true_eq] at this
  exact this
theorem sway_yes {ls : List (Int × Int)} {d : Nat} {T : Tr d} {ks : List Bool} {k i : Nat} (hp : FirstP (swayP ls d T ks) (2 ^ ls.length) (some (k, i))) :
    sameB ks (bitsL k ls.length) (bitsL i ls.length) = true ∧ setV ks (runS ls d T (bitsL k ls.length)).ws ≠ setV ks (runS ls d T (bitsL i ls.length)).ws := by
  have e := hp.2.2.1
  unfold swayP at e
  simpa using e
def tellB (h : Int) : (d : Nat) → Tr d → Bool
  | 0, _ => false
  | d + 1, (l : List (Pay × Tr d × Tr d)) => l.any fun x => (decide (x.1.k = 3) && decide (x.1.h = h)) || tellB h d x.2.1 || tellB h d x.2.2
end Go.Proofs.YthcgdhlemieboaaGreat

namespace Go.Proofs.YthcgdhlemieboaaGreat
open Go.RowKit
set_option linter.unusedSimpArgs false
set_option linter.unusedVariables false

theorem doT_told : ∀ (d : Nat) (T : Tr d) (n : Nat) (deep : Int) (s : RSt), stB n d deep T = true → (∀ x ∈ s.ss, vIn 3 x.1 = true) → ∀ x ∈ (doT d T s).ss, vIn 3 x.1 = true
  | 0, _, _, _, s, _, h => h
  | d + 1, (l : List (Pay × Tr d × Tr d)), n, deep, s, hs, h => by
    show ∀ x ∈ (l.foldl (fun s x => stepS (doT d) x s) s).ss, vIn 3 x.1 = true
    have hs' : (l.all fun x => decide (1 ≤ deep) && payB n x.1 (decide (ln d x.2.1 + ln d x.2.2 = 0)) && (stB n d (deep - 1) x.2.1 && stB n d (deep - 1) x.2.2)) = true := hs
    clear hs
    induction l generalizing s with
    | nil => exact h
    | cons y l ih =>
      rw [List.all_cons, Bool.and_eq_true_iff] at hs'
      obtain ⟨hx, hr⟩ := hs'
      simp only [Bool.and_eq_true_iff] at hx
      obtain ⟨⟨_, hp⟩, h1, h2⟩ := hx
      rw [List.foldl_cons]
      refine ih _ ?_ hr
      unfold stepS
      split
      · exact h
      · split
        · rename_i hk1 hk3
          have hv : vIn 3 y.1.h = true := by
            unfold payB at hp
            rw [if_neg hk1, if_pos hk3] at hp
            simp only [Bool.and_eq_true_iff] at hp
            exact hp.2.1.2
          intro x hx
          rcases List.mem_append.1 hx with hx | hx
          · exact h x hx
          · obtain rfl : x = _ := by simpa using hx
            exact hv
        · split
          · exact doT_told d _ n _ s h1 h
          · exact doT_told d _ n _ s h2 h
theorem row_inj {zs : List Int} {n : Nat} (hr : rowB zs n = true) (hn : n ≤ 4) {a b : Int} (a0 : 0 ≤ a) (a1 : a < n) (b0 : 0 ≤ b) (b1 : b < n) : zs.getD a.toNat 0 = zs.getD b.toNat 0 ↔ a = b := by
  refine ⟨fun h => ?_, fun h => by rw [h]⟩
  have e1 := back_of hr hn a0 a1
  have e2 := back_of hr hn b0 b1
  rw [h] at e1
  exact e1.symm.trans e2
def toldF (zs : List Int) (s : RSt) : RSt := ⟨s.n, s.ws, s.ss.map fun x => (zs.getD x.1.toNat 0, x.2)⟩
theorem doT_turn (zs : List Int) : ∀ (d : Nat) (T : Tr d) (s : RSt), doT d (mapT (hostF zs) d T) (toldF zs s) = toldF zs (doT d T s)
  | 0, _, _ => rfl
  | d + 1, (l : List (Pay × Tr d × Tr d)), s => by
    show (l.map fun x => (hostF zs x.1, mapT (hostF zs) d x.2.1, mapT (hostF zs) d x.2.2)).foldl (fun s x => stepS (doT d) x s) (toldF zs s) = toldF zs (l.foldl (fun s x => stepS (doT d) x s) s)
    rw [List.foldl_map]
    induction l generalizing s with
    | nil => rfl
    | cons y l ih =>
      rw [List.foldl_cons, List.foldl_cons, ← ih]
      congr 1
      obtain ⟨p, T1, T2⟩ := y
      unfold stepS
      by_cases h1 : p.k = 1
      · have e : hostF zs p = p := by unfold hostF; rw [if_neg (by omega)]
        simp only [e, h1, if_true]
        rfl
      · by_cases h3 : p.k = 3
        · have e : hostF zs p = { p with h := zs.getD p.h.toNat 0 } := by unfold hostF; rw [if_pos h3]
          simp only [e, h3]
          simp [toldF]
        · have e : hostF zs p = p := by unfold hostF; rw [if_neg h3]
          simp only [e]
          rw [if_neg h1, if_neg h3, if_neg h1, if_neg h3]
          show (if s.n.getD p.v.toNat 0 ≠ 0 then _ else _) = _
          by_cases h0 : s.n.getD p.v.toNat 0 ≠ 0
          · rw [if_pos h0, if_pos h0]; exact doT_turn zs d T1 s
          · rw [if_neg h0, if_neg h0]; exact doT_turn zs d T2 s
theorem toH_turn {zs : List Int} (hr : rowB zs 3 = true) (ss : List (Int × Int)) (h : ∀ x ∈ ss, vIn 3 x.1 = true) (k : Nat) (hk : k < 3) : toH (zs.getD k 0) (ss.map fun x => (zs.getD x.1.toNat 0, x.2)) = toH (k : Int) ss := by
  unfold toH
  induction ss with
  | nil => rfl
  | cons y ss ih =>
    have hy := h y (by simp)
    simp [vIn] at hy
    have e := row_inj hr (by omega) (a := y.1) (b := (k : Int)) hy.1 hy.2 (by omega) (by omega)
    rw [Int.toNat_natCast] at e
    have ih' := ih (fun x hx => h x (by simp [hx]))
    rw [List.map_cons, List.filter_cons, List.filter_cons]
    by_cases hq : y.1 = (k : Int)
    · rw [if_pos (by simpa using e.2 hq), if_pos (by simpa using hq), List.map_cons, List.map_cons, ih']
    · rw [if_neg (by simpa using fun hh => hq (e.1 hh)), if_neg (by simpa using hq), ih']
theorem turn_run {zs : List Int} {ls : List (Int × Int)} {d : Nat} {T : Tr d} {ns : List Int} (h : tpOk zs ls d T = true) (hl : ns.length = ls.length) (ht : tenB ns = true) :
    numsB ls d T ns = true ∧ numsB (tpL zs ls d T) d (tpT zs ls d T) ns = true ∧ (runS (tpL zs ls d T) d (tpT zs ls d T) ns).n = (runS ls d T ns).n ∧ (runS (tpL zs ls d T) d (tpT zs ls d T) ns).ws = (runS ls d T ns).ws ∧
    ∀ k : Nat, k < 3 → toH (zs.getD k 0) (runS (tpL zs ls d T) d (tpT zs ls d T) ns).ss = toH (k : Int) (runS ls d T ns).ss := by
  obtain ⟨hp, hr, hq, -⟩ := turned_back h
  have e1 : tpL zs ls d T = turnLs zs ls := by unfold tpL; rw [if_pos h]
  have e2 : tpT zs ls d T = mapT (hostF zs) d T := by unfold tpT; rw [if_pos h]
  rw [e1, e2] at hq ⊢
  have n1 : numsB ls d T ns = true := by unfold numsB; rw [hp, ht]; simp [hl]
  have n2 : numsB (turnLs zs ls) d (mapT (hostF zs) d T) ns = true := by unfold numsB; rw [hq, ht, turnLs_len]; simp [hl]
  have r1 : runS ls d T ns = doT d T ⟨ns, [], []⟩ := by unfold runS; rw [if_pos n1]
  have r2 : runS (turnLs zs ls) d (mapT (hostF zs) d T) ns = toldF zs (doT d T ⟨ns, [], []⟩) := by unfold runS; rw [if_pos n2]; exact doT_turn zs d T ⟨ns, [], []⟩
  rw [r1, r2]
  obtain ⟨-, -, hs, -⟩ := progB4 hp
  exact ⟨n1, n2, rfl, rfl, fun k hk => toH_turn hr _ (doT_told d T ls.length 3 _ hs (by simp)) k hk⟩

def VarsR (zs : List Int) (n : Nat) (s s' : RSt) : Prop := s.n.length = n ∧ s'.n.length = n ∧ (∀ v : Int, 0 ≤ v → v < n → s'.n.getD (zs.getD v.toNat 0).toNat 0 = s.n.getD v.toNat 0) ∧ s'.ss = s.ss
end Go.Proofs.YthcgdhlemieboaaGreat

namespace Go.Proofs.YthcgdhlemieboaaGreat
open Go.RowKit
set_option linter.unusedSimpArgs false
set_option linter.unusedVariables false
attribute [local go_sem] World.cell?_alloc_some

def X8 (W : World) (N : Nat) (v0 v1 v2 v3 v4 v5 v6 v7 : Value) : Prop := C8 W N v0 v1 v2 v3 v4 v5 v6 v7 ∧ ∃ z0 z1 z2 z3 z4 z5 z6 z7, C8 W (N + 1) z0 z1 z2 z3 z4 z5 z6 z7
theorem X8.below {w w' : World} {N : Nat} {v0 v1 v2 v3 v4 v5 v6 v7 : Value} (h : X8 w N v0 v1 v2 v3 v4 v5 v6 v7) (hb : Below w.heap.size w w') : X8 w' N v0 v1 v2 v3 v4 v5 v6 v7 := by
  obtain ⟨h1, z0, z1, z2, z3, z4, z5, z6, z7, h2⟩ := h
  exact ⟨h1.below hb, z0, z1, z2, z3, z4, z5, z6, z7, h2.below hb⟩
theorem X8.of {w w' : World} {N : Nat} {v0 v1 v2 v3 v4 v5 v6 v7 u0 u1 u2 u3 u4 u5 u6 u7 : Value} (h : X8 w N v0 v1 v2 v3 v4 v5 v6 v7) (h1 : C8 w' N u0 u1 u2 u3 u4 u5 u6 u7) (hb : w'.heap[N + 1]? = w.heap[N + 1]?) : X8 w' N u0 u1 u2 u3 u4 u5 u6 u7 := by
  obtain ⟨_, z0, z1, z2, z3, z4, z5, z6, z7, ⟨c0, c1, c2, c3, c4, c5, c6, c7⟩, f0, f1, f2, f3, f4, f5, f6, f7⟩ := h
  have hc : ∀ o, w'.cell? ⟨N + 1, o, none⟩ = w.cell? ⟨N + 1, o, none⟩ := fun o => World.cell?_of_block hb
  have hf : ∀ o, w'.frozen? ⟨N + 1, o, none⟩ = w.frozen? ⟨N + 1, o, none⟩ := fun o => World.frozen?_of_block (a := ⟨N + 1, o, none⟩) hb
  exact ⟨h1, z0, z1, z2, z3, z4, z5, z6, z7, ⟨(hc 0).trans c0, (hc 1).trans c1, (hc 2).trans c2, (hc 3).trans c3, (hc 4).trans c4, (hc 5).trans c5, (hc 6).trans c6, (hc 7).trans c7⟩, (hf 0).trans f0, (hf 1).trans f1, (hf 2).trans f2, (hf 3).trans f3, (hf 4).trans f4, (hf 5).trans f5, (hf 6).trans f6, (hf 7).trans f7⟩
theorem far1 (w : World) (N o : Nat) (u : Value) : (w.setCell ⟨N, o, none⟩ u).heap[N + 1]? = w.heap[N + 1]? := Below.heap_setCell _ _ _ _ (by simp)
theorem X8.new (w : World) (v0 v1 v2 v3 v4 v5 v6 v7 : Value) (T : TypeId) : X8 ((w.alloc (.cells #[v0, v1, v2, v3, v4, v5, v6, v7] T)).alloc (.cells #[.int .i64 0, .int .i64 0, .int .i64 0, .int .i64 0, .int .i64 0, .int .i64 0, .slice none 0 0, .slice none 0 0] T)) w.heap.size v0 v1 v2 v3 v4 v5 v6 v7 := by
  have h1 := C8.new w v0 v1 v2 v3 v4 v5 v6 v7 T
  have h2 := C8.new (w.alloc (.cells #[v0, v1, v2, v3, v4, v5, v6, v7] T)) (.int .i64 0) (.int .i64 0) (.int .i64 0) (.int .i64 0) (.int .i64 0) (.int .i64 0) (.slice none 0 0) (.slice none 0 0) T
  rw [show (w.alloc (.cells #[v0, v1, v2, v3, v4, v5, v6, v7] T)).heap.size = w.heap.size + 1 by simp] at h2
  exact ⟨h1.below ((Below.refl _ _).alloc (Nat.le_refl _) _), _, _, _, _, _, _, _, _, h2⟩
def Tf (F g : FuncId) (f : Pay → Pay) (rv : Value) (k : Nat) (T : Tr k) (wx : World) (s : Value) : Prop := Calls Tryz.prog F #[s, rv, .func (.func g) #[] #[]] wx fun e w' => ∃ v' bs, e = .returned v' ∧ Below wx.heap.size wx w' ∧ Own w' k v' (mapT f k T) bs ∧ (∀ b ∈ bs, wx.heap.size ≤ b ∧ b < w'.heap.size) ∧ bs.Nodup
def payV (q : Pay) (t e : Value) : Value := .agg #[.int .i64 q.k, .int .i64 q.v, .int .i64 q.vk, .int .i64 q.va, .int .i64 q.vb, .int .i64 q.h, t, e]
def SfP (f : Pay → Pay) (k : Nat) (p : Pay) (T1 T2 : Tr k) (w : World) (x : Ending) (w' : World) : Prop := ∃ t' e' b1 b2, x = .returned (payV (f p) t' e') ∧ Below w.heap.size w w' ∧ Own w' k t' (mapT f k T1) b1 ∧ Own w' k e' (mapT f k T2) b2 ∧ (∀ b ∈ b1 ++ b2, w.heap.size ≤ b ∧ b < w'.heap.size) ∧ (b1 ++ b2).Nodup
def Sf (g : FuncId) (f : Pay → Pay) (rv : Value) (k : Nat) (p : Pay) (t e : Value) (T1 T2 : Tr k) (w : World) : Prop := Calls Tryz.prog g #[payV p t e, rv] w (SfP f k p T1 T2 w)

end Go.Proofs.YthcgdhlemieboaaGreat

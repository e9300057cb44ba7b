/- Steps counted as they stand: what the two answers have in common, and where a step lies among all. -/
import Derived.Test.YtepacahfpbedoaaAtP
import Derived.Test.YtepacahfpbedoaaCtl
import Derived.Test.YtepacahfpbedoaaDpr
import Derived.Deep.Upon
namespace Go.Proofs.Ytepacahfpbedoaa
open Go.RowKit
set_option linter.unusedSimpArgs false
set_option linter.unusedVariables false

def okAt (ls : List (Int × Int)) (d : Nat) (T : Tr d) (n : Int) : Bool := progB ls d T && vIn (cnt d T) n
def zeroSg : Sg := ⟨0, ⟨0, 0, 0, 0, 0, 0⟩, (), ()⟩
def xAt (ls : List (Int × Int)) (d : Nat) (T : Tr d) (n : Int) : Sg := if okAt ls d T n = true then ((flat d T)[n.toNat]?).getD zeroSg else zeroSg
theorem at_one {w : World} {ls : List (Int × Int)} {d : Nat} {T : Tr d} {n : Int} {e : Ending} {w' : World} (h : AtPost w ls d T n e w') : Below w.heap.size w w' ∧ ∃ t' e', e = .returned (.tuple #[stepOf (xAt ls d T n).2.1 t' e', .bool (okAt ls d T n)]) ∧ Rep w' (xAt ls d T n).1 t' (xAt ls d T n).2.2.1 ∧ Rep w' (xAt ls d T n).1 e' (xAt ls d T n).2.2.2 := by
  obtain ⟨hb, ⟨hk, x, t', e', b1, b2, hx, he, o1, o2, -, -⟩ | ⟨hk, he⟩⟩ := h
  · have hk' : okAt ls d T n = true := hk
    have : xAt ls d T n = x := by unfold xAt; rw [if_pos hk', hx]; rfl
    rw [this, hk']
    exact ⟨hb, t', e', he, o1.rep, o2.rep⟩
  · have hk' : okAt ls d T n = false := hk
    have : xAt ls d T n = zeroSg := by unfold xAt; rw [hk']; rfl
    rw [this, hk']
    exact ⟨hb, .slice none 0 0, .slice none 0 0, he, ⟨none, 0, rfl⟩, ⟨none, 0, rfl⟩⟩
/-- One step alone. -/
def single (x : Sg) : Tr (x.1 + 1) := ([(x.2.1, x.2.2.1, x.2.2.2)] : List (Pay × Tr x.1 × Tr x.1))
theorem rep_single {w : World} {x : Sg} {t e : Value} (h1 : Rep w x.1 t x.2.2.1) (h2 : Rep w x.1 e x.2.2.2) (X : TypeId) : Rep (w.alloc (.cells #[.int .i64 x.2.1.k, .int .i64 x.2.1.v, .int .i64 x.2.1.vk, .int .i64 x.2.1.va, .int .i64 x.2.1.vb, .int .i64 x.2.1.h, t, e] X)) (x.1 + 1) (.slice (some ⟨w.heap.size, 0, none⟩) 1 1) (single x) := by
  have A : Below w.heap.size w (w.alloc (.cells #[.int .i64 x.2.1.k, .int .i64 x.2.1.v, .int .i64 x.2.1.vk, .int .i64 x.2.1.va, .int .i64 x.2.1.vb, .int .i64 x.2.1.h, t, e] X)) := (Below.refl _ _).alloc (Nat.le_refl _) _
  refine ⟨_, 1, rfl, Nat.le_refl _, by unfold maxLen; omega, fun i hi => ?_⟩
  match i, hi with
  | 0, _ => exact ⟨w.heap.size, 0, t, e, rfl, ⟨by first | (simp; done) | (simp; rfl), by first | (simp; done) | (simp; rfl), by first | (simp; done) | (simp; rfl), by first | (simp; done) | (simp; rfl), by first | (simp; done) | (simp; rfl), by first | (simp; done) | (simp; rfl), by first | (simp; done) | (simp; rfl), by first | (simp; done) | (simp; rfl)⟩, h1.below A, h2.below A⟩
theorem single_eq {w : World} {x : Sg} {d : Nat} {y : Pay × Tr d × Tr d} {v : Value} (h : x = ⟨d, y⟩) (r : Rep w (x.1 + 1) v (single x)) : Rep w (d + 1) v ([y] : List (Pay × Tr d × Tr d)) := by subst h; exact r
theorem flat_appd {d : Nat} (a b : List (Pay × Tr d × Tr d)) : flat (d + 1) (a ++ b : List (Pay × Tr d × Tr d)) = flat (d + 1) (a : List (Pay × Tr d × Tr d)) ++ flat (d + 1) (b : List (Pay × Tr d × Tr d)) := by
  show List.flatMap _ (a ++ b) = List.flatMap _ a ++ List.flatMap _ b
  rw [List.flatMap_append]
theorem flat_split {d : Nat} (l : List (Pay × Tr d × Tr d)) (k : Nat) (hk : k < l.length) : flat (d + 1) (l : List (Pay × Tr d × Tr d)) = flat (d + 1) (l.take k : List (Pay × Tr d × Tr d)) ++ ((⟨d, l[k]⟩ : Σ k, Pay × Tr k × Tr k) :: (flat d l[k].2.1 ++ flat d l[k].2.2)) ++ flat (d + 1) (l.drop (k + 1) : List (Pay × Tr d × Tr d)) := by
  have e : l = l.take k ++ ([l[k]] ++ l.drop (k + 1)) := by simp
  have h1 := flat_appd (l.take k) ([l[k]] ++ l.drop (k + 1))
  rw [← e] at h1
  rw [h1, flat_appd, List.append_assoc]
  congr 1
  show _ ++ _ = _ ++ _
  congr 1
  show List.flatMap _ [l[k]] = _
  simp
/-- A step of the program's own. -/
theorem flat_top {d : Nat} (l : List (Pay × Tr d × Tr d)) (k : Nat) (hk : k < l.length) : (flat (d + 1) (l : List (Pay × Tr d × Tr d)))[cnt (d + 1) (l.take k : List (Pay × Tr d × Tr d))]? = some ⟨d, l[k]⟩ := by
  have hlen : (flat (d + 1) (l.take k : List (Pay × Tr d × Tr d))).length = cnt (d + 1) (l.take k : List (Pay × Tr d × Tr d)) := flat_length (d + 1) _
  rw [flat_split l k hk, List.append_assoc, List.getElem?_append_right (by rw [hlen]; exact Nat.le_refl _), hlen]
  simp
/-- A step in one of these. -/
theorem flat_in {d : Nat} (l : List (Pay × Tr d × Tr d)) (k m : Nat) (hk : k < l.length) (hm : m < cnt d l[k].2.1 + cnt d l[k].2.2) : (flat (d + 1) (l : List (Pay × Tr d × Tr d)))[cnt (d + 1) (l.take k : List (Pay × Tr d × Tr d)) + (1 + m)]? = (flat d l[k].2.1 ++ flat d l[k].2.2)[m]? := by
  have hlen : (flat (d + 1) (l.take k : List (Pay × Tr d × Tr d))).length = cnt (d + 1) (l.take k : List (Pay × Tr d × Tr d)) := flat_length (d + 1) _
  rw [flat_split l k hk, List.append_assoc, List.getElem?_append_right (by rw [hlen]; omega), hlen]
  rw [show cnt (d + 1) (l.take k : List (Pay × Tr d × Tr d)) + (1 + m) - cnt (d + 1) (l.take k : List (Pay × Tr d × Tr d)) = m + 1 by omega]
  rw [List.cons_append, List.getElem?_cons_succ, List.getElem?_append_left (by simp [flat_length]; omega)]
theorem stB_more {n : Int} : ∀ (d : Nat) (k : Int) (T : Tr d), stB n d k T = true → stB n d (k + 1) T = true
  | 0, _, _, _ => rfl
  | d + 1, k, (l : List (Pay × Tr d × Tr d)), h => by
    refine List.all_eq_true.2 (fun x hx => ?_)
    have := List.all_eq_true.1 h x hx
    simp only [Bool.and_eq_true, decide_eq_true_eq] at this ⊢
    obtain ⟨⟨h1, h2⟩, h3, h4⟩ := this
    have e : k + 1 - 1 = k - 1 + 1 := by omega
    refine ⟨⟨by omega, h2⟩, ?_, ?_⟩
    · rw [e]; exact stB_more d _ _ h3
    · rw [e]; exact stB_more d _ _ h4
theorem progB_in {ls : List (Int × Int)} {d : Nat} {l : List (Pay × Tr (d + 1) × Tr (d + 1))} (h : progB ls (d + 2) (l : List (Pay × Tr (d + 1) × Tr (d + 1))) = true) (k : Nat) (hk : k < l.length) (A B : List (Pay × Tr d × Tr d)) (hA : l[k].2.1 = A) (hB : l[k].2.2 = B) : progB ls (d + 1) (A ++ B : List (Pay × Tr d × Tr d)) = true := by
  obtain ⟨h1, h2, h3, h4⟩ := progB_parts h
  have hm := List.all_eq_true.1 h3 l[k] (List.getElem_mem hk)
  simp only [Bool.and_eq_true, decide_eq_true_eq] at hm
  obtain ⟨-, h5, h6⟩ := hm
  rw [hA] at h5
  rw [hB] at h6
  have h7 := stB_more (d + 1) _ _ h5
  have h8 := stB_more (d + 1) _ _ h6
  have e : (3 : Int) - 1 + 1 = 3 := by omega
  rw [e] at h7 h8
  have hc : cnt (d + 1) (A : List (Pay × Tr d × Tr d)) + cnt (d + 1) (B : List (Pay × Tr d × Tr d)) ≤ 8 := by
    have := flat_cnt (d + 2) (l : List (Pay × Tr (d + 1) × Tr (d + 1))) ⟨d + 1, l[k]⟩ (by
      have := flat_top l k hk
      exact List.mem_of_getElem? this)
    have e1 : cnt (d + 1) l[k].2.1 = cnt (d + 1) (A : List (Pay × Tr d × Tr d)) := by rw [hA]
    have e2 : cnt (d + 1) l[k].2.2 = cnt (d + 1) (B : List (Pay × Tr d × Tr d)) := by rw [hB]
    simp only at this
    omega
  unfold progB
  rw [stB_app, cnt_app]
  simp [h1, h2, h7, h8, hc]
/-- The cells of steps that lie somewhere. -/
theorem rep_cells {w : World} {d : Nat} {ad : Addr} {c : Nat} : ∀ {l : List (Pay × Tr d × Tr d)}, Rep w (d + 1) (.slice (some ad) l.length c) (l : List (Pay × Tr d × Tr d)) → 0 < l.length → ∃ b off, ad = ⟨b, off, none⟩ ∧ ∃ news : List Value, FlatR w (l.map fun y => (⟨d, y⟩ : Σ k, Pay × Tr k × Tr k)) news ∧ news.length = l.length * 8 ∧ ∀ j u, news[j]? = some u → w.cell? ⟨b, off + j, none⟩ = some u := by
  intro l h h0
  obtain ⟨a', c', hs, -, -, hr⟩ := h
  obtain ⟨b, off, _, _, ha, -⟩ := hr 0 h0
  simp only [Value.slice.injEq] at hs
  have hab : ad = ⟨b, off, none⟩ := Option.some.inj (hs.1.trans ha)
  refine ⟨b, off, hab, ?_⟩
  have key : ∀ (m : List (Pay × Tr d × Tr d)) (o : Nat), (∀ i (hi : i < m.length), ∃ t e, StepAt w b (o + i * 8) m[i].1 t e ∧ Rep w d t m[i].2.1 ∧ Rep w d e m[i].2.2) → ∃ news : List Value, FlatR w (m.map fun y => (⟨d, y⟩ : Σ k, Pay × Tr k × Tr k)) news ∧ news.length = m.length * 8 ∧ ∀ j u, news[j]? = some u → w.cell? ⟨b, o + j, none⟩ = some u := by
    intro m
    induction m with
    | nil => exact fun o _ => ⟨[], rfl, rfl, fun j u hu => by simp at hu⟩
    | cons y m ih =>
      intro o hm
      obtain ⟨t, e, hS, r1, r2⟩ := hm 0 (by simp)
      obtain ⟨news, f1, f2, f3⟩ := ih (o + 8) (fun i hi => by
        obtain ⟨t, e, q1, q2, q3⟩ := hm (i + 1) (by simp; omega)
        rw [show o + (i + 1) * 8 = o + 8 + i * 8 by omega] at q1
        exact ⟨t, e, q1, q2, q3⟩)
      refine ⟨cells8 y.1 t e ++ news, ⟨t, e, news, rfl, r1, r2, f1⟩, by simp [cells8, f2]; omega, fun j u hu => ?_⟩
      obtain ⟨s0, s1, s2, s3, s4, s5, s6, s7⟩ := hS
      simp only [Nat.zero_mul, Nat.add_zero, List.getElem_cons_zero] at s0 s1 s2 s3 s4 s5 s6 s7
      rcases Nat.lt_or_ge j 8 with hj | hj
      · rw [List.getElem?_append_left (by simp [cells8]; omega)] at hu
        match j, hj, hu with
        | 0, _, hu => cases hu; exact s0
        | 1, _, hu => cases hu; exact s1
        | 2, _, hu => cases hu; exact s2
        | 3, _, hu => cases hu; exact s3
        | 4, _, hu => cases hu; exact s4
        | 5, _, hu => cases hu; exact s5
        | 6, _, hu => cases hu; exact s6
        | 7, _, hu => cases hu; exact s7
      · rw [List.getElem?_append_right (by simp [cells8]; omega)] at hu
        have hl : (cells8 y.1 t e).length = 8 := rfl
        rw [hl] at hu
        have := f3 _ _ hu
        rwa [show o + 8 + (j - 8) = o + j by omega] at this
  exact key l off (fun i hi => by
    obtain ⟨b', off', t, e, ha', q1, q2, q3⟩ := hr i hi
    rw [ha] at ha'
    simp only [Option.some.injEq, Addr.mk.injEq] at ha'
    obtain ⟨rfl, rfl, -⟩ := ha'
    exact ⟨t, e, q1, q2, q3⟩)
/-- Steps are put behind a row, wherever they lie, and if they are none. -/
theorem wp_append_steps {P : Program} (w : World) {o : Oper} {a : Act} {K : Act → World → Prop} {Q : Exit → Act → World → Prop} (s x : Operand) (t : TypeId)
    (ho : o.op = .call { callee := .builtin .append, args := #[s, x], argTypes := #[t, t] })
    (base : Nat) (e : TypeId) (i : TypeInfo) (z : Value) (bytes : Nat) (ht : P.underlying t = some (.slice e)) (hi : P.info? e = some i) (hz : i.zero = some z)
    (hsize : i.size = 8) (hby : i.bytes = bytes) (hzs : z.cells.size = 8)
    (v : Value) (n : Nat) (xs : List Value) (hs : a.eval s = v) (hown : w.ownsRow base e 8 v n xs)
    (W : World) (hW : ∀ q u, W.cell? q = some u → w.cell? q = some u) (d : Nat) (xa : Option Addr) (xc : Nat) (l : List (Pay × Tr d × Tr d)) (hx : a.eval x = .slice xa l.length xc) (hR : Rep W (d + 1) (.slice xa l.length xc) (l : List (Pay × Tr d × Tr d)))
    (h63 : n + l.length ≤ maxLen) (hbytes : (n + l.length) * bytes ≤ 140737488355328) (hbase : base ≤ w.heap.size)
    (h : ∀ v' w' news, w'.ownsRow base e 8 v' (n + l.length) (xs ++ news) → FlatR W (l.map fun y => (⟨d, y⟩ : Σ k, Pay × Tr k × Tr k)) news → w.grownBy w' v.ownBlock → (v'.ownBlock = v.ownBlock ∨ v'.ownBlock = some w.heap.size) → K (a.put o.dst v') w') : o.wp P a w K Q := by
  cases xa with
  | none =>
    have hz0 : l.length = 0 := by
      rcases Nat.eq_zero_or_pos l.length with h | hpos
      · exact h
      · obtain ⟨a', c', hs', -, -, hr⟩ := hR
        obtain ⟨b, off, _, _, ha, -⟩ := hr 0 hpos
        simp only [Value.slice.injEq] at hs'
        rw [ha] at hs'
        cases hs'.1
    have hl : l = [] := List.length_eq_zero_iff.1 hz0
    subst hl
    have hsrc : Src P i.size t (.slice none 0 xc) 0 [] w := ⟨.inl ⟨e, ht⟩, fun w' => by simp [Builtin.lenOf], by simp [Builtin.firstCells], by simp [Builtin.firstCells], by simp, by simp⟩
    obtain ⟨ba, sl, sc, hv, hle⟩ : ∃ ba sl sc, v = .slice ba sl sc ∧ sl ≤ sc := by
      rcases hown.2 with ⟨rfl, rfl⟩ | ⟨g, cap, cur, rfl, _, _, hnc, _⟩
      · exact ⟨none, 0, 0, rfl, Nat.le_refl _⟩
      · exact ⟨_, _, _, rfl, hnc⟩
    have hr := run_append_nothing (P := P) w t t o.type e i ht hi ba sl sc hle (.slice none 0 xc) hsrc
    rw [← hv] at hr
    have hx' : a.eval x = .slice none 0 xc := hx
    unfold Oper.wp execOp
    simp only [ho, resolve, invoke, builtin, Sem.run_bind, Sem.run_pure, Result.andThen_ok, List.map_toArray, List.map_cons, List.map_nil, hs, hx', hr]
    exact h v w [] (by simpa using hown) rfl ⟨rfl, rfl, rfl, Nat.le_refl _, fun _ _ _ => rfl⟩ (.inl rfl)
  | some ad =>
    rcases Nat.eq_zero_or_pos l.length with hz0 | hpos
    · have hl : l = [] := List.length_eq_zero_iff.1 hz0
      subst hl
      exact wp_append_at w s x t ho base e i z 8 bytes ht hi hz hsize hby hzs (by decide) v n xs hs hown ad 0 xc [] hx (by simp) (fun j u hu => by simp at hu) (by simp) h63 hbytes hbase (fun v' w' a1 a2 _ a4 => h v' w' [] a1 rfl a2 a4)
    · obtain ⟨b, off, rfl, news, f1, f2, f3⟩ := rep_cells hR hpos
      exact wp_append_at w s x t ho base e i z 8 bytes ht hi hz hsize hby hzs (by decide) v n xs hs hown ⟨b, off, none⟩ l.length xc news hx f2 (fun j u hu => by rw [Addr.add_mid]; exact hW _ _ (f3 j u hu)) (FlatR.one f1) h63 hbytes hbase (fun v' w' a1 a2 _ a4 => h v' w' news a1 f1 a2 a4)
/-- A row that holds these steps is these steps. -/
theorem rep_flat {w w' : World} {B d : Nat} {e : TypeId} {v : Value} {l : List (Pay × Tr d × Tr d)} {xs : List Value} (ho : w'.ownsRow B e 8 v l.length xs) (hf : FlatR w (l.map fun y => (⟨d, y⟩ : Σ k, Pay × Tr k × Tr k)) xs) (hw : ∀ a u, w.cell? a = some u → w'.cell? a = some u) : Rep w' (d + 1) v (l : List (Pay × Tr d × Tr d)) := by
  obtain ⟨h0, ⟨hv, hn⟩ | ⟨g, cap, cur, hv, hg, hh, hc, hm, hs, ht⟩⟩ := id ho
  · subst hv
    exact ⟨none, 0, by rw [hn], by omega, by unfold maxLen; omega, fun i hi => by omega⟩
  · subst hv
    refine ⟨_, cap, rfl, hc, hm, fun i hi => ?_⟩
    obtain ⟨t, u, q1, q2, q3⟩ := FlatR.get (q := i) (x := ⟨d, l[i]⟩) hf (by simp [hi])
    refine ⟨g, 0, t, u, rfl, ?_, q2.on hw, q3.on hw⟩
    rw [Nat.zero_add]
    exact row_cells ho q1

end Go.Proofs.Ytepacahfpbedoaa

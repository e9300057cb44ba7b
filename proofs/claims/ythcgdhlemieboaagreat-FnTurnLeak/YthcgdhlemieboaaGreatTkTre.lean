/- Steps in steps as they lie in memory, and what is said of them. -/
import Derived.Test.YthcgdhlemieboaaGreatTkLab
import Derived.Laws.AppendOwn
namespace Go.Proofs.YthcgdhlemieboaaGreat
open Go.RowKit
set_option linter.unusedSimpArgs false
set_option linter.unusedVariables false

theorem nrm : (∀ (α : Type) (l : List α) (i : Nat) (h : i < l.toArray.size), l.toArray[i] = l[i]'(by simpa using h)) ∧ (∀ (α : Type) (a : α) (l : List α) (h : 0 < (a :: l).length), (a :: l)[0] = a) ∧ (∀ (α : Type) (a : α) (l : List α) (i : Nat) (h : i + 1 < (a :: l).length), (a :: l)[i + 1] = l[i]'(by simpa using h)) ∧ (∀ (α : Type) (l : List α) (i : Nat) (a : α), l.toArray.setIfInBounds i a = (l.set i a).toArray) ∧ (∀ (α : Type) (a b : α) (l : List α), (a :: l).set 0 b = b :: l) ∧ (∀ (α : Type) (a b : α) (l : List α) (n : Nat), (a :: l).set (n + 1) b = a :: l.set n b) :=
  ⟨fun _ _ _ _ => List.getElem_toArray _, fun _ _ _ _ => rfl, fun _ _ _ _ _ => rfl, fun _ _ _ _ => List.setIfInBounds_toArray _ _ _, fun _ _ _ _ => rfl, fun _ _ _ _ _ => rfl⟩
structure Pay where
  k : Int
  v : Int
  vk : Int
  va : Int
  vb : Int
  h : Int
def Tr : Nat → Type
  | 0 => Unit
  | d + 1 => List (Pay × Tr d × Tr d)
def cnt : (d : Nat) → Tr d → Nat
  | 0, _ => 0
  | d + 1, (l : List (Pay × Tr d × Tr d)) => (l.map fun x => 1 + cnt d x.2.1 + cnt d x.2.2).sum
def ln : (d : Nat) → Tr d → Nat
  | 0, _ => 0
  | d + 1, (l : List (Pay × Tr d × Tr d)) => l.length
def vIn (n v : Int) : Bool := decide (0 ≤ v) && decide (v < n)
def valB (n vk va vb : Int) : Bool :=
  if vk = 1 then vIn 10 va && decide (vb = 0) else if vk = 2 then vIn n va && decide (vb = 0) else if vk = 3 ∨ vk = 4 then vIn n va && vIn n vb else false
def nonV (p : Pay) : Bool := decide (p.vk = 0) && decide (p.va = 0) && decide (p.vb = 0)
def payB (n : Int) (p : Pay) (z : Bool) : Bool :=
  vIn n p.v && (if p.k = 1 then valB n p.vk p.va p.vb && decide (p.h = 0) && z else if p.k = 3 then nonV p && vIn 3 p.h && z else if p.k = 2 then nonV p && decide (p.h = 0) else false)
def stB (n : Int) : (d : Nat) → (deep : Int) → Tr d → Bool
  | 0, _, _ => true
  | d + 1, deep, (l : List (Pay × Tr d × Tr d)) => l.all fun x => decide (1 ≤ deep) && payB n x.1 (decide (ln d x.2.1 + ln d x.2.2 = 0)) && (stB n d (deep - 1) x.2.1 && stB n d (deep - 1) x.2.2)

def StepAt (w : World) (b off : Nat) (p : Pay) (t e : Value) : Prop :=
  w.cell? ⟨b, off, none⟩ = some (.int .i64 p.k) ∧ w.cell? ⟨b, off + 1, none⟩ = some (.int .i64 p.v) ∧
  w.cell? ⟨b, off + 2, none⟩ = some (.int .i64 p.vk) ∧ w.cell? ⟨b, off + 3, none⟩ = some (.int .i64 p.va) ∧
  w.cell? ⟨b, off + 4, none⟩ = some (.int .i64 p.vb) ∧ w.cell? ⟨b, off + 5, none⟩ = some (.int .i64 p.h) ∧
  w.cell? ⟨b, off + 6, none⟩ = some t ∧ w.cell? ⟨b, off + 7, none⟩ = some e
def Rep (w : World) : (d : Nat) → Value → Tr d → Prop
  | 0, s, _ => ∃ a c, s = .slice a 0 c
  | d + 1, s, (l : List (Pay × Tr d × Tr d)) => ∃ a c, s = .slice a l.length c ∧ l.length ≤ c ∧ c ≤ maxLen ∧
      (∀ i (hi : i < l.length), ∃ b off t e, a = some ⟨b, off, none⟩ ∧ StepAt w b (off + i * 8) l[i].1 t e ∧ Rep w d t l[i].2.1 ∧ Rep w d e l[i].2.2)
def LRep (w : World) (s : Value) (ls : List (Int × Int)) : Prop := ∃ a c, s = .slice a ls.length c ∧ ls.length ≤ c ∧ c ≤ maxLen ∧
  (∀ i (hi : i < ls.length), ∃ b off, a = some ⟨b, off, none⟩ ∧ w.cell? ⟨b, off + i * 2, none⟩ = some (.int .i64 ls[i].1) ∧ w.cell? ⟨b, off + i * 2 + 1, none⟩ = some (.int .i64 ls[i].2))

theorem StepAt.on {w w' : World} (hw : ∀ a v, w.cell? a = some v → w'.cell? a = some v) {b off : Nat} {p : Pay} {t e : Value} (h : StepAt w b off p t e) : StepAt w' b off p t e := by
  obtain ⟨h0, h1, h2, h3, h4, h5, h6, h7⟩ := h
  exact ⟨hw _ _ h0, hw _ _ h1, hw _ _ h2, hw _ _ h3, hw _ _ h4, hw _ _ h5, hw _ _ h6, hw _ _ h7⟩
theorem Rep.on {w w' : World} (hw : ∀ a v, w.cell? a = some v → w'.cell? a = some v) : ∀ (d : Nat) (s : Value) (T : Tr d), Rep w d s T → Rep w' d s T := by
  intro d
  induction d with
  | zero => exact fun s T h => h
  | succ d ih =>
    intro s (l : List (Pay × Tr d × Tr d)) h
    obtain ⟨a, c, rfl, hl, hc, hcell⟩ := h
    refine ⟨a, c, rfl, hl, hc, fun i hi => ?_⟩
    obtain ⟨b, off, t, e, ha, h0, r1, r2⟩ := hcell i hi
    exact ⟨b, off, t, e, ha, h0.on hw, ih _ _ r1, ih _ _ r2⟩
theorem Rep.below {w w' : World} (hb : Below w.heap.size w w') {d : Nat} {s : Value} {T : Tr d} (h : Rep w d s T) : Rep w' d s T := h.on (fun _ _ h => cell_later hb h)
theorem LRep.on {w w' : World} (hw : ∀ a v, w.cell? a = some v → w'.cell? a = some v) {s : Value} {ls : List (Int × Int)} (h : LRep w s ls) : LRep w' s ls := by
  obtain ⟨a, c, rfl, hl, hc, hcell⟩ := h
  refine ⟨a, c, rfl, hl, hc, fun i hi => ?_⟩
  obtain ⟨b, off, ha, h0, h1⟩ := hcell i hi
  exact ⟨b, off, ha, hw _ _ h0, hw _ _ h1⟩
theorem LRep.below {w w' : World} (hb : Below w.heap.size w w') {s : Value} {ls : List (Int × Int)} (h : LRep w s ls) : LRep w' s ls := h.on (fun _ _ h => cell_later hb h)
theorem Rep.slice {w : World} {d : Nat} {s : Value} {T : Tr d} (h : Rep w d s T) : ∃ a c, s = .slice a (ln d T) c := by
  cases d with
  | zero => exact h
  | succ d => obtain ⟨a, c, rfl, _⟩ := h; exact ⟨a, c, rfl⟩
theorem w64 (n : Int) (h : -9223372036854775808 ≤ n ∧ n ≤ 9223372036854775807) : IntKind.i64.wrap n = n := by
  simp [IntKind.wrap, IntKind.bits, IntKind.signed]; omega
theorem ln_le_cnt : ∀ (d : Nat) (T : Tr d), ln d T ≤ cnt d T
  | 0, _ => Nat.le_refl _
  | d + 1, (l : List (Pay × Tr d × Tr d)) => by
    show l.length ≤ (l.map fun x => 1 + cnt d x.2.1 + cnt d x.2.2).sum
    induction l with
    | nil => simp
    | cons x l ih => simp; omega
theorem cnt_take {d : Nat} (l : List (Pay × Tr d × Tr d)) (i : Nat) (hi : i < l.length) : cnt (d + 1) (l.take (i + 1) : List (Pay × Tr d × Tr d)) = cnt (d + 1) (l.take i : List (Pay × Tr d × Tr d)) + 1 + cnt d l[i].2.1 + cnt d l[i].2.2 := by
  show ((l.take (i + 1)).map fun x => 1 + cnt d x.2.1 + cnt d x.2.2).sum = ((l.take i).map fun x => 1 + cnt d x.2.1 + cnt d x.2.2).sum + 1 + cnt d l[i].2.1 + cnt d l[i].2.2
  rw [List.take_succ_eq_append_getElem hi, List.map_append, List.sum_append]; simp; omega
theorem cnt_take_le {d : Nat} (l : List (Pay × Tr d × Tr d)) (i : Nat) : cnt (d + 1) (l.take i : List (Pay × Tr d × Tr d)) ≤ cnt (d + 1) (l : List (Pay × Tr d × Tr d)) := by
  show ((l.take i).map fun x => 1 + cnt d x.2.1 + cnt d x.2.2).sum ≤ (l.map fun x => 1 + cnt d x.2.1 + cnt d x.2.2).sum
  conv => rhs; rw [← List.take_append_drop i l]
  rw [List.map_append, List.sum_append]; omega

theorem stB_take {n : Int} {d : Nat} {deep : Int} (l : List (Pay × Tr d × Tr d)) (i : Nat) (hi : i < l.length) : stB n (d + 1) deep (l.take (i + 1) : List (Pay × Tr d × Tr d)) =
    (stB n (d + 1) deep (l.take i : List (Pay × Tr d × Tr d)) && (decide (1 ≤ deep) && payB n l[i].1 (decide (ln d l[i].2.1 + ln d l[i].2.2 = 0)) && (stB n d (deep - 1) l[i].2.1 && stB n d (deep - 1) l[i].2.2))) := by
  show List.all (l.take (i + 1)) _ = (List.all (l.take i) _ && _)
  rw [List.take_succ_eq_append_getElem hi, List.all_append]; simp
theorem stB_take_false {n : Int} {d : Nat} {deep : Int} (l : List (Pay × Tr d × Tr d)) (i : Nat) (h : stB n (d + 1) deep (l.take i : List (Pay × Tr d × Tr d)) = false) : stB n (d + 1) deep (l : List (Pay × Tr d × Tr d)) = false := by
  have e : List.all l (fun x => decide (1 ≤ deep) && payB n x.1 (decide (ln d x.2.1 + ln d x.2.2 = 0)) && (stB n d (deep - 1) x.2.1 && stB n d (deep - 1) x.2.2)) = (List.all (l.take i ++ l.drop i) (fun x => decide (1 ≤ deep) && payB n x.1 (decide (ln d x.2.1 + ln d x.2.2 = 0)) && (stB n d (deep - 1) x.2.1 && stB n d (deep - 1) x.2.2))) := by rw [List.take_append_drop]
  show List.all l _ = false
  rw [e, List.all_append]
  have h' : List.all (l.take i) _ = false := h
  rw [h']; rfl
theorem stB_nil {n : Int} : ∀ (d : Nat) (deep : Int) (T : Tr d), ln d T = 0 → stB n d deep T = true
  | 0, _, _, _ => rfl
  | d + 1, deep, (l : List (Pay × Tr d × Tr d)), h => by
    have : l = [] := List.eq_nil_of_length_eq_zero h
    subst this; rfl

end Go.Proofs.YthcgdhlemieboaaGreat

/- Rows that are made of what came of two programs, one behind the other. -/
import Derived.Test.YtepacahfpbedoaaPrl
import Derived.Test.YtepacahfpbedoaaLcx
import Derived.Test.YtepacahfpbedoaaDpr
import Derived.Laws.OwnMore
namespace Go.Proofs.Ytepacahfpbedoaa
open Go.RowKit
set_option linter.unusedSimpArgs false
set_option linter.unusedVariables false

/-- A row is put behind another one, whether it is nothing or not. -/
theorem wp_append_row {P : Program} (w : World) {o : Oper} {a : Act} {K : Act → World → Prop} {Q : Exit → Act → World → Prop} (s x : Operand) (t : TypeId)
    (ho : o.op = .call { callee := .builtin .append, args := #[s, x], argTypes := #[t, t] })
    (base : Nat) (e : TypeId) (i : TypeInfo) (z : Value) (size bytes : Nat) (ht : P.underlying t = some (.slice e)) (hi : P.info? e = some i) (hz : i.zero = some z)
    (hsize : i.size = size) (hby : i.bytes = bytes) (hzs : z.cells.size = size) (hsz : 0 < size)
    (v : Value) (n : Nat) (xs : List Value) (hs : a.eval s = v) (hown : w.ownsRow base e size v n xs)
    (xv : Value) (m : Nat) (news : List Value) (hx : a.eval x = xv) (B : Nat) (hxo : w.ownsRow B e size xv m news) (h1 : ∀ u ∈ news, u.oneCell' = true)
    (h63 : n + m ≤ maxLen) (hbytes : (n + m) * bytes ≤ 140737488355328) (hbase : base ≤ w.heap.size)
    (h : ∀ v' w', w'.ownsRow base e size v' (n + m) (xs ++ news) → w.grownBy w' v.ownBlock → (v'.ownBlock = v.ownBlock ∨ v'.ownBlock = some w.heap.size) → K (a.put o.dst v') w') : o.wp P a w K Q := by
  obtain ⟨h0, ⟨hv, hm⟩ | ⟨g, cap, cur, hv, hg, hh, hc, hcm, hsz', ht'⟩⟩ := id hxo
  · subst hv hm
    have hn : news = [] := List.length_eq_zero_iff.1 (by rw [h0]; simp)
    subst hn
    have hr := run_append_owned_none (P := P) w base t o.type e i size ht hi v n xs hown
    unfold Oper.wp execOp
    simp only [ho, resolve, invoke, builtin, Sem.run_bind, Sem.run_pure, Result.andThen_ok, List.map_toArray, List.map_cons, List.map_nil, hs, hx, hr]
    exact h v w (by simpa using hown) ⟨rfl, rfl, rfl, Nat.le_refl _, fun _ _ _ => rfl⟩ (.inl rfl)
  · subst hv
    exact wp_append_at w s x t ho base e i z size bytes ht hi hz hsize hby hzs hsz v n xs hs hown ⟨g, 0, none⟩ m cap news hx h0 (World.ownsRow.cells hxo rfl) h1 h63 hbytes hbase (fun v' w' a1 a2 _ a4 => h v' w' a1 a2 a4)

theorem R3.zero {B : Nat} {w : World} {a b c : Value} {s : RSt} (h : R3 B w a b c s) : R3 0 w a b c s := ⟨rowp_zero h.n, rowp_zero h.ws, rowp_zero h.ss, h.nw, h.ns, h.sw⟩
theorem pcells_both (xs ys : List (Int × Int)) : pcells (xs ++ ys) = pcells xs ++ pcells ys := by unfold pcells; rw [List.flatMap_append]
/-- What came of a program, in a box of its own. -/
def RBox (w : World) (b : Nat) (s : RSt) : Prop := ∃ ua uac ub ubc uc ucc, C3 w b (.slice ua s.n.length uac) (.slice ub s.ws.length ubc) (.slice uc s.ss.length ucc) ∧ R3 0 w (.slice ua s.n.length uac) (.slice ub s.ws.length ubc) (.slice uc s.ss.length ucc) s
theorem RBox.below {w w' : World} {b : Nat} {s : RSt} (h : RBox w b s) (hb : Below w.heap.size w w') : RBox w' b s := by
  obtain ⟨ua, uac, ub, ubc, uc, ucc, h1, h2⟩ := h
  exact ⟨ua, uac, ub, ubc, uc, ucc, h1.below hb, h2.below hb⟩

/-- Two rows and a box that are being made: some of them, or none yet. -/
structure Cs (B : Nat) (W : World) (o1 o2 : Option (Value × List (Int × Int))) (q : Option Nat) : Prop where
  r1 : ∀ v xs, o1 = some (v, xs) → W.ownsRow B 49 2 v xs.length (pcells xs)
  r2 : ∀ v xs, o2 = some (v, xs) → W.ownsRow B 80 2 v xs.length (pcells xs)
  bq : ∀ b, q = some b → C3 W b (.slice none 0 0) (.slice none 0 0) (.slice none 0 0) ∧ B ≤ b
  n12 : ∀ v xs u ys k, o1 = some (v, xs) → o2 = some (u, ys) → v.ownBlock = some k → u.ownBlock ≠ some k
  n1q : ∀ v xs b, o1 = some (v, xs) → q = some b → v.ownBlock ≠ some b
  n2q : ∀ v xs b, o2 = some (v, xs) → q = some b → v.ownBlock ≠ some b
  z : B ≤ W.heap.size
theorem Cs.start (W : World) : Cs W.heap.size W none none none := by
  refine ⟨?_, ?_, ?_, ?_, ?_, ?_, Nat.le_refl _⟩ <;> intros <;> simp_all
theorem Cs.below {B : Nat} {W W' : World} {o1 o2 : Option (Value × List (Int × Int))} {q : Option Nat} (h : Cs B W o1 o2 q) (hb : Below W.heap.size W W') : Cs B W' o1 o2 q :=
  ⟨fun v xs e => rowp_frame (h.r1 v xs e) (fun k hk => hb.block k (World.ownsRow.lt (h.r1 v xs e) k hk).2), fun v xs e => rowp_frame (h.r2 v xs e) (fun k hk => hb.block k (World.ownsRow.lt (h.r2 v xs e) k hk).2),
    fun b e => ⟨(h.bq b e).1.below hb, (h.bq b e).2⟩, h.n12, h.n1q, h.n2q, Nat.le_trans h.z hb.size⟩
theorem made0B {B : Nat} (w : World) (T : TypeId) (hB : B ≤ w.heap.size) : (w.alloc (.cells #[] T)).ownsRow B T 2 (.slice (some ⟨w.heap.size, 0, none⟩) 0 0) 0 [] := by
  obtain ⟨h0, h⟩ := made0 w T 2
  exact ⟨h0, h.imp id fun ⟨g, cap, cur, hv, hg, hr⟩ => ⟨g, cap, cur, hv, Nat.le_trans hB hg, hr⟩⟩
theorem Cs.new1 {B : Nat} {W : World} {o2 : Option (Value × List (Int × Int))} {q : Option Nat} (h : Cs B W none o2 q) : Cs B (W.alloc (.cells #[] 49)) (some (.slice (some ⟨W.heap.size, 0, none⟩) 0 0, [])) o2 q := by
  have k := h.below ((Below.refl W.heap.size W).alloc (Nat.le_refl _) (.cells #[] 49))
  refine ⟨fun v xs e => ?_, k.r2, k.bq, fun v xs u ys j e e2 hv hu => ?_, fun v xs b e eq hv => ?_, k.n2q, k.z⟩
  · cases e; exact made0B W _ h.z
  · cases e
    have := (World.ownsRow.lt (h.r2 u ys e2) j hu).2
    simp [Value.ownBlock] at hv
    omega
  · cases e
    have := C3.lt (h.bq b eq).1
    simp [Value.ownBlock] at hv
    omega
theorem Cs.new2 {B : Nat} {W : World} {o1 : Option (Value × List (Int × Int))} {q : Option Nat} (h : Cs B W o1 none q) : Cs B (W.alloc (.cells #[] 80)) o1 (some (.slice (some ⟨W.heap.size, 0, none⟩) 0 0, [])) q := by
  have k := h.below ((Below.refl W.heap.size W).alloc (Nat.le_refl _) (.cells #[] 80))
  refine ⟨k.r1, fun v xs e => ?_, k.bq, fun v xs u ys j e e2 hv hu => ?_, k.n1q, fun v xs b e eq hv => ?_, k.z⟩
  · cases e; exact made0B W _ h.z
  · cases e2
    have := (World.ownsRow.lt (h.r1 v xs e) j hv).2
    simp [Value.ownBlock] at hu
    omega
  · cases e
    have := C3.lt (h.bq b eq).1
    simp [Value.ownBlock] at hv
    omega
theorem Cs.newq {B : Nat} {W : World} {o1 o2 : Option (Value × List (Int × Int))} (h : Cs B W o1 o2 none) (T : TypeId) : Cs B (W.alloc (.cells #[.slice none 0 0, .slice none 0 0, .slice none 0 0] T)) o1 o2 (some W.heap.size) := by
  have k := h.below ((Below.refl W.heap.size W).alloc (Nat.le_refl _) (.cells #[.slice none 0 0, .slice none 0 0, .slice none 0 0] T))
  refine ⟨k.r1, k.r2, fun b e => ?_, k.n12, fun v xs b e eq hv => ?_, fun v xs b e eq hv => ?_, k.z⟩
  · cases e; exact ⟨C3.new _ _ _ _ _, h.z⟩
  · cases eq
    have := (World.ownsRow.lt (h.r1 v xs e) _ hv).2
    omega
  · cases eq
    have := (World.ownsRow.lt (h.r2 v xs e) _ hv).2
    omega
theorem Cs.app1 {B : Nat} {W W' : World} {v v' : Value} {xs ys : List (Int × Int)} {o2 : Option (Value × List (Int × Int))} {q : Option Nat} (h : Cs B W (some (v, xs)) o2 q)
    (ho : W'.ownsRow B 49 2 v' (xs.length + ys.length) (pcells xs ++ pcells ys)) (hg : W.grownBy W' v.ownBlock) (ha : v'.ownBlock = v.ownBlock ∨ v'.ownBlock = some W.heap.size) : Cs B W' (some (v', xs ++ ys)) o2 q := by
  refine ⟨fun u zs e => ?_, fun u zs e => rowp_frame (h.r2 u zs e) (fun k hk => hg.block k (World.ownsRow.lt (h.r2 u zs e) k hk).2 (fun q => h.n12 v xs u zs k rfl e q.symm hk)),
    fun b e => ⟨(h.bq b e).1.frame (hg.block b (C3.lt (h.bq b e).1) (fun q => h.n1q v xs b rfl e q.symm)), (h.bq b e).2⟩, fun u zs t ys' k e e2 hu ht => ?_, fun u zs b e eq hu => ?_, h.n2q, Nat.le_trans h.z hg.size⟩
  · cases e; rw [List.length_append, pcells_both]; exact ho
  · cases e
    rcases ha with ha | ha
    · exact h.n12 v xs t ys' k rfl e2 (ha.symm.trans hu) ht
    · have := (World.ownsRow.lt (h.r2 t ys' e2) k ht).2
      rw [ha] at hu; cases hu; omega
  · cases e
    rcases ha with ha | ha
    · exact h.n1q v xs b rfl eq (ha.symm.trans hu)
    · have := C3.lt (h.bq b eq).1
      rw [ha] at hu; cases hu; omega
theorem Cs.app2 {B : Nat} {W W' : World} {v v' : Value} {xs ys : List (Int × Int)} {o1 : Option (Value × List (Int × Int))} {q : Option Nat} (h : Cs B W o1 (some (v, xs)) q)
    (ho : W'.ownsRow B 80 2 v' (xs.length + ys.length) (pcells xs ++ pcells ys)) (hg : W.grownBy W' v.ownBlock) (ha : v'.ownBlock = v.ownBlock ∨ v'.ownBlock = some W.heap.size) : Cs B W' o1 (some (v', xs ++ ys)) q := by
  refine ⟨fun u zs e => rowp_frame (h.r1 u zs e) (fun k hk => hg.block k (World.ownsRow.lt (h.r1 u zs e) k hk).2 (fun q => h.n12 u zs v xs k e rfl hk q.symm)), fun u zs e => ?_,
    fun b e => ⟨(h.bq b e).1.frame (hg.block b (C3.lt (h.bq b e).1) (fun q => h.n2q v xs b rfl e q.symm)), (h.bq b e).2⟩, fun u zs t ys' k e e2 hu ht => ?_, h.n1q, fun u zs b e eq hu => ?_, Nat.le_trans h.z hg.size⟩
  · cases e; rw [List.length_append, pcells_both]; exact ho
  · cases e2
    rcases ha with ha | ha
    · exact h.n12 u zs v xs k e rfl hu (ha.symm.trans ht)
    · have := (World.ownsRow.lt (h.r1 u zs e) k hu).2
      rw [ha] at ht; cases ht; omega
  · cases e
    rcases ha with ha | ha
    · exact h.n2q v xs b rfl eq (ha.symm.trans hu)
    · have := C3.lt (h.bq b eq).1
      rw [ha] at hu; cases hu; omega
theorem Cs.grow1 {B : Nat} {wG W W' : World} {v : Value} {xs : List (Int × Int)} {o2 : Option (Value × List (Int × Int))} {q : Option Nat} (h : Cs B W (some (v, xs)) o2 q) (hB : B = wG.heap.size) (hb : Below wG.heap.size wG W) (hg : W.grownBy W' v.ownBlock) : Below wG.heap.size wG W' := by
  subst hB
  exact hb.grown hg h.z (fun k hk => (World.ownsRow.lt (h.r1 v xs rfl) k hk).1)
theorem Cs.grow2 {B : Nat} {wG W W' : World} {v : Value} {xs : List (Int × Int)} {o1 : Option (Value × List (Int × Int))} {q : Option Nat} (h : Cs B W o1 (some (v, xs)) q) (hB : B = wG.heap.size) (hb : Below wG.heap.size wG W) (hg : W.grownBy W' v.ownBlock) : Below wG.heap.size wG W' := by
  subst hB
  exact hb.grown hg h.z (fun k hk => (World.ownsRow.lt (h.r2 v xs rfl) k hk).1)

theorem infoW2 : (Try.prog.info? 49).map (fun i => (i.zero, i.size, i.bytes)) = some (some (.agg #[.int .i64 0, .int .i64 0]), 2, 16) := by kernel_rfl
theorem infoS2 : (Try.prog.info? 80).map (fun i => (i.zero, i.size, i.bytes)) = some (some (.agg #[.int .i64 0, .int .i64 0]), 2, 16) := by kernel_rfl

/-- Steps cut in two come to what all come to. -/
theorem doT_cut {d : Nat} (l : List (Pay × Tr d × Tr d)) (k : Nat) (n : List Int) :
    doT (d + 1) (l : List (Pay × Tr d × Tr d)) ⟨n, [], []⟩ = ⟨(doT (d + 1) (l.drop k : List (Pay × Tr d × Tr d)) ⟨(doT (d + 1) (l.take k : List (Pay × Tr d × Tr d)) ⟨n, [], []⟩).n, [], []⟩).n,
      (doT (d + 1) (l.take k : List (Pay × Tr d × Tr d)) ⟨n, [], []⟩).ws ++ (doT (d + 1) (l.drop k : List (Pay × Tr d × Tr d)) ⟨(doT (d + 1) (l.take k : List (Pay × Tr d × Tr d)) ⟨n, [], []⟩).n, [], []⟩).ws,
      (doT (d + 1) (l.take k : List (Pay × Tr d × Tr d)) ⟨n, [], []⟩).ss ++ (doT (d + 1) (l.drop k : List (Pay × Tr d × Tr d)) ⟨(doT (d + 1) (l.take k : List (Pay × Tr d × Tr d)) ⟨n, [], []⟩).n, [], []⟩).ss⟩ := by
  have e := doT_app (l.take k) (l.drop k) ⟨n, [], []⟩
  rw [List.take_append_drop] at e
  rw [e]
  exact doT_from (d + 1) (l.drop k : List (Pay × Tr d × Tr d)) _ _ _

end Go.Proofs.Ytepacahfpbedoaa

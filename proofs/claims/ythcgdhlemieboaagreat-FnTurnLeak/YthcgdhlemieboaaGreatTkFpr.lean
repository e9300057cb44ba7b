/- The first pair of which something holds, as the program looks for it. -/
import Derived.Test.YthcgdhlemieboaaGreatTkRfy
import Derived.Test.YthcgdhlemieboaaGreatTkTps
import Derived.Test.YthcgdhlemieboaaGreatTkRfx
import Derived.Maps.OwnIn
import Derived.Maps.AppendAt
namespace Go.Proofs.YthcgdhlemieboaaGreat
open Go.RowKit Rfy
set_option linter.unusedSimpArgs false
set_option linter.unusedVariables false
attribute [local go_sem] Oper.semAt_some

def T4.agg (x : T4) : Value := .agg #[x.r, x.n, x.s, x.t]
abbrev One' (B : Nat) (ls : List (Int × Int)) (d : Nat) (T : Tr d) (w : World) (x : T4) (k : Nat) : Prop := One B w x (bitsL k ls.length) (runS ls d T (bitsL k ls.length))

def HoldsAt (w : World) (ls : List (Int × Int)) (d : Nat) (T : Tr d) (P : Nat → Nat → Bool) (hf : Nat) (lb : Array Value) : Prop :=
  ∀ wz, Below w.heap.size w wz → ∀ k i x y, k < i → i < 2 ^ ls.length → One' w.heap.size ls d T wz x k → One' w.heap.size ls d T wz y i →
    Calls Tryz.prog hf (#[x.agg, y.agg] ++ lb) wz fun e w' => e = .returned (.bool (P k i)) ∧ Below wz.heap.size wz w'

theorem rf_enterR {F : Fence} {n : Nat} {P : Program} {g : Operand} {ps : Array Tmp} {assign body : Code} {Q : Exit → Act → World → Prop} {a : Act} {w : World}
    (hro : F.round = none) (h1 : 1 ≤ n) {gf : Nat} {lb : Array Value} (hg : a.eval g = .func (.func gf) #[] lb) (hFg : F.fn gf)
    (eg : ∀ args w, (callFunc gf args).run P w = .ok (.enter gf args) w)
    (h : ∀ fn rec, F.fn fn → Hid (rec = recd fn a ps assign body w.heap.size) →
      CallsIn F (n - 1) P gf (#[.func (.yield (w.heap.size + 1)) #[] #[]] ++ lb)
        ((w.alloc (.deferred (some []))).alloc (.loop (rec .ready none)))
        (fun e w3 => ∃ v st pe, e = .returned v ∧ st ≠ .busy ∧ w3.heap[w.heap.size + 1]? = some (.loop (rec st pe)) ∧
          ∀ w4, w4 = w3.putObj (w.heap.size + 1) (.loop (rec .exhausted pe)) →
            (pe = none → Q .normal (marked a w.heap.size) w4) ∧ (∀ c, pe = some c → c.wpIn F n P Q (marked a w.heap.size) w4))) :
    (Code.rangeFunc g ps assign body).wpIn F n P Q a w := rf_enter hro h1 hg hFg eg (fun fn hfn => h fn _ hfn rfl)

theorem rf_roundR {F : Fence} {n : Nat} {P : Program} {fn : FuncId} {a : Act} {ps : Array Tmp} {assign body : Code} {D l : Nat} {args : Array Value} {W : World} {R : Ending → World → Prop} {rec : LoopState → Option Code → Loop} (hrec : Hid (rec = recd fn a ps assign body D)) (hF : F.fn fn)
    (hl : W.heap[l]? = some (.loop (rec .ready none))) (hs : args.size = ps.size)
    (h : assign.wpIn (F.inRound l) n P (Exit.then (fun a₁ w₁ => w₁.heap[l]? = some (.loop (rec .ready none)) ∧
        body.wpIn (F.inRound l) n P (endPost l rec R) a₁ (w₁.putObj l (.loop (rec .busy none)))) (fun _ _ _ => False))
      { tmps := (ps.zip args).foldl (fun t (p, v) => t.setIfInBounds p v) a.tmps, defers := [] } W) :
    YieldAt F n P l args W R := by
  have e := hrec.out
  subst e
  exact rf_round hF hl hs h

theorem own_sl {w : World} {B : Nat} {e : TypeId} {sz : Nat} {v : Value} {n : Nat} {xs : List Value} (h : w.ownsRow B e sz v n xs) : ∃ a l c, v = .slice a l c := by
  obtain ⟨h0, ⟨hv, _⟩ | ⟨g, cap, cur, hv, _⟩⟩ := id h
  · exact ⟨_, _, _, hv⟩
  · exact ⟨_, _, _, hv⟩

theorem own_base {w : World} {B B' : Nat} {e : TypeId} {sz : Nat} {v : Value} {n : Nat} {xs : List Value} (h : w.ownsRow B e sz v n xs) (hle : B' ≤ B) : w.ownsRow B' e sz v n xs := by
  obtain ⟨h0, h1 | ⟨g, cap, cur, hv, hg, r⟩⟩ := h
  · exact ⟨h0, .inl h1⟩
  · exact ⟨h0, .inr ⟨g, cap, cur, hv, by omega, r⟩⟩
theorem R3.base {w : World} {B B' : Nat} {a b c : Value} {s : RSt} (h : R3 B w a b c s) (hle : B' ≤ B) : R3 B' w a b c s :=
  ⟨own_base h.n hle, own_base h.ws hle, own_base h.ss hle, h.nw, h.ns, h.sw⟩
theorem t4_at (xs : List T4) : ∀ j (hj : j < xs.length) i, i < 4 → (xs.flatMap T4.cells)[j * 4 + i]? = xs[j].cells[i]? := by
  induction xs with
  | nil => intro j hj; simp at hj
  | cons x xs ih =>
    intro j hj i hi
    rw [List.flatMap_cons]
    cases j with
    | zero =>
      rw [List.getElem?_append_left (by simp [T4.cells]; omega)]
      simp
    | succ j =>
      rw [List.getElem?_append_right (by simp [T4.cells]; omega)]
      have : (j + 1) * 4 + i - x.cells.length = j * 4 + i := by simp [T4.cells]; omega
      rw [this, ih j (by simpa using hj) i hi]
      simp
theorem Ah.at_ {B : Nat} {w : World} {A : Nat} {av : Value} {xs : List T4} {f : Nat → List Int} {g : Nat → RSt} (h : Ah B w A av xs f g) (j : Nat) (hj : j < xs.length) :
    ∃ b c, av = .slice (some ⟨b, 0, none⟩) xs.length c ∧ xs.length ≤ c ∧ c ≤ maxLen ∧ w.cell? ⟨b, j * 4, none⟩ = some xs[j].r ∧ w.cell? ⟨b, j * 4 + 1, none⟩ = some xs[j].n ∧ w.cell? ⟨b, j * 4 + 2, none⟩ = some xs[j].s ∧ w.cell? ⟨b, j * 4 + 3, none⟩ = some xs[j].t := by
  obtain ⟨h0, ⟨hv, hm⟩ | ⟨b, cap, cur, hv, hg, hh, hc, hcm, hsz, ht⟩⟩ := id h.row
  · exfalso
    have : xs = [] := by first | exact hm | simpa using hm
    subst this
    simp at hj
  · have cl : ∀ i, i < 4 → w.cell? ⟨b, j * 4 + i, none⟩ = xs[j].cells[i]? := by
      intro i hi
      rw [← t4_at xs j hj i hi, ← ht]
      unfold World.cell?
      dsimp only
      rw [hh]
      have hlt : j * 4 + i < xs.length * 4 := by omega
      simp [List.getElem?_take, hlt]
    exact ⟨b, cap, hv, hc, hcm, cl 0 (by omega), cl 1 (by omega), cl 2 (by omega), cl 3 (by omega)⟩

theorem own_len {w : World} {B : Nat} {e : TypeId} {sz : Nat} {a : Option Addr} {l c n : Nat} {xs : List Value} (h : w.ownsRow B e sz (.slice a l c) n xs) : l = n := by
  obtain ⟨h0, ⟨hv, hn⟩ | ⟨g, cap, cur, hv, _⟩⟩ := id h
  · cases hv; exact hn.symm
  · cases hv; rfl

structure Bxs (m : Nat) (W : World) (lv sv hv r1 r2 r3 : Value) (vars : Nat) : Prop where
  p0 : W.cell? ⟨m, 0, none⟩ = some lv
  p1 : W.cell? ⟨m, 1, none⟩ = some sv
  h : W.cell? ⟨m + 1, 0, none⟩ = some hv
  a1 : W.cell? ⟨m + 2, 0, none⟩ = some r1 ∧ W.frozen? ⟨m + 2, 0, none⟩ = false
  a2 : W.cell? ⟨m + 3, 0, none⟩ = some r2 ∧ W.frozen? ⟨m + 3, 0, none⟩ = false
  a3 : W.cell? ⟨m + 4, 0, none⟩ = some r3 ∧ W.frozen? ⟨m + 4, 0, none⟩ = false
  vs : W.cell? ⟨m + 6, 0, none⟩ = some (.int .i64 (vars : Int))

theorem cell_eq {W W' : World} {b o : Nat} {v : Value} (e : W'.heap[b]? = W.heap[b]?) (h : W.cell? ⟨b, o, none⟩ = some v) : W'.cell? ⟨b, o, none⟩ = some v := by
  unfold World.cell? at h ⊢
  dsimp only at h ⊢
  rw [e]; exact h
theorem free_eq {W W' : World} {b o : Nat} (e : W'.heap[b]? = W.heap[b]?) (h : W.frozen? ⟨b, o, none⟩ = false) : W'.frozen? ⟨b, o, none⟩ = false := by
  unfold World.frozen? at h ⊢
  dsimp only at h ⊢
  rw [e]; exact h
theorem Bxs.keep {m : Nat} {W W' : World} {lv sv hv r1 r2 r3 : Value} {vars : Nat} (h : Bxs m W lv sv hv r1 r2 r3 vars) (k : ∀ b, m ≤ b → b ≤ m + 6 → b ≠ m + 5 → W'.heap[b]? = W.heap[b]?) : Bxs m W' lv sv hv r1 r2 r3 vars :=
  ⟨cell_eq (k m (by omega) (by omega) (by omega)) h.p0, cell_eq (k m (by omega) (by omega) (by omega)) h.p1, cell_eq (k _ (by omega) (by omega) (by omega)) h.h,
    ⟨cell_eq (k _ (by omega) (by omega) (by omega)) h.a1.1, free_eq (k _ (by omega) (by omega) (by omega)) h.a1.2⟩,
    ⟨cell_eq (k _ (by omega) (by omega) (by omega)) h.a2.1, free_eq (k _ (by omega) (by omega) (by omega)) h.a2.2⟩,
    ⟨cell_eq (k _ (by omega) (by omega) (by omega)) h.a3.1, free_eq (k _ (by omega) (by omega) (by omega)) h.a3.2⟩,
    cell_eq (k _ (by omega) (by omega) (by omega)) h.vs⟩

structure Jp (w : World) (ls : List (Int × Int)) (d : Nat) (T : Tr d) (lv sv hv : Value) (P : Nat → Nat → Bool) (L : Nat) (rd : Obj) (k : Nat) (W : World) : Prop where
  lo : w.heap.size + 7 ≤ L
  rc : W.heap[L + 1]? = some rd
  df : W.heap[L]? = some (.deferred (some []))
  bl : Below w.heap.size w W
  bx : Bxs w.heap.size W lv sv hv (.slice none 0 0) (.slice none 0 0) (.bool false) ls.length
  ah : ∃ av xs, xs.length = k ∧ Ah w.heap.size W (w.heap.size + 5) av xs (fun j => bitsL j ls.length) (fun j => runS ls d T (bitsL j ls.length)) ∧ ∀ b, Ah.Has (w.heap.size + 5) av xs b → b ≠ L ∧ b ≠ L + 1 ∧ b ≠ w.heap.size + 2 ∧ b ≠ w.heap.size + 3 ∧ b ≠ w.heap.size + 4 ∧ b ≠ w.heap.size ∧ b ≠ w.heap.size + 1 ∧ b ≠ w.heap.size + 6
  no : ∀ i, i < k → ∀ k', k' < i → P k' i = false

theorem Jp.turn {w : World} {ls : List (Int × Int)} {d : Nat} {T : Tr d} {lv sv hv : Value} {P : Nat → Nat → Bool} {L : Nat} {rd rd' : Obj} {k : Nat} {W W' : World} (h : Jp w ls d T lv sv hv P L rd k W)
    (hk : ∀ b, b < W.heap.size → b ≠ L + 1 → W'.heap[b]? = W.heap[b]?) (hb : Below w.heap.size w W') (rc : W'.heap[L + 1]? = some rd') : Jp w ls d T lv sv hv P L rd' k W' := by
  have hL : L + 1 < W.heap.size := (Array.getElem?_eq_some_iff.1 h.rc).1
  have lo := h.lo
  obtain ⟨av, xs, e, ha, hf⟩ := h.ah
  exact ⟨lo, rc, (hk L (by omega) (by omega)).trans h.df, hb, h.bx.keep (fun b _ _ _ => hk b (by omega) (by omega)), ⟨av, xs, e, ha.frame (fun b hlt hb => hk b hlt (hf b hb).2.1), hf⟩, h.no⟩

structure TwoR (B : Nat) (w : World) (va vb : Value) (xs ys : List Int) : Prop where
  a : w.ownsRow B 3 1 va xs.length (xs.map (Value.int .i64))
  b : w.ownsRow B 3 1 vb ys.length (ys.map (Value.int .i64))
  ne : ∀ b, va.ownBlock = some b → vb.ownBlock ≠ some b
theorem TwoR.frame {B : Nat} {w w' : World} {va vb : Value} {xs ys : List Int} (h : TwoR B w va vb xs ys) (hb : ∀ b, b < w.heap.size → va.ownBlock = some b ∨ vb.ownBlock = some b → w'.heap[b]? = w.heap[b]?) : TwoR B w' va vb xs ys :=
  ⟨rowg_frame h.a (fun b e => hb b (World.ownsRow.lt h.a b e).2 (.inl e)), rowg_frame h.b (fun b e => hb b (World.ownsRow.lt h.b b e).2 (.inr e)), h.ne⟩
def FpPost (w : World) (P : Nat → Nat → Bool) (n : Nat) (e : Ending) (w' : World) : Prop := ∃ (o : Option (Nat × Nat)) (va vb : Value), FirstP P (2 ^ n) o ∧ e = .returned (.tuple #[va, vb, .bool o.isSome]) ∧ Below w.heap.size w w' ∧ TwoR w.heap.size w' va vb (rowsO n o).1 (rowsO n o).2

structure Jq (w : World) (ls : List (Int × Int)) (lv sv hv : Value) (P : Nat → Nat → Bool) (L : Nat) (rd : Obj) (W : World) : Prop where
  rc : W.heap[L + 1]? = some rd
  df : W.heap[L]? = some (.deferred (some []))
  bl : Below w.heap.size w W
  an : ∃ k i va vb, FirstP P (2 ^ ls.length) (some (k, i)) ∧ Bxs w.heap.size W lv sv hv va vb (.bool true) ls.length ∧ TwoR w.heap.size W va vb (bitsL k ls.length) (bitsL i ls.length) ∧ ∀ b, va.ownBlock = some b ∨ vb.ownBlock = some b → b ≠ L ∧ b ≠ L + 1

theorem Jp.hit {w : World} {ls : List (Int × Int)} {d : Nat} {T : Tr d} {lv sv hv : Value} {P : Nat → Nat → Bool} {L : Nat} {rd : Obj} {k j : Nat} {W5 w7 : World} {x y : Value} (h : Jp w ls d T lv sv hv P L rd k W5) (b57 : Below W5.heap.size W5 w7)
    (hrd1 : rd.isCells = false) (hrd2 : rd.isWalk = false) (hk : k < 2 ^ ls.length) (hj : j < k) (hno : ∀ k', k' < j → P k' k = false) (hP : P j k = true)
    (Ox : W5.ownsRow w.heap.size 3 1 x (bitsL j ls.length).length ((bitsL j ls.length).map (Value.int .i64))) (Oy : W5.ownsRow w.heap.size 3 1 y (bitsL k ls.length).length ((bitsL k ls.length).map (Value.int .i64)))
    (hne : ∀ b, x.ownBlock = some b → y.ownBlock ≠ some b) (hx : ∀ b, x.ownBlock = some b ∨ y.ownBlock = some b → b ≠ L ∧ b ≠ L + 1 ∧ b ≠ w.heap.size + 2 ∧ b ≠ w.heap.size + 3 ∧ b ≠ w.heap.size + 4) (rd' : Obj) :
    ∀ W7, ((w7.drew.setCell ⟨w.heap.size + 2, 0, none⟩ x).setCell ⟨w.heap.size + 3, 0, none⟩ y).setCell ⟨w.heap.size + 4, 0, none⟩ (.bool true) = W7 → W7.heap[L + 1]? = some rd ∧ Jq w ls lv sv hv P L rd' (W7.putObj (L + 1) rd') := by
  intro W7 hW7
  have lo := h.lo
  have hL : L + 1 < W5.heap.size := (Array.getElem?_eq_some_iff.1 h.rc).1
  have q1 : ∀ b, b ≠ w.heap.size + 2 → (w7.drew.setCell ⟨w.heap.size + 2, 0, none⟩ x).heap[b]? = w7.heap[b]? := fun b hb => Below.heap_setCell _ _ _ _ hb
  have q2 : ∀ b, b ≠ w.heap.size + 3 → ((w7.drew.setCell ⟨w.heap.size + 2, 0, none⟩ x).setCell ⟨w.heap.size + 3, 0, none⟩ y).heap[b]? = (w7.drew.setCell ⟨w.heap.size + 2, 0, none⟩ x).heap[b]? := fun b hb => Below.heap_setCell _ _ _ _ hb
  have q3 : ∀ b, b ≠ w.heap.size + 4 → W7.heap[b]? = ((w7.drew.setCell ⟨w.heap.size + 2, 0, none⟩ x).setCell ⟨w.heap.size + 3, 0, none⟩ y).heap[b]? := fun b hb => by rw [← hW7]; exact Below.heap_setCell _ _ _ _ hb
  have q4 : ∀ b, b ≠ L + 1 → (W7.putObj (L + 1) rd').heap[b]? = W7.heap[b]? := fun b hb => World.putObj_heap_other hb
  have qq : ∀ b, b ≠ w.heap.size + 2 → b ≠ w.heap.size + 3 → b ≠ w.heap.size + 4 → b ≠ L + 1 → (W7.putObj (L + 1) rd').heap[b]? = w7.heap[b]? := fun b h2 h3 h4 h5 => (q4 b h5).trans ((q3 b h4).trans ((q2 b h3).trans (q1 b h2)))
  have x7 := h.bx.keep (W' := w7) (fun b _ _ _ => b57.block b (by omega))
  obtain ⟨⟨c1, f1⟩, ⟨c2, f2⟩, ⟨c3, f3⟩⟩ := And.intro x7.a1 (And.intro x7.a2 x7.a3)
  have rc7 : W7.heap[L + 1]? = some rd := (q3 _ (by omega)).trans ((q2 _ (by omega)).trans ((q1 _ (by omega)).trans ((b57.block _ hL).trans h.rc)))
  have hs7 : W7.heap.size = w7.heap.size := by rw [← hW7]; simp
  have b7 : Below w.heap.size w W7 := by
    rw [← hW7]
    exact ((((Below.then h.bl b57 h.bl.size).drew).setCell (by simp) _).setCell (by simp) _).setCell (by simp) _
  refine ⟨rc7, World.putObj_heap_same (Array.getElem?_eq_some_iff.1 rc7).1, ?_, b7.trans (belowK_b (w := w) (Nat.le_refl _) W7 _ _ _ (by omega) rc7 hrd1 hrd2), ?_⟩
  · exact (qq L (by omega) (by omega) (by omega) (by omega)).trans ((b57.block _ (by omega)).trans h.df)
  · have g1 : (w7.drew.setCell ⟨w.heap.size + 2, 0, none⟩ x).cell? ⟨w.heap.size + 2, 0, none⟩ = some x := World.cell?_setCell_same' _ _ _ (by have := c1; simp [this])
    have g2 : ((w7.drew.setCell ⟨w.heap.size + 2, 0, none⟩ x).setCell ⟨w.heap.size + 3, 0, none⟩ y).cell? ⟨w.heap.size + 3, 0, none⟩ = some y := World.cell?_setCell_same' _ _ _ (by rw [cell_eq (q1 _ (by omega)) c2]; rfl)
    have g3 : W7.cell? ⟨w.heap.size + 4, 0, none⟩ = some (.bool true) := by rw [← hW7]; exact World.cell?_setCell_same' _ _ _ (by rw [cell_eq (q2 _ (by omega)) (cell_eq (q1 _ (by omega)) c3)]; rfl)
    refine ⟨j, k, x, y, ⟨hk, hj, hP, fun i hi k' hk' => h.no i hi k' hk', hno⟩, ⟨?_, ?_, ?_, ⟨?_, ?_⟩, ⟨?_, ?_⟩, ⟨?_, ?_⟩, ?_⟩, TwoR.frame (w := W5) ⟨Ox, Oy, hne⟩ (fun b hlt e => (qq b (hx b e).2.2.1 (hx b e).2.2.2.1 (hx b e).2.2.2.2 (hx b e).2.1).trans (b57.block b hlt)), fun b e => ⟨(hx b e).1, (hx b e).2.1⟩⟩
    · exact cell_eq (qq _ (by omega) (by omega) (by omega) (by omega)) x7.p0
    · exact cell_eq (qq _ (by omega) (by omega) (by omega) (by omega)) x7.p1
    · exact cell_eq (qq _ (by omega) (by omega) (by omega) (by omega)) x7.h
    · exact cell_eq (q4 _ (by omega)) (cell_eq (q3 _ (by omega)) (cell_eq (q2 _ (by omega)) g1))
    · exact free_eq (q4 _ (by omega)) (free_eq (q3 _ (by omega)) (free_eq (q2 _ (by omega)) (by rw [World.frozen?_setCell]; exact f1)))
    · exact cell_eq (q4 _ (by omega)) (cell_eq (q3 _ (by omega)) g2)
    · exact free_eq (q4 _ (by omega)) (free_eq (q3 _ (by omega)) (by rw [World.frozen?_setCell]; exact free_eq (q1 _ (by omega)) f2))
    · exact cell_eq (q4 _ (by omega)) g3
    · exact free_eq (q4 _ (by omega)) (by rw [← hW7, World.frozen?_setCell]; exact free_eq (q2 _ (by omega)) (free_eq (q1 _ (by omega)) f3))
    · exact cell_eq (qq _ (by omega) (by omega) (by omega) (by omega)) x7.vs

theorem infoTried : (Tryz.prog.info? 53).map (fun i => (i.zero, i.size, i.bytes)) = some (some (.agg #[.slice none 0 0, .slice none 0 0, .slice none 0 0, .slice none 0 0]), 4, 96) := by kernel_rfl

theorem Jp.next {w : World} {ls : List (Int × Int)} {d : Nat} {T : Tr d} {lv sv hv : Value} {P : Nat → Nat → Bool} {L : Nat} {rd : Obj} {k : Nat} {W w1 : World} {o : Obj} {av v' : Value} {xs : List T4} {x : T4} (h : Jp w ls d T lv sv hv P L rd k W)
    (hrd1 : rd.isCells = false) (hrd2 : rd.isWalk = false) (hxl : xs.length = k) (hA : Ah w.heap.size W (w.heap.size + 5) av xs (fun j => bitsL j ls.length) (fun j => runS ls d T (bitsL j ls.length)))
    (hfar : ∀ b, Ah.Has (w.heap.size + 5) av xs b → b ≠ L ∧ b ≠ L + 1 ∧ b ≠ w.heap.size + 2 ∧ b ≠ w.heap.size + 3 ∧ b ≠ w.heap.size + 4 ∧ b ≠ w.heap.size ∧ b ≠ w.heap.size + 1 ∧ b ≠ w.heap.size + 6)
    (hO : One w.heap.size W x (bitsL k ls.length) (runS ls d T (bitsL k ls.length))) (hx : ∀ b, x.Has b → L + 1 < b) (hxa : ∀ b, x.Has b → av.ownBlock ≠ some b)
    (hno : ∀ k', k' < k → P k' k = false)
    (ho : w1.ownsRow w.heap.size 53 4 v' (xs.length + 1) (xs.flatMap T4.cells ++ x.cells)) (hg : (W.alloc o).grownBy w1 av.ownBlock) (ha : v'.ownBlock = av.ownBlock ∨ v'.ownBlock = some (W.heap.size + 1)) (rd' : Obj) :
    (w1.setCell ⟨w.heap.size + 5, 0, none⟩ v').heap[L + 1]? = some rd ∧ Jp w ls d T lv sv hv P L rd' (k + 1) ((w1.setCell ⟨w.heap.size + 5, 0, none⟩ v').putObj (L + 1) rd') := by
  have lo := h.lo
  have hL : L + 1 < W.heap.size := (Array.getElem?_eq_some_iff.1 h.rc).1
  have qa : ∀ b, b < W.heap.size → (W.alloc o).heap[b]? = W.heap[b]? := fun b hb => Below.heap_alloc _ _ _ hb
  have hA' := hA.frame (w' := W.alloc o) (fun b hb _ => qa b hb)
  have hO' := hO.frame (w' := W.alloc o) (fun b hb _ => qa b hb)
  subst hxl
  have P1 := hA'.push ho hg (by simpa using ha) hO' (fun b e => ⟨by have := hx b e; omega, hxa b e⟩)
  have hsz : (W.alloc o).heap.size = W.heap.size + 1 := by simp
  have q : ∀ b, b < W.heap.size → b ≠ w.heap.size + 5 → av.ownBlock ≠ some b → (w1.setCell ⟨w.heap.size + 5, 0, none⟩ v').heap[b]? = W.heap[b]? := fun b hb hne hna =>
    (Below.heap_setCell _ _ _ _ hne).trans ((hg.block b (by omega) (fun e => hna e.symm)).trans (qa b hb))
  have nv : ∀ b, av.ownBlock = some b → _ := fun b e => hfar b (.inr (.inl e))
  have rc1 : (w1.setCell ⟨w.heap.size + 5, 0, none⟩ v').heap[L + 1]? = some rd := (q _ hL (by omega) (fun e => (nv _ e).2.1 rfl)).trans h.rc
  have q4 : ∀ b, b ≠ L + 1 → ((w1.setCell ⟨w.heap.size + 5, 0, none⟩ v').putObj (L + 1) rd').heap[b]? = (w1.setCell ⟨w.heap.size + 5, 0, none⟩ v').heap[b]? := fun b hb => World.putObj_heap_other hb
  have b1 : Below w.heap.size w (w1.setCell ⟨w.heap.size + 5, 0, none⟩ v') :=
    ((h.bl.alloc h.bl.size o).grown hg (by have := h.bl.size; simp; omega) (fun j e => by
      have := World.ownsRow.lt hA.row j (e)
      omega)).setCell (by simp) _
  have fr : ∀ b, Ah.Has (w.heap.size + 5) v' (xs ++ [x]) b → b ≠ L ∧ b ≠ L + 1 ∧ b ≠ w.heap.size + 2 ∧ b ≠ w.heap.size + 3 ∧ b ≠ w.heap.size + 4 ∧ b ≠ w.heap.size ∧ b ≠ w.heap.size + 1 ∧ b ≠ w.heap.size + 6 := by
    rintro b (e | e | ⟨j, hj, e⟩)
    · omega
    · rcases ha with a | a
      · exact nv b (a ▸ e)
      · rw [a] at e; cases e; omega
    · by_cases hl : j < xs.length
      · rw [List.getElem_append_left hl] at e
        exact hfar b (.inr (.inr ⟨j, hl, e⟩))
      · have q : j = xs.length := by simp at hj; omega
        subst q
        rw [List.getElem_append_right (Nat.le_refl _)] at e
        simp only [Nat.sub_self, List.getElem_cons_zero] at e
        have := hx b e
        omega
  have bxs : ∀ b, w.heap.size ≤ b → b ≤ w.heap.size + 6 → b ≠ w.heap.size + 5 → (w1.setCell ⟨w.heap.size + 5, 0, none⟩ v').heap[b]? = W.heap[b]? := fun b h1 h2 h3 =>
    q b (by omega) h3 (fun e => by
      have := nv b e
      omega)
  refine ⟨rc1, lo, World.putObj_heap_same (Array.getElem?_eq_some_iff.1 rc1).1, (q4 L (by omega)).trans ((q L (by omega) (by omega) (fun e => (nv _ e).1 rfl)).trans h.df), b1.trans (belowK_b (w := w) (Nat.le_refl _) _ _ _ _ (by omega) rc1 hrd1 hrd2),
    h.bx.keep (fun b h1 h2 h3 => (q4 b (by omega)).trans (bxs b h1 h2 h3)), ⟨v', xs ++ [x], by simp, P1.frame (fun b _ e => q4 b (fr b e).2.1), fr⟩, fun i hi k' hk' => ?_⟩
  by_cases e : i = xs.length
  · subst e; exact hno k' hk'
  · exact h.no i (by omega) k' hk'

theorem no_step {P : Nat → Nat → Bool} {j n : Nat} (h : ∀ k', k' < j → P k' n = false) (e : P j n = false) : ∀ k', k' < j + 1 → P k' n = false := fun k' hk => by
  by_cases q : k' = j
  · rw [q]; exact e
  · exact h k' (by omega)

set_option maxHeartbeats 4000000 in
theorem firstPair_any {d : Nat} {T : Tr d} {lv sv : Value} {ls : List (Int × Int)} {hf : Nat} {lb : Array Value} (P : Nat → Nat → Bool) {w : World} (hL : LRep w lv ls) (hR : Rep w d sv T) (hp : ls.length ≤ 4)
    (eh : ∀ args w, (callFunc hf args).run Tryz.prog w = .ok (.enter hf args) w) (hH : HoldsAt w ls d T P hf lb) :
    Calls Tryz.prog 21 #[.agg #[lv, sv], .func (.func hf) #[] lb] w (FpPost w P ls.length) := by
  obtain ⟨la, lc, rfl, -⟩ := id hL
  obtain ⟨sa, sc, rfl⟩ := id hR.slice
  have HL : Hid _ := hL
  have HR : Hid _ := hR
  have HH : Hid _ := hH
  clear hL hR hH
  refine (callsIn_wide (n := 5)).1 ?_
  refine callsIn_of_wp_marks Tryz.func21 rfl trivial ?_ rfl
  simp only [Tryz.ntmps21, List.size_toArray, List.length_cons, List.length_nil, Nat.reduceAdd, Nat.reduceSub, Array.replicate_succ, Array.replicate_zero, List.push_toArray, List.append_toArray, List.nil_append, List.cons_append]
  gi_wp2_with (refine ⟨trivial, ?_⟩; gi_at_call 49; refine (callsIn_wide.2 (bitRows_any ls.length _)).mono ?_; rintro e w3 ⟨rfl, hb3, hlt3, hc3⟩)
  have A6 := (((((((Below.refl w.heap.size w).alloc (Nat.le_refl _) (.cells #[.slice la ls.length lc, .slice sa (ln d T) sc] 26)).alloc (by simp only [World.size_alloc]; omega) (.cells #[.func (.func hf) #[] lb] 55)).alloc (by simp only [World.size_alloc]; omega) (.cells #[.slice none 0 0] 29)).alloc (by simp only [World.size_alloc]; omega) (.cells #[.slice none 0 0] 29)).alloc (by simp only [World.size_alloc]; omega) (.cells #[.bool false] 4)).alloc (by simp only [World.size_alloc]; omega) (.cells #[.slice none 0 0] 88))
  have hlt3' : w.heap.size + 6 < w3.heap.size := by simpa using hlt3
  have B3 : Below w.heap.size w w3 := Below.then A6 hb3 A6.size
  have X3 : Bxs w.heap.size w3 (.slice la ls.length lc) (.slice sa (ln d T) sc) (.func (.func hf) #[] lb) (.slice none 0 0) (.slice none 0 0) (.bool false) ls.length := by
    have fr : ∀ b, b < w.heap.size + 6 → w3.heap[b]? = _ := fun b hb => hb3.block b (by simp only [World.size_alloc]; omega)
    exact ⟨cell_later hb3 (by (try simp (disch := (simp only [World.size_alloc]; omega)) only [World.cell?_alloc_at, World.cell?_alloc_past, World.frozen?_alloc_at, World.frozen?_alloc_past]); first | done | (rw [World.cell?_alloc_at _ _ _ _ (by simp only [World.size_alloc])]; rfl) | (rw [World.frozen?_alloc_at _ _ _ _ (by simp only [World.size_alloc])])), cell_later hb3 (by (try simp (disch := (simp only [World.size_alloc]; omega)) only [World.cell?_alloc_at, World.cell?_alloc_past, World.frozen?_alloc_at, World.frozen?_alloc_past]); first | done | (rw [World.cell?_alloc_at _ _ _ _ (by simp only [World.size_alloc])]; rfl) | (rw [World.frozen?_alloc_at _ _ _ _ (by simp only [World.size_alloc])])), cell_later hb3 (by (try simp (disch := (simp only [World.size_alloc]; omega)) only [World.cell?_alloc_at, World.cell?_alloc_past, World.frozen?_alloc_at, World.frozen?_alloc_past]); first | done | (rw [World.cell?_alloc_at _ _ _ _ (by simp only [World.size_alloc])]; rfl) | (rw [World.frozen?_alloc_at _ _ _ _ (by simp only [World.size_alloc])])), ⟨cell_later hb3 (by (try simp (disch := (simp only [World.size_alloc]; omega)) only [World.cell?_alloc_at, World.cell?_alloc_past, World.frozen?_alloc_at, World.frozen?_alloc_past]); first | done | (rw [World.cell?_alloc_at _ _ _ _ (by simp only [World.size_alloc])]; rfl) | (rw [World.frozen?_alloc_at _ _ _ _ (by simp only [World.size_alloc])])), free_eq (fr _ (by omega)) (by (try simp (disch := (simp only [World.size_alloc]; omega)) only [World.cell?_alloc_at, World.cell?_alloc_past, World.frozen?_alloc_at, World.frozen?_alloc_past]); first | done | (rw [World.cell?_alloc_at _ _ _ _ (by simp only [World.size_alloc])]; rfl) | (rw [World.frozen?_alloc_at _ _ _ _ (by simp only [World.size_alloc])]))⟩, ⟨cell_later hb3 (by (try simp (disch := (simp only [World.size_alloc]; omega)) only [World.cell?_alloc_at, World.cell?_alloc_past, World.frozen?_alloc_at, World.frozen?_alloc_past]); first | done | (rw [World.cell?_alloc_at _ _ _ _ (by simp only [World.size_alloc])]; rfl) | (rw [World.frozen?_alloc_at _ _ _ _ (by simp only [World.size_alloc])])), free_eq (fr _ (by omega)) (by (try simp (disch := (simp only [World.size_alloc]; omega)) only [World.cell?_alloc_at, World.cell?_alloc_past, World.frozen?_alloc_at, World.frozen?_alloc_past]); first | done | (rw [World.cell?_alloc_at _ _ _ _ (by simp only [World.size_alloc])]; rfl) | (rw [World.frozen?_alloc_at _ _ _ _ (by simp only [World.size_alloc])]))⟩, ⟨cell_later hb3 (by (try simp (disch := (simp only [World.size_alloc]; omega)) only [World.cell?_alloc_at, World.cell?_alloc_past, World.frozen?_alloc_at, World.frozen?_alloc_past]); first | done | (rw [World.cell?_alloc_at _ _ _ _ (by simp only [World.size_alloc])]; rfl) | (rw [World.frozen?_alloc_at _ _ _ _ (by simp only [World.size_alloc])])), free_eq (fr _ (by omega)) (by (try simp (disch := (simp only [World.size_alloc]; omega)) only [World.cell?_alloc_at, World.cell?_alloc_past, World.frozen?_alloc_at, World.frozen?_alloc_past]); first | done | (rw [World.cell?_alloc_at _ _ _ _ (by simp only [World.size_alloc])]; rfl) | (rw [World.frozen?_alloc_at _ _ _ _ (by simp only [World.size_alloc])]))⟩, by simpa using hc3⟩
  have Y3 : Ah w.heap.size w3 (w.heap.size + 5) (.slice none 0 0) [] (fun j => bitsL j ls.length) (fun j => runS ls d T (bitsL j ls.length)) := by
    have fr : ∀ b, b < w.heap.size + 6 → w3.heap[b]? = _ := fun b hb => hb3.block b (by simp only [World.size_alloc]; omega)
    exact ⟨cell_later hb3 (by (try simp (disch := (simp only [World.size_alloc]; omega)) only [World.cell?_alloc_at, World.cell?_alloc_past, World.frozen?_alloc_at, World.frozen?_alloc_past]); first | done | (rw [World.cell?_alloc_at _ _ _ _ (by simp only [World.size_alloc])]; rfl) | (rw [World.frozen?_alloc_at _ _ _ _ (by simp only [World.size_alloc])])), free_eq (fr _ (by omega)) (by (try simp (disch := (simp only [World.size_alloc]; omega)) only [World.cell?_alloc_at, World.cell?_alloc_past, World.frozen?_alloc_at, World.frozen?_alloc_past]); first | done | (rw [World.cell?_alloc_at _ _ _ _ (by simp only [World.size_alloc])]; rfl) | (rw [World.frozen?_alloc_at _ _ _ _ (by simp only [World.size_alloc])])), World.ownsRow_nil _ _ _ _, fun j hj => by simp at hj, fun j hj => by simp at hj, by simp [Value.ownBlock]⟩
  have HB3 : Hid _ := B3
  have HX3 : Hid _ := X3
  have HY3 : Hid _ := Y3
  have HS3 : Hid _ := hlt3'
  clear A6 B3 X3 Y3 hb3 hc3 hlt3 hlt3'
  simp only [Nat.add_assoc, Nat.reduceAdd]
  refine rf_enterR rfl (by omega) rfl trivial (enters_of Tryz.func68 (by kernel_rfl) rfl) (fun fn rec hfn HREC => ?_)
  refine (bitRows1_any (n := 4) (l := w3.heap.size + 1) (B := w.heap.size + 6) hp (by omega)
    (J := fun k W => Jp w ls d T (.slice la ls.length lc) (.slice sa (ln d T) sc) (.func (.func hf) #[] lb) P w3.heap.size (.loop (rec .ready none)) k W)
    (Jx := fun W => Jq w ls (.slice la ls.length lc) (.slice sa (ln d T) sc) (.func (.func hf) #[] lb) P w3.heap.size (.loop (rec .done (some .ret))) W) (fun k W h => h.bx.vs) ?hY ?h0).mono ?_
  case h0 =>
    have q0 : ∀ b, b < w3.heap.size → ((w3.alloc (.deferred (some []))).alloc (.loop (rec .ready none))).heap[b]? = w3.heap[b]? := fun b hb => (Below.heap_alloc _ _ _ (by simp; omega)).trans (Below.heap_alloc _ _ _ hb)
    have s3 := HS3.out
    refine ⟨by omega, ?_, ?_, ?_, HX3.out.keep (fun b _ _ _ => q0 b (by omega)), ⟨_, [], rfl, HY3.out.frame (fun b hb _ => q0 b hb), ?_⟩, fun i hi => by omega⟩
    · have := World.alloc_heap_new (w3.alloc (.deferred (some []))) (.loop (rec .ready none)); rwa [World.size_alloc] at this
    · exact (Below.heap_alloc _ _ _ (by simp)).trans (World.alloc_heap_new w3 _)
    · exact (HB3.out.alloc (by omega) _).alloc (by simp; omega) _
    · rintro b (e | e | ⟨j, hj, -⟩)
      · omega
      · simp [Value.ownBlock] at e
      · simp at hj
  case hY =>
    intro k W1 W2 hk hJ hba
    obtain ⟨hB12, hrow⟩ := hba
    obtain ⟨av, xs, hxl, hA1, hfar⟩ := hJ.ah
    have HOLD2 : Hid (∀ b, av.ownBlock = some b → b < W1.heap.size) := fun b e => (World.ownsRow.lt hA1.row b e).2
    have HOLD : Hid (∀ (j : Nat) (hj : j < xs.length) b, xs[j].Has b → b < W1.heap.size) := fun j hj b e => ((hA1.one j hj).lt e).2
    have hL1 : w3.heap.size + 1 < W1.heap.size := (Array.getElem?_eq_some_iff.1 hJ.rc).1
    have hJ2 := hJ.turn (W' := W2) (rd' := .loop (rec .ready none)) (fun b hb _ => hB12.block b hb) (Below.then hJ.bl hB12 hJ.bl.size) ((hB12.block _ hL1).trans hJ.rc)
    have hs12 := hB12.size
    refine rf_roundR HREC hfn hJ2.rc rfl ?_
    obtain ⟨v, hv⟩ : ∃ v, Value.slice (some ⟨W1.heap.size, 0, none⟩) ls.length ls.length = v := ⟨_, rfl⟩
    rw [hv] at hrow ⊢
    have q2 : ∀ b, b ≠ w3.heap.size + 1 → (W2.putObj (w3.heap.size + 1) (.loop (rec .busy none))).heap[b]? = W2.heap[b]? := fun b hb => World.putObj_heap_other hb
    have hJ3 := hJ2.turn (W' := W2.putObj (w3.heap.size + 1) (.loop (rec .busy none))) (rd' := .loop (rec .busy none)) (fun b hb hn => q2 b hn) (hJ2.bl.trans (belowK_b (w := w) (Nat.le_refl _) W2 _ _ _ (by have := hJ2.lo; omega) hJ2.rc rfl rfl)) (World.putObj_heap_same (by omega))
    have hrow3 : (W2.putObj (w3.heap.size + 1) (.loop (rec .busy none))).ownsRow W1.heap.size 3 1 v ls.length ((bitsL k ls.length).map (Value.int .i64)) := rowg_frame hrow (fun b e => q2 b (by have := (World.ownsRow.lt hrow b e).1; omega))
    have hs3 : (W2.putObj (w3.heap.size + 1) (.loop (rec .busy none))).heap.size = W2.heap.size := World.putObj_size
    have hrc2 := hJ2.rc
    have hA3 := hA1.frame (w' := W2.putObj (w3.heap.size + 1) (.loop (rec .busy none))) (fun b hb e => (q2 b (hfar b e).2.1).trans (hB12.block b hb))
    clear hA1
    obtain ⟨W3, hW3⟩ : ∃ u, W2.putObj (w3.heap.size + 1) (.loop (rec .busy none)) = u := ⟨_, rfl⟩
    rw [hW3] at hJ3 hrow3 hs3 hA3
    clear q2
    have hbl : (bitsL k ls.length).length = ls.length := by simp [bitsL]
    have hG3 : GRep (Value.int .i64) W3 v (bitsL k ls.length) := by
      obtain ⟨bs, g1, -⟩ := row_gown (xs := bitsL k ls.length) (by rw [hbl]; exact hrow3)
      exact g1.rep
    have CR : Hid _ := runOf_any (LRep.below hJ3.bl HL.out) (Rep.below hJ3.bl HR.out) hG3
    have bx3 := hJ3.bx
    have p0 := bx3.p0
    have p1 := bx3.p1
    have HJ3 : Hid _ := hJ3
    have HROW3 : Hid _ := hrow3
    have hA := hA3
    have hav := hA.cell
    have haf := hA.free
    have hal := hA.lt
    obtain ⟨aa, al, ac, rfl⟩ := own_sl hA.row
    have HA : Hid _ := hA
    have HFAR : Hid _ := hfar
    clear hJ hJ2 hJ3 hrow3 hrow hG3 bx3 hB12 hA hA3 hfar haf
    subst hv
    gi_wp2_with (refine ⟨trivial, ?_⟩; gi_at_call 50; refine (CallsIn.inRound _ (callsIn_wide.2 CR.out)).mono ?_; rintro e wb ⟨ra, rb, rc, rfl, hbw, h3⟩; obtain ⟨n1, n2, n3, rfl⟩ := own_sl h3.n; obtain ⟨e1, e2, e3, rfl⟩ := own_sl h3.ws; obtain ⟨s1, s2, s3, rfl⟩ := own_sl h3.ss; have av5 := cell_later hbw hav; have av6 : w.heap.size + 5 < wb.heap.size := (by have := hbw.size; omega))
    obtain ⟨W5, hW5⟩ : ∃ u, (wb.alloc (.cells #[.slice n1 n2 n3, .slice e1 e2 e3, .slice s1 s2 s3] 51)).alloc (.cells #[.slice (some ⟨W1.heap.size, 0, none⟩) ls.length ls.length, .slice n1 n2 n3, .slice e1 e2 e3, .slice s1 s2 s3] 53) = u := ⟨_, rfl⟩
    have B35 : Below W3.heap.size W3 W5 := by rw [← hW5]; exact (hbw.alloc hbw.size _).alloc (by have := hbw.size; simp; omega) _
    have hs5 : W5.heap.size = wb.heap.size + 2 := by rw [← hW5]; simp
    have S5 : ∀ u, Below W5.heap.size W5 u → u.cell? ⟨wb.heap.size + 1, 0, none⟩ = some (.slice (some ⟨W1.heap.size, 0, none⟩) ls.length ls.length) ∧ u.cell? ⟨wb.heap.size + 1, 1, none⟩ = some (.slice n1 n2 n3) ∧ u.cell? ⟨wb.heap.size + 1, 2, none⟩ = some (.slice e1 e2 e3) ∧ u.cell? ⟨wb.heap.size + 1, 3, none⟩ = some (.slice s1 s2 s3) := fun u hu => by
      refine ⟨cell_later hu ?_, cell_later hu ?_, cell_later hu ?_, cell_later hu ?_⟩ <;> rw [← hW5] <;> rw [World.cell?_alloc_at _ _ _ _ (by simp only [World.size_alloc])] <;> rfl
    have J5 := HJ3.out.turn (rd' := .loop (rec .busy none)) (fun b hb _ => B35.block b hb) (Below.then HJ3.out.bl B35 HJ3.out.bl.size) ((B35.block _ (by have := hal; have := HJ3.out.rc; exact (Array.getElem?_eq_some_iff.1 this).1)).trans HJ3.out.rc)
    have A5 := HA.out.frame (w' := W5) (fun b hb _ => B35.block b hb)
    have O5w : One W1.heap.size W5 ⟨.slice (some ⟨W1.heap.size, 0, none⟩) ls.length ls.length, .slice n1 n2 n3, .slice e1 e2 e3, .slice s1 s2 s3⟩ (bitsL k ls.length) (runS ls d T (bitsL k ls.length)) := by
      have bw5 : Below wb.heap.size wb W5 := by rw [← hW5]; exact ((Below.refl _ wb).alloc (Nat.le_refl _) _).alloc (by simp) _
      refine ⟨?_, (h3.base (by omega)).below bw5⟩
      rw [hbl]
      exact rowg_frame HROW3.out (fun b e => B35.block b (World.ownsRow.lt HROW3.out b e).2)
    have O5 : One w.heap.size W5 ⟨.slice (some ⟨W1.heap.size, 0, none⟩) ls.length ls.length, .slice n1 n2 n3, .slice e1 e2 e3, .slice s1 s2 s3⟩ (bitsL k ls.length) (runS ls d T (bitsL k ls.length)) := ⟨own_base O5w.row (by have := HS3.out; omega), O5w.run.base (by have := HS3.out; omega)⟩
    have HNEW : Hid (∀ b, T4.Has ⟨.slice (some ⟨W1.heap.size, 0, none⟩) ls.length ls.length, .slice n1 n2 n3, .slice e1 e2 e3, .slice s1 s2 s3⟩ b → W1.heap.size ≤ b) := fun b e => (O5w.lt e).1
    clear O5w
    have hak : al = k := by have := own_len HA.out.row; omega
    have HJ5 : Hid _ := J5
    have HA5 : Hid _ := A5
    have HO5 : Hid _ := O5
    have HS5 : Hid _ := S5
    have HSZ5 : Hid (w.heap.size + 7 ≤ w3.heap.size ∧ w3.heap.size + 1 < W1.heap.size ∧ W1.heap.size ≤ W3.heap.size ∧ W3.heap.size ≤ wb.heap.size ∧ W5.heap.size = wb.heap.size + 2) := ⟨HS3.out, hL1, by omega, hbw.size, hs5⟩
    rw [hW5]
    subst hak
    clear J5 A5 O5 S5 B35 hW5 h3 hbw av5 av6 p0 p1 HROW3 CR hav
    gi_loopw [30] (fun q wr => ∃ (j : Nat), j ≤ al ∧ q = .int .i64 j ∧ Below W5.heap.size W5 wr ∧ Hid (∀ k', k' < j → P k' al = false)) (fun q _ => al - (intOf q).toNat)
    case atStart => exact ⟨0, Nat.zero_le _, rfl, Below.refl _ _, (show ∀ k', k' < 0 → _ from fun k' h => by omega)⟩
    case round =>
      obtain ⟨j, hj, rfl, hbr, HN⟩ := hrel
      have HBR : Hid (Below W5.heap.size W5 wr) := hbr
      have hx4 := HS5.out wr hbr
      obtain ⟨z0, z1, z2, z3⟩ := hx4
      have szr : W5.heap.size ≤ wr.heap.size := hbr.size
      have sz5 := HSZ5.out
      have hh5 := HJ5.out.bx.h
      have hhr := cell_later hbr hh5
      clear hh5
      by_cases hlt : j < al
      · have i1' : (j : Int) < (al : Int) := by omega
        have hjx : j < xs.length := by omega
        obtain ⟨ab, ac', hav', hac, hacm, y0, y1, y2, y3⟩ := HA5.out.at_ j hjx
        cases hav'
        have O1 := HA5.out.one j hjx
        obtain ⟨⟨q0, q1, q2, q3⟩, hq⟩ : ∃ q, xs[j] = q := ⟨_, rfl⟩
        have HQX : Hid _ := hq
        rw [hq] at y0 y1 y2 y3 O1
        dsimp only at y0 y1 y2 y3
        obtain ⟨a0, l0, c0, rfl⟩ := own_sl O1.row
        obtain ⟨a1, l1, c1, rfl⟩ := own_sl O1.run.n
        obtain ⟨a2, l2, c2, rfl⟩ := own_sl O1.run.ws
        obtain ⟨a3, l3, c3, rfl⟩ := own_sl O1.run.ss
        have HO1 : Hid _ := O1
        replace y0 := cell_later hbr y0
        replace y1 := cell_later hbr y1
        replace y2 := cell_later hbr y2
        replace y3 := cell_later hbr y3
        have B56 : Below W5.heap.size W5 (wr.alloc (.cells #[.slice a0 l0 c0, .slice a1 l1 c1, .slice a2 l2 c2, .slice a3 l3 c3] 53)) := hbr.alloc szr _
        have CH := HH.out _ (Below.then HJ5.out.bl B56 HJ5.out.bl.size) j xs.length _ _ hlt hk (O1.frame (fun b hb _ => B56.block b hb)) (HO5.out.frame (fun b hb _ => B56.block b hb))
        simp only [T4.agg] at CH
        have HCH : Hid _ := CH
        have HB56 : Hid _ := B56
        clear hbr O1 hq CH B56
        have m1 : xs.length ≤ ac := hac
        have lt1 : w.heap.size + 1 < wr.heap.size := by omega
        have lt2 : wb.heap.size + 1 < wr.heap.size := by omega
        obtain ⟨pb, hpb⟩ : ∃ p, P j xs.length = p := ⟨_, rfl⟩
        rw [hpb] at HCH
        have HPB : Hid _ := hpb
        clear hpb
        cases pb
        · gi_wp2_with (refine ⟨trivial, ?_⟩; refine (CallsIn.inRound _ (callsIn_wide.2 HCH.out)).mono ?_; rintro e w7 ⟨rfl, hb7⟩; have HB7 : Hid _ := hb7; clear hb7)
          have hacm' := hacm
          unfold maxLen at hacm'
          have hw : wrap64 ((j : Int) + 1) = ((j + 1 : Nat) : Int) := by unfold wrap64; omega
          rw [hw]
          have HNN : Hid _ := no_step HN.out HPB.out
          have BF : Below W5.heap.size W5 w7 := Below.then HB56.out HB7.out HB56.out.size
          clear HCH HB56 HB7 HO5 HA5 HJ5 HH HL HR
          exact ⟨⟨j + 1, hlt, rfl, BF, HNN⟩, Nat.sub_lt_sub_left hlt (Nat.lt_succ_self j)⟩
        · gi_wp2_with (refine ⟨trivial, ?_⟩; refine (CallsIn.inRound _ (callsIn_wide.2 HCH.out)).mono ?_; rintro e w7 ⟨rfl, hb7⟩; have B57 := Below.then HB56.out hb7 HB56.out.size; obtain ⟨v0, v1, v2, v3⟩ := HS5.out w7 B57; have f0 := cell_later hb7 (World.cell?_alloc_at _ 53 wr.heap.size 0 rfl); have HB57 : Hid _ := B57; clear B57)
          have X7 := HJ5.out.bx.keep (W' := w7) (fun b _ _ _ => HB57.out.block b (by have := HJ5.out.lo; have := (Array.getElem?_eq_some_iff.1 HJ5.out.rc).1; omega))
          obtain ⟨⟨c1, g1⟩, ⟨c2, g2⟩, ⟨c3, g3⟩⟩ := And.intro X7.a1 (And.intro X7.a2 X7.a3)
          have ne1 : ¬ wb.heap.size = w.heap.size + 1 := by omega
          have ne2 : ¬ w.heap.size + 1 = wb.heap.size := by omega
          have ne3 : ¬ wr.heap.size = w.heap.size + 2 := by omega
          have ne4 : ¬ w.heap.size + 2 = wr.heap.size := by omega
          have HHIT : Hid _ := Jp.hit HJ5.out HB57.out rfl rfl hk hlt HN.out HPB.out HO1.out.row HO5.out.row (fun b e q => absurd (HNEW.out b (.inl q)) (by have := HOLD.out j hjx b (by rw [HQX.out]; exact .inl e); omega)) (fun b e => by
            rcases e with e | e
            · obtain ⟨h1, h2, h3, h4, h5, -⟩ := HFAR.out b (.inr (.inr ⟨j, hjx, by rw [HQX.out]; exact .inl e⟩))
              exact ⟨h1, h2, h3, h4, h5⟩
            · have := HNEW.out b (.inl e)
              exact ⟨by omega, by omega, by omega, by omega, by omega⟩) (.loop (rec .done (some .ret)))
          clear X7 HCH HB56 HO5 HO1 HA5 HJ5 HH HL HR HFAR
          refine wpIn_region_any (by kernel_rfl) ?_
          try (change wpAnyIn _ _ _ _ _ _ _ _ _ (World.drew _))
          refine wpAnyIn_ready (rs := [0, 2]) (by kernel_rfl) (by simp) ?_
          refine AllReadyIn.cons rfl (fun K hK => ?_) ?_
          · go_simp
            refine hK _ _ ?_; clear hK K
            refine wpAnyIn_ready (rs := [1, 2]) (by kernel_rfl) (by simp) ?_
            refine AllReadyIn.cons rfl (fun K hK => ?_) ?_
            · go_simp
              refine hK _ _ ?_; clear hK K
              refine wpAnyIn_ready (rs := [2, 4]) (by kernel_rfl) (by simp) ?_
              refine AllReadyIn.cons rfl (fun K hK => ?_) ?_
              · go_simp
                refine hK _ _ ?_; clear hK K
                refine wpAnyIn_ready (rs := [3, 4]) (by kernel_rfl) (by simp) ?_
                refine AllReadyIn.cons rfl (fun K hK => ?_) ?_
                · go_simp
                  refine hK _ _ ?_; clear hK K
                  refine wpAnyIn_ready (rs := [4]) (by kernel_rfl) (by simp) ?_
                  refine AllReadyIn.cons rfl (fun K hK => ?_) ?_
                  · go_simp
                    refine hK _ _ ?_; clear hK K
                    refine wpAnyIn_ready (rs := [5]) (by kernel_rfl) (by simp) ?_
                    refine AllReadyIn.cons rfl (fun K hK => ?_) ?_
                    · go_simp
                      refine hK _ _ ?_; clear hK K
                      refine wpAnyIn_ready (rs := [6]) (by kernel_rfl) (by simp) ?_
                      refine AllReadyIn.cons rfl (fun K hK => ?_) ?_
                      · go_simp
                        refine hK _ _ ?_; clear hK K
                        refine wpAnyIn_done (by kernel_rfl) ?_ _
                        gi_wp2
                        obtain ⟨r1, r2⟩ := HHIT.out _ rfl
                        exact ⟨r1, .inr ⟨rfl, r2⟩⟩
                      exact AllReadyIn.nil
                    exact AllReadyIn.nil
                  exact AllReadyIn.nil
                refine AllReadyIn.cons rfl (fun K hK => ?_) ?_
                · go_simp
                  refine hK _ _ ?_; clear hK K
                  refine wpAnyIn_ready (rs := [3]) (by kernel_rfl) (by simp) ?_
                  refine AllReadyIn.cons rfl (fun K hK => ?_) ?_
                  · go_simp
                    refine hK _ _ ?_; clear hK K
                    refine wpAnyIn_ready (rs := [5]) (by kernel_rfl) (by simp) ?_
                    refine AllReadyIn.cons rfl (fun K hK => ?_) ?_
                    · go_simp
                      refine hK _ _ ?_; clear hK K
                      refine wpAnyIn_ready (rs := [6]) (by kernel_rfl) (by simp) ?_
                      refine AllReadyIn.cons rfl (fun K hK => ?_) ?_
                      · go_simp
                        refine hK _ _ ?_; clear hK K
                        refine wpAnyIn_done (by kernel_rfl) ?_ _
                        gi_wp2
                        obtain ⟨r1, r2⟩ := HHIT.out _ rfl
                        exact ⟨r1, .inr ⟨rfl, r2⟩⟩
                      exact AllReadyIn.nil
                    exact AllReadyIn.nil
                  exact AllReadyIn.nil
                exact AllReadyIn.nil
              refine AllReadyIn.cons rfl (fun K hK => ?_) ?_
              · go_simp
                refine hK _ _ ?_; clear hK K
                refine wpAnyIn_ready (rs := [2]) (by kernel_rfl) (by simp) ?_
                refine AllReadyIn.cons rfl (fun K hK => ?_) ?_
                · go_simp
                  refine hK _ _ ?_; clear hK K
                  refine wpAnyIn_ready (rs := [3]) (by kernel_rfl) (by simp) ?_
                  refine AllReadyIn.cons rfl (fun K hK => ?_) ?_
                  · go_simp
                    refine hK _ _ ?_; clear hK K
                    refine wpAnyIn_ready (rs := [5]) (by kernel_rfl) (by simp) ?_
                    refine AllReadyIn.cons rfl (fun K hK => ?_) ?_
                    · go_simp
                      refine hK _ _ ?_; clear hK K
                      refine wpAnyIn_ready (rs := [6]) (by kernel_rfl) (by simp) ?_
                      refine AllReadyIn.cons rfl (fun K hK => ?_) ?_
                      · go_simp
                        refine hK _ _ ?_; clear hK K
                        refine wpAnyIn_done (by kernel_rfl) ?_ _
                        gi_wp2
                        obtain ⟨r1, r2⟩ := HHIT.out _ rfl
                        exact ⟨r1, .inr ⟨rfl, r2⟩⟩
                      exact AllReadyIn.nil
                    exact AllReadyIn.nil
                  exact AllReadyIn.nil
                exact AllReadyIn.nil
              exact AllReadyIn.nil
            refine AllReadyIn.cons rfl (fun K hK => ?_) ?_
            · go_simp
              refine hK _ _ ?_; clear hK K
              refine wpAnyIn_ready (rs := [1, 3]) (by kernel_rfl) (by simp) ?_
              refine AllReadyIn.cons rfl (fun K hK => ?_) ?_
              · go_simp
                refine hK _ _ ?_; clear hK K
                refine wpAnyIn_ready (rs := [3, 4]) (by kernel_rfl) (by simp) ?_
                refine AllReadyIn.cons rfl (fun K hK => ?_) ?_
                · go_simp
                  refine hK _ _ ?_; clear hK K
                  refine wpAnyIn_ready (rs := [4]) (by kernel_rfl) (by simp) ?_
                  refine AllReadyIn.cons rfl (fun K hK => ?_) ?_
                  · go_simp
                    refine hK _ _ ?_; clear hK K
                    refine wpAnyIn_ready (rs := [5]) (by kernel_rfl) (by simp) ?_
                    refine AllReadyIn.cons rfl (fun K hK => ?_) ?_
                    · go_simp
                      refine hK _ _ ?_; clear hK K
                      refine wpAnyIn_ready (rs := [6]) (by kernel_rfl) (by simp) ?_
                      refine AllReadyIn.cons rfl (fun K hK => ?_) ?_
                      · go_simp
                        refine hK _ _ ?_; clear hK K
                        refine wpAnyIn_done (by kernel_rfl) ?_ _
                        gi_wp2
                        obtain ⟨r1, r2⟩ := HHIT.out _ rfl
                        exact ⟨r1, .inr ⟨rfl, r2⟩⟩
                      exact AllReadyIn.nil
                    exact AllReadyIn.nil
                  exact AllReadyIn.nil
                refine AllReadyIn.cons rfl (fun K hK => ?_) ?_
                · go_simp
                  refine hK _ _ ?_; clear hK K
                  refine wpAnyIn_ready (rs := [3]) (by kernel_rfl) (by simp) ?_
                  refine AllReadyIn.cons rfl (fun K hK => ?_) ?_
                  · go_simp
                    refine hK _ _ ?_; clear hK K
                    refine wpAnyIn_ready (rs := [5]) (by kernel_rfl) (by simp) ?_
                    refine AllReadyIn.cons rfl (fun K hK => ?_) ?_
                    · go_simp
                      refine hK _ _ ?_; clear hK K
                      refine wpAnyIn_ready (rs := [6]) (by kernel_rfl) (by simp) ?_
                      refine AllReadyIn.cons rfl (fun K hK => ?_) ?_
                      · go_simp
                        refine hK _ _ ?_; clear hK K
                        refine wpAnyIn_done (by kernel_rfl) ?_ _
                        gi_wp2
                        obtain ⟨r1, r2⟩ := HHIT.out _ rfl
                        exact ⟨r1, .inr ⟨rfl, r2⟩⟩
                      exact AllReadyIn.nil
                    exact AllReadyIn.nil
                  exact AllReadyIn.nil
                exact AllReadyIn.nil
              refine AllReadyIn.cons rfl (fun K hK => ?_) ?_
              · go_simp
                refine hK _ _ ?_; clear hK K
                refine wpAnyIn_ready (rs := [1]) (by kernel_rfl) (by simp) ?_
                refine AllReadyIn.cons rfl (fun K hK => ?_) ?_
                · go_simp
                  refine hK _ _ ?_; clear hK K
                  refine wpAnyIn_ready (rs := [4]) (by kernel_rfl) (by simp) ?_
                  refine AllReadyIn.cons rfl (fun K hK => ?_) ?_
                  · go_simp
                    refine hK _ _ ?_; clear hK K
                    refine wpAnyIn_ready (rs := [5]) (by kernel_rfl) (by simp) ?_
                    refine AllReadyIn.cons rfl (fun K hK => ?_) ?_
                    · go_simp
                      refine hK _ _ ?_; clear hK K
                      refine wpAnyIn_ready (rs := [6]) (by kernel_rfl) (by simp) ?_
                      refine AllReadyIn.cons rfl (fun K hK => ?_) ?_
                      · go_simp
                        refine hK _ _ ?_; clear hK K
                        refine wpAnyIn_done (by kernel_rfl) ?_ _
                        gi_wp2
                        obtain ⟨r1, r2⟩ := HHIT.out _ rfl
                        exact ⟨r1, .inr ⟨rfl, r2⟩⟩
                      exact AllReadyIn.nil
                    exact AllReadyIn.nil
                  exact AllReadyIn.nil
                exact AllReadyIn.nil
              exact AllReadyIn.nil
            exact AllReadyIn.nil
          refine AllReadyIn.cons rfl (fun K hK => ?_) ?_
          · go_simp
            refine hK _ _ ?_; clear hK K
            refine wpAnyIn_ready (rs := [0, 3]) (by kernel_rfl) (by simp) ?_
            refine AllReadyIn.cons rfl (fun K hK => ?_) ?_
            · go_simp
              refine hK _ _ ?_; clear hK K
              refine wpAnyIn_ready (rs := [1, 3]) (by kernel_rfl) (by simp) ?_
              refine AllReadyIn.cons rfl (fun K hK => ?_) ?_
              · go_simp
                refine hK _ _ ?_; clear hK K
                refine wpAnyIn_ready (rs := [3, 4]) (by kernel_rfl) (by simp) ?_
                refine AllReadyIn.cons rfl (fun K hK => ?_) ?_
                · go_simp
                  refine hK _ _ ?_; clear hK K
                  refine wpAnyIn_ready (rs := [4]) (by kernel_rfl) (by simp) ?_
                  refine AllReadyIn.cons rfl (fun K hK => ?_) ?_
                  · go_simp
                    refine hK _ _ ?_; clear hK K
                    refine wpAnyIn_ready (rs := [5]) (by kernel_rfl) (by simp) ?_
                    refine AllReadyIn.cons rfl (fun K hK => ?_) ?_
                    · go_simp
                      refine hK _ _ ?_; clear hK K
                      refine wpAnyIn_ready (rs := [6]) (by kernel_rfl) (by simp) ?_
                      refine AllReadyIn.cons rfl (fun K hK => ?_) ?_
                      · go_simp
                        refine hK _ _ ?_; clear hK K
                        refine wpAnyIn_done (by kernel_rfl) ?_ _
                        gi_wp2
                        obtain ⟨r1, r2⟩ := HHIT.out _ rfl
                        exact ⟨r1, .inr ⟨rfl, r2⟩⟩
                      exact AllReadyIn.nil
                    exact AllReadyIn.nil
                  exact AllReadyIn.nil
                refine AllReadyIn.cons rfl (fun K hK => ?_) ?_
                · go_simp
                  refine hK _ _ ?_; clear hK K
                  refine wpAnyIn_ready (rs := [3]) (by kernel_rfl) (by simp) ?_
                  refine AllReadyIn.cons rfl (fun K hK => ?_) ?_
                  · go_simp
                    refine hK _ _ ?_; clear hK K
                    refine wpAnyIn_ready (rs := [5]) (by kernel_rfl) (by simp) ?_
                    refine AllReadyIn.cons rfl (fun K hK => ?_) ?_
                    · go_simp
                      refine hK _ _ ?_; clear hK K
                      refine wpAnyIn_ready (rs := [6]) (by kernel_rfl) (by simp) ?_
                      refine AllReadyIn.cons rfl (fun K hK => ?_) ?_
                      · go_simp
                        refine hK _ _ ?_; clear hK K
                        refine wpAnyIn_done (by kernel_rfl) ?_ _
                        gi_wp2
                        obtain ⟨r1, r2⟩ := HHIT.out _ rfl
                        exact ⟨r1, .inr ⟨rfl, r2⟩⟩
                      exact AllReadyIn.nil
                    exact AllReadyIn.nil
                  exact AllReadyIn.nil
                exact AllReadyIn.nil
              refine AllReadyIn.cons rfl (fun K hK => ?_) ?_
              · go_simp
                refine hK _ _ ?_; clear hK K
                refine wpAnyIn_ready (rs := [1]) (by kernel_rfl) (by simp) ?_
                refine AllReadyIn.cons rfl (fun K hK => ?_) ?_
                · go_simp
                  refine hK _ _ ?_; clear hK K
                  refine wpAnyIn_ready (rs := [4]) (by kernel_rfl) (by simp) ?_
                  refine AllReadyIn.cons rfl (fun K hK => ?_) ?_
                  · go_simp
                    refine hK _ _ ?_; clear hK K
                    refine wpAnyIn_ready (rs := [5]) (by kernel_rfl) (by simp) ?_
                    refine AllReadyIn.cons rfl (fun K hK => ?_) ?_
                    · go_simp
                      refine hK _ _ ?_; clear hK K
                      refine wpAnyIn_ready (rs := [6]) (by kernel_rfl) (by simp) ?_
                      refine AllReadyIn.cons rfl (fun K hK => ?_) ?_
                      · go_simp
                        refine hK _ _ ?_; clear hK K
                        refine wpAnyIn_done (by kernel_rfl) ?_ _
                        gi_wp2
                        obtain ⟨r1, r2⟩ := HHIT.out _ rfl
                        exact ⟨r1, .inr ⟨rfl, r2⟩⟩
                      exact AllReadyIn.nil
                    exact AllReadyIn.nil
                  exact AllReadyIn.nil
                exact AllReadyIn.nil
              exact AllReadyIn.nil
            refine AllReadyIn.cons rfl (fun K hK => ?_) ?_
            · go_simp
              refine hK _ _ ?_; clear hK K
              refine wpAnyIn_ready (rs := [0]) (by kernel_rfl) (by simp) ?_
              refine AllReadyIn.cons rfl (fun K hK => ?_) ?_
              · go_simp
                refine hK _ _ ?_; clear hK K
                refine wpAnyIn_ready (rs := [1]) (by kernel_rfl) (by simp) ?_
                refine AllReadyIn.cons rfl (fun K hK => ?_) ?_
                · go_simp
                  refine hK _ _ ?_; clear hK K
                  refine wpAnyIn_ready (rs := [4]) (by kernel_rfl) (by simp) ?_
                  refine AllReadyIn.cons rfl (fun K hK => ?_) ?_
                  · go_simp
                    refine hK _ _ ?_; clear hK K
                    refine wpAnyIn_ready (rs := [5]) (by kernel_rfl) (by simp) ?_
                    refine AllReadyIn.cons rfl (fun K hK => ?_) ?_
                    · go_simp
                      refine hK _ _ ?_; clear hK K
                      refine wpAnyIn_ready (rs := [6]) (by kernel_rfl) (by simp) ?_
                      refine AllReadyIn.cons rfl (fun K hK => ?_) ?_
                      · go_simp
                        refine hK _ _ ?_; clear hK K
                        refine wpAnyIn_done (by kernel_rfl) ?_ _
                        gi_wp2
                        obtain ⟨r1, r2⟩ := HHIT.out _ rfl
                        exact ⟨r1, .inr ⟨rfl, r2⟩⟩
                      exact AllReadyIn.nil
                    exact AllReadyIn.nil
                  exact AllReadyIn.nil
                exact AllReadyIn.nil
              exact AllReadyIn.nil
            exact AllReadyIn.nil
          exact AllReadyIn.nil
      · have i1' : ¬ (j : Int) < (al : Int) := by omega
        obtain rfl : j = al := by omega
        subst hxl
        have y0 := cell_later hbr HA5.out.cell
        have yf := free_eq (hbr.block _ HA5.out.lt) HA5.out.free
        have HAR : Hid _ := HA5.out.frame (w' := wr) (fun b hb _ => hbr.block b hb)
        have HOR : Hid _ := HO5.out.frame (w' := wr) (fun b hb _ => hbr.block b hb)
        have HJR : Hid _ := HJ5.out.turn (rd' := .loop (rec .busy none)) (fun b hb _ => hbr.block b hb) (Below.then HJ5.out.bl hbr HJ5.out.bl.size) ((hbr.block _ (Array.getElem?_eq_some_iff.1 HJ5.out.rc).1).trans HJ5.out.rc)
        have HNO : Hid _ := HN.out
        obtain ⟨i0, hi0, hz0, hz1, hz2⟩ := info_parts infoTried
        have h16 : xs.length < 16 := Nat.lt_of_lt_of_le hk (Nat.le_trans (Nat.pow_le_pow_right (by omega) hp) (by decide))
        have H16 : Hid _ := h16
        clear h16 HJ5 HA5 HO5 HH HL HR
        gi_wp2_with (gi_at_builtin; refine wpListIn_append_own_at _ rfl _ _ 88 rfl w.heap.size 53 i0 _ 4 96 Tryz.underlying88 hi0 hz0 hz1 hz2 rfl (by decide) _ _ _ rfl (HAR.out.row.alloc _) ⟨wr.heap.size, 0, none⟩ 1 1 (T4.cells ⟨.slice (some ⟨W1.heap.size, 0, none⟩) ls.length ls.length, .slice n1 n2 n3, .slice e1 e2 e3, .slice s1 s2 s3⟩) rfl rfl ?c1 ?c2 ?c3 ?c4 ?c5 ?_)
        case c1 => exact fun _ _ h => h
        case c2 => intro u hu; simp [T4.cells] at hu; rcases hu with rfl | rfl | rfl | rfl <;> rfl
        case c3 => have := H16.out; unfold maxLen; omega
        case c4 => have := H16.out; omega
        case c5 => have := HSZ5.out; omega
        intro v1 w1 own1 grow1 hn1 hat1
        obtain ⟨g1, g2, g3, rfl⟩ := own_sl own1
        have HOWN1 : Hid _ := own1
        have HGR1 : Hid _ := grow1
        have HAT1 : Hid _ := hat1
        have e5 : w1.heap[w.heap.size + 5]? = wr.heap[w.heap.size + 5]? := (grow1.block _ (by have := HAR.out.lt; simp; omega) (fun e => HAR.out.self e.symm)).trans (Below.heap_alloc _ _ _ HAR.out.lt)
        have y5 := cell_eq e5 y0
        have yf5 := free_eq e5 yf
        clear own1 grow1 hn1 hat1 e5 y0 yf i1' hi0 hz0 hz1 hz2 hbr hal szr sz5
        gi_wp2
        obtain ⟨r1, r2⟩ := Jp.next HJR.out rfl rfl rfl HAR.out HFAR.out HOR.out (fun b e => by have := HNEW.out b e; omega) (fun b e q => by have h1 := HNEW.out b e; have h2 := HOLD2.out b q; omega) HNO.out HOWN1.out HGR1.out HAT1.out (.loop (rec .ready none))
        exact ⟨r1, .inl ⟨rfl, r2⟩⟩
  rintro e W ⟨⟨v, rfl⟩, hj | hx⟩
  · refine ⟨v, .ready, none, rfl, (by simp), hj.rc, fun w4 hw4 => ⟨fun _ => ?_, fun c h => (by cases h)⟩⟩
    have hLs : w3.heap.size + 1 < W.heap.size := (Array.getElem?_eq_some_iff.1 hj.rc).1
    have q4 : ∀ b, b ≠ w3.heap.size + 1 → w4.heap[b]? = W.heap[b]? := fun b hb => by rw [hw4]; exact World.putObj_heap_other hb
    have lo := hj.lo
    have x4 := hj.bx.keep (W' := w4) (fun b _ _ _ => q4 b (by omega))
    have d4 := (q4 w3.heap.size (by omega)).trans hj.df
    have b4 : Below w.heap.size w w4 := by rw [hw4]; exact hj.bl.trans (belowK_b (w := w) (Nat.le_refl _) W _ _ _ (by omega) hj.rc rfl rfl)
    obtain ⟨⟨c1, f1⟩, ⟨c2, f2⟩, ⟨c3, f3⟩⟩ := And.intro x4.a1 (And.intro x4.a2 x4.a3)
    have HB4 : Hid _ := b4
    have HNO : Hid _ := hj.no
    clear hw4 q4 x4 b4 hj
    unfold marked
    gi_wp2
    obtain ⟨u1, hu1⟩ : ∃ u, w4.setCell ⟨w.heap.size + 2, 0, none⟩ (.slice none 0 0) = u := ⟨_, rfl⟩
    have k1 : ∀ b, b ≠ w.heap.size + 2 → u1.heap[b]? = w4.heap[b]? := fun b hb => by rw [← hu1]; exact Below.heap_setCell _ _ _ _ hb
    have g1 : u1.cell? ⟨w.heap.size + 2, 0, none⟩ = some (.slice none 0 0) := by rw [← hu1]; exact World.cell?_setCell_same' _ _ _ (by rw [c1]; rfl)
    have b1 : Below w.heap.size w u1 := by rw [← hu1]; exact HB4.out.setCell (by simp) _
    rw [hu1]
    obtain ⟨u2, hu2⟩ : ∃ u, u1.setCell ⟨w.heap.size + 3, 0, none⟩ (.slice none 0 0) = u := ⟨_, rfl⟩
    have k2 : ∀ b, b ≠ w.heap.size + 3 → u2.heap[b]? = u1.heap[b]? := fun b hb => by rw [← hu2]; exact Below.heap_setCell _ _ _ _ hb
    have g2 : u2.cell? ⟨w.heap.size + 3, 0, none⟩ = some (.slice none 0 0) := by rw [← hu2]; exact World.cell?_setCell_same' _ _ _ (by rw [cell_eq (k1 _ (by omega)) c2]; rfl)
    have b2 : Below w.heap.size w u2 := by rw [← hu2]; exact b1.setCell (by simp) _
    rw [hu2]
    obtain ⟨u3, hu3⟩ : ∃ u, u2.setCell ⟨w.heap.size + 4, 0, none⟩ (.bool false) = u := ⟨_, rfl⟩
    have k3 : ∀ b, b ≠ w.heap.size + 4 → u3.heap[b]? = u2.heap[b]? := fun b hb => by rw [← hu3]; exact Below.heap_setCell _ _ _ _ hb
    have g3 : u3.cell? ⟨w.heap.size + 4, 0, none⟩ = some (.bool false) := by rw [← hu3]; exact World.cell?_setCell_same' _ _ _ (by rw [cell_eq (k2 _ (by omega)) (cell_eq (k1 _ (by omega)) c3)]; rfl)
    have b3 : Below w.heap.size w u3 := by rw [← hu3]; exact b2.setCell (by simp) _
    rw [hu3]
    have hK : u3.heap[w3.heap.size]? = some (.deferred (some [])) := (k3 _ (by omega)).trans ((k2 _ (by omega)).trans ((k1 _ (by omega)).trans d4))
    have h1 := cell_eq (W' := u3.putObj w3.heap.size (.deferred none)) (World.putObj_heap_other (by omega)) (cell_eq (k3 _ (by omega)) (cell_eq (k2 _ (by omega)) g1))
    have h2 := cell_eq (W' := u3.putObj w3.heap.size (.deferred none)) (World.putObj_heap_other (by omega)) (cell_eq (k3 _ (by omega)) g2)
    have h3 := cell_eq (W' := u3.putObj w3.heap.size (.deferred none)) (World.putObj_heap_other (by omega)) g3
    refine ⟨by simp, .inl ⟨_, _, rfl, run_takeDeferred hK, ?_⟩⟩
    refine ⟨.tuple #[.slice none 0 0, .slice none 0 0, .bool false], ?_, ⟨none, _, _, HNO.out, rfl, b3.trans (belowK_b (w := w) (Nat.le_refl _) u3 _ _ _ (by omega) hK rfl rfl), ⟨World.ownsRow_nil _ _ _ _, World.ownsRow_nil _ _ _ _, by simp [Value.ownBlock]⟩⟩⟩
    simp [results, Tryz.f21, go_sem, h1, h2, h3]
  · refine ⟨v, .done, some .ret, rfl, (by simp), hx.rc, fun w4 hw4 => ⟨fun h => (by cases h), fun c h => ?_⟩⟩
    cases h
    have hLs : w3.heap.size + 1 < W.heap.size := (Array.getElem?_eq_some_iff.1 hx.rc).1
    have q4 : ∀ b, b ≠ w3.heap.size + 1 → w4.heap[b]? = W.heap[b]? := fun b hb => by rw [hw4]; exact World.putObj_heap_other hb
    have s3 := HS3.out
    obtain ⟨k, i, va, vb, hF, bx, g2, gf⟩ := hx.an
    have x4 := bx.keep (W' := w4) (fun b _ _ _ => q4 b (by omega))
    have d4 := (q4 w3.heap.size (by omega)).trans hx.df
    have b4 : Below w.heap.size w w4 := by rw [hw4]; exact hx.bl.trans (belowK_b (w := w) (Nat.le_refl _) W _ _ _ (by omega) hx.rc rfl rfl)
    have on4 : ∀ a v, W.cell? a = some v → (w4.putObj w3.heap.size (.deferred none)).cell? a = some v := by
      intro a v h
      rw [hw4]
      exact cell_kept (cell_kept h (grownBy_putObj' W _ _) (fun r e => by cases e; exact ⟨_, hx.rc, rfl⟩)) (grownBy_putObj' _ _ _) (fun r e => by cases e; exact ⟨_, (World.putObj_heap_other (by omega)).trans hx.df, rfl⟩)
    have h1 := on4 _ _ bx.a1.1
    have h2 := on4 _ _ bx.a2.1
    have h3 := on4 _ _ bx.a3.1
    unfold marked
    gi_wp2
    refine ⟨by simp, .inl ⟨_, _, rfl, run_takeDeferred d4, ?_⟩⟩
    refine ⟨.tuple #[va, vb, .bool true], ?_, ⟨some (k, i), va, vb, hF, rfl, b4.trans (belowK_b (w := w) (Nat.le_refl _) w4 _ _ _ (by omega) d4 rfl rfl), g2.frame (fun b _ e => (World.putObj_heap_other (gf b e).1).trans (q4 b (gf b e).2))⟩⟩
    simp [results, Tryz.f21, go_sem, h1, h2, h3]
end Go.Proofs.YthcgdhlemieboaaGreat

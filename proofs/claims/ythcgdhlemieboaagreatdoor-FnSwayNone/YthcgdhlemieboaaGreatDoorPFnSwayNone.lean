/- A fine program deceives nobody. -/
import Derived.Test.YthcgdhlemieboaaGreatDoorRows
import Derived.Test.YthcgdhlemieboaaGreatDoorCards
import Derived.Test.YthcgdhlemieboaaGreatDoorTie
import Derived.WalkKit
import Derived.ProofKit
import Derived.OpenShut
import Derived.ShutString
import Derived.ChangeOld
import Derived.Below
import Derived.LaidMore
import Derived.Stop.Joined
import Derived.Stop.LaidErr
import Derived.Stop.LaidTwo
import Derived.SevenTiedAt
import Derived.Lib.SmallJoins
import Derived.Test.YthcgdhlemieboaaGreatDoorSnLab
import Derived.Test.YthcgdhlemieboaaGreatDoorSnWSn
namespace Go.Proofs.YthcgdhlemieboaaGreatDoor.fnSwayNone
open Go.ChangeShapes Go.WideShapes Go.ChangeAt Go.RowKit Go.Joins
open Go.ChangeMaps (open_string shut_string)
set_option linter.unusedVariables false

theorem own : ownKnob Tryz.prog.godebug = none := by kernel_rfl
theorem laidOut : laidOutB Tryz.prog = true := by kernel_rfl
theorem g0 : Tryz.prog.globalNamed "loop.example/cloison/impl.errNotOk" = some 0 := by kernel_rfl
theorem g1 : Tryz.prog.globalNamed "loop.example/cloison/impl.errNotFine" = some 1 := by kernel_rfl
theorem t0 : (Tryz.prog.globals[0]?).map (·.type) = some 56 := by kernel_rfl
theorem t1 : (Tryz.prog.globals[1]?).map (·.type) = some 56 := by kernel_rfl
theorem cellsE : Tryz.prog.cellsOf 183 = 1 := by kernel_rfl
theorem cellsS : Tryz.prog.cellsOf 9 = 1 := by kernel_rfl
theorem star : "*" ++ "errors.errorString" = "*errors.errorString" := by decide
theorem rowE (u : TypeId) (h : Tryz.prog.typeName? 3 u = some "*errors.errorString") : u = 166 :=
  typeName_ptr_named (nm := "errors.errorString") (by rw [star]; kernel_rfl) (by kernel_rfl) (by decide) u (by rw [star]; exact h)
/-- The door's own heap meets the condition. -/
theorem door_met (os : Os) (args : Array Value) : laidMetH Tryz.prog Rows.fnSwayNoneRow.laid ((World.doorLaid Tryz.prog 47 os).forCall (fun _ _ => 0) ⟨#[], args, []⟩).memory :=
  laidMetH_of_parts3 (fuel := 8) (laidMet_of_run' 8 (by kernel_rfl) (by kernel_rfl)) (by kernel_rfl) (by kernel_rfl)

set_option maxRecDepth 100000 in
theorem lifted (walk : ∀ (a0 : Option Addr) (len0 cap0 : Nat) (z0 : List Int) (w : World) (s0 s1 : Addr), w.cell? ⟨0, 0, none⟩ = some (.iface 166 (.pointer (some s0))) → w.cell? ⟨1, 0, none⟩ = some (.iface 166 (.pointer (some s1))) → IsRow .u8 w a0 len0 cap0 z0 → Calls Tryz.prog 4 #[.slice a0 len0 cap0] w fun e w' => e = .returned (.bool true) ∧ Below w.heap.size w w') (os : Os) (started : os.Started) (H : Type) (enc : TypeId × Value → H) :
    ReturnsInHanded {} Tryz.checked os 4 .any (fun w args => (Rows.fnSwayNoneSpec.pre enc Tryz.prog Tryz.f4 [] false w args ∧ laidMetH Tryz.prog Rows.fnSwayNoneRow.laid w) ∧ sizedMet enc Tryz.prog Tryz.f4 (OpenSpec.ofChange Rows.fnSwayNoneSpec) false w args)
      (Rows.fnSwayNoneSpec.post enc Tryz.prog Tryz.f4 false true false false) := by
  refine returnsInHanded_of_change_and (C := Tryz.checked) (X := fun w _ => laidMetH Tryz.prog Rows.fnSwayNoneRow.laid w) (fun _ _ _ hh h => h.of_heap hh) own started (by kernel_rfl) Tryz.func4
    (ChangeSpec.witness_shaped (enc := enc) (C := Tryz.checked) (os := os) (X := fun w _ => laidMetH Tryz.prog Rows.fnSwayNoneRow.laid w) false (World.doorLaid Tryz.prog 47 os) #[.slice none 0 0] 8 rfl (World.shaped_of_RefB (by kernel_rfl) (by kernel_rfl)) (by kernel_rfl) (by kernel_rfl) (by kernel_rfl) (door_met os _)) ?_
  intro W base args ds gs before hval0 hW _ _ hL _
  have hval : ∀ (j : Nat) t v, Tryz.f4.params[j]? = some t → args[j]? = some v → Value.okWide Tryz.prog W .any base t v := hval0
  have hW' := hW
  obtain ⟨p, q, hA0, hV0, rfl, hfz, hnd⟩ := hW
  have hA : DataW.TrodAll enc Tryz.prog W 0 (fun _ => true) true Tryz.f4.params.toList args.toList ds p := hA0
  have hV : DataW.TrodVars enc Tryz.prog W (fun _ => true) ["loop.example/cloison/impl.errNotOk", "loop.example/cloison/impl.errNotFine"] gs q := hV0
  rw [Tryz.params4] at hA hval
  obtain ⟨v0, vs0, d0, ds0, p0, q0, hargs, rfl, rfl, h0, r0⟩ := trodAll_cons hA
  obtain ⟨rfl, rfl, rfl⟩ := trodAll_nil r0
  obtain rfl : args = #[v0] := by cases args; simp_all
  rw [MakeChecks.laidMetH_plain _ _ _ (by kernel_rfl)] at hL
  obtain ⟨b0, b1, s0, s1, c0, c1, y0, y1, hv0, hv1, hc0, hs0, hz0, hc1, hs1, hz1, hne, hb0, hb1⟩ := laid_sentinels2 hL g0 t0 g1 t1 Tryz.underlying56 rowE Tryz.underlying166 Tryz.underlying183 rfl rfl Tryz.underlying9 cellsE cellsS
  have vr : ∀ {X : World}, X.var? Tryz.prog "loop.example/cloison/impl.errNotOk" = some #[.iface 166 (.pointer (some b0))] → X.var? Tryz.prog "loop.example/cloison/impl.errNotFine" = some #[.iface 166 (.pointer (some b1))] → ∀ sp : Nat → Bool,
      DataW.TrodVars enc Tryz.prog X sp ["loop.example/cloison/impl.errNotOk", "loop.example/cloison/impl.errNotFine"] [tok enc (.iface 166 (.pointer (some b0))), tok enc (.iface 166 (.pointer (some b1)))] [.cell 0 0, .cell 1 0] :=
    fun x0 x1 sp => vars_read2 enc g0 t0 Tryz.underlying56 x0 trivial g1 t1 Tryz.underlying56 x1 trivial sp
  obtain ⟨rfl, rfl⟩ := hV.unique (vr hv0 hv1 _)
  have hg0 : W.cell? ⟨0, 0, none⟩ = some (.iface 166 (.pointer (some b0))) := by simpa using World.var?_cell g0 hv0 0
  have hg1 : W.cell? ⟨1, 0, none⟩ = some (.iface 166 (.pointer (some b1))) := by simpa using World.var?_cell g1 hv1 0
  have k0 := h0
  have lt0 : ∀ x ∈ p0, x.block < W.heap.size := by obtain ⟨m, hm⟩ := k0; exact DataW.trod_lt m _ _ _ hm
  obtain ⟨a0, len0, cap0, rfl⟩ := okWide_slice Tryz.underlying22 (hval 0 22 v0 rfl rfl)
  obtain ⟨z0, w0⟩ : ∃ zs, IsRow .u8 W a0 len0 cap0 zs := by
    obtain ⟨fuel, hf⟩ := h0
    rcases open_ints Tryz.underlying22 Tryz.underlying5 (by kernel_rfl) hf with ⟨hcs, _⟩ | ⟨x, l, c, zs, hcs, _, hl, hm, hz, _, hcell, hwz⟩
    · simp [Value.cells] at hcs
      obtain ⟨rfl, rfl, rfl⟩ := hcs
      exact ⟨[], .inl ⟨rfl, rfl, rfl, rfl⟩⟩
    · simp [Value.cells] at hcs
      obtain ⟨rfl, rfl, rfl⟩ := hcs
      exact ⟨zs, .inr ⟨_, rfl, hl, hm, by simpa using hz, hcell, hwz⟩⟩
  clear hA0 hval0
  refine (walk a0 len0 cap0 z0 W b0 b1 hg0 hg1 w0).mono fun e W' ⟨he, bel⟩ => ?_
  subst he
  have var' : ∀ {nm : String} {cs : Array Value}, W.var? Tryz.prog nm = some cs → W'.var? Tryz.prog nm = some cs := fun {nm} {cs} h => by
    unfold World.var? at h ⊢
    cases hg : Tryz.prog.globalNamed nm with
    | none => rw [hg] at h; cases h
    | some g =>
      rw [hg] at h
      simp only [Option.bind_some] at h ⊢
      have hlt : g < W.heap.size := by
        cases hh : W.heap[g]? with
        | none => rw [hh] at h; cases h
        | some o => exact (Array.getElem?_eq_some_iff.1 hh).1
      rw [bel.block g hlt]; exact h
  exact ⟨_, rfl, _, _, _, [], _, [.cell 0 0, .cell 1 0], hW', trodAll_mk1 (shut_bool Tryz.underlying4 _), (trodAll_cons_mk (Below.trod laidOut (by kernel_rfl) (of_decide_eq_true (by kernel_rfl)) k0 bel lt0) trodAll_mk0), vr (var' hv0) (var' hv1) _, bel.frame _, fun h => by cases h⟩

set_option maxHeartbeats 8000000 in
set_option maxRecDepth 100000 in
theorem closed : joinedFacts Tryz.pinned.checked.prog 4 Tryz.f4 Rows.fnSwayNoneSpec Rows.fnSwayNoneRow = true := by
  unfold joinedFacts
  repeat' (with_reducible refine Bool.and_eq_true_iff.2 ⟨?_, ?_⟩)
  all_goals (as_aux_lemma => kernel_rfl)

theorem over (walk : ∀ (a0 : Option Addr) (len0 cap0 : Nat) (z0 : List Int) (w : World) (s0 s1 : Addr), w.cell? ⟨0, 0, none⟩ = some (.iface 166 (.pointer (some s0))) → w.cell? ⟨1, 0, none⟩ = some (.iface 166 (.pointer (some s1))) → IsRow .u8 w a0 len0 cap0 z0 → Calls Tryz.prog 4 #[.slice a0 len0 cap0] w fun e w' => e = .returned (.bool true) ∧ Below w.heap.size w w') : Rows.FnSwayNoneSaid :=
  OpenClaim.holds_of_wide 4 Tryz.f4 rfl rfl rfl rfl rfl rfl rfl ⟨rfl, rfl, rfl, rfl, rfl⟩ rfl rfl rfl rfl rfl (by kernel_rfl) Tryz.func4 closed
    (of_decide_eq_true (by kernel_rfl)) (by unfold Func.isWrapper; first | (rw [if_pos (by decide +kernel)]; kernel_rfl) | (rw [if_neg (by decide +kernel)]; exact ⟨rfl, rfl⟩))
    (fun os started H enc _ => lifted walk os started H enc)

theorem card_of (walk : ∀ (a0 : Option Addr) (len0 cap0 : Nat) (z0 : List Int) (w : World) (s0 s1 : Addr), w.cell? ⟨0, 0, none⟩ = some (.iface 166 (.pointer (some s0))) → w.cell? ⟨1, 0, none⟩ = some (.iface 166 (.pointer (some s1))) → IsRow .u8 w a0 len0 cap0 z0 → Calls Tryz.prog 4 #[.slice a0 len0 cap0] w fun e w' => e = .returned (.bool true) ∧ Below w.heap.size w w') : Rows.FnSwayNoneCardSaid :=
  Claim7.holds_tied_plain_at .later [] [.sentinel, .sentinel] true Rows.fnSwayNoneCard.stood.harness false
    (over walk) (fun _ h => by cases h) (by kernel_rfl) (fun _ h => by cases h) fnSwayNone_row_tie rfl ⟨rfl, rfl⟩ (by kernel_rfl) rfl
    (fun f fn hf hfn => by
      obtain rfl : f = 4 := Option.some.inj ((show Tryz.prog.funcNamed "loop.example/cloison/laws.FnSwayNone" = some 4 by kernel_rfl).symm.trans hf) |>.symm
      obtain rfl : fn = Tryz.f4 := (Option.some.inj (Tryz.func4.symm.trans hfn)).symm
      exact ⟨by kernel_rfl, fun j t ht => by
        rw [Tryz.params4] at ht
        have h3 : t = 22 := by
          rcases j with _ | j
          · simpa using ht.symm
          · simp at ht
        subst h3
        exact (show Tryz.prog.wantsStandIn 22 = false by kernel_rfl)⟩)
    (by kernel_rfl)
theorem proved : Rows.FnSwayNoneCardSaid := card_of fnSwayNone_walk
#print axioms proved
end Go.Proofs.YthcgdhlemieboaaGreatDoor.fnSwayNone

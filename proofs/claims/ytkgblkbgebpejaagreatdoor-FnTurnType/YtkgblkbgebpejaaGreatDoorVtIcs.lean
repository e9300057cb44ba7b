/- errors.As of a step's fault, to a variable for one: it is set. -/
import Derived.Test.YtkgblkbgebpejaaGreatDoorVtTpc
namespace Go.Proofs.YtkgblkbgebpejaaGreatDoor
open Go.RowKit Go.Extern.Stop Go.Stop Go.Extern
set_option linter.unusedSimpArgs false
set_option linter.unusedVariables false
attribute [local go_sem] World.cell?_alloc_some

set_option maxHeartbeats 4000000 in
set_option maxRecDepth 20000 in
/-- errors.as of a step's fault. -/
theorem asas_hit (a : Addr) (ta : Nat) (n : Int) (y c d : Value) (W : World) (ha : W.cell? a = some (.pointer (some ⟨ta, 0, none⟩)))
    (t0 : W.cell? ⟨ta, 0, none⟩ = some c) (t1 : W.cell? ⟨ta, 1, none⟩ = some d) (f0 : W.frozen? ⟨ta, 0, none⟩ = false) (f1 : W.frozen? ⟨ta, 1, none⟩ = false) :
    Calls Tryz.prog 69 #[.iface 67 (.agg #[.int .i64 n, .iface 189 y]), .iface 70 (.pointer (some ⟨ta, 0, none⟩)), .agg #[.pointer (some ⟨3, 70, none⟩), .pointer (some a), .int .u64 150], .iface 145 (.agg #[.pointer (some ⟨3, 67, none⟩)])] W
      fun e w' => e = .returned (.bool true) ∧ w'.cell? ⟨ta, 0, none⟩ = some (.int .i64 n) ∧ Below ta W w' := by
  have h64 := @run_callFunc_extern Tryz.prog 64 _ ReflectliteType.typeOf Tryz.func64 (by kernel_rfl) (by kernel_rfl) (by kernel_rfl) (by kernel_rfl)
  have h138 := @run_callFunc_extern Tryz.prog 138 _ (ReflectliteType.relation "AssignableTo" ReflectliteType.assignableTo) Tryz.func138 (by kernel_rfl) (by kernel_rfl) (by kernel_rfl) (by kernel_rfl)
  have h93 := @run_callFunc_extern Tryz.prog 93 _ (ReflectliteValue.method (ReflectliteValue.valueError "reflectlite.Value.Elem" 0) ReflectliteValue.elem) Tryz.func93 (by kernel_rfl) (by kernel_rfl) (by kernel_rfl) (by kernel_rfl)
  have h66 := @run_callFunc_extern Tryz.prog 66 _ (fun args => ReflectliteValue.unpack (args.getD 0 (.tuple #[]))) Tryz.func66 (by kernel_rfl) (by kernel_rfl) (by kernel_rfl) (by kernel_rfl)
  have h94 := @run_callFunc_extern Tryz.prog 94 _ ReflectliteValue.set Tryz.func94 (by kernel_rfl) (by kernel_rfl) (by kernel_rfl) (by kernel_rfl)
  have tO := asTypeOfF
  have mA := asMethodAssignableTo
  have aA := asAssignable
  have vF := asValueOfF n y
  have hta : ta < W.heap.size := World.block_lt_of_cell? _ _ t0
  have hab : a.block < W.heap.size := World.block_lt_of_cell? _ _ ha
  obtain ⟨o1, ho1⟩ : ∃ o1, o1 = Obj.cells #[.pointer (some ⟨3, 70, none⟩), .pointer (some a), .int .u64 150] 116 := ⟨_, rfl⟩
  obtain ⟨o2, ho2⟩ : ∃ o2, o2 = Obj.cells #[.int .i64 n, .iface 189 y] 67 := ⟨_, rfl⟩
  have B1 : Below W.heap.size W (W.alloc o1) := (Below.refl _ _).alloc (Nat.le_refl _) _
  have B2 : Below W.heap.size W ((W.alloc o1).alloc o2) := B1.alloc (by simp) _
  have el := asElemV a ⟨ta, 0, none⟩ (W.alloc o1) (cell_later B1 ha)
  have st := asSetF ta (W.heap.size + 1) n y c d ((W.alloc o1).alloc o2) (by omega) (by rw [ho2]; simp) (by rw [ho2]; simp) (cell_later B2 t0) (cell_later B2 t1)
    ((World.frozen?_of_block (a := ⟨ta, 0, none⟩) (B2.block ta hta)).trans f0) ((World.frozen?_of_block (a := ⟨ta, 1, none⟩) (B2.block ta hta)).trans f1)
  have HT0 : Hid _ := t0
  have HTA : Hid (ta < W.heap.size) := hta
  subst ho1 ho2
  clear B1 B2 ha t0 t1 f0 f1
  go_enter Tryz.func69, Tryz.ntmps69
  go_wp2
  refine wp_loop_rounds 1 ?_
  rw [rounds_succ]
  go_wp2
  go_ret
  have hl := HTA.out
  refine ⟨rfl, ?_, ((((Below.refl ta W).setCell (Nat.le_refl ta) _).setCell (Nat.le_refl ta) _).alloc (by simp; omega) _).alloc (by simp; omega) _⟩
  have c0 : ((W.setCell ⟨ta, 0, none⟩ (.int .i64 n)).setCell ⟨ta, 1, none⟩ (.iface 189 y)).cell? ⟨ta, 0, none⟩ = some (.int .i64 n) := by
    rw [World.cell?_setCell_other _ _ _ _ (by simp)]
    exact World.cell?_setCell_same _ _ _ HT0.out
  exact cell_later ((Below.refl _ _).alloc (Nat.le_refl _) _) (cell_later ((Below.refl _ _).alloc (Nat.le_refl _) _) c0)

set_option maxHeartbeats 4000000 in
set_option maxRecDepth 20000 in
/-- errors.As of a step's fault. -/
theorem as_hit (ta : Nat) (n : Int) (y c d : Value) (w : World) (hg : w.cell? ⟨2, 0, none⟩ = some (.iface 145 (.agg #[.pointer (some ⟨3, 61, none⟩)])))
    (t0 : w.cell? ⟨ta, 0, none⟩ = some c) (t1 : w.cell? ⟨ta, 1, none⟩ = some d) (f0 : w.frozen? ⟨ta, 0, none⟩ = false) (f1 : w.frozen? ⟨ta, 1, none⟩ = false) :
    Calls Tryz.prog 28 #[.iface 67 (.agg #[.int .i64 n, .iface 189 y]), .iface 70 (.pointer (some ⟨ta, 0, none⟩))] w
      fun e w' => e = .returned (.bool true) ∧ w'.cell? ⟨ta, 0, none⟩ = some (.int .i64 n) ∧ Below ta w w' := by
  have h66 := @run_callFunc_extern Tryz.prog 66 _ (fun args => ReflectliteValue.unpack (args.getD 0 (.tuple #[]))) Tryz.func66 (by kernel_rfl) (by kernel_rfl) (by kernel_rfl) (by kernel_rfl)
  have h67 := @run_callFunc_extern Tryz.prog 67 _ (ReflectliteValue.methodAny (ReflectliteValue.valueError "reflectlite.Value.Type" 0) (fun t _ _ _ => ReflectliteType.toType t)) Tryz.func67 (by kernel_rfl) (by kernel_rfl) (by kernel_rfl) (by kernel_rfl)
  have h68 := @run_callFunc_extern Tryz.prog 68 _ (ReflectliteValue.method (ReflectliteValue.valueError "reflectlite.Value.IsNil" 0) ReflectliteValue.isNil) Tryz.func68 (by kernel_rfl) (by kernel_rfl) (by kernel_rfl) (by kernel_rfl)
  have h129 := @run_callFunc_extern Tryz.prog 129 _ (ReflectliteType.abiMethod fun t => do pure (.int .u8 (← Rtype.kind t))) Tryz.func129 (by kernel_rfl) (by kernel_rfl) (by kernel_rfl) (by kernel_rfl)
  have h140 := @run_callFunc_extern Tryz.prog 140 _ (ReflectliteType.method ReflectliteType.elem) Tryz.func140 (by kernel_rfl) (by kernel_rfl) (by kernel_rfl) (by kernel_rfl)
  have h141 := @run_callFunc_extern Tryz.prog 141 _ (ReflectliteType.relation "Implements" ReflectliteType.implements_) Tryz.func141 (by kernel_rfl) (by kernel_rfl) (by kernel_rfl) (by kernel_rfl)
  have vP := asValueOfP
  have tP := asTypeP
  have mK := asMethodKind
  have mE := asMethodElem
  have mI := asMethodImplements
  have kP := asKindP
  have kF := asKindF
  have eP := asElemP
  have iF := asImplements
  have hgl := World.block_lt_of_cell? _ _ hg
  have hta : ta < w.heap.size := World.block_lt_of_cell? _ _ t0
  obtain ⟨o1, ho1⟩ : ∃ o1, o1 = Obj.cells #[.pointer (some ⟨ta, 0, none⟩)] 70 := ⟨_, rfl⟩
  obtain ⟨o2, ho2⟩ : ∃ o2, o2 = Obj.cells #[.pointer (some ⟨3, 70, none⟩), .pointer (some ⟨w.heap.size, 0, none⟩), .int .u64 150] 116 := ⟨_, rfl⟩
  have B1 : Below w.heap.size w (w.alloc o1) := (Below.refl _ _).alloc (Nat.le_refl _) _
  have B2 : Below w.heap.size w ((w.alloc o1).alloc o2) := B1.alloc (by simp) _
  have hA : ((w.alloc o1).alloc o2).cell? ⟨w.heap.size, 0, none⟩ = some (.pointer (some ⟨ta, 0, none⟩)) := by rw [ho1, ho2]; simp
  have n8 := asIsNil ⟨w.heap.size, 0, none⟩ ⟨ta, 0, none⟩ ((w.alloc o1).alloc o2) hA
  have hg2 := cell_later B2 hg
  have HH : Hid _ := asas_hit ⟨w.heap.size, 0, none⟩ ta n y c d ((w.alloc o1).alloc o2) hA (cell_later B2 t0) (cell_later B2 t1) ((World.frozen?_of_block (a := ⟨ta, 0, none⟩) (B2.block ta hta)).trans f0) ((World.frozen?_of_block (a := ⟨ta, 1, none⟩) (B2.block ta hta)).trans f1)
  have HB : Hid (Below w.heap.size w ((w.alloc o1).alloc o2)) := B2
  subst ho1 ho2
  clear B1 B2 t0 t1 f0 f1 hA hg
  go_enter Tryz.func28, Tryz.ntmps28
  go_wp2_with fail
  (try go_at_call 69); refine Calls.mono HH.out ?_
  rintro e w' ⟨rfl, hc, hb⟩
  have HC : Hid _ := hc
  have HW : Hid (Below ta w w') := (HB.out.mono (by omega)).trans hb
  clear hc hb
  go_wp2
  go_ret
  exact ⟨rfl, HC.out, HW.out⟩

end Go.Proofs.YtkgblkbgebpejaaGreatDoor

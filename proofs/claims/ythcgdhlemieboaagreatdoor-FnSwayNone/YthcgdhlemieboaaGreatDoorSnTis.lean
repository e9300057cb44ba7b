/- Whether a step is fine, by what is said so far. -/
import Derived.Test.YthcgdhlemieboaaGreatDoorSnTpu
import Derived.Test.YthcgdhlemieboaaGreatDoorSnTmb
import Derived.Test.YthcgdhlemieboaaGreatDoorSnSqx
import Derived.Test.YthcgdhlemieboaaGreatDoorSnRtx
import Derived.Test.YthcgdhlemieboaaGreatDoorSnRit
namespace Go.Proofs.YthcgdhlemieboaaGreatDoor
open Go.RowKit
set_option linter.unusedSimpArgs false
set_option linter.unusedVariables false
attribute [local go_sem] World.cell?_alloc_some

theorem Fs.drewT {bs : List Nat} {w w' : World} (h : Fs bs w w') : Fs bs w w'.drew := ⟨h.os, h.tape, h.output, h.size, h.block⟩
theorem Fs.setT {bs : List Nat} {w w' : World} (h : Fs bs w w') (a : Addr) (u : Value) (ha : a.block ∈ bs) : Fs bs w (w'.setCell a u) :=
  ⟨h.os, h.tape, h.output, by have : (w'.setCell a u).heap.size = w'.heap.size := by simp [World.setCell]
                              rw [this]; exact h.size, fun b hb hn => (Below.heap_setCell _ _ _ _ (fun e => hn (by rw [e]; exact ha))).trans (h.block b hb hn)⟩
theorem Tg.topv {B : Nat} {w : World} {D : Nat} {t : Tv} {s : Td} {ds0 : List (Int × Int)} {h : Int × Int} (hG : Tg B w D t s) (hds : s.ds = ds0 ++ [h]) :
    ∃ g c, t.dv = .slice (some ⟨g, 0, none⟩) (ds0.length + 1) c ∧ w.cell? ⟨g, ds0.length * 2, none⟩ = some (.int .i64 h.1) ∧ w.cell? ⟨g, ds0.length * 2 + 1, none⟩ = some (.int .i64 h.2) := by
  have ho := hG.ds
  have hn : s.ds.length = ds0.length + 1 := by rw [hds]; simp
  rw [hn] at ho
  obtain ⟨g, c, hv⟩ : ∃ g c, t.dv = .slice (some ⟨g, 0, none⟩) (ds0.length + 1) c := by
    rcases ho.2 with ⟨_, h⟩ | ⟨g, cap, cur, h, _⟩
    · cases h
    · exact ⟨g, cap, h⟩
  rw [hv] at ho
  have hp := pcells_get s.ds ds0.length (by omega)
  have hx : s.ds[ds0.length]'(by omega) = h := by simp [hds]
  rw [hx] at hp
  exact ⟨g, c, hv, (ho.cellAt _ (by omega)).trans hp.1, (ho.cellAt _ (by omega)).trans hp.2⟩
theorem top_tg {B : Nat} {w : World} {D : Nat} {t : Tv} {s : Td} {ds0 : List (Int × Int)} {h : Int × Int} (hG : Tg B w D t s) (hds : s.ds = ds0 ++ [h]) (hc : ds0.length ≤ 1048576) :
    Calls Tryz.prog 92 #[.pointer (some ⟨D, 1, none⟩)] w fun e w' => e = .returned (.agg #[.int .i64 h.1, .int .i64 h.2]) ∧ Below w.heap.size w w' := by
  obtain ⟨g, c, hv, h0, h1⟩ := hG.topv hds
  exact top_any (show w.cell? ⟨D, 1, none⟩ = _ from hG.c1.trans (by rw [hv])) hc h0 h1
theorem LRep.at {w : World} {a : Option Addr} {n c : Nat} {ls : List (Int × Int)} (hL : LRep w (.slice a n c) ls) {v : Int} (h0 : 0 ≤ v) (h1 : v < n) :
    ∃ b off, a = some ⟨b, off, none⟩ ∧ w.cell? ⟨b, off + v.toNat * 2, none⟩ = some (.int .i64 (lab ls v).1) ∧ w.cell? ⟨b, off + v.toNat * 2 + 1, none⟩ = some (.int .i64 (lab ls v).2) := by
  obtain ⟨a', c', e, _, _, hcell⟩ := hL
  cases e
  obtain ⟨b, off, ha, q0, q1⟩ := hcell v.toNat (by omega)
  have e : lab ls v = ls[v.toNat]'(by omega) := by unfold lab; rw [List.getD_eq_getElem?_getD, List.getElem?_eq_getElem (by omega)]; rfl
  rw [e]
  exact ⟨b, off, ha, q0, q1⟩
theorem both_ok {a b : Int × Int} (ha : okL a) (hb : okL b) (w : World) : Calls Tryz.prog 94 #[.agg #[.int .i64 a.1, .int .i64 a.2], .agg #[.int .i64 b.1, .int .i64 b.2]] w fun e w' => e = .returned (.agg #[.int .i64 (anL a b).1, .int .i64 (anL a b).2]) ∧ Below w.heap.size w w' := by
  have := labelBoth_any a.1 a.2 b.1 b.2 w
  rw [(anL_bo ha hb).1, (anL_bo ha hb).2] at this
  exact this
theorem flows_ok {a b : Int × Int} (ha : okL a) (hb : okL b) (w : World) : Calls Tryz.prog 107 #[.agg #[.int .i64 a.1, .int .i64 a.2], .agg #[.int .i64 b.1, .int .i64 b.2]] w fun e w' => e = .returned (.bool (flL a b)) ∧ Below w.heap.size w w' := by
  have := labelFlows_any a.1 a.2 b.1 b.2 w
  rw [flL_B ha hb] at this
  exact this
def mdL (ls : List (Int × Int)) (h : Int × Int) (vs : List Int) : Int × Int := vs.foldl (fun m v => anL m (lab ls v)) h
theorem mdL_ok {ls : List (Int × Int)} (hls : labsB ls = true) : ∀ (vs : List Int) (h : Int × Int), okL h → okL (mdL ls h vs)
  | [], h, hh => hh
  | v :: vs, h, hh => mdL_ok hls vs _ (anL_ok hh (lab_ok hls v))
theorem mdL_take (ls : List (Int × Int)) (h : Int × Int) (vs : List Int) (i : Nat) (hi : i < vs.length) : mdL ls h (vs.take (i + 1)) = anL (mdL ls h (vs.take i)) (lab ls vs[i]) := by
  unfold mdL; rw [List.take_succ_eq_append_getElem hi, List.foldl_append]; rfl
theorem mdL_vars {ls : List (Int × Int)} {vk va vb : Int} {h : Int × Int} (hh : okL h) (hv : vk = 1 ∨ vk = 2 ∨ vk = 3 ∨ vk = 4) : mdL ls h (varsL vk va vb) = anL h (valL ls vk va vb) := by
  rcases hv with rfl | rfl | rfl | rfl
  · simp [mdL, varsL, valL, anL_top' hh]
  · simp [mdL, varsL, valL]
  · simp [mdL, varsL, valL, anL_assoc]
  · simp [mdL, varsL, valL, anL_assoc]
theorem valB_vars {n vk va vb : Int} (h : valB n vk va vb = true) : (vk = 1 ∨ vk = 2 ∨ vk = 3 ∨ vk = 4) ∧ ∀ v ∈ varsL vk va vb, 0 ≤ v ∧ v < n := by
  unfold valB at h
  split at h
  · subst_vars; exact ⟨.inl rfl, fun v hv => by simp [varsL] at hv⟩
  · split at h
    · subst_vars
      refine ⟨.inr (.inl rfl), fun v hv => ?_⟩
      simp only [Bool.and_eq_true_iff] at h
      simp [varsL] at hv; subst hv
      have := h.1; simpa [vIn] using this
    · split at h
      · rename_i h34
        simp only [Bool.and_eq_true_iff] at h
        refine ⟨.inr (.inr h34), fun v hv => ?_⟩
        rcases h34 with rfl | rfl <;>
        · simp [varsL] at hv
          rcases hv with rfl | rfl
          · have := h.1; simpa [vIn] using this
          · have := h.2; simpa [vIn] using this
      · cases h
theorem varsL_len (vk va vb : Int) : (varsL vk va vb).length ≤ 2 := by
  unfold varsL; split
  · simp
  · split <;> simp

set_option maxHeartbeats 8000000 in
set_option maxRecDepth 20000 in
theorem isFine_any {B D : Nat} {t : Tv} {s : Td} {ls : List (Int × Int)} {w : World} {ds0 : List (Int × Int)} {h : Int × Int} (p : Pay) (z : Bool) (ta ea : Option Addr) (tn tc en ec : Nat) (hG : Tg B w D t s) (hL : LRep w t.vv ls) (hls : labsB ls = true) (hn4 : ls.length ≤ 4) (hp : payB ls.length p z = true) (hds : s.ds = ds0 ++ [h]) (hh : okL h) (hc : ds0.length ≤ 1048576) :
    Calls Tryz.prog 93 #[.pointer (some ⟨D, 0, none⟩), .agg #[.int .i64 p.k, .int .i64 p.v, .int .i64 p.vk, .int .i64 p.va, .int .i64 p.vb, .int .i64 p.h, .slice ta tn tc, .slice ea en ec]] w fun e w' => e = .returned (.bool (fineB ls p h)) ∧ Below w.heap.size w w' := by
  obtain ⟨vv, dv, av, sv, fv⟩ := t
  obtain ⟨hvn, hk3⟩ := payB_cases hp
  obtain ⟨hv0, hv1⟩ : 0 ≤ p.v ∧ p.v < ls.length := by simpa [vIn] using hvn
  obtain ⟨la, lc, hvv, -⟩ := id hL
  dsimp only at hvv
  subst hvv
  have A : Below w.heap.size w (w.alloc (.cells #[.int .i64 p.k, .int .i64 p.v, .int .i64 p.vk, .int .i64 p.va, .int .i64 p.vb, .int .i64 p.h, .slice ta tn tc, .slice ea en ec] 97)) := (Below.refl _ _).alloc (Nat.le_refl _) _
  have G8 := C8.new w (.int .i64 p.k) (.int .i64 p.v) (.int .i64 p.vk) (.int .i64 p.va) (.int .i64 p.vb) (.int .i64 p.h) (.slice ta tn tc) (.slice ea en ec) 97
  have zW : (w.alloc (.cells #[.int .i64 p.k, .int .i64 p.v, .int .i64 p.vk, .int .i64 p.va, .int .i64 p.vb, .int .i64 p.h, .slice ta tn tc, .slice ea en ec] 97)).heap.size = w.heap.size + 1 := by simp
  generalize hW0 : w.alloc (.cells #[.int .i64 p.k, .int .i64 p.v, .int .i64 p.vk, .int .i64 p.va, .int .i64 p.vb, .int .i64 p.h, .slice ta tn tc, .slice ea en ec] 97) = w0 at A G8 zW
  have HW0 : Hid _ := hW0
  have HA : Hid (Below w.heap.size w w0) := A
  have CT : Hid _ := top_tg (hG.below A) hds hc
  obtain ⟨lb, lf, hla, l0, l1⟩ := hL.at hv0 hv1
  subst hla
  have c0 : w.cell? ⟨D, 0, none⟩ = some (.slice (some ⟨lb, lf, none⟩) ls.length lc) := hG.c0
  have HLA : Hid (∀ v, 0 ≤ v → v < (ls.length : Int) → w.cell? ⟨lb, lf + v.toNat * 2, none⟩ = some (.int .i64 (lab ls v).1) ∧ w.cell? ⟨lb, lf + v.toNat * 2 + 1, none⟩ = some (.int .i64 (lab ls v).2)) := (show ∀ v, 0 ≤ v → v < (ls.length : Int) → _ from fun v a b => by
    obtain ⟨b', o', e, q0, q1⟩ := hL.at a b
    cases e; exact ⟨q0, q1⟩)
  have hDw : D < w.heap.size := hG.lt
  have hlb : lb < w.heap.size := World.block_lt_of_cell? w _ l0
  have HC0 : Hid (w.cell? ⟨D, 0, none⟩ = some (.slice (some ⟨lb, lf, none⟩) ls.length lc)) := c0
  obtain ⟨pk, pv, vk, va, vb, ph⟩ := p
  dsimp only at *
  obtain ⟨fb, hfb⟩ : ∃ x, fineB ls ⟨pk, pv, vk, va, vb, ph⟩ h = x := ⟨_, rfl⟩
  rw [hfb]
  have HFB : Hid _ := hfb
  clear hG hL A hW0 hfb l0 l1 c0 hvn hp
  go_enter Tryz.func93, Tryz.ntmps93
  go_wp2_with fail
  rw [HW0.out]
  clear HW0
  go_at_call 92; refine Calls.mono CT.out ?_
  rintro e w1 ⟨rfl, hb1⟩
  have B1 : Below w.heap.size w w1 := Below.then HA.out hb1 HA.out.size
  have G81 : C8 w1 w.heap.size (.int .i64 pk) (.int .i64 pv) (.int .i64 vk) (.int .i64 va) (.int .i64 vb) (.int .i64 ph) (.slice ta tn tc) (.slice ea en ec) := G8.below hb1
  have z1 : w.heap.size < w1.heap.size := by have := hb1.size; omega
  obtain ⟨w2, hw2⟩ : ∃ x, x = w1.alloc (.cells #[.int .i64 h.1, .int .i64 h.2] 68) := ⟨_, rfl⟩
  have A2 : Below w1.heap.size w1 w2 := by rw [hw2]; exact (Below.refl _ _).alloc (Nat.le_refl _) _
  have GM : Hid (C2 w2 w1.heap.size (.int .i64 h.1) (.int .i64 h.2)) := (show C2 w2 w1.heap.size (.int .i64 h.1) (.int .i64 h.2) by rw [hw2]; exact C2.new _ _ _ _)
  have HG8 : Hid (C8 w2 w.heap.size (.int .i64 pk) (.int .i64 pv) (.int .i64 vk) (.int .i64 va) (.int .i64 vb) (.int .i64 ph) (.slice ta tn tc) (.slice ea en ec)) := G81.below A2
  have z2 : w2.heap.size = w1.heap.size + 1 := by rw [hw2]; simp
  have HZ2 : Hid _ := z2
  have B2 : Hid (Below w.heap.size w w2) := Below.then B1 A2 B1.size
  have HW2 : Hid _ := hw2
  obtain ⟨⟨x0, x1, x2, x3, x4, x5, x6, x7⟩, -⟩ := G81
  clear hb1 G8 A2 CT HA zW hw2 B1 z2
  rcases hk3 with ⟨hk, hvB, -⟩ | ⟨hk, hph, -⟩ | hk
  · subst hk
    have CV : Hid (∀ wx, Calls Tryz.prog 106 #[.agg #[.int .i64 vk, .int .i64 va, .int .i64 vb]] wx fun e w' => ∃ a c, e = .returned (.slice a (varsL vk va vb).length c) ∧ Below wx.heap.size wx w' ∧ GRep (Value.int .i64) w' (.slice a (varsL vk va vb).length c) (varsL vk va vb) ∧ (∀ x, a = some x → wx.heap.size ≤ x.block)) := (show ∀ wx, _ from fun wx => vars_any vk va vb wx)
    obtain ⟨hvk, hvr⟩ := valB_vars hvB
    have HVR : Hid _ := hvr
    have hvl := varsL_len vk va vb
    have HE : Hid (fb = flL (mdL ls h (varsL vk va vb)) (lab ls pv)) := (show fb = flL (mdL ls h (varsL vk va vb)) (lab ls pv) by rw [← HFB.out, mdL_vars hh hvk]; rfl)
    generalize varsL vk va vb = vs at CV HVR hvl HE
    clear HFB hvB hvk hvr
    go_wp2_with fail
    rw [← HW2.out]
    clear HW2
    go_at_call 106; refine Calls.mono (CV.out _) ?_
    rintro e w3 ⟨va', vc', rfl, hb3, hrow, hge⟩
    have CB : Hid (∀ (m : Int × Int) (v : Int) (wx : World), okL m → Calls Tryz.prog 94 #[.agg #[.int .i64 m.1, .int .i64 m.2], .agg #[.int .i64 (lab ls v).1, .int .i64 (lab ls v).2]] wx fun e w' => e = .returned (.agg #[.int .i64 (anL m (lab ls v)).1, .int .i64 (anL m (lab ls v)).2]) ∧ Below wx.heap.size wx w') := (show ∀ (m : Int × Int) (v : Int) (wx : World), okL m → _ from fun m v wx hm => both_ok hm (lab_ok hls v) wx)
    have CF : Hid (∀ (m : Int × Int) (wx : World), okL m → Calls Tryz.prog 107 #[.agg #[.int .i64 m.1, .int .i64 m.2], .agg #[.int .i64 (lab ls pv).1, .int .i64 (lab ls pv).2]] wx fun e w' => e = .returned (.bool (flL m (lab ls pv))) ∧ Below wx.heap.size wx w') := (show ∀ (m : Int × Int) (wx : World), okL m → _ from fun m wx hm => flows_ok hm (lab_ok hls pv) wx)
    have HOK : Hid (∀ i, okL (mdL ls h (vs.take i))) := (show ∀ i, okL (mdL ls h (vs.take i)) from fun i => mdL_ok hls _ _ hh)
    have HMT : Hid (∀ i (hi : i < vs.length), mdL ls h (vs.take (i + 1)) = anL (mdL ls h (vs.take i)) (lab ls vs[i])) := (show ∀ i (hi : i < vs.length), _ from fun i hi => mdL_take ls h vs i hi)
    obtain ⟨_, _, hv', -, hvm, hvc⟩ := hrow
    cases hv'
    have HVC : Hid (∀ i (hi : i < vs.length), ∃ b off, va' = some ⟨b, off, none⟩ ∧ w3.cell? ⟨b, off + i, none⟩ = some (.int .i64 vs[i]) ∧ w1.heap.size < b) := (show ∀ i (hi : i < vs.length), _ from fun i hi => by
      obtain ⟨b, off, e, q⟩ := hvc i hi
      have := hge _ e
      have := HZ2.out
      exact ⟨b, off, e, q, by show w1.heap.size < b; simp at *; omega⟩)
    have hz2 := HZ2.out
    have z3 : w2.heap.size ≤ w3.heap.size := hb3.size
    have B3 : Hid (Below w.heap.size w w3) := Below.then B2.out hb3 B2.out.size
    have GM3 : Hid (C2 w3 w1.heap.size (.int .i64 h.1) (.int .i64 h.2)) := GM.out.same (hb3.block _ (by omega))
    have HX : Hid (w3.cell? ⟨w.heap.size, 1, none⟩ = some (.int .i64 pv)) := cell_later hb3 HG8.out.1.2.1
    have hDm : D ∉ [w1.heap.size] := by simp; omega
    have hlm : lb ∉ [w1.heap.size] := by simp; omega
    have hwm : w.heap.size ∉ [w1.heap.size] := by simp; omega
    have hvl64 : (vs.length : Int) ≤ 2 := by omega
    clear hb3 hvc hge GM HG8 hls hh
    go_wp2
    go_loopw [20] (fun j wr => ∃ (i : Nat), i ≤ vs.length ∧ j = .int .i64 i ∧ Fs [w1.heap.size] w3 wr ∧ C2 wr w1.heap.size (.int .i64 (mdL ls h (vs.take i)).1) (.int .i64 (mdL ls h (vs.take i)).2)) (fun j _ => vs.length - (intOf j).toNat)
    case atStart => exact ⟨0, by omega, rfl, Fs.of_below (Below.refl _ _), GM3.out⟩
    case round =>
      clear GM3
      obtain ⟨i, hi, rfl, hF, hC⟩ := hrel
      have HF : Hid _ := hF
      have c0 : wr.cell? ⟨D, 0, none⟩ = some (.slice (some ⟨lb, lf, none⟩) ls.length lc) := hF.cell (cell_later B3.out HC0.out) hDm
      have zr : w3.heap.size ≤ wr.heap.size := hF.size
      by_cases hlt : i < vs.length
      · have i0' : (0 : Int) ≤ (i : Int) := by omega
        have i1' : (i : Int) < (vs.length : Int) := by omega
        obtain ⟨b, off, rfl, kv, hbm⟩ := HVC.out i hlt
        have kv' : wr.cell? ⟨b, off + i, none⟩ = some (.int .i64 vs[i]) := hF.cell kv (by simp; omega)
        have hxr := HVR.out vs[i] (List.getElem_mem hlt)
        have hmt := HMT.out i hlt
        have hok := HOK.out i
        obtain ⟨q0, q1⟩ := HLA.out vs[i] hxr.1 hxr.2
        replace q0 := hF.cell (cell_later B3.out q0) hlm
        replace q1 := hF.cell (cell_later B3.out q1) hlm
        generalize vs[i] = x at kv' hxr hmt q0 q1
        generalize mdL ls h (vs.take i) = mm at hC hmt hok
        have HMM : Hid _ := hmt
        have HCC : Hid (C2 wr w1.heap.size (.int .i64 mm.1) (.int .i64 mm.2)) := hC
        have C1 : Hid _ := CB.out mm x
        have HOKi : Hid (okL mm) := hok
        obtain ⟨xn, rfl⟩ := Int.eq_ofNat_of_zero_le hxr.1
        simp only [Int.toNat_natCast] at q0 q1
        have xn1 : (xn : Int) < (ls.length : Int) := hxr.2
        generalize lab ls (xn : Int) = lx at *
        clear kv hC hmt hok hxr hF
        go_wp2_with fail
        refine wp_region_held (S := (fun wz => Fs [w1.heap.size] wr wz)) (by kernel_rfl) ?_
        change wpAnyH _ _ _ _ _ _ _ _ (World.drew _)
        have hHeld : (fun wz => Fs [w1.heap.size] wr wz) (World.drew wr) := (Fs.of_below (Below.refl _ _)).drewT
        refine' wpAnyH_take (i := 1) (v := _) rfl (by kernel_rfl) (by kernel_rfl) (by kernel_rfl) (fun _ _ _ h => h) (Or.inl ⟨by rfl, ?hy1⟩) hHeld ?hn1
        case hy1 => (intro wz hSw; go_simp; first | done | with_reducible rfl)
        try simp only [nrm, Act.put]
        refine' wpAnyH_take (i := 2) (v := _) rfl (by kernel_rfl) (by kernel_rfl) (by kernel_rfl) (fun _ _ _ h => h) (Or.inl ⟨by rfl, ?hy2⟩) hHeld ?hn2
        case hy2 => (intro wz hSw; go_simp; first | done | with_reducible rfl)
        try simp only [nrm, Act.put]
        refine' wpAnyH_take (i := 3) (v := _) rfl (by kernel_rfl) (by kernel_rfl) (by kernel_rfl) (fun _ _ _ h => h) (Or.inl ⟨by rfl, ?hy3⟩) hHeld ?hn3
        case hy3 => (intro wz hSw; go_simp; first | done | with_reducible rfl)
        try simp only [nrm, Act.put]
        refine' wpAnyH_take (i := 4) (v := (.slice (some ⟨lb, lf, none⟩) ls.length lc)) rfl (by kernel_rfl) (by kernel_rfl) (by kernel_rfl) (fun _ _ _ h => h) (Or.inl ⟨by rfl, ?hy4⟩) hHeld ?hn4
        case hy4 => (intro wz hSw; have j0 := hSw.cell c0 hDm; go_simp)
        try simp only [nrm, Act.put]
        refine' wpAnyH_take (i := 5) (v := _) rfl (by kernel_rfl) (by kernel_rfl) (by kernel_rfl) (fun _ _ _ h => h) (Or.inl ⟨by rfl, ?hy5⟩) hHeld ?hn5
        case hy5 => (intro wz hSw; go_simp; first | done | with_reducible rfl)
        try simp only [nrm, Act.put]
        refine' wpAnyH_take (i := 6) (v := (.pointer (some ⟨lb, lf + xn * 2, none⟩))) rfl (by kernel_rfl) (by kernel_rfl) (by kernel_rfl) (fun _ _ _ h => h) (Or.inl ⟨by rfl, ?hy6⟩) hHeld ?hn6
        case hy6 => (intro wz hSw; go_simp; first | done | (simp; done))
        try simp only [nrm, Act.put]
        refine' wpAnyH_take (i := 7) (v := (.agg #[.int .i64 lx.1, .int .i64 lx.2])) rfl (by kernel_rfl) (by kernel_rfl) (by kernel_rfl) (fun _ _ _ h => h) (Or.inl ⟨by rfl, ?hy7⟩) hHeld ?hn7
        case hy7 => (intro wz hSw; have j0 := hSw.cell q0 hlm; have j1 := hSw.cell q1 hlm; go_simp)
        try simp only [nrm, Act.put]
        refine wpAnyH_ready (rs := [0]) (by kernel_rfl) (by simp) ?_
        refine AllReadyH.cons rfl (fun K hK => ?_) AllReadyH.nil
        obtain ⟨⟨y0, y1⟩, -⟩ := HCC.out
        have y0' : wr.drew.cell? ⟨w1.heap.size, 0, none⟩ = some (.int .i64 mm.1) := y0
        have y1' : wr.drew.cell? ⟨w1.heap.size, 1, none⟩ = some (.int .i64 mm.2) := y1
        go_simp
        clear y0 y1 y0' y1'
        refine hK.out _ _ (hHeld) (fun hHeld => ?_)
        clear hK K
        refine wpAnyH_ready (rs := [8]) (by kernel_rfl) (by simp) ?_
        refine AllReadyH.cons rfl (fun K hK => ?_) AllReadyH.nil
        go_simp
        refine Calls.mono (C1.out _ HOKi.out) ?_
        rintro e x7 ⟨rfl, hb7⟩
        have HC7 : Hid (C2 x7 w1.heap.size (.int .i64 mm.1) (.int .i64 mm.2)) := HCC.out.same (hb7.block _ (by show w1.heap.size < wr.heap.size; omega))
        refine hK.out _ _ (hHeld.trans (Fs.of_below hb7)) (fun hHeld => ?_)
        clear hK K
        refine wpAnyH_ready (rs := [9]) (by kernel_rfl) (by simp) ?_
        refine AllReadyH.cons rfl (fun K hK => ?_) AllReadyH.nil
        obtain ⟨⟨y0, y1⟩, f0, f1⟩ := id HC7.out
        go_simp
        refine hK.out _ _ ((hHeld.setT _ _ (by simp)).setT _ _ (by simp)) (fun hHeld => ?_)
        clear hK K
        refine wpAnyH_done (by kernel_rfl) ?_ _
        have HF9 : Hid _ := HF.out.trans hHeld
        have HC9 : Hid _ := (HC7.out.set0 (.int .i64 (anL mm lx).1)).set1 (.int .i64 (anL mm lx).2)
        clear hHeld q0 q1 c0 kv' y0 y1 f0 f1
        go_wp2
        exact ⟨⟨i + 1, by omega, by simp, HF9.out, by rw [HMM.out]; exact HC9.out⟩, by simp [intOf]; omega⟩
      · have hie : i = vs.length := by omega
        subst hie
        have HE' : Hid (fb = flL (mdL ls h (vs.take vs.length)) (lab ls pv)) := (show fb = flL (mdL ls h (vs.take vs.length)) (lab ls pv) by rw [List.take_length]; exact HE.out)
        have hok := HOK.out vs.length
        obtain ⟨q0, q1⟩ := HLA.out pv hv0 hv1
        replace q0 := hF.cell (cell_later B3.out q0) hlm
        replace q1 := hF.cell (cell_later B3.out q1) hlm
        have x1 := hF.cell HX.out hwm
        generalize mdL ls h (vs.take vs.length) = mm at hC hok HE'
        obtain ⟨xn, rfl⟩ := Int.eq_ofNat_of_zero_le hv0
        simp only [Int.toNat_natCast] at q0 q1
        have C1 : Hid _ := CF.out mm
        have HOKi : Hid (okL mm) := hok
        obtain ⟨⟨y0, y1⟩, -⟩ := hC
        generalize lab ls (xn : Int) = lx at *
        clear HE hok hF
        go_wp2_with fail
        refine wp_region_held (S := (fun wz => Below wr.heap.size wr wz)) (by kernel_rfl) ?_
        change wpAnyH _ _ _ _ _ _ _ _ (World.drew _)
        have hHeld : (fun wz => Below wr.heap.size wr wz) (World.drew wr) := (Below.refl _ _).drew
        refine' wpAnyH_take (i := 0) (v := (.agg #[.int .i64 mm.1, .int .i64 mm.2])) rfl (by kernel_rfl) (by kernel_rfl) (by kernel_rfl) (fun _ _ _ h => h) (Or.inl ⟨by rfl, ?hy8⟩) hHeld ?hn8
        case hy8 => (intro wz hSw; have j0 := cell_later hSw y0; have j1 := cell_later hSw y1; go_simp)
        try simp only [nrm, Act.put]
        refine' wpAnyH_take (i := 1) (v := _) rfl (by kernel_rfl) (by kernel_rfl) (by kernel_rfl) (fun _ _ _ h => h) (Or.inl ⟨by rfl, ?hy9⟩) hHeld ?hn9
        case hy9 => (intro wz hSw; go_simp; first | done | with_reducible rfl)
        try simp only [nrm, Act.put]
        refine' wpAnyH_take (i := 2) (v := _) rfl (by kernel_rfl) (by kernel_rfl) (by kernel_rfl) (fun _ _ _ h => h) (Or.inl ⟨by rfl, ?hy10⟩) hHeld ?hn10
        case hy10 => (intro wz hSw; go_simp; first | done | with_reducible rfl)
        try simp only [nrm, Act.put]
        refine' wpAnyH_take (i := 3) (v := _) rfl (by kernel_rfl) (by kernel_rfl) (by kernel_rfl) (fun _ _ _ h => h) (Or.inl ⟨by rfl, ?hy11⟩) hHeld ?hn11
        case hy11 => (intro wz hSw; go_simp; first | done | with_reducible rfl)
        try simp only [nrm, Act.put]
        refine' wpAnyH_take (i := 4) (v := (.slice (some ⟨lb, lf, none⟩) ls.length lc)) rfl (by kernel_rfl) (by kernel_rfl) (by kernel_rfl) (fun _ _ _ h => h) (Or.inl ⟨by rfl, ?hy12⟩) hHeld ?hn12
        case hy12 => (intro wz hSw; have j0 := cell_later hSw c0; go_simp)
        try simp only [nrm, Act.put]
        refine' wpAnyH_take (i := 5) (v := _) rfl (by kernel_rfl) (by kernel_rfl) (by kernel_rfl) (fun _ _ _ h => h) (Or.inl ⟨by rfl, ?hy13⟩) hHeld ?hn13
        case hy13 => (intro wz hSw; go_simp; first | done | with_reducible rfl)
        try simp only [nrm, Act.put]
        refine' wpAnyH_take (i := 6) (v := (.int .i64 (xn : Int))) rfl (by kernel_rfl) (by kernel_rfl) (by kernel_rfl) (fun _ _ _ h => h) (Or.inl ⟨by rfl, ?hy14⟩) hHeld ?hn14
        case hy14 => (intro wz hSw; have j0 := cell_later hSw x1; go_simp)
        try simp only [nrm, Act.put]
        refine' wpAnyH_take (i := 7) (v := (.pointer (some ⟨lb, lf + xn * 2, none⟩))) rfl (by kernel_rfl) (by kernel_rfl) (by kernel_rfl) (fun _ _ _ h => h) (Or.inl ⟨by rfl, ?hy15⟩) hHeld ?hn15
        case hy15 => (intro wz hSw; go_simp; first | done | (simp; done))
        try simp only [nrm, Act.put]
        refine' wpAnyH_take (i := 8) (v := (.agg #[.int .i64 lx.1, .int .i64 lx.2])) rfl (by kernel_rfl) (by kernel_rfl) (by kernel_rfl) (fun _ _ _ h => h) (Or.inl ⟨by rfl, ?hy16⟩) hHeld ?hn16
        case hy16 => (intro wz hSw; have j0 := cell_later hSw q0; have j1 := cell_later hSw q1; go_simp)
        try simp only [nrm, Act.put]
        refine wpAnyH_ready (rs := [9]) (by kernel_rfl) (by simp) ?_
        refine AllReadyH.cons rfl (fun K hK => ?_) AllReadyH.nil
        go_simp
        refine Calls.mono (C1.out _ HOKi.out) ?_
        rintro e x7 ⟨rfl, hb7⟩
        refine hK.out _ _ (Below.then hHeld hb7 hHeld.size) (fun hHeld => ?_)
        clear hK K
        refine' wpAnyH_take (i := 10) (v := _) rfl (by kernel_rfl) (by kernel_rfl) (by kernel_rfl) (fun _ _ _ h => h) (Or.inl ⟨by rfl, ?hy17⟩) hHeld ?hn17
        case hy17 => (intro wz hSw; go_simp; first | done | with_reducible rfl)
        try simp only [nrm, Act.put]
        refine wpAnyH_done (by kernel_rfl) ?_ _
        have HB9 : Hid _ := (Below.then (HF.out.below (B := w.heap.size) (by simp; omega) (by omega)) (hHeld.mono (by omega)) (by omega))
        have HB10 : Hid (Below w.heap.size w _) := B3.out.trans HB9.out
        clear hHeld q0 q1 c0 x1 y0 y1
        go_wp2
        exact bodyPost_ret (v := .bool (flL mm lx)) (by simp [results, Tryz.results93, go_sem]) rfl ⟨by rw [HE'.out], HB10.out⟩
  · subst hk
    have hb12 : okL (anL h (lab ls pv)) := anL_ok hh (lab_ok hls pv)
    have HE : Hid (fb = hasB (anL h (lab ls pv)).1 ph) := (show fb = hasB (anL h (lab ls pv)).1 ph by rw [← HFB.out]; rfl)
    have CB : Hid (∀ (wx : World), Calls Tryz.prog 94 #[.agg #[.int .i64 h.1, .int .i64 h.2], .agg #[.int .i64 (lab ls pv).1, .int .i64 (lab ls pv).2]] wx fun e w' => e = .returned (.agg #[.int .i64 (anL h (lab ls pv)).1, .int .i64 (anL h (lab ls pv)).2]) ∧ Below wx.heap.size wx w') := (show ∀ (wx : World), _ from fun wx => both_ok hh (lab_ok hls pv) wx)
    have CK : Hid _ := fun wx => knowers_any (anL h (lab ls pv)).1 (anL h (lab ls pv)).2 wx
    have CH : Hid _ := fun wx => has_any (anL h (lab ls pv)).1 ph wx hb12.1.1 hb12.1.2 hph.1 hph.2
    obtain ⟨q0, q1⟩ := HLA.out pv hv0 hv1
    replace q0 := cell_later B2.out q0
    replace q1 := cell_later B2.out q1
    have c0 := cell_later B2.out HC0.out
    have x1' := HG8.out.1.2.1
    have x5' := HG8.out.1.2.2.2.2.2.1
    obtain ⟨⟨y0, y1⟩, -⟩ := GM.out
    obtain ⟨xn, rfl⟩ := Int.eq_ofNat_of_zero_le hv0
    simp only [Int.toNat_natCast] at q0 q1
    have hz2 := HZ2.out
    generalize (anL h (lab ls (xn : Int))) = ax at *
    generalize lab ls (xn : Int) = lx at *
    clear HFB hb12 hph
    go_wp2_with fail
    rw [← HW2.out]
    clear HW2
    refine wp_region_held (S := (fun wz => Below w2.heap.size w2 wz)) (by kernel_rfl) ?_
    change wpAnyH _ _ _ _ _ _ _ _ (World.drew _)
    have hHeld : (fun wz => Below w2.heap.size w2 wz) (World.drew w2) := (Below.refl _ _).drew
    refine' wpAnyH_take (i := 0) (v := (.agg #[.int .i64 h.1, .int .i64 h.2])) rfl (by kernel_rfl) (by kernel_rfl) (by kernel_rfl) (fun _ _ _ h => h) (Or.inl ⟨by rfl, ?hy18⟩) hHeld ?hn18
    case hy18 => (intro wz hSw; have j0 := cell_later hSw y0; have j1 := cell_later hSw y1; go_simp)
    try simp only [nrm, Act.put]
    refine' wpAnyH_take (i := 1) (v := _) rfl (by kernel_rfl) (by kernel_rfl) (by kernel_rfl) (fun _ _ _ h => h) (Or.inl ⟨by rfl, ?hy19⟩) hHeld ?hn19
    case hy19 => (intro wz hSw; go_simp; first | done | with_reducible rfl)
    try simp only [nrm, Act.put]
    refine' wpAnyH_take (i := 2) (v := _) rfl (by kernel_rfl) (by kernel_rfl) (by kernel_rfl) (fun _ _ _ h => h) (Or.inl ⟨by rfl, ?hy20⟩) hHeld ?hn20
    case hy20 => (intro wz hSw; go_simp; first | done | with_reducible rfl)
    try simp only [nrm, Act.put]
    refine' wpAnyH_take (i := 3) (v := _) rfl (by kernel_rfl) (by kernel_rfl) (by kernel_rfl) (fun _ _ _ h => h) (Or.inl ⟨by rfl, ?hy21⟩) hHeld ?hn21
    case hy21 => (intro wz hSw; go_simp; first | done | with_reducible rfl)
    try simp only [nrm, Act.put]
    refine' wpAnyH_take (i := 4) (v := (.slice (some ⟨lb, lf, none⟩) ls.length lc)) rfl (by kernel_rfl) (by kernel_rfl) (by kernel_rfl) (fun _ _ _ h => h) (Or.inl ⟨by rfl, ?hy22⟩) hHeld ?hn22
    case hy22 => (intro wz hSw; have j0 := cell_later hSw c0; go_simp)
    try simp only [nrm, Act.put]
    refine' wpAnyH_take (i := 5) (v := _) rfl (by kernel_rfl) (by kernel_rfl) (by kernel_rfl) (fun _ _ _ h => h) (Or.inl ⟨by rfl, ?hy23⟩) hHeld ?hn23
    case hy23 => (intro wz hSw; go_simp; first | done | with_reducible rfl)
    try simp only [nrm, Act.put]
    refine' wpAnyH_take (i := 6) (v := (.int .i64 (xn : Int))) rfl (by kernel_rfl) (by kernel_rfl) (by kernel_rfl) (fun _ _ _ h => h) (Or.inl ⟨by rfl, ?hy24⟩) hHeld ?hn24
    case hy24 => (intro wz hSw; have j0 := cell_later hSw x1'; go_simp)
    try simp only [nrm, Act.put]
    refine' wpAnyH_take (i := 7) (v := (.pointer (some ⟨lb, lf + xn * 2, none⟩))) rfl (by kernel_rfl) (by kernel_rfl) (by kernel_rfl) (fun _ _ _ h => h) (Or.inl ⟨by rfl, ?hy25⟩) hHeld ?hn25
    case hy25 => (intro wz hSw; go_simp; first | done | (simp; done))
    try simp only [nrm, Act.put]
    refine' wpAnyH_take (i := 8) (v := (.agg #[.int .i64 lx.1, .int .i64 lx.2])) rfl (by kernel_rfl) (by kernel_rfl) (by kernel_rfl) (fun _ _ _ h => h) (Or.inl ⟨by rfl, ?hy26⟩) hHeld ?hn26
    case hy26 => (intro wz hSw; have j0 := cell_later hSw q0; have j1 := cell_later hSw q1; go_simp)
    try simp only [nrm, Act.put]
    refine' wpAnyH_take (i := 11) (v := _) rfl (by kernel_rfl) (by kernel_rfl) (by kernel_rfl) (fun _ _ _ h => h) (Or.inl ⟨by rfl, ?hy27⟩) hHeld ?hn27
    case hy27 => (intro wz hSw; go_simp; first | done | with_reducible rfl)
    try simp only [nrm, Act.put]
    refine' wpAnyH_take (i := 12) (v := (.int .i64 ph)) rfl (by kernel_rfl) (by kernel_rfl) (by kernel_rfl) (fun _ _ _ h => h) (Or.inl ⟨by rfl, ?hy28⟩) hHeld ?hn28
    case hy28 => (intro wz hSw; have j0 := cell_later hSw x5'; go_simp)
    try simp only [nrm, Act.put]
    refine wpAnyH_ready (rs := [9]) (by kernel_rfl) (by simp) ?_
    refine AllReadyH.cons rfl (fun K hK => ?_) AllReadyH.nil
    go_simp
    refine Calls.mono (CB.out _) ?_
    rintro e x7 ⟨rfl, hb7⟩
    refine hK.out _ _ (Below.then hHeld hb7 hHeld.size) (fun hHeld => ?_)
    clear hK K
    refine wpAnyH_ready (rs := [10]) (by kernel_rfl) (by simp) ?_
    refine AllReadyH.cons rfl (fun K hK => ?_) AllReadyH.nil
    go_simp
    refine Calls.mono (CK.out _) ?_
    rintro e x8 ⟨rfl, hb8⟩
    refine hK.out _ _ (Below.then hHeld hb8 hHeld.size) (fun hHeld => ?_)
    clear hK K
    refine wpAnyH_ready (rs := [13]) (by kernel_rfl) (by simp) ?_
    refine AllReadyH.cons rfl (fun K hK => ?_) AllReadyH.nil
    go_simp
    refine Calls.mono (CH.out _) ?_
    rintro e x9 ⟨rfl, rfl⟩
    refine hK.out _ _ (hHeld) (fun hHeld => ?_)
    clear hK K
    refine' wpAnyH_take (i := 14) (v := _) rfl (by kernel_rfl) (by kernel_rfl) (by kernel_rfl) (fun _ _ _ h => h) (Or.inl ⟨by rfl, ?hy29⟩) hHeld ?hn29
    case hy29 => (intro wz hSw; go_simp; first | done | with_reducible rfl)
    try simp only [nrm, Act.put]
    refine wpAnyH_done (by kernel_rfl) ?_ _
    have HB10 : Hid (Below w.heap.size w _) := Below.then B2.out hHeld B2.out.size
    clear hHeld q0 q1 c0 x1' x5' y0 y1
    go_wp2
    exact bodyPost_ret (v := .bool (hasB ax.1 ph)) (by simp [results, Tryz.results93, go_sem]) rfl ⟨by rw [HE.out], HB10.out⟩
  · subst hk
    have HE : Hid (fb = true) := (show fb = true by rw [← HFB.out]; rfl)
    clear HFB
    go_wp2_with fail
    rw [← HW2.out]
    clear HW2
    exact bodyPost_ret (v := .bool true) (by simp [results, Tryz.results93, go_sem]) rfl ⟨by rw [HE.out], B2.out⟩

end Go.Proofs.YthcgdhlemieboaaGreatDoor

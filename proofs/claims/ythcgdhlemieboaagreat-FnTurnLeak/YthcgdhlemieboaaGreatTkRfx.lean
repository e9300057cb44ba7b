/- Steps done by the program: its numbers reached by pointers, what was set and told in rows that grow. -/
import Derived.Test.YthcgdhlemieboaaGreatTkNmx
import Derived.Test.YthcgdhlemieboaaGreatTkDol
import Derived.Deep.DeepCutAuto
import Derived.Test.YthcgdhlemieboaaGreatTkSrn
import Derived.Laws.IdiomCopy
import Derived.Deep.Onto
namespace Go.Proofs.YthcgdhlemieboaaGreat
open Go.RowKit
set_option linter.unusedSimpArgs false
set_option linter.unusedVariables false
attribute [local go_sem] World.cell?_alloc_some

structure Dg (B : Nat) (w : World) (D : Nat) (wv sv : Value) (s : RSt) : Prop where
  nc : ∀ i, i < 4 → w.cell? ⟨D, i, none⟩ = some (.int .i64 (s.n.getD i 0))
  c4 : w.cell? ⟨D, 4, none⟩ = some wv
  c5 : w.cell? ⟨D, 5, none⟩ = some sv
  fz : ∀ i, i < 6 → w.frozen? ⟨D, i, none⟩ = false
  ws : w.ownsRow B 107 2 wv s.ws.length (pcells s.ws)
  ss : w.ownsRow B 93 2 sv s.ss.length (pcells s.ss)
  sw : ∀ b, wv.ownBlock = some b → sv.ownBlock ≠ some b
  wd : wv.ownBlock ≠ some D
  sd : sv.ownBlock ≠ some D
theorem Dg.lt {B : Nat} {w : World} {D : Nat} {wv sv : Value} {s : RSt} (h : Dg B w D wv sv s) : D < w.heap.size := World.block_lt_of_cell? w _ h.c4
theorem Dg.frame {B : Nat} {w w' : World} {D : Nat} {wv sv : Value} {s : RSt} (h : Dg B w D wv sv s) (hb : ∀ b, b < w.heap.size → (b = D ∨ wv.ownBlock = some b ∨ sv.ownBlock = some b) → w'.heap[b]? = w.heap[b]?) : Dg B w' D wv sv s := by
  have e := hb D h.lt (.inl rfl)
  exact ⟨fun i hi => (World.cell?_of_block e).trans (h.nc i hi), (World.cell?_of_block e).trans h.c4, (World.cell?_of_block e).trans h.c5, fun i hi => (World.frozen?_of_block (a := ⟨D, i, none⟩) e).trans (h.fz i hi), rowg_frame h.ws (fun b q => hb b (World.ownsRow.lt h.ws b q).2 (.inr (.inl q))), rowg_frame h.ss (fun b q => hb b (World.ownsRow.lt h.ss b q).2 (.inr (.inr q))), h.sw, h.wd, h.sd⟩
theorem Dg.below {B : Nat} {w w' : World} {D : Nat} {wv sv : Value} {s : RSt} (h : Dg B w D wv sv s) (hb : Below w.heap.size w w') : Dg B w' D wv sv s := h.frame (fun b hl _ => hb.block b hl)
theorem Dg.set {B : Nat} {w : World} {D : Nat} {wv sv : Value} {s : RSt} (h : Dg B w D wv sv s) (m : Nat) (x : Int) (hm : m < s.n.length) (hl : s.n.length ≤ 4) : Dg B (w.setCell ⟨D, m, none⟩ (.int .i64 x)) D wv sv ⟨s.n.set m x, s.ws, s.ss⟩ := by
  have ne : ∀ b, b ≠ D → (w.setCell ⟨D, m, none⟩ (.int .i64 x)).heap[b]? = w.heap[b]? := fun b hb => Below.heap_setCell _ _ _ _ hb
  refine ⟨fun i hi => ?_, (World.cell?_setCell_other _ _ _ _ (by simp <;> omega)).trans h.c4, (World.cell?_setCell_other _ _ _ _ (by simp <;> omega)).trans h.c5, fun i hi => by rw [World.frozen?_setCell]; exact h.fz i hi, rowg_frame h.ws (fun b q => ne b (fun e => h.wd (e ▸ q))), rowg_frame h.ss (fun b q => ne b (fun e => h.sd (e ▸ q))), h.sw, h.wd, h.sd⟩
  by_cases e : i = m
  · subst e
    rw [World.cell?_setCell_same _ _ _ (h.nc i hi)]
    simp [hm]
  · rw [World.cell?_setCell_other _ _ _ _ (by simp <;> omega), h.nc i hi]
    simp [List.getD_eq_getElem?_getD, List.getElem?_set_ne (Ne.symm e)]
theorem Dg.push {B : Nat} {w xa w' : World} {D : Nat} {wv sv v' : Value} {s : RSt} {a : Int × Int} (h0 : Dg B w D wv sv s) (hA : Below w.heap.size w xa) (ho : w'.ownsRow B 107 2 v' (s.ws.length + 1) (pcells s.ws ++ [.int .i64 a.1, .int .i64 a.2])) (hg : xa.grownBy w' wv.ownBlock) (ha : v'.ownBlock = wv.ownBlock ∨ v'.ownBlock = some xa.heap.size) : Dg B (w'.setCell ⟨D, 4, none⟩ v') D v' sv ⟨s.n, s.ws ++ [a], s.ss⟩ := by
  have h := h0.below hA
  have hD := h.lt
  have gr : ∀ b, b < xa.heap.size → wv.ownBlock ≠ some b → w'.heap[b]? = xa.heap[b]? := fun b hb hne => hg.block b hb (fun e => hne e.symm)
  have ne : ∀ b, b ≠ D → (w'.setCell ⟨D, 4, none⟩ v').heap[b]? = w'.heap[b]? := fun b hb => Below.heap_setCell _ _ _ _ hb
  have eD := gr D hD h.wd
  have vD : v'.ownBlock ≠ some D := by
    rcases ha with ha | ha
    · rw [ha]; exact h.wd
    · rw [ha]; intro e; have := Option.some.inj e; omega
  have k : ∀ i, w'.cell? ⟨D, i, none⟩ = xa.cell? ⟨D, i, none⟩ := fun i => World.cell?_of_block eD
  refine ⟨fun i hi => (World.cell?_setCell_other _ _ _ _ (by simp <;> omega)).trans ((k i).trans (h.nc i hi)), World.cell?_setCell_same _ _ _ ((k 4).trans h.c4), (World.cell?_setCell_other _ _ _ _ (by simp)).trans ((k 5).trans h.c5), fun i hi => by rw [World.frozen?_setCell]; exact (World.frozen?_of_block (a := ⟨D, i, none⟩) eD).trans (h.fz i hi), ?_, ?_, fun b e q => ?_, vD, h.sd⟩
  · refine rowg_frame (w := w') ?_ (fun b q => ne b (fun e => vD (e ▸ q)))
    show w'.ownsRow B 107 2 v' (s.ws ++ [a]).length (pcells (s.ws ++ [a]))
    rw [pcells_app]; simpa using ho
  · exact rowg_frame h.ss (fun b q => (ne b (fun e => h.sd (e ▸ q))).trans (gr b (World.ownsRow.lt h.ss b q).2 (fun e => h.sw b e q)))
  · rcases ha with ha | ha
    · exact h.sw b (ha ▸ e) q
    · rw [ha] at e; have := Option.some.inj e; have := (World.ownsRow.lt h.ss b q).2; omega
theorem Dg.tell {B : Nat} {w xa w' : World} {D : Nat} {wv sv v' : Value} {s : RSt} {a : Int × Int} (h0 : Dg B w D wv sv s) (hA : Below w.heap.size w xa) (ho : w'.ownsRow B 93 2 v' (s.ss.length + 1) (pcells s.ss ++ [.int .i64 a.1, .int .i64 a.2])) (hg : xa.grownBy w' sv.ownBlock) (ha : v'.ownBlock = sv.ownBlock ∨ v'.ownBlock = some xa.heap.size) : Dg B (w'.setCell ⟨D, 5, none⟩ v') D wv v' ⟨s.n, s.ws, s.ss ++ [a]⟩ := by
  have h := h0.below hA
  have hD := h.lt
  have gr : ∀ b, b < xa.heap.size → sv.ownBlock ≠ some b → w'.heap[b]? = xa.heap[b]? := fun b hb hne => hg.block b hb (fun e => hne e.symm)
  have ne : ∀ b, b ≠ D → (w'.setCell ⟨D, 5, none⟩ v').heap[b]? = w'.heap[b]? := fun b hb => Below.heap_setCell _ _ _ _ hb
  have eD := gr D hD h.sd
  have vD : v'.ownBlock ≠ some D := by
    rcases ha with ha | ha
    · rw [ha]; exact h.sd
    · rw [ha]; intro e; have := Option.some.inj e; omega
  have k : ∀ i, w'.cell? ⟨D, i, none⟩ = xa.cell? ⟨D, i, none⟩ := fun i => World.cell?_of_block eD
  refine ⟨fun i hi => (World.cell?_setCell_other _ _ _ _ (by simp <;> omega)).trans ((k i).trans (h.nc i hi)), (World.cell?_setCell_other _ _ _ _ (by simp)).trans ((k 4).trans h.c4), World.cell?_setCell_same _ _ _ ((k 5).trans h.c5), fun i hi => by rw [World.frozen?_setCell]; exact (World.frozen?_of_block (a := ⟨D, i, none⟩) eD).trans (h.fz i hi), ?_, ?_, fun b e q => ?_, h.wd, vD⟩
  · exact rowg_frame h.ws (fun b q => (ne b (fun e => h.wd (e ▸ q))).trans (gr b (World.ownsRow.lt h.ws b q).2 (fun e => h.sw b q e)))
  · refine rowg_frame (w := w') ?_ (fun b q => ne b (fun e => vD (e ▸ q)))
    show w'.ownsRow B 93 2 v' (s.ss ++ [a]).length (pcells (s.ss ++ [a]))
    rw [pcells_app]; simpa using ho
  · rcases ha with ha | ha
    · exact h.sw b e (ha ▸ q)
    · rw [ha] at q; have := Option.some.inj q; have := (World.ownsRow.lt h.ws b e).2; omega
def DoPost (B : Nat) (w : World) (D : Nat) (wv sv : Value) (s : RSt) (e : Ending) (w' : World) : Prop := ∃ r wv' sv', e = .returned r ∧ Dg B w' D wv' sv' s ∧ Kx (.slice (some ⟨D, 0, none⟩) 0 0) wv sv w w' ∧ Nx w.heap.size wv wv' ∧ Nx w.heap.size sv sv'

set_option maxHeartbeats 8000000 in
set_option maxRecDepth 20000 in
theorem doOne_of {B D : Nat} {d : Nat} {T1 T2 : Tr d} (p : Pay) {ta ea : Option Addr} {tc ec : Nat} {wv sv : Value} {s : RSt} {w : World} (hB : B ≤ w.heap.size) (hG : Dg B w D wv sv s) (hl : s.n.length ≤ 4) (ht : tenB s.n = true) (hp : payB s.n.length p (decide (ln d T1 + ln d T2 = 0)) = true) (hc1 : s.ws.length ≤ 1048576) (hc2 : s.ss.length ≤ 1048576)
    (D1 : ∀ w', Below w.heap.size w w' → Dg B w' D wv sv s → Calls Tryz.prog 71 #[.pointer (some ⟨D, 0, none⟩), .slice ta (ln d T1) tc] w' (DoPost B w' D wv sv (doT d T1 s)))
    (D2 : ∀ w', Below w.heap.size w w' → Dg B w' D wv sv s → Calls Tryz.prog 71 #[.pointer (some ⟨D, 0, none⟩), .slice ea (ln d T2) ec] w' (DoPost B w' D wv sv (doT d T2 s))) :
    Calls Tryz.prog 86 #[.pointer (some ⟨D, 0, none⟩), .agg #[.int .i64 p.k, .int .i64 p.v, .int .i64 p.vk, .int .i64 p.va, .int .i64 p.vb, .int .i64 p.h, .slice ta (ln d T1) tc, .slice ea (ln d T2) ec]] w (DoPost B w D wv sv (stepS (doT d) (p, T1, T2) s)) := by
  obtain ⟨i0, hi0, hz0, hz1, hz2⟩ := info_parts infoWrite
  obtain ⟨i1, hj0, hy0, hy1, hy2⟩ := info_parts infoSaid
  have A : Below w.heap.size w (w.alloc (.cells #[.int .i64 p.k, .int .i64 p.v, .int .i64 p.vk, .int .i64 p.va, .int .i64 p.vb, .int .i64 p.h, .slice ta (ln d T1) tc, .slice ea (ln d T2) ec] 66)) := (Below.refl _ _).alloc (Nat.le_refl _) _
  have G8 := C8.new w (.int .i64 p.k) (.int .i64 p.v) (.int .i64 p.vk) (.int .i64 p.va) (.int .i64 p.vb) (.int .i64 p.h) (.slice ta (ln d T1) tc) (.slice ea (ln d T2) ec) 66
  have zW : (w.alloc (.cells #[.int .i64 p.k, .int .i64 p.v, .int .i64 p.vk, .int .i64 p.va, .int .i64 p.vb, .int .i64 p.h, .slice ta (ln d T1) tc, .slice ea (ln d T2) ec] 66)).heap.size = w.heap.size + 1 := by simp
  generalize hW0 : (w.alloc (.cells #[.int .i64 p.k, .int .i64 p.v, .int .i64 p.vk, .int .i64 p.va, .int .i64 p.vb, .int .i64 p.h, .slice ta (ln d T1) tc, .slice ea (ln d T2) ec] 66)) = w0 at A G8 zW
  have HW0 : Hid _ := hW0
  have HA : Hid (Below w.heap.size w w0) := A
  have G0 := hG.below A
  have HG0 : Hid (Dg B w0 D wv sv s) := G0
  have hDw := hG.lt
  have HD1 : Hid (∀ w', Below w.heap.size w w' → Dg B w' D wv sv s → Calls Tryz.prog 71 #[.pointer (some ⟨D, 0, none⟩), .slice ta (ln d T1) tc] w' (DoPost B w' D wv sv (doT d T1 s))) := D1
  have HD2 : Hid (∀ w', Below w.heap.size w w' → Dg B w' D wv sv s → Calls Tryz.prog 71 #[.pointer (some ⟨D, 0, none⟩), .slice ea (ln d T2) ec] w' (DoPost B w' D wv sv (doT d T2 s))) := D2
  have HRB : Hid ((∀ b, wv.ownBlock = some b → b < w.heap.size) ∧ (∀ b, sv.ownBlock = some b → b < w.heap.size)) := ⟨fun b e => (World.ownsRow.lt hG.ws b e).2, fun b e => (World.ownsRow.lt hG.ss b e).2⟩
  clear D1 D2 hG A hW0
  have hvn : vIn s.n.length p.v = true := by unfold payB at hp; simp only [Bool.and_eq_true_iff] at hp; exact hp.1
  obtain ⟨hv0, hv1⟩ : 0 ≤ p.v ∧ p.v < s.n.length := by simpa [vIn] using hvn
  obtain ⟨pk, pv, vk, va, vb, ph⟩ := p
  dsimp only at *
  obtain ⟨m, rfl⟩ := Int.eq_ofNat_of_zero_le hv0
  have hm : m < s.n.length := by omega
  have hm4 : m < 4 := by omega
  have hgx : s.n.getD m 0 = s.n[m] := by simp [hm]
  have hnm : w0.cell? ⟨D, m, none⟩ = some (.int .i64 s.n[m]) := by rw [G0.nc m hm4, hgx]
  have fnm : w0.frozen? ⟨D, m, none⟩ = false := G0.fz m (by omega)
  obtain ⟨wa, wc, rfl⟩ := rowg_slice G0.ws
  obtain ⟨sa, sc, rfl⟩ := rowg_slice G0.ss
  obtain ⟨⟨x0, x1, x2, x3, x4, x5, x6, x7⟩, -⟩ := G8
  have nx : w.heap.size < w0.heap.size := by omega
  clear hvn hv0 hv1
  have hk3 : pk = 1 ∨ pk = 3 ∨ pk = 2 := by
    unfold payB at hp
    simp only [Bool.and_eq_true_iff] at hp
    have := hp.2
    split at this
    · exact .inl ‹_›
    · split at this
      · exact .inr (.inl ‹_›)
      · split at this
        · exact .inr (.inr ‹_›)
        · cases this
  obtain ⟨st, hst⟩ : ∃ st, stepS (doT d) (⟨pk, (m : Int), vk, va, vb, ph⟩, T1, T2) s = st := ⟨_, rfl⟩
  rw [hst]
  have HST : Hid (stepS (doT d) (⟨pk, (m : Int), vk, va, vb, ph⟩, T1, T2) s = st) := hst
  clear hst
  go_enter Tryz.func86, Tryz.ntmps86
  go_wp2_with fail
  rw [HW0.out]
  refine wp_region_held (S := (fun wz => Below w0.heap.size w0 wz)) (by kernel_rfl) ?_
  change wpAnyH _ _ _ _ _ _ _ _ (World.drew _)
  have hHeld := (show Below w0.heap.size w0 (World.drew w0) from (Below.refl _ _).drew)
  refine' wpAnyH_take (i := 0) (v := _) rfl (by kernel_rfl) (by kernel_rfl) (by kernel_rfl) (fun _ _ _ h => h) (Or.inl ⟨by rfl, ?hy90001⟩) hHeld ?hn90001
  case hy90001 => (intro wz hSw; (try dsimp only at hSw); go_simp; first | done | with_reducible rfl)
  try simp only [nrm, Act.put]
  refine' wpAnyH_take (i := 1) (v := _) rfl (by kernel_rfl) (by kernel_rfl) (by kernel_rfl) (fun _ _ _ h => h) (Or.inl ⟨by rfl, ?hy90002⟩) hHeld ?hn90002
  case hy90002 => (intro wz hSw; (try dsimp only at hSw); go_simp; first | done | with_reducible rfl)
  try simp only [nrm, Act.put]
  refine' wpAnyH_take (i := 2) (v := _) rfl (by kernel_rfl) (by kernel_rfl) (by kernel_rfl) (fun _ _ _ h => h) (Or.inl ⟨by rfl, ?hy90003⟩) hHeld ?hn90003
  case hy90003 => (intro wz hSw; (try dsimp only at hSw); go_simp; first | done | with_reducible rfl)
  try simp only [nrm, Act.put]
  refine' wpAnyH_take (i := 3) (v := _) rfl (by kernel_rfl) (by kernel_rfl) (by kernel_rfl) (fun _ _ _ h => h) (Or.inl ⟨by rfl, ?hy90004⟩) hHeld ?hn90004
  case hy90004 => (intro wz hSw; (try dsimp only at hSw); go_simp; first | done | with_reducible rfl)
  try simp only [nrm, Act.put]
  refine' wpAnyH_take (i := 4) (v := .int .i64 (m : Int)) rfl (by kernel_rfl) (by kernel_rfl) (by kernel_rfl) (fun _ _ _ h => h) (Or.inl ⟨by rfl, ?hy90005⟩) hHeld ?hn90005
  case hy90005 => (intro wz hSw; have j0 := (hSw.cell (p := ⟨w.heap.size, 1, none⟩) nx).trans x1; go_simp)
  try simp only [nrm, Act.put]
  refine wpAnyH_ready (rs := [5]) (by kernel_rfl) (by simp) ?_
  refine AllReadyH.cons rfl (fun K hK => ?_) AllReadyH.nil
  go_simp
  refine (numbersAt_any _ _ _ hm4).mono ?_; rintro e' w9 ⟨rfl, hw9⟩
  refine hK.out _ _ (by rw [hw9]; exact hHeld) (fun hHeld => ?_)
  clear hK K
  refine' wpAnyH_take (i := 6) (v := _) rfl (by kernel_rfl) (by kernel_rfl) (by kernel_rfl) (fun _ _ _ h => h) (Or.inl ⟨by rfl, ?hy90006⟩) hHeld ?hn90006
  case hy90006 => (intro wz hSw; (try dsimp only at hSw); go_simp; first | done | with_reducible rfl)
  try simp only [nrm, Act.put]
  refine wpAnyH_done (by kernel_rfl) ?_ _
  clear HW0
  have GY : Dg B w9 D (.slice wa s.ws.length wc) (.slice sa s.ss.length sc) s := HG0.out.below hHeld
  have HGY : Hid (Dg B w9 D (.slice wa s.ws.length wc) (.slice sa s.ss.length sc) s) := GY
  have HY : Hid (Below w.heap.size w w9) := Below.then HA.out hHeld HA.out.size
  have zY : w0.heap.size ≤ w9.heap.size := hHeld.size
  replace x0 := cell_later hHeld x0
  replace x1 := cell_later hHeld x1
  replace x2 := cell_later hHeld x2
  replace x3 := cell_later hHeld x3
  replace x4 := cell_later hHeld x4
  replace x5 := cell_later hHeld x5
  replace x6 := cell_later hHeld x6
  replace x7 := cell_later hHeld x7
  replace hnm : w9.cell? ⟨D, m, none⟩ = some (.int .i64 s.n[m]) := cell_later hHeld hnm
  replace fnm : w9.frozen? ⟨D, m, none⟩ = false := GY.fz m (by omega)
  have KY : Hid (Kx (.slice (some ⟨D, 0, none⟩) 0 0) (.slice wa s.ws.length wc) (.slice sa s.ss.length sc) w w9) := Kx.of HY.out
  have hND : D ≠ w.heap.size := by omega
  clear hHeld hw9 HG0 HA GY
  rcases hk3 with hk | hk | hk
  · subst hk
    have hv : valB s.n.length vk va vb = true := by
      unfold payB at hp
      simp at hp
      exact hp.2.1.1
    obtain ⟨nv, hnv⟩ : ∃ nv, numV vk va vb s.n = nv := ⟨_, rfl⟩
    have HNV : Hid (numV vk va vb s.n = nv) := hnv
    have HE : Hid (st = ⟨s.n.set m nv, s.ws ++ [((m : Int), nv)], s.ss⟩) := (show st = ⟨s.n.set m nv, s.ws ++ [((m : Int), nv)], s.ss⟩ by rw [← HST.out, ← hnv]; simp [stepS])
    clear hnv HST HD1 HD2
    go_wp2_with fail
    refine wp_region_held (S := (fun wz => wz.cell? ⟨w.heap.size, 1, none⟩ = some (.int .i64 (m : Int)) ∧ wz.cell? ⟨w.heap.size, 2, none⟩ = some (.int .i64 vk) ∧ wz.cell? ⟨w.heap.size, 3, none⟩ = some (.int .i64 va) ∧ wz.cell? ⟨w.heap.size, 4, none⟩ = some (.int .i64 vb))) (by kernel_rfl) ?_
    change wpAnyH _ _ _ _ _ _ _ _ (World.drew _)
    have hHeld : (fun wz => wz.cell? ⟨w.heap.size, 1, none⟩ = some (.int .i64 (m : Int)) ∧ wz.cell? ⟨w.heap.size, 2, none⟩ = some (.int .i64 vk) ∧ wz.cell? ⟨w.heap.size, 3, none⟩ = some (.int .i64 va) ∧ wz.cell? ⟨w.heap.size, 4, none⟩ = some (.int .i64 vb)) (World.drew w9) := ⟨x1, x2, x3, x4⟩
    refine' wpAnyH_take (i := 0) (v := _) rfl (by kernel_rfl) (by kernel_rfl) (by kernel_rfl) (fun _ _ _ h => h) (Or.inl ⟨by rfl, ?hy9⟩) hHeld ?hn9
    case hy9 => (intro wz hSw; go_simp; first | done | with_reducible rfl)
    try simp only [nrm, Act.put]
    refine' wpAnyH_take (i := 1) (v := _) rfl (by kernel_rfl) (by kernel_rfl) (by kernel_rfl) (fun _ _ _ h => h) (Or.inl ⟨by rfl, ?hy10⟩) hHeld ?hn10
    case hy10 => (intro wz hSw; go_simp; first | done | with_reducible rfl)
    try simp only [nrm, Act.put]
    refine' wpAnyH_take (i := 2) (v := .agg #[.int .i64 vk, .int .i64 va, .int .i64 vb]) rfl (by kernel_rfl) (by kernel_rfl) (by kernel_rfl) (fun _ _ _ h => h) (Or.inl ⟨by rfl, ?hy11⟩) hHeld ?hn11
    case hy11 => (intro wz hSw; obtain ⟨_, j2, j3, j4⟩ := hSw; go_simp)
    try simp only [nrm, Act.put]
    refine' wpAnyH_take (i := 3) (v := _) rfl (by kernel_rfl) (by kernel_rfl) (by kernel_rfl) (fun _ _ _ h => h) (Or.inl ⟨by rfl, ?hy12⟩) hHeld ?hn12
    case hy12 => (intro wz hSw; go_simp; first | done | with_reducible rfl)
    try simp only [nrm, Act.put]
    refine' wpAnyH_take (i := 4) (v := _) rfl (by kernel_rfl) (by kernel_rfl) (by kernel_rfl) (fun _ _ _ h => h) (Or.inl ⟨by rfl, ?hy13⟩) hHeld ?hn13
    case hy13 => (intro wz hSw; go_simp; first | done | with_reducible rfl)
    try simp only [nrm, Act.put]
    refine' wpAnyH_take (i := 5) (v := _) rfl (by kernel_rfl) (by kernel_rfl) (by kernel_rfl) (fun _ _ _ h => h) (Or.inl ⟨by rfl, ?hy14⟩) hHeld ?hn14
    case hy14 => (intro wz hSw; go_simp; first | done | with_reducible rfl)
    try simp only [nrm, Act.put]
    refine wpAnyH_ready (rs := [6]) (by kernel_rfl) (by simp) ?_
    refine AllReadyH.cons rfl (fun K hK => ?_) AllReadyH.nil
    go_simp
    refine (number_any D s.n vk va vb _ hl (fun i hi => by have := HGY.out.nc i (by omega); simpa [hi] using this) hv ht).mono ?_
    rintro e' y1 ⟨rfl, hbd⟩
    have hbx : Below w9.heap.size w9 y1 := Below.then ((Below.refl w9.heap.size w9).drew) hbd (Nat.le_refl _)
    rw [HNV.out]
    have G1 := HGY.out.below (w' := y1) hbx
    have K1 : Kx (.slice (some ⟨D, 0, none⟩) 0 0) (.slice wa s.ws.length wc) (.slice sa s.ss.length sc) w y1 := Kx.of (Below.then HY.out hbx HY.out.size)
    have z1 : w9.heap.size ≤ y1.heap.size := hbx.size
    refine hK.out _ _ (⟨cell_later hbx hHeld.1, cell_later hbx hHeld.2.1, cell_later hbx hHeld.2.2.1, cell_later hbx hHeld.2.2.2⟩) (fun hHeld => ?_)
    clear hK K
    refine' wpAnyH_take (i := 7) (v := _) rfl (by kernel_rfl) (by kernel_rfl) (by kernel_rfl) (fun _ _ _ h => h) (Or.inl ⟨by rfl, ?hy15⟩) hHeld ?hn15
    case hy15 => (intro wz hSw; go_simp; first | done | with_reducible rfl)
    try simp only [nrm, Act.put]
    refine wpAnyH_ready (rs := [8]) (by kernel_rfl) (by simp) ?_
    refine AllReadyH.cons rfl (fun K hK => ?_) AllReadyH.nil
    have hn1 := G1.nc m (by omega)
    have hf1 := G1.fz m (by omega)
    go_simp
    have G2 := G1.set m nv hm hl
    have K2 := K1.set ⟨D, m, none⟩ (.int .i64 nv) (.inr rfl)
    have hst2 : ∀ b, b ≠ D → (y1.setCell ⟨D, m, none⟩ (.int .i64 nv)).heap[b]? = y1.heap[b]? := fun b hb => Below.heap_setCell _ _ _ _ hb
    have z2 : (y1.setCell ⟨D, m, none⟩ (.int .i64 nv)).heap.size = y1.heap.size := by simp [World.setCell]
    have hn2 : (y1.setCell ⟨D, m, none⟩ (.int .i64 nv)).cell? ⟨D, m, none⟩ = some (.int .i64 nv) := World.cell?_setCell_same _ _ _ hn1
    generalize (y1.setCell ⟨D, m, none⟩ (.int .i64 nv)) = y2 at G2 K2 hst2 z2 hn2 ⊢
    clear hn1 hf1
    refine hK.out _ _ (⟨(World.cell?_of_block (hst2 _ (Ne.symm hND))).trans hHeld.1, (World.cell?_of_block (hst2 _ (Ne.symm hND))).trans hHeld.2.1, (World.cell?_of_block (hst2 _ (Ne.symm hND))).trans hHeld.2.2.1, (World.cell?_of_block (hst2 _ (Ne.symm hND))).trans hHeld.2.2.2⟩) (fun hHeld => ?_)
    clear hK K
    refine wpAnyH_done (by kernel_rfl) ?_ _
    have xv : y2.cell? ⟨w.heap.size, 1, none⟩ = some (.int .i64 (m : Int)) := hHeld.1
    have HG2 : Hid (Dg B y2 D (.slice wa s.ws.length wc) (.slice sa s.ss.length sc) ⟨s.n.set m nv, s.ws, s.ss⟩) := G2
    have HK2 : Hid (Kx (.slice (some ⟨D, 0, none⟩) 0 0) (.slice wa s.ws.length wc) (.slice sa s.ss.length sc) w y2) := K2
    have z02 : w.heap.size < y2.heap.size := by omega
    clear hHeld G1 K1 G2 K2 hst2 x0 x1 x2 x3 x4 x5 x6 x7 hnm fnm
    go_wp2_with fail
    refine wp_region_held (S := (fun wz => wz.cell? ⟨w.heap.size, 1, none⟩ = some (.int .i64 (m : Int)) ∧ wz.cell? ⟨D, m, none⟩ = some (.int .i64 nv))) (by kernel_rfl) ?_
    change wpAnyH _ _ _ _ _ _ _ _ (World.drew _)
    have hHeld : (fun wz => wz.cell? ⟨w.heap.size, 1, none⟩ = some (.int .i64 (m : Int)) ∧ wz.cell? ⟨D, m, none⟩ = some (.int .i64 nv)) (World.drew y2) := ⟨xv, hn2⟩
    obtain ⟨yd, hyd⟩ : ∃ y, y = World.drew y2 := ⟨_, rfl⟩
    have Gd : Dg B yd D (.slice wa s.ws.length wc) (.slice sa s.ss.length sc) ⟨s.n.set m nv, s.ws, s.ss⟩ := by rw [hyd]; exact HG2.out.frame (fun _ _ _ => rfl)
    have HKd : Hid (Kx (.slice (some ⟨D, 0, none⟩) 0 0) (.slice wa s.ws.length wc) (.slice sa s.ss.length sc) w yd) := (show Kx (.slice (some ⟨D, 0, none⟩) 0 0) (.slice wa s.ws.length wc) (.slice sa s.ss.length sc) w yd by rw [hyd]; exact ⟨HK2.out.os, HK2.out.tape, HK2.out.output, HK2.out.size, HK2.out.block⟩)
    have zd : w.heap.size < yd.heap.size := by rw [hyd]; show w.heap.size < y2.heap.size; omega
    rw [← hyd] at hHeld ⊢
    clear hyd
    refine' wpAnyH_take (i := 0) (v := _) rfl (by kernel_rfl) (by kernel_rfl) (by kernel_rfl) (fun _ _ _ h => h) (Or.inl ⟨by rfl, ?hy16⟩) hHeld ?hn16
    case hy16 => (intro wz hSw; go_simp; first | done | with_reducible rfl)
    try simp only [nrm, Act.put]
    refine' wpAnyH_take (i := 1) (v := _) rfl (by kernel_rfl) (by kernel_rfl) (by kernel_rfl) (fun _ _ _ h => h) (Or.inl ⟨by rfl, ?hy17⟩) hHeld ?hn17
    case hy17 => (intro wz hSw; go_simp; first | done | with_reducible rfl)
    try simp only [nrm, Act.put]
    refine' wpAnyH_take (i := 2) (v := _) rfl (by kernel_rfl) (by kernel_rfl) (by kernel_rfl) (fun _ _ _ h => h) (Or.inl ⟨by rfl, ?hy18⟩) hHeld ?hn18
    case hy18 => (intro wz hSw; go_simp; first | done | with_reducible rfl)
    try simp only [nrm, Act.put]
    refine' wpAnyH_take (i := 3) (v := _) rfl (by kernel_rfl) (by kernel_rfl) (by kernel_rfl) (fun _ _ _ h => h) (Or.inl ⟨by rfl, ?hy19⟩) hHeld ?hn19
    case hy19 => (intro wz hSw; go_simp; first | done | with_reducible rfl)
    try simp only [nrm, Act.put]
    refine' wpAnyH_take (i := 5) (v := _) rfl (by kernel_rfl) (by kernel_rfl) (by kernel_rfl) (fun _ _ _ h => h) (Or.inl ⟨by rfl, ?hy20⟩) hHeld ?hn20
    case hy20 => (intro wz hSw; go_simp; first | done | with_reducible rfl)
    try simp only [nrm, Act.put]
    refine' wpAnyH_take (i := 6) (v := .int .i64 (m : Int)) rfl (by kernel_rfl) (by kernel_rfl) (by kernel_rfl) (fun _ _ _ h => h) (Or.inl ⟨by rfl, ?hy21⟩) hHeld ?hn21
    case hy21 => (intro wz hSw; obtain ⟨j0, j1⟩ := hSw; go_simp)
    try simp only [nrm, Act.put]
    refine' wpAnyH_take (i := 7) (v := _) rfl (by kernel_rfl) (by kernel_rfl) (by kernel_rfl) (fun _ _ _ h => h) (Or.inl ⟨by rfl, ?hy22⟩) hHeld ?hn22
    case hy22 => (intro wz hSw; go_simp; first | done | with_reducible rfl)
    try simp only [nrm, Act.put]
    refine' wpAnyH_take (i := 8) (v := _) rfl (by kernel_rfl) (by kernel_rfl) (by kernel_rfl) (fun _ _ _ h => h) (Or.inl ⟨by rfl, ?hy23⟩) hHeld ?hn23
    case hy23 => (intro wz hSw; go_simp; first | done | with_reducible rfl)
    try simp only [nrm, Act.put]
    refine' wpAnyH_take (i := 9) (v := .int .i64 nv) rfl (by kernel_rfl) (by kernel_rfl) (by kernel_rfl) (fun _ _ _ h => h) (Or.inl ⟨by rfl, ?hy24⟩) hHeld ?hn24
    case hy24 => (intro wz hSw; obtain ⟨j0, j1⟩ := hSw; go_simp)
    try simp only [nrm, Act.put]
    refine' wpAnyH_take (i := 10) (v := _) rfl (by kernel_rfl) (by kernel_rfl) (by kernel_rfl) (fun _ _ _ h => h) (Or.inl ⟨by rfl, ?hy25⟩) hHeld ?hn25
    case hy25 => (intro wz hSw; go_simp; first | done | with_reducible rfl)
    try simp only [nrm, Act.put]
    refine wpAnyH_ready (rs := [4, 11]) (by kernel_rfl) (by simp) ?_
    refine AllReadyH.cons rfl (fun K hK => ?_) (AllReadyH.cons rfl (fun K hK => ?_) AllReadyH.nil)
    · have jr := Gd.c4
      go_simp
      clear jr
      refine hK.out _ _ (hHeld) (fun hHeld => ?_)
      clear hK K
      refine wpAnyH_ready (rs := [11]) (by kernel_rfl) (by simp) ?_
      refine AllReadyH.cons rfl (fun K hK => ?_) AllReadyH.nil
      go_simp
      obtain ⟨ya, hya⟩ : ∃ y, y = yd.alloc (.cells #[.int .i64 (m : Int), .int .i64 nv] 107) := ⟨_, rfl⟩
      rw [← hya]
      have nwa : ∀ j u, [Value.int .i64 (m : Int), Value.int .i64 nv][j]? = some u → ya.cell? ((⟨yd.heap.size, 0, none⟩ : Addr).add j) = some u := by rw [hya]; exact cells_new2 _ _ _ _ _ rfl
      have Aa : Below yd.heap.size yd ya := by rw [hya]; exact (Below.refl _ _).alloc (Nat.le_refl _) _
      have Ga := Gd.below Aa
      clear hya
      refine hK.out _ _ (⟨cell_later Aa hHeld.1, cell_later Aa hHeld.2⟩) (fun hHeld => ?_)
      clear hK K
      refine wpAnyH_ready (rs := [12]) (by kernel_rfl) (by simp) ?_
      refine AllReadyH.cons rfl (fun K hK => ?_) AllReadyH.nil
      refine wp_append_at' _ _ _ 48 rfl B 107 i0 _ 2 16 Tryz.underlying48 hi0 hz0 hz1 hz2 rfl (by decide) _ _ _ rfl Ga.ws ⟨yd.heap.size, 0, none⟩ 1 1 [.int .i64 (m : Int), .int .i64 nv] rfl rfl nwa (by simp [Value.oneCell']) (by show s.ws.length + 1 ≤ maxLen; unfold maxLen; omega) (by show (s.ws.length + 1) * 16 ≤ 140737488355328; omega) (by have := Aa.size; omega) ?_
      intro v3 y3 own3 grow3 hn3 hat3
      have G3 := Dg.push (a := ((m : Int), nv)) Ga (Below.refl _ _) own3 grow3 hat3
      have e3 : y3.heap[D]? = ya.heap[D]? := grow3.block D Ga.lt (fun e => Ga.wd e.symm)
      have eN : y3.heap[w.heap.size]? = ya.heap[w.heap.size]? := grow3.block _ (by have := Aa.size; omega) (fun e => by have := HRB.out.1 _ e.symm; omega)
      have K3 : Kx (.slice (some ⟨D, 0, none⟩) 0 0) (.slice wa s.ws.length wc) (.slice sa s.ss.length sc) w y3 := ((HKd.out.trans (Kx.of Aa) (Nx.refl w.heap.size _) (Nx.refl w.heap.size _) (Nat.le_refl _))).grow (N := w.heap.size) grow3 (.inl (Nx.refl _ _)) (Nat.le_refl _)
      have N3 : Nx w.heap.size (.slice wa s.ws.length wc) v3 := hat3.imp id (fun k b hb => by rw [k] at hb; have := Option.some.inj hb; have := Aa.size; omega)
      obtain ⟨va3, vc3, hv3⟩ := rowg_slice own3
      subst hv3
      have f4 : y3.cell? ⟨D, 4, none⟩ = some (.slice wa s.ws.length wc) := (World.cell?_of_block e3).trans Ga.c4
      have f5 : y3.frozen? ⟨D, 4, none⟩ = false := (World.frozen?_of_block (a := ⟨D, 4, none⟩) e3).trans (Ga.fz 4 (by omega))
      refine hK.out _ _ (⟨(World.cell?_of_block eN).trans hHeld.1, (World.cell?_of_block e3).trans hHeld.2⟩) (fun hHeld => ?_)
      clear hK K
      refine' wpAnyH_take (i := 13) (v := _) rfl (by kernel_rfl) (by kernel_rfl) (by kernel_rfl) (fun _ _ _ h => h) (Or.inl ⟨by rfl, ?hy26⟩) hHeld ?hn26
      case hy26 => (intro wz hSw; go_simp; first | done | with_reducible rfl)
      try simp only [nrm, Act.put]
      refine' wpAnyH_take (i := 14) (v := _) rfl (by kernel_rfl) (by kernel_rfl) (by kernel_rfl) (fun _ _ _ h => h) (Or.inl ⟨by rfl, ?hy27⟩) hHeld ?hn27
      case hy27 => (intro wz hSw; go_simp; first | done | with_reducible rfl)
      try simp only [nrm, Act.put]
      refine wpAnyH_ready (rs := [15]) (by kernel_rfl) (by simp) ?_
      refine AllReadyH.cons rfl (fun K hK => ?_) AllReadyH.nil
      go_simp
      have K4 := K3.set ⟨D, 4, none⟩ (.slice va3 (s.ws.length + 1) vc3) (.inr rfl)
      have hst4 : ∀ b, b ≠ D → (y3.setCell ⟨D, 4, none⟩ (.slice va3 (s.ws.length + 1) vc3)).heap[b]? = y3.heap[b]? := fun b hb => Below.heap_setCell _ _ _ _ hb
      have hk4 : (y3.setCell ⟨D, 4, none⟩ (.slice va3 (s.ws.length + 1) vc3)).cell? ⟨D, m, none⟩ = y3.cell? ⟨D, m, none⟩ := World.cell?_setCell_other _ _ _ _ (by simp <;> omega)
      generalize (y3.setCell ⟨D, 4, none⟩ (.slice va3 (s.ws.length + 1) vc3)) = y4 at G3 K4 hst4 hk4 ⊢
      refine hK.out _ _ (⟨(World.cell?_of_block (hst4 _ (Ne.symm hND))).trans hHeld.1, hk4.trans hHeld.2⟩) (fun hHeld => ?_)
      clear hK K
      refine wpAnyH_done (by kernel_rfl) ?_ _
      have HG4 : Hid _ := G3
      have HK4 : Hid (Kx (.slice (some ⟨D, 0, none⟩) 0 0) (.slice wa s.ws.length wc) (.slice sa s.ss.length sc) w y4) := K4
      have HN3 : Hid (Nx w.heap.size (.slice wa s.ws.length wc) (.slice va3 (s.ws.length + 1) vc3)) := N3
      clear hHeld G3 K3 K4 N3 own3 grow3 hn3 hat3 e3 eN f4 f5 hst4 hk4 nwa Aa Ga
      go_wp2
      exact bodyPost_ret (v := .tuple #[]) (by simp [results, Tryz.results86, go_sem]) rfl ⟨_, _, _, rfl, by rw [HE.out]; exact HG4.out, HK4.out, HN3.out, Nx.refl _ _⟩
    · go_simp
      obtain ⟨ya, hya⟩ : ∃ y, y = yd.alloc (.cells #[.int .i64 (m : Int), .int .i64 nv] 107) := ⟨_, rfl⟩
      rw [← hya]
      have nwa : ∀ j u, [Value.int .i64 (m : Int), Value.int .i64 nv][j]? = some u → ya.cell? ((⟨yd.heap.size, 0, none⟩ : Addr).add j) = some u := by rw [hya]; exact cells_new2 _ _ _ _ _ rfl
      have Aa : Below yd.heap.size yd ya := by rw [hya]; exact (Below.refl _ _).alloc (Nat.le_refl _) _
      have Ga := Gd.below Aa
      clear hya
      refine hK.out _ _ (⟨cell_later Aa hHeld.1, cell_later Aa hHeld.2⟩) (fun hHeld => ?_)
      clear hK K
      refine wpAnyH_ready (rs := [4]) (by kernel_rfl) (by simp) ?_
      refine AllReadyH.cons rfl (fun K hK => ?_) AllReadyH.nil
      have jr := Ga.c4
      go_simp
      clear jr
      refine hK.out _ _ (hHeld) (fun hHeld => ?_)
      clear hK K
      refine wpAnyH_ready (rs := [12]) (by kernel_rfl) (by simp) ?_
      refine AllReadyH.cons rfl (fun K hK => ?_) AllReadyH.nil
      refine wp_append_at' _ _ _ 48 rfl B 107 i0 _ 2 16 Tryz.underlying48 hi0 hz0 hz1 hz2 rfl (by decide) _ _ _ rfl Ga.ws ⟨yd.heap.size, 0, none⟩ 1 1 [.int .i64 (m : Int), .int .i64 nv] rfl rfl nwa (by simp [Value.oneCell']) (by show s.ws.length + 1 ≤ maxLen; unfold maxLen; omega) (by show (s.ws.length + 1) * 16 ≤ 140737488355328; omega) (by have := Aa.size; omega) ?_
      intro v3 y3 own3 grow3 hn3 hat3
      have G3 := Dg.push (a := ((m : Int), nv)) Ga (Below.refl _ _) own3 grow3 hat3
      have e3 : y3.heap[D]? = ya.heap[D]? := grow3.block D Ga.lt (fun e => Ga.wd e.symm)
      have eN : y3.heap[w.heap.size]? = ya.heap[w.heap.size]? := grow3.block _ (by have := Aa.size; omega) (fun e => by have := HRB.out.1 _ e.symm; omega)
      have K3 : Kx (.slice (some ⟨D, 0, none⟩) 0 0) (.slice wa s.ws.length wc) (.slice sa s.ss.length sc) w y3 := ((HKd.out.trans (Kx.of Aa) (Nx.refl w.heap.size _) (Nx.refl w.heap.size _) (Nat.le_refl _))).grow (N := w.heap.size) grow3 (.inl (Nx.refl _ _)) (Nat.le_refl _)
      have N3 : Nx w.heap.size (.slice wa s.ws.length wc) v3 := hat3.imp id (fun k b hb => by rw [k] at hb; have := Option.some.inj hb; have := Aa.size; omega)
      obtain ⟨va3, vc3, hv3⟩ := rowg_slice own3
      subst hv3
      have f4 : y3.cell? ⟨D, 4, none⟩ = some (.slice wa s.ws.length wc) := (World.cell?_of_block e3).trans Ga.c4
      have f5 : y3.frozen? ⟨D, 4, none⟩ = false := (World.frozen?_of_block (a := ⟨D, 4, none⟩) e3).trans (Ga.fz 4 (by omega))
      refine hK.out _ _ (⟨(World.cell?_of_block eN).trans hHeld.1, (World.cell?_of_block e3).trans hHeld.2⟩) (fun hHeld => ?_)
      clear hK K
      refine' wpAnyH_take (i := 13) (v := _) rfl (by kernel_rfl) (by kernel_rfl) (by kernel_rfl) (fun _ _ _ h => h) (Or.inl ⟨by rfl, ?hy28⟩) hHeld ?hn28
      case hy28 => (intro wz hSw; go_simp; first | done | with_reducible rfl)
      try simp only [nrm, Act.put]
      refine' wpAnyH_take (i := 14) (v := _) rfl (by kernel_rfl) (by kernel_rfl) (by kernel_rfl) (fun _ _ _ h => h) (Or.inl ⟨by rfl, ?hy29⟩) hHeld ?hn29
      case hy29 => (intro wz hSw; go_simp; first | done | with_reducible rfl)
      try simp only [nrm, Act.put]
      refine wpAnyH_ready (rs := [15]) (by kernel_rfl) (by simp) ?_
      refine AllReadyH.cons rfl (fun K hK => ?_) AllReadyH.nil
      go_simp
      have K4 := K3.set ⟨D, 4, none⟩ (.slice va3 (s.ws.length + 1) vc3) (.inr rfl)
      have hst4 : ∀ b, b ≠ D → (y3.setCell ⟨D, 4, none⟩ (.slice va3 (s.ws.length + 1) vc3)).heap[b]? = y3.heap[b]? := fun b hb => Below.heap_setCell _ _ _ _ hb
      have hk4 : (y3.setCell ⟨D, 4, none⟩ (.slice va3 (s.ws.length + 1) vc3)).cell? ⟨D, m, none⟩ = y3.cell? ⟨D, m, none⟩ := World.cell?_setCell_other _ _ _ _ (by simp <;> omega)
      generalize (y3.setCell ⟨D, 4, none⟩ (.slice va3 (s.ws.length + 1) vc3)) = y4 at G3 K4 hst4 hk4 ⊢
      refine hK.out _ _ (⟨(World.cell?_of_block (hst4 _ (Ne.symm hND))).trans hHeld.1, hk4.trans hHeld.2⟩) (fun hHeld => ?_)
      clear hK K
      refine wpAnyH_done (by kernel_rfl) ?_ _
      have HG4 : Hid _ := G3
      have HK4 : Hid (Kx (.slice (some ⟨D, 0, none⟩) 0 0) (.slice wa s.ws.length wc) (.slice sa s.ss.length sc) w y4) := K4
      have HN3 : Hid (Nx w.heap.size (.slice wa s.ws.length wc) (.slice va3 (s.ws.length + 1) vc3)) := N3
      clear hHeld G3 K3 K4 N3 own3 grow3 hn3 hat3 e3 eN f4 f5 hst4 hk4 nwa Aa Ga
      go_wp2
      exact bodyPost_ret (v := .tuple #[]) (by simp [results, Tryz.results86, go_sem]) rfl ⟨_, _, _, rfl, by rw [HE.out]; exact HG4.out, HK4.out, HN3.out, Nx.refl _ _⟩
  · subst hk
    have HE : Hid (st = ⟨s.n, s.ws, s.ss ++ [(ph, s.n[m])]⟩) := (show st = ⟨s.n, s.ws, s.ss ++ [(ph, s.n[m])]⟩ by rw [← HST.out]; simp [stepS, hm])
    generalize s.n[m] = nm at *
    clear HST HD1 HD2
    go_wp2_with fail
    refine wp_region_held (S := (fun wz => wz.cell? ⟨w.heap.size, 5, none⟩ = some (.int .i64 ph) ∧ wz.cell? ⟨D, m, none⟩ = some (.int .i64 nm))) (by kernel_rfl) ?_
    change wpAnyH _ _ _ _ _ _ _ _ (World.drew _)
    have hHeld : (fun wz => wz.cell? ⟨w.heap.size, 5, none⟩ = some (.int .i64 ph) ∧ wz.cell? ⟨D, m, none⟩ = some (.int .i64 nm)) (World.drew w9) := ⟨x5, hnm⟩
    obtain ⟨yd, hyd⟩ : ∃ y, y = World.drew w9 := ⟨_, rfl⟩
    have Gd : Dg B yd D (.slice wa s.ws.length wc) (.slice sa s.ss.length sc) s := by rw [hyd]; exact HGY.out.frame (fun _ _ _ => rfl)
    have HKd : Hid (Kx (.slice (some ⟨D, 0, none⟩) 0 0) (.slice wa s.ws.length wc) (.slice sa s.ss.length sc) w yd) := (show Kx (.slice (some ⟨D, 0, none⟩) 0 0) (.slice wa s.ws.length wc) (.slice sa s.ss.length sc) w yd by rw [hyd]; exact ⟨KY.out.os, KY.out.tape, KY.out.output, KY.out.size, KY.out.block⟩)
    have zd : w.heap.size < yd.heap.size := by rw [hyd]; show w.heap.size < w9.heap.size; omega
    rw [← hyd] at hHeld ⊢
    clear hyd
    refine' wpAnyH_take (i := 0) (v := _) rfl (by kernel_rfl) (by kernel_rfl) (by kernel_rfl) (fun _ _ _ h => h) (Or.inl ⟨by rfl, ?hy30⟩) hHeld ?hn30
    case hy30 => (intro wz hSw; go_simp; first | done | with_reducible rfl)
    try simp only [nrm, Act.put]
    refine' wpAnyH_take (i := 1) (v := _) rfl (by kernel_rfl) (by kernel_rfl) (by kernel_rfl) (fun _ _ _ h => h) (Or.inl ⟨by rfl, ?hy31⟩) hHeld ?hn31
    case hy31 => (intro wz hSw; go_simp; first | done | with_reducible rfl)
    try simp only [nrm, Act.put]
    refine' wpAnyH_take (i := 2) (v := _) rfl (by kernel_rfl) (by kernel_rfl) (by kernel_rfl) (fun _ _ _ h => h) (Or.inl ⟨by rfl, ?hy32⟩) hHeld ?hn32
    case hy32 => (intro wz hSw; go_simp; first | done | with_reducible rfl)
    try simp only [nrm, Act.put]
    refine' wpAnyH_take (i := 3) (v := _) rfl (by kernel_rfl) (by kernel_rfl) (by kernel_rfl) (fun _ _ _ h => h) (Or.inl ⟨by rfl, ?hy33⟩) hHeld ?hn33
    case hy33 => (intro wz hSw; go_simp; first | done | with_reducible rfl)
    try simp only [nrm, Act.put]
    refine' wpAnyH_take (i := 5) (v := _) rfl (by kernel_rfl) (by kernel_rfl) (by kernel_rfl) (fun _ _ _ h => h) (Or.inl ⟨by rfl, ?hy34⟩) hHeld ?hn34
    case hy34 => (intro wz hSw; go_simp; first | done | with_reducible rfl)
    try simp only [nrm, Act.put]
    refine' wpAnyH_take (i := 6) (v := .int .i64 ph) rfl (by kernel_rfl) (by kernel_rfl) (by kernel_rfl) (fun _ _ _ h => h) (Or.inl ⟨by rfl, ?hy35⟩) hHeld ?hn35
    case hy35 => (intro wz hSw; obtain ⟨j0, j1⟩ := hSw; go_simp)
    try simp only [nrm, Act.put]
    refine' wpAnyH_take (i := 7) (v := _) rfl (by kernel_rfl) (by kernel_rfl) (by kernel_rfl) (fun _ _ _ h => h) (Or.inl ⟨by rfl, ?hy36⟩) hHeld ?hn36
    case hy36 => (intro wz hSw; go_simp; first | done | with_reducible rfl)
    try simp only [nrm, Act.put]
    refine' wpAnyH_take (i := 8) (v := _) rfl (by kernel_rfl) (by kernel_rfl) (by kernel_rfl) (fun _ _ _ h => h) (Or.inl ⟨by rfl, ?hy37⟩) hHeld ?hn37
    case hy37 => (intro wz hSw; go_simp; first | done | with_reducible rfl)
    try simp only [nrm, Act.put]
    refine' wpAnyH_take (i := 9) (v := .int .i64 nm) rfl (by kernel_rfl) (by kernel_rfl) (by kernel_rfl) (fun _ _ _ h => h) (Or.inl ⟨by rfl, ?hy38⟩) hHeld ?hn38
    case hy38 => (intro wz hSw; obtain ⟨j0, j1⟩ := hSw; go_simp)
    try simp only [nrm, Act.put]
    refine' wpAnyH_take (i := 10) (v := _) rfl (by kernel_rfl) (by kernel_rfl) (by kernel_rfl) (fun _ _ _ h => h) (Or.inl ⟨by rfl, ?hy39⟩) hHeld ?hn39
    case hy39 => (intro wz hSw; go_simp; first | done | with_reducible rfl)
    try simp only [nrm, Act.put]
    refine wpAnyH_ready (rs := [4, 11]) (by kernel_rfl) (by simp) ?_
    refine AllReadyH.cons rfl (fun K hK => ?_) (AllReadyH.cons rfl (fun K hK => ?_) AllReadyH.nil)
    · have jr := Gd.c5
      go_simp
      clear jr
      refine hK.out _ _ (hHeld) (fun hHeld => ?_)
      clear hK K
      refine wpAnyH_ready (rs := [11]) (by kernel_rfl) (by simp) ?_
      refine AllReadyH.cons rfl (fun K hK => ?_) AllReadyH.nil
      go_simp
      obtain ⟨ya, hya⟩ : ∃ y, y = yd.alloc (.cells #[.int .i64 ph, .int .i64 nm] 93) := ⟨_, rfl⟩
      rw [← hya]
      have nwa : ∀ j u, [Value.int .i64 ph, Value.int .i64 nm][j]? = some u → ya.cell? ((⟨yd.heap.size, 0, none⟩ : Addr).add j) = some u := by rw [hya]; exact cells_new2 _ _ _ _ _ rfl
      have Aa : Below yd.heap.size yd ya := by rw [hya]; exact (Below.refl _ _).alloc (Nat.le_refl _) _
      have Ga := Gd.below Aa
      clear hya
      refine hK.out _ _ (⟨cell_later Aa hHeld.1, cell_later Aa hHeld.2⟩) (fun hHeld => ?_)
      clear hK K
      refine wpAnyH_ready (rs := [12]) (by kernel_rfl) (by simp) ?_
      refine AllReadyH.cons rfl (fun K hK => ?_) AllReadyH.nil
      refine wp_append_at' _ _ _ 49 rfl B 93 i1 _ 2 16 Tryz.underlying49 hj0 hy0 hy1 hy2 rfl (by decide) _ _ _ rfl Ga.ss ⟨yd.heap.size, 0, none⟩ 1 1 [.int .i64 ph, .int .i64 nm] rfl rfl nwa (by simp [Value.oneCell']) (by show s.ss.length + 1 ≤ maxLen; unfold maxLen; omega) (by show (s.ss.length + 1) * 16 ≤ 140737488355328; omega) (by have := Aa.size; omega) ?_
      intro v3 y3 own3 grow3 hn3 hat3
      have G3 := Dg.tell (a := (ph, nm)) Ga (Below.refl _ _) own3 grow3 hat3
      have e3 : y3.heap[D]? = ya.heap[D]? := grow3.block D Ga.lt (fun e => Ga.sd e.symm)
      have eN : y3.heap[w.heap.size]? = ya.heap[w.heap.size]? := grow3.block _ (by have := Aa.size; omega) (fun e => by have := HRB.out.2 _ e.symm; omega)
      have K3 : Kx (.slice (some ⟨D, 0, none⟩) 0 0) (.slice wa s.ws.length wc) (.slice sa s.ss.length sc) w y3 := ((HKd.out.trans (Kx.of Aa) (Nx.refl w.heap.size _) (Nx.refl w.heap.size _) (Nat.le_refl _))).grow (N := w.heap.size) grow3 (.inr (Nx.refl _ _)) (Nat.le_refl _)
      have N3 : Nx w.heap.size (.slice sa s.ss.length sc) v3 := hat3.imp id (fun k b hb => by rw [k] at hb; have := Option.some.inj hb; have := Aa.size; omega)
      obtain ⟨va3, vc3, hv3⟩ := rowg_slice own3
      subst hv3
      have f4 : y3.cell? ⟨D, 5, none⟩ = some (.slice sa s.ss.length sc) := (World.cell?_of_block e3).trans Ga.c5
      have f5 : y3.frozen? ⟨D, 5, none⟩ = false := (World.frozen?_of_block (a := ⟨D, 5, none⟩) e3).trans (Ga.fz 5 (by omega))
      refine hK.out _ _ (⟨(World.cell?_of_block eN).trans hHeld.1, (World.cell?_of_block e3).trans hHeld.2⟩) (fun hHeld => ?_)
      clear hK K
      refine' wpAnyH_take (i := 13) (v := _) rfl (by kernel_rfl) (by kernel_rfl) (by kernel_rfl) (fun _ _ _ h => h) (Or.inl ⟨by rfl, ?hy40⟩) hHeld ?hn40
      case hy40 => (intro wz hSw; go_simp; first | done | with_reducible rfl)
      try simp only [nrm, Act.put]
      refine' wpAnyH_take (i := 14) (v := _) rfl (by kernel_rfl) (by kernel_rfl) (by kernel_rfl) (fun _ _ _ h => h) (Or.inl ⟨by rfl, ?hy41⟩) hHeld ?hn41
      case hy41 => (intro wz hSw; go_simp; first | done | with_reducible rfl)
      try simp only [nrm, Act.put]
      refine wpAnyH_ready (rs := [15]) (by kernel_rfl) (by simp) ?_
      refine AllReadyH.cons rfl (fun K hK => ?_) AllReadyH.nil
      go_simp
      have K4 := K3.set ⟨D, 5, none⟩ (.slice va3 (s.ss.length + 1) vc3) (.inr rfl)
      have hst4 : ∀ b, b ≠ D → (y3.setCell ⟨D, 5, none⟩ (.slice va3 (s.ss.length + 1) vc3)).heap[b]? = y3.heap[b]? := fun b hb => Below.heap_setCell _ _ _ _ hb
      have hk4 : (y3.setCell ⟨D, 5, none⟩ (.slice va3 (s.ss.length + 1) vc3)).cell? ⟨D, m, none⟩ = y3.cell? ⟨D, m, none⟩ := World.cell?_setCell_other _ _ _ _ (by simp <;> omega)
      generalize (y3.setCell ⟨D, 5, none⟩ (.slice va3 (s.ss.length + 1) vc3)) = y4 at G3 K4 hst4 hk4 ⊢
      refine hK.out _ _ (⟨(World.cell?_of_block (hst4 _ (Ne.symm hND))).trans hHeld.1, hk4.trans hHeld.2⟩) (fun hHeld => ?_)
      clear hK K
      refine wpAnyH_done (by kernel_rfl) ?_ _
      have HG4 : Hid _ := G3
      have HK4 : Hid (Kx (.slice (some ⟨D, 0, none⟩) 0 0) (.slice wa s.ws.length wc) (.slice sa s.ss.length sc) w y4) := K4
      have HN3 : Hid (Nx w.heap.size (.slice sa s.ss.length sc) (.slice va3 (s.ss.length + 1) vc3)) := N3
      clear hHeld G3 K3 K4 N3 own3 grow3 hn3 hat3 e3 eN f4 f5 hst4 hk4 nwa Aa Ga
      go_wp2
      exact bodyPost_ret (v := .tuple #[]) (by simp [results, Tryz.results86, go_sem]) rfl ⟨_, _, _, rfl, by rw [HE.out]; exact HG4.out, HK4.out, Nx.refl _ _, HN3.out⟩
    · go_simp
      obtain ⟨ya, hya⟩ : ∃ y, y = yd.alloc (.cells #[.int .i64 ph, .int .i64 nm] 93) := ⟨_, rfl⟩
      rw [← hya]
      have nwa : ∀ j u, [Value.int .i64 ph, Value.int .i64 nm][j]? = some u → ya.cell? ((⟨yd.heap.size, 0, none⟩ : Addr).add j) = some u := by rw [hya]; exact cells_new2 _ _ _ _ _ rfl
      have Aa : Below yd.heap.size yd ya := by rw [hya]; exact (Below.refl _ _).alloc (Nat.le_refl _) _
      have Ga := Gd.below Aa
      clear hya
      refine hK.out _ _ (⟨cell_later Aa hHeld.1, cell_later Aa hHeld.2⟩) (fun hHeld => ?_)
      clear hK K
      refine wpAnyH_ready (rs := [4]) (by kernel_rfl) (by simp) ?_
      refine AllReadyH.cons rfl (fun K hK => ?_) AllReadyH.nil
      have jr := Ga.c5
      go_simp
      clear jr
      refine hK.out _ _ (hHeld) (fun hHeld => ?_)
      clear hK K
      refine wpAnyH_ready (rs := [12]) (by kernel_rfl) (by simp) ?_
      refine AllReadyH.cons rfl (fun K hK => ?_) AllReadyH.nil
      refine wp_append_at' _ _ _ 49 rfl B 93 i1 _ 2 16 Tryz.underlying49 hj0 hy0 hy1 hy2 rfl (by decide) _ _ _ rfl Ga.ss ⟨yd.heap.size, 0, none⟩ 1 1 [.int .i64 ph, .int .i64 nm] rfl rfl nwa (by simp [Value.oneCell']) (by show s.ss.length + 1 ≤ maxLen; unfold maxLen; omega) (by show (s.ss.length + 1) * 16 ≤ 140737488355328; omega) (by have := Aa.size; omega) ?_
      intro v3 y3 own3 grow3 hn3 hat3
      have G3 := Dg.tell (a := (ph, nm)) Ga (Below.refl _ _) own3 grow3 hat3
      have e3 : y3.heap[D]? = ya.heap[D]? := grow3.block D Ga.lt (fun e => Ga.sd e.symm)
      have eN : y3.heap[w.heap.size]? = ya.heap[w.heap.size]? := grow3.block _ (by have := Aa.size; omega) (fun e => by have := HRB.out.2 _ e.symm; omega)
      have K3 : Kx (.slice (some ⟨D, 0, none⟩) 0 0) (.slice wa s.ws.length wc) (.slice sa s.ss.length sc) w y3 := ((HKd.out.trans (Kx.of Aa) (Nx.refl w.heap.size _) (Nx.refl w.heap.size _) (Nat.le_refl _))).grow (N := w.heap.size) grow3 (.inr (Nx.refl _ _)) (Nat.le_refl _)
      have N3 : Nx w.heap.size (.slice sa s.ss.length sc) v3 := hat3.imp id (fun k b hb => by rw [k] at hb; have := Option.some.inj hb; have := Aa.size; omega)
      obtain ⟨va3, vc3, hv3⟩ := rowg_slice own3
      subst hv3
      have f4 : y3.cell? ⟨D, 5, none⟩ = some (.slice sa s.ss.length sc) := (World.cell?_of_block e3).trans Ga.c5
      have f5 : y3.frozen? ⟨D, 5, none⟩ = false := (World.frozen?_of_block (a := ⟨D, 5, none⟩) e3).trans (Ga.fz 5 (by omega))
      refine hK.out _ _ (⟨(World.cell?_of_block eN).trans hHeld.1, (World.cell?_of_block e3).trans hHeld.2⟩) (fun hHeld => ?_)
      clear hK K
      refine' wpAnyH_take (i := 13) (v := _) rfl (by kernel_rfl) (by kernel_rfl) (by kernel_rfl) (fun _ _ _ h => h) (Or.inl ⟨by rfl, ?hy42⟩) hHeld ?hn42
      case hy42 => (intro wz hSw; go_simp; first | done | with_reducible rfl)
      try simp only [nrm, Act.put]
      refine' wpAnyH_take (i := 14) (v := _) rfl (by kernel_rfl) (by kernel_rfl) (by kernel_rfl) (fun _ _ _ h => h) (Or.inl ⟨by rfl, ?hy43⟩) hHeld ?hn43
      case hy43 => (intro wz hSw; go_simp; first | done | with_reducible rfl)
      try simp only [nrm, Act.put]
      refine wpAnyH_ready (rs := [15]) (by kernel_rfl) (by simp) ?_
      refine AllReadyH.cons rfl (fun K hK => ?_) AllReadyH.nil
      go_simp
      have K4 := K3.set ⟨D, 5, none⟩ (.slice va3 (s.ss.length + 1) vc3) (.inr rfl)
      have hst4 : ∀ b, b ≠ D → (y3.setCell ⟨D, 5, none⟩ (.slice va3 (s.ss.length + 1) vc3)).heap[b]? = y3.heap[b]? := fun b hb => Below.heap_setCell _ _ _ _ hb
      have hk4 : (y3.setCell ⟨D, 5, none⟩ (.slice va3 (s.ss.length + 1) vc3)).cell? ⟨D, m, none⟩ = y3.cell? ⟨D, m, none⟩ := World.cell?_setCell_other _ _ _ _ (by simp <;> omega)
      generalize (y3.setCell ⟨D, 5, none⟩ (.slice va3 (s.ss.length + 1) vc3)) = y4 at G3 K4 hst4 hk4 ⊢
      refine hK.out _ _ (⟨(World.cell?_of_block (hst4 _ (Ne.symm hND))).trans hHeld.1, hk4.trans hHeld.2⟩) (fun hHeld => ?_)
      clear hK K
      refine wpAnyH_done (by kernel_rfl) ?_ _
      have HG4 : Hid _ := G3
      have HK4 : Hid (Kx (.slice (some ⟨D, 0, none⟩) 0 0) (.slice wa s.ws.length wc) (.slice sa s.ss.length sc) w y4) := K4
      have HN3 : Hid (Nx w.heap.size (.slice sa s.ss.length sc) (.slice va3 (s.ss.length + 1) vc3)) := N3
      clear hHeld G3 K3 K4 N3 own3 grow3 hn3 hat3 e3 eN f4 f5 hst4 hk4 nwa Aa Ga
      go_wp2
      exact bodyPost_ret (v := .tuple #[]) (by simp [results, Tryz.results86, go_sem]) rfl ⟨_, _, _, rfl, by rw [HE.out]; exact HG4.out, HK4.out, Nx.refl _ _, HN3.out⟩
  · subst hk
    by_cases hn : s.n[m] = 0
    · have HE : Hid (st = doT d T2 s) := (show st = doT d T2 s by rw [← HST.out]; simp [stepS, hm, hn])
      rw [hn] at hnm hgx
      have CD : Hid _ := HD2.out w9 HY.out HGY.out
      clear HST HD1 HD2
      go_wp2_with fail
      go_at_call 71; refine Calls.mono CD.out ?_
      rintro e y1 ⟨rr, wv', sv', rfl, g1, k1, n1, n2⟩
      have HF : Hid (Dg B y1 D wv' sv' (doT d T2 s) ∧ Kx (.slice (some ⟨D, 0, none⟩) 0 0) (.slice wa s.ws.length wc) (.slice sa s.ss.length sc) w y1 ∧ Nx w.heap.size (.slice wa s.ws.length wc) wv' ∧ Nx w.heap.size (.slice sa s.ss.length sc) sv') := ⟨g1, KY.out.trans k1 (Nx.refl w.heap.size _) (Nx.refl w.heap.size _) (Nat.le_refl _), n1.mono (by omega), n2.mono (by omega)⟩
      clear g1 k1 n1 n2 CD hnm fnm x0 x1 x2 x3 x4 x5 x6 x7
      go_wp2
      exact bodyPost_ret (v := .tuple #[]) (by simp [results, Tryz.results86, go_sem]) rfl ⟨_, wv', sv', rfl, by rw [HE.out]; exact HF.out.1, HF.out.2.1, HF.out.2.2.1, HF.out.2.2.2⟩
    · have HE : Hid (st = doT d T1 s) := (show st = doT d T1 s by rw [← HST.out]; simp [stepS, hm, hn])
      have CD : Hid _ := HD1.out w9 HY.out HGY.out
      generalize s.n[m] = nm at *
      clear HST HD1 HD2
      go_wp2_with fail
      go_at_call 71; refine Calls.mono CD.out ?_
      rintro e y1 ⟨rr, wv', sv', rfl, g1, k1, n1, n2⟩
      have HF : Hid (Dg B y1 D wv' sv' (doT d T1 s) ∧ Kx (.slice (some ⟨D, 0, none⟩) 0 0) (.slice wa s.ws.length wc) (.slice sa s.ss.length sc) w y1 ∧ Nx w.heap.size (.slice wa s.ws.length wc) wv' ∧ Nx w.heap.size (.slice sa s.ss.length sc) sv') := ⟨g1, KY.out.trans k1 (Nx.refl w.heap.size _) (Nx.refl w.heap.size _) (Nat.le_refl _), n1.mono (by omega), n2.mono (by omega)⟩
      clear g1 k1 n1 n2 CD hnm fnm x0 x1 x2 x3 x4 x5 x6 x7
      go_wp2
      exact bodyPost_ret (v := .tuple #[]) (by simp [results, Tryz.results86, go_sem]) rfl ⟨_, wv', sv', rfl, by rw [HE.out]; exact HF.out.1, HF.out.2.1, HF.out.2.2.1, HF.out.2.2.2⟩

end Go.Proofs.YthcgdhlemieboaaGreat

namespace Go.Proofs.YthcgdhlemieboaaGreat
open Go.RowKit
set_option linter.unusedSimpArgs false
set_option linter.unusedVariables false
attribute [local go_sem] World.cell?_alloc_some

set_option maxHeartbeats 8000000 in
set_option maxRecDepth 20000 in
theorem do_any (W : World) (B D : Nat) (hWB : W.heap.size ≤ B) (hWD : W.heap.size ≤ D) : ∀ (d : Nat) (T : Tr d) (deep : Int) (tv wv sv : Value) (s : RSt) (w : World), Rep W d tv T → Below W.heap.size W w → B ≤ w.heap.size → stB s.n.length d deep T = true → s.n.length ≤ 4 → tenB s.n = true → s.ws.length + cnt d T ≤ 1048576 → s.ss.length + cnt d T ≤ 1048576 → Dg B w D wv sv s →
    Calls Tryz.prog 71 #[.pointer (some ⟨D, 0, none⟩), tv] w (DoPost B w D wv sv (doT d T s)) := by
  intro d
  induction d with
  | zero =>
    intro T deep tv wv sv s w h hb hB hst hl4 ht hc1 hc2 hG
    obtain ⟨a, c, rfl⟩ := h
    have HG : Hid (Dg B w D wv sv s) := hG
    clear hG
    go_enter Tryz.func71, Tryz.ntmps71
    go_wp2
    refine wp_loop_rounds 1 ?_
    rw [rounds_succ]
    go_wp2
    exact bodyPost_ret (v := .tuple #[]) (by simp [results, Tryz.results71, go_sem]) rfl ⟨_, wv, sv, rfl, HG.out, Kx.of (Below.refl _ _), Nx.refl _ _, Nx.refl _ _⟩
  | succ d ih =>
    intro (l : List (Pay × Tr d × Tr d)) deep tv wv sv s w h hb hB hst hl4 ht hc1 hc2 hG
    obtain ⟨a, c, rfl, hlc, hcm, hcell⟩ := h
    have hlm : (l.length : Int) ≤ 9223372036854775807 := by unfold maxLen at hcm; omega
    have HC : Hid (∀ i (hi : i < l.length), ∃ (p : Pay) (T1 T2 : Tr d) (b off : Nat) (ta : Option Addr) (tc : Nat) (ea : Option Addr) (ec : Nat), l[i] = (p, T1, T2) ∧ a = some ⟨b, off, none⟩ ∧ StepAt W b (off + i * 8) p (.slice ta (ln d T1) tc) (.slice ea (ln d T2) ec) ∧ Rep W d (.slice ta (ln d T1) tc) T1 ∧ Rep W d (.slice ea (ln d T2) ec) T2) := (show ∀ i (hi : i < l.length), _ by
      intro i hi
      obtain ⟨b, off, t, e, ha, hS, r1, r2⟩ := hcell i hi
      obtain ⟨ta, tc, rfl⟩ := r1.slice
      obtain ⟨ea, ec, rfl⟩ := r2.slice
      exact ⟨_, _, _, b, off, ta, tc, ea, ec, rfl, ha, hS, r1, r2⟩)
    have HL : Hid (∀ i (hi : i < l.length), payB s.n.length l[i].1 (decide (ln d l[i].2.1 + ln d l[i].2.2 = 0)) = true ∧ stB s.n.length d (deep - 1) l[i].2.1 = true ∧ stB s.n.length d (deep - 1) l[i].2.2 = true ∧ stB s.n.length (d + 1) deep (l.take i : List (Pay × Tr d × Tr d)) = true) := (show ∀ i (hi : i < l.length), _ by
      intro i hi
      have hs' : (l.all fun x => decide (1 ≤ deep) && payB s.n.length x.1 (decide (ln d x.2.1 + ln d x.2.2 = 0)) && (stB s.n.length d (deep - 1) x.2.1 && stB s.n.length d (deep - 1) x.2.2)) = true := hst
      have hx := List.all_eq_true.1 hs' l[i] (List.getElem_mem hi)
      simp only [Bool.and_eq_true_iff] at hx
      refine ⟨hx.1.2, hx.2.1, hx.2.2, ?_⟩
      show List.all (l.take i) _ = true
      exact List.all_eq_true.2 fun y hy => List.all_eq_true.1 hs' y (List.mem_of_mem_take hy))
    have HOK : Hid (∀ i, i ≤ l.length → stB s.n.length (d + 1) deep (l.take i : List (Pay × Tr d × Tr d)) = true → (doT (d + 1) (l.take i : List (Pay × Tr d × Tr d)) s).n.length = s.n.length ∧ tenB (doT (d + 1) (l.take i : List (Pay × Tr d × Tr d)) s).n = true ∧ (doT (d + 1) (l.take i : List (Pay × Tr d × Tr d)) s).ws.length ≤ s.ws.length + cnt (d + 1) (l.take i : List (Pay × Tr d × Tr d)) ∧ (doT (d + 1) (l.take i : List (Pay × Tr d × Tr d)) s).ss.length ≤ s.ss.length + cnt (d + 1) (l.take i : List (Pay × Tr d × Tr d))) := (show ∀ i, i ≤ l.length → _ from fun i _ h => doT_ok (d + 1) _ s.n.length deep s h rfl ht)
    have IH : Hid _ := ih
    have HBW : Hid (Below W.heap.size W w) := hb
    have hWs : W.heap.size ≤ w.heap.size := hb.size
    have HG0 : Hid (Dg B w D wv sv s) := hG
    have HRB : Hid ((∀ b, wv.ownBlock = some b → B ≤ b) ∧ (∀ b, sv.ownBlock = some b → B ≤ b)) := ⟨fun b e => (World.ownsRow.lt hG.ws b e).1, fun b e => (World.ownsRow.lt hG.ss b e).1⟩
    clear ih hcell hb hst hG
    go_enter Tryz.func71, Tryz.ntmps71
    go_wp2
    go_loopw [8] (fun j wr => ∃ (i : Nat) (wv' sv' : Value), i ≤ l.length ∧ j = .int .i64 i ∧ Dg B wr D wv' sv' (doT (d + 1) (l.take i : List (Pay × Tr d × Tr d)) s) ∧ Kx (.slice (some ⟨D, 0, none⟩) 0 0) wv sv w wr ∧ Nx w.heap.size wv wv' ∧ Nx w.heap.size sv sv') (fun j _ => l.length - (intOf j).toNat)
    case atStart => exact ⟨0, _, _, by omega, rfl, HG0.out, Kx.of (Below.refl _ _), Nx.refl _ _, Nx.refl _ _⟩
    case round =>
      clear HG0
      obtain ⟨i, wv', sv', hi, rfl, hG, hK, hN1, hN2⟩ := hrel
      by_cases hlt : i < l.length
      · obtain ⟨p, T1, T2, b, off, ta, tc, ea, ec, hx, rfl, hS, r1, r2⟩ := HC.out i hlt
        obtain ⟨hp, hs1, hs2, hst⟩ := HL.out i hlt
        obtain ⟨o1, o2, o3, o4⟩ := HOK.out i hi hst
        have q1 := cnt_take l i hlt
        have q2 := cnt_take_le l (i + 1)
        have q3 := doT_take l i hlt s
        rw [hx] at hp hs1 hs2 q1 q3
        dsimp only at hp hs1 hs2 q1
        obtain ⟨si, hsi⟩ : ∃ x, doT (d + 1) (l.take i : List (Pay × Tr d × Tr d)) s = x := ⟨_, rfl⟩
        rw [hsi] at hG o1 o2 o3 o4 q3
        clear hsi hst
        have BW : Below W.heap.size W wr := HBW.out.trans ((hK.below (B := W.heap.size) (fun k e => by have : D = k := Option.some.inj e; omega) (fun k e => by have := HRB.out.1 k e; omega) (fun k e => by have := HRB.out.2 k e; omega) hWs))
        have zr : w.heap.size ≤ wr.heap.size := hK.size
        obtain ⟨k0, k1, k2, k3, k4, k5, k6, k7⟩ := hS.on (w' := wr) (fun a v h => cell_later BW h)
        have i0' : (0 : Int) ≤ (i : Int) := by omega
        have i1' : (i : Int) < (l.length : Int) := by omega
        have A1 : Below wr.heap.size wr (wr.alloc (.cells #[.int .i64 p.k, .int .i64 p.v, .int .i64 p.vk, .int .i64 p.va, .int .i64 p.vb, .int .i64 p.h, .slice ta (ln d T1) tc, .slice ea (ln d T2) ec] 66)) := (Below.refl _ _).alloc (Nat.le_refl _) _
        have C1 : Hid _ := doOne_of (B := B) (D := D) (d := d) (T1 := T1) (T2 := T2) p (ta := ta) (ea := ea) (tc := tc) (ec := ec) (by have := A1.size; omega) (hG.below A1) (by omega) o2 (by rw [o1]; exact hp) (by omega) (by omega)
          (fun w' hb' hG' => IH.out T1 (deep - 1) _ _ _ si w' r1 (Below.then BW (Below.then A1 hb' A1.size) BW.size) (by have := A1.size; have := hb'.size; omega) (by rw [o1]; exact hs1) (by omega) o2 (by omega) (by omega) hG')
          (fun w' hb' hG' => IH.out T2 (deep - 1) _ _ _ si w' r2 (Below.then BW (Below.then A1 hb' A1.size) BW.size) (by have := A1.size; have := hb'.size; omega) (by rw [o1]; exact hs2) (by omega) o2 (by omega) (by omega) hG')
        have HK : Hid (Kx (.slice (some ⟨D, 0, none⟩) 0 0) wv sv w (wr.alloc (.cells #[.int .i64 p.k, .int .i64 p.v, .int .i64 p.vk, .int .i64 p.va, .int .i64 p.vb, .int .i64 p.h, .slice ta (ln d T1) tc, .slice ea (ln d T2) ec] 66))) := hK.trans (Kx.of A1) hN1 hN2 (Nat.le_refl _)
        have HN1 : Hid (Nx w.heap.size wv wv') := hN1
        have HN2 : Hid (Nx w.heap.size sv sv') := hN2
        have HQ3 : Hid _ := q3
        have zA : wr.heap.size ≤ (wr.alloc (.cells #[.int .i64 p.k, .int .i64 p.v, .int .i64 p.vk, .int .i64 p.va, .int .i64 p.vb, .int .i64 p.h, .slice ta (ln d T1) tc, .slice ea (ln d T2) ec] 66)).heap.size := A1.size
        have HZA : Hid _ := zA
        clear hG hK hN1 hN2 hS r1 r2 BW A1 q1 q2 q3 zA
        go_wp2_with fail
        go_at_call 86; refine Calls.mono C1.out ?_
        rintro e w2 ⟨rr, wv2, sv2, rfl, g2, kx2, n1, n2⟩
        have HF : Hid (Dg B w2 D wv2 sv2 (doT (d + 1) (l.take (i + 1) : List (Pay × Tr d × Tr d)) s) ∧ Kx (.slice (some ⟨D, 0, none⟩) 0 0) wv sv w w2 ∧ Nx w.heap.size wv wv2 ∧ Nx w.heap.size sv sv2) := ⟨by rw [HQ3.out]; exact g2, HK.out.trans kx2 HN1.out HN2.out (Nat.le_refl _), HN1.out.trans n1 (by have := HZA.out; omega), HN2.out.trans n2 (by have := HZA.out; omega)⟩
        clear g2 kx2 n1 n2 C1 HK HN1 HN2 k0 k1 k2 k3 k4 k5 k6 k7
        go_wp2
        exact ⟨⟨i + 1, wv2, sv2, by omega, by simp, HF.out.1, HF.out.2.1, HF.out.2.2.1, HF.out.2.2.2⟩, by simp [intOf]; omega⟩
      · have : i = l.length := by omega
        subst this
        rw [List.take_length] at hG
        have HF : Hid (Dg B wr D wv' sv' (doT (d + 1) (l : List (Pay × Tr d × Tr d)) s) ∧ Kx (.slice (some ⟨D, 0, none⟩) 0 0) wv sv w wr ∧ Nx w.heap.size wv wv' ∧ Nx w.heap.size sv sv') := ⟨hG, hK, hN1, hN2⟩
        clear hG hK hN1 hN2
        go_wp2
        exact bodyPost_ret (v := .tuple #[]) (by simp [results, Tryz.results71, go_sem]) rfl ⟨_, wv', sv', rfl, HF.out.1, HF.out.2.1, HF.out.2.2.1, HF.out.2.2.2⟩

end Go.Proofs.YthcgdhlemieboaaGreat

namespace Go.Proofs.YthcgdhlemieboaaGreat
open Go.RowKit
set_option linter.unusedSimpArgs false
set_option linter.unusedVariables false
attribute [local go_sem] World.cell?_alloc_some

theorem infoSz : (Tryz.prog.info? 3).map (·.size) = some 1 := by kernel_rfl
theorem below_setCellsR {B D : Nat} {w : World} (hD : B ≤ D) : ∀ (vs : List Value) (o : Nat) (x : World), Below B w x → Below B w (x.setCells D o vs)
  | [], _, _, h => h
  | v :: vs, o, x, h => below_setCellsR hD vs (o + 1) _ (h.setCell (by exact hD) _)
theorem Dg.begin {B : Nat} {x : World} {zs : List Int} (hl : zs.length ≤ 4) : Dg B ((x.alloc (.cells #[.int .i64 0, .int .i64 0, .int .i64 0, .int .i64 0, .slice none 0 0, .slice none 0 0] 114)).setCells x.heap.size 0 (zs.map (Value.int .i64))) x.heap.size (.slice none 0 0) (.slice none 0 0) ⟨zs, [], []⟩ := by
  have hX : ∀ i, i < 4 → (x.alloc (.cells #[.int .i64 0, .int .i64 0, .int .i64 0, .int .i64 0, .slice none 0 0, .slice none 0 0] 114)).cell? ⟨x.heap.size, i, none⟩ = some (.int .i64 0) := by
    intro i hi
    have : i = 0 ∨ i = 1 ∨ i = 2 ∨ i = 3 := by omega
    rcases this with rfl | rfl | rfl | rfl <;> simp
  refine ⟨fun i hi => ?_, ?_, ?_, fun i hi => ?_, World.ownsRow_nil _ _ _ _, World.ownsRow_nil _ _ _ _, fun b e => (by cases e), (by intro e; cases e), (by intro e; cases e)⟩
  · by_cases h : i < zs.length
    · have := World.cell?_setCells_in x.heap.size (zs.map (Value.int .i64)) 0 (x.alloc (.cells #[.int .i64 0, .int .i64 0, .int .i64 0, .int .i64 0, .slice none 0 0, .slice none 0 0] 114)) (fun j hj => by rw [Nat.zero_add, hX j (by simp at hj; omega)]; rfl) i (by simpa using h)
      rw [Nat.zero_add] at this
      rw [this]; simp [h]
    · rw [World.cell?_setCells_out _ _ _ _ _ (fun _ _ => .inr (by simp; omega)), hX i hi]; simp [h]
  · rw [World.cell?_setCells_out _ _ _ _ _ (fun _ _ => .inr (by simp; omega))]; simp
  · rw [World.cell?_setCells_out _ _ _ _ _ (fun _ _ => .inr (by simp; omega))]; simp
  · rw [World.frozen?_setCells]; simp

set_option maxHeartbeats 8000000 in
set_option maxRecDepth 20000 in
theorem runOf_any {d : Nat} {T : Tr d} {lv sv nv : Value} {ls : List (Int × Int)} {zs : List Int} {w : World} (hL : LRep w lv ls) (hR : Rep w d sv T) (hN : GRep (Value.int .i64) w nv zs) :
    Calls Tryz.prog 50 #[.agg #[lv, sv], nv] w fun e w' => ∃ a b c, e = .returned (.tuple #[.agg #[a, b, c], .bool (numsB ls d T zs)]) ∧ Below w.heap.size w w' ∧ R3 w.heap.size w' a b c (runS ls d T zs) := by
  obtain ⟨i2, hk0, hx0, hx1, hx2⟩ := info_parts infoInt
  have A : Below w.heap.size w ((w.alloc (.cells #[lv, sv] 26)).alloc (.cells #[.slice none 0 0, .slice none 0 0, .slice none 0 0] 51)) := ((Below.refl _ _).alloc (Nat.le_refl _) _).alloc (by simp) _
  have C1 : Hid _ := numsOk_any (hL.below A) (hR.below A) (hN.below A)
  have HR : Hid (Rep w d sv T) := hR
  obtain ⟨la, lc, rfl, -⟩ := hL
  obtain ⟨sa, sc, rfl⟩ := hR.slice
  obtain ⟨na, nc, rfl, hnl, hnm, hncell⟩ := hN
  have HNC : Hid _ := hncell
  have x0 : ((w.alloc (.cells #[.slice la ls.length lc, .slice sa (ln d T) sc] 26)).alloc (.cells #[.slice none 0 0, .slice none 0 0, .slice none 0 0] 51)).cell? ⟨w.heap.size, 1, none⟩ = some (.slice sa (ln d T) sc) := by go_simp
  have G : C3 ((w.alloc (.cells #[.slice la ls.length lc, .slice sa (ln d T) sc] 26)).alloc (.cells #[.slice none 0 0, .slice none 0 0, .slice none 0 0] 51)) (w.heap.size + 1) (.slice none 0 0) (.slice none 0 0) (.slice none 0 0) := by
    have := C3.new (w.alloc (.cells #[.slice la ls.length lc, .slice sa (ln d T) sc] 26)) (.slice none 0 0) (.slice none 0 0) (.slice none 0 0) 51
    simpa using this
  have HG : Hid _ := G
  have HX : Hid _ := x0
  have HA : Hid (Below w.heap.size w ((w.alloc (.cells #[.slice la ls.length lc, .slice sa (ln d T) sc] 26)).alloc (.cells #[.slice none 0 0, .slice none 0 0, .slice none 0 0] 51))) := A
  have z0 : ((w.alloc (.cells #[.slice la ls.length lc, .slice sa (ln d T) sc] 26)).alloc (.cells #[.slice none 0 0, .slice none 0 0, .slice none 0 0] 51)).heap.size = w.heap.size + 2 := by simp
  have HZ0 : Hid _ := z0
  clear hR G x0 hncell A z0
  have HRS : Hid (runS ls d T zs = if numsB ls d T zs = true then doT d T ⟨zs, [], []⟩ else ⟨[], [], []⟩) := rfl
  have HNB : Hid (numsB ls d T zs = (progB ls d T && (decide (zs.length = ls.length) && tenB zs))) := rfl
  generalize numsB ls d T zs = nb at C1 HRS HNB ⊢
  generalize hrs : runS ls d T zs = rs at HRS ⊢
  clear hrs
  go_enter Tryz.func50, Tryz.ntmps50
  go_wp2_with fail
  go_at_call 70; refine Calls.mono C1.out ?_; rintro e w1 ⟨rfl, hb1⟩
  have HB1 : Hid (Below w.heap.size w w1) := Below.then HA.out hb1 HA.out.size
  have z1 : w.heap.size + 2 ≤ w1.heap.size := by have := hb1.size; have := HZ0.out; omega
  have G1 := C3.below HG.out hb1
  have HG1 : Hid (C3 w1 (w.heap.size + 1) (.slice none 0 0) (.slice none 0 0) (.slice none 0 0)) := G1
  have x1 := cell_later hb1 HX.out
  clear hb1 C1 HG HX HA HZ0
  cases nb
  · have HE : Hid (rs = ⟨[], [], []⟩) := (show rs = ⟨[], [], []⟩ by rw [HRS.out]; rfl)
    obtain ⟨⟨c0, c1, c2⟩, f0, f1, f2⟩ := G1
    go_wp2
    obtain ⟨⟨q0, q1, q2⟩, -⟩ := ((HG1.out.set0 (.slice none 0 0)).set1 (.slice none 0 0)).set2 (.slice none 0 0)
    exact bodyPost_ret (v := .tuple #[.agg #[.slice none 0 0, .slice none 0 0, .slice none 0 0], .bool false]) (by simp [results, Tryz.results50, go_sem, q0, q1, q2]) rfl ⟨_, _, _, rfl, ((HB1.out.setCell (by show w.heap.size ≤ w.heap.size + 1; omega) _).setCell (by show w.heap.size ≤ w.heap.size + 1; omega) _).setCell (by show w.heap.size ≤ w.heap.size + 1; omega) _, by rw [HE.out]; exact R3.nil _ _⟩
  · have hnb := HNB.out
    have hnb' : progB ls d T = true ∧ zs.length = ls.length ∧ tenB zs = true := by
      have := hnb.symm
      simpa [Bool.and_eq_true_iff] using this
    obtain ⟨hp, hzl, hten⟩ := hnb'
    have hl4 : zs.length ≤ 4 := by
      have h := hp
      unfold progB at h
      simp only [Bool.and_eq_true_iff, decide_eq_true_eq] at h
      omega
    have hst : stB zs.length d 3 T = true := by
      have h := hp
      unfold progB at h
      simp only [Bool.and_eq_true_iff, decide_eq_true_eq] at h
      rw [hzl]; exact h.2.2.1
    have hc8 : cnt d T ≤ 8 := by
      have h := hp
      unfold progB at h
      simp only [Bool.and_eq_true_iff, decide_eq_true_eq] at h
      exact h.2.2.2
    have HE : Hid (rs = doT d T ⟨zs, [], []⟩) := (show rs = doT d T ⟨zs, [], []⟩ by rw [HRS.out]; rfl)
    have hok := doT_ok d T zs.length 3 ⟨zs, [], []⟩ hst rfl hten
    rw [← HE.out] at hok
    obtain ⟨ok1, ok2, ok3, ok4⟩ := hok
    have HOK1 : Hid _ := ok1
    simp only [List.length_nil, Nat.zero_add] at ok3 ok4
    clear hnb HNB HRS hzl hp ok1
    have AX : Below w1.heap.size w1 (w1.alloc (.cells #[.int .i64 0, .int .i64 0, .int .i64 0, .int .i64 0, .slice none 0 0, .slice none 0 0] 114)) := (Below.refl _ _).alloc (Nat.le_refl _) _
    have GD := Dg.begin (B := w1.heap.size) (x := w1) hl4
    have HGD : Hid _ := GD
    clear GD
    have hcp : (Builtin.copy_ #[29, 29] 3 #[.slice (some ⟨w1.heap.size, 0, none⟩) 4 4, .slice na zs.length nc]).run Tryz.prog (w1.alloc (.cells #[.int .i64 0, .int .i64 0, .int .i64 0, .int .i64 0, .slice none 0 0, .slice none 0 0] 114)) = .ok (goInt zs.length) ((w1.alloc (.cells #[.int .i64 0, .int .i64 0, .int .i64 0, .int .i64 0, .slice none 0 0, .slice none 0 0] 114)).setCells w1.heap.size 0 (zs.map (Value.int .i64))) := by
      rcases Nat.eq_zero_or_pos zs.length with h0 | h0
      · have hz : zs = [] := List.eq_nil_of_length_eq_zero h0
        subst hz
        exact run_copy_none _ _ _ _ 3 _ _ _ _ _ _ Tryz.underlying29 infoSz (by simp)
      · obtain ⟨nb, nf, rfl, -⟩ := HNC.out 0 h0
        have := run_copy_cells (P := Tryz.prog) (w1.alloc (.cells #[.int .i64 0, .int .i64 0, .int .i64 0, .int .i64 0, .slice none 0 0, .slice none 0 0] 114)) 29 29 3 3 w1.heap.size 0 4 4 ⟨nb, nf, none⟩ zs.length nc (zs.map (Value.int .i64)) Tryz.underlying29 infoSz (by rw [List.length_map]; exact (Nat.min_eq_left hl4).symm) (fun j v hv => by
          have hj : j < zs.length := by have := (List.getElem?_eq_some_iff.1 hv).1; simpa using this
          obtain ⟨b', o', hb', c'⟩ := HNC.out j hj
          simp only [Option.some.injEq, Addr.mk.injEq] at hb'
          obtain ⟨rfl, rfl, -⟩ := hb'
          rw [Addr.add_mid]
          have e : v = .int .i64 zs[j] := by
            have := (List.getElem?_eq_some_iff.1 hv).2
            rw [← this]; simp
          rw [e]
          exact cell_later AX (cell_later HB1.out c')) (fun j hj => by
          have hj' : j < 4 := by simp at hj; omega
          have : j = 0 ∨ j = 1 ∨ j = 2 ∨ j = 3 := by omega
          rcases this with rfl | rfl | rfl | rfl <;> simp) (fun j hj => by simp) (by simp [Value.oneCell'])
        simpa using this
    have BY : Below w1.heap.size w1 ((w1.alloc (.cells #[.int .i64 0, .int .i64 0, .int .i64 0, .int .i64 0, .slice none 0 0, .slice none 0 0] 114)).setCells w1.heap.size 0 (zs.map (Value.int .i64))) := below_setCellsR (Nat.le_refl _) _ _ _ AX
    generalize ((w1.alloc (.cells #[.int .i64 0, .int .i64 0, .int .i64 0, .int .i64 0, .slice none 0 0, .slice none 0 0] 114)).setCells w1.heap.size 0 (zs.map (Value.int .i64))) = Y at HGD BY hcp
    clear AX
    have HBY : Hid (Below w1.heap.size w1 Y) := BY
    have HGY : Hid (Dg w1.heap.size Y w1.heap.size (.slice none 0 0) (.slice none 0 0) ⟨zs, [], []⟩) := HGD.out
    have zY : w1.heap.size ≤ Y.heap.size := BY.size
    have xY := cell_later BY x1
    have CD : Hid _ := do_any w1 w1.heap.size w1.heap.size (Nat.le_refl _) (Nat.le_refl _) d T 3 (.slice sa (ln d T) sc) (.slice none 0 0) (.slice none 0 0) ⟨zs, [], []⟩ Y (HR.out.below HB1.out) BY zY hst hl4 hten (by simp; omega) (by simp; omega) HGY.out
    clear BY HGD x1 G1
    go_wp2_with fail
    clear hcp
    go_at_call 71; refine Calls.mono CD.out ?_
    rintro e y2 ⟨rr, wv, sv', rfl, g2, k2, n1, n2⟩
    rw [← HE.out] at g2
    have HG2 : Hid (Dg w1.heap.size y2 w1.heap.size wv sv' rs) := g2
    have B2 : Below w1.heap.size w1 y2 := HBY.out.trans (k2.below (B := w1.heap.size) (fun b e => by have : w1.heap.size = b := Option.some.inj e; omega) (fun b e => by cases e) (fun b e => by cases e) zY)
    have HB2 : Hid (Below w1.heap.size w1 y2) := B2
    have z2 : w1.heap.size ≤ y2.heap.size := B2.size
    have hdl := g2.lt
    have hsrc : ∀ j u, (rs.n.map (Value.int .i64))[j]? = some u → y2.cell? ((⟨w1.heap.size, 0, none⟩ : Addr).add j) = some u := by
      intro j u hu
      have hj : j < rs.n.length := by have := (List.getElem?_eq_some_iff.1 hu).1; simpa using this
      have e := g2.nc j (by have := HOK1.out; omega)
      rw [Addr.add_mid, Nat.zero_add, e]
      have := (List.getElem?_eq_some_iff.1 hu).2
      rw [← this]; simp [hj]
    have HSRC : Hid _ := hsrc
    obtain ⟨wa, wc, hwv⟩ := rowg_slice g2.ws
    obtain ⟨sa2, sc2, hsv⟩ := rowg_slice g2.ss
    subst hwv hsv
    have hl0 : (0 : Int) ≤ (zs.length : Int) := by omega
    have hl4' : (zs.length : Int) ≤ 4 := by omega
    have c4 := g2.c4
    have c5 := g2.c5
    clear g2 k2 n1 n2 CD hsrc B2 xY
    go_wp2_with (at_builtin; refine wpList_append_own_at _ rfl _ _ 29 rfl w1.heap.size 3 i2 _ 1 8 Tryz.underlying29 hk0 hx0 hx1 hx2 rfl (by decide) _ _ _ rfl (World.ownsRow_nil _ _ _ _) ⟨w1.heap.size, 0, none⟩ zs.length 4 (rs.n.map (Value.int .i64)) rfl ?c0 HSRC.out ?c2 ?c3 ?c4 ?c5 ?_)
    case c0 => have := HOK1.out; simp; omega
    case c2 => simp [Value.oneCell']
    case c3 => unfold maxLen; omega
    case c4 => omega
    case c5 => omega
    intro v5 y3 own5 grow5 hn5 hat5
    try simp only [Nat.zero_add, List.nil_append] at own5
    have gr : ∀ b, b < y2.heap.size → y3.heap[b]? = y2.heap[b]? := fun b hb => grow5.block b hb (by intro e; cases e)
    have z3 : y2.heap.size ≤ y3.heap.size := grow5.size
    replace c4 := (World.cell?_of_block (a := ⟨w1.heap.size, 4, none⟩) (gr _ hdl)).trans c4
    replace c5 := (World.cell?_of_block (a := ⟨w1.heap.size, 5, none⟩) (gr _ hdl)).trans c5
    have G3 : C3 y3 (w.heap.size + 1) (.slice none 0 0) (.slice none 0 0) (.slice none 0 0) := HG1.out.frame ((gr _ (by omega)).trans (HB2.out.block _ (by omega)))
    have HG3 : Hid (C3 y3 (w.heap.size + 1) (.slice none 0 0) (.slice none 0 0) (.slice none 0 0)) := G3
    have v5b : ∀ b, v5.ownBlock = some b → b = y2.heap.size := fun b hb => by
      rcases hat5 with h | h
      · rw [h] at hb; cases hb
      · rw [h] at hb; exact (Option.some.inj hb).symm
    have hln : rs.n.length = zs.length := HOK1.out
    have R0 : R3 w1.heap.size y3 v5 (.slice wa rs.ws.length wc) (.slice sa2 rs.ss.length sc2) rs :=
      ⟨by rw [hln]; exact own5, rowg_frame HG2.out.ws (fun b e => gr b (World.ownsRow.lt HG2.out.ws b e).2), rowg_frame HG2.out.ss (fun b e => gr b (World.ownsRow.lt HG2.out.ss b e).2), fun b e q => by have := v5b b e; have := (World.ownsRow.lt HG2.out.ws b q).2; omega, fun b e q => by have := v5b b e; have := (World.ownsRow.lt HG2.out.ss b q).2; omega, HG2.out.sw⟩
    obtain ⟨na5, nc5, hv5⟩ := rowg_slice own5
    subst hv5
    have HR0 : Hid (R3 w1.heap.size y3 (.slice na5 zs.length nc5) (.slice wa rs.ws.length wc) (.slice sa2 rs.ss.length sc2) rs) := R0
    have HB3 : Hid (Below w.heap.size w y3) := (Below.then HB1.out HB2.out HB1.out.size).trans ⟨grow5.os, grow5.tape, grow5.output, grow5.size, fun b hb => gr b (by have := HB1.out.size; omega)⟩
    obtain ⟨⟨r0, r1, r2⟩, f0, f1, f2⟩ := G3
    clear own5 grow5 hn5 hat5 gr v5b R0 HG2 HSRC HB2
    go_wp2
    obtain ⟨⟨q0, q1, q2⟩, -⟩ := ((HG3.out.set0 (.slice na5 zs.length nc5)).set1 (.slice wa rs.ws.length wc)).set2 (.slice sa2 rs.ss.length sc2)
    have RF := ((HR0.out.far ⟨w.heap.size + 1, 0, none⟩ (.slice na5 zs.length nc5) (fun e => by have := (World.ownsRow.lt HR0.out.n _ e).1; simp at this; omega) (fun e => by have := (World.ownsRow.lt HR0.out.ws _ e).1; simp at this; omega) (fun e => by have := (World.ownsRow.lt HR0.out.ss _ e).1; simp at this; omega)).far ⟨w.heap.size + 1, 1, none⟩ (.slice wa rs.ws.length wc) (fun e => by have := (World.ownsRow.lt HR0.out.n _ e).1; simp at this; omega) (fun e => by have := (World.ownsRow.lt HR0.out.ws _ e).1; simp at this; omega) (fun e => by have := (World.ownsRow.lt HR0.out.ss _ e).1; simp at this; omega)).far ⟨w.heap.size + 1, 2, none⟩ (.slice sa2 rs.ss.length sc2) (fun e => by have := (World.ownsRow.lt HR0.out.n _ e).1; simp at this; omega) (fun e => by have := (World.ownsRow.lt HR0.out.ws _ e).1; simp at this; omega) (fun e => by have := (World.ownsRow.lt HR0.out.ss _ e).1; simp at this; omega)
    refine bodyPost_ret (v := .tuple #[.agg #[.slice na5 zs.length nc5, .slice wa rs.ws.length wc, .slice sa2 rs.ss.length sc2], .bool true]) (by simp [results, Tryz.results50, go_sem, q0, q1, q2]) rfl ⟨_, _, _, rfl, ((HB3.out.setCell (by show w.heap.size ≤ w.heap.size + 1; omega) _).setCell (by show w.heap.size ≤ w.heap.size + 1; omega) _).setCell (by show w.heap.size ≤ w.heap.size + 1; omega) _, ?_⟩
    exact ⟨World.ownsRow.mono RF.n (by omega), World.ownsRow.mono RF.ws (by omega), World.ownsRow.mono RF.ss (by omega), RF.nw, RF.ns, RF.sw⟩

end Go.Proofs.YthcgdhlemieboaaGreat

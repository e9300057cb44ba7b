/- A label stacked, and taken away. -/
import Derived.Test.YthcgdhlemieboaaGreatDoorSnTbx
import Derived.Test.YthcgdhlemieboaaGreatDoorSnOwn
import Derived.Deep.DeepCutAuto
namespace Go.Proofs.YthcgdhlemieboaaGreatDoor
open Go.RowKit
set_option linter.unusedSimpArgs false
set_option linter.unusedVariables false
attribute [local go_sem] World.cell?_alloc_some

theorem wp_append_atT {P : Program} (w : World) {o : Oper} {a : Act} {K : Act → World → Prop} {Q : Exit → Act → World → Prop} (s x : Operand) (t : TypeId)
    (ho : o.op = .call { callee := .builtin .append, args := #[s, x], argTypes := #[t, t] })
    (base : Nat) (e : TypeId) (i : TypeInfo) (z : Value) (size bytes : Nat) (ht : P.underlying t = some (.slice e)) (hi : P.info? e = some i) (hz : i.zero = some z)
    (hsize : i.size = size) (hby : i.bytes = bytes) (hzs : z.cells.size = size) (hsz : 0 < size)
    (v : Value) (n : Nat) (xs : List Value) (hs : a.eval s = v) (hown : w.ownsRow base e size v n xs)
    (ad : Addr) (m c : Nat) (news : List Value) (hx : a.eval x = .slice (some ad) m c) (hl : news.length = m * size) (hnews : ∀ j u, news[j]? = some u → w.cell? (ad.add j) = some u) (h1 : ∀ u ∈ news, u.oneCell' = true)
    (h63 : n + m ≤ maxLen) (hbytes : (n + m) * bytes ≤ 140737488355328) (hbase : base ≤ w.heap.size)
    (h : ∀ v' w', w'.ownsRow base e size v' (n + m) (xs ++ news) → w.grownBy w' v.ownBlock → (v' = .slice none 0 0 ↔ v = .slice none 0 0 ∧ m = 0) → (v'.ownBlock = v.ownBlock ∨ v'.ownBlock = some w.heap.size) → K (a.put o.dst v') w') : o.wp P a w K Q := by
  obtain ⟨v', w', hr, h2, h3, h4, h5⟩ := run_append_own_at (P := P) w base t o.type e i z size bytes ht hi hz hsize hby hzs hsz v n xs hown ad m c news hl hnews h1 h63 hbytes hbase
  unfold Oper.wp execOp
  simp only [ho, resolve, invoke, builtin, Sem.run_bind, Sem.run_pure, Result.andThen_ok, List.map_toArray, List.map_cons, List.map_nil, hs, hx, hr]
  exact h v' w' h2 h3 h4 h5
theorem cells_new2x (w : World) (u v : Value) (T : TypeId) (k : Nat) (hk : k = w.heap.size) : ∀ j x, [u, v][j]? = some x → (w.alloc (.cells #[u, v] T)).cell? ((⟨k, 0, none⟩ : Addr).add j) = some x := by
  subst hk
  intro j x hj
  match j, hj with
  | 0, h => simp at h; subst h; simp [Addr.add]
  | 1, h => simp at h; subst h; simp [Addr.add]
theorem infoLabT : (Tryz.prog.info? 68).map (fun i => (i.zero, i.size, i.bytes)) = some (some (.agg #[.int .i64 0, .int .i64 0]), 2, 16) := by kernel_rfl
theorem infoIntT : (Tryz.prog.info? 3).map (fun i => (i.zero, i.size, i.bytes)) = some (some (.int .i64 0), 1, 8) := by kernel_rfl

def DvPost (B D : Nat) (w : World) (t : Tv) (s' : Td) (e : Ending) (w' : World) : Prop := ∃ dv', e = .returned (.tuple #[]) ∧ Tg B w' D { t with dv := dv' } s' ∧ Mv (t.X D) w w' (({ t with dv := dv' } : Tv).X D)

set_option maxHeartbeats 8000000 in
set_option maxRecDepth 20000 in
theorem push_any {B D : Nat} {t : Tv} {s : Td} {w : World} (k a : Int) (hG : Tg B w D t s) (hB : B ≤ w.heap.size) (hc : s.ds.length ≤ 1048576) :
    Calls Tryz.prog 56 #[.pointer (some ⟨D, 1, none⟩), .agg #[.int .i64 k, .int .i64 a]] w (DvPost B D w t { s with ds := s.ds ++ [(k, a)] }) := by
  obtain ⟨i0, hi0, hz0, hz1, hz2⟩ := info_parts infoLabT
  obtain ⟨vv, dv, av, sv, fv⟩ := t
  obtain ⟨da, dc, rfl⟩ := rowt_slice hG.ds
  have NXx : ¬ (Tv.mk vv (.slice da s.ds.length dc) av sv fv).X D w.heap.size := fun h => by have := hG.xlt _ h; omega
  have A : Below w.heap.size w (w.alloc (.cells #[.int .i64 k, .int .i64 a] 68)) := (Below.refl _ _).alloc (Nat.le_refl _) _
  have x0 : (w.alloc (.cells #[.int .i64 k, .int .i64 a] 68)).cell? ⟨w.heap.size, 0, none⟩ = some (.int .i64 k) := by simp
  have x1 : (w.alloc (.cells #[.int .i64 k, .int .i64 a] 68)).cell? ⟨w.heap.size, 1, none⟩ = some (.int .i64 a) := by simp
  have zW : (w.alloc (.cells #[.int .i64 k, .int .i64 a] 68)).heap.size = w.heap.size + 1 := by simp
  generalize hW0 : (w.alloc (.cells #[.int .i64 k, .int .i64 a] 68)) = w0 at A x0 x1 zW
  have HW0 : Hid _ := hW0
  have HA : Hid (Below w.heap.size w w0) := A
  have HG0 : Hid (Tg B w0 D ⟨vv, .slice da s.ds.length dc, av, sv, fv⟩ s) := hG.below A
  have hDw := hG.lt
  have nb_d : w.heap.size ≠ D := by omega
  clear hG A hW0
  go_enter Tryz.func56, Tryz.ntmps56
  go_wp2_with fail
  rw [HW0.out]
  clear HW0
  refine wp_region_held (S := (fun wz => wz.cell? ⟨w.heap.size, 0, none⟩ = some (.int .i64 k) ∧ wz.cell? ⟨w.heap.size, 1, none⟩ = some (.int .i64 a))) (by kernel_rfl) ?_
  change wpAnyH _ _ _ _ _ _ _ _ (World.drew _)
  have hHeld : (fun wz => wz.cell? ⟨w.heap.size, 0, none⟩ = some (.int .i64 k) ∧ wz.cell? ⟨w.heap.size, 1, none⟩ = some (.int .i64 a)) (World.drew w0) := ⟨x0, x1⟩
  obtain ⟨yd, hyd⟩ : ∃ y, y = World.drew w0 := ⟨_, rfl⟩
  have Bd : Below w.heap.size w yd := by rw [hyd]; exact HA.out.drew
  have Gd : Tg B yd D ⟨vv, .slice da s.ds.length dc, av, sv, fv⟩ s := by rw [hyd]; exact HG0.out.frame (fun _ _ _ => rfl)
  have Md : Mv ((Tv.mk vv (.slice da s.ds.length dc) av sv fv).X D) w yd ((Tv.mk vv (.slice da s.ds.length dc) av sv fv).X D) := Mv.of Bd
  have zd : w.heap.size < yd.heap.size := by rw [hyd]; show w.heap.size < w0.heap.size; omega
  rw [← hyd] at hHeld ⊢
  clear hyd x0 x1 zW HA HG0
  refine' wpAnyH_take (i := 0) (v := _) rfl (by kernel_rfl) (by kernel_rfl) (by kernel_rfl) (fun _ _ _ h => h) (Or.inl ⟨by rfl, ?hy1⟩) hHeld ?hn1
  case hy1 => (intro wz hSw; go_simp; first | done | with_reducible rfl)
  try simp only [nrm, Act.put]
  refine' wpAnyH_take (i := 1) (v := _) rfl (by kernel_rfl) (by kernel_rfl) (by kernel_rfl) (fun _ _ _ h => h) (Or.inl ⟨by rfl, ?hy2⟩) hHeld ?hn2
  case hy2 => (intro wz hSw; go_simp; first | done | with_reducible rfl)
  try simp only [nrm, Act.put]
  refine' wpAnyH_take (i := 2) (v := _) rfl (by kernel_rfl) (by kernel_rfl) (by kernel_rfl) (fun _ _ _ h => h) (Or.inl ⟨by rfl, ?hy3⟩) hHeld ?hn3
  case hy3 => (intro wz hSw; go_simp; first | done | with_reducible rfl)
  try simp only [nrm, Act.put]
  refine' wpAnyH_take (i := 4) (v := (.agg #[.int .i64 k, .int .i64 a])) rfl (by kernel_rfl) (by kernel_rfl) (by kernel_rfl) (fun _ _ _ h => h) (Or.inl ⟨by rfl, ?hy4⟩) hHeld ?hn4
  case hy4 => (intro wz hSw; obtain ⟨j0, j1⟩ := hSw; go_simp)
  try simp only [nrm, Act.put]
  refine wpAnyH_ready (rs := [3, 5]) (by kernel_rfl) (by simp) ?_
  refine AllReadyH.cons rfl (fun K hK => ?_) (AllReadyH.cons rfl (fun K hK => ?_) AllReadyH.nil)
  · have jr := Gd.c1
    go_simp
    clear jr
    refine hK.out _ _ (hHeld) (fun hHeld => ?_)
    clear hK K
    refine wpAnyH_ready (rs := [5]) (by kernel_rfl) (by simp) ?_
    refine AllReadyH.cons rfl (fun K hK => ?_) AllReadyH.nil
    go_simp
    obtain ⟨ya, hya⟩ : ∃ y, y = yd.alloc (.cells #[Value.int .i64 k, Value.int .i64 a] 68) := ⟨_, rfl⟩
    rw [← hya]
    have nwa : ∀ j u, [Value.int .i64 k, Value.int .i64 a][j]? = some u → ya.cell? ((⟨yd.heap.size, 0, none⟩ : Addr).add j) = some u := by rw [hya]; exact cells_new2x _ _ _ _ _ rfl
    have Aa : Below yd.heap.size yd ya := by rw [hya]; exact (Below.refl _ _).alloc (Nat.le_refl _) _
    have Ga := Gd.below Aa
    have Ma := Md.trans (Mv.of Aa)
    clear hya
    refine hK.out _ _ (⟨cell_later Aa hHeld.1, cell_later Aa hHeld.2⟩) (fun hHeld => ?_)
    clear hK K
    refine wpAnyH_ready (rs := [6]) (by kernel_rfl) (by simp) ?_
    refine AllReadyH.cons rfl (fun K hK => ?_) AllReadyH.nil
    have nb_lt : w.heap.size < ya.heap.size := by have := Aa.size; omega
    have nb_x := NXx
    refine wp_append_atT _ _ _ 54 rfl B 68 i0 _ 2 16 Tryz.underlying54 hi0 hz0 hz1 hz2 rfl (by decide) _ _ _ rfl (show ya.ownsRow B 68 2 (.slice da s.ds.length dc) s.ds.length (pcells s.ds) from Ga.ds) ⟨yd.heap.size, 0, none⟩ 1 1 [Value.int .i64 k, Value.int .i64 a] rfl rfl nwa (by simp [Value.oneCell']) (by show s.ds.length + 1 ≤ maxLen; unfold maxLen; omega) (by show (s.ds.length + 1) * 16 ≤ 140737488355328; omega) (by have := Aa.size; omega) ?_
    intro v3 y3 own3 grow3 hn3 hat3
    obtain ⟨G3, M3⟩ := Tg.push (a := (k, a)) Ga (Below.refl _ _) own3 grow3 hat3
    have e3 : y3.heap[D]? = ya.heap[D]? := grow3.block D Ga.lt (fun e => Ga.dD e.symm)
    have eN : ∀ b, b < ya.heap.size → ¬ (Tv.mk vv (.slice da s.ds.length dc) av sv fv).X D b → y3.heap[b]? = ya.heap[b]? := fun b hb hx => grow3.block b hb (fun e' => hx (by have e := e'.symm; exact (.inr (.inl e))))
    obtain ⟨va3, vc3, hv3⟩ := rowt_slice own3
    subst hv3
    have f4 := (World.cell?_of_block e3).trans Ga.c1
    have f5 : y3.frozen? ⟨D, 1, none⟩ = false := (World.frozen?_of_block (a := ⟨D, 1, none⟩) e3).trans (Ga.fz 1 (by omega))
    refine hK.out _ _ (⟨(World.cell?_of_block (eN _ nb_lt nb_x)).trans hHeld.1, (World.cell?_of_block (eN _ nb_lt nb_x)).trans hHeld.2⟩) (fun hHeld => ?_)
    clear hK K
    refine' wpAnyH_take (i := 7) (v := _) rfl (by kernel_rfl) (by kernel_rfl) (by kernel_rfl) (fun _ _ _ h => h) (Or.inl ⟨by rfl, ?hy5⟩) hHeld ?hn5
    case hy5 => (intro wz hSw; go_simp; first | done | with_reducible rfl)
    try simp only [nrm, Act.put]
    refine wpAnyH_ready (rs := [8]) (by kernel_rfl) (by simp) ?_
    refine AllReadyH.cons rfl (fun K hK => ?_) AllReadyH.nil
    go_simp
    have hst4 : ∀ b, b ≠ D → (y3.setCell ⟨D, 1, none⟩ (.slice va3 (s.ds.length + 1) vc3)).heap[b]? = y3.heap[b]? := fun b hb => Below.heap_setCell _ _ _ _ hb
    generalize (y3.setCell ⟨D, 1, none⟩ (.slice va3 (s.ds.length + 1) vc3)) = y4 at G3 M3 hst4 ⊢
    refine hK.out _ _ (⟨(World.cell?_of_block (hst4 _ nb_d)).trans hHeld.1, (World.cell?_of_block (hst4 _ nb_d)).trans hHeld.2⟩) (fun hHeld => ?_)
    clear hK K
    refine wpAnyH_done (by kernel_rfl) ?_ _
    have HG4 : Hid _ := G3
    have HM4 : Hid _ := Ma.trans M3
    clear hHeld G3 M3 own3 grow3 hn3 hat3 e3 eN f4 f5 hst4 nwa Aa Ga Ma
    go_wp2
    exact bodyPost_ret (v := .tuple #[]) (by simp [results, Tryz.results56, go_sem]) rfl ⟨_, rfl, HG4.out, HM4.out⟩
  · go_simp
    obtain ⟨ya, hya⟩ : ∃ y, y = yd.alloc (.cells #[Value.int .i64 k, Value.int .i64 a] 68) := ⟨_, rfl⟩
    rw [← hya]
    have nwa : ∀ j u, [Value.int .i64 k, Value.int .i64 a][j]? = some u → ya.cell? ((⟨yd.heap.size, 0, none⟩ : Addr).add j) = some u := by rw [hya]; exact cells_new2x _ _ _ _ _ rfl
    have Aa : Below yd.heap.size yd ya := by rw [hya]; exact (Below.refl _ _).alloc (Nat.le_refl _) _
    have Ga := Gd.below Aa
    have Ma := Md.trans (Mv.of Aa)
    clear hya
    refine hK.out _ _ (⟨cell_later Aa hHeld.1, cell_later Aa hHeld.2⟩) (fun hHeld => ?_)
    clear hK K
    refine wpAnyH_ready (rs := [3]) (by kernel_rfl) (by simp) ?_
    refine AllReadyH.cons rfl (fun K hK => ?_) AllReadyH.nil
    have jr := Ga.c1
    go_simp
    clear jr
    refine hK.out _ _ (hHeld) (fun hHeld => ?_)
    clear hK K
    refine wpAnyH_ready (rs := [6]) (by kernel_rfl) (by simp) ?_
    refine AllReadyH.cons rfl (fun K hK => ?_) AllReadyH.nil
    have nb_lt : w.heap.size < ya.heap.size := by have := Aa.size; omega
    have nb_x := NXx
    refine wp_append_atT _ _ _ 54 rfl B 68 i0 _ 2 16 Tryz.underlying54 hi0 hz0 hz1 hz2 rfl (by decide) _ _ _ rfl (show ya.ownsRow B 68 2 (.slice da s.ds.length dc) s.ds.length (pcells s.ds) from Ga.ds) ⟨yd.heap.size, 0, none⟩ 1 1 [Value.int .i64 k, Value.int .i64 a] rfl rfl nwa (by simp [Value.oneCell']) (by show s.ds.length + 1 ≤ maxLen; unfold maxLen; omega) (by show (s.ds.length + 1) * 16 ≤ 140737488355328; omega) (by have := Aa.size; omega) ?_
    intro v3 y3 own3 grow3 hn3 hat3
    obtain ⟨G3, M3⟩ := Tg.push (a := (k, a)) Ga (Below.refl _ _) own3 grow3 hat3
    have e3 : y3.heap[D]? = ya.heap[D]? := grow3.block D Ga.lt (fun e => Ga.dD e.symm)
    have eN : ∀ b, b < ya.heap.size → ¬ (Tv.mk vv (.slice da s.ds.length dc) av sv fv).X D b → y3.heap[b]? = ya.heap[b]? := fun b hb hx => grow3.block b hb (fun e' => hx (by have e := e'.symm; exact (.inr (.inl e))))
    obtain ⟨va3, vc3, hv3⟩ := rowt_slice own3
    subst hv3
    have f4 := (World.cell?_of_block e3).trans Ga.c1
    have f5 : y3.frozen? ⟨D, 1, none⟩ = false := (World.frozen?_of_block (a := ⟨D, 1, none⟩) e3).trans (Ga.fz 1 (by omega))
    refine hK.out _ _ (⟨(World.cell?_of_block (eN _ nb_lt nb_x)).trans hHeld.1, (World.cell?_of_block (eN _ nb_lt nb_x)).trans hHeld.2⟩) (fun hHeld => ?_)
    clear hK K
    refine' wpAnyH_take (i := 7) (v := _) rfl (by kernel_rfl) (by kernel_rfl) (by kernel_rfl) (fun _ _ _ h => h) (Or.inl ⟨by rfl, ?hy6⟩) hHeld ?hn6
    case hy6 => (intro wz hSw; go_simp; first | done | with_reducible rfl)
    try simp only [nrm, Act.put]
    refine wpAnyH_ready (rs := [8]) (by kernel_rfl) (by simp) ?_
    refine AllReadyH.cons rfl (fun K hK => ?_) AllReadyH.nil
    go_simp
    have hst4 : ∀ b, b ≠ D → (y3.setCell ⟨D, 1, none⟩ (.slice va3 (s.ds.length + 1) vc3)).heap[b]? = y3.heap[b]? := fun b hb => Below.heap_setCell _ _ _ _ hb
    generalize (y3.setCell ⟨D, 1, none⟩ (.slice va3 (s.ds.length + 1) vc3)) = y4 at G3 M3 hst4 ⊢
    refine hK.out _ _ (⟨(World.cell?_of_block (hst4 _ nb_d)).trans hHeld.1, (World.cell?_of_block (hst4 _ nb_d)).trans hHeld.2⟩) (fun hHeld => ?_)
    clear hK K
    refine wpAnyH_done (by kernel_rfl) ?_ _
    have HG4 : Hid _ := G3
    have HM4 : Hid _ := Ma.trans M3
    clear hHeld G3 M3 own3 grow3 hn3 hat3 e3 eN f4 f5 hst4 nwa Aa Ga Ma
    go_wp2
    exact bodyPost_ret (v := .tuple #[]) (by simp [results, Tryz.results56, go_sem]) rfl ⟨_, rfl, HG4.out, HM4.out⟩

set_option maxHeartbeats 8000000 in
set_option maxRecDepth 20000 in
theorem pop_any {B D : Nat} {t : Tv} {s : Td} {w : World} {ds : List (Int × Int)} {a : Int × Int} (hG : Tg B w D t s) (hds : s.ds = ds ++ [a]) (hc : ds.length ≤ 1048576) :
    Calls Tryz.prog 95 #[.pointer (some ⟨D, 1, none⟩)] w (DvPost B D w t { s with ds := ds }) := by
  obtain ⟨vv, dv, av, sv, fv⟩ := t
  have hn : s.ds.length = ds.length + 1 := by rw [hds]; simp
  have ho := hG.ds
  rw [hn] at ho
  obtain ⟨g, c, hcap, rfl⟩ : ∃ g c, ds.length + 1 ≤ c ∧ dv = .slice (some ⟨g, 0, none⟩) (ds.length + 1) c := by
    rcases ho.2 with ⟨_, h⟩ | ⟨g, cap, cur, h, _, _, hc, _⟩
    · cases h
    · exact ⟨g, cap, hc, h⟩
  have P := hG.pop hds rfl rfl
  have q1 := hG.c1
  have q2 := hG.fz 1 (by omega)
  have HP : Hid _ := P
  have HW : Hid _ := w64 (ds.length : Int) (by omega)
  clear P ho hG
  go_enter Tryz.func95, Tryz.ntmps95
  go_wp2_with fail
  refine wp_region_held (S := (fun wz => True)) (by kernel_rfl) ?_
  change wpAnyH _ _ _ _ _ _ _ _ (World.drew _)
  have hHeld : (fun (wz : World) => True) (World.drew w) := trivial
  have r1 : (World.drew w).cell? ⟨D, 1, none⟩ = some (.slice (some ⟨g, 0, none⟩) (ds.length + 1) c) := q1
  have r2 : (World.drew w).frozen? ⟨D, 1, none⟩ = false := q2
  refine' wpAnyH_take (i := 0) (v := _) rfl (by kernel_rfl) (by kernel_rfl) (by kernel_rfl) (fun _ _ _ h => h) (Or.inl ⟨by rfl, ?hy7⟩) hHeld ?hn7
  case hy7 => (intro wz hSw; go_simp; first | done | with_reducible rfl)
  try simp only [nrm, Act.put]
  refine' wpAnyH_take (i := 1) (v := _) rfl (by kernel_rfl) (by kernel_rfl) (by kernel_rfl) (fun _ _ _ h => h) (Or.inl ⟨by rfl, ?hy8⟩) hHeld ?hn8
  case hy8 => (intro wz hSw; go_simp; first | done | with_reducible rfl)
  try simp only [nrm, Act.put]
  refine' wpAnyH_take (i := 2) (v := _) rfl (by kernel_rfl) (by kernel_rfl) (by kernel_rfl) (fun _ _ _ h => h) (Or.inl ⟨by rfl, ?hy9⟩) hHeld ?hn9
  case hy9 => (intro wz hSw; go_simp; first | done | with_reducible rfl)
  try simp only [nrm, Act.put]
  refine' wpAnyH_take (i := 4) (v := _) rfl (by kernel_rfl) (by kernel_rfl) (by kernel_rfl) (fun _ _ _ h => h) (Or.inl ⟨by rfl, ?hy10⟩) hHeld ?hn10
  case hy10 => (intro wz hSw; go_simp; first | done | with_reducible rfl)
  try simp only [nrm, Act.put]
  refine' wpAnyH_take (i := 5) (v := _) rfl (by kernel_rfl) (by kernel_rfl) (by kernel_rfl) (fun _ _ _ h => h) (Or.inl ⟨by rfl, ?hy11⟩) hHeld ?hn11
  case hy11 => (intro wz hSw; go_simp; first | done | with_reducible rfl)
  try simp only [nrm, Act.put]
  refine wpAnyH_ready (rs := [3, 6]) (by kernel_rfl) (by simp) ?_
  refine AllReadyH.cons rfl (fun K hK => ?_) (AllReadyH.cons rfl (fun K hK => ?_) AllReadyH.nil)
  · go_simp
    refine hK.out _ _ (trivial) (fun hHeld => ?_)
    clear hK K
    refine wpAnyH_ready (rs := [6]) (by kernel_rfl) (by simp) ?_
    refine AllReadyH.cons rfl (fun K hK => ?_) AllReadyH.nil
    go_simp
    refine hK.out _ _ (trivial) (fun hHeld => ?_)
    clear hK K
    refine' wpAnyH_take (i := 7) (v := (.int .i64 ((ds.length : Int) + 1))) rfl (by kernel_rfl) (by kernel_rfl) (by kernel_rfl) (fun _ _ _ h => h) (Or.inl ⟨by rfl, ?hy12⟩) hHeld ?hn12
    case hy12 => (intro wz hSw; go_simp; first | done | (simp; done))
    try simp only [nrm, Act.put]
    refine' wpAnyH_take (i := 8) (v := (.int .i64 (ds.length : Int))) rfl (by kernel_rfl) (by kernel_rfl) (by kernel_rfl) (fun _ _ _ h => h) (Or.inl ⟨by rfl, ?hy13⟩) hHeld ?hn13
    case hy13 => (intro wz hSw; have h := HW.out; go_simp; first | done | simp [h] | omega)
    try simp only [nrm, Act.put]
    refine' wpAnyH_take (i := 9) (v := (.slice (some ⟨g, 0, none⟩) ds.length c)) rfl (by kernel_rfl) (by kernel_rfl) (by kernel_rfl) (fun _ _ _ h => h) (Or.inl ⟨by rfl, ?hy14⟩) hHeld ?hn14
    case hy14 => (intro wz hSw; go_simp; intro h; omega)
    try simp only [nrm, Act.put]
    refine' wpAnyH_take (i := 10) (v := _) rfl (by kernel_rfl) (by kernel_rfl) (by kernel_rfl) (fun _ _ _ h => h) (Or.inl ⟨by rfl, ?hy15⟩) hHeld ?hn15
    case hy15 => (intro wz hSw; go_simp; first | done | with_reducible rfl)
    try simp only [nrm, Act.put]
    refine wpAnyH_ready (rs := [11]) (by kernel_rfl) (by simp) ?_
    refine AllReadyH.cons rfl (fun K hK => ?_) AllReadyH.nil
    go_simp
    refine hK.out _ _ (trivial) (fun hHeld => ?_)
    clear hK K
    refine wpAnyH_done (by kernel_rfl) ?_ _
    have HPd : Hid (Tg B ((World.drew w).setCell ⟨D, 1, none⟩ (.slice (some ⟨g, 0, none⟩) ds.length c)) D ⟨vv, .slice (some ⟨g, 0, none⟩) ds.length c, av, sv, fv⟩ { s with ds := ds } ∧ Mv ((Tv.mk vv (.slice (some ⟨g, 0, none⟩) (ds.length + 1) c) av sv fv).X D) w ((World.drew w).setCell ⟨D, 1, none⟩ (.slice (some ⟨g, 0, none⟩) ds.length c)) ((Tv.mk vv (.slice (some ⟨g, 0, none⟩) ds.length c) av sv fv).X D)) := ⟨HP.out.1.frame (fun _ _ _ => rfl), ⟨HP.out.2.os, HP.out.2.tape, HP.out.2.output, HP.out.2.size, HP.out.2.block, HP.out.2.own⟩⟩
    clear hHeld r1 r2 q1 q2 HP
    go_wp2
    exact bodyPost_ret (v := .tuple #[]) (by simp [results, Tryz.results95, go_sem]) rfl ⟨_, rfl, HPd.out.1, HPd.out.2⟩
  · go_simp
    refine hK.out _ _ (trivial) (fun hHeld => ?_)
    clear hK K
    refine' wpAnyH_take (i := 7) (v := (.int .i64 ((ds.length : Int) + 1))) rfl (by kernel_rfl) (by kernel_rfl) (by kernel_rfl) (fun _ _ _ h => h) (Or.inl ⟨by rfl, ?hy16⟩) hHeld ?hn16
    case hy16 => (intro wz hSw; go_simp; first | done | (simp; done))
    try simp only [nrm, Act.put]
    refine' wpAnyH_take (i := 8) (v := (.int .i64 (ds.length : Int))) rfl (by kernel_rfl) (by kernel_rfl) (by kernel_rfl) (fun _ _ _ h => h) (Or.inl ⟨by rfl, ?hy17⟩) hHeld ?hn17
    case hy17 => (intro wz hSw; have h := HW.out; go_simp; first | done | simp [h] | omega)
    try simp only [nrm, Act.put]
    refine wpAnyH_ready (rs := [3]) (by kernel_rfl) (by simp) ?_
    refine AllReadyH.cons rfl (fun K hK => ?_) AllReadyH.nil
    go_simp
    refine hK.out _ _ (trivial) (fun hHeld => ?_)
    clear hK K
    refine' wpAnyH_take (i := 9) (v := (.slice (some ⟨g, 0, none⟩) ds.length c)) rfl (by kernel_rfl) (by kernel_rfl) (by kernel_rfl) (fun _ _ _ h => h) (Or.inl ⟨by rfl, ?hy18⟩) hHeld ?hn18
    case hy18 => (intro wz hSw; go_simp; intro h; omega)
    try simp only [nrm, Act.put]
    refine' wpAnyH_take (i := 10) (v := _) rfl (by kernel_rfl) (by kernel_rfl) (by kernel_rfl) (fun _ _ _ h => h) (Or.inl ⟨by rfl, ?hy19⟩) hHeld ?hn19
    case hy19 => (intro wz hSw; go_simp; first | done | with_reducible rfl)
    try simp only [nrm, Act.put]
    refine wpAnyH_ready (rs := [11]) (by kernel_rfl) (by simp) ?_
    refine AllReadyH.cons rfl (fun K hK => ?_) AllReadyH.nil
    go_simp
    refine hK.out _ _ (trivial) (fun hHeld => ?_)
    clear hK K
    refine wpAnyH_done (by kernel_rfl) ?_ _
    have HPd : Hid (Tg B ((World.drew w).setCell ⟨D, 1, none⟩ (.slice (some ⟨g, 0, none⟩) ds.length c)) D ⟨vv, .slice (some ⟨g, 0, none⟩) ds.length c, av, sv, fv⟩ { s with ds := ds } ∧ Mv ((Tv.mk vv (.slice (some ⟨g, 0, none⟩) (ds.length + 1) c) av sv fv).X D) w ((World.drew w).setCell ⟨D, 1, none⟩ (.slice (some ⟨g, 0, none⟩) ds.length c)) ((Tv.mk vv (.slice (some ⟨g, 0, none⟩) ds.length c) av sv fv).X D)) := ⟨HP.out.1.frame (fun _ _ _ => rfl), ⟨HP.out.2.os, HP.out.2.tape, HP.out.2.output, HP.out.2.size, HP.out.2.block, HP.out.2.own⟩⟩
    clear hHeld r1 r2 q1 q2 HP
    go_wp2
    exact bodyPost_ret (v := .tuple #[]) (by simp [results, Tryz.results95, go_sem]) rfl ⟨_, rfl, HPd.out.1, HPd.out.2⟩

end Go.Proofs.YthcgdhlemieboaaGreatDoor

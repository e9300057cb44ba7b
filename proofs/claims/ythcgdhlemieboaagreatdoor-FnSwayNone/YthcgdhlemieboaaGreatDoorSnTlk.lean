/- A step looked at: counted, asked whether it is fine, and gone into. -/
import Derived.Test.YthcgdhlemieboaaGreatDoorSnTis
import Derived.Deep.DeepCutAuto
namespace Go.Proofs.YthcgdhlemieboaaGreatDoor
open Go.RowKit
set_option linter.unusedSimpArgs false
set_option linter.unusedVariables false
attribute [local go_sem] World.cell?_alloc_some

def KnowsLk (t : Array Value) : List (Nat × Value) → Prop
  | [] => True
  | p :: r => t[p.1]? = some p.2 ∧ KnowsLk t r
theorem KnowsLk.get {t : Array Value} : ∀ {kn : List (Nat × Value)}, KnowsLk t kn → ∀ p ∈ kn, t[p.1]? = some p.2
  | [], _, _, hp => by cases hp
  | q :: r, h, p, hp => by
    rcases List.mem_cons.1 hp with rfl | hp
    · exact h.1
    · exact KnowsLk.get h.2 p hp
def ActLk (a : Act) (kn : List (Nat × Value)) : Prop := a.defers = [] ∧ a.tmps.size = 106 ∧ KnowsLk a.tmps kn
theorem actLk_open {a : Act} {kn : List (Nat × Value)} (h : ActLk a kn) : ∃ u : Nat → Value, a = { tmps := #[u 0, u 1, u 2, u 3, u 4, u 5, u 6, u 7, u 8, u 9, u 10, u 11, u 12, u 13, u 14, u 15, u 16, u 17, u 18, u 19, u 20, u 21, u 22, u 23, u 24, u 25, u 26, u 27, u 28, u 29, u 30, u 31, u 32, u 33, u 34, u 35, u 36, u 37, u 38, u 39, u 40, u 41, u 42, u 43, u 44, u 45, u 46, u 47, u 48, u 49, u 50, u 51, u 52, u 53, u 54, u 55, u 56, u 57, u 58, u 59, u 60, u 61, u 62, u 63, u 64, u 65, u 66, u 67, u 68, u 69, u 70, u 71, u 72, u 73, u 74, u 75, u 76, u 77, u 78, u 79, u 80, u 81, u 82, u 83, u 84, u 85, u 86, u 87, u 88, u 89, u 90, u 91, u 92, u 93, u 94, u 95, u 96, u 97, u 98, u 99, u 100, u 101, u 102, u 103, u 104, u 105], defers := [] } ∧ ∀ i v, (i, v) ∈ kn → u i = v := by
  obtain ⟨t, df⟩ := a
  obtain ⟨h0, h1, h2⟩ := h
  simp only at h0 h1 h2
  subst h0
  refine ⟨fun i => t.getD i undef, ?_, fun i v hi => ?_⟩
  · have e : t = ((List.range 106).map (fun i => t.getD i undef)).toArray := by
      refine Array.ext (by simp [h1]) (fun i g1 g2 => ?_)
      simp [Array.getD, g1]
    exact congrArg (fun x => ({ tmps := x, defers := [] } : Act)) e
  · have := h2.get _ hi
    simp at this
    simp [Array.getD_eq_getD_getElem?, this]

theorem C8.same {w w' : World} {b : Nat} {v0 v1 v2 v3 v4 v5 v6 v7 : Value} (h : C8 w b v0 v1 v2 v3 v4 v5 v6 v7) (e : w'.heap[b]? = w.heap[b]?) : C8 w' b v0 v1 v2 v3 v4 v5 v6 v7 := by
  have c : ∀ i, w'.cell? ⟨b, i, none⟩ = w.cell? ⟨b, i, none⟩ := fun i => World.cell?_of_block e
  have f : ∀ i, w'.frozen? ⟨b, i, none⟩ = w.frozen? ⟨b, i, none⟩ := fun i => World.frozen?_of_block (a := ⟨b, i, none⟩) e
  unfold C8 at h ⊢
  simp only [c, f]
  exact h
def fval (s1 : Addr) : Option Nat → Value
  | none => .nilIface
  | some n => .iface 138 (.agg #[.int .i64 (n : Int), .iface 166 (.pointer (some s1))])
theorem Tg.setsv {B : Nat} {w : World} {D : Nat} {t : Tv} {s : Td} (hG : Tg B w D t s) {m : Nat} (hm : m < s.ss.length) :
    ∃ g c, t.sv = .slice (some ⟨g, 0, none⟩) s.ss.length c ∧ w.cell? ⟨g, m, none⟩ = some (.int .i64 (s.ss[m]'hm)) ∧ w.frozen? ⟨g, m, none⟩ = false := by
  have ho := hG.ss
  obtain ⟨g, c, hv⟩ : ∃ g c, t.sv = .slice (some ⟨g, 0, none⟩) s.ss.length c := by
    rcases ho.2 with ⟨_, h⟩ | ⟨g, cap, cur, h, _⟩
    · omega
    · exact ⟨g, cap, h⟩
  rw [hv] at ho
  exact ⟨g, c, hv, (ho.cellAt m (by omega)).trans (by simp [hm]), ho.frozenAt m⟩
def LkJ (kn : List (Nat × Value)) (B D : Nat) (t : Tv) (s : Td) (X : Nat → Prop) (w0 : World) (e : Exit) (a : Act) (x : World) : Prop := e = .normal ∧ ActLk a kn ∧ Tg B x D t s ∧ Mv X w0 x (t.X D)
def LkJ2 (kn : List (Nat × Value)) (B D : Nat) (vv fv : Value) (s : Td) (X : Nat → Prop) (w0 : World) (e : Exit) (a : Act) (x : World) : Prop := e = .normal ∧ ActLk a kn ∧ ∃ t : Tv, t.vv = vv ∧ t.fv = fv ∧ Tg B x D t s ∧ Mv X w0 x (t.X D)
def LkJ0 (kn : List (Nat × Value)) (w : World) (e : Exit) (a : Act) (x : World) : Prop := e = .normal ∧ ActLk a kn ∧ x = w
def LkPost (B D : Nat) (s1 : Addr) (ls : List (Int × Int)) (w : World) (t : Tv) (s : Td) (bd : Option Nat) (xs : List (Pay × (Int × Int))) (sets : List Int) (tr : Int) (e : Ending) (w' : World) : Prop :=
  ∃ t', e = .returned (.int .i64 tr) ∧ t'.vv = t.vv ∧ t'.fv = fval s1 (badJ ls bd s.aw.length xs) ∧ Tg B w' D t' ⟨s.ds, s.aw ++ xs.map (·.2), s.ss ++ sets⟩ ∧ Mv (t.X D) w w' (t'.X D)
def LookOk (W : World) (B D : Nat) (s1 : Addr) (ls : List (Int × Int)) (vv : Value) (m : Nat) (d : Nat) (T : Tr d) (tv : Value) : Prop :=
  ∀ (w : World) (t : Tv) (s : Td) (ds1 : List (Int × Int)) (h1 : Int × Int) (bd : Option Nat), Below W.heap.size W w → B ≤ w.heap.size → t.vv = vv → t.fv = fval s1 bd → Tg B w D t s → s.ds = ds1 ++ [h1] → okL h1 → s.aw.length = s.ss.length → ds1.length + m ≤ 1048576 → s.aw.length + cnt d T ≤ 1048576 →
    Calls Tryz.prog 58 #[.pointer (some ⟨D, 0, none⟩), tv] w (LkPost B D s1 ls w t s bd (prs ls d T h1) (setsL ls d T) (setT ls d T))

set_option maxHeartbeats 16000000 in
set_option maxRecDepth 20000 in
theorem lookAt_of {W : World} {B D : Nat} {m d : Nat} {T1 T2 : Tr d} {ls : List (Int × Int)} {s1 : Addr} (p : Pay) {ta ea : Option Addr} {tc ec : Nat} {t : Tv} {s : Td} {w : World} {ds0 : List (Int × Int)} {h : Int × Int} {bd : Option Nat}
    (hWB : W.heap.size ≤ B) (hWD : W.heap.size ≤ D) (hW : Below W.heap.size W w) (hB : B ≤ w.heap.size) (hg : W.cell? ⟨1, 0, none⟩ = some (.iface 166 (.pointer (some s1))))
    (hL : LRep W t.vv ls) (hls : labsB ls = true) (hn4 : ls.length ≤ 4) (hp : payB ls.length p (decide (ln d T1 + ln d T2 = 0)) = true)
    (hG : Tg B w D t s) (hds : s.ds = ds0 ++ [h]) (hh : okL h) (hf : t.fv = fval s1 bd) (has : s.aw.length = s.ss.length) (hc : ds0.length + m + 1 ≤ 1048576) (hca : s.aw.length + 1 + cnt d T1 + cnt d T2 ≤ 1048576)
    (D1 : LookOk W B D s1 ls t.vv m d T1 (.slice ta (ln d T1) tc)) (D2 : LookOk W B D s1 ls t.vv m d T2 (.slice ea (ln d T2) ec)) :
    Calls Tryz.prog 78 #[.pointer (some ⟨D, 0, none⟩), .agg #[.int .i64 p.k, .int .i64 p.v, .int .i64 p.vk, .int .i64 p.va, .int .i64 p.vb, .int .i64 p.h, .slice ta (ln d T1) tc, .slice ea (ln d T2) ec]] w
      (LkPost B D s1 ls w t s bd ((p, h) :: (prs ls d T1 (anL h (lab ls p.v)) ++ prs ls d T2 (anL h (lab ls p.v)))) (setX ls ⟨d, p, T1, T2⟩ :: (setsL ls d T1 ++ setsL ls d T2)) (setX ls ⟨d, p, T1, T2⟩)) := by
  obtain ⟨i0, hi0, hz0, hz1, hz2⟩ := info_parts infoLabT
  obtain ⟨j0, hj0, hy0, hy1, hy2⟩ := info_parts infoIntT
  obtain ⟨vv, dv, av, sv, fv⟩ := t
  dsimp only at hf hL D1 D2
  subst hf
  obtain ⟨hvn, hk3⟩ := payB_cases hp
  obtain ⟨hv0, hv1⟩ : 0 ≤ p.v ∧ p.v < ls.length := by simpa [vIn] using hvn
  obtain ⟨la, lc, hvv, -⟩ := id hL
  subst hvv
  obtain ⟨lb, lf, hla, l0, l1⟩ := hL.at hv0 hv1
  subst hla
  have hlb : lb < W.heap.size := World.block_lt_of_cell? W _ l0
  have hWw := hW.size
  obtain ⟨aa, ac, rfl⟩ := rowt_slice hG.aw
  obtain ⟨sa, sc, rfl⟩ := rowt_slice hG.ss
  have A : Below w.heap.size w (w.alloc (.cells #[.int .i64 p.k, .int .i64 p.v, .int .i64 p.vk, .int .i64 p.va, .int .i64 p.vb, .int .i64 p.h, .slice ta (ln d T1) tc, .slice ea (ln d T2) ec] 97)) := (Below.refl _ _).alloc (Nat.le_refl _) _
  have G8 := C8.new w (.int .i64 p.k) (.int .i64 p.v) (.int .i64 p.vk) (.int .i64 p.va) (.int .i64 p.vb) (.int .i64 p.h) (.slice ta (ln d T1) tc) (.slice ea (ln d T2) ec) 97
  have zW : (w.alloc (.cells #[.int .i64 p.k, .int .i64 p.v, .int .i64 p.vk, .int .i64 p.va, .int .i64 p.vb, .int .i64 p.h, .slice ta (ln d T1) tc, .slice ea (ln d T2) ec] 97)).heap.size = w.heap.size + 1 := by simp
  generalize hW0 : w.alloc (.cells #[.int .i64 p.k, .int .i64 p.v, .int .i64 p.vk, .int .i64 p.va, .int .i64 p.vb, .int .i64 p.h, .slice ta (ln d T1) tc, .slice ea (ln d T2) ec] 97) = w0 at A G8 zW
  have HW0 : Hid _ := hW0
  have HA : Hid (Below w.heap.size w w0) := A
  have BW0 : Hid (Below W.heap.size W w0) := Below.then hW A hW.size
  have HG0 : Hid (Tg B w0 D ⟨(.slice (some ⟨lb, lf, none⟩) ls.length lc), dv, .slice aa s.aw.length ac, .slice sa s.ss.length sc, fval s1 bd⟩ s) := hG.below A
  have NX : Hid (¬ (Tv.mk (.slice (some ⟨lb, lf, none⟩) ls.length lc) dv (.slice aa s.aw.length ac) (.slice sa s.ss.length sc) (fval s1 bd)).X D w.heap.size) := (show ¬ _ from fun h => by have := hG.xlt _ h; omega)
  have HG0X : Hid (∀ b, (Tv.mk (.slice (some ⟨lb, lf, none⟩) ls.length lc) dv (.slice aa s.aw.length ac) (.slice sa s.ss.length sc) (fval s1 bd)).X D b → W.heap.size ≤ b) := (show ∀ b, _ → _ from hG.xge hWB hWD)
  have HL : Hid (LRep W (.slice (some ⟨lb, lf, none⟩) ls.length lc) ls) := hL
  have HL0 : Hid _ := l0
  have HL1 : Hid _ := l1
  have HGL : Hid _ := hg
  have HD1 : Hid _ := D1
  have HD2 : Hid _ := D2
  have HP : Hid _ := hp
  have hDw : D < w.heap.size := hG.lt
  have hDw0 : D < w0.heap.size := by omega
  have nb_d : w.heap.size ≠ D := by omega
  obtain ⟨pk, pv, vk, va, vb, ph⟩ := p
  dsimp only at *
  obtain ⟨v, rfl⟩ := Int.eq_ofNat_of_zero_le hv0
  simp only [Int.toNat_natCast] at HL0 HL1
  obtain ⟨sx, hsx⟩ : ∃ x, setX ls ⟨d, ⟨pk, (v : Int), vk, va, vb, ph⟩, T1, T2⟩ = x := ⟨_, rfl⟩
  rw [hsx]
  have HSX : Hid _ := hsx
  obtain ⟨fb, hfb⟩ : ∃ x, fineB ls ⟨pk, (v : Int), vk, va, vb, ph⟩ h = x := ⟨_, rfl⟩
  have HFB : Hid _ := hfb
  have c2 : w.cell? ⟨D, 2, none⟩ = some (.slice aa s.aw.length ac) := hG.c2
  have HAS : Hid _ := has
  have HDS : Hid _ := hds
  have zW' : w.heap.size < w0.heap.size := by omega
  have hab : s.aw.length < 1048576 := by omega
  clear zW has hds D1 D2 hG A hW0 hW hL l0 l1 hg hsx hfb hp hvn
  go_enter Tryz.func78, Tryz.ntmps78
  go_upto_region 2 with fail
  rw [HW0.out]
  clear HW0 c2
  refine Code.wp_mono (Q := fun e a x => e = .normal ∧ ∃ (va3 : Option Addr) (vc3 : Nat), ActLk a [(0, .pointer (some ⟨D, 0, none⟩)), (3, .pointer (some ⟨w.heap.size, 0, none⟩)), (5, .int .i64 (s.aw.length : Int))] ∧ Tg B x D ⟨(.slice (some ⟨lb, lf, none⟩) ls.length lc), dv, .slice va3 (s.aw.length + 1) vc3, .slice sa s.ss.length sc, fval s1 bd⟩ { s with aw := s.aw ++ [h] } ∧ Mv ((Tv.mk (.slice (some ⟨lb, lf, none⟩) ls.length lc) dv (.slice aa s.aw.length ac) (.slice sa s.ss.length sc) (fval s1 bd)).X D) w0 x ((Tv.mk (.slice (some ⟨lb, lf, none⟩) ls.length lc) dv (.slice va3 (s.aw.length + 1) vc3) (.slice sa s.ss.length sc) (fval s1 bd)).X D)) ?hq ?hr
  case hr =>
    refine wp_region_held (S := (fun (wz : World) => True)) (by kernel_rfl) ?_
    change wpAnyH _ _ _ _ _ _ _ _ (World.drew _)
    have hHeld : (fun (wz : World) => True) (World.drew w0) := trivial
    obtain ⟨yd, hyd⟩ : ∃ y, y = World.drew w0 := ⟨_, rfl⟩
    have Gd : Tg B yd D ⟨(.slice (some ⟨lb, lf, none⟩) ls.length lc), dv, .slice aa s.aw.length ac, .slice sa s.ss.length sc, fval s1 bd⟩ s := by rw [hyd]; exact HG0.out.frame (fun _ _ _ => rfl)
    have Md : Mv ((Tv.mk (.slice (some ⟨lb, lf, none⟩) ls.length lc) dv (.slice aa s.aw.length ac) (.slice sa s.ss.length sc) (fval s1 bd)).X D) w0 yd ((Tv.mk (.slice (some ⟨lb, lf, none⟩) ls.length lc) dv (.slice aa s.aw.length ac) (.slice sa s.ss.length sc) (fval s1 bd)).X D) := Mv.of (by rw [hyd]; exact (Below.refl _ _).drew)
    have zd : B ≤ yd.heap.size := by rw [hyd]; show B ≤ w0.heap.size; omega
    rw [← hyd] at hHeld ⊢
    clear hyd
    refine' wpAnyH_take (i := 0) (v := _) rfl (by kernel_rfl) (by kernel_rfl) (by kernel_rfl) (fun _ _ _ h => by cases h.1) (Or.inl ⟨by rfl, ?hy20001⟩) hHeld ?hn20001
    case hy20001 => (intro wz hSw; go_simp; first | done | with_reducible rfl)
    try simp only [nrm, Act.put]
    refine' wpAnyH_take (i := 1) (v := _) rfl (by kernel_rfl) (by kernel_rfl) (by kernel_rfl) (fun _ _ _ h => by cases h.1) (Or.inl ⟨by rfl, ?hy20002⟩) hHeld ?hn20002
    case hy20002 => (intro wz hSw; go_simp; first | done | with_reducible rfl)
    try simp only [nrm, Act.put]
    refine' wpAnyH_take (i := 2) (v := _) rfl (by kernel_rfl) (by kernel_rfl) (by kernel_rfl) (fun _ _ _ h => by cases h.1) (Or.inl ⟨by rfl, ?hy20003⟩) hHeld ?hn20003
    case hy20003 => (intro wz hSw; go_simp; first | done | with_reducible rfl)
    try simp only [nrm, Act.put]
    refine' wpAnyH_take (i := 3) (v := _) rfl (by kernel_rfl) (by kernel_rfl) (by kernel_rfl) (fun _ _ _ h => by cases h.1) (Or.inl ⟨by rfl, ?hy20004⟩) hHeld ?hn20004
    case hy20004 => (intro wz hSw; go_simp; first | done | with_reducible rfl)
    try simp only [nrm, Act.put]
    refine' wpAnyH_take (i := 5) (v := _) rfl (by kernel_rfl) (by kernel_rfl) (by kernel_rfl) (fun _ _ _ h => by cases h.1) (Or.inl ⟨by rfl, ?hy20005⟩) hHeld ?hn20005
    case hy20005 => (intro wz hSw; go_simp; first | done | with_reducible rfl)
    try simp only [nrm, Act.put]
    refine' wpAnyH_take (i := 6) (v := _) rfl (by kernel_rfl) (by kernel_rfl) (by kernel_rfl) (fun _ _ _ h => by cases h.1) (Or.inl ⟨by rfl, ?hy20006⟩) hHeld ?hn20006
    case hy20006 => (intro wz hSw; go_simp; first | done | with_reducible rfl)
    try simp only [nrm, Act.put]
    refine' wpAnyH_take (i := 7) (v := _) rfl (by kernel_rfl) (by kernel_rfl) (by kernel_rfl) (fun _ _ _ h => by cases h.1) (Or.inl ⟨by rfl, ?hy20007⟩) hHeld ?hn20007
    case hy20007 => (intro wz hSw; go_simp; first | done | with_reducible rfl)
    try simp only [nrm, Act.put]
    refine wpAnyH_ready (rs := [4, 8]) (by kernel_rfl) (by simp) ?_
    refine AllReadyH.cons rfl (fun K hK => ?_) (AllReadyH.cons rfl (fun K hK => ?_) AllReadyH.nil)
    · have jr := Gd.c2
      go_simp
      clear jr
      refine hK.out _ _ (trivial) (fun hHeld => ?_)
      clear hK K
      refine wpAnyH_ready (rs := [8]) (by kernel_rfl) (by simp) ?_
      refine AllReadyH.cons rfl (fun K hK => ?_) AllReadyH.nil
      go_simp
      refine Calls.mono (top_tg Gd HDS.out (by omega)) ?_
      rintro e x8 ⟨rfl, hb8⟩
      have G8 := Gd.below hb8
      have M8 := Md.trans (Mv.of hb8)
      refine hK.out _ _ (trivial) (fun hHeld => ?_)
      clear hK K
      refine wpAnyH_ready (rs := [9]) (by kernel_rfl) (by simp) ?_
      refine AllReadyH.cons rfl (fun K hK => ?_) AllReadyH.nil
      go_simp
      obtain ⟨ya, hya⟩ : ∃ y, y = x8.alloc (.cells #[Value.int .i64 h.1, Value.int .i64 h.2] 68) := ⟨_, rfl⟩
      rw [← hya]
      have nwa : ∀ j u, [Value.int .i64 h.1, Value.int .i64 h.2][j]? = some u → ya.cell? ((⟨x8.heap.size, 0, none⟩ : Addr).add j) = some u := by rw [hya]; exact cells_new2x _ _ _ _ _ rfl
      have Aa : Below x8.heap.size x8 ya := by rw [hya]; exact (Below.refl _ _).alloc (Nat.le_refl _) _
      have Ga := G8.below Aa
      have Ma := M8.trans (Mv.of Aa)
      clear hya
      refine hK.out _ _ (trivial) (fun hHeld => ?_)
      clear hK K
      refine wpAnyH_ready (rs := [10]) (by kernel_rfl) (by simp) ?_
      refine AllReadyH.cons rfl (fun K hK => ?_) AllReadyH.nil
      refine wp_append_atT _ _ _ 23 rfl B 68 i0 _ 2 16 Tryz.underlying23 hi0 hz0 hz1 hz2 rfl (by decide) _ _ _ rfl (show ya.ownsRow B 68 2 (.slice aa s.aw.length ac) s.aw.length (pcells s.aw) from Ga.aw) ⟨x8.heap.size, 0, none⟩ 1 1 [Value.int .i64 h.1, Value.int .i64 h.2] rfl rfl nwa (by simp [Value.oneCell']) (by show s.aw.length + 1 ≤ maxLen; unfold maxLen; omega) (by show (s.aw.length + 1) * 16 ≤ 140737488355328; omega) (by have := Aa.size; first | omega | (have := hb8.size; omega)) ?_
      intro v3 y3 own3 grow3 hn3 hat3
      obtain ⟨G3, M3⟩ := Tg.count (a := h) Ga (Below.refl _ _) own3 grow3 hat3
      have e3 : y3.heap[D]? = ya.heap[D]? := grow3.block D Ga.lt (fun e => Ga.aD e.symm)
      have eN : ∀ b, b < ya.heap.size → ¬ (Tv.mk (.slice (some ⟨lb, lf, none⟩) ls.length lc) dv (.slice aa s.aw.length ac) (.slice sa s.ss.length sc) (fval s1 bd)).X D b → y3.heap[b]? = ya.heap[b]? := fun b hb hx => grow3.block b hb (fun e' => hx (by have e := e'.symm; exact (.inr (.inr (.inl e)))))
      obtain ⟨va3, vc3, hv3⟩ := rowt_slice own3
      subst hv3
      have f4 := (World.cell?_of_block e3).trans Ga.c2
      have f5 : y3.frozen? ⟨D, 2, none⟩ = false := (World.frozen?_of_block (a := ⟨D, 2, none⟩) e3).trans (Ga.fz 2 (by omega))
      refine hK.out _ _ (trivial) (fun hHeld => ?_)
      clear hK K
      refine' wpAnyH_take (i := 11) (v := _) rfl (by kernel_rfl) (by kernel_rfl) (by kernel_rfl) (fun _ _ _ h => by cases h.1) (Or.inl ⟨by rfl, ?hy20008⟩) hHeld ?hn20008
      case hy20008 => (intro wz hSw; go_simp; first | done | with_reducible rfl)
      try simp only [nrm, Act.put]
      refine' wpAnyH_take (i := 12) (v := _) rfl (by kernel_rfl) (by kernel_rfl) (by kernel_rfl) (fun _ _ _ h => by cases h.1) (Or.inl ⟨by rfl, ?hy20009⟩) hHeld ?hn20009
      case hy20009 => (intro wz hSw; go_simp; first | done | with_reducible rfl)
      try simp only [nrm, Act.put]
      refine wpAnyH_ready (rs := [13]) (by kernel_rfl) (by simp) ?_
      refine AllReadyH.cons rfl (fun K hK => ?_) AllReadyH.nil
      go_simp
      have hst4 : ∀ b, b ≠ D → (y3.setCell ⟨D, 2, none⟩ (.slice va3 (s.aw.length + 1) vc3)).heap[b]? = y3.heap[b]? := fun b hb => Below.heap_setCell _ _ _ _ hb
      generalize (y3.setCell ⟨D, 2, none⟩ (.slice va3 (s.aw.length + 1) vc3)) = y4 at G3 M3 hst4 ⊢
      refine hK.out _ _ (trivial) (fun hHeld => ?_)
      clear hK K
      refine wpAnyH_done (by kernel_rfl) ?_ _
      exact ⟨rfl, va3, vc3, ⟨rfl, rfl, rfl, rfl, rfl, trivial⟩, G3, Ma.trans M3⟩
    · go_simp
      refine Calls.mono (top_tg Gd HDS.out (by omega)) ?_
      rintro e x8 ⟨rfl, hb8⟩
      have G8 := Gd.below hb8
      have M8 := Md.trans (Mv.of hb8)
      refine hK.out _ _ (trivial) (fun hHeld => ?_)
      clear hK K
      refine wpAnyH_ready (rs := [4, 9]) (by kernel_rfl) (by simp) ?_
      refine AllReadyH.cons rfl (fun K hK => ?_) (AllReadyH.cons rfl (fun K hK => ?_) AllReadyH.nil)
      · have jr := G8.c2
        go_simp
        clear jr
        refine hK.out _ _ (trivial) (fun hHeld => ?_)
        clear hK K
        refine wpAnyH_ready (rs := [9]) (by kernel_rfl) (by simp) ?_
        refine AllReadyH.cons rfl (fun K hK => ?_) AllReadyH.nil
        go_simp
        obtain ⟨ya, hya⟩ : ∃ y, y = x8.alloc (.cells #[Value.int .i64 h.1, Value.int .i64 h.2] 68) := ⟨_, rfl⟩
        rw [← hya]
        have nwa : ∀ j u, [Value.int .i64 h.1, Value.int .i64 h.2][j]? = some u → ya.cell? ((⟨x8.heap.size, 0, none⟩ : Addr).add j) = some u := by rw [hya]; exact cells_new2x _ _ _ _ _ rfl
        have Aa : Below x8.heap.size x8 ya := by rw [hya]; exact (Below.refl _ _).alloc (Nat.le_refl _) _
        have Ga := G8.below Aa
        have Ma := M8.trans (Mv.of Aa)
        clear hya
        refine hK.out _ _ (trivial) (fun hHeld => ?_)
        clear hK K
        refine wpAnyH_ready (rs := [10]) (by kernel_rfl) (by simp) ?_
        refine AllReadyH.cons rfl (fun K hK => ?_) AllReadyH.nil
        refine wp_append_atT _ _ _ 23 rfl B 68 i0 _ 2 16 Tryz.underlying23 hi0 hz0 hz1 hz2 rfl (by decide) _ _ _ rfl (show ya.ownsRow B 68 2 (.slice aa s.aw.length ac) s.aw.length (pcells s.aw) from Ga.aw) ⟨x8.heap.size, 0, none⟩ 1 1 [Value.int .i64 h.1, Value.int .i64 h.2] rfl rfl nwa (by simp [Value.oneCell']) (by show s.aw.length + 1 ≤ maxLen; unfold maxLen; omega) (by show (s.aw.length + 1) * 16 ≤ 140737488355328; omega) (by have := Aa.size; first | omega | (have := hb8.size; omega)) ?_
        intro v3 y3 own3 grow3 hn3 hat3
        obtain ⟨G3, M3⟩ := Tg.count (a := h) Ga (Below.refl _ _) own3 grow3 hat3
        have e3 : y3.heap[D]? = ya.heap[D]? := grow3.block D Ga.lt (fun e => Ga.aD e.symm)
        have eN : ∀ b, b < ya.heap.size → ¬ (Tv.mk (.slice (some ⟨lb, lf, none⟩) ls.length lc) dv (.slice aa s.aw.length ac) (.slice sa s.ss.length sc) (fval s1 bd)).X D b → y3.heap[b]? = ya.heap[b]? := fun b hb hx => grow3.block b hb (fun e' => hx (by have e := e'.symm; exact (.inr (.inr (.inl e)))))
        obtain ⟨va3, vc3, hv3⟩ := rowt_slice own3
        subst hv3
        have f4 := (World.cell?_of_block e3).trans Ga.c2
        have f5 : y3.frozen? ⟨D, 2, none⟩ = false := (World.frozen?_of_block (a := ⟨D, 2, none⟩) e3).trans (Ga.fz 2 (by omega))
        refine hK.out _ _ (trivial) (fun hHeld => ?_)
        clear hK K
        refine' wpAnyH_take (i := 11) (v := _) rfl (by kernel_rfl) (by kernel_rfl) (by kernel_rfl) (fun _ _ _ h => by cases h.1) (Or.inl ⟨by rfl, ?hy20010⟩) hHeld ?hn20010
        case hy20010 => (intro wz hSw; go_simp; first | done | with_reducible rfl)
        try simp only [nrm, Act.put]
        refine' wpAnyH_take (i := 12) (v := _) rfl (by kernel_rfl) (by kernel_rfl) (by kernel_rfl) (fun _ _ _ h => by cases h.1) (Or.inl ⟨by rfl, ?hy20011⟩) hHeld ?hn20011
        case hy20011 => (intro wz hSw; go_simp; first | done | with_reducible rfl)
        try simp only [nrm, Act.put]
        refine wpAnyH_ready (rs := [13]) (by kernel_rfl) (by simp) ?_
        refine AllReadyH.cons rfl (fun K hK => ?_) AllReadyH.nil
        go_simp
        have hst4 : ∀ b, b ≠ D → (y3.setCell ⟨D, 2, none⟩ (.slice va3 (s.aw.length + 1) vc3)).heap[b]? = y3.heap[b]? := fun b hb => Below.heap_setCell _ _ _ _ hb
        generalize (y3.setCell ⟨D, 2, none⟩ (.slice va3 (s.aw.length + 1) vc3)) = y4 at G3 M3 hst4 ⊢
        refine hK.out _ _ (trivial) (fun hHeld => ?_)
        clear hK K
        refine wpAnyH_done (by kernel_rfl) ?_ _
        exact ⟨rfl, va3, vc3, ⟨rfl, rfl, rfl, rfl, rfl, trivial⟩, G3, Ma.trans M3⟩
      · go_simp
        obtain ⟨ya, hya⟩ : ∃ y, y = x8.alloc (.cells #[Value.int .i64 h.1, Value.int .i64 h.2] 68) := ⟨_, rfl⟩
        rw [← hya]
        have nwa : ∀ j u, [Value.int .i64 h.1, Value.int .i64 h.2][j]? = some u → ya.cell? ((⟨x8.heap.size, 0, none⟩ : Addr).add j) = some u := by rw [hya]; exact cells_new2x _ _ _ _ _ rfl
        have Aa : Below x8.heap.size x8 ya := by rw [hya]; exact (Below.refl _ _).alloc (Nat.le_refl _) _
        have Ga := G8.below Aa
        have Ma := M8.trans (Mv.of Aa)
        clear hya
        refine hK.out _ _ (trivial) (fun hHeld => ?_)
        clear hK K
        refine wpAnyH_ready (rs := [4]) (by kernel_rfl) (by simp) ?_
        refine AllReadyH.cons rfl (fun K hK => ?_) AllReadyH.nil
        have jr := Ga.c2
        go_simp
        clear jr
        refine hK.out _ _ (trivial) (fun hHeld => ?_)
        clear hK K
        refine wpAnyH_ready (rs := [10]) (by kernel_rfl) (by simp) ?_
        refine AllReadyH.cons rfl (fun K hK => ?_) AllReadyH.nil
        refine wp_append_atT _ _ _ 23 rfl B 68 i0 _ 2 16 Tryz.underlying23 hi0 hz0 hz1 hz2 rfl (by decide) _ _ _ rfl (show ya.ownsRow B 68 2 (.slice aa s.aw.length ac) s.aw.length (pcells s.aw) from Ga.aw) ⟨x8.heap.size, 0, none⟩ 1 1 [Value.int .i64 h.1, Value.int .i64 h.2] rfl rfl nwa (by simp [Value.oneCell']) (by show s.aw.length + 1 ≤ maxLen; unfold maxLen; omega) (by show (s.aw.length + 1) * 16 ≤ 140737488355328; omega) (by have := Aa.size; first | omega | (have := hb8.size; omega)) ?_
        intro v3 y3 own3 grow3 hn3 hat3
        obtain ⟨G3, M3⟩ := Tg.count (a := h) Ga (Below.refl _ _) own3 grow3 hat3
        have e3 : y3.heap[D]? = ya.heap[D]? := grow3.block D Ga.lt (fun e => Ga.aD e.symm)
        have eN : ∀ b, b < ya.heap.size → ¬ (Tv.mk (.slice (some ⟨lb, lf, none⟩) ls.length lc) dv (.slice aa s.aw.length ac) (.slice sa s.ss.length sc) (fval s1 bd)).X D b → y3.heap[b]? = ya.heap[b]? := fun b hb hx => grow3.block b hb (fun e' => hx (by have e := e'.symm; exact (.inr (.inr (.inl e)))))
        obtain ⟨va3, vc3, hv3⟩ := rowt_slice own3
        subst hv3
        have f4 := (World.cell?_of_block e3).trans Ga.c2
        have f5 : y3.frozen? ⟨D, 2, none⟩ = false := (World.frozen?_of_block (a := ⟨D, 2, none⟩) e3).trans (Ga.fz 2 (by omega))
        refine hK.out _ _ (trivial) (fun hHeld => ?_)
        clear hK K
        refine' wpAnyH_take (i := 11) (v := _) rfl (by kernel_rfl) (by kernel_rfl) (by kernel_rfl) (fun _ _ _ h => by cases h.1) (Or.inl ⟨by rfl, ?hy20012⟩) hHeld ?hn20012
        case hy20012 => (intro wz hSw; go_simp; first | done | with_reducible rfl)
        try simp only [nrm, Act.put]
        refine' wpAnyH_take (i := 12) (v := _) rfl (by kernel_rfl) (by kernel_rfl) (by kernel_rfl) (fun _ _ _ h => by cases h.1) (Or.inl ⟨by rfl, ?hy20013⟩) hHeld ?hn20013
        case hy20013 => (intro wz hSw; go_simp; first | done | with_reducible rfl)
        try simp only [nrm, Act.put]
        refine wpAnyH_ready (rs := [13]) (by kernel_rfl) (by simp) ?_
        refine AllReadyH.cons rfl (fun K hK => ?_) AllReadyH.nil
        go_simp
        have hst4 : ∀ b, b ≠ D → (y3.setCell ⟨D, 2, none⟩ (.slice va3 (s.aw.length + 1) vc3)).heap[b]? = y3.heap[b]? := fun b hb => Below.heap_setCell _ _ _ _ hb
        generalize (y3.setCell ⟨D, 2, none⟩ (.slice va3 (s.aw.length + 1) vc3)) = y4 at G3 M3 hst4 ⊢
        refine hK.out _ _ (trivial) (fun hHeld => ?_)
        clear hK K
        refine wpAnyH_done (by kernel_rfl) ?_ _
        exact ⟨rfl, va3, vc3, ⟨rfl, rfl, rfl, rfl, rfl, trivial⟩, G3, Ma.trans M3⟩
  case hq =>
    rintro e a w2 ⟨rfl, va3, vc3, hact, g2, m2⟩
    obtain ⟨u, rfl, hk⟩ := actLk_open hact
    have e0 : u 0 = .pointer (some ⟨D, 0, none⟩) := hk 0 _ (by simp)
    have e3 : u 3 = .pointer (some ⟨w.heap.size, 0, none⟩) := hk 3 _ (by simp)
    have e5 : u 5 = .int .i64 (s.aw.length : Int) := hk 5 _ (by simp)
    clear hk hact
    simp only [e0, e3, e5]
    clear e0 e3 e5
    have c3 := g2.c3
    have f3 := g2.fz 3 (by omega)
    have HG2 : Hid (Tg B w2 D ⟨(.slice (some ⟨lb, lf, none⟩) ls.length lc), dv, .slice va3 (s.aw.length + 1) vc3, .slice sa s.ss.length sc, fval s1 bd⟩ { s with aw := s.aw ++ [h] }) := g2
    have HM2 : Hid (Mv ((Tv.mk (.slice (some ⟨lb, lf, none⟩) ls.length lc) dv (.slice aa s.aw.length ac) (.slice sa s.ss.length sc) (fval s1 bd)).X D) w0 w2 ((Tv.mk (.slice (some ⟨lb, lf, none⟩) ls.length lc) dv (.slice va3 (s.aw.length + 1) vc3) (.slice sa s.ss.length sc) (fval s1 bd)).X D)) := m2
    have zB2 : B ≤ w2.heap.size := Nat.le_trans (by omega) m2.size
    have hab2 : s.ss.length < 1048576 := by have := HAS.out; omega
    clear g2 m2 HG0
    go_upto_region 3 with fail
    rename_i K3 hK3
    refine Code.wp_mono (Q := fun e a x => e = .normal ∧ ∃ (va4 : Option Addr) (vc4 : Nat), ActLk a [(0, .pointer (some ⟨D, 0, none⟩)), (3, .pointer (some ⟨w.heap.size, 0, none⟩)), (5, .int .i64 (s.aw.length : Int))] ∧ Tg B x D ⟨(.slice (some ⟨lb, lf, none⟩) ls.length lc), dv, .slice va3 (s.aw.length + 1) vc3, .slice va4 (s.ss.length + 1) vc4, fval s1 bd⟩ ⟨s.ds, s.aw ++ [h], s.ss ++ [0]⟩ ∧ Mv ((Tv.mk (.slice (some ⟨lb, lf, none⟩) ls.length lc) dv (.slice aa s.aw.length ac) (.slice sa s.ss.length sc) (fval s1 bd)).X D) w0 x ((Tv.mk (.slice (some ⟨lb, lf, none⟩) ls.length lc) dv (.slice va3 (s.aw.length + 1) vc3) (.slice va4 (s.ss.length + 1) vc4) (fval s1 bd)).X D)) ?hq ?hr
    case hr =>
      go_wp2_with (at_builtin; refine wpList_append_own_at _ rfl _ _ 29 rfl B 3 j0 _ 1 8 Tryz.underlying29 hj0 hy0 hy1 hy2 rfl (by decide) _ _ _ rfl (show World.ownsRow _ B 3 1 (.slice sa s.ss.length sc) s.ss.length (s.ss.map (Value.int .i64)) from HG2.out.ss.alloc _) ⟨w2.heap.size, 0, none⟩ 1 1 [.int .i64 0] rfl rfl ?c1 ?c2 ?c3 ?c4 ?c5 ?_)
      case c2 => simp [Value.oneCell']
      case c3 => unfold maxLen; omega
      case c4 => omega
      case c5 => first | omega | (simp; omega)
      intro v3 y3 own3 grow3 hn3 hat3
      have A2 : Below w2.heap.size w2 (w2.alloc (.cells #[.int .i64 0] 3)) := (Below.refl _ _).alloc (Nat.le_refl _) _
      obtain ⟨G3, M3⟩ := Tg.told (a := 0) HG2.out A2 own3 grow3 (hat3.imp id (fun k => by rw [k]; simp))
      have e3 : y3.heap[D]? = (w2.alloc (.cells #[.int .i64 0] 3)).heap[D]? := grow3.block D (HG2.out.below A2).lt (fun e => (HG2.out.below A2).sD e.symm)
      obtain ⟨va4, vc4, hv3⟩ := rowt_slice own3
      subst hv3
      have f4 := (World.cell?_of_block e3).trans (HG2.out.below A2).c3
      have f5 : y3.frozen? ⟨D, 3, none⟩ = false := (World.frozen?_of_block (a := ⟨D, 3, none⟩) e3).trans ((HG2.out.below A2).fz 3 (by omega))
      have HR : Hid _ := And.intro G3 (HM2.out.trans M3)
      clear G3 M3 own3 grow3 hn3 hat3 e3 c3 f3
      go_wp2
      exact ⟨⟨rfl, rfl, rfl, rfl, rfl, trivial⟩, va4, vc4, HR.out.1, HR.out.2⟩
    case hq =>
      rintro e a w3 ⟨rfl, va4, vc4, hact, g3, m3⟩
      refine hK3 _ _ ?_
      clear hK3 K3 c3 f3 HG2 HM2
      obtain ⟨u, rfl, hk⟩ := actLk_open hact
      have e0 : u 0 = .pointer (some ⟨D, 0, none⟩) := hk 0 _ (by simp)
      have e3 : u 3 = .pointer (some ⟨w.heap.size, 0, none⟩) := hk 3 _ (by simp)
      have e5 : u 5 = .int .i64 (s.aw.length : Int) := hk 5 _ (by simp)
      clear hk hact
      simp only [e0, e3, e5]
      clear e0 e3 e5
      apply wp_seq_k
      intro K4 hK4
      have HG3 : Hid (Tg B w3 D ⟨(.slice (some ⟨lb, lf, none⟩) ls.length lc), dv, .slice va3 (s.aw.length + 1) vc3, .slice va4 (s.ss.length + 1) vc4, fval s1 bd⟩ ⟨s.ds, s.aw ++ [h], s.ss ++ [0]⟩) := g3
      have HM3 : Hid (Mv ((Tv.mk (.slice (some ⟨lb, lf, none⟩) ls.length lc) dv (.slice aa s.aw.length ac) (.slice sa s.ss.length sc) (fval s1 bd)).X D) w0 w3 ((Tv.mk (.slice (some ⟨lb, lf, none⟩) ls.length lc) dv (.slice va3 (s.aw.length + 1) vc3) (.slice va4 (s.ss.length + 1) vc4) (fval s1 bd)).X D)) := m3
      have G83 := G8.same (m3.block _ zW' NX.out)
      have zB3 : B ≤ w3.heap.size := Nat.le_trans (by omega) m3.size
      have BW3 : Hid (Below W.heap.size W w3) := BW0.out.trans (m3.below (fun b hb => HG0X.out b hb) BW0.out.size)
      have c4 := g3.c4
      have f4 := g3.fz 4 (by omega)
      clear g3 m3
      obtain ⟨bd1, hbd1⟩ : ∃ x, x = (if bd = none ∧ fb = false then some s.aw.length else bd) := ⟨_, rfl⟩
      have HBD : Hid _ := hbd1
      refine Code.wp_mono (Q := LkJ [(0, .pointer (some ⟨D, 0, none⟩)), (3, .pointer (some ⟨w.heap.size, 0, none⟩)), (5, .int .i64 (s.aw.length : Int))] B D ⟨(.slice (some ⟨lb, lf, none⟩) ls.length lc), dv, .slice va3 (s.aw.length + 1) vc3, .slice va4 (s.ss.length + 1) vc4, fval s1 bd1⟩ ⟨s.ds, s.aw ++ [h], s.ss ++ [0]⟩ ((Tv.mk (.slice (some ⟨lb, lf, none⟩) ls.length lc) dv (.slice aa s.aw.length ac) (.slice sa s.ss.length sc) (fval s1 bd)).X D) w0) ?hq ?hr
      case hr =>
        have gl := cell_later BW3.out HGL.out
        cases bd with
        | some i =>
          have HB : Hid (bd1 = some i) := (show bd1 = some i by rw [hbd1]; simp)
          clear hbd1
          have c4' : w3.cell? ⟨D, 4, none⟩ = some (.iface 138 (.agg #[.int .i64 (i : Int), .iface 166 (.pointer (some s1))])) := c4
          clear c4
          go_wp2_with fail
          exact ⟨rfl, ⟨rfl, rfl, rfl, rfl, rfl, trivial⟩, by rw [HB.out]; exact HG3.out, by rw [HB.out]; exact HM3.out⟩
        | none =>
          have c4' : w3.cell? ⟨D, 4, none⟩ = some .nilIface := c4
          obtain ⟨⟨x0, x1, x2, x3, x4, x5, x6, x7⟩, -⟩ := G83
          have CF : Hid _ := isFine_any (B := B) (D := D) (w := w3) ⟨pk, (v : Int), vk, va, vb, ph⟩ _ ta ea (ln d T1) tc (ln d T2) ec HG3.out (HL.out.below BW3.out) hls hn4 HP.out HDS.out hh (by omega)
          rw [HFB.out] at CF
          clear c4 hbd1
          go_wp2_with fail
          go_at_call 93; refine Calls.mono CF.out ?_
          rintro e w4 ⟨rfl, hb4⟩
          have HG4 : Hid _ := HG3.out.below hb4
          have HM4 : Hid _ := HM3.out.trans (Mv.of hb4)
          cases fb
          · have HB : Hid (bd1 = some s.aw.length) := (show bd1 = some s.aw.length by rw [HBD.out]; simp)
            have gl4 := cell_later hb4 gl
            have c4f := HG4.out.c4
            have f4f := HG4.out.fz 4 (by omega)
            have HF5 : Hid _ := HG4.out.fault (fval s1 (some s.aw.length))
            clear hb4 gl x0 x1 x2 x3 x4 x5 x6 x7 f4 c4'
            go_wp2_with fail
            exact ⟨rfl, ⟨rfl, rfl, rfl, rfl, rfl, trivial⟩, by rw [HB.out]; exact HF5.out.1, by rw [HB.out]; exact HM4.out.trans HF5.out.2⟩
          · have HB : Hid (bd1 = none) := (show bd1 = none by rw [HBD.out]; simp)
            clear hb4 gl x0 x1 x2 x3 x4 x5 x6 x7 f4 c4'
            go_wp2_with fail
            exact ⟨rfl, ⟨rfl, rfl, rfl, rfl, rfl, trivial⟩, by rw [HB.out]; exact HG4.out, by rw [HB.out]; exact HM4.out⟩
      case hq =>
        rintro e a w5 ⟨rfl, hact, g5, m5⟩
        refine hK4 _ _ ?_
        clear hK4 K4 HG3 HM3 G83 BW3 c4 f4
        obtain ⟨u, rfl, hk⟩ := actLk_open hact
        have e0 : u 0 = .pointer (some ⟨D, 0, none⟩) := hk 0 _ (by simp)
        have e3 : u 3 = .pointer (some ⟨w.heap.size, 0, none⟩) := hk 3 _ (by simp)
        have e5 : u 5 = .int .i64 (s.aw.length : Int) := hk 5 _ (by simp)
        clear hk hact
        simp only [e0, e3, e5]
        clear e0 e3 e5
        have G85 := G8.same (m5.block _ zW' NX.out)
        have zB5 : B ≤ w5.heap.size := Nat.le_trans (by omega) m5.size
        have BW5 : Hid (Below W.heap.size W w5) := BW0.out.trans (m5.below (fun b hb => HG0X.out b hb) BW0.out.size)
        have NX5 : Hid (¬ (Tv.mk (.slice (some ⟨lb, lf, none⟩) ls.length lc) dv (.slice va3 (s.aw.length + 1) vc3) (.slice va4 (s.ss.length + 1) vc4) (fval s1 bd1)).X D w.heap.size) := (show ¬ _ from fun hx => by rcases m5.own _ hx with h1 | h1; exact NX.out h1; omega)
        have HG5 : Hid (Tg B w5 D ⟨(.slice (some ⟨lb, lf, none⟩) ls.length lc), dv, .slice va3 (s.aw.length + 1) vc3, .slice va4 (s.ss.length + 1) vc4, fval s1 bd1⟩ ⟨s.ds, s.aw ++ [h], s.ss ++ [0]⟩) := g5
        have HM5 : Hid (Mv ((Tv.mk (.slice (some ⟨lb, lf, none⟩) ls.length lc) dv (.slice aa s.aw.length ac) (.slice sa s.ss.length sc) (fval s1 bd)).X D) w0 w5 ((Tv.mk (.slice (some ⟨lb, lf, none⟩) ls.length lc) dv (.slice va3 (s.aw.length + 1) vc3) (.slice va4 (s.ss.length + 1) vc4) (fval s1 bd1)).X D)) := m5
        have HBJ : Hid (badJ ls bd s.aw.length ((⟨pk, (v : Int), vk, va, vb, ph⟩, h) :: (prs ls d T1 (anL h (lab ls v)) ++ prs ls d T2 (anL h (lab ls v)))) = badJ ls bd1 (s.aw.length + 1) (prs ls d T1 (anL h (lab ls v)) ++ prs ls d T2 (anL h (lab ls v)))) := (show badJ ls bd s.aw.length ((⟨pk, (v : Int), vk, va, vb, ph⟩, h) :: (prs ls d T1 (anL h (lab ls v)) ++ prs ls d T2 (anL h (lab ls v)))) = badJ ls bd1 (s.aw.length + 1) (prs ls d T1 (anL h (lab ls v)) ++ prs ls d T2 (anL h (lab ls v))) by
          rw [badJ_cons]; dsimp only; rw [HFB.out, ← HBD.out])
        have hok' : okL (anL h (lab ls v)) := anL_ok hh (lab_ok hls _)
        have HCN : Hid ((prs ls d T1 (anL h (lab ls v))).length = cnt d T1 ∧ (prs ls d T2 (anL h (lab ls v))).length = cnt d T2 ∧ (setsL ls d T1).length = cnt d T1 ∧ (setsL ls d T2).length = cnt d T2) := ⟨prs_length _ _ _ _, prs_length _ _ _ _, setsL_length _ _ _, setsL_length _ _ _⟩
        have HZ : Hid (pk = 1 ∨ pk = 3 → prs ls d T1 (anL h (lab ls v)) = [] ∧ prs ls d T2 (anL h (lab ls v)) = [] ∧ setsL ls d T1 = [] ∧ setsL ls d T2 = [] ∧ setT ls d T1 = 0 ∧ setT ls d T2 = 0) := (show pk = 1 ∨ pk = 3 → _ from fun hpk => by
          have hz : ln d T1 + ln d T2 = 0 := by
            rcases hk3 with ⟨_, _, q⟩ | ⟨_, _, q⟩ | q
            · simpa using q
            · simpa using q
            · omega
          exact ⟨prs_zero _ _ _ _ (by omega), prs_zero _ _ _ _ (by omega), setsL_zero _ _ _ (by omega), setsL_zero _ _ _ (by omega), setT_zero _ _ _ (by omega), setT_zero _ _ _ (by omega)⟩)
        obtain ⟨bdF, hbdF⟩ : ∃ x, badJ ls bd s.aw.length ((⟨pk, (v : Int), vk, va, vb, ph⟩, h) :: (prs ls d T1 (anL h (lab ls v)) ++ prs ls d T2 (anL h (lab ls v)))) = x := ⟨_, rfl⟩
        have HBF : Hid _ := hbdF
        have c0 := g5.c0
        obtain ⟨⟨x0, x1, x2, x3, x4, x5, x6, x7⟩, -⟩ := id G85
        have q0 := cell_later BW5.out HL0.out
        have q1 := cell_later BW5.out HL1.out
        have HG85 : Hid _ := G85
        have HBDF : Hid (bdF = badJ ls bd1 (s.aw.length + 1) (prs ls d T1 (anL h (lab ls v)) ++ prs ls d T2 (anL h (lab ls v)))) := HBF.out.symm.trans HBJ.out
        clear g5 m5 G85 hbdF hbd1 HBJ HBD
        dsimp only at c0
        apply wp_seq_k
        intro K6 hK6
        refine Code.wp_mono (Q := LkJ0 [(0, .pointer (some ⟨D, 0, none⟩)), (3, .pointer (some ⟨w.heap.size, 0, none⟩)), (5, .int .i64 (s.aw.length : Int)), (6, .int .i64 0)] w5) ?hq ?hr
        case hr =>
          go_wp2_with fail
          exact ⟨rfl, ⟨rfl, rfl, rfl, rfl, rfl, rfl, trivial⟩, rfl⟩
        case hq =>
          rintro e a w6 ⟨rfl, hact, rfl⟩
          refine hK6 _ _ ?_
          clear hK6 K6
          obtain ⟨u, rfl, hk⟩ := actLk_open hact
          have e0 : u 0 = .pointer (some ⟨D, 0, none⟩) := hk 0 _ (by simp)
          have e3 : u 3 = .pointer (some ⟨w.heap.size, 0, none⟩) := hk 3 _ (by simp)
          have e5 : u 5 = .int .i64 (s.aw.length : Int) := hk 5 _ (by simp)
          have e6 : u 6 = .int .i64 0 := hk 6 _ (by simp)
          clear hk hact
          simp only [e0, e3, e5, e6]
          clear e0 e3 e5 e6
          apply wp_seq_k
          intro K7 hK7
          refine Code.wp_mono (Q := LkJ2 [(0, .pointer (some ⟨D, 0, none⟩)), (3, .pointer (some ⟨w.heap.size, 0, none⟩)), (5, .int .i64 (s.aw.length : Int)), (6, .int .i64 sx)] B D (.slice (some ⟨lb, lf, none⟩) ls.length lc) (fval s1 bdF) ⟨s.ds, s.aw ++ (h :: (prs ls d T1 (anL h (lab ls v)) ++ prs ls d T2 (anL h (lab ls v))).map (·.2)), s.ss ++ (0 :: (setsL ls d T1 ++ setsL ls d T2))⟩ ((Tv.mk (.slice (some ⟨lb, lf, none⟩) ls.length lc) dv (.slice aa s.aw.length ac) (.slice sa s.ss.length sc) (fval s1 bd)).X D) w0) ?hq ?hr
          case hr =>
            clear hK7 K7
            rcases hk3 with ⟨hk, -, -⟩ | ⟨hk, -, -⟩ | hk
            · subst hk
              obtain ⟨z1, z2, z3, z4, z5, z6⟩ := HZ.out (.inl rfl)
              have HSXv : Hid (sx = (lab ls v).2) := (show sx = (lab ls v).2 by rw [← HSX.out]; simp [setX, z5, z6, orI_zero (Int.le_refl 0), orI_zero' (lab_ok hls (v : Int)).2.1])
              have HBD1 : Hid (bdF = bd1) := (show bdF = bd1 by rw [HBDF.out, z1, z2]; exact badJ_nil _ _ _)
              rw [z1, z2, z3, z4]
              have CTr : Hid _ := fun wx => trusters_any (lab ls (v : Int)).1 (lab ls (v : Int)).2 wx
              generalize lab ls (v : Int) = lx at *
              clear z1 z2 z3 z4 z5 z6 HZ HCN HBDF HSX HFB HD1 HD2
              go_wp2_with fail
              refine wp_region_held (S := (fun wz => Below w6.heap.size w6 wz)) (by kernel_rfl) ?_
              change wpAnyH _ _ _ _ _ _ _ _ (World.drew _)
              have hHeld : (fun wz => Below w6.heap.size w6 wz) (World.drew w6) := (Below.refl _ _).drew
              refine' wpAnyH_take (i := 0) (v := _) rfl (by kernel_rfl) (by kernel_rfl) (by kernel_rfl) (fun _ _ _ h => by cases h.1) (Or.inl ⟨by rfl, ?hy20014⟩) hHeld ?hn20014
              case hy20014 => (intro wz hSw; go_simp; first | done | with_reducible rfl)
              try simp only [nrm, Act.put]
              refine' wpAnyH_take (i := 1) (v := _) rfl (by kernel_rfl) (by kernel_rfl) (by kernel_rfl) (fun _ _ _ h => by cases h.1) (Or.inl ⟨by rfl, ?hy20015⟩) hHeld ?hn20015
              case hy20015 => (intro wz hSw; go_simp; first | done | with_reducible rfl)
              try simp only [nrm, Act.put]
              refine' wpAnyH_take (i := 2) (v := _) rfl (by kernel_rfl) (by kernel_rfl) (by kernel_rfl) (fun _ _ _ h => by cases h.1) (Or.inl ⟨by rfl, ?hy20016⟩) hHeld ?hn20016
              case hy20016 => (intro wz hSw; go_simp; first | done | with_reducible rfl)
              try simp only [nrm, Act.put]
              refine' wpAnyH_take (i := 3) (v := (.slice (some ⟨lb, lf, none⟩) ls.length lc)) rfl (by kernel_rfl) (by kernel_rfl) (by kernel_rfl) (fun _ _ _ h => by cases h.1) (Or.inl ⟨by rfl, ?hy20017⟩) hHeld ?hn20017
              case hy20017 => (intro wz hSw; have j0 := cell_later hSw c0; go_simp)
              try simp only [nrm, Act.put]
              refine' wpAnyH_take (i := 4) (v := _) rfl (by kernel_rfl) (by kernel_rfl) (by kernel_rfl) (fun _ _ _ h => by cases h.1) (Or.inl ⟨by rfl, ?hy20018⟩) hHeld ?hn20018
              case hy20018 => (intro wz hSw; go_simp; first | done | with_reducible rfl)
              try simp only [nrm, Act.put]
              refine' wpAnyH_take (i := 5) (v := (.int .i64 (v : Int))) rfl (by kernel_rfl) (by kernel_rfl) (by kernel_rfl) (fun _ _ _ h => by cases h.1) (Or.inl ⟨by rfl, ?hy20019⟩) hHeld ?hn20019
              case hy20019 => (intro wz hSw; have j0 := cell_later hSw x1; go_simp)
              try simp only [nrm, Act.put]
              refine' wpAnyH_take (i := 6) (v := (.pointer (some ⟨lb, lf + v * 2, none⟩))) rfl (by kernel_rfl) (by kernel_rfl) (by kernel_rfl) (fun _ _ _ h => by cases h.1) (Or.inl ⟨by rfl, ?hy20020⟩) hHeld ?hn20020
              case hy20020 => (intro wz hSw; go_simp; first | done | (simp; done))
              try simp only [nrm, Act.put]
              refine' wpAnyH_take (i := 7) (v := (.agg #[.int .i64 lx.1, .int .i64 lx.2])) rfl (by kernel_rfl) (by kernel_rfl) (by kernel_rfl) (fun _ _ _ h => by cases h.1) (Or.inl ⟨by rfl, ?hy20021⟩) hHeld ?hn20021
              case hy20021 => (intro wz hSw; have j0 := cell_later hSw q0; have j1 := cell_later hSw q1; go_simp)
              try simp only [nrm, Act.put]
              refine wpAnyH_ready (rs := [8]) (by kernel_rfl) (by simp) ?_
              refine AllReadyH.cons rfl (fun K hK => ?_) AllReadyH.nil
              go_simp
              refine Calls.mono (CTr.out _) ?_
              rintro e y7 ⟨rfl, hb7⟩
              refine hK.out _ _ (Below.then hHeld hb7 hHeld.size) (fun hHeld => ?_)
              clear hK K
              refine' wpAnyH_take (i := 9) (v := _) rfl (by kernel_rfl) (by kernel_rfl) (by kernel_rfl) (fun _ _ _ h => by cases h.1) (Or.inl ⟨by rfl, ?hy20022⟩) hHeld ?hn20022
              case hy20022 => (intro wz hSw; go_simp; first | done | with_reducible rfl)
              try simp only [nrm, Act.put]
              refine wpAnyH_done (by kernel_rfl) ?_ _
              have HB9 : Hid (Below w6.heap.size w6 y7) := hHeld
              clear hHeld q0 q1 c0 x0 x1 x2 x3 x4 x5 x6 x7
              go_wp2_with fail
              exact ⟨rfl, ⟨rfl, rfl, rfl, rfl, rfl, by rw [HSXv.out]; rfl, trivial⟩, _, rfl, by rw [HBD1.out], by simpa using HG5.out.below HB9.out, HM5.out.trans (Mv.of HB9.out)⟩
            · subst hk
              obtain ⟨z1, z2, z3, z4, z5, z6⟩ := HZ.out (.inr rfl)
              have HSXv : Hid (sx = 0) := (show sx = 0 by rw [← HSX.out]; simp [setX, z5, z6, orI_zero (Int.le_refl 0)])
              have HBD1 : Hid (bdF = bd1) := (show bdF = bd1 by rw [HBDF.out, z1, z2]; exact badJ_nil _ _ _)
              rw [z1, z2, z3, z4]
              clear z1 z2 z3 z4 z5 z6 HZ HCN HBDF HSX HFB HD1 HD2 q0 q1
              go_wp2_with fail
              exact ⟨rfl, ⟨rfl, rfl, rfl, rfl, rfl, by rw [HSXv.out]; rfl, trivial⟩, _, rfl, by rw [HBD1.out], by simpa using HG5.out, HM5.out⟩
            · subst hk
              have HSXv : Hid (sx = orI (setT ls d T1) (setT ls d T2)) := (show sx = orI (setT ls d T1) (setT ls d T2) by rw [← HSX.out]; simp [setX, orI_zero (orI_nn _ _)])
              have CJ : Hid _ := fun wx => joined_any (setT ls d T1) (setT ls d T2) wx (setT_bd hls d T1).1 (setT_bd hls d T1).2 (setT_bd hls d T2).1 (setT_bd hls d T2).2
              have CB : Hid (∀ wx : World, Calls Tryz.prog 94 #[.agg #[.int .i64 h.1, .int .i64 h.2], .agg #[.int .i64 (lab ls v).1, .int .i64 (lab ls v).2]] wx fun e w' => e = .returned (.agg #[.int .i64 (anL h (lab ls v)).1, .int .i64 (anL h (lab ls v)).2]) ∧ Below wx.heap.size wx w') := (show ∀ wx : World, _ from fun wx => both_ok hh (lab_ok hls _) wx)
              have HOK' : Hid _ := hok'
              generalize anL h (lab ls (v : Int)) = h' at *
              generalize lab ls (v : Int) = lx at *
              clear HZ HSX HFB
              go_wp2_with fail
              refine wp_region_held (S := (fun wz => wz.cell? ⟨D, 0, none⟩ = some (.slice (some ⟨lb, lf, none⟩) ls.length lc) ∧ wz.cell? ⟨w.heap.size, 1, none⟩ = some (.int .i64 (v : Int)) ∧ wz.cell? ⟨lb, lf + v * 2, none⟩ = some (.int .i64 lx.1) ∧ wz.cell? ⟨lb, lf + v * 2 + 1, none⟩ = some (.int .i64 lx.2))) (by kernel_rfl) ?_
              change wpAnyH _ _ _ _ _ _ _ _ (World.drew _)
              have hHeld : (fun wz => wz.cell? ⟨D, 0, none⟩ = some (.slice (some ⟨lb, lf, none⟩) ls.length lc) ∧ wz.cell? ⟨w.heap.size, 1, none⟩ = some (.int .i64 (v : Int)) ∧ wz.cell? ⟨lb, lf + v * 2, none⟩ = some (.int .i64 lx.1) ∧ wz.cell? ⟨lb, lf + v * 2 + 1, none⟩ = some (.int .i64 lx.2)) (World.drew w6) := ⟨c0, x1, q0, q1⟩
              have HGd : Hid _ := (show Tg B (World.drew w6) D _ _ from HG5.out.frame (fun _ _ _ => rfl))
              have HMd : Hid _ := HM5.out.trans (Mv.of (show Below w6.heap.size w6 (World.drew w6) from (Below.refl _ _).drew))
              have zBd : B ≤ (World.drew w6).heap.size := zB5
              refine' wpAnyH_take (i := 0) (v := _) rfl (by kernel_rfl) (by kernel_rfl) (by kernel_rfl) (fun _ _ _ h => by cases h.1) (Or.inl ⟨by rfl, ?hy20023⟩) hHeld ?hn20023
              case hy20023 => (intro wz hSw; go_simp; first | done | with_reducible rfl)
              try simp only [nrm, Act.put]
              refine' wpAnyH_take (i := 1) (v := _) rfl (by kernel_rfl) (by kernel_rfl) (by kernel_rfl) (fun _ _ _ h => by cases h.1) (Or.inl ⟨by rfl, ?hy20024⟩) hHeld ?hn20024
              case hy20024 => (intro wz hSw; go_simp; first | done | with_reducible rfl)
              try simp only [nrm, Act.put]
              refine' wpAnyH_take (i := 2) (v := _) rfl (by kernel_rfl) (by kernel_rfl) (by kernel_rfl) (fun _ _ _ h => by cases h.1) (Or.inl ⟨by rfl, ?hy20025⟩) hHeld ?hn20025
              case hy20025 => (intro wz hSw; go_simp; first | done | with_reducible rfl)
              try simp only [nrm, Act.put]
              refine' wpAnyH_take (i := 3) (v := _) rfl (by kernel_rfl) (by kernel_rfl) (by kernel_rfl) (fun _ _ _ h => by cases h.1) (Or.inl ⟨by rfl, ?hy20026⟩) hHeld ?hn20026
              case hy20026 => (intro wz hSw; go_simp; first | done | with_reducible rfl)
              try simp only [nrm, Act.put]
              refine' wpAnyH_take (i := 4) (v := _) rfl (by kernel_rfl) (by kernel_rfl) (by kernel_rfl) (fun _ _ _ h => by cases h.1) (Or.inl ⟨by rfl, ?hy20027⟩) hHeld ?hn20027
              case hy20027 => (intro wz hSw; go_simp; first | done | with_reducible rfl)
              try simp only [nrm, Act.put]
              refine' wpAnyH_take (i := 5) (v := _) rfl (by kernel_rfl) (by kernel_rfl) (by kernel_rfl) (fun _ _ _ h => by cases h.1) (Or.inl ⟨by rfl, ?hy20028⟩) hHeld ?hn20028
              case hy20028 => (intro wz hSw; go_simp; first | done | with_reducible rfl)
              try simp only [nrm, Act.put]
              refine' wpAnyH_take (i := 7) (v := _) rfl (by kernel_rfl) (by kernel_rfl) (by kernel_rfl) (fun _ _ _ h => by cases h.1) (Or.inl ⟨by rfl, ?hy20029⟩) hHeld ?hn20029
              case hy20029 => (intro wz hSw; go_simp; first | done | with_reducible rfl)
              try simp only [nrm, Act.put]
              refine' wpAnyH_take (i := 8) (v := _) rfl (by kernel_rfl) (by kernel_rfl) (by kernel_rfl) (fun _ _ _ h => by cases h.1) (Or.inl ⟨by rfl, ?hy20030⟩) hHeld ?hn20030
              case hy20030 => (intro wz hSw; go_simp; first | done | with_reducible rfl)
              try simp only [nrm, Act.put]
              refine' wpAnyH_take (i := 9) (v := _) rfl (by kernel_rfl) (by kernel_rfl) (by kernel_rfl) (fun _ _ _ h => by cases h.1) (Or.inl ⟨by rfl, ?hy20031⟩) hHeld ?hn20031
              case hy20031 => (intro wz hSw; go_simp; first | done | with_reducible rfl)
              try simp only [nrm, Act.put]
              refine' wpAnyH_take (i := 10) (v := (.slice (some ⟨lb, lf, none⟩) ls.length lc)) rfl (by kernel_rfl) (by kernel_rfl) (by kernel_rfl) (fun _ _ _ h => by cases h.1) (Or.inl ⟨by rfl, ?hy20032⟩) hHeld ?hn20032
              case hy20032 => (intro wz hSw; obtain ⟨j0, j1, j2, j3⟩ := hSw; go_simp)
              try simp only [nrm, Act.put]
              refine' wpAnyH_take (i := 11) (v := _) rfl (by kernel_rfl) (by kernel_rfl) (by kernel_rfl) (fun _ _ _ h => by cases h.1) (Or.inl ⟨by rfl, ?hy20033⟩) hHeld ?hn20033
              case hy20033 => (intro wz hSw; go_simp; first | done | with_reducible rfl)
              try simp only [nrm, Act.put]
              refine' wpAnyH_take (i := 12) (v := (.int .i64 (v : Int))) rfl (by kernel_rfl) (by kernel_rfl) (by kernel_rfl) (fun _ _ _ h => by cases h.1) (Or.inl ⟨by rfl, ?hy20034⟩) hHeld ?hn20034
              case hy20034 => (intro wz hSw; obtain ⟨j0, j1, j2, j3⟩ := hSw; go_simp)
              try simp only [nrm, Act.put]
              refine' wpAnyH_take (i := 13) (v := (.pointer (some ⟨lb, lf + v * 2, none⟩))) rfl (by kernel_rfl) (by kernel_rfl) (by kernel_rfl) (fun _ _ _ h => by cases h.1) (Or.inl ⟨by rfl, ?hy20035⟩) hHeld ?hn20035
              case hy20035 => (intro wz hSw; go_simp; first | done | (simp; done))
              try simp only [nrm, Act.put]
              refine' wpAnyH_take (i := 14) (v := (.agg #[.int .i64 lx.1, .int .i64 lx.2])) rfl (by kernel_rfl) (by kernel_rfl) (by kernel_rfl) (fun _ _ _ h => by cases h.1) (Or.inl ⟨by rfl, ?hy20036⟩) hHeld ?hn20036
              case hy20036 => (intro wz hSw; obtain ⟨j0, j1, j2, j3⟩ := hSw; go_simp)
              try simp only [nrm, Act.put]
              refine wpAnyH_ready (rs := [6]) (by kernel_rfl) (by simp) ?_
              refine AllReadyH.cons rfl (fun K hK => ?_) AllReadyH.nil
              go_simp
              refine Calls.mono (top_tg HGd.out HDS.out (by omega)) ?_
              rintro e y1 ⟨rfl, hb1⟩
              have HG1 : Hid _ := HGd.out.below hb1
              have HM1 : Hid _ := HMd.out.trans (Mv.of hb1)
              have zy1 : B ≤ y1.heap.size := Nat.le_trans zBd hb1.size
              refine hK.out _ _ (⟨cell_later hb1 hHeld.1, cell_later hb1 hHeld.2.1, cell_later hb1 hHeld.2.2.1, cell_later hb1 hHeld.2.2.2⟩) (fun hHeld => ?_)
              clear hK K
              refine wpAnyH_ready (rs := [15]) (by kernel_rfl) (by simp) ?_
              refine AllReadyH.cons rfl (fun K hK => ?_) AllReadyH.nil
              go_simp
              refine Calls.mono (CB.out _) ?_
              rintro e y2 ⟨rfl, hb2⟩
              have HG2 : Hid _ := HG1.out.below hb2
              have HM2 : Hid _ := HM1.out.trans (Mv.of hb2)
              have zy2 : B ≤ y2.heap.size := Nat.le_trans zy1 hb2.size
              refine hK.out _ _ (⟨cell_later hb2 hHeld.1, cell_later hb2 hHeld.2.1, cell_later hb2 hHeld.2.2.1, cell_later hb2 hHeld.2.2.2⟩) (fun hHeld => ?_)
              clear hK K
              refine wpAnyH_ready (rs := [16]) (by kernel_rfl) (by simp) ?_
              refine AllReadyH.cons rfl (fun K hK => ?_) AllReadyH.nil
              go_simp
              have hdl : s.ds.length ≤ 1048576 := by have := HDS.out; rw [this]; simp; omega
              refine Calls.mono (push_any h'.1 h'.2 HG2.out zy2 hdl) ?_
              rintro e y3 ⟨dv3, rfl, g3, m3⟩
              have HG3 : Hid (Tg B y3 D ⟨(.slice (some ⟨lb, lf, none⟩) ls.length lc), dv3, .slice va3 (s.aw.length + 1) vc3, .slice va4 (s.ss.length + 1) vc4, fval s1 bd1⟩ ⟨s.ds ++ [h'], s.aw ++ [h], s.ss ++ [0]⟩) := g3
              have HM3 : Hid (Mv ((Tv.mk (.slice (some ⟨lb, lf, none⟩) ls.length lc) dv (.slice aa s.aw.length ac) (.slice sa s.ss.length sc) (fval s1 bd)).X D) w0 y3 ((Tv.mk (.slice (some ⟨lb, lf, none⟩) ls.length lc) dv3 (.slice va3 (s.aw.length + 1) vc3) (.slice va4 (s.ss.length + 1) vc4) (fval s1 bd1)).X D)) := HM2.out.trans m3
              have nxb : ∀ b, b < W.heap.size → ¬ (Tv.mk (.slice (some ⟨lb, lf, none⟩) ls.length lc) dv (.slice aa s.aw.length ac) (.slice sa s.ss.length sc) (fval s1 bd)).X D b := fun b hb hx => by have := HG0X.out b hx; omega
              clear g3 m3
              refine hK.out _ _ (⟨HG3.out.c0, (World.cell?_of_block (HM3.out.block _ zW' NX.out)).trans G8.1.2.1, (World.cell?_of_block (HM3.out.block _ (show lb < w0.heap.size by omega) (nxb _ hlb))).trans (cell_later BW0.out HL0.out), (World.cell?_of_block (HM3.out.block _ (show lb < w0.heap.size by omega) (nxb _ hlb))).trans (cell_later BW0.out HL1.out)⟩) (fun hHeld => ?_)
              clear hK K
              refine wpAnyH_done (by kernel_rfl) ?_ _
              clear hHeld HG1 HG2 HM1 HM2 HGd HMd c0 x0 x1 x2 x3 x4 x5 x6 x7 q0 q1 HG5 HM5 HG85
              obtain ⟨⟨-, -, -, -, -, -, x6, x7⟩, -⟩ := G8.same (HM3.out.block _ zW' NX.out)
              have CL1 : Hid _ := HD1.out y3 _ _ s.ds h' bd1 (BW0.out.trans (HM3.out.below (fun b hb => HG0X.out b hb) BW0.out.size)) (Nat.le_trans (by omega) HM3.out.size) rfl rfl HG3.out rfl HOK'.out (by have := HAS.out; simp; omega) (by have := HDS.out; rw [this]; simp; omega) (by simp; omega)
              go_wp2_with fail
              go_at_call 58; refine Calls.mono CL1.out ?_
              rintro e w7 ⟨t7, rfl, v7, f7, g7, m7⟩
              have HG7 : Hid (Tg B w7 D t7 ⟨s.ds ++ [h'], s.aw ++ [h] ++ (prs ls d T1 h').map (·.2), s.ss ++ [0] ++ setsL ls d T1⟩) := g7
              have HM7 : Hid (Mv ((Tv.mk (.slice (some ⟨lb, lf, none⟩) ls.length lc) dv (.slice aa s.aw.length ac) (.slice sa s.ss.length sc) (fval s1 bd)).X D) w0 w7 (t7.X D)) := HM3.out.trans m7
              clear x6 x7 g7 m7 CL1
              obtain ⟨⟨-, -, -, -, -, -, x6, x7⟩, -⟩ := G8.same (HM7.out.block _ zW' NX.out)
              have CL2 : Hid _ := HD2.out w7 t7 _ s.ds h' _ (BW0.out.trans (HM7.out.below (fun b hb => HG0X.out b hb) BW0.out.size)) (Nat.le_trans (by omega) HM7.out.size) v7 f7 HG7.out rfl HOK'.out (by have := HAS.out; have := HCN.out; simp; omega) (by have := HDS.out; rw [this]; simp; omega) (by have := HCN.out; simp; omega)
              have HV7 : Hid _ := And.intro v7 f7
              clear v7 f7
              go_wp2_with fail
              go_at_call 58; refine Calls.mono CL2.out ?_
              rintro e w9 ⟨t9, rfl, v9, f9, g9, m9⟩
              have HG9 : Hid (Tg B w9 D t9 ⟨s.ds ++ [h'], s.aw ++ [h] ++ (prs ls d T1 h').map (·.2) ++ (prs ls d T2 h').map (·.2), s.ss ++ [0] ++ setsL ls d T1 ++ setsL ls d T2⟩) := g9
              have HM9 : Hid (Mv ((Tv.mk (.slice (some ⟨lb, lf, none⟩) ls.length lc) dv (.slice aa s.aw.length ac) (.slice sa s.ss.length sc) (fval s1 bd)).X D) w0 w9 (t9.X D)) := HM7.out.trans m9
              have HV9 : Hid (t9.vv = (.slice (some ⟨lb, lf, none⟩) ls.length lc) ∧ t9.fv = fval s1 (badJ ls (badJ ls bd1 (s.aw.length + 1) (prs ls d T1 h')) (s.aw.length + 1 + (prs ls d T1 h').length) (prs ls d T2 h'))) := ⟨v9.trans HV7.out.1, f9.trans (by simp only [List.length_append, List.length_singleton, List.length_map])⟩
              clear g9 m9 v9 f9 x6 x7 CL2
              go_wp2_with fail
              go_at_call 77; refine Calls.mono (CJ.out _) ?_
              rintro e w10 ⟨rfl, hw10⟩
              subst w10
              have CP : Hid _ := pop_any (B := B) HG9.out (ds := s.ds) (a := h') rfl (by have := HDS.out; rw [this]; simp; omega)
              go_wp2_with fail
              go_at_call 95; refine Calls.mono CP.out ?_
              rintro e w11 ⟨dv11, rfl, g11, m11⟩
              have HF11 : Hid _ := And.intro g11 (HM9.out.trans m11)
              clear g11 m11
              go_wp2_with fail
              exact ⟨rfl, ⟨rfl, rfl, rfl, rfl, rfl, by rw [HSXv.out]; rfl, trivial⟩, ⟨t9.vv, dv11, t9.av, t9.sv, t9.fv⟩, HV9.out.1, by rw [HBDF.out, ← badJ_app]; exact HV9.out.2, by simpa [List.append_assoc] using HF11.out.1, HF11.out.2⟩
          case hq =>
            rintro e a w8 ⟨rfl, hact, t8, v8, f8, g8, m8⟩
            refine hK7 _ _ ?_
            clear hK7 K7
            obtain ⟨u, rfl, hk⟩ := actLk_open hact
            have e0 : u 0 = .pointer (some ⟨D, 0, none⟩) := hk 0 _ (by simp)
            have e3 : u 3 = .pointer (some ⟨w.heap.size, 0, none⟩) := hk 3 _ (by simp)
            have e5 : u 5 = .int .i64 (s.aw.length : Int) := hk 5 _ (by simp)
            have e6 : u 6 = .int .i64 sx := hk 6 _ (by simp)
            clear hk hact
            simp only [e0, e3, e5, e6]
            clear e0 e3 e5 e6
            obtain ⟨g, gc, hsv, k0, k1⟩ := g8.setsv (m := s.aw.length) (by have := HAS.out; simp; omega)
            have P8 : Hid _ := g8.put s.aw.length sx hsv
            have HM8 : Hid (Mv ((Tv.mk (.slice (some ⟨lb, lf, none⟩) ls.length lc) dv (.slice aa s.aw.length ac) (.slice sa s.ss.length sc) (fval s1 bd)).X D) w0 w8 (t8.X D)) := m8
            have HV8 : Hid _ := And.intro v8 f8
            have k3 := g8.c3
            rw [hsv] at k3
            obtain ⟨sl, hsl⟩ : ∃ n, n = (s.ss ++ (0 :: (setsL ls d T1 ++ setsL ls d T2))).length := ⟨_, rfl⟩
            dsimp only at k3 k0
            rw [← hsl] at k3
            have i0' : (0 : Int) ≤ (s.aw.length : Int) := by omega
            have i1' : (s.aw.length : Int) < (sl : Int) := by rw [hsl]; have := HAS.out; simp; omega
            generalize (s.ss ++ (0 :: (setsL ls d T1 ++ setsL ls d T2)))[s.aw.length] = k0v at k0
            clear g8 m8 v8 f8 hsv hsl x0 x1 x2 x3 x4 x5 x6 x7 q0 q1 c0
            go_wp2_with fail
            have hset : (s.ss ++ (0 :: (setsL ls d T1 ++ setsL ls d T2))).set s.aw.length sx = s.ss ++ (sx :: (setsL ls d T1 ++ setsL ls d T2)) := by rw [HAS.out, List.set_append_right _ _ (Nat.le_refl _)]; simp
            have P9 := P8.out
            rw [hset] at P9
            exact bodyPost_ret (v := .int .i64 sx) (by simp [results, Tryz.results78, go_sem]) rfl ⟨t8, rfl, HV8.out.1, by rw [HBF.out]; exact HV8.out.2, P9.1, (Mv.of HA.out).trans (HM8.out.trans P9.2)⟩

end Go.Proofs.YthcgdhlemieboaaGreatDoor

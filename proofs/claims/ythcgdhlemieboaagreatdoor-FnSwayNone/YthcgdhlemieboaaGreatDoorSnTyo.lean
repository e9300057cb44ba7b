/- All that is said of a program. -/
import Derived.Test.YthcgdhlemieboaaGreatDoorSnTln
import Derived.Test.YthcgdhlemieboaaGreatDoorSnImp
namespace Go.Proofs.YthcgdhlemieboaaGreatDoor
open Go.RowKit
set_option linter.unusedSimpArgs false
set_option linter.unusedVariables false
attribute [local go_sem] World.cell?_alloc_some
theorem rowt_mono {w : World} {base base' : Nat} {e : TypeId} {sz : Nat} {v : Value} {n : Nat} {xs : List Value} (h : w.ownsRow base e sz v n xs) (hb : base' ≤ base) : w.ownsRow base' e sz v n xs :=
  ⟨h.1, h.2.imp id (fun ⟨g, cap, cur, hv, hg, r⟩ => ⟨g, cap, cur, hv, Nat.le_trans hb hg, r⟩)⟩
theorem Fs.set5 {b : Nat} {w w' : World} (h : Fs [b] w w') (u0 u1 u2 u3 u4 : Value) : Fs [b] w (((((w'.setCell ⟨b, 0, none⟩ u0).setCell ⟨b, 1, none⟩ u1).setCell ⟨b, 2, none⟩ u2).setCell ⟨b, 3, none⟩ u3).setCell ⟨b, 4, none⟩ u4) :=
  ((((h.setT _ _ (by simp)).setT _ _ (by simp)).setT _ _ (by simp)).setT _ _ (by simp)).setT _ _ (by simp)
theorem below_set5 {B b : Nat} {w w' : World} (h : Below B w w') (hb : B ≤ b) (u0 u1 u2 u3 u4 : Value) : Below B w (((((w'.setCell ⟨b, 0, none⟩ u0).setCell ⟨b, 1, none⟩ u1).setCell ⟨b, 2, none⟩ u2).setCell ⟨b, 3, none⟩ u3).setCell ⟨b, 4, none⟩ u4) :=
  ((((h.setCell hb _).setCell hb _).setCell hb _).setCell hb _).setCell hb _
def C5 (w : World) (b : Nat) (v0 v1 v2 v3 v4 : Value) : Prop := (w.cell? ⟨b, 0, none⟩ = some v0 ∧ w.cell? ⟨b, 1, none⟩ = some v1 ∧ w.cell? ⟨b, 2, none⟩ = some v2 ∧ w.cell? ⟨b, 3, none⟩ = some v3 ∧ w.cell? ⟨b, 4, none⟩ = some v4) ∧ (∀ i, i < 5 → w.frozen? ⟨b, i, none⟩ = false)
theorem C5.same {w w' : World} {b : Nat} {v0 v1 v2 v3 v4 : Value} (h : C5 w b v0 v1 v2 v3 v4) (e : w'.heap[b]? = w.heap[b]?) : C5 w' b v0 v1 v2 v3 v4 := by
  obtain ⟨⟨c0, c1, c2, c3, c4⟩, f⟩ := h
  exact ⟨⟨(World.cell?_of_block e).trans c0, (World.cell?_of_block e).trans c1, (World.cell?_of_block e).trans c2, (World.cell?_of_block e).trans c3, (World.cell?_of_block e).trans c4⟩, fun i hi => (World.frozen?_of_block (a := ⟨b, i, none⟩) e).trans (f i hi)⟩
theorem C5.lt {w : World} {b : Nat} {v0 v1 v2 v3 v4 : Value} (h : C5 w b v0 v1 v2 v3 v4) : b < w.heap.size := World.block_lt_of_cell? w _ h.1.1
theorem C5.below {w w' : World} {b : Nat} {v0 v1 v2 v3 v4 : Value} (h : C5 w b v0 v1 v2 v3 v4) (hb : Below w.heap.size w w') : C5 w' b v0 v1 v2 v3 v4 := h.same (hb.block _ h.lt)
theorem C5.setall {w : World} {b : Nat} {v0 v1 v2 v3 v4 : Value} (h : C5 w b v0 v1 v2 v3 v4) (u0 u1 u2 u3 u4 : Value) : C5 (((((w.setCell ⟨b, 0, none⟩ u0).setCell ⟨b, 1, none⟩ u1).setCell ⟨b, 2, none⟩ u2).setCell ⟨b, 3, none⟩ u3).setCell ⟨b, 4, none⟩ u4) b u0 u1 u2 u3 u4 := by
  obtain ⟨⟨c0, c1, c2, c3, c4⟩, f⟩ := h
  have o : ∀ (x : World) (i j : Nat) (u : Value), i ≠ j → (x.setCell ⟨b, j, none⟩ u).cell? ⟨b, i, none⟩ = x.cell? ⟨b, i, none⟩ := fun x i j u hij => World.cell?_setCell_other _ _ _ _ (by simp <;> omega)
  refine ⟨⟨?_, ?_, ?_, ?_, ?_⟩, fun i hi => ?_⟩
  · rw [o _ _ _ _ (by decide), o _ _ _ _ (by decide), o _ _ _ _ (by decide), o _ _ _ _ (by decide)]
    exact World.cell?_setCell_same _ _ _ c0
  · rw [o _ _ _ _ (by decide), o _ _ _ _ (by decide), o _ _ _ _ (by decide)]
    exact World.cell?_setCell_same _ _ _ ((o _ _ _ _ (by decide)).trans c1)
  · rw [o _ _ _ _ (by decide), o _ _ _ _ (by decide)]
    exact World.cell?_setCell_same _ _ _ ((o _ _ _ _ (by decide)).trans ((o _ _ _ _ (by decide)).trans c2))
  · rw [o _ _ _ _ (by decide)]
    exact World.cell?_setCell_same _ _ _ ((o _ _ _ _ (by decide)).trans ((o _ _ _ _ (by decide)).trans ((o _ _ _ _ (by decide)).trans c3)))
  · exact World.cell?_setCell_same _ _ _ ((o _ _ _ _ (by decide)).trans ((o _ _ _ _ (by decide)).trans ((o _ _ _ _ (by decide)).trans ((o _ _ _ _ (by decide)).trans c4))))
  · simp only [World.frozen?_setCell]; exact f i hi
def atR (ls : List (Int × Int)) (d : Nat) (T : Tr d) : List (Int × Int) := if progB ls d T then atT ls d T topL else []
def seR (ls : List (Int × Int)) (d : Nat) (T : Tr d) : List Int := if progB ls d T then setsL ls d T else []
def errR (s0 s1 : Addr) (ls : List (Int × Int)) (d : Nat) (T : Tr d) : Value := if progB ls d T then fval s1 (badI ls (prs ls d T topL)) else .iface 166 (.pointer (some s0))
def TyPost (w : World) (s0 s1 : Addr) (ls : List (Int × Int)) (d : Nat) (T : Tr d) (e : Ending) (w' : World) : Prop :=
  ∃ (va : Option Addr) (vn vc : Nat) (da : Option Addr) (dn dc : Nat) (aa : Option Addr) (ac : Nat) (sa : Option Addr) (sc : Nat) (bd : Option Nat), e = .returned (.tuple #[.agg #[.slice va vn vc, .slice da dn dc, .slice aa (atR ls d T).length ac, .slice sa (seR ls d T).length sc, fval s1 bd], errR s0 s1 ls d T]) ∧ Below w.heap.size w w' ∧ w'.ownsRow w.heap.size 68 2 (.slice aa (atR ls d T).length ac) (atR ls d T).length (pcells (atR ls d T)) ∧ w'.ownsRow w.heap.size 3 1 (.slice sa (seR ls d T).length sc) (seR ls d T).length ((seR ls d T).map (Value.int .i64))
theorem TyPost.no {w : World} {s0 s1 : Addr} {ls : List (Int × Int)} {d : Nat} {T : Tr d} {w' : World} (hp : progB ls d T = false) (hb : Below w.heap.size w w') : TyPost w s0 s1 ls d T (.returned (.tuple #[.agg #[.slice none 0 0, .slice none 0 0, .slice none 0 0, .slice none 0 0, .nilIface], .iface 166 (.pointer (some s0))])) w' := by
  unfold TyPost atR seR errR
  rw [hp]
  exact ⟨none, 0, 0, none, 0, 0, none, 0, none, 0, none, rfl, hb, World.ownsRow_nil _ _ _ _, World.ownsRow_nil _ _ _ _⟩
theorem TyPost.yes {w : World} {s0 s1 : Addr} {ls : List (Int × Int)} {d : Nat} {T : Tr d} {w' : World} {va da aa sa : Option Addr} {vn vc dn dc ac sc an sn : Nat} {bd : Option Nat} {er : Value} (hp : progB ls d T = true) (hb : Below w.heap.size w w')
    (ha : w'.ownsRow w.heap.size 68 2 (.slice aa an ac) (atT ls d T topL).length (pcells (atT ls d T topL))) (hs : w'.ownsRow w.heap.size 3 1 (.slice sa sn sc) (setsL ls d T).length ((setsL ls d T).map (Value.int .i64))) (han : an = (atT ls d T topL).length) (hsn : sn = (setsL ls d T).length) (he : er = fval s1 (badI ls (prs ls d T topL))) :
    TyPost w s0 s1 ls d T (.returned (.tuple #[.agg #[.slice va vn vc, .slice da dn dc, .slice aa an ac, .slice sa sn sc, fval s1 bd], er])) w' := by
  subst han hsn he
  unfold TyPost atR seR errR
  rw [hp]
  exact ⟨va, vn, vc, da, dn, dc, aa, ac, sa, sc, bd, rfl, hb, ha, hs⟩

set_option maxHeartbeats 8000000 in
set_option maxRecDepth 20000 in
theorem typingOf_any {d : Nat} {T : Tr d} {lv sv : Value} {ls : List (Int × Int)} {w : World} {s0 s1 : Addr} (hL : LRep w lv ls) (hR : Rep w d sv T) (hg0 : w.cell? ⟨0, 0, none⟩ = some (.iface 166 (.pointer (some s0)))) (hg1 : w.cell? ⟨1, 0, none⟩ = some (.iface 166 (.pointer (some s1)))) :
    Calls Tryz.prog 29 #[.agg #[lv, sv]] w (TyPost w s0 s1 ls d T) := by
  obtain ⟨la, lc, hv0, -⟩ := id hL
  obtain ⟨sa, sc, hv1⟩ := id hR.slice
  subst hv0 hv1
  have A : Below w.heap.size w ((w.alloc (.cells #[.slice la ls.length lc, .slice sa (ln d T) sc] 26)).alloc (.cells #[.slice none 0 0, .slice none 0 0, .slice none 0 0, .slice none 0 0, .nilIface] 58)) := ((Below.refl _ _).alloc (Nat.le_refl _) _).alloc (by simp) _
  have C1 : Hid _ := progOk_any (hL.below A) (hR.below A)
  have HL : Hid (∀ w', Below w.heap.size w w' → LRep w' (.slice la ls.length lc) ls) := (show ∀ w', _ from fun w' hb => hL.below hb)
  have HR : Hid (∀ w', Below w.heap.size w w' → Rep w' d (.slice sa (ln d T) sc) T) := (show ∀ w', _ from fun w' hb => hR.below hb)
  have GR : C5 ((w.alloc (.cells #[.slice la ls.length lc, .slice sa (ln d T) sc] 26)).alloc (.cells #[.slice none 0 0, .slice none 0 0, .slice none 0 0, .slice none 0 0, .nilIface] 58)) (w.heap.size + 1) (.slice none 0 0) (.slice none 0 0) (.slice none 0 0) (.slice none 0 0) .nilIface := by
    refine ⟨⟨?_, ?_, ?_, ?_, ?_⟩, fun i hi => ?_⟩ <;> simp
  have b0 : ((w.alloc (.cells #[.slice la ls.length lc, .slice sa (ln d T) sc] 26)).alloc (.cells #[.slice none 0 0, .slice none 0 0, .slice none 0 0, .slice none 0 0, .nilIface] 58)).cell? ⟨w.heap.size, 0, none⟩ = some (.slice la ls.length lc) := by go_simp
  have b1 : ((w.alloc (.cells #[.slice la ls.length lc, .slice sa (ln d T) sc] 26)).alloc (.cells #[.slice none 0 0, .slice none 0 0, .slice none 0 0, .slice none 0 0, .nilIface] 58)).cell? ⟨w.heap.size, 1, none⟩ = some (.slice sa (ln d T) sc) := by go_simp
  have zW : w.heap.size + 2 = ((w.alloc (.cells #[.slice la ls.length lc, .slice sa (ln d T) sc] 26)).alloc (.cells #[.slice none 0 0, .slice none 0 0, .slice none 0 0, .slice none 0 0, .nilIface] 58)).heap.size := by simp
  have HA : Hid (Below w.heap.size w ((w.alloc (.cells #[.slice la ls.length lc, .slice sa (ln d T) sc] 26)).alloc (.cells #[.slice none 0 0, .slice none 0 0, .slice none 0 0, .slice none 0 0, .nilIface] 58))) := A
  have HGR : Hid _ := GR
  have HB0 : Hid _ := b0
  have HB1 : Hid _ := b1
  have HG0 : Hid _ := hg0
  have HG1 : Hid _ := hg1
  have HZW : Hid _ := zW
  clear hL hR A GR b0 b1 hg0 hg1 zW
  obtain ⟨pb, hpb⟩ : ∃ x, progB ls d T = x := ⟨_, rfl⟩
  rw [hpb] at C1
  have HPB : Hid _ := hpb
  clear hpb
  go_enter Tryz.func29, Tryz.ntmps29
  go_wp2_with fail
  go_at_call 21; refine Calls.mono C1.out ?_; rintro e w1 ⟨rfl, hb1⟩
  have HB : Hid (Below w.heap.size w w1) := Below.then HA.out hb1 HA.out.size
  have HR1 : Hid (C5 w1 (w.heap.size + 1) (.slice none 0 0) (.slice none 0 0) (.slice none 0 0) (.slice none 0 0) .nilIface) := C5.below HGR.out hb1
  have b0 := cell_later hb1 HB0.out
  have b1 := cell_later hb1 HB1.out
  have z1 : w.heap.size + 2 ≤ w1.heap.size := by have := hb1.size; have := HZW.out; omega
  have g0 := cell_later HB.out HG0.out
  have g1 := cell_later HB.out HG1.out
  clear hb1 C1 HA HGR HB0 HB1 HZW
  cases pb
  · clear b0 b1 g1 HG1 HL HR
    go_wp2_with fail
    refine wp_region_held (S := (fun wz => Below w.heap.size w wz)) (by kernel_rfl) ?_
    change wpAnyH _ _ _ _ _ _ _ _ (World.drew _)
    have hHeld : (fun wz => Below w.heap.size w wz) (World.drew w1) := HB.out.drew
    refine' wpAnyH_take (i := 0) (v := _) rfl (by kernel_rfl) (by kernel_rfl) (by kernel_rfl) (fun _ _ _ h => h) (Or.inl ⟨by rfl, ?hy40001⟩) hHeld ?hn40001
    case hy40001 => (intro wz hSw; go_simp; first | done | with_reducible rfl)
    try simp only [nrm, Act.put]
    refine' wpAnyH_take (i := 1) (v := (.iface 166 (.pointer (some s0)))) rfl (by kernel_rfl) (by kernel_rfl) (by kernel_rfl) (fun _ _ _ h => h) (Or.inl ⟨by rfl, ?hy40002⟩) hHeld ?hn40002
    case hy40002 => (intro wz hSw; have j0 := cell_later hSw HG0.out; go_simp)
    try simp only [nrm, Act.put]
    refine wpAnyH_ready (rs := [2]) (by kernel_rfl) (by simp) ?_
    refine AllReadyH.cons rfl (fun K hK => ?_) AllReadyH.nil
    have HRd : Hid (C5 (World.drew w1) (w.heap.size + 1) (.slice none 0 0) (.slice none 0 0) (.slice none 0 0) (.slice none 0 0) .nilIface) := HR1.out.same rfl
    have HS : Hid _ := HR1.out.setall (.slice none 0 0) (.slice none 0 0) (.slice none 0 0) (.slice none 0 0) .nilIface
    obtain ⟨⟨r0, r1, r2, r3, r4⟩, rf⟩ := id HR1.out
    have rf0 := rf 0 (by omega)
    have rf1 := rf 1 (by omega)
    have rf2 := rf 2 (by omega)
    have rf3 := rf 3 (by omega)
    have rf4 := rf 4 (by omega)
    go_simp
    clear r0 r1 r2 r3 r4 rf rf0 rf1 rf2 rf3 rf4
    refine hK.out _ _ ((below_set5 HB.out (Nat.le_succ _) _ _ _ _ _).drew) (fun hHeld => ?_)
    clear hK K
    refine' wpAnyH_take (i := 3) (v := _) rfl (by kernel_rfl) (by kernel_rfl) (by kernel_rfl) (fun _ _ _ h => h) (Or.inl ⟨by rfl, ?hy40003⟩) hHeld ?hn40003
    case hy40003 => (intro wz hSw; go_simp; first | done | with_reducible rfl)
    try simp only [nrm, Act.put]
    refine wpAnyH_done (by kernel_rfl) ?_ _
    have HBF : Hid _ := TyPost.no (s0 := s0) (s1 := s1) HPB.out hHeld
    clear hHeld
    go_wp2_with fail
    obtain ⟨⟨q0, q1, q2, q3, q4⟩, -⟩ := HS.out
    exact bodyPost_ret (v := .tuple #[.agg #[.slice none 0 0, .slice none 0 0, .slice none 0 0, .slice none 0 0, .nilIface], .iface 166 (.pointer (some s0))]) (by simp [results, Tryz.results29, go_sem, q0, q1, q2, q3, q4]) rfl HBF.out
  · have hp := HPB.out
    have hls := progB_labs hp
    have hst := progB_st hp
    have hcn := progB_cnt hp
    have hn4 := progB_len hp
    have A2 : Below w1.heap.size w1 (w1.alloc (.cells #[.slice la ls.length lc, .slice none 0 0, .slice none 0 0, .slice none 0 0, .nilIface] 58)) := (Below.refl _ _).alloc (Nat.le_refl _) _
    have G2 : Tg w1.heap.size (w1.alloc (.cells #[.slice la ls.length lc, .slice none 0 0, .slice none 0 0, .slice none 0 0, .nilIface] 58)) w1.heap.size ⟨.slice la ls.length lc, .slice none 0 0, .slice none 0 0, .slice none 0 0, .nilIface⟩ ⟨[], [], []⟩ := by
      refine ⟨?_, ?_, ?_, ?_, ?_, fun i hi => ?_, World.ownsRow_nil _ _ _ _, World.ownsRow_nil _ _ _ _, World.ownsRow_nil _ _ _ _, fun b e => (by cases e), fun b e => (by cases e), fun b e => (by cases e), (by intro e; cases e), (by intro e; cases e), (by intro e; cases e)⟩ <;> simp
    have HA2 : Hid _ := A2
    have HG2 : Hid _ := G2
    have b1' : (w1.alloc (.cells #[.slice la ls.length lc, .slice none 0 0, .slice none 0 0, .slice none 0 0, .nilIface] 58)).cell? ⟨w.heap.size, 1, none⟩ = some (.slice sa (ln d T) sc) := cell_later A2 b1
    have CLO : Hid _ := fun wx => labelOf_any 7 7 wx
    have HB1' : Hid _ := b1'
    have HLK : Hid (LookOk w1 w1.heap.size w1.heap.size s1 ls (.slice la ls.length lc) 3 d T (.slice sa (ln d T) sc)) := look_any (Nat.le_refl _) (Nat.le_refl _) g1 (HL.out _ HB.out) hls hn4 d T 3 _ (HR.out _ HB.out) hst
    have HXO : Hid (∀ b, ¬ (Tv.mk (.slice la ls.length lc) (.slice none 0 0) (.slice none 0 0) (.slice none 0 0) .nilIface).X w1.heap.size b ∨ b = w1.heap.size) := (show ∀ b, _ from fun b => by
      by_cases hbb : b = w1.heap.size
      · exact .inr hbb
      · exact .inl (fun hx => hx.elim hbb (fun e => e.elim (fun e => by cases e) (fun e => e.elim (fun e => by cases e) (fun e => by cases e)))))
    clear A2 G2 b1' hp hls hst g0 HG0 HR HL HG1
    go_wp2_with fail
    go_at_call 57; refine Calls.mono (CLO.out _) ?_; rintro e w2 ⟨rfl, hb2⟩
    have HG3 : Hid _ := HG2.out.below hb2
    have z2 : w1.heap.size ≤ w2.heap.size := Nat.le_trans HA2.out.size hb2.size
    have HM3 : Hid (Mv ((Tv.mk (.slice la ls.length lc) (.slice none 0 0) (.slice none 0 0) (.slice none 0 0) .nilIface).X w1.heap.size) w1 w2 ((Tv.mk (.slice la ls.length lc) (.slice none 0 0) (.slice none 0 0) (.slice none 0 0) .nilIface).X w1.heap.size)) := Mv.of (Below.then HA2.out hb2 HA2.out.size)
    have CP : Hid _ := push_any (B := w1.heap.size) 7 7 HG3.out z2 (by simp)
    have HB2' : Hid _ := cell_later hb2 HB1'.out
    clear hb2 HG2 CLO HA2 HB1' b1
    go_wp2_with fail
    go_at_call 56; refine Calls.mono CP.out ?_; rintro e w3 ⟨dv3, rfl, g3, m3⟩
    have HG4 : Hid (Tg w1.heap.size w3 w1.heap.size ⟨.slice la ls.length lc, dv3, .slice none 0 0, .slice none 0 0, .nilIface⟩ ⟨[topL], [], []⟩) := g3
    have HM4 : Hid (Mv ((Tv.mk (.slice la ls.length lc) (.slice none 0 0) (.slice none 0 0) (.slice none 0 0) .nilIface).X w1.heap.size) w1 w3 ((Tv.mk (.slice la ls.length lc) dv3 (.slice none 0 0) (.slice none 0 0) .nilIface).X w1.heap.size)) := HM3.out.trans m3
    have HX4 : Hid (∀ b, (Tv.mk (.slice la ls.length lc) (.slice none 0 0) (.slice none 0 0) (.slice none 0 0) .nilIface).X w1.heap.size b → w1.heap.size ≤ b) := (show ∀ b, _ → _ from fun b hb => (HXO.out b).elim (fun h => absurd hb h) (fun h => by omega))
    have b1 : w3.cell? ⟨w.heap.size, 1, none⟩ = some (.slice sa (ln d T) sc) := m3.cell HB2'.out (fun hx => by have := HX4.out _ hx; dsimp only at this; omega)
    have z3 : w1.heap.size ≤ w3.heap.size := Nat.le_trans z2 m3.size
    have CL : Hid _ := HLK.out w3 ⟨.slice la ls.length lc, dv3, .slice none 0 0, .slice none 0 0, .nilIface⟩ ⟨[topL], [], []⟩ [] topL none (HM4.out.below HX4.out (Nat.le_refl _)) z3 rfl rfl HG4.out rfl topL_ok rfl (by simp) (by simp; omega)
    clear g3 m3 CP HB2'
    go_wp2_with fail
    go_at_call 58; refine Calls.mono CL.out ?_; rintro e w4 ⟨⟨vv4, dv4, av4, sv4, fv4⟩, rfl, v4, f4, g4, m4⟩
    dsimp only at v4 f4
    subst v4 f4
    have hal : (prs ls d T topL).length = cnt d T := prs_length ls d T topL
    have hsl : (setsL ls d T).length = cnt d T := setsL_length ls d T
    obtain ⟨da4, dc4, rfl⟩ := rowt_slice g4.ds
    obtain ⟨aa4, ac4, rfl⟩ := rowt_slice g4.aw
    obtain ⟨sa4, sc4, rfl⟩ := rowt_slice g4.ss
    dsimp only [List.nil_append] at g4
    have hB1 : badJ ls none ([] : List (Int × Int)).length (prs ls d T topL) = badI ls (prs ls d T topL) := by simp [badJ]
    dsimp only at m4 ⊢
    rw [hB1] at g4 m4
    have HM5 : Hid _ := HM4.out.trans m4
    have HB4 : Hid (Below w.heap.size w w4) := HB.out.trans ((HM5.out.below HX4.out (Nat.le_refl _)).mono (by omega))
    have HR4 : Hid (C5 w4 (w.heap.size + 1) (.slice none 0 0) (.slice none 0 0) (.slice none 0 0) (.slice none 0 0) .nilIface) := HR1.out.same (HM5.out.block _ (by omega) (fun hx => by have := HX4.out _ hx; omega))
    have HG5 : Hid _ := g4
    have c0 := g4.c0
    have c1 := g4.c1
    have c2 := g4.c2
    have c3 := g4.c3
    have c4 := g4.c4
    have hge := g4.xge (N := w1.heap.size) (Nat.le_refl _) (Nat.le_refl _)
    have HGE : Hid _ := hge
    clear hge g4 m4 b1 CL HLK HXO HG3 HG4 HM3 HM4 HR1
    dsimp only [List.nil_append] at c0 c1 c2 c3 c4
    cases hbb : badI ls (prs ls d T topL) with
    | none =>
      rw [hbb] at c4
      have c4' : w4.cell? ⟨w1.heap.size, 4, none⟩ = some .nilIface := c4
      clear c4
      go_wp2_with fail
      have hDn : w1.heap.size ∉ [w.heap.size + 1] := by simp; omega
      refine wp_region_held (S := (fun wz => Fs [w.heap.size + 1] w4 wz)) (by kernel_rfl) ?_
      change wpAnyH _ _ _ _ _ _ _ _ (World.drew _)
      have hHeld : (fun wz => Fs [w.heap.size + 1] w4 wz) (World.drew w4) := (Fs.of_below (Below.refl _ _)).drewT
      have hHeldR : (World.drew w4).heap[w.heap.size + 1]? = w4.heap[w.heap.size + 1]? := rfl
      refine' wpAnyH_take (i := 0) (v := _) rfl (by kernel_rfl) (by kernel_rfl) (by kernel_rfl) (fun _ _ _ h => h) (Or.inl ⟨by rfl, ?hy40004⟩) hHeld ?hn40004
      case hy40004 => (intro wz hSw; have j0 := hSw.cell c0 hDn; have j1 := hSw.cell c1 hDn; have j2 := hSw.cell c2 hDn; have j3 := hSw.cell c3 hDn; have j4 := hSw.cell c4' hDn; go_simp; first | done | with_reducible rfl)
      try simp only [nrm, Act.put]
      refine' wpAnyH_take (i := 1) (v := _) rfl (by kernel_rfl) (by kernel_rfl) (by kernel_rfl) (fun _ _ _ h => h) (Or.inl ⟨by rfl, ?hy40005⟩) hHeld ?hn40005
      case hy40005 => (intro wz hSw; go_simp; first | done | with_reducible rfl)
      try simp only [nrm, Act.put]
      refine' wpAnyH_take (i := 2) (v := (.nilIface)) rfl (by kernel_rfl) (by kernel_rfl) (by kernel_rfl) (fun _ _ _ h => h) (Or.inl ⟨by rfl, ?hy40006⟩) hHeld ?hn40006
      case hy40006 => (intro wz hSw; have j0 := hSw.cell c0 hDn; have j1 := hSw.cell c1 hDn; have j2 := hSw.cell c2 hDn; have j3 := hSw.cell c3 hDn; have j4 := hSw.cell c4' hDn; go_simp)
      try simp only [nrm, Act.put]
      refine wpAnyH_ready (rs := [3]) (by kernel_rfl) (by simp) ?_
      refine AllReadyH.cons rfl (fun K hK => ?_) AllReadyH.nil
      have HRd := C5.same HR4.out hHeldR
      have HS : Hid _ := HR4.out.setall (.slice la ls.length lc) (.slice da4 1 dc4) (.slice aa4 (cnt d T) ac4) (.slice sa4 (cnt d T) sc4) (.nilIface)
      obtain ⟨⟨r0, r1, r2, r3, r4⟩, rf⟩ := id HR4.out
      have rf0 := rf 0 (by omega)
      have rf1 := rf 1 (by omega)
      have rf2 := rf 2 (by omega)
      have rf3 := rf 3 (by omega)
      have rf4 := rf 4 (by omega)
      go_simp
      clear r0 r1 r2 r3 r4 rf rf0 rf1 rf2 rf3 rf4
      refine hK.out _ _ ((Fs.set5 (Fs.of_below (Below.refl w4.heap.size w4)) _ _ _ _ _).drewT) (fun hHeld => ?_)
      clear hK K
      refine' wpAnyH_take (i := 4) (v := _) rfl (by kernel_rfl) (by kernel_rfl) (by kernel_rfl) (fun _ _ _ h => h) (Or.inl ⟨by rfl, ?hy40007⟩) hHeld ?hn40007
      case hy40007 => (intro wz hSw; go_simp; first | done | with_reducible rfl)
      try simp only [nrm, Act.put]
      refine wpAnyH_done (by kernel_rfl) ?_ _
      have HFR : Hid _ := HG5.out.frame (fun b hb hx => hHeld.block b hb (by have := HGE.out b hx; simp; omega))
      have HBF : Hid _ := HB4.out.trans (hHeld.below (B := w.heap.size) (by simp) HB4.out.size)
      clear hHeld hHeldR c0 c1 c2 c3 c4'
      go_wp2_with fail
      obtain ⟨⟨q0, q1, q2, q3, q4⟩, -⟩ := HS.out
      exact bodyPost_ret (v := .tuple #[.agg #[.slice la ls.length lc, .slice da4 1 dc4, .slice aa4 (cnt d T) ac4, .slice sa4 (cnt d T) sc4, .nilIface], .nilIface]) (by simp [results, Tryz.results29, go_sem, q0, q1, q2, q3, q4]) rfl (TyPost.yes (bd := none) HPB.out HBF.out (rowt_mono (by simpa [atT, hal] using HFR.out.aw) (by omega)) (rowt_mono (by simpa [hsl] using HFR.out.ss) (by omega)) (by simp [atT, hal]) hsl.symm (by rw [hbb]; rfl))
    | some ib =>
      rw [hbb] at c4
      have c4' : w4.cell? ⟨w1.heap.size, 4, none⟩ = some (.iface 138 (.agg #[.int .i64 (ib : Int), .iface 166 (.pointer (some s1))])) := c4
      clear c4
      go_wp2_with fail
      have hDn : w1.heap.size ∉ [w.heap.size + 1] := by simp; omega
      refine wp_region_held (S := (fun wz => Fs [w.heap.size + 1] w4 wz)) (by kernel_rfl) ?_
      change wpAnyH _ _ _ _ _ _ _ _ (World.drew _)
      have hHeld : (fun wz => Fs [w.heap.size + 1] w4 wz) (World.drew w4) := (Fs.of_below (Below.refl _ _)).drewT
      have hHeldR : (World.drew w4).heap[w.heap.size + 1]? = w4.heap[w.heap.size + 1]? := rfl
      refine' wpAnyH_take (i := 0) (v := _) rfl (by kernel_rfl) (by kernel_rfl) (by kernel_rfl) (fun _ _ _ h => h) (Or.inl ⟨by rfl, ?hy40008⟩) hHeld ?hn40008
      case hy40008 => (intro wz hSw; have j0 := hSw.cell c0 hDn; have j1 := hSw.cell c1 hDn; have j2 := hSw.cell c2 hDn; have j3 := hSw.cell c3 hDn; have j4 := hSw.cell c4' hDn; go_simp; first | done | with_reducible rfl)
      try simp only [nrm, Act.put]
      refine' wpAnyH_take (i := 1) (v := _) rfl (by kernel_rfl) (by kernel_rfl) (by kernel_rfl) (fun _ _ _ h => h) (Or.inl ⟨by rfl, ?hy40009⟩) hHeld ?hn40009
      case hy40009 => (intro wz hSw; go_simp; first | done | with_reducible rfl)
      try simp only [nrm, Act.put]
      refine' wpAnyH_take (i := 2) (v := (.iface 138 (.agg #[.int .i64 (ib : Int), .iface 166 (.pointer (some s1))]))) rfl (by kernel_rfl) (by kernel_rfl) (by kernel_rfl) (fun _ _ _ h => h) (Or.inl ⟨by rfl, ?hy40010⟩) hHeld ?hn40010
      case hy40010 => (intro wz hSw; have j0 := hSw.cell c0 hDn; have j1 := hSw.cell c1 hDn; have j2 := hSw.cell c2 hDn; have j3 := hSw.cell c3 hDn; have j4 := hSw.cell c4' hDn; go_simp)
      try simp only [nrm, Act.put]
      refine wpAnyH_ready (rs := [3]) (by kernel_rfl) (by simp) ?_
      refine AllReadyH.cons rfl (fun K hK => ?_) AllReadyH.nil
      have HRd := C5.same HR4.out hHeldR
      have HS : Hid _ := HR4.out.setall (.slice la ls.length lc) (.slice da4 1 dc4) (.slice aa4 (cnt d T) ac4) (.slice sa4 (cnt d T) sc4) (.iface 138 (.agg #[.int .i64 (ib : Int), .iface 166 (.pointer (some s1))]))
      obtain ⟨⟨r0, r1, r2, r3, r4⟩, rf⟩ := id HR4.out
      have rf0 := rf 0 (by omega)
      have rf1 := rf 1 (by omega)
      have rf2 := rf 2 (by omega)
      have rf3 := rf 3 (by omega)
      have rf4 := rf 4 (by omega)
      go_simp
      clear r0 r1 r2 r3 r4 rf rf0 rf1 rf2 rf3 rf4
      refine hK.out _ _ ((Fs.set5 (Fs.of_below (Below.refl w4.heap.size w4)) _ _ _ _ _).drewT) (fun hHeld => ?_)
      clear hK K
      refine' wpAnyH_take (i := 4) (v := _) rfl (by kernel_rfl) (by kernel_rfl) (by kernel_rfl) (fun _ _ _ h => h) (Or.inl ⟨by rfl, ?hy40011⟩) hHeld ?hn40011
      case hy40011 => (intro wz hSw; go_simp; first | done | with_reducible rfl)
      try simp only [nrm, Act.put]
      refine wpAnyH_done (by kernel_rfl) ?_ _
      have HFR : Hid _ := HG5.out.frame (fun b hb hx => hHeld.block b hb (by have := HGE.out b hx; simp; omega))
      have HBF : Hid _ := HB4.out.trans (hHeld.below (B := w.heap.size) (by simp) HB4.out.size)
      clear hHeld hHeldR c0 c1 c2 c3 c4'
      go_wp2_with fail
      obtain ⟨⟨q0, q1, q2, q3, q4⟩, -⟩ := HS.out
      exact bodyPost_ret (v := .tuple #[.agg #[.slice la ls.length lc, .slice da4 1 dc4, .slice aa4 (cnt d T) ac4, .slice sa4 (cnt d T) sc4, .iface 138 (.agg #[.int .i64 (ib : Int), .iface 166 (.pointer (some s1))])], .iface 138 (.agg #[.int .i64 (ib : Int), .iface 166 (.pointer (some s1))])]) (by simp [results, Tryz.results29, go_sem, q0, q1, q2, q3, q4]) rfl (TyPost.yes (bd := some ib) HPB.out HBF.out (rowt_mono (by simpa [atT, hal] using HFR.out.aw) (by omega)) (rowt_mono (by simpa [hsl] using HFR.out.ss) (by omega)) (by simp [atT, hal]) hsl.symm (by rw [hbb]; rfl))

end Go.Proofs.YthcgdhlemieboaaGreatDoor

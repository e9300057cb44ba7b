/- What comes of a program, by the model. -/
import Derived.Test.YthcgdhlemieboaaGreatTkDol
namespace Go.Proofs.YthcgdhlemieboaaGreat
open Go.RowKit
set_option linter.unusedSimpArgs false
set_option linter.unusedVariables false
attribute [local go_sem] World.cell?_alloc_some

def runS (ls : List (Int × Int)) (d : Nat) (T : Tr d) (zs : List Int) : RSt := if numsB ls d T zs = true then doT d T ⟨zs, [], []⟩ else ⟨[], [], []⟩

theorem R3.nil (B : Nat) (w : World) : R3 B w (.slice none 0 0) (.slice none 0 0) (.slice none 0 0) ⟨[], [], []⟩ :=
  ⟨World.ownsRow_nil _ _ _ _, World.ownsRow_nil _ _ _ _, World.ownsRow_nil _ _ _ _, fun _ e => (by cases e), fun _ e => (by cases e), fun _ e => (by cases e)⟩

set_option maxHeartbeats 4000000 in
set_option maxRecDepth 20000 in
theorem sRunOf_any {d : Nat} {T : Tr d} {lv sv : Value} {ad : Addr} {nc : Nat} {ls : List (Int × Int)} {zs : List Int} {w : World} (hL : LRep w lv ls) (hR : Rep w d sv T) (hcn : cnt d T ≤ 1048576) (hN : GRep (Value.int .i64) w (.slice (some ad) zs.length nc) zs) :
    Calls Tryz.prog 39 #[.agg #[lv, sv], .slice (some ad) zs.length nc] w fun e w' => ∃ a b c, e = .returned (.tuple #[.agg #[a, b, c], .bool (numsB ls d T zs)]) ∧ Below w.heap.size w w' ∧ R3 w.heap.size w' a b c (runS ls d T zs) := by
  obtain ⟨i2, hk0, hx0, hx1, hx2⟩ := info_parts infoInt
  have A : Below w.heap.size w ((w.alloc (.cells #[lv, sv] 26)).alloc (.cells #[.slice none 0 0, .slice none 0 0, .slice none 0 0] 51)) := ((Below.refl _ _).alloc (Nat.le_refl _) _).alloc (by simp) _
  have C1 : Hid _ := sNumsOk_any (hL.below A) (hR.below A) hcn (hN.below A)
  have HR : Hid (Rep w d sv T) := hR
  have HN : Hid (GRep (Value.int .i64) w (.slice (some ad) zs.length nc) zs) := hN
  obtain ⟨la, lc, rfl, -⟩ := hL
  obtain ⟨sa, sc, rfl⟩ := hR.slice
  have x0 : ((w.alloc (.cells #[.slice la ls.length lc, .slice sa (ln d T) sc] 26)).alloc (.cells #[.slice none 0 0, .slice none 0 0, .slice none 0 0] 51)).cell? ⟨w.heap.size, 1, none⟩ = some (.slice sa (ln d T) sc) := by go_simp
  have G : C3 ((w.alloc (.cells #[.slice la ls.length lc, .slice sa (ln d T) sc] 26)).alloc (.cells #[.slice none 0 0, .slice none 0 0, .slice none 0 0] 51)) (w.heap.size + 1) (.slice none 0 0) (.slice none 0 0) (.slice none 0 0) := by
    have := C3.new (w.alloc (.cells #[.slice la ls.length lc, .slice sa (ln d T) sc] 26)) (.slice none 0 0) (.slice none 0 0) (.slice none 0 0) 51
    simpa using this
  have HG : Hid _ := G
  have HX : Hid _ := x0
  clear hR hN G x0
  have HRS : Hid (runS ls d T zs = if numsB ls d T zs = true then doT d T ⟨zs, [], []⟩ else ⟨[], [], []⟩) := rfl
  have HNB : Hid (numsB ls d T zs = (progB ls d T && (decide (zs.length = ls.length) && tenB zs))) := rfl
  generalize numsB ls d T zs = nb at C1 HRS HNB ⊢
  generalize hrs : runS ls d T zs = rs at HRS ⊢
  clear hrs
  go_enter Tryz.func39, Tryz.ntmps39
  go_wp2_with fail
  go_at_call 61; refine Calls.mono C1.out ?_; rintro e w1 ⟨rfl, hb1⟩
  have B1 : Below w.heap.size w w1 := Below.then A hb1 A.size
  have G1 := C3.below HG.out hb1
  have HG1 : Hid _ := G1
  have s1 : w.heap.size + 2 ≤ w1.heap.size := by have := hb1.size; simpa using this
  have x1 := cell_later hb1 HX.out
  clear hb1 A C1 HG HX
  cases nb
  · obtain ⟨⟨c0, c1, c2⟩, f0, f1, f2⟩ := G1
    have HB1 : Hid _ := B1
    clear B1
    go_wp2
    have GF := C3.set2 (.slice none 0 0) (C3.set1 (.slice none 0 0) (C3.set0 (.slice none 0 0) HG1.out))
    obtain ⟨⟨t0, t1, t2⟩, -⟩ := GF
    refine bodyPost_ret (v := .tuple #[.agg #[.slice none 0 0, .slice none 0 0, .slice none 0 0], .bool false]) (by simp [results, Tryz.results39, go_sem, t0, t1, t2]) rfl ⟨_, _, _, rfl, ?_, ?_⟩
    · exact ((HB1.out.setCell (by show w.heap.size ≤ w.heap.size + 1; omega) _).setCell (by show w.heap.size ≤ w.heap.size + 1; omega) _).setCell (by show w.heap.size ≤ w.heap.size + 1; omega) _
    · rw [HRS.out]; exact R3.nil _ _
  · obtain ⟨hpb, hlen, hten⟩ : progB ls d T = true ∧ zs.length = ls.length ∧ tenB zs = true := by
      have := HNB.out.symm
      simpa using this
    have hpb' := hpb
    unfold progB at hpb'
    have hst : stB zs.length d 3 T = true := by
      rw [hlen]
      simp only [Bool.and_eq_true_iff] at hpb'
      simp_all
    have hbs : Hid (zs.length ≤ 4 ∧ cnt d T ≤ 1048576) := (show zs.length ≤ 4 ∧ cnt d T ≤ 1048576 from ⟨by
      rw [hlen]
      simp only [Bool.and_eq_true_iff] at hpb'
      simp at hpb'
      omega, hcn⟩)
    clear hpb hpb' hlen
    have HST : Hid _ := hst
    have HTEN : Hid _ := hten
    have HB1 : Hid _ := B1
    clear hst hten HNB
    go_wp2_with fail
    refine wp_region_held (S := (fun wz => wz.cell? ⟨w.heap.size, 1, none⟩ = some (.slice sa (ln d T) sc))) (by kernel_rfl) ?_
    change wpAnyH _ _ _ _ _ _ _ _ (World.drew _)
    have hHeld : w1.drew.cell? ⟨w.heap.size, 1, none⟩ = some (.slice sa (ln d T) sc) := x1
    have BD : Hid (Below w.heap.size w w1.drew) := HB1.out.drew
    have GD : Hid (C3 w1.drew (w.heap.size + 1) (.slice none 0 0) (.slice none 0 0) (.slice none 0 0)) := HG1.out
    have sD : w.heap.size + 2 ≤ w1.drew.heap.size := s1
    clear x1 s1 G1 HG1 HB1 B1
    generalize w1.drew = wd at *
    have HSD : Hid _ := sD
    have HWX : Hid (wd.cell? ⟨w.heap.size, 1, none⟩ = some (.slice sa (ln d T) sc)) := hHeld
    clear sD
    refine' wpAnyH_take (i := 0) (v := _) rfl (by kernel_rfl) (by kernel_rfl) (by kernel_rfl) (fun _ _ _ h => h) (Or.inl ⟨by rfl, ?hz0⟩) hHeld ?hm0
    case hz0 => (intro wz hSw; (try dsimp only at hSw); go_simp; first | done | with_reducible rfl)
    try simp only [nrm, Act.put]
    refine' wpAnyH_take (i := 1) (v := _) rfl (by kernel_rfl) (by kernel_rfl) (by kernel_rfl) (fun _ _ _ h => h) (Or.inl ⟨by rfl, ?hz1⟩) hHeld ?hm1
    case hz1 => (intro wz hSw; (try dsimp only at hSw); go_simp; first | done | with_reducible rfl)
    try simp only [nrm, Act.put]
    refine' wpAnyH_take (i := 3) (v := _) rfl (by kernel_rfl) (by kernel_rfl) (by kernel_rfl) (fun _ _ _ h => h) (Or.inl ⟨by rfl, ?hz3⟩) hHeld ?hm3
    case hz3 => (intro wz hSw; (try dsimp only at hSw); go_simp; first | done | with_reducible rfl)
    try simp only [nrm, Act.put]
    refine wpAnyH_ready (rs := [2]) (by kernel_rfl) (by simp) ?_
    refine AllReadyH.cons rfl (fun K hK => ?_) AllReadyH.nil
    go_simp
    refine hK.out _ _ (cell_later ((Below.refl _ _).alloc (Nat.le_refl _) _) hHeld) (fun hHeld => ?_)
    clear hK K
    refine wpAnyH_ready (rs := [4]) (by kernel_rfl) (by simp) ?_
    refine AllReadyH.cons rfl (fun K hK => ?_) AllReadyH.nil
    rw [if_pos (by rfl)]
    have GN := HN.out.below BD.out
    have hcells : ∀ j u, (zs.map (Value.int .i64))[j]? = some u → wd.cell? (ad.add j) = some u := by
      obtain ⟨a, c, e, _, _, hcell⟩ := GN
      intro j u hj
      have hjl : j < zs.length := by have := (List.getElem?_eq_some_iff.1 hj).1; simpa using this
      obtain ⟨b, off, ha, h0⟩ := hcell j hjl
      simp at e
      obtain ⟨rfl, -⟩ := e
      cases ha
      rw [Addr.add_mid]
      have : u = .int .i64 zs[j] := by simp [hjl] at hj; exact hj.symm
      rw [this]; exact h0
    have hlz := hbs.out.1
    have hlw := HSD.out
    refine wp_append_at' _ _ _ 29 rfl wd.heap.size 3 i2 _ 1 8 Tryz.underlying29 hk0 hx0 hx1 hx2 rfl (by decide) (.slice (some ⟨wd.heap.size, 0, none⟩) 0 0) 0 [] rfl (World.ownsRow_made wd #[] 0 (Nat.le_refl _) (by unfold maxLen; omega) (by simp)) ad zs.length nc (zs.map (Value.int .i64)) rfl (by simp) ?c1 ?c2 ?c3 ?c4 ?c5 ?_
    case c1 => exact fun j u hj => cell_later ((Below.refl _ _).alloc (Nat.le_refl _) _) (hcells j u hj)
    case c2 => (intro u hu; obtain ⟨z, _, rfl⟩ := List.mem_map.1 hu; rfl)
    case c3 => (unfold maxLen; omega)
    case c4 => omega
    case c5 => simp
    intro v5 w5 own5 grow5 nn5 at5
    rw [Nat.zero_add, List.nil_append] at own5
    have B5 : Below wd.heap.size wd w5 := ((Below.refl _ _).alloc (Nat.le_refl _) _).grown grow5 (by simp) (fun k hk => by cases hk; exact Nat.le_refl _)
    have nz : v5 ≠ .slice none 0 0 := by intro e; have := nn5; simp [e] at this
    obtain ⟨va, vc, rfl⟩ := rowg_slice own5
    have R5 : R3 w.heap.size w5 (.slice va zs.length vc) (.slice none 0 0) (.slice none 0 0) ⟨zs, [], []⟩ := by
      refine ⟨?_, World.ownsRow_nil _ _ _ _, World.ownsRow_nil _ _ _ _, fun b _ e => (by simp [Value.ownBlock] at e), fun b _ e => (by simp [Value.ownBlock] at e), fun b e => (by cases e)⟩
      obtain ⟨q0, q1 | ⟨g, cap, cur, hv, hg, r⟩⟩ := own5
      · exact ⟨q0, .inl q1⟩
      · exact ⟨q0, .inr ⟨g, cap, cur, hv, by omega, r⟩⟩
    have hvo : ∀ b, (Value.slice va zs.length vc).ownBlock = some b → wd.heap.size ≤ b := fun b e => (World.ownsRow.lt own5 b e).1
    have HVO : Hid _ := hvo
    have CL : Hid _ := l3Do_any w w.heap.size (Nat.le_refl _) d T 3 _ _ _ _ ⟨zs, [], []⟩ w5 HR.out (Below.then BD.out B5 BD.out.size) (by have := B5.size; omega) HST.out HTEN.out (by have := hbs.out.2; simpa using this) (by have := hbs.out.2; simpa using this) R5
    have s5 : wd.heap.size ≤ w5.heap.size := B5.size
    have HB5 : Hid (Below wd.heap.size wd w5) := B5
    refine hK.out _ _ (cell_later B5 (by simpa using (show wd.cell? ⟨w.heap.size, 1, none⟩ = some (.slice sa (ln d T) sc) from HWX.out))) (fun hHeld => ?_)
    clear hK K own5 grow5 nn5 at5 R5 hvo B5 nz GN hcells
    refine' wpAnyH_take (i := 5) (v := _) rfl (by kernel_rfl) (by kernel_rfl) (by kernel_rfl) (fun _ _ _ h => h) (Or.inl ⟨by rfl, ?hz5⟩) hHeld ?hm5
    case hz5 => (intro wz hSw; (try dsimp only at hSw); go_simp; first | done | with_reducible rfl)
    try simp only [nrm, Act.put]
    refine wpAnyH_ready (rs := [6]) (by kernel_rfl) (by simp) ?_
    refine AllReadyH.cons rfl (fun K hK => ?_) AllReadyH.nil
    go_simp
    refine Calls.mono CL.out ?_
    rintro e w6 ⟨wv6, sv6, rfl, rr6, kx6, nx6, ny6⟩
    have hno : ∀ b, b < w.heap.size + 2 → (Value.slice va zs.length vc).ownBlock ≠ some b := fun b hb e => by have := HVO.out b e; omega
    have bl6 : ∀ b, b < w.heap.size + 2 → w6.heap[b]? = w5.heap[b]? := fun b hb => kx6.block b (by omega) (hno b hb) (by simp [Value.ownBlock]) (by simp [Value.ownBlock])
    have h6 : w6.cell? ⟨w.heap.size, 1, none⟩ = some (.slice sa (ln d T) sc) := (World.cell?_of_block (a := ⟨w.heap.size, 1, none⟩) (bl6 w.heap.size (by omega))).trans hHeld
    have G6 : C3 w6 (w.heap.size + 1) (.slice none 0 0) (.slice none 0 0) (.slice none 0 0) := C3.frame (C3.below GD.out HB5.out) (bl6 (w.heap.size + 1) (by omega))
    have B6 : Below w.heap.size w w6 := Below.then BD.out (HB5.out.trans (kx6.below (B := wd.heap.size) (fun b e => HVO.out b e) (fun b e => by cases e) (fun b e => by cases e) s5)) BD.out.size
    obtain ⟨wa6, wc6, hv6⟩ := rowg_slice rr6.ws
    obtain ⟨sa6, sc6, hv7⟩ := rowg_slice rr6.ss
    have ne6 : wv6.ownBlock ≠ some (w.heap.size + 1) := nx6.ne (by simp [Value.ownBlock]) (by omega)
    have ne7 : sv6.ownBlock ≠ some (w.heap.size + 1) := ny6.ne (by simp [Value.ownBlock]) (by omega)
    have ne8 : (Value.slice va zs.length vc).ownBlock ≠ some (w.heap.size + 1) := hno _ (by omega)
    have HNE : Hid _ := And.intro ne8 (And.intro ne6 ne7)
    have HRR : Hid _ := rr6
    have HG6 : Hid _ := G6
    have HB6 : Hid _ := B6
    obtain ⟨stt, hst⟩ : ∃ x, doT d T ⟨zs, [], []⟩ = x := ⟨_, rfl⟩
    rw [hst] at hv6 hv7 HRR
    have HSS : Hid (rs = stt) := (show rs = stt by rw [HRS.out]; simpa using hst)
    subst hv6 hv7
    refine hK.out _ _ h6 (fun hHeld => ?_)
    clear hK K rr6 kx6 nx6 ny6 hno bl6 ne6 ne7 ne8 B6 CL HB5 hst h6
    obtain ⟨⟨c0, c1, c2⟩, f0, f1, f2⟩ := G6
    refine wpAnyH_ready (rs := [7]) (by kernel_rfl) (by simp) ?_
    refine AllReadyH.cons rfl (fun K hK => ?_) AllReadyH.nil
    go_simp
    refine hK.out _ _ ((World.cell?_setCell_other _ _ _ _ (by simp)).trans ((World.cell?_setCell_other _ _ _ _ (by simp)).trans ((World.cell?_setCell_other _ _ _ _ (by simp)).trans hHeld))) (fun hHeld => ?_)
    clear hK K
    refine' wpAnyH_take (i := 8) (v := _) rfl (by kernel_rfl) (by kernel_rfl) (by kernel_rfl) (fun _ _ _ h => h) (Or.inl ⟨by rfl, ?hz8⟩) hHeld ?hm8
    case hz8 => (intro wz hSw; (try dsimp only at hSw); go_simp; first | done | with_reducible rfl)
    try simp only [nrm, Act.put]
    refine wpAnyH_done (by kernel_rfl) ?_ _
    clear c0 c1 c2 f0 f1 f2 hHeld
    go_wp2
    have GF := C3.set2 (.slice sa6 stt.ss.length sc6) (C3.set1 (.slice wa6 stt.ws.length wc6) (C3.set0 (.slice va zs.length vc) HG6.out))
    obtain ⟨⟨t0, t1, t2⟩, -⟩ := GF
    refine bodyPost_ret (v := .tuple #[.agg #[.slice va zs.length vc, .slice wa6 stt.ws.length wc6, .slice sa6 stt.ss.length sc6], .bool true]) (by simp [results, Tryz.results39, go_sem, t0, t1, t2]) rfl ⟨_, _, _, rfl, ?_, ?_⟩
    · exact ((HB6.out.setCell (by show w.heap.size ≤ w.heap.size + 1; omega) _).setCell (by show w.heap.size ≤ w.heap.size + 1; omega) _).setCell (by show w.heap.size ≤ w.heap.size + 1; omega) _
    · rw [HSS.out]
      exact ((R3.far HRR.out _ _ HNE.out.1 HNE.out.2.1 HNE.out.2.2).far _ _ HNE.out.1 HNE.out.2.1 HNE.out.2.2).far _ _ HNE.out.1 HNE.out.2.1 HNE.out.2.2

end Go.Proofs.YthcgdhlemieboaaGreat

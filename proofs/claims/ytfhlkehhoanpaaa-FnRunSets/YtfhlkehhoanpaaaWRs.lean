/- All that is set is of some variables, or others: the law, walked. -/
import Derived.Test.YtfhlkehhoanpaaaDrs
namespace Go.Proofs.Ytfhlkehhoanpaaa
open Go.RowKit
set_option linter.unusedSimpArgs false
set_option linter.unusedVariables false
attribute [local go_sem ↓] Go.wp_at_zero Go.wp_at_succ
attribute [local go_sem] World.cell?_alloc_some

set_option maxHeartbeats 2000000 in
theorem lcWrites_same {lv lv' : Value} {ls : List (Int × Int)} {w : World} (h : LRep w lv ls) (h' : LRep w lv' ls) :
    Calls Try.prog 41 #[lv, lv'] w fun e w' => e = .returned (.bool true) ∧ Below w.heap.size w w' := by
  obtain ⟨a, c, rfl, hlc, hcm, hcell⟩ := h
  obtain ⟨a', c', rfl, hlc', hcm', hcell'⟩ := h'
  have hlm : (ls.length : Int) ≤ 9223372036854775807 := by unfold maxLen at hcm; omega
  have HC : Hid (∀ i (hi : i < ls.length), ∃ b off b' off' k t, (a = some ⟨b, off, none⟩ ∧ w.cell? ⟨b, off + i * 2, none⟩ = some (.int .i64 k) ∧ w.cell? ⟨b, off + i * 2 + 1, none⟩ = some (.int .i64 t)) ∧ (a' = some ⟨b', off', none⟩ ∧ w.cell? ⟨b', off' + i * 2, none⟩ = some (.int .i64 k) ∧ w.cell? ⟨b', off' + i * 2 + 1, none⟩ = some (.int .i64 t))) := (show ∀ i (hi : i < ls.length), _ by
    intro i hi
    obtain ⟨b, off, ha, h0, h1⟩ := hcell i hi
    obtain ⟨b', off', ha', h0', h1'⟩ := hcell' i hi
    exact ⟨b, off, b', off', _, _, ⟨ha, h0, h1⟩, ha', h0', h1'⟩)
  clear hcell hcell'
  go_enter Try.func41, Try.ntmps41
  go_wp2
  go_loopw [5] (fun j wr => ∃ (i : Nat), i ≤ ls.length ∧ j = .int .i64 i ∧ Below w.heap.size w wr) (fun j _ => ls.length - (intOf j).toNat)
  case atStart => exact ⟨0, by omega, rfl, Below.refl _ _⟩
  case round =>
    obtain ⟨i, hi, rfl, hbr⟩ := hrel
    by_cases hlt : i < ls.length
    · obtain ⟨b, off, b', off', k, t, ⟨rfl, k0, k1⟩, rfl, m0, m1⟩ := HC.out i hlt
      replace k0 := cell_later hbr k0
      replace k1 := cell_later hbr k1
      replace m0 := cell_later hbr m0
      replace m1 := cell_later hbr m1
      have i0' : (0 : Int) ≤ (i : Int) := by omega
      have i1' : (i : Int) < (ls.length : Int) := by omega
      go_wp2_with fail
      refine wp_region_held (S := (fun wz => (wz.cell? ⟨b, off + i * 2, none⟩ = some (.int .i64 k) ∧ wz.cell? ⟨b, off + i * 2 + 1, none⟩ = some (.int .i64 t)) ∧ (wz.cell? ⟨b', off' + i * 2, none⟩ = some (.int .i64 k) ∧ wz.cell? ⟨b', off' + i * 2 + 1, none⟩ = some (.int .i64 t)) ∧ Below w.heap.size w wz)) (by kernel_rfl) ?_
      change wpAnyH _ _ _ _ _ _ _ _ (World.drew _)
      have hHeld := SL1 ⟨⟨k0, k1⟩, ⟨m0, m1⟩, hbr⟩
      refine' wpAnyH_take (i := 0) (v := _) rfl (by kernel_rfl) (by kernel_rfl) (by kernel_rfl) (fun _ _ _ h => h) (Or.inl ⟨by rfl, ?hy1⟩) hHeld ?hn1
      case hy1 => (intro wz hSw; (try dsimp only at hSw); go_simp; first | done | with_reducible rfl)
      try simp only [List.getElem_toArray, List.getElem_cons_zero, List.getElem_cons_succ, Act.put, List.setIfInBounds_toArray, List.set_cons_zero, List.set_cons_succ]
      refine' wpAnyH_take (i := 1) (v := _) rfl (by kernel_rfl) (by kernel_rfl) (by kernel_rfl) (fun _ _ _ h => h) (Or.inl ⟨by rfl, ?hy2⟩) hHeld ?hn2
      case hy2 => (intro wz hSw; (try dsimp only at hSw); go_simp; first | done | with_reducible rfl)
      try simp only [List.getElem_toArray, List.getElem_cons_zero, List.getElem_cons_succ, Act.put, List.setIfInBounds_toArray, List.set_cons_zero, List.set_cons_succ]
      refine' wpAnyH_take (i := 2) (v := _) rfl (by kernel_rfl) (by kernel_rfl) (by kernel_rfl) (fun _ _ _ h => h) (Or.inl ⟨by rfl, ?hy3⟩) hHeld ?hn3
      case hy3 => (intro wz hSw; (try dsimp only at hSw); go_simp; first | done | with_reducible rfl)
      try simp only [List.getElem_toArray, List.getElem_cons_zero, List.getElem_cons_succ, Act.put, List.setIfInBounds_toArray, List.set_cons_zero, List.set_cons_succ]
      refine' wpAnyH_take (i := 3) (v := .agg #[.int .i64 k, .int .i64 t]) rfl (by kernel_rfl) (by kernel_rfl) (by kernel_rfl) (fun _ _ _ h => h) (Or.inl ⟨by rfl, ?hy4⟩) hHeld ?hn4
      case hy4 => (intro wz hSw; obtain ⟨⟨k0, k1⟩, _, _⟩ := hSw; go_simp)
      try simp only [List.getElem_toArray, List.getElem_cons_zero, List.getElem_cons_succ, Act.put, List.setIfInBounds_toArray, List.set_cons_zero, List.set_cons_succ]
      refine' wpAnyH_take (i := 4) (v := _) rfl (by kernel_rfl) (by kernel_rfl) (by kernel_rfl) (fun _ _ _ h => h) (Or.inl ⟨by rfl, ?hy5⟩) hHeld ?hn5
      case hy5 => (intro wz hSw; (try dsimp only at hSw); go_simp; first | done | with_reducible rfl)
      try simp only [List.getElem_toArray, List.getElem_cons_zero, List.getElem_cons_succ, Act.put, List.setIfInBounds_toArray, List.set_cons_zero, List.set_cons_succ]
      refine' wpAnyH_take (i := 5) (v := _) rfl (by kernel_rfl) (by kernel_rfl) (by kernel_rfl) (fun _ _ _ h => h) (Or.inl ⟨by rfl, ?hy6⟩) hHeld ?hn6
      case hy6 => (intro wz hSw; (try dsimp only at hSw); go_simp; first | done | with_reducible rfl)
      try simp only [List.getElem_toArray, List.getElem_cons_zero, List.getElem_cons_succ, Act.put, List.setIfInBounds_toArray, List.set_cons_zero, List.set_cons_succ]
      refine' wpAnyH_take (i := 6) (v := _) rfl (by kernel_rfl) (by kernel_rfl) (by kernel_rfl) (fun _ _ _ h => h) (Or.inl ⟨by rfl, ?hy7⟩) hHeld ?hn7
      case hy7 => (intro wz hSw; (try dsimp only at hSw); go_simp; first | done | with_reducible rfl)
      try simp only [List.getElem_toArray, List.getElem_cons_zero, List.getElem_cons_succ, Act.put, List.setIfInBounds_toArray, List.set_cons_zero, List.set_cons_succ]
      refine' wpAnyH_take (i := 7) (v := .agg #[.int .i64 k, .int .i64 t]) rfl (by kernel_rfl) (by kernel_rfl) (by kernel_rfl) (fun _ _ _ h => h) (Or.inl ⟨by rfl, ?hy8⟩) hHeld ?hn8
      case hy8 => (intro wz hSw; obtain ⟨_, ⟨k0, k1⟩, _⟩ := hSw; go_simp)
      try simp only [List.getElem_toArray, List.getElem_cons_zero, List.getElem_cons_succ, Act.put, List.setIfInBounds_toArray, List.set_cons_zero, List.set_cons_succ]
      refine' wpAnyH_take (i := 8) (v := _) rfl (by kernel_rfl) (by kernel_rfl) (by kernel_rfl) (fun _ _ _ h => h) (Or.inl ⟨by rfl, ?hy9⟩) hHeld ?hn9
      case hy9 => (intro wz hSw; (try dsimp only at hSw); go_simp; first | done | with_reducible rfl)
      try simp only [List.getElem_toArray, List.getElem_cons_zero, List.getElem_cons_succ, Act.put, List.setIfInBounds_toArray, List.set_cons_zero, List.set_cons_succ]
      refine wpAnyH_done (by kernel_rfl) ?_ _
      obtain ⟨_, _, hB9⟩ := hHeld
      go_wp2
      exact ⟨⟨i + 1, by omega, by simp, hB9⟩, by simp [intOf]; omega⟩
    · have : i = ls.length := by omega
      subst this
      have HB : Hid (Below w.heap.size w wr) := hbr
      clear hbr
      go_wp2
      go_ret
      exact ⟨rfl, HB.out⟩

theorem setB_not (vs : List Bool) (x : Int) (h : vIn vs.length x = true) : setB (vs.map (fun b => !b)) x = !setB vs x := by
  have hx : 0 ≤ x ∧ x < vs.length := by simpa [vIn] using h
  have hn : x.toNat < vs.length := by omega
  unfold setB
  rw [List.length_map, h]
  simp [hn]
theorem setV_not (vs : List Bool) : ∀ (ws : List (Int × Int)), (∀ x ∈ ws, vIn vs.length x.1 = true) → (setV vs ws).length + (setV (vs.map (fun b => !b)) ws).length = ws.length
  | [], _ => rfl
  | x :: ws, h => by
    have ih := setV_not vs ws (fun y hy => h y (List.mem_cons_of_mem _ hy))
    have hx := setB_not vs x.1 (h x (by simp))
    unfold setV at ih ⊢
    simp only [List.filter_cons, hx]
    cases setB vs x.1
    · simp; omega
    · simp; omega
theorem setV_nil (ws : List (Int × Int)) : setV [] ws = [] := by
  unfold setV
  refine List.filter_eq_nil_iff.2 fun x _ => ?_
  have : vIn 0 x.1 = false := by simp [vIn]
  simp [setB, this]
theorem SRW1 {w wz : World} {a1 a2 a3 : Addr} {v1 v2 v3 : Value} (h : (wz.cell? a1 = some v1 ∧ wz.cell? a2 = some v2 ∧ wz.cell? a3 = some v3) ∧ Below w.heap.size w wz) : (wz.drew.cell? a1 = some v1 ∧ wz.drew.cell? a2 = some v2 ∧ wz.drew.cell? a3 = some v3) ∧ Below w.heap.size w wz.drew := ⟨h.1, h.2.drew⟩
theorem SRW2 {w wz wx : World} {a1 a2 a3 : Addr} {v1 v2 v3 : Value} (h : (wz.cell? a1 = some v1 ∧ wz.cell? a2 = some v2 ∧ wz.cell? a3 = some v3) ∧ Below w.heap.size w wz) (hb : Below wz.heap.size wz wx) : (wx.cell? a1 = some v1 ∧ wx.cell? a2 = some v2 ∧ wx.cell? a3 = some v3) ∧ Below w.heap.size w wx :=
  ⟨⟨cell_later hb h.1.1, cell_later hb h.1.2.1, cell_later hb h.1.2.2⟩, Below.then h.2 hb h.2.size⟩

set_option maxHeartbeats 8000000 in
set_option maxRecDepth 20000 in
theorem fnRunSets_walk (a0 : Option Addr) (len0 cap0 : Nat) (zs0 : List Int) (w : World) (h : IsRow .u8 w a0 len0 cap0 zs0) :
    Calls Try.prog 10 #[.slice a0 len0 cap0] w fun e w' => e = .returned (.bool true) ∧ Below w.heap.size w w' := by
  obtain ⟨i9, hq0, hq1, hq2, hq3⟩ := info_parts infoBool
  have C1 : Hid _ := drawRunSets_any w a0 len0 cap0 zs0 h
  clear h
  by_cases hlen : (1048576 : Int) < (len0 : Int)
  case pos =>
    go_enter Try.func10, Try.ntmps10
    go_wp2
    go_ret
    exact ⟨rfl, Below.refl _ _⟩
  go_enter Try.func10, Try.ntmps10
  go_wp2_with fail
  go_at_call 39; refine Calls.mono C1.out ?_
  rintro e w1 ⟨ra, rb, rc, s, vv, vs, rfl, hb1, hr3, hgr, hvars, hwl, hv4⟩
  obtain ⟨na, nc, rfl⟩ := rowg_slice hr3.n
  obtain ⟨wa, wc, rfl⟩ := rowg_slice hr3.ws
  obtain ⟨sa, sc, rfl⟩ := rowg_slice hr3.ss
  obtain ⟨ba, bc, hvv, hbl, hbm, -⟩ := id hgr
  subst hvv
  have hw1 : LRep w1 (.slice wa s.ws.length wc) s.ws := by
    obtain ⟨bs, q1, _⟩ := row_pown hr3.ws
    exact q1.rep
  have A2 : Below w1.heap.size w1 (w1.alloc (.cells #[.slice na s.n.length nc, .slice wa s.ws.length wc, .slice sa s.ss.length sc] 47)) := (Below.refl _ _).alloc (Nat.le_refl _) _
  have G2 := C3.new w1 (.slice na s.n.length nc) (.slice wa s.ws.length wc) (.slice sa s.ss.length sc) 47
  have HWX : Hid (∀ wx, Below w1.heap.size w1 wx → LRep wx (.slice wa s.ws.length wc) s.ws) := (show ∀ wx, _ from fun wx hb => hw1.below hb)
  have HVX : Hid (∀ wx, Below w1.heap.size w1 wx → GRep Value.bool wx (.slice ba vs.length bc) vs) := (show ∀ wx, _ from fun wx hb => hgr.below hb)
  have HB1 : Hid (Below w.heap.size w w1) := hb1
  have HSUM : Hid ((setV vs s.ws).length + (setV (vs.map (fun b => !b)) s.ws).length = s.ws.length) := (show _ = _ from setV_not vs s.ws hvars)
  obtain ⟨us, hus⟩ : ∃ us, (vs.map (fun b => !b)) = us := ⟨_, rfl⟩
  rw [hus] at HSUM
  have HUS : Hid (vs.map (fun b => !b) = us) := hus
  clear hus
  have HZE : Hid ((setV [] s.ws).length = 0) := (show (setV [] s.ws).length = 0 by rw [setV_nil]; rfl)
  have HYE : Hid True := trivial
  have HA2 : Hid _ := A2
  have HG2 : Hid _ := G2
  have hxl := setV_len vs s.ws
  have hvl : (vs.length : Int) ≤ 9223372036854775807 := by unfold maxLen at hbm; omega
  clear hr3 hgr hvars hw1 hb1 C1 A2
  obtain ⟨⟨c0, c1, c2⟩, -⟩ := G2
  have C3' : Hid _ := runSets_any (na := na) (sa := sa) (n0 := s.n.length) (nc := nc) (n2 := s.ss.length) (sc := sc) (HWX.out _ HA2.out) (HVX.out _ HA2.out) hwl
  have HXE : Hid (∃ X, setV vs s.ws = X) := (show ∃ X, setV vs s.ws = X from ⟨_, rfl⟩)
  clear c0 c1 c2
  go_wp2_with fail
  go_at_call 40; refine Calls.mono C3'.out ?_
  rintro e w3 ⟨lv, lb, rfl, hb3, lo3, lr3⟩
  obtain ⟨la, lc, rfl, -⟩ := lo3.rep
  have B3 : Below w1.heap.size w1 w3 := Below.then HA2.out hb3 HA2.out.size
  have G3 := C3.below HG2.out hb3
  have HG3 : Hid _ := G3
  have HLO : Hid (LRep w3 (.slice la (setV vs s.ws).length lc) (setV vs s.ws)) := lo3.rep
  have C4 : Hid _ := sRunSets_any (na := na) (sa := sa) (n0 := s.n.length) (nc := nc) (n2 := s.ss.length) (sc := sc) (HWX.out _ B3) (HVX.out _ B3) hwl
  have HB3 : Hid (Below w1.heap.size w1 w3) := B3
  clear hb3 lo3 lr3 C3' HG2 HA2 B3
  obtain ⟨⟨c0, c1, c2⟩, -⟩ := G3
  generalize hXl : (setV vs s.ws).length = nx at *
  go_wp2_with fail
  go_at_call 42; refine Calls.mono C4.out ?_
  rintro e w4 ⟨mv, mb, rfl, hb4, mo4, -⟩
  obtain ⟨ma, mc, hmv, -⟩ := id mo4.rep
  rw [hXl] at hmv
  subst hmv
  have HX4 : Hid (LRep w4 (.slice la nx lc) (setV vs s.ws)) := LRep.below hb4 HLO.out
  have C5 : Hid _ := lcWrites_same HX4.out mo4.rep
  have G4 := C3.below HG3.out hb4
  have HG4 : Hid _ := G4
  have HB4 : Hid (Below w1.heap.size w1 w4) := Below.then HB3.out hb4 HB3.out.size
  clear hb4 mo4 C4 HLO HG3 HB3 c0 c1 c2 G4
  go_wp2_with fail
  go_at_call 41; refine Calls.mono C5.out ?_
  rintro e w5 ⟨rfl, hb5⟩
  have G5 := C3.below HG4.out hb5
  have HG5 : Hid (C3 w5 w1.heap.size (.slice na s.n.length nc) (.slice wa s.ws.length wc) (.slice sa s.ss.length sc)) := G5
  have HB5 : Hid (Below w1.heap.size w1 w5) := Below.then HB4.out hb5 HB4.out.size
  have z5 : w1.heap.size < w5.heap.size := C3.lt G5
  clear hb5 C5 HG4 HB4 HX4 G5
  have I0 : Hid _ := And.intro ((Below.refl w5.heap.size w5).alloc (Nat.le_refl _) (.cells #[] 4)) (World.ownsRow_made (base := w5.heap.size) (e := 4) (size := 1) w5 #[] 0 (Nat.le_refl _) (by unfold maxLen; omega) (by simp))
  go_wp2
  go_loopw [6, 7] (fun o j wr => ∃ (i g gc : Nat), i ≤ vs.length ∧ j = .int .i64 i ∧ o = .slice (some ⟨g, 0, none⟩) i gc ∧ Below w5.heap.size w5 wr ∧ wr.ownsRow w5.heap.size 4 1 (.slice (some ⟨g, 0, none⟩) i gc) i ((us.map Value.bool).take i)) (fun _ j _ => vs.length - (intOf j).toNat)
  case atStart => exact ⟨0, w5.heap.size, 0, by omega, rfl, rfl, I0.out.1, by simpa using I0.out.2⟩
  case round =>
    obtain ⟨i, g, gc, hi, rfl, rfl, hbr, hor⟩ := hrel
    have hgl := World.ownsRow.lt hor g rfl
    have szr : w5.heap.size ≤ wr.heap.size := hbr.size
    have HOR : Hid (wr.ownsRow w5.heap.size 4 1 (.slice (some ⟨g, 0, none⟩) i gc) i ((us.map Value.bool).take i)) := hor
    have HBR5 : Hid (Below w5.heap.size w5 wr) := hbr
    have HBR : Hid (Below w1.heap.size w1 wr) := Below.then HB5.out hbr HB5.out.size
    by_cases hlt : i < vs.length
    · obtain ⟨ba', bc', hsl, hbl', hbm', hcell⟩ := HVX.out wr HBR.out
      cases hsl
      obtain ⟨b, off, rfl, k0⟩ := hcell i hlt
      have i0' : (0 : Int) ≤ (i : Int) := by omega
      have i1' : (i : Int) < (vs.length : Int) := by omega
      have HTK : Hid ((us.map Value.bool).take (i + 1) = (us.map Value.bool).take i ++ [.bool (!vs[i])]) := (show _ = _ by rw [List.take_succ_eq_append_getElem (by rw [← HUS.out]; simpa using hlt)]; congr 1; simp [← HUS.out])
      generalize vs[i] = xb at *
      clear hor hbr hcell
      go_wp2_with (at_builtin; refine wpList_append_own_at _ rfl _ _ 58 rfl w5.heap.size 4 i9 _ 1 1 Try.underlying58 hq0 hq1 hq2 hq3 rfl (by decide) _ _ _ rfl (HOR.out.alloc _) ⟨wr.heap.size, 0, none⟩ 1 1 [.bool (!xb)] rfl rfl ?c1 ?c2 ?c3 ?c4 ?c5 ?_)
      case c1 => exact cells_new1 wr _ _ _ rfl
      case c2 => simp [Value.oneCell']
      case c3 => unfold maxLen; omega
      case c4 => omega
      case c5 => simp; omega
      intro v8 w8 own8 grow8 nn8 at8
      have nz : v8 ≠ .slice none 0 0 := by intro e; have := nn8; simp [e] at this
      obtain ⟨g8, gc8, hv8⟩ : ∃ g8 gc8, v8 = .slice (some ⟨g8, 0, none⟩) (i + 1) gc8 := by
        obtain ⟨_, ⟨q, _⟩ | ⟨g5, c5, _, q, _⟩⟩ := id own8
        · exact (nz q).elim
        · exact ⟨g5, c5, q⟩
      subst hv8
      have O8 : Below w5.heap.size w5 w8 := (HBR5.out.alloc szr _).grown grow8 (by simp; omega) (fun k hk => by have e : g = k := (by simpa [Value.ownBlock] using hk); have := hgl.1; omega)
      have HO8 : Hid _ := O8
      have HW8 : Hid (w8.ownsRow w5.heap.size 4 1 (.slice (some ⟨g8, 0, none⟩) (i + 1) gc8) (i + 1) ((us.map Value.bool).take i ++ [.bool (!xb)])) := own8
      clear own8 grow8 nn8 at8 nz O8
      go_wp2
      exact ⟨⟨i + 1, g8, gc8, by omega, by simp, by simp, HO8.out, by rw [HTK.out]; exact HW8.out⟩, by simp [intOf]; omega⟩
    have hie : i = vs.length := by omega
    subst hie
    have hog : GRep Value.bool wr (.slice (some ⟨g, 0, none⟩) vs.length gc) us := by
      have q0 : wr.ownsRow w5.heap.size 4 1 (.slice (some ⟨g, 0, none⟩) vs.length gc) us.length (us.map Value.bool) := by
        have := HOR.out
        rw [List.take_of_length_le (by rw [← HUS.out]; simp)] at this
        rw [show us.length = vs.length by rw [← HUS.out]; simp]
        exact this
      obtain ⟨bs, q1, _⟩ := row_gown q0
      exact q1.rep
    have HOB : Hid (∀ wx, Below wr.heap.size wr wx → GRep Value.bool wx (.slice (some ⟨g, 0, none⟩) vs.length gc) us) := (show ∀ wx, _ from fun wx hb => hog.below hb)
    obtain ⟨⟨c0, c1, c2⟩, -⟩ := C3.below HG5.out hbr
    have hyl := setV_len us s.ws
    have hsum := HSUM.out
    obtain ⟨ny', hny⟩ : ∃ ny, (setV us s.ws).length = ny := ⟨_, rfl⟩
    have hs1 : (nx : Int) + (ny' : Int) = (s.ws.length : Int) := by omega
    have hs2 := w64 ((nx : Int) + (ny' : Int)) (by omega)
    have hs3 := w64 (s.ws.length : Int) (by omega)
    have HNY : Hid ((setV us s.ws).length = ny') := hny
    clear hog hor hbr HOR HYE hsum hny hyl
    have HYE : Hid _ := HNY.out
    go_wp2_with fail
    refine wp_region_held (S := (fun wz => (wz.cell? ⟨w1.heap.size, 0, none⟩ = some (.slice na s.n.length nc) ∧ wz.cell? ⟨w1.heap.size, 1, none⟩ = some (.slice wa s.ws.length wc) ∧ wz.cell? ⟨w1.heap.size, 2, none⟩ = some (.slice sa s.ss.length sc)) ∧ Below wr.heap.size wr wz)) (by kernel_rfl) ?_
    change wpAnyH _ _ _ _ _ _ _ _ (World.drew _)
    have hHeld := SRW1 ⟨⟨c0, c1, c2⟩, Below.refl wr.heap.size wr⟩
    refine' wpAnyH_take (i := 0) (v := _) rfl (by kernel_rfl) (by kernel_rfl) (by kernel_rfl) (fun _ _ _ h => h) (Or.inl ⟨by rfl, ?hy10⟩) hHeld ?hn10
    case hy10 => (intro wz hSw; (try dsimp only at hSw); go_simp; first | done | with_reducible rfl)
    try simp only [List.getElem_toArray, List.getElem_cons_zero, List.getElem_cons_succ, Act.put, List.setIfInBounds_toArray, List.set_cons_zero, List.set_cons_succ]
    refine' wpAnyH_take (i := 1) (v := _) rfl (by kernel_rfl) (by kernel_rfl) (by kernel_rfl) (fun _ _ _ h => h) (Or.inl ⟨by rfl, ?hy11⟩) hHeld ?hn11
    case hy11 => (intro wz hSw; (try dsimp only at hSw); go_simp; first | done | with_reducible rfl)
    try simp only [List.getElem_toArray, List.getElem_cons_zero, List.getElem_cons_succ, Act.put, List.setIfInBounds_toArray, List.set_cons_zero, List.set_cons_succ]
    refine' wpAnyH_take (i := 2) (v := .agg #[.slice na s.n.length nc, .slice wa s.ws.length wc, .slice sa s.ss.length sc]) rfl (by kernel_rfl) (by kernel_rfl) (by kernel_rfl) (fun _ _ _ h => h) (Or.inl ⟨by rfl, ?hy12⟩) hHeld ?hn12
    case hy12 => (intro wz hSw; obtain ⟨⟨k0, k1, k2⟩, _⟩ := hSw; go_simp)
    try simp only [List.getElem_toArray, List.getElem_cons_zero, List.getElem_cons_succ, Act.put, List.setIfInBounds_toArray, List.set_cons_zero, List.set_cons_succ]
    refine' wpAnyH_take (i := 3) (v := _) rfl (by kernel_rfl) (by kernel_rfl) (by kernel_rfl) (fun _ _ _ h => h) (Or.inl ⟨by rfl, ?hy13⟩) hHeld ?hn13
    case hy13 => (intro wz hSw; (try dsimp only at hSw); go_simp; first | done | with_reducible rfl)
    try simp only [List.getElem_toArray, List.getElem_cons_zero, List.getElem_cons_succ, Act.put, List.setIfInBounds_toArray, List.set_cons_zero, List.set_cons_succ]
    refine' wpAnyH_take (i := 7) (v := _) rfl (by kernel_rfl) (by kernel_rfl) (by kernel_rfl) (fun _ _ _ h => h) (Or.inl ⟨by rfl, ?hy14⟩) hHeld ?hn14
    case hy14 => (intro wz hSw; (try dsimp only at hSw); go_simp; first | done | with_reducible rfl)
    try simp only [List.getElem_toArray, List.getElem_cons_zero, List.getElem_cons_succ, Act.put, List.setIfInBounds_toArray, List.set_cons_zero, List.set_cons_succ]
    refine' wpAnyH_take (i := 8) (v := .slice wa s.ws.length wc) rfl (by kernel_rfl) (by kernel_rfl) (by kernel_rfl) (fun _ _ _ h => h) (Or.inl ⟨by rfl, ?hy15⟩) hHeld ?hn15
    case hy15 => (intro wz hSw; obtain ⟨⟨k0, k1, k2⟩, _⟩ := hSw; go_simp)
    try simp only [List.getElem_toArray, List.getElem_cons_zero, List.getElem_cons_succ, Act.put, List.setIfInBounds_toArray, List.set_cons_zero, List.set_cons_succ]
    refine' wpAnyH_take (i := 9) (v := _) rfl (by kernel_rfl) (by kernel_rfl) (by kernel_rfl) (fun _ _ _ h => h) (Or.inl ⟨by rfl, ?hy16⟩) hHeld ?hn16
    case hy16 => (intro wz hSw; (try dsimp only at hSw); go_simp; first | done | with_reducible rfl)
    try simp only [List.getElem_toArray, List.getElem_cons_zero, List.getElem_cons_succ, Act.put, List.setIfInBounds_toArray, List.set_cons_zero, List.set_cons_succ]
    refine wpAnyH_ready (rs := [4]) (by kernel_rfl) (by simp) ?_
    refine AllReadyH.cons rfl (fun K hK => ?_) AllReadyH.nil
    go_simp
    refine (runSets_any (HWX.out _ (Below.then HBR.out hHeld.2 HBR.out.size)) (HOB.out _ hHeld.2) hwl).mono ?_; rintro e' w8 ⟨ov, ob, rfl, hbx, oo, -⟩; obtain ⟨oa, oc, rfl, -⟩ := oo.rep; clear oo; (try rw [HYE.out])
    refine hK.out _ _ (SRW2 hHeld hbx) (fun hHeld => ?_)
    clear hK K
    refine' wpAnyH_take (i := 5) (v := _) rfl (by kernel_rfl) (by kernel_rfl) (by kernel_rfl) (fun _ _ _ h => h) (Or.inl ⟨by rfl, ?hy17⟩) hHeld ?hn17
    case hy17 => (intro wz hSw; (try dsimp only at hSw); go_simp; first | done | with_reducible rfl)
    try simp only [List.getElem_toArray, List.getElem_cons_zero, List.getElem_cons_succ, Act.put, List.setIfInBounds_toArray, List.set_cons_zero, List.set_cons_succ]
    refine' wpAnyH_take (i := 6) (v := .int .i64 (s.ws.length : Int)) rfl (by kernel_rfl) (by kernel_rfl) (by kernel_rfl) (fun _ _ _ h => h) (Or.inl ⟨by rfl, ?hy18⟩) hHeld ?hn18
    case hy18 => (intro wz hSw; go_simp; first | done | (simp [hs1, hs2]; done) | exact hs3)
    try simp only [List.getElem_toArray, List.getElem_cons_zero, List.getElem_cons_succ, Act.put, List.setIfInBounds_toArray, List.set_cons_zero, List.set_cons_succ]
    refine' wpAnyH_take (i := 10) (v := .bool true) rfl (by kernel_rfl) (by kernel_rfl) (by kernel_rfl) (fun _ _ _ h => h) (Or.inl ⟨by rfl, ?hy19⟩) hHeld ?hn19
    case hy19 => (intro wz hSw; go_simp; first | done | (simp [hs1]; done))
    try simp only [List.getElem_toArray, List.getElem_cons_zero, List.getElem_cons_succ, Act.put, List.setIfInBounds_toArray, List.set_cons_zero, List.set_cons_succ]
    refine' wpAnyH_take (i := 11) (v := _) rfl (by kernel_rfl) (by kernel_rfl) (by kernel_rfl) (fun _ _ _ h => h) (Or.inl ⟨by rfl, ?hy20⟩) hHeld ?hn20
    case hy20 => (intro wz hSw; (try dsimp only at hSw); go_simp; first | done | with_reducible rfl)
    try simp only [List.getElem_toArray, List.getElem_cons_zero, List.getElem_cons_succ, Act.put, List.setIfInBounds_toArray, List.set_cons_zero, List.set_cons_succ]
    refine' wpAnyH_take (i := 12) (v := .agg #[.slice na s.n.length nc, .slice wa s.ws.length wc, .slice sa s.ss.length sc]) rfl (by kernel_rfl) (by kernel_rfl) (by kernel_rfl) (fun _ _ _ h => h) (Or.inl ⟨by rfl, ?hy21⟩) hHeld ?hn21
    case hy21 => (intro wz hSw; obtain ⟨⟨k0, k1, k2⟩, _⟩ := hSw; go_simp)
    try simp only [List.getElem_toArray, List.getElem_cons_zero, List.getElem_cons_succ, Act.put, List.setIfInBounds_toArray, List.set_cons_zero, List.set_cons_succ]
    refine wpAnyH_ready (rs := [13]) (by kernel_rfl) (by simp) ?_
    refine AllReadyH.cons rfl (fun K hK => ?_) AllReadyH.nil
    go_simp
    refine (runSets_any (HWX.out _ (Below.then HBR.out hHeld.2 HBR.out.size)) (show GRep Value.bool _ (.slice none 0 0) [] from ⟨none, 0, rfl, by simp, by unfold maxLen; omega, fun i hi => by simp at hi⟩) hwl).mono ?_; rintro e' w9 ⟨ov9, ob9, rfl, hbx, oo9, -⟩; obtain ⟨oa9, oc9, rfl, -⟩ := oo9.rep; clear oo9; rw [HZE.out]
    refine hK.out _ _ (SRW2 hHeld hbx) (fun hHeld => ?_)
    clear hK K
    refine' wpAnyH_take (i := 14) (v := _) rfl (by kernel_rfl) (by kernel_rfl) (by kernel_rfl) (fun _ _ _ h => h) (Or.inl ⟨by rfl, ?hy22⟩) hHeld ?hn22
    case hy22 => (intro wz hSw; (try dsimp only at hSw); go_simp; first | done | with_reducible rfl)
    try simp only [List.getElem_toArray, List.getElem_cons_zero, List.getElem_cons_succ, Act.put, List.setIfInBounds_toArray, List.set_cons_zero, List.set_cons_succ]
    refine' wpAnyH_take (i := 15) (v := _) rfl (by kernel_rfl) (by kernel_rfl) (by kernel_rfl) (fun _ _ _ h => h) (Or.inl ⟨by rfl, ?hy23⟩) hHeld ?hn23
    case hy23 => (intro wz hSw; (try dsimp only at hSw); go_simp; first | done | with_reducible rfl)
    try simp only [List.getElem_toArray, List.getElem_cons_zero, List.getElem_cons_succ, Act.put, List.setIfInBounds_toArray, List.set_cons_zero, List.set_cons_succ]
    refine' wpAnyH_take (i := 16) (v := _) rfl (by kernel_rfl) (by kernel_rfl) (by kernel_rfl) (fun _ _ _ h => h) (Or.inl ⟨by rfl, ?hy24⟩) hHeld ?hn24
    case hy24 => (intro wz hSw; (try dsimp only at hSw); go_simp; first | done | with_reducible rfl)
    try simp only [List.getElem_toArray, List.getElem_cons_zero, List.getElem_cons_succ, Act.put, List.setIfInBounds_toArray, List.set_cons_zero, List.set_cons_succ]
    refine' wpAnyH_take (i := 17) (v := _) rfl (by kernel_rfl) (by kernel_rfl) (by kernel_rfl) (fun _ _ _ h => h) (Or.inl ⟨by rfl, ?hy25⟩) hHeld ?hn25
    case hy25 => (intro wz hSw; (try dsimp only at hSw); go_simp; first | done | with_reducible rfl)
    try simp only [List.getElem_toArray, List.getElem_cons_zero, List.getElem_cons_succ, Act.put, List.setIfInBounds_toArray, List.set_cons_zero, List.set_cons_succ]
    refine wpAnyH_done (by kernel_rfl) ?_ _
    have BB := Below.then HB1.out (Below.then HBR.out hHeld.2 HBR.out.size) HB1.out.size
    clear hHeld
    go_wp2
    go_ret
    exact ⟨rfl, BB⟩

end Go.Proofs.Ytfhlkehhoanpaaa

/- What came of a drawn program, and some variables, as the model draws them. -/
import Derived.Test.YtfhlkehhoanpaaaNrw
import Derived.Test.YtfhlkehhoanpaaaBro
namespace Go.Proofs.Ytfhlkehhoanpaaa
open Go.RowKit
set_option linter.unusedSimpArgs false
set_option linter.unusedVariables false
attribute [local go_sem] World.cell?_alloc_some

theorem isRow_below' {k : IntKind} {w w' : World} {a : Option Addr} {len cap : Nat} {zs : List Int} (h : IsRow k w a len cap zs) (hb : Below w.heap.size w w') : IsRow k w' a len cap zs := by
  rcases h with h | ⟨x, h0, h1, h2, h3, h4, h5⟩
  · exact .inl h
  · exact .inr ⟨x, h0, h1, h2, h3, fun i hi => cell_later hb (h4 i hi), h5⟩
theorem R3.mono {B B' : Nat} {w : World} {nv wv sv : Value} {s : RSt} (h : R3 B w nv wv sv s) (hB : B' ≤ B) : R3 B' w nv wv sv s := by
  have q : ∀ {e : TypeId} {sz : Nat} {v : Value} {n : Nat} {xs : List Value}, w.ownsRow B e sz v n xs → w.ownsRow B' e sz v n xs := by
    intro e sz v n xs h
    obtain ⟨q0, q1 | ⟨g, cap, cur, hv, hg, r⟩⟩ := h
    · exact ⟨q0, .inl q1⟩
    · exact ⟨q0, .inr ⟨g, cap, cur, hv, by omega, r⟩⟩
  exact ⟨q h.n, q h.ws, q h.ss, h.nw, h.ns, h.sw⟩
theorem R3.own_ge {B : Nat} {w : World} {nv wv sv : Value} {s : RSt} (h : R3 B w nv wv sv s) {b : Nat} (q : nv.ownBlock = some b ∨ wv.ownBlock = some b ∨ sv.ownBlock = some b) : B ≤ b ∧ b < w.heap.size := by
  rcases q with q | q | q
  · exact World.ownsRow.lt h.n b q
  · exact World.ownsRow.lt h.ws b q
  · exact World.ownsRow.lt h.ss b q
theorem doT_vars : ∀ (d : Nat) (T : Tr d) (n : Nat) (deep : Int) (s : RSt), stB n d deep T = true → (∀ x ∈ s.ws, vIn n x.1 = true) → ∀ x ∈ (doT d T s).ws, vIn n x.1 = true
  | 0, _, _, _, s, _, h => h
  | d + 1, (l : List (Pay × Tr d × Tr d)), n, deep, s, hs, h => by
    show ∀ x ∈ (l.foldl (fun s x => stepS (doT d) x s) s).ws, vIn n x.1 = true
    have hs' : (l.all fun x => decide (1 ≤ deep) && payB n x.1 (decide (ln d x.2.1 + ln d x.2.2 = 0)) && (stB n d (deep - 1) x.2.1 && stB n d (deep - 1) x.2.2)) = true := hs
    clear hs
    induction l generalizing s with
    | nil => exact h
    | cons y l ih =>
      rw [List.all_cons, Bool.and_eq_true_iff] at hs'
      obtain ⟨hx, hr⟩ := hs'
      simp only [Bool.and_eq_true_iff] at hx
      obtain ⟨⟨_, hp⟩, h1, h2⟩ := hx
      rw [List.foldl_cons]
      refine ih _ ?_ hr
      have hv : vIn n y.1.v = true := by unfold payB at hp; simp only [Bool.and_eq_true_iff] at hp; exact hp.1
      unfold stepS
      split
      · intro x hx
        rcases List.mem_append.1 hx with hx | hx
        · exact h x hx
        · obtain rfl : x = _ := by simpa using hx
          exact hv
      · split
        · exact h
        · split
          · exact doT_vars d _ n _ s h1 h
          · exact doT_vars d _ n _ s h2 h
theorem nums_st {ls : List (Int × Int)} {d : Nat} {T : Tr d} {zs : List Int} (h : numsB ls d T zs = true) : stB ls.length d 3 T = true ∧ zs.length = ls.length ∧ tenB zs = true ∧ cnt d T ≤ 8 := by
  unfold numsB progB at h
  simp only [Bool.and_eq_true_iff, decide_eq_true_eq] at h
  exact ⟨h.1.2.2.1, h.2.1, h.2.2, h.1.2.2.2⟩
theorem runS_vars (ls : List (Int × Int)) (d : Nat) (T : Tr d) (zs : List Int) : ∀ x ∈ (runS ls d T zs).ws, vIn ls.length x.1 = true := by
  unfold runS
  split
  · rename_i h
    exact doT_vars d T ls.length 3 _ (nums_st h).1 (fun x hx => by simp at hx)
  · intro x hx; simp at hx
theorem runS_len (ls : List (Int × Int)) (d : Nat) (T : Tr d) (zs : List Int) : (runS ls d T zs).ws.length ≤ 8 := by
  unfold runS
  split
  · rename_i h
    obtain ⟨h1, h2, h3, h4⟩ := nums_st h
    have := (doT_ok d T ls.length 3 ⟨zs, [], []⟩ h1 h2 h3).2.2.1
    simp at this
    omega
  · simp

def DrsPost (w : World) (e : Ending) (w' : World) : Prop := ∃ (a b c : Value) (s : RSt) (vv : Value) (vs : List Bool), e = .returned (.tuple #[.agg #[a, b, c], vv]) ∧ Below w.heap.size w w' ∧ R3 (w.heap.size + 1) w' a b c s ∧ GRep Value.bool w' vv vs ∧ (∀ x ∈ s.ws, vIn vs.length x.1 = true) ∧ s.ws.length ≤ 1048576 ∧ vs.length ≤ 4

set_option maxHeartbeats 16000000 in
set_option maxRecDepth 20000 in
theorem drawRunSets_any (w : World) (a0 : Option Addr) (len0 cap0 : Nat) (zs0 : List Int) (h : IsRow .u8 w a0 len0 cap0 zs0) : Calls Try.prog 39 #[.slice a0 len0 cap0] w (DrsPost w) := by
  obtain ⟨i9, hq0, hq1, hq2, hq3⟩ := info_parts infoBool
  have A0 : Below w.heap.size w (w.alloc (.cells #[.slice none 0 0, .slice none 0 0, .slice none 0 0] 47)) := (Below.refl _ _).alloc (Nat.le_refl _) _
  have C1 : Hid _ := l6Open_any _ a0 len0 cap0 zs0 (isRow_below' h A0)
  have Z0 := C3.new w (.slice none 0 0) (.slice none 0 0) (.slice none 0 0) 47
  have s0 : (w.alloc (.cells #[.slice none 0 0, .slice none 0 0, .slice none 0 0] 47)).heap.size = w.heap.size + 1 := by simp
  have HZ0 : Hid (C3 (w.alloc (.cells #[.slice none 0 0, .slice none 0 0, .slice none 0 0] 47)) w.heap.size (.slice none 0 0) (.slice none 0 0) (.slice none 0 0)) := Z0
  have HA0 : Hid (Below w.heap.size w (w.alloc (.cells #[.slice none 0 0, .slice none 0 0, .slice none 0 0] 47))) := A0
  clear A0 Z0 h
  go_enter Try.func39, Try.ntmps39
  go_wp2_with fail
  go_at_call 62; refine Calls.mono C1.out ?_
  rintro e w1 ⟨rfl, rd1, sz1, hb1⟩
  have B1 : Below w.heap.size w w1 := Below.then HA0.out hb1 (by omega)
  have Z1 : C3 w1 w.heap.size (.slice none 0 0) (.slice none 0 0) (.slice none 0 0) := C3.below HZ0.out hb1
  rw [s0] at rd1 sz1 ⊢
  have P1 : Hid _ := l71Prog_any w1 (w.heap.size + 1) 0 ⟨0, by omega, rd1⟩ (by omega)
  have HB1 : Hid (Below w.heap.size w w1) := B1
  have HZ1 : Hid (C3 w1 w.heap.size (.slice none 0 0) (.slice none 0 0) (.slice none 0 0)) := Z1
  clear hb1 B1 Z1 HZ0 HA0 C1 rd1 s0
  go_wp2_with fail
  go_at_call 63; refine Calls.mono P1.out ?_
  rintro e w2 ⟨lv, sv, ls, T, b1, b2, rfl, rd2, ot2, lo2, ow2, rg2, l1, l4, hc⟩
  obtain ⟨la, lc, rfl⟩ : ∃ a c, lv = .slice a ls.length c := by
    obtain ⟨a, c, h, _⟩ := lo2.rep
    exact ⟨a, c, h⟩
  obtain ⟨sa, sc, rfl⟩ := ow2.slice
  have s2 : w1.heap.size ≤ w2.heap.size := ot2.size
  have Z2 : C3 w2 w.heap.size (.slice none 0 0) (.slice none 0 0) (.slice none 0 0) := C3.frame HZ1.out (ot2.block _ (by omega) (by omega))
  have KK : Hid (∀ wz : World, (∀ b, w1.heap.size ≤ b → b < w2.heap.size → wz.heap[b]? = w2.heap[b]?) → LRep wz (.slice la ls.length lc) ls ∧ Rep wz 3 (.slice sa (ln 3 T) sc) T) := (show ∀ wz : World, _ from fun wz hz =>
    ⟨(lo2.frame fun b hb => by have := rg2 b (List.mem_append_left _ hb); exact hz b this.1 this.2).rep, (ow2.frame fun b hb => by have := rg2 b (List.mem_append_right _ hb); exact hz b this.1 this.2).rep⟩)
  have HO2 : Hid (Oth (w.heap.size + 1) w1 w2) := ot2
  have AD : Below w2.heap.size w2 (w2.alloc (.cells #[.slice la ls.length lc, .slice sa (ln 3 T) sc] 26)).drew := ((Below.refl _ _).alloc (Nat.le_refl _) _).drew
  have X3 := C2.new w2 (.slice la ls.length lc) (.slice sa (ln 3 T) sc) 26
  have PB0 : Hid (C2 (w2.alloc (.cells #[.slice la ls.length lc, .slice sa (ln 3 T) sc] 26)).drew w2.heap.size (.slice la ls.length lc) (.slice sa (ln 3 T) sc)) := X3
  have ZR0 : Hid (C3 (w2.alloc (.cells #[.slice la ls.length lc, .slice sa (ln 3 T) sc] 26)).drew w.heap.size (.slice none 0 0) (.slice none 0 0) (.slice none 0 0)) := C3.below Z2 AD
  have RD0 : Hid (Rd2 (w2.alloc (.cells #[.slice la ls.length lc, .slice sa (ln 3 T) sc] 26)).drew (w.heap.size + 1) 40000) := (show Rd2 _ _ _ from (rd2.oth AD).mono (by omega))
  have OT0 : Hid (Oth (w.heap.size + 1) w2 (w2.alloc (.cells #[.slice la ls.length lc, .slice sa (ln 3 T) sc] 26)).drew) := Oth.of_below AD
  have sz0 : w2.heap.size < (w2.alloc (.cells #[.slice la ls.length lc, .slice sa (ln 3 T) sc] 26)).drew.heap.size := by simp [World.drew]
  clear rd2 ot2 lo2 ow2 rg2 P1 HZ1 Z2 AD X3
  go_wp2_with fail
  refine wp_region_held (S := (fun wz => wz.cell? ⟨w2.heap.size, 0, none⟩ = some (.slice la ls.length lc) ∧ wz.cell? ⟨w2.heap.size, 1, none⟩ = some (.slice sa (ln 3 T) sc))) (by kernel_rfl) ?_
  change wpAnyH _ _ _ _ _ _ _ _ (World.drew _)
  generalize (w2.alloc (.cells #[.slice la ls.length lc, .slice sa (ln 3 T) sc] 26)).drew = wd at *
  have PB_wd : Hid _ := PB0.out
  have ZR_wd : Hid _ := ZR0.out
  have RD_wd : Hid (Rd2 wd (w.heap.size + 1) 40000) := RD0.out
  have OT_wd : Hid _ := OT0.out
  have sz_wd : w2.heap.size < wd.heap.size := sz0
  have hHeld : wd.cell? ⟨w2.heap.size, 0, none⟩ = some (.slice la ls.length lc) ∧ wd.cell? ⟨w2.heap.size, 1, none⟩ = some (.slice sa (ln 3 T) sc) := PB0.out.1
  clear PB0 ZR0 RD0 OT0 sz0
  refine' wpAnyH_take (i := 0) (v := .agg #[.slice la ls.length lc, .slice sa (ln 3 T) sc]) rfl (by kernel_rfl) (by kernel_rfl) (by kernel_rfl) (fun _ _ _ h => h) (Or.inl ⟨by rfl, ?hz1⟩) hHeld ?hm1
  case hz1 => (intro wz hSw; obtain ⟨j0, j1⟩ := hSw; go_simp)
  try simp only [List.getElem_toArray, List.getElem_cons_zero, List.getElem_cons_succ, Act.put, List.setIfInBounds_toArray, List.set_cons_zero, List.set_cons_succ]
  refine' wpAnyH_take (i := 1) (v := _) rfl (by kernel_rfl) (by kernel_rfl) (by kernel_rfl) (fun _ _ _ h => h) (Or.inl ⟨by rfl, ?hz2⟩) hHeld ?hm2
  case hz2 => (intro wz hSw; obtain ⟨j0, j1⟩ := hSw; go_simp; first | done | with_reducible rfl)
  try simp only [List.getElem_toArray, List.getElem_cons_zero, List.getElem_cons_succ, Act.put, List.setIfInBounds_toArray, List.set_cons_zero, List.set_cons_succ]
  refine' wpAnyH_take (i := 2) (v := .agg #[.slice la ls.length lc, .slice sa (ln 3 T) sc]) rfl (by kernel_rfl) (by kernel_rfl) (by kernel_rfl) (fun _ _ _ h => h) (Or.inl ⟨by rfl, ?hz3⟩) hHeld ?hm3
  case hz3 => (intro wz hSw; obtain ⟨j0, j1⟩ := hSw; go_simp)
  try simp only [List.getElem_toArray, List.getElem_cons_zero, List.getElem_cons_succ, Act.put, List.setIfInBounds_toArray, List.set_cons_zero, List.set_cons_succ]
  refine wpAnyH_ready (rs := [3, 8]) (by kernel_rfl) (by simp) ?_
  refine AllReadyH.cons rfl (fun K hK => ?_) (AllReadyH.cons rfl (fun K hK => ?_) AllReadyH.nil)
  · skip
    go_simp
    have NU_wd : Hid _ := l71Nums_any wd (w.heap.size + 1) 40000 la sa ls.length lc (ln 3 T) sc RD_wd.out (by omega) l1 l4
    refine Calls.mono NU_wd.out ?_
    rintro e' w4 ⟨zs, ad, nc, rfl, rdn, otn, rown⟩
    have OX_w4 : Oth (w.heap.size + 1) wd w4 := otn
    have sz_w4 : w2.heap.size < w4.heap.size := Nat.lt_of_lt_of_le sz_wd OX_w4.size
    have zz_w4 : wd.heap.size ≤ w4.heap.size := OX_w4.size
    have PB_w4 : Hid (C2 w4 w2.heap.size (.slice la ls.length lc) (.slice sa (ln 3 T) sc)) := C2.oth PB_wd.out OX_w4 (by omega)
    have ZR_w4 : Hid (C3 w4 w.heap.size (.slice none 0 0) (.slice none 0 0) (.slice none 0 0)) := C3.frame ZR_wd.out (OX_w4.block w.heap.size (by omega) (by omega))
    have OT_w4 : Hid (Oth (w.heap.size + 1) w2 w4) := OT_wd.out.trans OX_w4
    have RD_w4 : Hid (Rd2 w4 (w.heap.size + 1) 50000) := Rd2.mono rdn (by omega)
    have HX_w4 : Hid _ := OX_w4
    clear OX_w4
    have NR_w4 : Hid (GRep (Value.int .i64) w4 (.slice (some ad) zs.length nc) zs) := (show GRep (Value.int .i64) w4 (.slice (some ad) zs.length nc) zs from by obtain ⟨bs, q1, _⟩ := row_gown rown; exact q1.rep)
    clear rdn otn rown NU_wd
    refine hK.out _ _ PB_w4.out.1 (fun hHeld => ?_)
    clear hK K
    refine wpAnyH_ready (rs := [4, 8]) (by kernel_rfl) (by simp) ?_
    refine AllReadyH.cons rfl (fun K hK => ?_) (AllReadyH.cons rfl (fun K hK => ?_) AllReadyH.nil)
    · skip
      go_simp
      have LR_w4 := KK.out w4 (fun b q1 q2 => OT_w4.out.block b q2 (by omega))
      have RU_w4 : Hid _ := sRunOf_any LR_w4.1 LR_w4.2 (by omega) NR_w4.out
      clear LR_w4
      refine Calls.mono RU_w4.out ?_
      rintro e' w5 ⟨ra, rb, rc, rfl, hbr, r5⟩
      have OX_w5 : Oth (w.heap.size + 1) w4 w5 := (Oth.of_below (r := (w.heap.size + 1)) hbr)
      have sz_w5 : w2.heap.size < w5.heap.size := Nat.lt_of_lt_of_le sz_w4 OX_w5.size
      have zz_w5 : w4.heap.size ≤ w5.heap.size := OX_w5.size
      have PB_w5 : Hid (C2 w5 w2.heap.size (.slice la ls.length lc) (.slice sa (ln 3 T) sc)) := C2.oth PB_w4.out OX_w5 (by omega)
      have ZR_w5 : Hid (C3 w5 w.heap.size (.slice none 0 0) (.slice none 0 0) (.slice none 0 0)) := C3.frame ZR_w4.out (OX_w5.block w.heap.size (by omega) (by omega))
      have OT_w5 : Hid (Oth (w.heap.size + 1) w2 w5) := OT_w4.out.trans OX_w5
      have RD_w5 : Hid (Rd2 w5 (w.heap.size + 1) 50000) := Rd2.oth RD_w4.out hbr
      have HX_w5 : Hid _ := OX_w5
      clear OX_w5
      have SV1 := runS_vars ls 3 T zs
      have SL1 := runS_len ls 3 T zs
      obtain ⟨s, hs⟩ : ∃ s, runS ls 3 T zs = s := ⟨_, rfl⟩
      rw [hs] at r5 SV1 SL1
      have HSV : Hid _ := SV1
      have HSL : Hid (s.ws.length ≤ 1048576) := (show s.ws.length ≤ 1048576 by omega)
      obtain ⟨a1, a2, rfl⟩ := rowg_slice r5.n
      obtain ⟨b1', b2', rfl⟩ := rowg_slice r5.ws
      obtain ⟨c1', c2', rfl⟩ := rowg_slice r5.ss
      have r6 := r5.mono (B' := w2.heap.size + 1) (by omega)
      have HR3 : Hid _ := r6
      generalize numsB ls 3 T zs = nb at *
      clear hbr r5 r6 SV1 SL1 hs RU_w4
      refine hK.out _ _ PB_w5.out.1 (fun hHeld => ?_)
      clear hK K
      refine' wpAnyH_take (i := 5) (v := _) rfl (by kernel_rfl) (by kernel_rfl) (by kernel_rfl) (fun _ _ _ h => h) (Or.inl ⟨by rfl, ?hz4⟩) hHeld ?hm4
      case hz4 => (intro wz hSw; obtain ⟨j0, j1⟩ := hSw; go_simp; first | done | with_reducible rfl)
      try simp only [List.getElem_toArray, List.getElem_cons_zero, List.getElem_cons_succ, Act.put, List.setIfInBounds_toArray, List.set_cons_zero, List.set_cons_succ]
      refine' wpAnyH_take (i := 6) (v := _) rfl (by kernel_rfl) (by kernel_rfl) (by kernel_rfl) (fun _ _ _ h => h) (Or.inl ⟨by rfl, ?hz5⟩) hHeld ?hm5
      case hz5 => (intro wz hSw; obtain ⟨j0, j1⟩ := hSw; go_simp; first | done | with_reducible rfl)
      try simp only [List.getElem_toArray, List.getElem_cons_zero, List.getElem_cons_succ, Act.put, List.setIfInBounds_toArray, List.set_cons_zero, List.set_cons_succ]
      refine' wpAnyH_take (i := 7) (v := _) rfl (by kernel_rfl) (by kernel_rfl) (by kernel_rfl) (fun _ _ _ h => h) (Or.inl ⟨by rfl, ?hz6⟩) hHeld ?hm6
      case hz6 => (intro wz hSw; obtain ⟨j0, j1⟩ := hSw; go_simp; first | done | with_reducible rfl)
      try simp only [List.getElem_toArray, List.getElem_cons_zero, List.getElem_cons_succ, Act.put, List.setIfInBounds_toArray, List.set_cons_zero, List.set_cons_succ]
      refine wpAnyH_ready (rs := [8]) (by kernel_rfl) (by simp) ?_
      refine AllReadyH.cons rfl (fun K hK => ?_) AllReadyH.nil
      go_simp
      have AA_w6 : Below w5.heap.size w5 (w5.alloc (.cells #[.slice none 0 0, .slice none 0 0, .slice none 0 0] 47)) := (Below.refl _ _).alloc (Nat.le_refl _) _
      have GA_w6 := C3.new w5 (.slice none 0 0) (.slice none 0 0) (.slice none 0 0) 47
      generalize hal_w6 : (w5.alloc (.cells #[.slice none 0 0, .slice none 0 0, .slice none 0 0] 47)) = w6 at *
      clear hal_w6
      have OX_w6 : Oth (w.heap.size + 1) w5 w6 := (Oth.of_below (r := (w.heap.size + 1)) AA_w6)
      have sz_w6 : w2.heap.size < w6.heap.size := Nat.lt_of_lt_of_le sz_w5 OX_w6.size
      have zz_w6 : w5.heap.size ≤ w6.heap.size := OX_w6.size
      have PB_w6 : Hid (C2 w6 w2.heap.size (.slice la ls.length lc) (.slice sa (ln 3 T) sc)) := C2.oth PB_w5.out OX_w6 (by omega)
      have ZR_w6 : Hid (C3 w6 w.heap.size (.slice none 0 0) (.slice none 0 0) (.slice none 0 0)) := C3.frame ZR_w5.out (OX_w6.block w.heap.size (by omega) (by omega))
      have OT_w6 : Hid (Oth (w.heap.size + 1) w2 w6) := OT_w5.out.trans OX_w6
      have RD_w6 : Hid (Rd2 w6 (w.heap.size + 1) 50000) := Rd2.oth RD_w5.out AA_w6
      have HX_w6 : Hid _ := OX_w6
      clear OX_w6
      have BX : Hid (C3 w6 w5.heap.size (.slice none 0 0) (.slice none 0 0) (.slice none 0 0)) := GA_w6
      have bl_w6 : w5.heap.size < w6.heap.size := C3.lt GA_w6
      obtain ⟨bx, hbx⟩ : ∃ bx, w5.heap.size = bx := ⟨_, rfl⟩
      rw [hbx] at BX bl_w6 zz_w6 ⊢
      have bxr : w2.heap.size < bx := by omega
      have HR3' : Hid _ := R3.below HR3.out AA_w6
      have NBX : Hid (¬ (Value.ownBlock (.slice a1 s.n.length a2) = some bx ∨ Value.ownBlock (.slice b1' s.ws.length b2') = some bx ∨ Value.ownBlock (.slice c1' s.ss.length c2') = some bx)) := (show ¬ _ from fun e => by have := HR3.out.own_ge e; omega)
      clear HR3
      have HR3 : Hid _ := HR3'.out
      clear AA_w6 GA_w6
      refine hK.out _ _ PB_w6.out.1 (fun hHeld => ?_)
      clear hK K
      refine wpAnyH_ready (rs := [9]) (by kernel_rfl) (by simp) ?_
      refine AllReadyH.cons rfl (fun K hK => ?_) AllReadyH.nil
      obtain ⟨⟨e0, e1, e2⟩, u0, u1, u2⟩ := BX.out
      go_simp
      have bxw : bx < w6.heap.size := C3.lt BX.out
      have OVx : Oth (w.heap.size + 1) w6 (((w6.setCell ⟨bx, 0, none⟩ (.slice a1 s.n.length a2)).setCell ⟨bx, 1, none⟩ (.slice b1' s.ws.length b2')).setCell ⟨bx, 2, none⟩ (.slice c1' s.ss.length c2')) → True := fun _ => trivial
      have WB : ∀ b, b ≠ bx → (((w6.setCell ⟨bx, 0, none⟩ (.slice a1 s.n.length a2)).setCell ⟨bx, 1, none⟩ (.slice b1' s.ws.length b2')).setCell ⟨bx, 2, none⟩ (.slice c1' s.ss.length c2')).heap[b]? = w6.heap[b]? := fun b hb => by rw [Below.heap_setCell _ _ _ _ hb, Below.heap_setCell _ _ _ _ hb, Below.heap_setCell _ _ _ _ hb]
      have WG : C3 (((w6.setCell ⟨bx, 0, none⟩ (.slice a1 s.n.length a2)).setCell ⟨bx, 1, none⟩ (.slice b1' s.ws.length b2')).setCell ⟨bx, 2, none⟩ (.slice c1' s.ss.length c2')) bx (.slice a1 s.n.length a2) (.slice b1' s.ws.length b2') (.slice c1' s.ss.length c2') := C3.set2 _ (C3.set1 _ (C3.set0 _ BX.out))
      have WS : (((w6.setCell ⟨bx, 0, none⟩ (.slice a1 s.n.length a2)).setCell ⟨bx, 1, none⟩ (.slice b1' s.ws.length b2')).setCell ⟨bx, 2, none⟩ (.slice c1' s.ss.length c2')).heap.size = w6.heap.size := by simp [World.setCell]
      have WR : R3 (w2.heap.size + 1) (((w6.setCell ⟨bx, 0, none⟩ (.slice a1 s.n.length a2)).setCell ⟨bx, 1, none⟩ (.slice b1' s.ws.length b2')).setCell ⟨bx, 2, none⟩ (.slice c1' s.ss.length c2')) (.slice a1 s.n.length a2) (.slice b1' s.ws.length b2') (.slice c1' s.ss.length c2') s := R3.frame HR3.out (fun b _ q => WB b (fun e => by subst e; exact NBX.out q))
      have WO : Oth (w.heap.size + 1) w2 (((w6.setCell ⟨bx, 0, none⟩ (.slice a1 s.n.length a2)).setCell ⟨bx, 1, none⟩ (.slice b1' s.ws.length b2')).setCell ⟨bx, 2, none⟩ (.slice c1' s.ss.length c2')) := ((OT_w6.out.new (by show w2.heap.size ≤ bx; omega) _).new (by show w2.heap.size ≤ bx; omega) _).new (by show w2.heap.size ≤ bx; omega) _
      generalize (((w6.setCell ⟨bx, 0, none⟩ (.slice a1 s.n.length a2)).setCell ⟨bx, 1, none⟩ (.slice b1' s.ws.length b2')).setCell ⟨bx, 2, none⟩ (.slice c1' s.ss.length c2')) = wv at *
      have PBv : Hid (C2 wv w2.heap.size (.slice la ls.length lc) (.slice sa (ln 3 T) sc)) := C2.same PB_w6.out (WB _ (by omega))
      have ZRv : Hid (C3 wv w.heap.size (.slice none 0 0) (.slice none 0 0) (.slice none 0 0)) := C3.frame ZR_w6.out (WB _ (by omega))
      have RDv : Hid (Rd2 wv (w.heap.size + 1) 50000) := Rd2.same RD_w6.out (fun b hb => WB b (by omega))
      have HGv : Hid _ := WG
      have HRv : Hid _ := WR
      have HOv : Hid _ := WO
      have szv : w2.heap.size < wv.heap.size := by omega
      have bxv : bx < wv.heap.size := by omega
      clear WB WG WS WR WO OVx e0 e1 e2 u0 u1 u2
      refine hK.out _ _ PBv.out.1 (fun hHeld => ?_)
      clear hK K
      refine' wpAnyH_take (i := 10) (v := _) rfl (by kernel_rfl) (by kernel_rfl) (by kernel_rfl) (fun _ _ _ h => h) (Or.inl ⟨by rfl, ?hz7⟩) hHeld ?hm7
      case hz7 => (intro wz hSw; obtain ⟨j0, j1⟩ := hSw; go_simp; first | done | with_reducible rfl)
      try simp only [List.getElem_toArray, List.getElem_cons_zero, List.getElem_cons_succ, Act.put, List.setIfInBounds_toArray, List.set_cons_zero, List.set_cons_succ]
      refine wpAnyH_done (by kernel_rfl) ?_ _
      clear hHeld
      have Av : Below wv.heap.size wv (wv.alloc (.cells #[] 4)) := (Below.refl _ _).alloc (Nat.le_refl _) _
      have I0 : Hid _ := And.intro (Oth.of_below (r := (w.heap.size + 1)) Av) (And.intro (Rd2.oth RDv.out Av) (World.ownsRow_made (base := wv.heap.size) (e := 4) (size := 1) wv #[] 0 (Nat.le_refl _) (by unfold maxLen; omega) (by simp)))
      obtain ⟨⟨pb0, pb1⟩, -⟩ := PBv.out
      clear Av
      go_wp2
      go_loopw [8, 9] (fun o j wr => ∃ (vs : List Bool) (g gc : Nat), vs.length ≤ ls.length ∧ j = .int .i64 vs.length ∧ o = .slice (some ⟨g, 0, none⟩) vs.length gc ∧ Rd2 wr (w.heap.size + 1) (50000 + vs.length) ∧ Oth (w.heap.size + 1) wv wr ∧ wr.ownsRow wv.heap.size 4 1 (.slice (some ⟨g, 0, none⟩) vs.length gc) vs.length (vs.map Value.bool)) (fun _ j _ => ls.length - (intOf j).toNat)
      case atStart => exact ⟨[], wv.heap.size, 0, by simp, rfl, rfl, I0.out.2.1, I0.out.1, by simpa using I0.out.2.2⟩
      case round =>
        obtain ⟨vs, g, gc, hvl, rfl, rfl, hrd, hot, hor⟩ := hrel
        have hgl := World.ownsRow.lt hor g rfl
        have PBr := C2.oth PBv.out hot (by omega)
        obtain ⟨⟨c0, c1⟩, -⟩ := PBr
        have szr : wv.heap.size ≤ wr.heap.size := hot.size
        have HOT : Hid (Oth (w.heap.size + 1) wv wr) := hot
        have HOR : Hid (wr.ownsRow wv.heap.size 4 1 (.slice (some ⟨g, 0, none⟩) vs.length gc) vs.length (vs.map Value.bool)) := hor
        have hvi : (vs.length : Int) ≤ 4 := by omega
        by_cases hlt2 : vs.length < ls.length
        · have i1' : (vs.length : Int) < (ls.length : Int) := by omega
          have i0' : (0 : Int) ≤ (vs.length : Int) := by omega
          have P1 : Hid _ := pick2 wr (w.heap.size + 1) _ 2 hrd (by omega) (by omega) (by omega)
          clear hrd hot hor
          go_wp2_with fail
          go_at_call 64; refine Calls.mono P1.out ?_
          rintro e w7 ⟨k, rfl, kl, kh, rd7, ot7⟩
          have s7 : wr.heap.size ≤ w7.heap.size := ot7.size
          have OR7 : Hid (w7.ownsRow wv.heap.size 4 1 (.slice (some ⟨g, 0, none⟩) vs.length gc) vs.length (vs.map Value.bool)) := rowq_oth HOR.out ot7 (by omega)
          have HO7 : Hid (Oth (w.heap.size + 1) wv w7) := HOT.out.trans ot7
          have HRD7 : Hid _ := rd7
          obtain ⟨kb, hkb⟩ : ∃ kb : Bool, (k == 0) = kb := ⟨_, rfl⟩
          clear ot7 rd7 P1 c0 c1
          go_wp2_with (at_builtin; refine wpList_append_own_at _ rfl _ _ 58 rfl wv.heap.size 4 i9 _ 1 1 Try.underlying58 hq0 hq1 hq2 hq3 rfl (by decide) _ _ _ rfl (OR7.out.alloc _) ⟨w7.heap.size, 0, none⟩ 1 1 [.bool kb] rfl rfl ?a1p ?a2p ?a3p ?a4p ?a5p ?_)
          case a1p => exact cells_new1 w7 _ _ _ rfl
          case a2p => simp [Value.oneCell']
          case a3p => unfold maxLen; omega
          case a4p => omega
          case a5p => simp; omega
          intro v8 w8 own8 grow8 nn8 at8
          have nz : v8 ≠ .slice none 0 0 := by intro e; have := nn8; simp [e] at this
          obtain ⟨g8, gc8, hv8⟩ : ∃ g8 gc8, v8 = .slice (some ⟨g8, 0, none⟩) (vs.length + 1) gc8 := by
            obtain ⟨_, ⟨q, _⟩ | ⟨g5, c5, _, q, _⟩⟩ := id own8
            · exact (nz q).elim
            · exact ⟨g5, c5, q⟩
          subst hv8
          have O8 : Oth (w.heap.size + 1) wv w8 := (HO7.out.alloc _).grown grow8 (fun k hk => by have e : g = k := (by simpa [Value.ownBlock] using hk); have := hgl.1; omega)
          have bl8 : ∀ b, b < w7.heap.size → b ≠ g → w8.heap[b]? = w7.heap[b]? := fun b hb hne => (grow8.block b (by simp; omega) (fun q => hne (by cases q; rfl))).trans (Below.heap_alloc _ _ _ hb)
          have RD8 : Rd2 w8 (w.heap.size + 1) (50000 + (vs ++ [kb]).length) := Rd2.mono (Rd2.same HRD7.out (fun b hb => bl8 b (by omega) (by omega))) (by simp; omega)
          have HO8 : Hid _ := O8
          have HR8 : Hid _ := RD8
          have HW8 : Hid (w8.ownsRow wv.heap.size 4 1 (.slice (some ⟨g8, 0, none⟩) (vs.length + 1) gc8) (vs.length + 1) (vs.map Value.bool ++ [.bool kb])) := own8
          clear own8 grow8 nn8 at8 nz O8 bl8 RD8
          go_wp2
          exact ⟨⟨vs ++ [kb], g8, gc8, by simp; omega, by simp, by simp, HR8.out, HO8.out, by simpa using HW8.out⟩, by simp [intOf]; omega⟩
        · have HVL : Hid (vs.length = ls.length) := (show vs.length = ls.length by omega)
          have hne : ¬ ((vs.length : Int) < (ls.length : Int)) := by omega
          have GB := C3.frame HGv.out (hot.block bx bxv (by omega))
          have GZ := C3.frame ZRv.out (hot.block w.heap.size (by omega) (by omega))
          have HGZ : Hid _ := GZ
          obtain ⟨⟨t0, t1, t2⟩, -⟩ := GB
          obtain ⟨⟨y0, y1, y2⟩, f0, f1, f2⟩ := GZ
          clear hrd hot hor
          go_wp2
          have GF := C3.set2 (.slice c1' s.ss.length c2') (C3.set1 (.slice b1' s.ws.length b2') (C3.set0 (.slice a1 s.n.length a2) HGZ.out))
          obtain ⟨⟨r0, r1, r2⟩, -⟩ := GF
          have WBf : ∀ b, b ≠ w.heap.size → (((wr.setCell ⟨w.heap.size, 0, none⟩ (.slice a1 s.n.length a2)).setCell ⟨w.heap.size, 1, none⟩ (.slice b1' s.ws.length b2')).setCell ⟨w.heap.size, 2, none⟩ (.slice c1' s.ss.length c2')).heap[b]? = wr.heap[b]? := fun b hb => by rw [Below.heap_setCell _ _ _ _ hb, Below.heap_setCell _ _ _ _ hb, Below.heap_setCell _ _ _ _ hb]
          show bodyPost Try.prog Try.f39 _ _ _ _
          refine bodyPost_ret (v := .tuple #[.agg #[.slice a1 s.n.length a2, .slice b1' s.ws.length b2', .slice c1' s.ss.length c2'], .slice (some ⟨g, 0, none⟩) vs.length gc]) (by simp [results, Try.results39, go_sem, r0, r1, r2]) rfl ⟨_, _, _, s, _, vs, rfl, ?_, ?_, ?_, ?_, HSL.out, by omega⟩
          · exact (((HB1.out.trans ((HO2.out.trans (HOv.out.trans HOT.out)).below (B := w.heap.size) (by omega) (by omega))).setCell (Nat.le_refl _) _).setCell (Nat.le_refl _) _).setCell (Nat.le_refl _) _
          · exact R3.mono (B := w2.heap.size + 1) (R3.frame (R3.frame (w' := wr) HRv.out (fun b hb q => HOT.out.block b hb (fun e => by have := HRv.out.own_ge q; omega))) (fun b _ q => WBf b (fun e => by have := HRv.out.own_ge q; omega))) (by omega)
          · have OF := rowg_frame HOR.out (fun b e => WBf b (by have := (World.ownsRow.lt HOR.out b e).1; omega))
            obtain ⟨bs, q1, _⟩ := row_gown OF
            exact q1.rep
          · intro x hx; rw [HVL.out]; exact HSV.out x hx
    · skip
      go_simp
      have AA_w5 : Below w4.heap.size w4 (w4.alloc (.cells #[.slice none 0 0, .slice none 0 0, .slice none 0 0] 47)) := (Below.refl _ _).alloc (Nat.le_refl _) _
      have GA_w5 := C3.new w4 (.slice none 0 0) (.slice none 0 0) (.slice none 0 0) 47
      generalize hal_w5 : (w4.alloc (.cells #[.slice none 0 0, .slice none 0 0, .slice none 0 0] 47)) = w5 at *
      clear hal_w5
      have OX_w5 : Oth (w.heap.size + 1) w4 w5 := (Oth.of_below (r := (w.heap.size + 1)) AA_w5)
      have sz_w5 : w2.heap.size < w5.heap.size := Nat.lt_of_lt_of_le sz_w4 OX_w5.size
      have zz_w5 : w4.heap.size ≤ w5.heap.size := OX_w5.size
      have PB_w5 : Hid (C2 w5 w2.heap.size (.slice la ls.length lc) (.slice sa (ln 3 T) sc)) := C2.oth PB_w4.out OX_w5 (by omega)
      have ZR_w5 : Hid (C3 w5 w.heap.size (.slice none 0 0) (.slice none 0 0) (.slice none 0 0)) := C3.frame ZR_w4.out (OX_w5.block w.heap.size (by omega) (by omega))
      have OT_w5 : Hid (Oth (w.heap.size + 1) w2 w5) := OT_w4.out.trans OX_w5
      have RD_w5 : Hid (Rd2 w5 (w.heap.size + 1) 50000) := Rd2.oth RD_w4.out AA_w5
      have HX_w5 : Hid _ := OX_w5
      clear OX_w5
      have BX : Hid (C3 w5 w4.heap.size (.slice none 0 0) (.slice none 0 0) (.slice none 0 0)) := GA_w5
      have bl_w5 : w4.heap.size < w5.heap.size := C3.lt GA_w5
      obtain ⟨bx, hbx⟩ : ∃ bx, w4.heap.size = bx := ⟨_, rfl⟩
      rw [hbx] at BX bl_w5 zz_w5 ⊢
      have bxr : w2.heap.size < bx := by omega
      have NR_w5 : Hid (GRep (Value.int .i64) w5 (.slice (some ad) zs.length nc) zs) := GRep.below AA_w5 NR_w4.out
      clear AA_w5 GA_w5
      refine hK.out _ _ PB_w5.out.1 (fun hHeld => ?_)
      clear hK K
      refine wpAnyH_ready (rs := [4]) (by kernel_rfl) (by simp) ?_
      refine AllReadyH.cons rfl (fun K hK => ?_) AllReadyH.nil
      go_simp
      have LR_w5 := KK.out w5 (fun b q1 q2 => OT_w5.out.block b q2 (by omega))
      have RU_w5 : Hid _ := sRunOf_any LR_w5.1 LR_w5.2 (by omega) NR_w5.out
      clear LR_w5
      refine Calls.mono RU_w5.out ?_
      rintro e' w6 ⟨ra, rb, rc, rfl, hbr, r5⟩
      have OX_w6 : Oth (w.heap.size + 1) w5 w6 := (Oth.of_below (r := (w.heap.size + 1)) hbr)
      have sz_w6 : w2.heap.size < w6.heap.size := Nat.lt_of_lt_of_le sz_w5 OX_w6.size
      have zz_w6 : w5.heap.size ≤ w6.heap.size := OX_w6.size
      have PB_w6 : Hid (C2 w6 w2.heap.size (.slice la ls.length lc) (.slice sa (ln 3 T) sc)) := C2.oth PB_w5.out OX_w6 (by omega)
      have ZR_w6 : Hid (C3 w6 w.heap.size (.slice none 0 0) (.slice none 0 0) (.slice none 0 0)) := C3.frame ZR_w5.out (OX_w6.block w.heap.size (by omega) (by omega))
      have OT_w6 : Hid (Oth (w.heap.size + 1) w2 w6) := OT_w5.out.trans OX_w6
      have RD_w6 : Hid (Rd2 w6 (w.heap.size + 1) 50000) := Rd2.oth RD_w5.out hbr
      have HX_w6 : Hid _ := OX_w6
      clear OX_w6
      have BX' : Hid (C3 w6 bx (.slice none 0 0) (.slice none 0 0) (.slice none 0 0)) := C3.below BX.out hbr
      clear BX
      have BX : Hid (C3 w6 bx (.slice none 0 0) (.slice none 0 0) (.slice none 0 0)) := BX'
      clear BX'
      have SV1 := runS_vars ls 3 T zs
      have SL1 := runS_len ls 3 T zs
      obtain ⟨s, hs⟩ : ∃ s, runS ls 3 T zs = s := ⟨_, rfl⟩
      rw [hs] at r5 SV1 SL1
      have HSV : Hid _ := SV1
      have HSL : Hid (s.ws.length ≤ 1048576) := (show s.ws.length ≤ 1048576 by omega)
      obtain ⟨a1, a2, rfl⟩ := rowg_slice r5.n
      obtain ⟨b1', b2', rfl⟩ := rowg_slice r5.ws
      obtain ⟨c1', c2', rfl⟩ := rowg_slice r5.ss
      have NBX : Hid (¬ (Value.ownBlock (.slice a1 s.n.length a2) = some bx ∨ Value.ownBlock (.slice b1' s.ws.length b2') = some bx ∨ Value.ownBlock (.slice c1' s.ss.length c2') = some bx)) := (show ¬ _ from fun e => by have := r5.own_ge e; omega)
      have r6 := r5.mono (B' := w2.heap.size + 1) (by omega)
      have HR3 : Hid _ := r6
      generalize numsB ls 3 T zs = nb at *
      clear hbr r5 r6 SV1 SL1 hs RU_w5
      refine hK.out _ _ PB_w6.out.1 (fun hHeld => ?_)
      clear hK K
      refine' wpAnyH_take (i := 5) (v := _) rfl (by kernel_rfl) (by kernel_rfl) (by kernel_rfl) (fun _ _ _ h => h) (Or.inl ⟨by rfl, ?hz8⟩) hHeld ?hm8
      case hz8 => (intro wz hSw; obtain ⟨j0, j1⟩ := hSw; go_simp; first | done | with_reducible rfl)
      try simp only [List.getElem_toArray, List.getElem_cons_zero, List.getElem_cons_succ, Act.put, List.setIfInBounds_toArray, List.set_cons_zero, List.set_cons_succ]
      refine' wpAnyH_take (i := 6) (v := _) rfl (by kernel_rfl) (by kernel_rfl) (by kernel_rfl) (fun _ _ _ h => h) (Or.inl ⟨by rfl, ?hz9⟩) hHeld ?hm9
      case hz9 => (intro wz hSw; obtain ⟨j0, j1⟩ := hSw; go_simp; first | done | with_reducible rfl)
      try simp only [List.getElem_toArray, List.getElem_cons_zero, List.getElem_cons_succ, Act.put, List.setIfInBounds_toArray, List.set_cons_zero, List.set_cons_succ]
      refine' wpAnyH_take (i := 7) (v := _) rfl (by kernel_rfl) (by kernel_rfl) (by kernel_rfl) (fun _ _ _ h => h) (Or.inl ⟨by rfl, ?hz10⟩) hHeld ?hm10
      case hz10 => (intro wz hSw; obtain ⟨j0, j1⟩ := hSw; go_simp; first | done | with_reducible rfl)
      try simp only [List.getElem_toArray, List.getElem_cons_zero, List.getElem_cons_succ, Act.put, List.setIfInBounds_toArray, List.set_cons_zero, List.set_cons_succ]
      refine wpAnyH_ready (rs := [9]) (by kernel_rfl) (by simp) ?_
      refine AllReadyH.cons rfl (fun K hK => ?_) AllReadyH.nil
      obtain ⟨⟨e0, e1, e2⟩, u0, u1, u2⟩ := BX.out
      go_simp
      have bxw : bx < w6.heap.size := C3.lt BX.out
      have OVx : Oth (w.heap.size + 1) w6 (((w6.setCell ⟨bx, 0, none⟩ (.slice a1 s.n.length a2)).setCell ⟨bx, 1, none⟩ (.slice b1' s.ws.length b2')).setCell ⟨bx, 2, none⟩ (.slice c1' s.ss.length c2')) → True := fun _ => trivial
      have WB : ∀ b, b ≠ bx → (((w6.setCell ⟨bx, 0, none⟩ (.slice a1 s.n.length a2)).setCell ⟨bx, 1, none⟩ (.slice b1' s.ws.length b2')).setCell ⟨bx, 2, none⟩ (.slice c1' s.ss.length c2')).heap[b]? = w6.heap[b]? := fun b hb => by rw [Below.heap_setCell _ _ _ _ hb, Below.heap_setCell _ _ _ _ hb, Below.heap_setCell _ _ _ _ hb]
      have WG : C3 (((w6.setCell ⟨bx, 0, none⟩ (.slice a1 s.n.length a2)).setCell ⟨bx, 1, none⟩ (.slice b1' s.ws.length b2')).setCell ⟨bx, 2, none⟩ (.slice c1' s.ss.length c2')) bx (.slice a1 s.n.length a2) (.slice b1' s.ws.length b2') (.slice c1' s.ss.length c2') := C3.set2 _ (C3.set1 _ (C3.set0 _ BX.out))
      have WS : (((w6.setCell ⟨bx, 0, none⟩ (.slice a1 s.n.length a2)).setCell ⟨bx, 1, none⟩ (.slice b1' s.ws.length b2')).setCell ⟨bx, 2, none⟩ (.slice c1' s.ss.length c2')).heap.size = w6.heap.size := by simp [World.setCell]
      have WR : R3 (w2.heap.size + 1) (((w6.setCell ⟨bx, 0, none⟩ (.slice a1 s.n.length a2)).setCell ⟨bx, 1, none⟩ (.slice b1' s.ws.length b2')).setCell ⟨bx, 2, none⟩ (.slice c1' s.ss.length c2')) (.slice a1 s.n.length a2) (.slice b1' s.ws.length b2') (.slice c1' s.ss.length c2') s := R3.frame HR3.out (fun b _ q => WB b (fun e => by subst e; exact NBX.out q))
      have WO : Oth (w.heap.size + 1) w2 (((w6.setCell ⟨bx, 0, none⟩ (.slice a1 s.n.length a2)).setCell ⟨bx, 1, none⟩ (.slice b1' s.ws.length b2')).setCell ⟨bx, 2, none⟩ (.slice c1' s.ss.length c2')) := ((OT_w6.out.new (by show w2.heap.size ≤ bx; omega) _).new (by show w2.heap.size ≤ bx; omega) _).new (by show w2.heap.size ≤ bx; omega) _
      generalize (((w6.setCell ⟨bx, 0, none⟩ (.slice a1 s.n.length a2)).setCell ⟨bx, 1, none⟩ (.slice b1' s.ws.length b2')).setCell ⟨bx, 2, none⟩ (.slice c1' s.ss.length c2')) = wv at *
      have PBv : Hid (C2 wv w2.heap.size (.slice la ls.length lc) (.slice sa (ln 3 T) sc)) := C2.same PB_w6.out (WB _ (by omega))
      have ZRv : Hid (C3 wv w.heap.size (.slice none 0 0) (.slice none 0 0) (.slice none 0 0)) := C3.frame ZR_w6.out (WB _ (by omega))
      have RDv : Hid (Rd2 wv (w.heap.size + 1) 50000) := Rd2.same RD_w6.out (fun b hb => WB b (by omega))
      have HGv : Hid _ := WG
      have HRv : Hid _ := WR
      have HOv : Hid _ := WO
      have szv : w2.heap.size < wv.heap.size := by omega
      have bxv : bx < wv.heap.size := by omega
      clear WB WG WS WR WO OVx e0 e1 e2 u0 u1 u2
      refine hK.out _ _ PBv.out.1 (fun hHeld => ?_)
      clear hK K
      refine' wpAnyH_take (i := 10) (v := _) rfl (by kernel_rfl) (by kernel_rfl) (by kernel_rfl) (fun _ _ _ h => h) (Or.inl ⟨by rfl, ?hz11⟩) hHeld ?hm11
      case hz11 => (intro wz hSw; obtain ⟨j0, j1⟩ := hSw; go_simp; first | done | with_reducible rfl)
      try simp only [List.getElem_toArray, List.getElem_cons_zero, List.getElem_cons_succ, Act.put, List.setIfInBounds_toArray, List.set_cons_zero, List.set_cons_succ]
      refine wpAnyH_done (by kernel_rfl) ?_ _
      clear hHeld
      have Av : Below wv.heap.size wv (wv.alloc (.cells #[] 4)) := (Below.refl _ _).alloc (Nat.le_refl _) _
      have I0 : Hid _ := And.intro (Oth.of_below (r := (w.heap.size + 1)) Av) (And.intro (Rd2.oth RDv.out Av) (World.ownsRow_made (base := wv.heap.size) (e := 4) (size := 1) wv #[] 0 (Nat.le_refl _) (by unfold maxLen; omega) (by simp)))
      obtain ⟨⟨pb0, pb1⟩, -⟩ := PBv.out
      clear Av
      go_wp2
      go_loopw [8, 9] (fun o j wr => ∃ (vs : List Bool) (g gc : Nat), vs.length ≤ ls.length ∧ j = .int .i64 vs.length ∧ o = .slice (some ⟨g, 0, none⟩) vs.length gc ∧ Rd2 wr (w.heap.size + 1) (50000 + vs.length) ∧ Oth (w.heap.size + 1) wv wr ∧ wr.ownsRow wv.heap.size 4 1 (.slice (some ⟨g, 0, none⟩) vs.length gc) vs.length (vs.map Value.bool)) (fun _ j _ => ls.length - (intOf j).toNat)
      case atStart => exact ⟨[], wv.heap.size, 0, by simp, rfl, rfl, I0.out.2.1, I0.out.1, by simpa using I0.out.2.2⟩
      case round =>
        obtain ⟨vs, g, gc, hvl, rfl, rfl, hrd, hot, hor⟩ := hrel
        have hgl := World.ownsRow.lt hor g rfl
        have PBr := C2.oth PBv.out hot (by omega)
        obtain ⟨⟨c0, c1⟩, -⟩ := PBr
        have szr : wv.heap.size ≤ wr.heap.size := hot.size
        have HOT : Hid (Oth (w.heap.size + 1) wv wr) := hot
        have HOR : Hid (wr.ownsRow wv.heap.size 4 1 (.slice (some ⟨g, 0, none⟩) vs.length gc) vs.length (vs.map Value.bool)) := hor
        have hvi : (vs.length : Int) ≤ 4 := by omega
        by_cases hlt2 : vs.length < ls.length
        · have i1' : (vs.length : Int) < (ls.length : Int) := by omega
          have i0' : (0 : Int) ≤ (vs.length : Int) := by omega
          have P1 : Hid _ := pick2 wr (w.heap.size + 1) _ 2 hrd (by omega) (by omega) (by omega)
          clear hrd hot hor
          go_wp2_with fail
          go_at_call 64; refine Calls.mono P1.out ?_
          rintro e w7 ⟨k, rfl, kl, kh, rd7, ot7⟩
          have s7 : wr.heap.size ≤ w7.heap.size := ot7.size
          have OR7 : Hid (w7.ownsRow wv.heap.size 4 1 (.slice (some ⟨g, 0, none⟩) vs.length gc) vs.length (vs.map Value.bool)) := rowq_oth HOR.out ot7 (by omega)
          have HO7 : Hid (Oth (w.heap.size + 1) wv w7) := HOT.out.trans ot7
          have HRD7 : Hid _ := rd7
          obtain ⟨kb, hkb⟩ : ∃ kb : Bool, (k == 0) = kb := ⟨_, rfl⟩
          clear ot7 rd7 P1 c0 c1
          go_wp2_with (at_builtin; refine wpList_append_own_at _ rfl _ _ 58 rfl wv.heap.size 4 i9 _ 1 1 Try.underlying58 hq0 hq1 hq2 hq3 rfl (by decide) _ _ _ rfl (OR7.out.alloc _) ⟨w7.heap.size, 0, none⟩ 1 1 [.bool kb] rfl rfl ?a1q ?a2q ?a3q ?a4q ?a5q ?_)
          case a1q => exact cells_new1 w7 _ _ _ rfl
          case a2q => simp [Value.oneCell']
          case a3q => unfold maxLen; omega
          case a4q => omega
          case a5q => simp; omega
          intro v8 w8 own8 grow8 nn8 at8
          have nz : v8 ≠ .slice none 0 0 := by intro e; have := nn8; simp [e] at this
          obtain ⟨g8, gc8, hv8⟩ : ∃ g8 gc8, v8 = .slice (some ⟨g8, 0, none⟩) (vs.length + 1) gc8 := by
            obtain ⟨_, ⟨q, _⟩ | ⟨g5, c5, _, q, _⟩⟩ := id own8
            · exact (nz q).elim
            · exact ⟨g5, c5, q⟩
          subst hv8
          have O8 : Oth (w.heap.size + 1) wv w8 := (HO7.out.alloc _).grown grow8 (fun k hk => by have e : g = k := (by simpa [Value.ownBlock] using hk); have := hgl.1; omega)
          have bl8 : ∀ b, b < w7.heap.size → b ≠ g → w8.heap[b]? = w7.heap[b]? := fun b hb hne => (grow8.block b (by simp; omega) (fun q => hne (by cases q; rfl))).trans (Below.heap_alloc _ _ _ hb)
          have RD8 : Rd2 w8 (w.heap.size + 1) (50000 + (vs ++ [kb]).length) := Rd2.mono (Rd2.same HRD7.out (fun b hb => bl8 b (by omega) (by omega))) (by simp; omega)
          have HO8 : Hid _ := O8
          have HR8 : Hid _ := RD8
          have HW8 : Hid (w8.ownsRow wv.heap.size 4 1 (.slice (some ⟨g8, 0, none⟩) (vs.length + 1) gc8) (vs.length + 1) (vs.map Value.bool ++ [.bool kb])) := own8
          clear own8 grow8 nn8 at8 nz O8 bl8 RD8
          go_wp2
          exact ⟨⟨vs ++ [kb], g8, gc8, by simp; omega, by simp, by simp, HR8.out, HO8.out, by simpa using HW8.out⟩, by simp [intOf]; omega⟩
        · have HVL : Hid (vs.length = ls.length) := (show vs.length = ls.length by omega)
          have hne : ¬ ((vs.length : Int) < (ls.length : Int)) := by omega
          have GB := C3.frame HGv.out (hot.block bx bxv (by omega))
          have GZ := C3.frame ZRv.out (hot.block w.heap.size (by omega) (by omega))
          have HGZ : Hid _ := GZ
          obtain ⟨⟨t0, t1, t2⟩, -⟩ := GB
          obtain ⟨⟨y0, y1, y2⟩, f0, f1, f2⟩ := GZ
          clear hrd hot hor
          go_wp2
          have GF := C3.set2 (.slice c1' s.ss.length c2') (C3.set1 (.slice b1' s.ws.length b2') (C3.set0 (.slice a1 s.n.length a2) HGZ.out))
          obtain ⟨⟨r0, r1, r2⟩, -⟩ := GF
          have WBf : ∀ b, b ≠ w.heap.size → (((wr.setCell ⟨w.heap.size, 0, none⟩ (.slice a1 s.n.length a2)).setCell ⟨w.heap.size, 1, none⟩ (.slice b1' s.ws.length b2')).setCell ⟨w.heap.size, 2, none⟩ (.slice c1' s.ss.length c2')).heap[b]? = wr.heap[b]? := fun b hb => by rw [Below.heap_setCell _ _ _ _ hb, Below.heap_setCell _ _ _ _ hb, Below.heap_setCell _ _ _ _ hb]
          show bodyPost Try.prog Try.f39 _ _ _ _
          refine bodyPost_ret (v := .tuple #[.agg #[.slice a1 s.n.length a2, .slice b1' s.ws.length b2', .slice c1' s.ss.length c2'], .slice (some ⟨g, 0, none⟩) vs.length gc]) (by simp [results, Try.results39, go_sem, r0, r1, r2]) rfl ⟨_, _, _, s, _, vs, rfl, ?_, ?_, ?_, ?_, HSL.out, by omega⟩
          · exact (((HB1.out.trans ((HO2.out.trans (HOv.out.trans HOT.out)).below (B := w.heap.size) (by omega) (by omega))).setCell (Nat.le_refl _) _).setCell (Nat.le_refl _) _).setCell (Nat.le_refl _) _
          · exact R3.mono (B := w2.heap.size + 1) (R3.frame (R3.frame (w' := wr) HRv.out (fun b hb q => HOT.out.block b hb (fun e => by have := HRv.out.own_ge q; omega))) (fun b _ q => WBf b (fun e => by have := HRv.out.own_ge q; omega))) (by omega)
          · have OF := rowg_frame HOR.out (fun b e => WBf b (by have := (World.ownsRow.lt HOR.out b e).1; omega))
            obtain ⟨bs, q1, _⟩ := row_gown OF
            exact q1.rep
          · intro x hx; rw [HVL.out]; exact HSV.out x hx
  · skip
    go_simp
    have AA_w4 : Below wd.heap.size wd (wd.alloc (.cells #[.slice none 0 0, .slice none 0 0, .slice none 0 0] 47)) := (Below.refl _ _).alloc (Nat.le_refl _) _
    have GA_w4 := C3.new wd (.slice none 0 0) (.slice none 0 0) (.slice none 0 0) 47
    generalize hal_w4 : (wd.alloc (.cells #[.slice none 0 0, .slice none 0 0, .slice none 0 0] 47)) = w4 at *
    clear hal_w4
    have OX_w4 : Oth (w.heap.size + 1) wd w4 := (Oth.of_below (r := (w.heap.size + 1)) AA_w4)
    have sz_w4 : w2.heap.size < w4.heap.size := Nat.lt_of_lt_of_le sz_wd OX_w4.size
    have zz_w4 : wd.heap.size ≤ w4.heap.size := OX_w4.size
    have PB_w4 : Hid (C2 w4 w2.heap.size (.slice la ls.length lc) (.slice sa (ln 3 T) sc)) := C2.oth PB_wd.out OX_w4 (by omega)
    have ZR_w4 : Hid (C3 w4 w.heap.size (.slice none 0 0) (.slice none 0 0) (.slice none 0 0)) := C3.frame ZR_wd.out (OX_w4.block w.heap.size (by omega) (by omega))
    have OT_w4 : Hid (Oth (w.heap.size + 1) w2 w4) := OT_wd.out.trans OX_w4
    have RD_w4 : Hid (Rd2 w4 (w.heap.size + 1) 40000) := Rd2.oth RD_wd.out AA_w4
    have HX_w4 : Hid _ := OX_w4
    clear OX_w4
    have BX : Hid (C3 w4 wd.heap.size (.slice none 0 0) (.slice none 0 0) (.slice none 0 0)) := GA_w4
    have bl_w4 : wd.heap.size < w4.heap.size := C3.lt GA_w4
    obtain ⟨bx, hbx⟩ : ∃ bx, wd.heap.size = bx := ⟨_, rfl⟩
    rw [hbx] at BX bl_w4 zz_w4 ⊢
    have bxr : w2.heap.size < bx := by omega
    clear AA_w4 GA_w4
    refine hK.out _ _ PB_w4.out.1 (fun hHeld => ?_)
    clear hK K
    refine wpAnyH_ready (rs := [3]) (by kernel_rfl) (by simp) ?_
    refine AllReadyH.cons rfl (fun K hK => ?_) AllReadyH.nil
    go_simp
    have NU_w4 : Hid _ := l71Nums_any w4 (w.heap.size + 1) 40000 la sa ls.length lc (ln 3 T) sc RD_w4.out (by omega) l1 l4
    refine Calls.mono NU_w4.out ?_
    rintro e' w5 ⟨zs, ad, nc, rfl, rdn, otn, rown⟩
    have OX_w5 : Oth (w.heap.size + 1) w4 w5 := otn
    have sz_w5 : w2.heap.size < w5.heap.size := Nat.lt_of_lt_of_le sz_w4 OX_w5.size
    have zz_w5 : w4.heap.size ≤ w5.heap.size := OX_w5.size
    have PB_w5 : Hid (C2 w5 w2.heap.size (.slice la ls.length lc) (.slice sa (ln 3 T) sc)) := C2.oth PB_w4.out OX_w5 (by omega)
    have ZR_w5 : Hid (C3 w5 w.heap.size (.slice none 0 0) (.slice none 0 0) (.slice none 0 0)) := C3.frame ZR_w4.out (OX_w5.block w.heap.size (by omega) (by omega))
    have OT_w5 : Hid (Oth (w.heap.size + 1) w2 w5) := OT_w4.out.trans OX_w5
    have RD_w5 : Hid (Rd2 w5 (w.heap.size + 1) 50000) := Rd2.mono rdn (by omega)
    have HX_w5 : Hid _ := OX_w5
    clear OX_w5
    have NR_w5 : Hid (GRep (Value.int .i64) w5 (.slice (some ad) zs.length nc) zs) := (show GRep (Value.int .i64) w5 (.slice (some ad) zs.length nc) zs from by obtain ⟨bs, q1, _⟩ := row_gown rown; exact q1.rep)
    clear rdn otn rown NU_w4
    have BXn : Hid (C3 w5 bx (.slice none 0 0) (.slice none 0 0) (.slice none 0 0)) := C3.frame BX.out (HX_w5.out.block bx (by omega) (by omega))
    clear BX
    have BX : Hid (C3 w5 bx (.slice none 0 0) (.slice none 0 0) (.slice none 0 0)) := BXn
    clear BXn
    refine hK.out _ _ PB_w5.out.1 (fun hHeld => ?_)
    clear hK K
    refine wpAnyH_ready (rs := [4]) (by kernel_rfl) (by simp) ?_
    refine AllReadyH.cons rfl (fun K hK => ?_) AllReadyH.nil
    go_simp
    have LR_w5 := KK.out w5 (fun b q1 q2 => OT_w5.out.block b q2 (by omega))
    have RU_w5 : Hid _ := sRunOf_any LR_w5.1 LR_w5.2 (by omega) NR_w5.out
    clear LR_w5
    refine Calls.mono RU_w5.out ?_
    rintro e' w6 ⟨ra, rb, rc, rfl, hbr, r5⟩
    have OX_w6 : Oth (w.heap.size + 1) w5 w6 := (Oth.of_below (r := (w.heap.size + 1)) hbr)
    have sz_w6 : w2.heap.size < w6.heap.size := Nat.lt_of_lt_of_le sz_w5 OX_w6.size
    have zz_w6 : w5.heap.size ≤ w6.heap.size := OX_w6.size
    have PB_w6 : Hid (C2 w6 w2.heap.size (.slice la ls.length lc) (.slice sa (ln 3 T) sc)) := C2.oth PB_w5.out OX_w6 (by omega)
    have ZR_w6 : Hid (C3 w6 w.heap.size (.slice none 0 0) (.slice none 0 0) (.slice none 0 0)) := C3.frame ZR_w5.out (OX_w6.block w.heap.size (by omega) (by omega))
    have OT_w6 : Hid (Oth (w.heap.size + 1) w2 w6) := OT_w5.out.trans OX_w6
    have RD_w6 : Hid (Rd2 w6 (w.heap.size + 1) 50000) := Rd2.oth RD_w5.out hbr
    have HX_w6 : Hid _ := OX_w6
    clear OX_w6
    have BX' : Hid (C3 w6 bx (.slice none 0 0) (.slice none 0 0) (.slice none 0 0)) := C3.below BX.out hbr
    clear BX
    have BX : Hid (C3 w6 bx (.slice none 0 0) (.slice none 0 0) (.slice none 0 0)) := BX'
    clear BX'
    have SV1 := runS_vars ls 3 T zs
    have SL1 := runS_len ls 3 T zs
    obtain ⟨s, hs⟩ : ∃ s, runS ls 3 T zs = s := ⟨_, rfl⟩
    rw [hs] at r5 SV1 SL1
    have HSV : Hid _ := SV1
    have HSL : Hid (s.ws.length ≤ 1048576) := (show s.ws.length ≤ 1048576 by omega)
    obtain ⟨a1, a2, rfl⟩ := rowg_slice r5.n
    obtain ⟨b1', b2', rfl⟩ := rowg_slice r5.ws
    obtain ⟨c1', c2', rfl⟩ := rowg_slice r5.ss
    have NBX : Hid (¬ (Value.ownBlock (.slice a1 s.n.length a2) = some bx ∨ Value.ownBlock (.slice b1' s.ws.length b2') = some bx ∨ Value.ownBlock (.slice c1' s.ss.length c2') = some bx)) := (show ¬ _ from fun e => by have := r5.own_ge e; omega)
    have r6 := r5.mono (B' := w2.heap.size + 1) (by omega)
    have HR3 : Hid _ := r6
    generalize numsB ls 3 T zs = nb at *
    clear hbr r5 r6 SV1 SL1 hs RU_w5
    refine hK.out _ _ PB_w6.out.1 (fun hHeld => ?_)
    clear hK K
    refine' wpAnyH_take (i := 5) (v := _) rfl (by kernel_rfl) (by kernel_rfl) (by kernel_rfl) (fun _ _ _ h => h) (Or.inl ⟨by rfl, ?hz12⟩) hHeld ?hm12
    case hz12 => (intro wz hSw; obtain ⟨j0, j1⟩ := hSw; go_simp; first | done | with_reducible rfl)
    try simp only [List.getElem_toArray, List.getElem_cons_zero, List.getElem_cons_succ, Act.put, List.setIfInBounds_toArray, List.set_cons_zero, List.set_cons_succ]
    refine' wpAnyH_take (i := 6) (v := _) rfl (by kernel_rfl) (by kernel_rfl) (by kernel_rfl) (fun _ _ _ h => h) (Or.inl ⟨by rfl, ?hz13⟩) hHeld ?hm13
    case hz13 => (intro wz hSw; obtain ⟨j0, j1⟩ := hSw; go_simp; first | done | with_reducible rfl)
    try simp only [List.getElem_toArray, List.getElem_cons_zero, List.getElem_cons_succ, Act.put, List.setIfInBounds_toArray, List.set_cons_zero, List.set_cons_succ]
    refine' wpAnyH_take (i := 7) (v := _) rfl (by kernel_rfl) (by kernel_rfl) (by kernel_rfl) (fun _ _ _ h => h) (Or.inl ⟨by rfl, ?hz14⟩) hHeld ?hm14
    case hz14 => (intro wz hSw; obtain ⟨j0, j1⟩ := hSw; go_simp; first | done | with_reducible rfl)
    try simp only [List.getElem_toArray, List.getElem_cons_zero, List.getElem_cons_succ, Act.put, List.setIfInBounds_toArray, List.set_cons_zero, List.set_cons_succ]
    refine wpAnyH_ready (rs := [9]) (by kernel_rfl) (by simp) ?_
    refine AllReadyH.cons rfl (fun K hK => ?_) AllReadyH.nil
    obtain ⟨⟨e0, e1, e2⟩, u0, u1, u2⟩ := BX.out
    go_simp
    have bxw : bx < w6.heap.size := C3.lt BX.out
    have OVx : Oth (w.heap.size + 1) w6 (((w6.setCell ⟨bx, 0, none⟩ (.slice a1 s.n.length a2)).setCell ⟨bx, 1, none⟩ (.slice b1' s.ws.length b2')).setCell ⟨bx, 2, none⟩ (.slice c1' s.ss.length c2')) → True := fun _ => trivial
    have WB : ∀ b, b ≠ bx → (((w6.setCell ⟨bx, 0, none⟩ (.slice a1 s.n.length a2)).setCell ⟨bx, 1, none⟩ (.slice b1' s.ws.length b2')).setCell ⟨bx, 2, none⟩ (.slice c1' s.ss.length c2')).heap[b]? = w6.heap[b]? := fun b hb => by rw [Below.heap_setCell _ _ _ _ hb, Below.heap_setCell _ _ _ _ hb, Below.heap_setCell _ _ _ _ hb]
    have WG : C3 (((w6.setCell ⟨bx, 0, none⟩ (.slice a1 s.n.length a2)).setCell ⟨bx, 1, none⟩ (.slice b1' s.ws.length b2')).setCell ⟨bx, 2, none⟩ (.slice c1' s.ss.length c2')) bx (.slice a1 s.n.length a2) (.slice b1' s.ws.length b2') (.slice c1' s.ss.length c2') := C3.set2 _ (C3.set1 _ (C3.set0 _ BX.out))
    have WS : (((w6.setCell ⟨bx, 0, none⟩ (.slice a1 s.n.length a2)).setCell ⟨bx, 1, none⟩ (.slice b1' s.ws.length b2')).setCell ⟨bx, 2, none⟩ (.slice c1' s.ss.length c2')).heap.size = w6.heap.size := by simp [World.setCell]
    have WR : R3 (w2.heap.size + 1) (((w6.setCell ⟨bx, 0, none⟩ (.slice a1 s.n.length a2)).setCell ⟨bx, 1, none⟩ (.slice b1' s.ws.length b2')).setCell ⟨bx, 2, none⟩ (.slice c1' s.ss.length c2')) (.slice a1 s.n.length a2) (.slice b1' s.ws.length b2') (.slice c1' s.ss.length c2') s := R3.frame HR3.out (fun b _ q => WB b (fun e => by subst e; exact NBX.out q))
    have WO : Oth (w.heap.size + 1) w2 (((w6.setCell ⟨bx, 0, none⟩ (.slice a1 s.n.length a2)).setCell ⟨bx, 1, none⟩ (.slice b1' s.ws.length b2')).setCell ⟨bx, 2, none⟩ (.slice c1' s.ss.length c2')) := ((OT_w6.out.new (by show w2.heap.size ≤ bx; omega) _).new (by show w2.heap.size ≤ bx; omega) _).new (by show w2.heap.size ≤ bx; omega) _
    generalize (((w6.setCell ⟨bx, 0, none⟩ (.slice a1 s.n.length a2)).setCell ⟨bx, 1, none⟩ (.slice b1' s.ws.length b2')).setCell ⟨bx, 2, none⟩ (.slice c1' s.ss.length c2')) = wv at *
    have PBv : Hid (C2 wv w2.heap.size (.slice la ls.length lc) (.slice sa (ln 3 T) sc)) := C2.same PB_w6.out (WB _ (by omega))
    have ZRv : Hid (C3 wv w.heap.size (.slice none 0 0) (.slice none 0 0) (.slice none 0 0)) := C3.frame ZR_w6.out (WB _ (by omega))
    have RDv : Hid (Rd2 wv (w.heap.size + 1) 50000) := Rd2.same RD_w6.out (fun b hb => WB b (by omega))
    have HGv : Hid _ := WG
    have HRv : Hid _ := WR
    have HOv : Hid _ := WO
    have szv : w2.heap.size < wv.heap.size := by omega
    have bxv : bx < wv.heap.size := by omega
    clear WB WG WS WR WO OVx e0 e1 e2 u0 u1 u2
    refine hK.out _ _ PBv.out.1 (fun hHeld => ?_)
    clear hK K
    refine' wpAnyH_take (i := 10) (v := _) rfl (by kernel_rfl) (by kernel_rfl) (by kernel_rfl) (fun _ _ _ h => h) (Or.inl ⟨by rfl, ?hz15⟩) hHeld ?hm15
    case hz15 => (intro wz hSw; obtain ⟨j0, j1⟩ := hSw; go_simp; first | done | with_reducible rfl)
    try simp only [List.getElem_toArray, List.getElem_cons_zero, List.getElem_cons_succ, Act.put, List.setIfInBounds_toArray, List.set_cons_zero, List.set_cons_succ]
    refine wpAnyH_done (by kernel_rfl) ?_ _
    clear hHeld
    have Av : Below wv.heap.size wv (wv.alloc (.cells #[] 4)) := (Below.refl _ _).alloc (Nat.le_refl _) _
    have I0 : Hid _ := And.intro (Oth.of_below (r := (w.heap.size + 1)) Av) (And.intro (Rd2.oth RDv.out Av) (World.ownsRow_made (base := wv.heap.size) (e := 4) (size := 1) wv #[] 0 (Nat.le_refl _) (by unfold maxLen; omega) (by simp)))
    obtain ⟨⟨pb0, pb1⟩, -⟩ := PBv.out
    clear Av
    go_wp2
    go_loopw [8, 9] (fun o j wr => ∃ (vs : List Bool) (g gc : Nat), vs.length ≤ ls.length ∧ j = .int .i64 vs.length ∧ o = .slice (some ⟨g, 0, none⟩) vs.length gc ∧ Rd2 wr (w.heap.size + 1) (50000 + vs.length) ∧ Oth (w.heap.size + 1) wv wr ∧ wr.ownsRow wv.heap.size 4 1 (.slice (some ⟨g, 0, none⟩) vs.length gc) vs.length (vs.map Value.bool)) (fun _ j _ => ls.length - (intOf j).toNat)
    case atStart => exact ⟨[], wv.heap.size, 0, by simp, rfl, rfl, I0.out.2.1, I0.out.1, by simpa using I0.out.2.2⟩
    case round =>
      obtain ⟨vs, g, gc, hvl, rfl, rfl, hrd, hot, hor⟩ := hrel
      have hgl := World.ownsRow.lt hor g rfl
      have PBr := C2.oth PBv.out hot (by omega)
      obtain ⟨⟨c0, c1⟩, -⟩ := PBr
      have szr : wv.heap.size ≤ wr.heap.size := hot.size
      have HOT : Hid (Oth (w.heap.size + 1) wv wr) := hot
      have HOR : Hid (wr.ownsRow wv.heap.size 4 1 (.slice (some ⟨g, 0, none⟩) vs.length gc) vs.length (vs.map Value.bool)) := hor
      have hvi : (vs.length : Int) ≤ 4 := by omega
      by_cases hlt2 : vs.length < ls.length
      · have i1' : (vs.length : Int) < (ls.length : Int) := by omega
        have i0' : (0 : Int) ≤ (vs.length : Int) := by omega
        have P1 : Hid _ := pick2 wr (w.heap.size + 1) _ 2 hrd (by omega) (by omega) (by omega)
        clear hrd hot hor
        go_wp2_with fail
        go_at_call 64; refine Calls.mono P1.out ?_
        rintro e w7 ⟨k, rfl, kl, kh, rd7, ot7⟩
        have s7 : wr.heap.size ≤ w7.heap.size := ot7.size
        have OR7 : Hid (w7.ownsRow wv.heap.size 4 1 (.slice (some ⟨g, 0, none⟩) vs.length gc) vs.length (vs.map Value.bool)) := rowq_oth HOR.out ot7 (by omega)
        have HO7 : Hid (Oth (w.heap.size + 1) wv w7) := HOT.out.trans ot7
        have HRD7 : Hid _ := rd7
        obtain ⟨kb, hkb⟩ : ∃ kb : Bool, (k == 0) = kb := ⟨_, rfl⟩
        clear ot7 rd7 P1 c0 c1
        go_wp2_with (at_builtin; refine wpList_append_own_at _ rfl _ _ 58 rfl wv.heap.size 4 i9 _ 1 1 Try.underlying58 hq0 hq1 hq2 hq3 rfl (by decide) _ _ _ rfl (OR7.out.alloc _) ⟨w7.heap.size, 0, none⟩ 1 1 [.bool kb] rfl rfl ?a1r ?a2r ?a3r ?a4r ?a5r ?_)
        case a1r => exact cells_new1 w7 _ _ _ rfl
        case a2r => simp [Value.oneCell']
        case a3r => unfold maxLen; omega
        case a4r => omega
        case a5r => simp; omega
        intro v8 w8 own8 grow8 nn8 at8
        have nz : v8 ≠ .slice none 0 0 := by intro e; have := nn8; simp [e] at this
        obtain ⟨g8, gc8, hv8⟩ : ∃ g8 gc8, v8 = .slice (some ⟨g8, 0, none⟩) (vs.length + 1) gc8 := by
          obtain ⟨_, ⟨q, _⟩ | ⟨g5, c5, _, q, _⟩⟩ := id own8
          · exact (nz q).elim
          · exact ⟨g5, c5, q⟩
        subst hv8
        have O8 : Oth (w.heap.size + 1) wv w8 := (HO7.out.alloc _).grown grow8 (fun k hk => by have e : g = k := (by simpa [Value.ownBlock] using hk); have := hgl.1; omega)
        have bl8 : ∀ b, b < w7.heap.size → b ≠ g → w8.heap[b]? = w7.heap[b]? := fun b hb hne => (grow8.block b (by simp; omega) (fun q => hne (by cases q; rfl))).trans (Below.heap_alloc _ _ _ hb)
        have RD8 : Rd2 w8 (w.heap.size + 1) (50000 + (vs ++ [kb]).length) := Rd2.mono (Rd2.same HRD7.out (fun b hb => bl8 b (by omega) (by omega))) (by simp; omega)
        have HO8 : Hid _ := O8
        have HR8 : Hid _ := RD8
        have HW8 : Hid (w8.ownsRow wv.heap.size 4 1 (.slice (some ⟨g8, 0, none⟩) (vs.length + 1) gc8) (vs.length + 1) (vs.map Value.bool ++ [.bool kb])) := own8
        clear own8 grow8 nn8 at8 nz O8 bl8 RD8
        go_wp2
        exact ⟨⟨vs ++ [kb], g8, gc8, by simp; omega, by simp, by simp, HR8.out, HO8.out, by simpa using HW8.out⟩, by simp [intOf]; omega⟩
      · have HVL : Hid (vs.length = ls.length) := (show vs.length = ls.length by omega)
        have hne : ¬ ((vs.length : Int) < (ls.length : Int)) := by omega
        have GB := C3.frame HGv.out (hot.block bx bxv (by omega))
        have GZ := C3.frame ZRv.out (hot.block w.heap.size (by omega) (by omega))
        have HGZ : Hid _ := GZ
        obtain ⟨⟨t0, t1, t2⟩, -⟩ := GB
        obtain ⟨⟨y0, y1, y2⟩, f0, f1, f2⟩ := GZ
        clear hrd hot hor
        go_wp2
        have GF := C3.set2 (.slice c1' s.ss.length c2') (C3.set1 (.slice b1' s.ws.length b2') (C3.set0 (.slice a1 s.n.length a2) HGZ.out))
        obtain ⟨⟨r0, r1, r2⟩, -⟩ := GF
        have WBf : ∀ b, b ≠ w.heap.size → (((wr.setCell ⟨w.heap.size, 0, none⟩ (.slice a1 s.n.length a2)).setCell ⟨w.heap.size, 1, none⟩ (.slice b1' s.ws.length b2')).setCell ⟨w.heap.size, 2, none⟩ (.slice c1' s.ss.length c2')).heap[b]? = wr.heap[b]? := fun b hb => by rw [Below.heap_setCell _ _ _ _ hb, Below.heap_setCell _ _ _ _ hb, Below.heap_setCell _ _ _ _ hb]
        show bodyPost Try.prog Try.f39 _ _ _ _
        refine bodyPost_ret (v := .tuple #[.agg #[.slice a1 s.n.length a2, .slice b1' s.ws.length b2', .slice c1' s.ss.length c2'], .slice (some ⟨g, 0, none⟩) vs.length gc]) (by simp [results, Try.results39, go_sem, r0, r1, r2]) rfl ⟨_, _, _, s, _, vs, rfl, ?_, ?_, ?_, ?_, HSL.out, by omega⟩
        · exact (((HB1.out.trans ((HO2.out.trans (HOv.out.trans HOT.out)).below (B := w.heap.size) (by omega) (by omega))).setCell (Nat.le_refl _) _).setCell (Nat.le_refl _) _).setCell (Nat.le_refl _) _
        · exact R3.mono (B := w2.heap.size + 1) (R3.frame (R3.frame (w' := wr) HRv.out (fun b hb q => HOT.out.block b hb (fun e => by have := HRv.out.own_ge q; omega))) (fun b _ q => WBf b (fun e => by have := HRv.out.own_ge q; omega))) (by omega)
        · have OF := rowg_frame HOR.out (fun b e => WBf b (by have := (World.ownsRow.lt HOR.out b e).1; omega))
          obtain ⟨bs, q1, _⟩ := row_gown OF
          exact q1.rep
        · intro x hx; rw [HVL.out]; exact HSV.out x hx

end Go.Proofs.Ytfhlkehhoanpaaa

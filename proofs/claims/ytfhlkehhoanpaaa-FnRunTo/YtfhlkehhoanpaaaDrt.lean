/- What came of a drawn program, and a host, as the model draws them. -/
import Derived.Test.YtfhlkehhoanpaaaDrs
namespace Go.Proofs.Ytfhlkehhoanpaaa
open Go.RowKit
set_option linter.unusedSimpArgs false
set_option linter.unusedVariables false
attribute [local go_sem] World.cell?_alloc_some

theorem doT_hosts : ∀ (d : Nat) (T : Tr d) (n : Nat) (deep : Int) (s : RSt), stB n d deep T = true → (∀ x ∈ s.ss, vIn 3 x.1 = true) → ∀ x ∈ (doT d T s).ss, vIn 3 x.1 = true
  | 0, _, _, _, s, _, h => h
  | d + 1, (l : List (Pay × Tr d × Tr d)), n, deep, s, hs, h => by
    show ∀ x ∈ (l.foldl (fun s x => stepS (doT d) x s) s).ss, vIn 3 x.1 = true
    have hs' : (l.all fun x => decide (1 ≤ deep) && payB n x.1 (decide (ln d x.2.1 + ln d x.2.2 = 0)) && (stB n d (deep - 1) x.2.1 && stB n d (deep - 1) x.2.2)) = true := hs
    clear hs
    induction l generalizing s with
    | nil => exact h
    | cons y l ih =>
      rw [List.all_cons, Bool.and_eq_true_iff] at hs'
      obtain ⟨hx, hr⟩ := hs'
      simp only [Bool.and_eq_true_iff] at hx
      obtain ⟨⟨_, hp⟩, h1, h2⟩ := hx
      rw [List.foldl_cons]
      refine ih _ ?_ hr
      unfold stepS
      split
      · exact h
      · split
        · rename_i hk1 hk3
          have hv : vIn 3 y.1.h = true := by
            unfold payB at hp
            rw [if_neg hk1, if_pos hk3] at hp
            simp only [Bool.and_eq_true_iff] at hp
            exact hp.2.1.2
          intro x hx
          rcases List.mem_append.1 hx with hx | hx
          · exact h x hx
          · obtain rfl : x = _ := by simpa using hx
            exact hv
        · split
          · exact doT_hosts d _ n _ s h1 h
          · exact doT_hosts d _ n _ s h2 h
theorem runS_hosts (ls : List (Int × Int)) (d : Nat) (T : Tr d) (zs : List Int) : ∀ x ∈ (runS ls d T zs).ss, vIn 3 x.1 = true := by
  unfold runS
  split
  · rename_i h
    exact doT_hosts d T ls.length 3 _ (nums_st h).1 (fun x hx => by simp at hx)
  · intro x hx; simp at hx
theorem runS_slen (ls : List (Int × Int)) (d : Nat) (T : Tr d) (zs : List Int) : (runS ls d T zs).ss.length ≤ 8 := by
  unfold runS
  split
  · rename_i h
    obtain ⟨h1, h2, h3, h4⟩ := nums_st h
    have := (doT_ok d T ls.length 3 ⟨zs, [], []⟩ h1 h2 h3).2.2.2
    simp at this
    omega
  · simp

def DrtPost (w : World) (e : Ending) (w' : World) : Prop := ∃ (a b c : Value) (s : RSt) (h : Int), e = .returned (.tuple #[.agg #[a, b, c], .int .i64 h]) ∧ Below w.heap.size w w' ∧ R3 (w.heap.size + 1) w' a b c s ∧ (∀ x ∈ s.ss, vIn 3 x.1 = true) ∧ s.ss.length ≤ 1048576

set_option maxHeartbeats 16000000 in
set_option maxRecDepth 20000 in
theorem drawRunTo_any (w : World) (a0 : Option Addr) (len0 cap0 : Nat) (zs0 : List Int) (h : IsRow .u8 w a0 len0 cap0 zs0) : Calls Try.prog 36 #[.slice a0 len0 cap0] w (DrtPost w) := by
  obtain ⟨i1, hj0, hy0, hy1, hy2⟩ := info_parts infoSaid
  have A0 : Below w.heap.size w (w.alloc (.cells #[.slice none 0 0, .slice none 0 0, .slice none 0 0] 47)) := (Below.refl _ _).alloc (Nat.le_refl _) _
  have C1 : Hid _ := l6Open_any _ a0 len0 cap0 zs0 (isRow_below' h A0)
  have Z0 := C3.new w (.slice none 0 0) (.slice none 0 0) (.slice none 0 0) 47
  have s0 : (w.alloc (.cells #[.slice none 0 0, .slice none 0 0, .slice none 0 0] 47)).heap.size = w.heap.size + 1 := by simp
  have HZ0 : Hid (C3 (w.alloc (.cells #[.slice none 0 0, .slice none 0 0, .slice none 0 0] 47)) w.heap.size (.slice none 0 0) (.slice none 0 0) (.slice none 0 0)) := Z0
  have HA0 : Hid (Below w.heap.size w (w.alloc (.cells #[.slice none 0 0, .slice none 0 0, .slice none 0 0] 47))) := A0
  clear A0 Z0 h
  go_enter Try.func36, Try.ntmps36
  go_wp2_with fail
  go_at_call 62; refine Calls.mono C1.out ?_
  rintro e w1 ⟨rfl, rd1, sz1, hb1⟩
  have B1 : Below w.heap.size w w1 := Below.then HA0.out hb1 (by omega)
  have Z1 : C3 w1 w.heap.size (.slice none 0 0) (.slice none 0 0) (.slice none 0 0) := C3.below HZ0.out hb1
  rw [s0] at rd1 sz1 ⊢
  have P1 : Hid _ := l71Prog_any w1 (w.heap.size + 1) 0 ⟨0, by omega, rd1⟩ (by omega)
  have HB1 : Hid (Below w.heap.size w w1) := B1
  have HZ1 : Hid (C3 w1 w.heap.size (.slice none 0 0) (.slice none 0 0) (.slice none 0 0)) := Z1
  clear hb1 B1 Z1 HZ0 HA0 C1 rd1 s0
  go_wp2_with fail
  go_at_call 63; refine Calls.mono P1.out ?_
  rintro e w2 ⟨lv, sv, ls, T, b1, b2, rfl, rd2, ot2, lo2, ow2, rg2, l1, l4, hc⟩
  obtain ⟨la, lc, rfl⟩ : ∃ a c, lv = .slice a ls.length c := by
    obtain ⟨a, c, h, _⟩ := lo2.rep
    exact ⟨a, c, h⟩
  obtain ⟨sa, sc, rfl⟩ := ow2.slice
  have s2 : w1.heap.size ≤ w2.heap.size := ot2.size
  have Z2 : C3 w2 w.heap.size (.slice none 0 0) (.slice none 0 0) (.slice none 0 0) := C3.frame HZ1.out (ot2.block _ (by omega) (by omega))
  have KK : Hid (∀ wz : World, (∀ b, w1.heap.size ≤ b → b < w2.heap.size → wz.heap[b]? = w2.heap[b]?) → LRep wz (.slice la ls.length lc) ls ∧ Rep wz 3 (.slice sa (ln 3 T) sc) T) := (show ∀ wz : World, _ from fun wz hz =>
    ⟨(lo2.frame fun b hb => by have := rg2 b (List.mem_append_left _ hb); exact hz b this.1 this.2).rep, (ow2.frame fun b hb => by have := rg2 b (List.mem_append_right _ hb); exact hz b this.1 this.2).rep⟩)
  have HO2 : Hid (Oth (w.heap.size + 1) w1 w2) := ot2
  have AD : Below w2.heap.size w2 (w2.alloc (.cells #[.slice la ls.length lc, .slice sa (ln 3 T) sc] 26)).drew := ((Below.refl _ _).alloc (Nat.le_refl _) _).drew
  have X3 := C2.new w2 (.slice la ls.length lc) (.slice sa (ln 3 T) sc) 26
  have PB0 : Hid (C2 (w2.alloc (.cells #[.slice la ls.length lc, .slice sa (ln 3 T) sc] 26)).drew w2.heap.size (.slice la ls.length lc) (.slice sa (ln 3 T) sc)) := X3
  have ZR0 : Hid (C3 (w2.alloc (.cells #[.slice la ls.length lc, .slice sa (ln 3 T) sc] 26)).drew w.heap.size (.slice none 0 0) (.slice none 0 0) (.slice none 0 0)) := C3.below Z2 AD
  have RD0 : Hid (Rd2 (w2.alloc (.cells #[.slice la ls.length lc, .slice sa (ln 3 T) sc] 26)).drew (w.heap.size + 1) 40000) := (show Rd2 _ _ _ from (rd2.oth AD).mono (by omega))
  have OT0 : Hid (Oth (w.heap.size + 1) w2 (w2.alloc (.cells #[.slice la ls.length lc, .slice sa (ln 3 T) sc] 26)).drew) := Oth.of_below AD
  have sz0 : w2.heap.size < (w2.alloc (.cells #[.slice la ls.length lc, .slice sa (ln 3 T) sc] 26)).drew.heap.size := by simp [World.drew]
  clear rd2 ot2 lo2 ow2 rg2 P1 HZ1 Z2 AD X3
  go_wp2_with fail
  refine wp_region_held (S := (fun wz => wz.cell? ⟨w2.heap.size, 0, none⟩ = some (.slice la ls.length lc) ∧ wz.cell? ⟨w2.heap.size, 1, none⟩ = some (.slice sa (ln 3 T) sc))) (by kernel_rfl) ?_
  change wpAnyH _ _ _ _ _ _ _ _ (World.drew _)
  generalize (w2.alloc (.cells #[.slice la ls.length lc, .slice sa (ln 3 T) sc] 26)).drew = wd at *
  have PB_wd : Hid _ := PB0.out
  have ZR_wd : Hid _ := ZR0.out
  have RD_wd : Hid (Rd2 wd (w.heap.size + 1) 40000) := RD0.out
  have OT_wd : Hid _ := OT0.out
  have sz_wd : w2.heap.size < wd.heap.size := sz0
  have hHeld : wd.cell? ⟨w2.heap.size, 0, none⟩ = some (.slice la ls.length lc) ∧ wd.cell? ⟨w2.heap.size, 1, none⟩ = some (.slice sa (ln 3 T) sc) := PB0.out.1
  clear PB0 ZR0 RD0 OT0 sz0
  refine' wpAnyH_take (i := 0) (v := .agg #[.slice la ls.length lc, .slice sa (ln 3 T) sc]) rfl (by kernel_rfl) (by kernel_rfl) (by kernel_rfl) (fun _ _ _ h => h) (Or.inl ⟨by rfl, ?hz1⟩) hHeld ?hm1
  case hz1 => (intro wz hSw; obtain ⟨j0, j1⟩ := hSw; go_simp)
  try simp only [List.getElem_toArray, List.getElem_cons_zero, List.getElem_cons_succ, Act.put, List.setIfInBounds_toArray, List.set_cons_zero, List.set_cons_succ]
  refine' wpAnyH_take (i := 1) (v := _) rfl (by kernel_rfl) (by kernel_rfl) (by kernel_rfl) (fun _ _ _ h => h) (Or.inl ⟨by rfl, ?hz2⟩) hHeld ?hm2
  case hz2 => (intro wz hSw; obtain ⟨j0, j1⟩ := hSw; go_simp; first | done | with_reducible rfl)
  try simp only [List.getElem_toArray, List.getElem_cons_zero, List.getElem_cons_succ, Act.put, List.setIfInBounds_toArray, List.set_cons_zero, List.set_cons_succ]
  refine' wpAnyH_take (i := 2) (v := .agg #[.slice la ls.length lc, .slice sa (ln 3 T) sc]) rfl (by kernel_rfl) (by kernel_rfl) (by kernel_rfl) (fun _ _ _ h => h) (Or.inl ⟨by rfl, ?hz3⟩) hHeld ?hm3
  case hz3 => (intro wz hSw; obtain ⟨j0, j1⟩ := hSw; go_simp)
  try simp only [List.getElem_toArray, List.getElem_cons_zero, List.getElem_cons_succ, Act.put, List.setIfInBounds_toArray, List.set_cons_zero, List.set_cons_succ]
  refine wpAnyH_ready (rs := [3, 8]) (by kernel_rfl) (by simp) ?_
  refine AllReadyH.cons rfl (fun K hK => ?_) (AllReadyH.cons rfl (fun K hK => ?_) AllReadyH.nil)
  · skip
    go_simp
    have NU_wd : Hid _ := l71Nums_any wd (w.heap.size + 1) 40000 la sa ls.length lc (ln 3 T) sc RD_wd.out (by omega) l1 l4
    refine Calls.mono NU_wd.out ?_
    rintro e' w4 ⟨zs, ad, nc, rfl, rdn, otn, rown⟩
    have OX_w4 : Oth (w.heap.size + 1) wd w4 := otn
    have sz_w4 : w2.heap.size < w4.heap.size := Nat.lt_of_lt_of_le sz_wd OX_w4.size
    have zz_w4 : wd.heap.size ≤ w4.heap.size := OX_w4.size
    have PB_w4 : Hid (C2 w4 w2.heap.size (.slice la ls.length lc) (.slice sa (ln 3 T) sc)) := C2.oth PB_wd.out OX_w4 (by omega)
    have ZR_w4 : Hid (C3 w4 w.heap.size (.slice none 0 0) (.slice none 0 0) (.slice none 0 0)) := C3.frame ZR_wd.out (OX_w4.block w.heap.size (by omega) (by omega))
    have OT_w4 : Hid (Oth (w.heap.size + 1) w2 w4) := OT_wd.out.trans OX_w4
    have RD_w4 : Hid (Rd2 w4 (w.heap.size + 1) 50000) := Rd2.mono rdn (by omega)
    have HX_w4 : Hid _ := OX_w4
    clear OX_w4
    have NR_w4 : Hid (GRep (Value.int .i64) w4 (.slice (some ad) zs.length nc) zs) := (show GRep (Value.int .i64) w4 (.slice (some ad) zs.length nc) zs from by obtain ⟨bs, q1, _⟩ := row_gown rown; exact q1.rep)
    clear rdn otn rown NU_wd
    refine hK.out _ _ PB_w4.out.1 (fun hHeld => ?_)
    clear hK K
    refine wpAnyH_ready (rs := [4, 8]) (by kernel_rfl) (by simp) ?_
    refine AllReadyH.cons rfl (fun K hK => ?_) (AllReadyH.cons rfl (fun K hK => ?_) AllReadyH.nil)
    · skip
      go_simp
      have LR_w4 := KK.out w4 (fun b q1 q2 => OT_w4.out.block b q2 (by omega))
      have RU_w4 : Hid _ := sRunOf_any LR_w4.1 LR_w4.2 (by omega) NR_w4.out
      clear LR_w4
      refine Calls.mono RU_w4.out ?_
      rintro e' w5 ⟨ra, rb, rc, rfl, hbr, r5⟩
      have OX_w5 : Oth (w.heap.size + 1) w4 w5 := (Oth.of_below (r := (w.heap.size + 1)) hbr)
      have sz_w5 : w2.heap.size < w5.heap.size := Nat.lt_of_lt_of_le sz_w4 OX_w5.size
      have zz_w5 : w4.heap.size ≤ w5.heap.size := OX_w5.size
      have PB_w5 : Hid (C2 w5 w2.heap.size (.slice la ls.length lc) (.slice sa (ln 3 T) sc)) := C2.oth PB_w4.out OX_w5 (by omega)
      have ZR_w5 : Hid (C3 w5 w.heap.size (.slice none 0 0) (.slice none 0 0) (.slice none 0 0)) := C3.frame ZR_w4.out (OX_w5.block w.heap.size (by omega) (by omega))
      have OT_w5 : Hid (Oth (w.heap.size + 1) w2 w5) := OT_w4.out.trans OX_w5
      have RD_w5 : Hid (Rd2 w5 (w.heap.size + 1) 50000) := Rd2.oth RD_w4.out hbr
      have HX_w5 : Hid _ := OX_w5
      clear OX_w5
      have SV1 := runS_hosts ls 3 T zs
      have SL1 := runS_slen ls 3 T zs
      obtain ⟨s, hs⟩ : ∃ s, runS ls 3 T zs = s := ⟨_, rfl⟩
      rw [hs] at r5 SV1 SL1
      have HSV : Hid _ := SV1
      have HSL : Hid (s.ss.length ≤ 8) := SL1
      obtain ⟨a1, a2, rfl⟩ := rowg_slice r5.n
      obtain ⟨b1', b2', rfl⟩ := rowg_slice r5.ws
      obtain ⟨c1', c2', rfl⟩ := rowg_slice r5.ss
      have r6 := r5.mono (B' := w2.heap.size + 1) (by omega)
      have HR3 : Hid _ := r6
      generalize numsB ls 3 T zs = nb at *
      clear hbr r5 r6 SV1 SL1 hs RU_w4
      refine hK.out _ _ PB_w5.out.1 (fun hHeld => ?_)
      clear hK K
      refine' wpAnyH_take (i := 5) (v := _) rfl (by kernel_rfl) (by kernel_rfl) (by kernel_rfl) (fun _ _ _ h => h) (Or.inl ⟨by rfl, ?hz4⟩) hHeld ?hm4
      case hz4 => (intro wz hSw; obtain ⟨j0, j1⟩ := hSw; go_simp; first | done | with_reducible rfl)
      try simp only [List.getElem_toArray, List.getElem_cons_zero, List.getElem_cons_succ, Act.put, List.setIfInBounds_toArray, List.set_cons_zero, List.set_cons_succ]
      refine' wpAnyH_take (i := 6) (v := _) rfl (by kernel_rfl) (by kernel_rfl) (by kernel_rfl) (fun _ _ _ h => h) (Or.inl ⟨by rfl, ?hz5⟩) hHeld ?hm5
      case hz5 => (intro wz hSw; obtain ⟨j0, j1⟩ := hSw; go_simp; first | done | with_reducible rfl)
      try simp only [List.getElem_toArray, List.getElem_cons_zero, List.getElem_cons_succ, Act.put, List.setIfInBounds_toArray, List.set_cons_zero, List.set_cons_succ]
      refine' wpAnyH_take (i := 7) (v := _) rfl (by kernel_rfl) (by kernel_rfl) (by kernel_rfl) (fun _ _ _ h => h) (Or.inl ⟨by rfl, ?hz6⟩) hHeld ?hm6
      case hz6 => (intro wz hSw; obtain ⟨j0, j1⟩ := hSw; go_simp; first | done | with_reducible rfl)
      try simp only [List.getElem_toArray, List.getElem_cons_zero, List.getElem_cons_succ, Act.put, List.setIfInBounds_toArray, List.set_cons_zero, List.set_cons_succ]
      refine wpAnyH_ready (rs := [8]) (by kernel_rfl) (by simp) ?_
      refine AllReadyH.cons rfl (fun K hK => ?_) AllReadyH.nil
      go_simp
      have AA_w6 : Below w5.heap.size w5 (w5.alloc (.cells #[.slice none 0 0, .slice none 0 0, .slice none 0 0] 47)) := (Below.refl _ _).alloc (Nat.le_refl _) _
      have GA_w6 := C3.new w5 (.slice none 0 0) (.slice none 0 0) (.slice none 0 0) 47
      generalize hal_w6 : (w5.alloc (.cells #[.slice none 0 0, .slice none 0 0, .slice none 0 0] 47)) = w6 at *
      clear hal_w6
      have OX_w6 : Oth (w.heap.size + 1) w5 w6 := (Oth.of_below (r := (w.heap.size + 1)) AA_w6)
      have sz_w6 : w2.heap.size < w6.heap.size := Nat.lt_of_lt_of_le sz_w5 OX_w6.size
      have zz_w6 : w5.heap.size ≤ w6.heap.size := OX_w6.size
      have PB_w6 : Hid (C2 w6 w2.heap.size (.slice la ls.length lc) (.slice sa (ln 3 T) sc)) := C2.oth PB_w5.out OX_w6 (by omega)
      have ZR_w6 : Hid (C3 w6 w.heap.size (.slice none 0 0) (.slice none 0 0) (.slice none 0 0)) := C3.frame ZR_w5.out (OX_w6.block w.heap.size (by omega) (by omega))
      have OT_w6 : Hid (Oth (w.heap.size + 1) w2 w6) := OT_w5.out.trans OX_w6
      have RD_w6 : Hid (Rd2 w6 (w.heap.size + 1) 50000) := Rd2.oth RD_w5.out AA_w6
      have HX_w6 : Hid _ := OX_w6
      clear OX_w6
      have BX : Hid (C3 w6 w5.heap.size (.slice none 0 0) (.slice none 0 0) (.slice none 0 0)) := GA_w6
      have bl_w6 : w5.heap.size < w6.heap.size := C3.lt GA_w6
      obtain ⟨bx, hbx⟩ : ∃ bx, w5.heap.size = bx := ⟨_, rfl⟩
      rw [hbx] at BX bl_w6 zz_w6 ⊢
      have bxr : w2.heap.size < bx := by omega
      have HR3' : Hid _ := R3.below HR3.out AA_w6
      have NBX : Hid (¬ (Value.ownBlock (.slice a1 s.n.length a2) = some bx ∨ Value.ownBlock (.slice b1' s.ws.length b2') = some bx ∨ Value.ownBlock (.slice c1' s.ss.length c2') = some bx)) := (show ¬ _ from fun e => by have := HR3.out.own_ge e; omega)
      clear HR3
      have HR3 : Hid _ := HR3'.out
      clear AA_w6 GA_w6
      refine hK.out _ _ PB_w6.out.1 (fun hHeld => ?_)
      clear hK K
      refine wpAnyH_ready (rs := [9]) (by kernel_rfl) (by simp) ?_
      refine AllReadyH.cons rfl (fun K hK => ?_) AllReadyH.nil
      obtain ⟨⟨e0, e1, e2⟩, u0, u1, u2⟩ := BX.out
      go_simp
      have bxw : bx < w6.heap.size := C3.lt BX.out
      have OVx : Oth (w.heap.size + 1) w6 (((w6.setCell ⟨bx, 0, none⟩ (.slice a1 s.n.length a2)).setCell ⟨bx, 1, none⟩ (.slice b1' s.ws.length b2')).setCell ⟨bx, 2, none⟩ (.slice c1' s.ss.length c2')) → True := fun _ => trivial
      have WB : ∀ b, b ≠ bx → (((w6.setCell ⟨bx, 0, none⟩ (.slice a1 s.n.length a2)).setCell ⟨bx, 1, none⟩ (.slice b1' s.ws.length b2')).setCell ⟨bx, 2, none⟩ (.slice c1' s.ss.length c2')).heap[b]? = w6.heap[b]? := fun b hb => by rw [Below.heap_setCell _ _ _ _ hb, Below.heap_setCell _ _ _ _ hb, Below.heap_setCell _ _ _ _ hb]
      have WG : C3 (((w6.setCell ⟨bx, 0, none⟩ (.slice a1 s.n.length a2)).setCell ⟨bx, 1, none⟩ (.slice b1' s.ws.length b2')).setCell ⟨bx, 2, none⟩ (.slice c1' s.ss.length c2')) bx (.slice a1 s.n.length a2) (.slice b1' s.ws.length b2') (.slice c1' s.ss.length c2') := C3.set2 _ (C3.set1 _ (C3.set0 _ BX.out))
      have WS : (((w6.setCell ⟨bx, 0, none⟩ (.slice a1 s.n.length a2)).setCell ⟨bx, 1, none⟩ (.slice b1' s.ws.length b2')).setCell ⟨bx, 2, none⟩ (.slice c1' s.ss.length c2')).heap.size = w6.heap.size := by simp [World.setCell]
      have WR : R3 (w2.heap.size + 1) (((w6.setCell ⟨bx, 0, none⟩ (.slice a1 s.n.length a2)).setCell ⟨bx, 1, none⟩ (.slice b1' s.ws.length b2')).setCell ⟨bx, 2, none⟩ (.slice c1' s.ss.length c2')) (.slice a1 s.n.length a2) (.slice b1' s.ws.length b2') (.slice c1' s.ss.length c2') s := R3.frame HR3.out (fun b _ q => WB b (fun e => by subst e; exact NBX.out q))
      have WO : Oth (w.heap.size + 1) w2 (((w6.setCell ⟨bx, 0, none⟩ (.slice a1 s.n.length a2)).setCell ⟨bx, 1, none⟩ (.slice b1' s.ws.length b2')).setCell ⟨bx, 2, none⟩ (.slice c1' s.ss.length c2')) := ((OT_w6.out.new (by show w2.heap.size ≤ bx; omega) _).new (by show w2.heap.size ≤ bx; omega) _).new (by show w2.heap.size ≤ bx; omega) _
      generalize (((w6.setCell ⟨bx, 0, none⟩ (.slice a1 s.n.length a2)).setCell ⟨bx, 1, none⟩ (.slice b1' s.ws.length b2')).setCell ⟨bx, 2, none⟩ (.slice c1' s.ss.length c2')) = wv at *
      have PBv : Hid (C2 wv w2.heap.size (.slice la ls.length lc) (.slice sa (ln 3 T) sc)) := C2.same PB_w6.out (WB _ (by omega))
      have ZRv : Hid (C3 wv w.heap.size (.slice none 0 0) (.slice none 0 0) (.slice none 0 0)) := C3.frame ZR_w6.out (WB _ (by omega))
      have RDv : Hid (Rd2 wv (w.heap.size + 1) 50000) := Rd2.same RD_w6.out (fun b hb => WB b (by omega))
      have HGv : Hid _ := WG
      have HRv : Hid _ := WR
      have HOv : Hid _ := WO
      have szv : w2.heap.size < wv.heap.size := by omega
      have bxv : bx < wv.heap.size := by omega
      clear WB WG WS WR WO OVx e0 e1 e2 u0 u1 u2
      refine hK.out _ _ PBv.out.1 (fun hHeld => ?_)
      clear hK K
      refine' wpAnyH_take (i := 10) (v := _) rfl (by kernel_rfl) (by kernel_rfl) (by kernel_rfl) (fun _ _ _ h => h) (Or.inl ⟨by rfl, ?hz7⟩) hHeld ?hm7
      case hz7 => (intro wz hSw; obtain ⟨j0, j1⟩ := hSw; go_simp; first | done | with_reducible rfl)
      try simp only [List.getElem_toArray, List.getElem_cons_zero, List.getElem_cons_succ, Act.put, List.setIfInBounds_toArray, List.set_cons_zero, List.set_cons_succ]
      refine wpAnyH_done (by kernel_rfl) ?_ _
      clear hHeld
      have PKa : Hid _ := pick2 wv (w.heap.size + 1) _ 4 RDv.out (by omega) (by omega) (by omega)
      have NB1 : Hid (Value.ownBlock (.slice a1 s.n.length a2) ≠ some bx ∧ Value.ownBlock (.slice b1' s.ws.length b2') ≠ some bx) := (show _ ∧ _ from ⟨fun e => NBX.out (.inl e), fun e => NBX.out (.inr (.inl e))⟩)
      have NB2 : Hid (Value.ownBlock (.slice c1' s.ss.length c2') ≠ some bx) := (show Value.ownBlock (.slice c1' s.ss.length c2') ≠ some bx from fun e => NBX.out (.inr (.inr e)))
      go_wp2_with fail
      go_at_call 64; refine Calls.mono PKa.out ?_
      rintro e wp ⟨kp, rfl, kpl, kph, rdp, otp⟩
      obtain ⟨kn, rfl⟩ := Int.eq_ofNat_of_zero_le kpl
      have I1 : Hid (C3 wp bx (.slice a1 s.n.length a2) (.slice b1' s.ws.length b2') (.slice c1' s.ss.length c2')) := C3.frame HGv.out (otp.block bx bxv (by omega))
      have I2 : Hid (C3 wp w.heap.size (.slice none 0 0) (.slice none 0 0) (.slice none 0 0)) := C3.frame ZRv.out (otp.block _ (by omega) (by omega))
      have I3 : Hid (R3 (w2.heap.size + 1) wp (.slice a1 s.n.length a2) (.slice b1' s.ws.length b2') (.slice c1' s.ss.length c2') s) := R3.frame HRv.out (fun b hb q => otp.block b hb (fun e => by have := HRv.out.own_ge q; omega))
      have I4 : Hid (Oth (w.heap.size + 1) w2 wp) := HOv.out.trans otp
      have I5 : Hid (Rd2 wp (w.heap.size + 1) (50009 - 2 * kn)) := (show Rd2 _ _ _ from rdp.mono (by omega))
      have I6 : bx < wp.heap.size := by have := otp.size; omega
      have hkn : kn ≤ 3 := by omega
      clear rdp otp PKa
      go_wp2
      go_loopw [8] (fun j wr => ∃ (k : Nat) (t : List (Int × Int)) (va : Option Addr) (vc : Nat), k ≤ 3 ∧ j = .int .i64 k ∧ Rd2 wr (w.heap.size + 1) (50009 - 2 * k) ∧ Oth (w.heap.size + 1) w2 wr ∧ C3 wr bx (.slice a1 s.n.length a2) (.slice b1' s.ws.length b2') (.slice va t.length vc) ∧ C3 wr w.heap.size (.slice none 0 0) (.slice none 0 0) (.slice none 0 0) ∧ R3 (w2.heap.size + 1) wr (.slice a1 s.n.length a2) (.slice b1' s.ws.length b2') (.slice va t.length vc) ⟨s.n, s.ws, t⟩ ∧ Value.ownBlock (.slice va t.length vc) ≠ some bx ∧ (∀ x ∈ t, vIn 3 x.1 = true) ∧ t.length + k ≤ 1000 ∧ bx < wr.heap.size) (fun j _ => (intOf j).toNat)
      case atStart => exact ⟨kn, s.ss, c1', c2', hkn, rfl, I5.out, I4.out, I1.out, I2.out, I3.out, NB2.out, HSV.out, by have := HSL.out; omega, I6⟩
      case round =>
        obtain ⟨k, t, va, vc, hk3, rfl, hrd, hot, hg1, hz1', hr3, hcb, hth, htl, hbw⟩ := hrel
        have hsw : w2.heap.size ≤ wr.heap.size := hot.size
        have HTH : Hid _ := hth
        cases k with
        | succ k =>
          have kp0 : (0 : Int) < (k : Int) + 1 := by omega
          have BDr : Oth (w.heap.size + 1) wr wr.drew := (Oth.refl _ _).drew
          have F1_wr : Hid (C3 wr.drew bx (.slice a1 s.n.length a2) (.slice b1' s.ws.length b2') (.slice va t.length vc)) := hg1
          have F2_wr : Hid (C3 wr.drew w.heap.size (.slice none 0 0) (.slice none 0 0) (.slice none 0 0)) := hz1'
          have F3_wr : Hid (R3 (w2.heap.size + 1) wr.drew (.slice a1 s.n.length a2) (.slice b1' s.ws.length b2') (.slice va t.length vc) ⟨s.n, s.ws, t⟩) := R3.frame hr3 (fun b _ _ => rfl)
          have F4_wr : Hid (Oth (w.heap.size + 1) w2 wr.drew) := hot.drew
          have RD_wr : Hid (Rd2 wr.drew (w.heap.size + 1) (50009 - 2 * (k + 1))) := (show Rd2 _ _ _ from hrd.same (fun _ _ => rfl))
          have fb_wr : bx < wr.drew.heap.size := hbw
          have fz_wr : w2.heap.size ≤ wr.drew.heap.size := hsw
          have d2_wr : wr.drew.cell? ⟨bx, 2, none⟩ = some (.slice va t.length vc) := hg1.1.2.2
          clear hrd hot hg1 hz1' hr3 hth BDr
          go_wp2_with fail
          refine wp_region_held (S := fun _ => True) (by kernel_rfl) ?_
          change wpAnyH _ _ _ _ _ _ _ _ (World.drew _)
          generalize wr.drew = wq at *
          have F1_wq : Hid _ := F1_wr.out
          have F2_wq : Hid _ := F2_wr.out
          have F3_wq : Hid (R3 (w2.heap.size + 1) wq (.slice a1 s.n.length a2) (.slice b1' s.ws.length b2') (.slice va t.length vc) ⟨s.n, s.ws, t⟩) := F3_wr.out
          have F4_wq : Hid (Oth (w.heap.size + 1) w2 wq) := F4_wr.out
          have RD_wq : Hid (Rd2 wq (w.heap.size + 1) (50009 - 2 * (k + 1))) := RD_wr.out
          have fb_wq : bx < wq.heap.size := fb_wr
          have fz_wq : w2.heap.size ≤ wq.heap.size := fz_wr
          have d2_wq : wq.cell? ⟨bx, 2, none⟩ = some (.slice va t.length vc) := d2_wr
          clear F1_wr F2_wr F3_wr F4_wr RD_wr d2_wr
          refine' wpAnyH_take (i := 0) (v := _) rfl (by kernel_rfl) (by kernel_rfl) (by kernel_rfl) (fun _ _ _ h => h) (Or.inl ⟨by rfl, ?hz8⟩) trivial ?hm8
          case hz8 => (intro wz hSw; go_simp; first | done | with_reducible rfl)
          try simp only [List.getElem_toArray, List.getElem_cons_zero, List.getElem_cons_succ, Act.put, List.setIfInBounds_toArray, List.set_cons_zero, List.set_cons_succ]
          refine' wpAnyH_take (i := 2) (v := _) rfl (by kernel_rfl) (by kernel_rfl) (by kernel_rfl) (fun _ _ _ h => h) (Or.inl ⟨by rfl, ?hz9⟩) trivial ?hm9
          case hz9 => (intro wz hSw; go_simp; first | done | with_reducible rfl)
          try simp only [List.getElem_toArray, List.getElem_cons_zero, List.getElem_cons_succ, Act.put, List.setIfInBounds_toArray, List.set_cons_zero, List.set_cons_succ]
          refine' wpAnyH_take (i := 4) (v := _) rfl (by kernel_rfl) (by kernel_rfl) (by kernel_rfl) (fun _ _ _ h => h) (Or.inl ⟨by rfl, ?hz10⟩) trivial ?hm10
          case hz10 => (intro wz hSw; go_simp; first | done | with_reducible rfl)
          try simp only [List.getElem_toArray, List.getElem_cons_zero, List.getElem_cons_succ, Act.put, List.setIfInBounds_toArray, List.set_cons_zero, List.set_cons_succ]
          refine wpAnyH_ready (rs := [1, 3]) (by kernel_rfl) (by simp) ?_
          refine AllReadyH.cons rfl (fun K hK => ?_) (AllReadyH.cons rfl (fun K hK => ?_) AllReadyH.nil)
          · skip
            go_simp
            refine hK.out _ _ trivial (fun _ => ?_)
            clear hK K
            refine wpAnyH_ready (rs := [3]) (by kernel_rfl) (by simp) ?_
            refine AllReadyH.cons rfl (fun K hK => ?_) AllReadyH.nil
            go_simp
            have PK_x2 : Hid _ := pick2 wq (w.heap.size + 1) _ 3 RD_wq.out (by omega) (by omega) (by omega)
            refine Calls.mono PK_x2.out ?_
            rintro e' x2 ⟨h3, rfl, h3l, h3h, rdy, oty⟩
            have F1_x2 : Hid (C3 x2 bx (.slice a1 s.n.length a2) (.slice b1' s.ws.length b2') (.slice va t.length vc)) := C3.frame F1_wq.out (oty.block bx fb_wq (by omega))
            have F2_x2 : Hid (C3 x2 w.heap.size (.slice none 0 0) (.slice none 0 0) (.slice none 0 0)) := C3.frame F2_wq.out (oty.block w.heap.size (by omega) (by omega))
            have F3_x2 : Hid (R3 (w2.heap.size + 1) x2 (.slice a1 s.n.length a2) (.slice b1' s.ws.length b2') (.slice va t.length vc) ⟨s.n, s.ws, t⟩) := R3.frame F3_wq.out (fun b hb q => oty.block b hb (fun e => by have := F3_wq.out.own_ge q; omega))
            have F4_x2 : Hid (Oth (w.heap.size + 1) w2 x2) := F4_wq.out.trans oty
            have fz_x2 : wq.heap.size ≤ x2.heap.size := oty.size
            have fb_x2 : bx < x2.heap.size := by omega
            have d2_x2 : x2.cell? ⟨bx, 2, none⟩ = some (.slice va t.length vc) := F1_x2.out.1.2.2
            clear d2_wq
            have RD_x2 : Hid _ := rdy
            clear rdy oty PK_x2
            refine hK.out _ _ trivial (fun _ => ?_)
            clear hK K
            refine wpAnyH_ready (rs := [5]) (by kernel_rfl) (by simp) ?_
            refine AllReadyH.cons rfl (fun K hK => ?_) AllReadyH.nil
            go_simp
            have PK_x3 : Hid _ := pick2 x2 (w.heap.size + 1) _ 10 RD_x2.out (by omega) (by omega) (by omega)
            refine Calls.mono PK_x3.out ?_
            rintro e' x3 ⟨n5, rfl, n5l, n5h, rdy, oty⟩
            have F1_x3 : Hid (C3 x3 bx (.slice a1 s.n.length a2) (.slice b1' s.ws.length b2') (.slice va t.length vc)) := C3.frame F1_x2.out (oty.block bx fb_x2 (by omega))
            have F2_x3 : Hid (C3 x3 w.heap.size (.slice none 0 0) (.slice none 0 0) (.slice none 0 0)) := C3.frame F2_x2.out (oty.block w.heap.size (by omega) (by omega))
            have F3_x3 : Hid (R3 (w2.heap.size + 1) x3 (.slice a1 s.n.length a2) (.slice b1' s.ws.length b2') (.slice va t.length vc) ⟨s.n, s.ws, t⟩) := R3.frame F3_x2.out (fun b hb q => oty.block b hb (fun e => by have := F3_x2.out.own_ge q; omega))
            have F4_x3 : Hid (Oth (w.heap.size + 1) w2 x3) := F4_x2.out.trans oty
            have fz_x3 : x2.heap.size ≤ x3.heap.size := oty.size
            have fb_x3 : bx < x3.heap.size := by omega
            have d2_x3 : x3.cell? ⟨bx, 2, none⟩ = some (.slice va t.length vc) := F1_x3.out.1.2.2
            clear d2_x2
            have RD_x3 : Hid _ := rdy
            clear rdy oty PK_x3
            refine hK.out _ _ trivial (fun _ => ?_)
            clear hK K
            refine' wpAnyH_take (i := 6) (v := _) rfl (by kernel_rfl) (by kernel_rfl) (by kernel_rfl) (fun _ _ _ h => h) (Or.inl ⟨by rfl, ?hz11⟩) trivial ?hm11
            case hz11 => (intro wz hSw; go_simp; first | done | with_reducible rfl)
            try simp only [List.getElem_toArray, List.getElem_cons_zero, List.getElem_cons_succ, Act.put, List.setIfInBounds_toArray, List.set_cons_zero, List.set_cons_succ]
            refine wpAnyH_ready (rs := [7]) (by kernel_rfl) (by simp) ?_
            refine AllReadyH.cons rfl (fun K hK => ?_) AllReadyH.nil
            go_simp
            have AL_x4 : Below x3.heap.size x3 (x3.alloc (.cells #[.int .i64 h3, .int .i64 n5] 111)) := (Below.refl _ _).alloc (Nat.le_refl _) _
            have nw_x4 := cells_new2 x3 (.int .i64 h3) (.int .i64 n5) 111 _ rfl
            have nwh_x4 : Hid _ := nw_x4
            obtain ⟨nbx4, hnbx4⟩ : ∃ nb, x3.heap.size = nb := ⟨_, rfl⟩
            rw [hnbx4] at nwh_x4 ⊢
            clear nw_x4
            generalize hal_x4 : (x3.alloc (.cells #[.int .i64 h3, .int .i64 n5] 111)) = x4 at *
            clear hal_x4
            have ola : Oth (w.heap.size + 1) x3 x4 := Oth.of_below AL_x4
            have F1_x4 : Hid (C3 x4 bx (.slice a1 s.n.length a2) (.slice b1' s.ws.length b2') (.slice va t.length vc)) := C3.frame F1_x3.out (ola.block bx fb_x3 (by omega))
            have F2_x4 : Hid (C3 x4 w.heap.size (.slice none 0 0) (.slice none 0 0) (.slice none 0 0)) := C3.frame F2_x3.out (ola.block w.heap.size (by omega) (by omega))
            have F3_x4 : Hid (R3 (w2.heap.size + 1) x4 (.slice a1 s.n.length a2) (.slice b1' s.ws.length b2') (.slice va t.length vc) ⟨s.n, s.ws, t⟩) := R3.frame F3_x3.out (fun b hb q => ola.block b hb (fun e => by have := F3_x3.out.own_ge q; omega))
            have F4_x4 : Hid (Oth (w.heap.size + 1) w2 x4) := F4_x3.out.trans ola
            have fz_x4 : x3.heap.size ≤ x4.heap.size := ola.size
            have fb_x4 : bx < x4.heap.size := by omega
            have d2_x4 : x4.cell? ⟨bx, 2, none⟩ = some (.slice va t.length vc) := F1_x4.out.1.2.2
            clear d2_x3
            have RD_x4 : Hid _ := Rd2.oth RD_x3.out AL_x4
            clear AL_x4 ola
            refine hK.out _ _ trivial (fun _ => ?_)
            clear hK K
            refine wpAnyH_ready (rs := [8]) (by kernel_rfl) (by simp) ?_
            refine AllReadyH.cons rfl (fun K hK => ?_) AllReadyH.nil
            rw [if_pos (by rfl)]
            refine wp_append_at' _ _ _ 45 rfl (w2.heap.size + 1) 111 i1 _ 2 16 Try.underlying45 hj0 hy0 hy1 hy2 rfl (by decide) (.slice va t.length vc) t.length (pcells t) rfl F3_x4.out.ss ⟨nbx4, 0, none⟩ 1 1 [.int .i64 h3, .int .i64 n5] rfl rfl ?d1x5 ?d2x5 ?d3x5 ?d4x5 ?d5x5 ?_
            case d1x5 => exact nwh_x4.out
            case d2x5 => simp [Value.oneCell']
            case d3x5 => unfold maxLen; omega
            case d4x5 => omega
            case d5x5 => omega
            intro v8 w8 own8 grow8 nn8 at8
            have RT : R3 (w2.heap.size + 1) w8 (.slice a1 s.n.length a2) (.slice b1' s.ws.length b2') v8 ⟨s.n, s.ws, t ++ [(h3, n5)]⟩ := R3.tell (s := ⟨s.n, s.ws, t⟩) (a := (h3, n5)) F3_x4.out own8 grow8 at8
            have s8 : x4.heap.size ≤ w8.heap.size := grow8.size
            have blk : ∀ b, b < x4.heap.size → Value.ownBlock (.slice va t.length vc) ≠ some b → w8.heap[b]? = x4.heap[b]? := fun b hb hne => grow8.block b hb (fun q => hne q.symm)
            have nob : ∀ b, b < w2.heap.size + 1 → Value.ownBlock (.slice va t.length vc) ≠ some b := fun b hb e => by have := (World.ownsRow.lt F3_x4.out.ss b e).1; omega
            have G8 : C3 w8 bx (.slice a1 s.n.length a2) (.slice b1' s.ws.length b2') (.slice va t.length vc) := C3.frame F1_x4.out (blk bx fb_x4 hcb)
            have Z8 : C3 w8 w.heap.size (.slice none 0 0) (.slice none 0 0) (.slice none 0 0) := C3.frame F2_x4.out (blk _ (by omega) (nob _ (by omega)))
            have O8 : Oth (w.heap.size + 1) w2 w8 := F4_x4.out.grown grow8 (fun k hk => by have := (World.ownsRow.lt F3_x4.out.ss k hk).1; omega)
            have D8 : Rd2 w8 (w.heap.size + 1) (50009 - 2 * (k + 1) + 2) := Rd2.mono (Rd2.same RD_x4.out (fun b hb => blk b (by omega) (nob b (by omega)))) (by omega)
            have nb8 : v8.ownBlock ≠ some bx := by
              rcases at8 with e | e
              · rw [e]; exact hcb
              · rw [e]; intro q; have := Option.some.inj q; omega
            obtain ⟨va8, vc8, rfl⟩ := rowg_slice own8
            have HRT : Hid _ := RT
            have HG8 : Hid _ := G8
            have HZ8 : Hid _ := Z8
            have HO8 : Hid _ := O8
            have HD8 : Hid _ := D8
            have HN8 : Hid _ := nb8
            refine hK.out _ _ trivial (fun _ => ?_)
            clear hK K own8 grow8 nn8 at8 RT blk nob Z8 O8 D8 nb8 d2_x4
            refine' wpAnyH_take (i := 9) (v := _) rfl (by kernel_rfl) (by kernel_rfl) (by kernel_rfl) (fun _ _ _ h => h) (Or.inl ⟨by rfl, ?hz12⟩) trivial ?hm12
            case hz12 => (intro wz hSw; go_simp; first | done | with_reducible rfl)
            try simp only [List.getElem_toArray, List.getElem_cons_zero, List.getElem_cons_succ, Act.put, List.setIfInBounds_toArray, List.set_cons_zero, List.set_cons_succ]
            obtain ⟨⟨e0, e1, e2⟩, u0, u1, u2⟩ := G8
            refine wpAnyH_ready (rs := [10]) (by kernel_rfl) (by simp) ?_
            refine AllReadyH.cons rfl (fun K hK => ?_) AllReadyH.nil
            go_simp
            refine hK.out _ _ trivial (fun _ => ?_)
            clear hK K
            refine wpAnyH_done (by kernel_rfl) ?_ _
            have WB : ∀ b, b ≠ bx → (w8.setCell ⟨bx, 2, none⟩ (.slice va8 (t.length + 1) vc8)).heap[b]? = w8.heap[b]? := fun b hb => Below.heap_setCell _ _ _ _ hb
            have G9 : Hid (C3 (w8.setCell ⟨bx, 2, none⟩ (.slice va8 (t.length + 1) vc8)) bx (.slice a1 s.n.length a2) (.slice b1' s.ws.length b2') (.slice va8 (t.length + 1) vc8)) := C3.set2 _ HG8.out
            have Z9 : Hid (C3 (w8.setCell ⟨bx, 2, none⟩ (.slice va8 (t.length + 1) vc8)) w.heap.size (.slice none 0 0) (.slice none 0 0) (.slice none 0 0)) := C3.frame HZ8.out (WB _ (by omega))
            have O9 : Hid (Oth (w.heap.size + 1) w2 (w8.setCell ⟨bx, 2, none⟩ (.slice va8 (t.length + 1) vc8))) := HO8.out.new (by show w2.heap.size ≤ bx; omega) _
            have D9 : Hid (Rd2 (w8.setCell ⟨bx, 2, none⟩ (.slice va8 (t.length + 1) vc8)) (w.heap.size + 1) (50009 - 2 * k)) := Rd2.mono (Rd2.same HD8.out (fun b hb => WB b (by omega))) (by omega)
            have R9 : Hid (R3 (w2.heap.size + 1) (w8.setCell ⟨bx, 2, none⟩ (.slice va8 (t.length + 1) vc8)) (.slice a1 s.n.length a2) (.slice b1' s.ws.length b2') (.slice va8 (t.length + 1) vc8) ⟨s.n, s.ws, t ++ [(h3, n5)]⟩) := R3.far HRT.out _ _ NB1.out.1 NB1.out.2 HN8.out
            have B9 : bx < (w8.setCell ⟨bx, 2, none⟩ (.slice va8 (t.length + 1) vc8)).heap.size := by simp [World.setCell]; omega
            generalize w8.setCell ⟨bx, 2, none⟩ (.slice va8 (t.length + 1) vc8) = w9 at *
            clear WB e0 e1 e2 u0 u1 u2
            have v64 := w64 ((k : Int) + 1 - 1) (by omega)
            have e64 : (k : Int) + 1 - 1 = k := by omega
            go_wp2
            refine ⟨⟨k, t ++ [(h3, n5)], va8, vc8, by omega, by first | rfl | simp [e64], D9.out, O9.out, by simpa using G9.out, Z9.out, by simpa using R9.out, by simpa using HN8.out, ?_, by simp <;> omega, B9⟩, by simp [intOf] <;> omega⟩
            intro x hx
            rcases List.mem_append.1 hx with hx | hx
            · exact HTH.out x hx
            · obtain rfl : x = (h3, n5) := by simpa using hx
              simp [vIn]; omega
          · skip
            go_simp
            have PK_x6 : Hid _ := pick2 wq (w.heap.size + 1) _ 3 RD_wq.out (by omega) (by omega) (by omega)
            refine Calls.mono PK_x6.out ?_
            rintro e' x6 ⟨h3, rfl, h3l, h3h, rdy, oty⟩
            have F1_x6 : Hid (C3 x6 bx (.slice a1 s.n.length a2) (.slice b1' s.ws.length b2') (.slice va t.length vc)) := C3.frame F1_wq.out (oty.block bx fb_wq (by omega))
            have F2_x6 : Hid (C3 x6 w.heap.size (.slice none 0 0) (.slice none 0 0) (.slice none 0 0)) := C3.frame F2_wq.out (oty.block w.heap.size (by omega) (by omega))
            have F3_x6 : Hid (R3 (w2.heap.size + 1) x6 (.slice a1 s.n.length a2) (.slice b1' s.ws.length b2') (.slice va t.length vc) ⟨s.n, s.ws, t⟩) := R3.frame F3_wq.out (fun b hb q => oty.block b hb (fun e => by have := F3_wq.out.own_ge q; omega))
            have F4_x6 : Hid (Oth (w.heap.size + 1) w2 x6) := F4_wq.out.trans oty
            have fz_x6 : wq.heap.size ≤ x6.heap.size := oty.size
            have fb_x6 : bx < x6.heap.size := by omega
            have d2_x6 : x6.cell? ⟨bx, 2, none⟩ = some (.slice va t.length vc) := F1_x6.out.1.2.2
            clear d2_wq
            have RD_x6 : Hid _ := rdy
            clear rdy oty PK_x6
            refine hK.out _ _ trivial (fun _ => ?_)
            clear hK K
            refine wpAnyH_ready (rs := [1, 5]) (by kernel_rfl) (by simp) ?_
            refine AllReadyH.cons rfl (fun K hK => ?_) (AllReadyH.cons rfl (fun K hK => ?_) AllReadyH.nil)
            · skip
              go_simp
              refine hK.out _ _ trivial (fun _ => ?_)
              clear hK K
              refine wpAnyH_ready (rs := [5]) (by kernel_rfl) (by simp) ?_
              refine AllReadyH.cons rfl (fun K hK => ?_) AllReadyH.nil
              go_simp
              have PK_x8 : Hid _ := pick2 x6 (w.heap.size + 1) _ 10 RD_x6.out (by omega) (by omega) (by omega)
              refine Calls.mono PK_x8.out ?_
              rintro e' x8 ⟨n5, rfl, n5l, n5h, rdy, oty⟩
              have F1_x8 : Hid (C3 x8 bx (.slice a1 s.n.length a2) (.slice b1' s.ws.length b2') (.slice va t.length vc)) := C3.frame F1_x6.out (oty.block bx fb_x6 (by omega))
              have F2_x8 : Hid (C3 x8 w.heap.size (.slice none 0 0) (.slice none 0 0) (.slice none 0 0)) := C3.frame F2_x6.out (oty.block w.heap.size (by omega) (by omega))
              have F3_x8 : Hid (R3 (w2.heap.size + 1) x8 (.slice a1 s.n.length a2) (.slice b1' s.ws.length b2') (.slice va t.length vc) ⟨s.n, s.ws, t⟩) := R3.frame F3_x6.out (fun b hb q => oty.block b hb (fun e => by have := F3_x6.out.own_ge q; omega))
              have F4_x8 : Hid (Oth (w.heap.size + 1) w2 x8) := F4_x6.out.trans oty
              have fz_x8 : x6.heap.size ≤ x8.heap.size := oty.size
              have fb_x8 : bx < x8.heap.size := by omega
              have d2_x8 : x8.cell? ⟨bx, 2, none⟩ = some (.slice va t.length vc) := F1_x8.out.1.2.2
              clear d2_x6
              have RD_x8 : Hid _ := rdy
              clear rdy oty PK_x8
              refine hK.out _ _ trivial (fun _ => ?_)
              clear hK K
              refine' wpAnyH_take (i := 6) (v := _) rfl (by kernel_rfl) (by kernel_rfl) (by kernel_rfl) (fun _ _ _ h => h) (Or.inl ⟨by rfl, ?hz13⟩) trivial ?hm13
              case hz13 => (intro wz hSw; go_simp; first | done | with_reducible rfl)
              try simp only [List.getElem_toArray, List.getElem_cons_zero, List.getElem_cons_succ, Act.put, List.setIfInBounds_toArray, List.set_cons_zero, List.set_cons_succ]
              refine wpAnyH_ready (rs := [7]) (by kernel_rfl) (by simp) ?_
              refine AllReadyH.cons rfl (fun K hK => ?_) AllReadyH.nil
              go_simp
              have AL_x9 : Below x8.heap.size x8 (x8.alloc (.cells #[.int .i64 h3, .int .i64 n5] 111)) := (Below.refl _ _).alloc (Nat.le_refl _) _
              have nw_x9 := cells_new2 x8 (.int .i64 h3) (.int .i64 n5) 111 _ rfl
              have nwh_x9 : Hid _ := nw_x9
              obtain ⟨nbx9, hnbx9⟩ : ∃ nb, x8.heap.size = nb := ⟨_, rfl⟩
              rw [hnbx9] at nwh_x9 ⊢
              clear nw_x9
              generalize hal_x9 : (x8.alloc (.cells #[.int .i64 h3, .int .i64 n5] 111)) = x9 at *
              clear hal_x9
              have ola : Oth (w.heap.size + 1) x8 x9 := Oth.of_below AL_x9
              have F1_x9 : Hid (C3 x9 bx (.slice a1 s.n.length a2) (.slice b1' s.ws.length b2') (.slice va t.length vc)) := C3.frame F1_x8.out (ola.block bx fb_x8 (by omega))
              have F2_x9 : Hid (C3 x9 w.heap.size (.slice none 0 0) (.slice none 0 0) (.slice none 0 0)) := C3.frame F2_x8.out (ola.block w.heap.size (by omega) (by omega))
              have F3_x9 : Hid (R3 (w2.heap.size + 1) x9 (.slice a1 s.n.length a2) (.slice b1' s.ws.length b2') (.slice va t.length vc) ⟨s.n, s.ws, t⟩) := R3.frame F3_x8.out (fun b hb q => ola.block b hb (fun e => by have := F3_x8.out.own_ge q; omega))
              have F4_x9 : Hid (Oth (w.heap.size + 1) w2 x9) := F4_x8.out.trans ola
              have fz_x9 : x8.heap.size ≤ x9.heap.size := ola.size
              have fb_x9 : bx < x9.heap.size := by omega
              have d2_x9 : x9.cell? ⟨bx, 2, none⟩ = some (.slice va t.length vc) := F1_x9.out.1.2.2
              clear d2_x8
              have RD_x9 : Hid _ := Rd2.oth RD_x8.out AL_x9
              clear AL_x9 ola
              refine hK.out _ _ trivial (fun _ => ?_)
              clear hK K
              refine wpAnyH_ready (rs := [8]) (by kernel_rfl) (by simp) ?_
              refine AllReadyH.cons rfl (fun K hK => ?_) AllReadyH.nil
              rw [if_pos (by rfl)]
              refine wp_append_at' _ _ _ 45 rfl (w2.heap.size + 1) 111 i1 _ 2 16 Try.underlying45 hj0 hy0 hy1 hy2 rfl (by decide) (.slice va t.length vc) t.length (pcells t) rfl F3_x9.out.ss ⟨nbx9, 0, none⟩ 1 1 [.int .i64 h3, .int .i64 n5] rfl rfl ?d1x10 ?d2x10 ?d3x10 ?d4x10 ?d5x10 ?_
              case d1x10 => exact nwh_x9.out
              case d2x10 => simp [Value.oneCell']
              case d3x10 => unfold maxLen; omega
              case d4x10 => omega
              case d5x10 => omega
              intro v8 w8 own8 grow8 nn8 at8
              have RT : R3 (w2.heap.size + 1) w8 (.slice a1 s.n.length a2) (.slice b1' s.ws.length b2') v8 ⟨s.n, s.ws, t ++ [(h3, n5)]⟩ := R3.tell (s := ⟨s.n, s.ws, t⟩) (a := (h3, n5)) F3_x9.out own8 grow8 at8
              have s8 : x9.heap.size ≤ w8.heap.size := grow8.size
              have blk : ∀ b, b < x9.heap.size → Value.ownBlock (.slice va t.length vc) ≠ some b → w8.heap[b]? = x9.heap[b]? := fun b hb hne => grow8.block b hb (fun q => hne q.symm)
              have nob : ∀ b, b < w2.heap.size + 1 → Value.ownBlock (.slice va t.length vc) ≠ some b := fun b hb e => by have := (World.ownsRow.lt F3_x9.out.ss b e).1; omega
              have G8 : C3 w8 bx (.slice a1 s.n.length a2) (.slice b1' s.ws.length b2') (.slice va t.length vc) := C3.frame F1_x9.out (blk bx fb_x9 hcb)
              have Z8 : C3 w8 w.heap.size (.slice none 0 0) (.slice none 0 0) (.slice none 0 0) := C3.frame F2_x9.out (blk _ (by omega) (nob _ (by omega)))
              have O8 : Oth (w.heap.size + 1) w2 w8 := F4_x9.out.grown grow8 (fun k hk => by have := (World.ownsRow.lt F3_x9.out.ss k hk).1; omega)
              have D8 : Rd2 w8 (w.heap.size + 1) (50009 - 2 * (k + 1) + 2) := Rd2.mono (Rd2.same RD_x9.out (fun b hb => blk b (by omega) (nob b (by omega)))) (by omega)
              have nb8 : v8.ownBlock ≠ some bx := by
                rcases at8 with e | e
                · rw [e]; exact hcb
                · rw [e]; intro q; have := Option.some.inj q; omega
              obtain ⟨va8, vc8, rfl⟩ := rowg_slice own8
              have HRT : Hid _ := RT
              have HG8 : Hid _ := G8
              have HZ8 : Hid _ := Z8
              have HO8 : Hid _ := O8
              have HD8 : Hid _ := D8
              have HN8 : Hid _ := nb8
              refine hK.out _ _ trivial (fun _ => ?_)
              clear hK K own8 grow8 nn8 at8 RT blk nob Z8 O8 D8 nb8 d2_x9
              refine' wpAnyH_take (i := 9) (v := _) rfl (by kernel_rfl) (by kernel_rfl) (by kernel_rfl) (fun _ _ _ h => h) (Or.inl ⟨by rfl, ?hz14⟩) trivial ?hm14
              case hz14 => (intro wz hSw; go_simp; first | done | with_reducible rfl)
              try simp only [List.getElem_toArray, List.getElem_cons_zero, List.getElem_cons_succ, Act.put, List.setIfInBounds_toArray, List.set_cons_zero, List.set_cons_succ]
              obtain ⟨⟨e0, e1, e2⟩, u0, u1, u2⟩ := G8
              refine wpAnyH_ready (rs := [10]) (by kernel_rfl) (by simp) ?_
              refine AllReadyH.cons rfl (fun K hK => ?_) AllReadyH.nil
              go_simp
              refine hK.out _ _ trivial (fun _ => ?_)
              clear hK K
              refine wpAnyH_done (by kernel_rfl) ?_ _
              have WB : ∀ b, b ≠ bx → (w8.setCell ⟨bx, 2, none⟩ (.slice va8 (t.length + 1) vc8)).heap[b]? = w8.heap[b]? := fun b hb => Below.heap_setCell _ _ _ _ hb
              have G9 : Hid (C3 (w8.setCell ⟨bx, 2, none⟩ (.slice va8 (t.length + 1) vc8)) bx (.slice a1 s.n.length a2) (.slice b1' s.ws.length b2') (.slice va8 (t.length + 1) vc8)) := C3.set2 _ HG8.out
              have Z9 : Hid (C3 (w8.setCell ⟨bx, 2, none⟩ (.slice va8 (t.length + 1) vc8)) w.heap.size (.slice none 0 0) (.slice none 0 0) (.slice none 0 0)) := C3.frame HZ8.out (WB _ (by omega))
              have O9 : Hid (Oth (w.heap.size + 1) w2 (w8.setCell ⟨bx, 2, none⟩ (.slice va8 (t.length + 1) vc8))) := HO8.out.new (by show w2.heap.size ≤ bx; omega) _
              have D9 : Hid (Rd2 (w8.setCell ⟨bx, 2, none⟩ (.slice va8 (t.length + 1) vc8)) (w.heap.size + 1) (50009 - 2 * k)) := Rd2.mono (Rd2.same HD8.out (fun b hb => WB b (by omega))) (by omega)
              have R9 : Hid (R3 (w2.heap.size + 1) (w8.setCell ⟨bx, 2, none⟩ (.slice va8 (t.length + 1) vc8)) (.slice a1 s.n.length a2) (.slice b1' s.ws.length b2') (.slice va8 (t.length + 1) vc8) ⟨s.n, s.ws, t ++ [(h3, n5)]⟩) := R3.far HRT.out _ _ NB1.out.1 NB1.out.2 HN8.out
              have B9 : bx < (w8.setCell ⟨bx, 2, none⟩ (.slice va8 (t.length + 1) vc8)).heap.size := by simp [World.setCell]; omega
              generalize w8.setCell ⟨bx, 2, none⟩ (.slice va8 (t.length + 1) vc8) = w9 at *
              clear WB e0 e1 e2 u0 u1 u2
              have v64 := w64 ((k : Int) + 1 - 1) (by omega)
              have e64 : (k : Int) + 1 - 1 = k := by omega
              go_wp2
              refine ⟨⟨k, t ++ [(h3, n5)], va8, vc8, by omega, by first | rfl | simp [e64], D9.out, O9.out, by simpa using G9.out, Z9.out, by simpa using R9.out, by simpa using HN8.out, ?_, by simp <;> omega, B9⟩, by simp [intOf] <;> omega⟩
              intro x hx
              rcases List.mem_append.1 hx with hx | hx
              · exact HTH.out x hx
              · obtain rfl : x = (h3, n5) := by simpa using hx
                simp [vIn]; omega
            · skip
              go_simp
              have PK_x11 : Hid _ := pick2 x6 (w.heap.size + 1) _ 10 RD_x6.out (by omega) (by omega) (by omega)
              refine Calls.mono PK_x11.out ?_
              rintro e' x11 ⟨n5, rfl, n5l, n5h, rdy, oty⟩
              have F1_x11 : Hid (C3 x11 bx (.slice a1 s.n.length a2) (.slice b1' s.ws.length b2') (.slice va t.length vc)) := C3.frame F1_x6.out (oty.block bx fb_x6 (by omega))
              have F2_x11 : Hid (C3 x11 w.heap.size (.slice none 0 0) (.slice none 0 0) (.slice none 0 0)) := C3.frame F2_x6.out (oty.block w.heap.size (by omega) (by omega))
              have F3_x11 : Hid (R3 (w2.heap.size + 1) x11 (.slice a1 s.n.length a2) (.slice b1' s.ws.length b2') (.slice va t.length vc) ⟨s.n, s.ws, t⟩) := R3.frame F3_x6.out (fun b hb q => oty.block b hb (fun e => by have := F3_x6.out.own_ge q; omega))
              have F4_x11 : Hid (Oth (w.heap.size + 1) w2 x11) := F4_x6.out.trans oty
              have fz_x11 : x6.heap.size ≤ x11.heap.size := oty.size
              have fb_x11 : bx < x11.heap.size := by omega
              have d2_x11 : x11.cell? ⟨bx, 2, none⟩ = some (.slice va t.length vc) := F1_x11.out.1.2.2
              clear d2_x6
              have RD_x11 : Hid _ := rdy
              clear rdy oty PK_x11
              refine hK.out _ _ trivial (fun _ => ?_)
              clear hK K
              refine' wpAnyH_take (i := 6) (v := _) rfl (by kernel_rfl) (by kernel_rfl) (by kernel_rfl) (fun _ _ _ h => h) (Or.inl ⟨by rfl, ?hz15⟩) trivial ?hm15
              case hz15 => (intro wz hSw; go_simp; first | done | with_reducible rfl)
              try simp only [List.getElem_toArray, List.getElem_cons_zero, List.getElem_cons_succ, Act.put, List.setIfInBounds_toArray, List.set_cons_zero, List.set_cons_succ]
              refine wpAnyH_ready (rs := [1, 7]) (by kernel_rfl) (by simp) ?_
              refine AllReadyH.cons rfl (fun K hK => ?_) (AllReadyH.cons rfl (fun K hK => ?_) AllReadyH.nil)
              · skip
                go_simp
                refine hK.out _ _ trivial (fun _ => ?_)
                clear hK K
                refine wpAnyH_ready (rs := [7]) (by kernel_rfl) (by simp) ?_
                refine AllReadyH.cons rfl (fun K hK => ?_) AllReadyH.nil
                go_simp
                have AL_x13 : Below x11.heap.size x11 (x11.alloc (.cells #[.int .i64 h3, .int .i64 n5] 111)) := (Below.refl _ _).alloc (Nat.le_refl _) _
                have nw_x13 := cells_new2 x11 (.int .i64 h3) (.int .i64 n5) 111 _ rfl
                have nwh_x13 : Hid _ := nw_x13
                obtain ⟨nbx13, hnbx13⟩ : ∃ nb, x11.heap.size = nb := ⟨_, rfl⟩
                rw [hnbx13] at nwh_x13 ⊢
                clear nw_x13
                generalize hal_x13 : (x11.alloc (.cells #[.int .i64 h3, .int .i64 n5] 111)) = x13 at *
                clear hal_x13
                have ola : Oth (w.heap.size + 1) x11 x13 := Oth.of_below AL_x13
                have F1_x13 : Hid (C3 x13 bx (.slice a1 s.n.length a2) (.slice b1' s.ws.length b2') (.slice va t.length vc)) := C3.frame F1_x11.out (ola.block bx fb_x11 (by omega))
                have F2_x13 : Hid (C3 x13 w.heap.size (.slice none 0 0) (.slice none 0 0) (.slice none 0 0)) := C3.frame F2_x11.out (ola.block w.heap.size (by omega) (by omega))
                have F3_x13 : Hid (R3 (w2.heap.size + 1) x13 (.slice a1 s.n.length a2) (.slice b1' s.ws.length b2') (.slice va t.length vc) ⟨s.n, s.ws, t⟩) := R3.frame F3_x11.out (fun b hb q => ola.block b hb (fun e => by have := F3_x11.out.own_ge q; omega))
                have F4_x13 : Hid (Oth (w.heap.size + 1) w2 x13) := F4_x11.out.trans ola
                have fz_x13 : x11.heap.size ≤ x13.heap.size := ola.size
                have fb_x13 : bx < x13.heap.size := by omega
                have d2_x13 : x13.cell? ⟨bx, 2, none⟩ = some (.slice va t.length vc) := F1_x13.out.1.2.2
                clear d2_x11
                have RD_x13 : Hid _ := Rd2.oth RD_x11.out AL_x13
                clear AL_x13 ola
                refine hK.out _ _ trivial (fun _ => ?_)
                clear hK K
                refine wpAnyH_ready (rs := [8]) (by kernel_rfl) (by simp) ?_
                refine AllReadyH.cons rfl (fun K hK => ?_) AllReadyH.nil
                rw [if_pos (by rfl)]
                refine wp_append_at' _ _ _ 45 rfl (w2.heap.size + 1) 111 i1 _ 2 16 Try.underlying45 hj0 hy0 hy1 hy2 rfl (by decide) (.slice va t.length vc) t.length (pcells t) rfl F3_x13.out.ss ⟨nbx13, 0, none⟩ 1 1 [.int .i64 h3, .int .i64 n5] rfl rfl ?d1x14 ?d2x14 ?d3x14 ?d4x14 ?d5x14 ?_
                case d1x14 => exact nwh_x13.out
                case d2x14 => simp [Value.oneCell']
                case d3x14 => unfold maxLen; omega
                case d4x14 => omega
                case d5x14 => omega
                intro v8 w8 own8 grow8 nn8 at8
                have RT : R3 (w2.heap.size + 1) w8 (.slice a1 s.n.length a2) (.slice b1' s.ws.length b2') v8 ⟨s.n, s.ws, t ++ [(h3, n5)]⟩ := R3.tell (s := ⟨s.n, s.ws, t⟩) (a := (h3, n5)) F3_x13.out own8 grow8 at8
                have s8 : x13.heap.size ≤ w8.heap.size := grow8.size
                have blk : ∀ b, b < x13.heap.size → Value.ownBlock (.slice va t.length vc) ≠ some b → w8.heap[b]? = x13.heap[b]? := fun b hb hne => grow8.block b hb (fun q => hne q.symm)
                have nob : ∀ b, b < w2.heap.size + 1 → Value.ownBlock (.slice va t.length vc) ≠ some b := fun b hb e => by have := (World.ownsRow.lt F3_x13.out.ss b e).1; omega
                have G8 : C3 w8 bx (.slice a1 s.n.length a2) (.slice b1' s.ws.length b2') (.slice va t.length vc) := C3.frame F1_x13.out (blk bx fb_x13 hcb)
                have Z8 : C3 w8 w.heap.size (.slice none 0 0) (.slice none 0 0) (.slice none 0 0) := C3.frame F2_x13.out (blk _ (by omega) (nob _ (by omega)))
                have O8 : Oth (w.heap.size + 1) w2 w8 := F4_x13.out.grown grow8 (fun k hk => by have := (World.ownsRow.lt F3_x13.out.ss k hk).1; omega)
                have D8 : Rd2 w8 (w.heap.size + 1) (50009 - 2 * (k + 1) + 2) := Rd2.mono (Rd2.same RD_x13.out (fun b hb => blk b (by omega) (nob b (by omega)))) (by omega)
                have nb8 : v8.ownBlock ≠ some bx := by
                  rcases at8 with e | e
                  · rw [e]; exact hcb
                  · rw [e]; intro q; have := Option.some.inj q; omega
                obtain ⟨va8, vc8, rfl⟩ := rowg_slice own8
                have HRT : Hid _ := RT
                have HG8 : Hid _ := G8
                have HZ8 : Hid _ := Z8
                have HO8 : Hid _ := O8
                have HD8 : Hid _ := D8
                have HN8 : Hid _ := nb8
                refine hK.out _ _ trivial (fun _ => ?_)
                clear hK K own8 grow8 nn8 at8 RT blk nob Z8 O8 D8 nb8 d2_x13
                refine' wpAnyH_take (i := 9) (v := _) rfl (by kernel_rfl) (by kernel_rfl) (by kernel_rfl) (fun _ _ _ h => h) (Or.inl ⟨by rfl, ?hz16⟩) trivial ?hm16
                case hz16 => (intro wz hSw; go_simp; first | done | with_reducible rfl)
                try simp only [List.getElem_toArray, List.getElem_cons_zero, List.getElem_cons_succ, Act.put, List.setIfInBounds_toArray, List.set_cons_zero, List.set_cons_succ]
                obtain ⟨⟨e0, e1, e2⟩, u0, u1, u2⟩ := G8
                refine wpAnyH_ready (rs := [10]) (by kernel_rfl) (by simp) ?_
                refine AllReadyH.cons rfl (fun K hK => ?_) AllReadyH.nil
                go_simp
                refine hK.out _ _ trivial (fun _ => ?_)
                clear hK K
                refine wpAnyH_done (by kernel_rfl) ?_ _
                have WB : ∀ b, b ≠ bx → (w8.setCell ⟨bx, 2, none⟩ (.slice va8 (t.length + 1) vc8)).heap[b]? = w8.heap[b]? := fun b hb => Below.heap_setCell _ _ _ _ hb
                have G9 : Hid (C3 (w8.setCell ⟨bx, 2, none⟩ (.slice va8 (t.length + 1) vc8)) bx (.slice a1 s.n.length a2) (.slice b1' s.ws.length b2') (.slice va8 (t.length + 1) vc8)) := C3.set2 _ HG8.out
                have Z9 : Hid (C3 (w8.setCell ⟨bx, 2, none⟩ (.slice va8 (t.length + 1) vc8)) w.heap.size (.slice none 0 0) (.slice none 0 0) (.slice none 0 0)) := C3.frame HZ8.out (WB _ (by omega))
                have O9 : Hid (Oth (w.heap.size + 1) w2 (w8.setCell ⟨bx, 2, none⟩ (.slice va8 (t.length + 1) vc8))) := HO8.out.new (by show w2.heap.size ≤ bx; omega) _
                have D9 : Hid (Rd2 (w8.setCell ⟨bx, 2, none⟩ (.slice va8 (t.length + 1) vc8)) (w.heap.size + 1) (50009 - 2 * k)) := Rd2.mono (Rd2.same HD8.out (fun b hb => WB b (by omega))) (by omega)
                have R9 : Hid (R3 (w2.heap.size + 1) (w8.setCell ⟨bx, 2, none⟩ (.slice va8 (t.length + 1) vc8)) (.slice a1 s.n.length a2) (.slice b1' s.ws.length b2') (.slice va8 (t.length + 1) vc8) ⟨s.n, s.ws, t ++ [(h3, n5)]⟩) := R3.far HRT.out _ _ NB1.out.1 NB1.out.2 HN8.out
                have B9 : bx < (w8.setCell ⟨bx, 2, none⟩ (.slice va8 (t.length + 1) vc8)).heap.size := by simp [World.setCell]; omega
                generalize w8.setCell ⟨bx, 2, none⟩ (.slice va8 (t.length + 1) vc8) = w9 at *
                clear WB e0 e1 e2 u0 u1 u2
                have v64 := w64 ((k : Int) + 1 - 1) (by omega)
                have e64 : (k : Int) + 1 - 1 = k := by omega
                go_wp2
                refine ⟨⟨k, t ++ [(h3, n5)], va8, vc8, by omega, by first | rfl | simp [e64], D9.out, O9.out, by simpa using G9.out, Z9.out, by simpa using R9.out, by simpa using HN8.out, ?_, by simp <;> omega, B9⟩, by simp [intOf] <;> omega⟩
                intro x hx
                rcases List.mem_append.1 hx with hx | hx
                · exact HTH.out x hx
                · obtain rfl : x = (h3, n5) := by simpa using hx
                  simp [vIn]; omega
              · skip
                go_simp
                have AL_x15 : Below x11.heap.size x11 (x11.alloc (.cells #[.int .i64 h3, .int .i64 n5] 111)) := (Below.refl _ _).alloc (Nat.le_refl _) _
                have nw_x15 := cells_new2 x11 (.int .i64 h3) (.int .i64 n5) 111 _ rfl
                have nwh_x15 : Hid _ := nw_x15
                obtain ⟨nbx15, hnbx15⟩ : ∃ nb, x11.heap.size = nb := ⟨_, rfl⟩
                rw [hnbx15] at nwh_x15 ⊢
                clear nw_x15
                generalize hal_x15 : (x11.alloc (.cells #[.int .i64 h3, .int .i64 n5] 111)) = x15 at *
                clear hal_x15
                have ola : Oth (w.heap.size + 1) x11 x15 := Oth.of_below AL_x15
                have F1_x15 : Hid (C3 x15 bx (.slice a1 s.n.length a2) (.slice b1' s.ws.length b2') (.slice va t.length vc)) := C3.frame F1_x11.out (ola.block bx fb_x11 (by omega))
                have F2_x15 : Hid (C3 x15 w.heap.size (.slice none 0 0) (.slice none 0 0) (.slice none 0 0)) := C3.frame F2_x11.out (ola.block w.heap.size (by omega) (by omega))
                have F3_x15 : Hid (R3 (w2.heap.size + 1) x15 (.slice a1 s.n.length a2) (.slice b1' s.ws.length b2') (.slice va t.length vc) ⟨s.n, s.ws, t⟩) := R3.frame F3_x11.out (fun b hb q => ola.block b hb (fun e => by have := F3_x11.out.own_ge q; omega))
                have F4_x15 : Hid (Oth (w.heap.size + 1) w2 x15) := F4_x11.out.trans ola
                have fz_x15 : x11.heap.size ≤ x15.heap.size := ola.size
                have fb_x15 : bx < x15.heap.size := by omega
                have d2_x15 : x15.cell? ⟨bx, 2, none⟩ = some (.slice va t.length vc) := F1_x15.out.1.2.2
                clear d2_x11
                have RD_x15 : Hid _ := Rd2.oth RD_x11.out AL_x15
                clear AL_x15 ola
                refine hK.out _ _ trivial (fun _ => ?_)
                clear hK K
                refine wpAnyH_ready (rs := [1]) (by kernel_rfl) (by simp) ?_
                refine AllReadyH.cons rfl (fun K hK => ?_) AllReadyH.nil
                go_simp
                refine hK.out _ _ trivial (fun _ => ?_)
                clear hK K
                refine wpAnyH_ready (rs := [8]) (by kernel_rfl) (by simp) ?_
                refine AllReadyH.cons rfl (fun K hK => ?_) AllReadyH.nil
                rw [if_pos (by rfl)]
                refine wp_append_at' _ _ _ 45 rfl (w2.heap.size + 1) 111 i1 _ 2 16 Try.underlying45 hj0 hy0 hy1 hy2 rfl (by decide) (.slice va t.length vc) t.length (pcells t) rfl F3_x15.out.ss ⟨nbx15, 0, none⟩ 1 1 [.int .i64 h3, .int .i64 n5] rfl rfl ?d1x17 ?d2x17 ?d3x17 ?d4x17 ?d5x17 ?_
                case d1x17 => exact nwh_x15.out
                case d2x17 => simp [Value.oneCell']
                case d3x17 => unfold maxLen; omega
                case d4x17 => omega
                case d5x17 => omega
                intro v8 w8 own8 grow8 nn8 at8
                have RT : R3 (w2.heap.size + 1) w8 (.slice a1 s.n.length a2) (.slice b1' s.ws.length b2') v8 ⟨s.n, s.ws, t ++ [(h3, n5)]⟩ := R3.tell (s := ⟨s.n, s.ws, t⟩) (a := (h3, n5)) F3_x15.out own8 grow8 at8
                have s8 : x15.heap.size ≤ w8.heap.size := grow8.size
                have blk : ∀ b, b < x15.heap.size → Value.ownBlock (.slice va t.length vc) ≠ some b → w8.heap[b]? = x15.heap[b]? := fun b hb hne => grow8.block b hb (fun q => hne q.symm)
                have nob : ∀ b, b < w2.heap.size + 1 → Value.ownBlock (.slice va t.length vc) ≠ some b := fun b hb e => by have := (World.ownsRow.lt F3_x15.out.ss b e).1; omega
                have G8 : C3 w8 bx (.slice a1 s.n.length a2) (.slice b1' s.ws.length b2') (.slice va t.length vc) := C3.frame F1_x15.out (blk bx fb_x15 hcb)
                have Z8 : C3 w8 w.heap.size (.slice none 0 0) (.slice none 0 0) (.slice none 0 0) := C3.frame F2_x15.out (blk _ (by omega) (nob _ (by omega)))
                have O8 : Oth (w.heap.size + 1) w2 w8 := F4_x15.out.grown grow8 (fun k hk => by have := (World.ownsRow.lt F3_x15.out.ss k hk).1; omega)
                have D8 : Rd2 w8 (w.heap.size + 1) (50009 - 2 * (k + 1) + 2) := Rd2.mono (Rd2.same RD_x15.out (fun b hb => blk b (by omega) (nob b (by omega)))) (by omega)
                have nb8 : v8.ownBlock ≠ some bx := by
                  rcases at8 with e | e
                  · rw [e]; exact hcb
                  · rw [e]; intro q; have := Option.some.inj q; omega
                obtain ⟨va8, vc8, rfl⟩ := rowg_slice own8
                have HRT : Hid _ := RT
                have HG8 : Hid _ := G8
                have HZ8 : Hid _ := Z8
                have HO8 : Hid _ := O8
                have HD8 : Hid _ := D8
                have HN8 : Hid _ := nb8
                refine hK.out _ _ trivial (fun _ => ?_)
                clear hK K own8 grow8 nn8 at8 RT blk nob Z8 O8 D8 nb8 d2_x15
                refine' wpAnyH_take (i := 9) (v := _) rfl (by kernel_rfl) (by kernel_rfl) (by kernel_rfl) (fun _ _ _ h => h) (Or.inl ⟨by rfl, ?hz17⟩) trivial ?hm17
                case hz17 => (intro wz hSw; go_simp; first | done | with_reducible rfl)
                try simp only [List.getElem_toArray, List.getElem_cons_zero, List.getElem_cons_succ, Act.put, List.setIfInBounds_toArray, List.set_cons_zero, List.set_cons_succ]
                obtain ⟨⟨e0, e1, e2⟩, u0, u1, u2⟩ := G8
                refine wpAnyH_ready (rs := [10]) (by kernel_rfl) (by simp) ?_
                refine AllReadyH.cons rfl (fun K hK => ?_) AllReadyH.nil
                go_simp
                refine hK.out _ _ trivial (fun _ => ?_)
                clear hK K
                refine wpAnyH_done (by kernel_rfl) ?_ _
                have WB : ∀ b, b ≠ bx → (w8.setCell ⟨bx, 2, none⟩ (.slice va8 (t.length + 1) vc8)).heap[b]? = w8.heap[b]? := fun b hb => Below.heap_setCell _ _ _ _ hb
                have G9 : Hid (C3 (w8.setCell ⟨bx, 2, none⟩ (.slice va8 (t.length + 1) vc8)) bx (.slice a1 s.n.length a2) (.slice b1' s.ws.length b2') (.slice va8 (t.length + 1) vc8)) := C3.set2 _ HG8.out
                have Z9 : Hid (C3 (w8.setCell ⟨bx, 2, none⟩ (.slice va8 (t.length + 1) vc8)) w.heap.size (.slice none 0 0) (.slice none 0 0) (.slice none 0 0)) := C3.frame HZ8.out (WB _ (by omega))
                have O9 : Hid (Oth (w.heap.size + 1) w2 (w8.setCell ⟨bx, 2, none⟩ (.slice va8 (t.length + 1) vc8))) := HO8.out.new (by show w2.heap.size ≤ bx; omega) _
                have D9 : Hid (Rd2 (w8.setCell ⟨bx, 2, none⟩ (.slice va8 (t.length + 1) vc8)) (w.heap.size + 1) (50009 - 2 * k)) := Rd2.mono (Rd2.same HD8.out (fun b hb => WB b (by omega))) (by omega)
                have R9 : Hid (R3 (w2.heap.size + 1) (w8.setCell ⟨bx, 2, none⟩ (.slice va8 (t.length + 1) vc8)) (.slice a1 s.n.length a2) (.slice b1' s.ws.length b2') (.slice va8 (t.length + 1) vc8) ⟨s.n, s.ws, t ++ [(h3, n5)]⟩) := R3.far HRT.out _ _ NB1.out.1 NB1.out.2 HN8.out
                have B9 : bx < (w8.setCell ⟨bx, 2, none⟩ (.slice va8 (t.length + 1) vc8)).heap.size := by simp [World.setCell]; omega
                generalize w8.setCell ⟨bx, 2, none⟩ (.slice va8 (t.length + 1) vc8) = w9 at *
                clear WB e0 e1 e2 u0 u1 u2
                have v64 := w64 ((k : Int) + 1 - 1) (by omega)
                have e64 : (k : Int) + 1 - 1 = k := by omega
                go_wp2
                refine ⟨⟨k, t ++ [(h3, n5)], va8, vc8, by omega, by first | rfl | simp [e64], D9.out, O9.out, by simpa using G9.out, Z9.out, by simpa using R9.out, by simpa using HN8.out, ?_, by simp <;> omega, B9⟩, by simp [intOf] <;> omega⟩
                intro x hx
                rcases List.mem_append.1 hx with hx | hx
                · exact HTH.out x hx
                · obtain rfl : x = (h3, n5) := by simpa using hx
                  simp [vIn]; omega
        | zero =>
          have HG1 : Hid (C3 wr bx (.slice a1 s.n.length a2) (.slice b1' s.ws.length b2') (.slice va t.length vc)) := hg1
          have HZ1 : Hid (C3 wr w.heap.size (.slice none 0 0) (.slice none 0 0) (.slice none 0 0)) := hz1'
          have HR3' : Hid (R3 (w2.heap.size + 1) wr (.slice a1 s.n.length a2) (.slice b1' s.ws.length b2') (.slice va t.length vc) ⟨s.n, s.ws, t⟩) := hr3
          have HOT : Hid (Oth (w.heap.size + 1) w2 wr) := hot
          have PK5 : Hid _ := pick2 wr.drew (w.heap.size + 1) _ 5 (hrd.same (fun _ _ => rfl)) (by omega) (by omega) (by omega)
          clear hrd hot hg1 hz1' hr3 hth
          go_wp2_with fail
          refine wp_region_held (S := (fun wz => wz.cell? ⟨bx, 0, none⟩ = some (.slice a1 s.n.length a2) ∧ wz.cell? ⟨bx, 1, none⟩ = some (.slice b1' s.ws.length b2') ∧ wz.cell? ⟨bx, 2, none⟩ = some (.slice va t.length vc))) (by kernel_rfl) ?_
          change wpAnyH _ _ _ _ _ _ _ _ (World.drew _)
          have hHeld : wr.drew.cell? ⟨bx, 0, none⟩ = some (.slice a1 s.n.length a2) ∧ wr.drew.cell? ⟨bx, 1, none⟩ = some (.slice b1' s.ws.length b2') ∧ wr.drew.cell? ⟨bx, 2, none⟩ = some (.slice va t.length vc) := HG1.out.1
          refine' wpAnyH_take (i := 0) (v := .agg #[.slice a1 s.n.length a2, .slice b1' s.ws.length b2', .slice va t.length vc]) rfl (by kernel_rfl) (by kernel_rfl) (by kernel_rfl) (fun _ _ _ h => h) (Or.inl ⟨by rfl, ?hz18⟩) hHeld ?hm18
          case hz18 => (intro wz hSw; obtain ⟨j0, j1, j2⟩ := hSw; go_simp)
          try simp only [List.getElem_toArray, List.getElem_cons_zero, List.getElem_cons_succ, Act.put, List.setIfInBounds_toArray, List.set_cons_zero, List.set_cons_succ]
          refine' wpAnyH_take (i := 1) (v := _) rfl (by kernel_rfl) (by kernel_rfl) (by kernel_rfl) (fun _ _ _ h => h) (Or.inl ⟨by rfl, ?hz19⟩) hHeld ?hm19
          case hz19 => (intro wz hSw; obtain ⟨j0, j1, j2⟩ := hSw; go_simp; first | done | with_reducible rfl)
          try simp only [List.getElem_toArray, List.getElem_cons_zero, List.getElem_cons_succ, Act.put, List.setIfInBounds_toArray, List.set_cons_zero, List.set_cons_succ]
          refine wpAnyH_ready (rs := [2]) (by kernel_rfl) (by simp) ?_
          refine AllReadyH.cons rfl (fun K hK => ?_) AllReadyH.nil
          go_simp
          refine Calls.mono PK5.out ?_
          rintro e' w7 ⟨h5, rfl, h5l, h5h, rd7, ot7⟩
          have G7 : C3 w7 bx (.slice a1 s.n.length a2) (.slice b1' s.ws.length b2') (.slice va t.length vc) := C3.frame HG1.out (ot7.block bx hbw (by omega))
          have Z7 : C3 w7 w.heap.size (.slice none 0 0) (.slice none 0 0) (.slice none 0 0) := C3.frame HZ1.out (ot7.block w.heap.size (by show w.heap.size < wr.heap.size; omega) (by omega))
          have R7 : Hid (R3 (w2.heap.size + 1) w7 (.slice a1 s.n.length a2) (.slice b1' s.ws.length b2') (.slice va t.length vc) ⟨s.n, s.ws, t⟩) := R3.frame HR3'.out (fun b hb q => ot7.block b hb (fun e => by have := HR3'.out.own_ge q; omega))
          have O7 : Hid (Oth (w.heap.size + 1) w2 w7) := (HOT.out.drew).trans ot7
          have HZ7 : Hid _ := Z7
          have z7 : wr.heap.size ≤ w7.heap.size := ot7.size
          refine hK.out _ _ G7.1 (fun hHeld => ?_)
          clear hK K rd7 ot7 PK5
          have v5 := w64 (h5 - 1) (by omega)
          refine' wpAnyH_take (i := 3) (v := _) rfl (by kernel_rfl) (by kernel_rfl) (by kernel_rfl) (fun _ _ _ h => h) (Or.inl ⟨by rfl, ?hz20⟩) hHeld ?hm20
          case hz20 => (intro wz hSw; obtain ⟨j0, j1, j2⟩ := hSw; go_simp; first | done | with_reducible rfl)
          try simp only [List.getElem_toArray, List.getElem_cons_zero, List.getElem_cons_succ, Act.put, List.setIfInBounds_toArray, List.set_cons_zero, List.set_cons_succ]
          obtain ⟨⟨e0, e1, e2⟩, u0, u1, u2⟩ := Z7
          refine wpAnyH_ready (rs := [4]) (by kernel_rfl) (by simp) ?_
          refine AllReadyH.cons rfl (fun K hK => ?_) AllReadyH.nil
          go_simp
          have nbw : ¬ bx = w.heap.size := by omega
          refine hK.out _ _ ⟨(World.cell?_setCell_other _ _ _ _ (by simp <;> omega)).trans ((World.cell?_setCell_other _ _ _ _ (by simp <;> omega)).trans ((World.cell?_setCell_other _ _ _ _ (by simp <;> omega)).trans hHeld.1)), (World.cell?_setCell_other _ _ _ _ (by simp <;> omega)).trans ((World.cell?_setCell_other _ _ _ _ (by simp <;> omega)).trans ((World.cell?_setCell_other _ _ _ _ (by simp <;> omega)).trans hHeld.2.1)), (World.cell?_setCell_other _ _ _ _ (by simp <;> omega)).trans ((World.cell?_setCell_other _ _ _ _ (by simp <;> omega)).trans ((World.cell?_setCell_other _ _ _ _ (by simp <;> omega)).trans hHeld.2.2))⟩ (fun hHeld => ?_)
          clear hK K
          refine' wpAnyH_take (i := 5) (v := _) rfl (by kernel_rfl) (by kernel_rfl) (by kernel_rfl) (fun _ _ _ h => h) (Or.inl ⟨by rfl, ?hz21⟩) hHeld ?hm21
          case hz21 => (intro wz hSw; obtain ⟨j0, j1, j2⟩ := hSw; go_simp; first | done | with_reducible rfl)
          try simp only [List.getElem_toArray, List.getElem_cons_zero, List.getElem_cons_succ, Act.put, List.setIfInBounds_toArray, List.set_cons_zero, List.set_cons_succ]
          refine wpAnyH_done (by kernel_rfl) ?_ _
          clear hHeld e0 e1 e2 u0 u1 u2
          go_wp2
          have GF := C3.set2 (.slice va t.length vc) (C3.set1 (.slice b1' s.ws.length b2') (C3.set0 (.slice a1 s.n.length a2) HZ7.out))
          obtain ⟨⟨r0, r1, r2⟩, -⟩ := GF
          have WBf : ∀ b, b ≠ w.heap.size → (((w7.setCell ⟨w.heap.size, 0, none⟩ (.slice a1 s.n.length a2)).setCell ⟨w.heap.size, 1, none⟩ (.slice b1' s.ws.length b2')).setCell ⟨w.heap.size, 2, none⟩ (.slice va t.length vc)).heap[b]? = w7.heap[b]? := fun b hb => by rw [Below.heap_setCell _ _ _ _ hb, Below.heap_setCell _ _ _ _ hb, Below.heap_setCell _ _ _ _ hb]
          refine bodyPost_ret (v := .tuple #[.agg #[.slice a1 s.n.length a2, .slice b1' s.ws.length b2', .slice va t.length vc], .int .i64 (h5 - 1)]) (by simp [results, Try.results36, go_sem, r0, r1, r2]) rfl ⟨_, _, _, ⟨s.n, s.ws, t⟩, _, rfl, ?_, ?_, HTH.out, by show t.length ≤ _; omega⟩
          · exact (((HB1.out.trans ((HO2.out.trans O7.out).below (B := w.heap.size) (by omega) (by omega))).setCell (Nat.le_refl _) _).setCell (Nat.le_refl _) _).setCell (Nat.le_refl _) _
          · exact R3.mono (B := w2.heap.size + 1) (R3.frame R7.out (fun b _ q => WBf b (fun e => by have := R7.out.own_ge q; omega))) (by omega)
    · skip
      go_simp
      have AA_w5 : Below w4.heap.size w4 (w4.alloc (.cells #[.slice none 0 0, .slice none 0 0, .slice none 0 0] 47)) := (Below.refl _ _).alloc (Nat.le_refl _) _
      have GA_w5 := C3.new w4 (.slice none 0 0) (.slice none 0 0) (.slice none 0 0) 47
      generalize hal_w5 : (w4.alloc (.cells #[.slice none 0 0, .slice none 0 0, .slice none 0 0] 47)) = w5 at *
      clear hal_w5
      have OX_w5 : Oth (w.heap.size + 1) w4 w5 := (Oth.of_below (r := (w.heap.size + 1)) AA_w5)
      have sz_w5 : w2.heap.size < w5.heap.size := Nat.lt_of_lt_of_le sz_w4 OX_w5.size
      have zz_w5 : w4.heap.size ≤ w5.heap.size := OX_w5.size
      have PB_w5 : Hid (C2 w5 w2.heap.size (.slice la ls.length lc) (.slice sa (ln 3 T) sc)) := C2.oth PB_w4.out OX_w5 (by omega)
      have ZR_w5 : Hid (C3 w5 w.heap.size (.slice none 0 0) (.slice none 0 0) (.slice none 0 0)) := C3.frame ZR_w4.out (OX_w5.block w.heap.size (by omega) (by omega))
      have OT_w5 : Hid (Oth (w.heap.size + 1) w2 w5) := OT_w4.out.trans OX_w5
      have RD_w5 : Hid (Rd2 w5 (w.heap.size + 1) 50000) := Rd2.oth RD_w4.out AA_w5
      have HX_w5 : Hid _ := OX_w5
      clear OX_w5
      have BX : Hid (C3 w5 w4.heap.size (.slice none 0 0) (.slice none 0 0) (.slice none 0 0)) := GA_w5
      have bl_w5 : w4.heap.size < w5.heap.size := C3.lt GA_w5
      obtain ⟨bx, hbx⟩ : ∃ bx, w4.heap.size = bx := ⟨_, rfl⟩
      rw [hbx] at BX bl_w5 zz_w5 ⊢
      have bxr : w2.heap.size < bx := by omega
      have NR_w5 : Hid (GRep (Value.int .i64) w5 (.slice (some ad) zs.length nc) zs) := GRep.below AA_w5 NR_w4.out
      clear AA_w5 GA_w5
      refine hK.out _ _ PB_w5.out.1 (fun hHeld => ?_)
      clear hK K
      refine wpAnyH_ready (rs := [4]) (by kernel_rfl) (by simp) ?_
      refine AllReadyH.cons rfl (fun K hK => ?_) AllReadyH.nil
      go_simp
      have LR_w5 := KK.out w5 (fun b q1 q2 => OT_w5.out.block b q2 (by omega))
      have RU_w5 : Hid _ := sRunOf_any LR_w5.1 LR_w5.2 (by omega) NR_w5.out
      clear LR_w5
      refine Calls.mono RU_w5.out ?_
      rintro e' w6 ⟨ra, rb, rc, rfl, hbr, r5⟩
      have OX_w6 : Oth (w.heap.size + 1) w5 w6 := (Oth.of_below (r := (w.heap.size + 1)) hbr)
      have sz_w6 : w2.heap.size < w6.heap.size := Nat.lt_of_lt_of_le sz_w5 OX_w6.size
      have zz_w6 : w5.heap.size ≤ w6.heap.size := OX_w6.size
      have PB_w6 : Hid (C2 w6 w2.heap.size (.slice la ls.length lc) (.slice sa (ln 3 T) sc)) := C2.oth PB_w5.out OX_w6 (by omega)
      have ZR_w6 : Hid (C3 w6 w.heap.size (.slice none 0 0) (.slice none 0 0) (.slice none 0 0)) := C3.frame ZR_w5.out (OX_w6.block w.heap.size (by omega) (by omega))
      have OT_w6 : Hid (Oth (w.heap.size + 1) w2 w6) := OT_w5.out.trans OX_w6
      have RD_w6 : Hid (Rd2 w6 (w.heap.size + 1) 50000) := Rd2.oth RD_w5.out hbr
      have HX_w6 : Hid _ := OX_w6
      clear OX_w6
      have BX' : Hid (C3 w6 bx (.slice none 0 0) (.slice none 0 0) (.slice none 0 0)) := C3.below BX.out hbr
      clear BX
      have BX : Hid (C3 w6 bx (.slice none 0 0) (.slice none 0 0) (.slice none 0 0)) := BX'
      clear BX'
      have SV1 := runS_hosts ls 3 T zs
      have SL1 := runS_slen ls 3 T zs
      obtain ⟨s, hs⟩ : ∃ s, runS ls 3 T zs = s := ⟨_, rfl⟩
      rw [hs] at r5 SV1 SL1
      have HSV : Hid _ := SV1
      have HSL : Hid (s.ss.length ≤ 8) := SL1
      obtain ⟨a1, a2, rfl⟩ := rowg_slice r5.n
      obtain ⟨b1', b2', rfl⟩ := rowg_slice r5.ws
      obtain ⟨c1', c2', rfl⟩ := rowg_slice r5.ss
      have NBX : Hid (¬ (Value.ownBlock (.slice a1 s.n.length a2) = some bx ∨ Value.ownBlock (.slice b1' s.ws.length b2') = some bx ∨ Value.ownBlock (.slice c1' s.ss.length c2') = some bx)) := (show ¬ _ from fun e => by have := r5.own_ge e; omega)
      have r6 := r5.mono (B' := w2.heap.size + 1) (by omega)
      have HR3 : Hid _ := r6
      generalize numsB ls 3 T zs = nb at *
      clear hbr r5 r6 SV1 SL1 hs RU_w5
      refine hK.out _ _ PB_w6.out.1 (fun hHeld => ?_)
      clear hK K
      refine' wpAnyH_take (i := 5) (v := _) rfl (by kernel_rfl) (by kernel_rfl) (by kernel_rfl) (fun _ _ _ h => h) (Or.inl ⟨by rfl, ?hz22⟩) hHeld ?hm22
      case hz22 => (intro wz hSw; obtain ⟨j0, j1⟩ := hSw; go_simp; first | done | with_reducible rfl)
      try simp only [List.getElem_toArray, List.getElem_cons_zero, List.getElem_cons_succ, Act.put, List.setIfInBounds_toArray, List.set_cons_zero, List.set_cons_succ]
      refine' wpAnyH_take (i := 6) (v := _) rfl (by kernel_rfl) (by kernel_rfl) (by kernel_rfl) (fun _ _ _ h => h) (Or.inl ⟨by rfl, ?hz23⟩) hHeld ?hm23
      case hz23 => (intro wz hSw; obtain ⟨j0, j1⟩ := hSw; go_simp; first | done | with_reducible rfl)
      try simp only [List.getElem_toArray, List.getElem_cons_zero, List.getElem_cons_succ, Act.put, List.setIfInBounds_toArray, List.set_cons_zero, List.set_cons_succ]
      refine' wpAnyH_take (i := 7) (v := _) rfl (by kernel_rfl) (by kernel_rfl) (by kernel_rfl) (fun _ _ _ h => h) (Or.inl ⟨by rfl, ?hz24⟩) hHeld ?hm24
      case hz24 => (intro wz hSw; obtain ⟨j0, j1⟩ := hSw; go_simp; first | done | with_reducible rfl)
      try simp only [List.getElem_toArray, List.getElem_cons_zero, List.getElem_cons_succ, Act.put, List.setIfInBounds_toArray, List.set_cons_zero, List.set_cons_succ]
      refine wpAnyH_ready (rs := [9]) (by kernel_rfl) (by simp) ?_
      refine AllReadyH.cons rfl (fun K hK => ?_) AllReadyH.nil
      obtain ⟨⟨e0, e1, e2⟩, u0, u1, u2⟩ := BX.out
      go_simp
      have bxw : bx < w6.heap.size := C3.lt BX.out
      have OVx : Oth (w.heap.size + 1) w6 (((w6.setCell ⟨bx, 0, none⟩ (.slice a1 s.n.length a2)).setCell ⟨bx, 1, none⟩ (.slice b1' s.ws.length b2')).setCell ⟨bx, 2, none⟩ (.slice c1' s.ss.length c2')) → True := fun _ => trivial
      have WB : ∀ b, b ≠ bx → (((w6.setCell ⟨bx, 0, none⟩ (.slice a1 s.n.length a2)).setCell ⟨bx, 1, none⟩ (.slice b1' s.ws.length b2')).setCell ⟨bx, 2, none⟩ (.slice c1' s.ss.length c2')).heap[b]? = w6.heap[b]? := fun b hb => by rw [Below.heap_setCell _ _ _ _ hb, Below.heap_setCell _ _ _ _ hb, Below.heap_setCell _ _ _ _ hb]
      have WG : C3 (((w6.setCell ⟨bx, 0, none⟩ (.slice a1 s.n.length a2)).setCell ⟨bx, 1, none⟩ (.slice b1' s.ws.length b2')).setCell ⟨bx, 2, none⟩ (.slice c1' s.ss.length c2')) bx (.slice a1 s.n.length a2) (.slice b1' s.ws.length b2') (.slice c1' s.ss.length c2') := C3.set2 _ (C3.set1 _ (C3.set0 _ BX.out))
      have WS : (((w6.setCell ⟨bx, 0, none⟩ (.slice a1 s.n.length a2)).setCell ⟨bx, 1, none⟩ (.slice b1' s.ws.length b2')).setCell ⟨bx, 2, none⟩ (.slice c1' s.ss.length c2')).heap.size = w6.heap.size := by simp [World.setCell]
      have WR : R3 (w2.heap.size + 1) (((w6.setCell ⟨bx, 0, none⟩ (.slice a1 s.n.length a2)).setCell ⟨bx, 1, none⟩ (.slice b1' s.ws.length b2')).setCell ⟨bx, 2, none⟩ (.slice c1' s.ss.length c2')) (.slice a1 s.n.length a2) (.slice b1' s.ws.length b2') (.slice c1' s.ss.length c2') s := R3.frame HR3.out (fun b _ q => WB b (fun e => by subst e; exact NBX.out q))
      have WO : Oth (w.heap.size + 1) w2 (((w6.setCell ⟨bx, 0, none⟩ (.slice a1 s.n.length a2)).setCell ⟨bx, 1, none⟩ (.slice b1' s.ws.length b2')).setCell ⟨bx, 2, none⟩ (.slice c1' s.ss.length c2')) := ((OT_w6.out.new (by show w2.heap.size ≤ bx; omega) _).new (by show w2.heap.size ≤ bx; omega) _).new (by show w2.heap.size ≤ bx; omega) _
      generalize (((w6.setCell ⟨bx, 0, none⟩ (.slice a1 s.n.length a2)).setCell ⟨bx, 1, none⟩ (.slice b1' s.ws.length b2')).setCell ⟨bx, 2, none⟩ (.slice c1' s.ss.length c2')) = wv at *
      have PBv : Hid (C2 wv w2.heap.size (.slice la ls.length lc) (.slice sa (ln 3 T) sc)) := C2.same PB_w6.out (WB _ (by omega))
      have ZRv : Hid (C3 wv w.heap.size (.slice none 0 0) (.slice none 0 0) (.slice none 0 0)) := C3.frame ZR_w6.out (WB _ (by omega))
      have RDv : Hid (Rd2 wv (w.heap.size + 1) 50000) := Rd2.same RD_w6.out (fun b hb => WB b (by omega))
      have HGv : Hid _ := WG
      have HRv : Hid _ := WR
      have HOv : Hid _ := WO
      have szv : w2.heap.size < wv.heap.size := by omega
      have bxv : bx < wv.heap.size := by omega
      clear WB WG WS WR WO OVx e0 e1 e2 u0 u1 u2
      refine hK.out _ _ PBv.out.1 (fun hHeld => ?_)
      clear hK K
      refine' wpAnyH_take (i := 10) (v := _) rfl (by kernel_rfl) (by kernel_rfl) (by kernel_rfl) (fun _ _ _ h => h) (Or.inl ⟨by rfl, ?hz25⟩) hHeld ?hm25
      case hz25 => (intro wz hSw; obtain ⟨j0, j1⟩ := hSw; go_simp; first | done | with_reducible rfl)
      try simp only [List.getElem_toArray, List.getElem_cons_zero, List.getElem_cons_succ, Act.put, List.setIfInBounds_toArray, List.set_cons_zero, List.set_cons_succ]
      refine wpAnyH_done (by kernel_rfl) ?_ _
      clear hHeld
      have PKa : Hid _ := pick2 wv (w.heap.size + 1) _ 4 RDv.out (by omega) (by omega) (by omega)
      have NB1 : Hid (Value.ownBlock (.slice a1 s.n.length a2) ≠ some bx ∧ Value.ownBlock (.slice b1' s.ws.length b2') ≠ some bx) := (show _ ∧ _ from ⟨fun e => NBX.out (.inl e), fun e => NBX.out (.inr (.inl e))⟩)
      have NB2 : Hid (Value.ownBlock (.slice c1' s.ss.length c2') ≠ some bx) := (show Value.ownBlock (.slice c1' s.ss.length c2') ≠ some bx from fun e => NBX.out (.inr (.inr e)))
      go_wp2_with fail
      go_at_call 64; refine Calls.mono PKa.out ?_
      rintro e wp ⟨kp, rfl, kpl, kph, rdp, otp⟩
      obtain ⟨kn, rfl⟩ := Int.eq_ofNat_of_zero_le kpl
      have I1 : Hid (C3 wp bx (.slice a1 s.n.length a2) (.slice b1' s.ws.length b2') (.slice c1' s.ss.length c2')) := C3.frame HGv.out (otp.block bx bxv (by omega))
      have I2 : Hid (C3 wp w.heap.size (.slice none 0 0) (.slice none 0 0) (.slice none 0 0)) := C3.frame ZRv.out (otp.block _ (by omega) (by omega))
      have I3 : Hid (R3 (w2.heap.size + 1) wp (.slice a1 s.n.length a2) (.slice b1' s.ws.length b2') (.slice c1' s.ss.length c2') s) := R3.frame HRv.out (fun b hb q => otp.block b hb (fun e => by have := HRv.out.own_ge q; omega))
      have I4 : Hid (Oth (w.heap.size + 1) w2 wp) := HOv.out.trans otp
      have I5 : Hid (Rd2 wp (w.heap.size + 1) (50009 - 2 * kn)) := (show Rd2 _ _ _ from rdp.mono (by omega))
      have I6 : bx < wp.heap.size := by have := otp.size; omega
      have hkn : kn ≤ 3 := by omega
      clear rdp otp PKa
      go_wp2
      go_loopw [8] (fun j wr => ∃ (k : Nat) (t : List (Int × Int)) (va : Option Addr) (vc : Nat), k ≤ 3 ∧ j = .int .i64 k ∧ Rd2 wr (w.heap.size + 1) (50009 - 2 * k) ∧ Oth (w.heap.size + 1) w2 wr ∧ C3 wr bx (.slice a1 s.n.length a2) (.slice b1' s.ws.length b2') (.slice va t.length vc) ∧ C3 wr w.heap.size (.slice none 0 0) (.slice none 0 0) (.slice none 0 0) ∧ R3 (w2.heap.size + 1) wr (.slice a1 s.n.length a2) (.slice b1' s.ws.length b2') (.slice va t.length vc) ⟨s.n, s.ws, t⟩ ∧ Value.ownBlock (.slice va t.length vc) ≠ some bx ∧ (∀ x ∈ t, vIn 3 x.1 = true) ∧ t.length + k ≤ 1000 ∧ bx < wr.heap.size) (fun j _ => (intOf j).toNat)
      case atStart => exact ⟨kn, s.ss, c1', c2', hkn, rfl, I5.out, I4.out, I1.out, I2.out, I3.out, NB2.out, HSV.out, by have := HSL.out; omega, I6⟩
      case round =>
        obtain ⟨k, t, va, vc, hk3, rfl, hrd, hot, hg1, hz1', hr3, hcb, hth, htl, hbw⟩ := hrel
        have hsw : w2.heap.size ≤ wr.heap.size := hot.size
        have HTH : Hid _ := hth
        cases k with
        | succ k =>
          have kp0 : (0 : Int) < (k : Int) + 1 := by omega
          have BDr : Oth (w.heap.size + 1) wr wr.drew := (Oth.refl _ _).drew
          have F1_wr : Hid (C3 wr.drew bx (.slice a1 s.n.length a2) (.slice b1' s.ws.length b2') (.slice va t.length vc)) := hg1
          have F2_wr : Hid (C3 wr.drew w.heap.size (.slice none 0 0) (.slice none 0 0) (.slice none 0 0)) := hz1'
          have F3_wr : Hid (R3 (w2.heap.size + 1) wr.drew (.slice a1 s.n.length a2) (.slice b1' s.ws.length b2') (.slice va t.length vc) ⟨s.n, s.ws, t⟩) := R3.frame hr3 (fun b _ _ => rfl)
          have F4_wr : Hid (Oth (w.heap.size + 1) w2 wr.drew) := hot.drew
          have RD_wr : Hid (Rd2 wr.drew (w.heap.size + 1) (50009 - 2 * (k + 1))) := (show Rd2 _ _ _ from hrd.same (fun _ _ => rfl))
          have fb_wr : bx < wr.drew.heap.size := hbw
          have fz_wr : w2.heap.size ≤ wr.drew.heap.size := hsw
          have d2_wr : wr.drew.cell? ⟨bx, 2, none⟩ = some (.slice va t.length vc) := hg1.1.2.2
          clear hrd hot hg1 hz1' hr3 hth BDr
          go_wp2_with fail
          refine wp_region_held (S := fun _ => True) (by kernel_rfl) ?_
          change wpAnyH _ _ _ _ _ _ _ _ (World.drew _)
          generalize wr.drew = wq at *
          have F1_wq : Hid _ := F1_wr.out
          have F2_wq : Hid _ := F2_wr.out
          have F3_wq : Hid (R3 (w2.heap.size + 1) wq (.slice a1 s.n.length a2) (.slice b1' s.ws.length b2') (.slice va t.length vc) ⟨s.n, s.ws, t⟩) := F3_wr.out
          have F4_wq : Hid (Oth (w.heap.size + 1) w2 wq) := F4_wr.out
          have RD_wq : Hid (Rd2 wq (w.heap.size + 1) (50009 - 2 * (k + 1))) := RD_wr.out
          have fb_wq : bx < wq.heap.size := fb_wr
          have fz_wq : w2.heap.size ≤ wq.heap.size := fz_wr
          have d2_wq : wq.cell? ⟨bx, 2, none⟩ = some (.slice va t.length vc) := d2_wr
          clear F1_wr F2_wr F3_wr F4_wr RD_wr d2_wr
          refine' wpAnyH_take (i := 0) (v := _) rfl (by kernel_rfl) (by kernel_rfl) (by kernel_rfl) (fun _ _ _ h => h) (Or.inl ⟨by rfl, ?hz26⟩) trivial ?hm26
          case hz26 => (intro wz hSw; go_simp; first | done | with_reducible rfl)
          try simp only [List.getElem_toArray, List.getElem_cons_zero, List.getElem_cons_succ, Act.put, List.setIfInBounds_toArray, List.set_cons_zero, List.set_cons_succ]
          refine' wpAnyH_take (i := 2) (v := _) rfl (by kernel_rfl) (by kernel_rfl) (by kernel_rfl) (fun _ _ _ h => h) (Or.inl ⟨by rfl, ?hz27⟩) trivial ?hm27
          case hz27 => (intro wz hSw; go_simp; first | done | with_reducible rfl)
          try simp only [List.getElem_toArray, List.getElem_cons_zero, List.getElem_cons_succ, Act.put, List.setIfInBounds_toArray, List.set_cons_zero, List.set_cons_succ]
          refine' wpAnyH_take (i := 4) (v := _) rfl (by kernel_rfl) (by kernel_rfl) (by kernel_rfl) (fun _ _ _ h => h) (Or.inl ⟨by rfl, ?hz28⟩) trivial ?hm28
          case hz28 => (intro wz hSw; go_simp; first | done | with_reducible rfl)
          try simp only [List.getElem_toArray, List.getElem_cons_zero, List.getElem_cons_succ, Act.put, List.setIfInBounds_toArray, List.set_cons_zero, List.set_cons_succ]
          refine wpAnyH_ready (rs := [1, 3]) (by kernel_rfl) (by simp) ?_
          refine AllReadyH.cons rfl (fun K hK => ?_) (AllReadyH.cons rfl (fun K hK => ?_) AllReadyH.nil)
          · skip
            go_simp
            refine hK.out _ _ trivial (fun _ => ?_)
            clear hK K
            refine wpAnyH_ready (rs := [3]) (by kernel_rfl) (by simp) ?_
            refine AllReadyH.cons rfl (fun K hK => ?_) AllReadyH.nil
            go_simp
            have PK_x19 : Hid _ := pick2 wq (w.heap.size + 1) _ 3 RD_wq.out (by omega) (by omega) (by omega)
            refine Calls.mono PK_x19.out ?_
            rintro e' x19 ⟨h3, rfl, h3l, h3h, rdy, oty⟩
            have F1_x19 : Hid (C3 x19 bx (.slice a1 s.n.length a2) (.slice b1' s.ws.length b2') (.slice va t.length vc)) := C3.frame F1_wq.out (oty.block bx fb_wq (by omega))
            have F2_x19 : Hid (C3 x19 w.heap.size (.slice none 0 0) (.slice none 0 0) (.slice none 0 0)) := C3.frame F2_wq.out (oty.block w.heap.size (by omega) (by omega))
            have F3_x19 : Hid (R3 (w2.heap.size + 1) x19 (.slice a1 s.n.length a2) (.slice b1' s.ws.length b2') (.slice va t.length vc) ⟨s.n, s.ws, t⟩) := R3.frame F3_wq.out (fun b hb q => oty.block b hb (fun e => by have := F3_wq.out.own_ge q; omega))
            have F4_x19 : Hid (Oth (w.heap.size + 1) w2 x19) := F4_wq.out.trans oty
            have fz_x19 : wq.heap.size ≤ x19.heap.size := oty.size
            have fb_x19 : bx < x19.heap.size := by omega
            have d2_x19 : x19.cell? ⟨bx, 2, none⟩ = some (.slice va t.length vc) := F1_x19.out.1.2.2
            clear d2_wq
            have RD_x19 : Hid _ := rdy
            clear rdy oty PK_x19
            refine hK.out _ _ trivial (fun _ => ?_)
            clear hK K
            refine wpAnyH_ready (rs := [5]) (by kernel_rfl) (by simp) ?_
            refine AllReadyH.cons rfl (fun K hK => ?_) AllReadyH.nil
            go_simp
            have PK_x20 : Hid _ := pick2 x19 (w.heap.size + 1) _ 10 RD_x19.out (by omega) (by omega) (by omega)
            refine Calls.mono PK_x20.out ?_
            rintro e' x20 ⟨n5, rfl, n5l, n5h, rdy, oty⟩
            have F1_x20 : Hid (C3 x20 bx (.slice a1 s.n.length a2) (.slice b1' s.ws.length b2') (.slice va t.length vc)) := C3.frame F1_x19.out (oty.block bx fb_x19 (by omega))
            have F2_x20 : Hid (C3 x20 w.heap.size (.slice none 0 0) (.slice none 0 0) (.slice none 0 0)) := C3.frame F2_x19.out (oty.block w.heap.size (by omega) (by omega))
            have F3_x20 : Hid (R3 (w2.heap.size + 1) x20 (.slice a1 s.n.length a2) (.slice b1' s.ws.length b2') (.slice va t.length vc) ⟨s.n, s.ws, t⟩) := R3.frame F3_x19.out (fun b hb q => oty.block b hb (fun e => by have := F3_x19.out.own_ge q; omega))
            have F4_x20 : Hid (Oth (w.heap.size + 1) w2 x20) := F4_x19.out.trans oty
            have fz_x20 : x19.heap.size ≤ x20.heap.size := oty.size
            have fb_x20 : bx < x20.heap.size := by omega
            have d2_x20 : x20.cell? ⟨bx, 2, none⟩ = some (.slice va t.length vc) := F1_x20.out.1.2.2
            clear d2_x19
            have RD_x20 : Hid _ := rdy
            clear rdy oty PK_x20
            refine hK.out _ _ trivial (fun _ => ?_)
            clear hK K
            refine' wpAnyH_take (i := 6) (v := _) rfl (by kernel_rfl) (by kernel_rfl) (by kernel_rfl) (fun _ _ _ h => h) (Or.inl ⟨by rfl, ?hz29⟩) trivial ?hm29
            case hz29 => (intro wz hSw; go_simp; first | done | with_reducible rfl)
            try simp only [List.getElem_toArray, List.getElem_cons_zero, List.getElem_cons_succ, Act.put, List.setIfInBounds_toArray, List.set_cons_zero, List.set_cons_succ]
            refine wpAnyH_ready (rs := [7]) (by kernel_rfl) (by simp) ?_
            refine AllReadyH.cons rfl (fun K hK => ?_) AllReadyH.nil
            go_simp
            have AL_x21 : Below x20.heap.size x20 (x20.alloc (.cells #[.int .i64 h3, .int .i64 n5] 111)) := (Below.refl _ _).alloc (Nat.le_refl _) _
            have nw_x21 := cells_new2 x20 (.int .i64 h3) (.int .i64 n5) 111 _ rfl
            have nwh_x21 : Hid _ := nw_x21
            obtain ⟨nbx21, hnbx21⟩ : ∃ nb, x20.heap.size = nb := ⟨_, rfl⟩
            rw [hnbx21] at nwh_x21 ⊢
            clear nw_x21
            generalize hal_x21 : (x20.alloc (.cells #[.int .i64 h3, .int .i64 n5] 111)) = x21 at *
            clear hal_x21
            have ola : Oth (w.heap.size + 1) x20 x21 := Oth.of_below AL_x21
            have F1_x21 : Hid (C3 x21 bx (.slice a1 s.n.length a2) (.slice b1' s.ws.length b2') (.slice va t.length vc)) := C3.frame F1_x20.out (ola.block bx fb_x20 (by omega))
            have F2_x21 : Hid (C3 x21 w.heap.size (.slice none 0 0) (.slice none 0 0) (.slice none 0 0)) := C3.frame F2_x20.out (ola.block w.heap.size (by omega) (by omega))
            have F3_x21 : Hid (R3 (w2.heap.size + 1) x21 (.slice a1 s.n.length a2) (.slice b1' s.ws.length b2') (.slice va t.length vc) ⟨s.n, s.ws, t⟩) := R3.frame F3_x20.out (fun b hb q => ola.block b hb (fun e => by have := F3_x20.out.own_ge q; omega))
            have F4_x21 : Hid (Oth (w.heap.size + 1) w2 x21) := F4_x20.out.trans ola
            have fz_x21 : x20.heap.size ≤ x21.heap.size := ola.size
            have fb_x21 : bx < x21.heap.size := by omega
            have d2_x21 : x21.cell? ⟨bx, 2, none⟩ = some (.slice va t.length vc) := F1_x21.out.1.2.2
            clear d2_x20
            have RD_x21 : Hid _ := Rd2.oth RD_x20.out AL_x21
            clear AL_x21 ola
            refine hK.out _ _ trivial (fun _ => ?_)
            clear hK K
            refine wpAnyH_ready (rs := [8]) (by kernel_rfl) (by simp) ?_
            refine AllReadyH.cons rfl (fun K hK => ?_) AllReadyH.nil
            rw [if_pos (by rfl)]
            refine wp_append_at' _ _ _ 45 rfl (w2.heap.size + 1) 111 i1 _ 2 16 Try.underlying45 hj0 hy0 hy1 hy2 rfl (by decide) (.slice va t.length vc) t.length (pcells t) rfl F3_x21.out.ss ⟨nbx21, 0, none⟩ 1 1 [.int .i64 h3, .int .i64 n5] rfl rfl ?d1x22 ?d2x22 ?d3x22 ?d4x22 ?d5x22 ?_
            case d1x22 => exact nwh_x21.out
            case d2x22 => simp [Value.oneCell']
            case d3x22 => unfold maxLen; omega
            case d4x22 => omega
            case d5x22 => omega
            intro v8 w8 own8 grow8 nn8 at8
            have RT : R3 (w2.heap.size + 1) w8 (.slice a1 s.n.length a2) (.slice b1' s.ws.length b2') v8 ⟨s.n, s.ws, t ++ [(h3, n5)]⟩ := R3.tell (s := ⟨s.n, s.ws, t⟩) (a := (h3, n5)) F3_x21.out own8 grow8 at8
            have s8 : x21.heap.size ≤ w8.heap.size := grow8.size
            have blk : ∀ b, b < x21.heap.size → Value.ownBlock (.slice va t.length vc) ≠ some b → w8.heap[b]? = x21.heap[b]? := fun b hb hne => grow8.block b hb (fun q => hne q.symm)
            have nob : ∀ b, b < w2.heap.size + 1 → Value.ownBlock (.slice va t.length vc) ≠ some b := fun b hb e => by have := (World.ownsRow.lt F3_x21.out.ss b e).1; omega
            have G8 : C3 w8 bx (.slice a1 s.n.length a2) (.slice b1' s.ws.length b2') (.slice va t.length vc) := C3.frame F1_x21.out (blk bx fb_x21 hcb)
            have Z8 : C3 w8 w.heap.size (.slice none 0 0) (.slice none 0 0) (.slice none 0 0) := C3.frame F2_x21.out (blk _ (by omega) (nob _ (by omega)))
            have O8 : Oth (w.heap.size + 1) w2 w8 := F4_x21.out.grown grow8 (fun k hk => by have := (World.ownsRow.lt F3_x21.out.ss k hk).1; omega)
            have D8 : Rd2 w8 (w.heap.size + 1) (50009 - 2 * (k + 1) + 2) := Rd2.mono (Rd2.same RD_x21.out (fun b hb => blk b (by omega) (nob b (by omega)))) (by omega)
            have nb8 : v8.ownBlock ≠ some bx := by
              rcases at8 with e | e
              · rw [e]; exact hcb
              · rw [e]; intro q; have := Option.some.inj q; omega
            obtain ⟨va8, vc8, rfl⟩ := rowg_slice own8
            have HRT : Hid _ := RT
            have HG8 : Hid _ := G8
            have HZ8 : Hid _ := Z8
            have HO8 : Hid _ := O8
            have HD8 : Hid _ := D8
            have HN8 : Hid _ := nb8
            refine hK.out _ _ trivial (fun _ => ?_)
            clear hK K own8 grow8 nn8 at8 RT blk nob Z8 O8 D8 nb8 d2_x21
            refine' wpAnyH_take (i := 9) (v := _) rfl (by kernel_rfl) (by kernel_rfl) (by kernel_rfl) (fun _ _ _ h => h) (Or.inl ⟨by rfl, ?hz30⟩) trivial ?hm30
            case hz30 => (intro wz hSw; go_simp; first | done | with_reducible rfl)
            try simp only [List.getElem_toArray, List.getElem_cons_zero, List.getElem_cons_succ, Act.put, List.setIfInBounds_toArray, List.set_cons_zero, List.set_cons_succ]
            obtain ⟨⟨e0, e1, e2⟩, u0, u1, u2⟩ := G8
            refine wpAnyH_ready (rs := [10]) (by kernel_rfl) (by simp) ?_
            refine AllReadyH.cons rfl (fun K hK => ?_) AllReadyH.nil
            go_simp
            refine hK.out _ _ trivial (fun _ => ?_)
            clear hK K
            refine wpAnyH_done (by kernel_rfl) ?_ _
            have WB : ∀ b, b ≠ bx → (w8.setCell ⟨bx, 2, none⟩ (.slice va8 (t.length + 1) vc8)).heap[b]? = w8.heap[b]? := fun b hb => Below.heap_setCell _ _ _ _ hb
            have G9 : Hid (C3 (w8.setCell ⟨bx, 2, none⟩ (.slice va8 (t.length + 1) vc8)) bx (.slice a1 s.n.length a2) (.slice b1' s.ws.length b2') (.slice va8 (t.length + 1) vc8)) := C3.set2 _ HG8.out
            have Z9 : Hid (C3 (w8.setCell ⟨bx, 2, none⟩ (.slice va8 (t.length + 1) vc8)) w.heap.size (.slice none 0 0) (.slice none 0 0) (.slice none 0 0)) := C3.frame HZ8.out (WB _ (by omega))
            have O9 : Hid (Oth (w.heap.size + 1) w2 (w8.setCell ⟨bx, 2, none⟩ (.slice va8 (t.length + 1) vc8))) := HO8.out.new (by show w2.heap.size ≤ bx; omega) _
            have D9 : Hid (Rd2 (w8.setCell ⟨bx, 2, none⟩ (.slice va8 (t.length + 1) vc8)) (w.heap.size + 1) (50009 - 2 * k)) := Rd2.mono (Rd2.same HD8.out (fun b hb => WB b (by omega))) (by omega)
            have R9 : Hid (R3 (w2.heap.size + 1) (w8.setCell ⟨bx, 2, none⟩ (.slice va8 (t.length + 1) vc8)) (.slice a1 s.n.length a2) (.slice b1' s.ws.length b2') (.slice va8 (t.length + 1) vc8) ⟨s.n, s.ws, t ++ [(h3, n5)]⟩) := R3.far HRT.out _ _ NB1.out.1 NB1.out.2 HN8.out
            have B9 : bx < (w8.setCell ⟨bx, 2, none⟩ (.slice va8 (t.length + 1) vc8)).heap.size := by simp [World.setCell]; omega
            generalize w8.setCell ⟨bx, 2, none⟩ (.slice va8 (t.length + 1) vc8) = w9 at *
            clear WB e0 e1 e2 u0 u1 u2
            have v64 := w64 ((k : Int) + 1 - 1) (by omega)
            have e64 : (k : Int) + 1 - 1 = k := by omega
            go_wp2
            refine ⟨⟨k, t ++ [(h3, n5)], va8, vc8, by omega, by first | rfl | simp [e64], D9.out, O9.out, by simpa using G9.out, Z9.out, by simpa using R9.out, by simpa using HN8.out, ?_, by simp <;> omega, B9⟩, by simp [intOf] <;> omega⟩
            intro x hx
            rcases List.mem_append.1 hx with hx | hx
            · exact HTH.out x hx
            · obtain rfl : x = (h3, n5) := by simpa using hx
              simp [vIn]; omega
          · skip
            go_simp
            have PK_x23 : Hid _ := pick2 wq (w.heap.size + 1) _ 3 RD_wq.out (by omega) (by omega) (by omega)
            refine Calls.mono PK_x23.out ?_
            rintro e' x23 ⟨h3, rfl, h3l, h3h, rdy, oty⟩
            have F1_x23 : Hid (C3 x23 bx (.slice a1 s.n.length a2) (.slice b1' s.ws.length b2') (.slice va t.length vc)) := C3.frame F1_wq.out (oty.block bx fb_wq (by omega))
            have F2_x23 : Hid (C3 x23 w.heap.size (.slice none 0 0) (.slice none 0 0) (.slice none 0 0)) := C3.frame F2_wq.out (oty.block w.heap.size (by omega) (by omega))
            have F3_x23 : Hid (R3 (w2.heap.size + 1) x23 (.slice a1 s.n.length a2) (.slice b1' s.ws.length b2') (.slice va t.length vc) ⟨s.n, s.ws, t⟩) := R3.frame F3_wq.out (fun b hb q => oty.block b hb (fun e => by have := F3_wq.out.own_ge q; omega))
            have F4_x23 : Hid (Oth (w.heap.size + 1) w2 x23) := F4_wq.out.trans oty
            have fz_x23 : wq.heap.size ≤ x23.heap.size := oty.size
            have fb_x23 : bx < x23.heap.size := by omega
            have d2_x23 : x23.cell? ⟨bx, 2, none⟩ = some (.slice va t.length vc) := F1_x23.out.1.2.2
            clear d2_wq
            have RD_x23 : Hid _ := rdy
            clear rdy oty PK_x23
            refine hK.out _ _ trivial (fun _ => ?_)
            clear hK K
            refine wpAnyH_ready (rs := [1, 5]) (by kernel_rfl) (by simp) ?_
            refine AllReadyH.cons rfl (fun K hK => ?_) (AllReadyH.cons rfl (fun K hK => ?_) AllReadyH.nil)
            · skip
              go_simp
              refine hK.out _ _ trivial (fun _ => ?_)
              clear hK K
              refine wpAnyH_ready (rs := [5]) (by kernel_rfl) (by simp) ?_
              refine AllReadyH.cons rfl (fun K hK => ?_) AllReadyH.nil
              go_simp
              have PK_x25 : Hid _ := pick2 x23 (w.heap.size + 1) _ 10 RD_x23.out (by omega) (by omega) (by omega)
              refine Calls.mono PK_x25.out ?_
              rintro e' x25 ⟨n5, rfl, n5l, n5h, rdy, oty⟩
              have F1_x25 : Hid (C3 x25 bx (.slice a1 s.n.length a2) (.slice b1' s.ws.length b2') (.slice va t.length vc)) := C3.frame F1_x23.out (oty.block bx fb_x23 (by omega))
              have F2_x25 : Hid (C3 x25 w.heap.size (.slice none 0 0) (.slice none 0 0) (.slice none 0 0)) := C3.frame F2_x23.out (oty.block w.heap.size (by omega) (by omega))
              have F3_x25 : Hid (R3 (w2.heap.size + 1) x25 (.slice a1 s.n.length a2) (.slice b1' s.ws.length b2') (.slice va t.length vc) ⟨s.n, s.ws, t⟩) := R3.frame F3_x23.out (fun b hb q => oty.block b hb (fun e => by have := F3_x23.out.own_ge q; omega))
              have F4_x25 : Hid (Oth (w.heap.size + 1) w2 x25) := F4_x23.out.trans oty
              have fz_x25 : x23.heap.size ≤ x25.heap.size := oty.size
              have fb_x25 : bx < x25.heap.size := by omega
              have d2_x25 : x25.cell? ⟨bx, 2, none⟩ = some (.slice va t.length vc) := F1_x25.out.1.2.2
              clear d2_x23
              have RD_x25 : Hid _ := rdy
              clear rdy oty PK_x25
              refine hK.out _ _ trivial (fun _ => ?_)
              clear hK K
              refine' wpAnyH_take (i := 6) (v := _) rfl (by kernel_rfl) (by kernel_rfl) (by kernel_rfl) (fun _ _ _ h => h) (Or.inl ⟨by rfl, ?hz31⟩) trivial ?hm31
              case hz31 => (intro wz hSw; go_simp; first | done | with_reducible rfl)
              try simp only [List.getElem_toArray, List.getElem_cons_zero, List.getElem_cons_succ, Act.put, List.setIfInBounds_toArray, List.set_cons_zero, List.set_cons_succ]
              refine wpAnyH_ready (rs := [7]) (by kernel_rfl) (by simp) ?_
              refine AllReadyH.cons rfl (fun K hK => ?_) AllReadyH.nil
              go_simp
              have AL_x26 : Below x25.heap.size x25 (x25.alloc (.cells #[.int .i64 h3, .int .i64 n5] 111)) := (Below.refl _ _).alloc (Nat.le_refl _) _
              have nw_x26 := cells_new2 x25 (.int .i64 h3) (.int .i64 n5) 111 _ rfl
              have nwh_x26 : Hid _ := nw_x26
              obtain ⟨nbx26, hnbx26⟩ : ∃ nb, x25.heap.size = nb := ⟨_, rfl⟩
              rw [hnbx26] at nwh_x26 ⊢
              clear nw_x26
              generalize hal_x26 : (x25.alloc (.cells #[.int .i64 h3, .int .i64 n5] 111)) = x26 at *
              clear hal_x26
              have ola : Oth (w.heap.size + 1) x25 x26 := Oth.of_below AL_x26
              have F1_x26 : Hid (C3 x26 bx (.slice a1 s.n.length a2) (.slice b1' s.ws.length b2') (.slice va t.length vc)) := C3.frame F1_x25.out (ola.block bx fb_x25 (by omega))
              have F2_x26 : Hid (C3 x26 w.heap.size (.slice none 0 0) (.slice none 0 0) (.slice none 0 0)) := C3.frame F2_x25.out (ola.block w.heap.size (by omega) (by omega))
              have F3_x26 : Hid (R3 (w2.heap.size + 1) x26 (.slice a1 s.n.length a2) (.slice b1' s.ws.length b2') (.slice va t.length vc) ⟨s.n, s.ws, t⟩) := R3.frame F3_x25.out (fun b hb q => ola.block b hb (fun e => by have := F3_x25.out.own_ge q; omega))
              have F4_x26 : Hid (Oth (w.heap.size + 1) w2 x26) := F4_x25.out.trans ola
              have fz_x26 : x25.heap.size ≤ x26.heap.size := ola.size
              have fb_x26 : bx < x26.heap.size := by omega
              have d2_x26 : x26.cell? ⟨bx, 2, none⟩ = some (.slice va t.length vc) := F1_x26.out.1.2.2
              clear d2_x25
              have RD_x26 : Hid _ := Rd2.oth RD_x25.out AL_x26
              clear AL_x26 ola
              refine hK.out _ _ trivial (fun _ => ?_)
              clear hK K
              refine wpAnyH_ready (rs := [8]) (by kernel_rfl) (by simp) ?_
              refine AllReadyH.cons rfl (fun K hK => ?_) AllReadyH.nil
              rw [if_pos (by rfl)]
              refine wp_append_at' _ _ _ 45 rfl (w2.heap.size + 1) 111 i1 _ 2 16 Try.underlying45 hj0 hy0 hy1 hy2 rfl (by decide) (.slice va t.length vc) t.length (pcells t) rfl F3_x26.out.ss ⟨nbx26, 0, none⟩ 1 1 [.int .i64 h3, .int .i64 n5] rfl rfl ?d1x27 ?d2x27 ?d3x27 ?d4x27 ?d5x27 ?_
              case d1x27 => exact nwh_x26.out
              case d2x27 => simp [Value.oneCell']
              case d3x27 => unfold maxLen; omega
              case d4x27 => omega
              case d5x27 => omega
              intro v8 w8 own8 grow8 nn8 at8
              have RT : R3 (w2.heap.size + 1) w8 (.slice a1 s.n.length a2) (.slice b1' s.ws.length b2') v8 ⟨s.n, s.ws, t ++ [(h3, n5)]⟩ := R3.tell (s := ⟨s.n, s.ws, t⟩) (a := (h3, n5)) F3_x26.out own8 grow8 at8
              have s8 : x26.heap.size ≤ w8.heap.size := grow8.size
              have blk : ∀ b, b < x26.heap.size → Value.ownBlock (.slice va t.length vc) ≠ some b → w8.heap[b]? = x26.heap[b]? := fun b hb hne => grow8.block b hb (fun q => hne q.symm)
              have nob : ∀ b, b < w2.heap.size + 1 → Value.ownBlock (.slice va t.length vc) ≠ some b := fun b hb e => by have := (World.ownsRow.lt F3_x26.out.ss b e).1; omega
              have G8 : C3 w8 bx (.slice a1 s.n.length a2) (.slice b1' s.ws.length b2') (.slice va t.length vc) := C3.frame F1_x26.out (blk bx fb_x26 hcb)
              have Z8 : C3 w8 w.heap.size (.slice none 0 0) (.slice none 0 0) (.slice none 0 0) := C3.frame F2_x26.out (blk _ (by omega) (nob _ (by omega)))
              have O8 : Oth (w.heap.size + 1) w2 w8 := F4_x26.out.grown grow8 (fun k hk => by have := (World.ownsRow.lt F3_x26.out.ss k hk).1; omega)
              have D8 : Rd2 w8 (w.heap.size + 1) (50009 - 2 * (k + 1) + 2) := Rd2.mono (Rd2.same RD_x26.out (fun b hb => blk b (by omega) (nob b (by omega)))) (by omega)
              have nb8 : v8.ownBlock ≠ some bx := by
                rcases at8 with e | e
                · rw [e]; exact hcb
                · rw [e]; intro q; have := Option.some.inj q; omega
              obtain ⟨va8, vc8, rfl⟩ := rowg_slice own8
              have HRT : Hid _ := RT
              have HG8 : Hid _ := G8
              have HZ8 : Hid _ := Z8
              have HO8 : Hid _ := O8
              have HD8 : Hid _ := D8
              have HN8 : Hid _ := nb8
              refine hK.out _ _ trivial (fun _ => ?_)
              clear hK K own8 grow8 nn8 at8 RT blk nob Z8 O8 D8 nb8 d2_x26
              refine' wpAnyH_take (i := 9) (v := _) rfl (by kernel_rfl) (by kernel_rfl) (by kernel_rfl) (fun _ _ _ h => h) (Or.inl ⟨by rfl, ?hz32⟩) trivial ?hm32
              case hz32 => (intro wz hSw; go_simp; first | done | with_reducible rfl)
              try simp only [List.getElem_toArray, List.getElem_cons_zero, List.getElem_cons_succ, Act.put, List.setIfInBounds_toArray, List.set_cons_zero, List.set_cons_succ]
              obtain ⟨⟨e0, e1, e2⟩, u0, u1, u2⟩ := G8
              refine wpAnyH_ready (rs := [10]) (by kernel_rfl) (by simp) ?_
              refine AllReadyH.cons rfl (fun K hK => ?_) AllReadyH.nil
              go_simp
              refine hK.out _ _ trivial (fun _ => ?_)
              clear hK K
              refine wpAnyH_done (by kernel_rfl) ?_ _
              have WB : ∀ b, b ≠ bx → (w8.setCell ⟨bx, 2, none⟩ (.slice va8 (t.length + 1) vc8)).heap[b]? = w8.heap[b]? := fun b hb => Below.heap_setCell _ _ _ _ hb
              have G9 : Hid (C3 (w8.setCell ⟨bx, 2, none⟩ (.slice va8 (t.length + 1) vc8)) bx (.slice a1 s.n.length a2) (.slice b1' s.ws.length b2') (.slice va8 (t.length + 1) vc8)) := C3.set2 _ HG8.out
              have Z9 : Hid (C3 (w8.setCell ⟨bx, 2, none⟩ (.slice va8 (t.length + 1) vc8)) w.heap.size (.slice none 0 0) (.slice none 0 0) (.slice none 0 0)) := C3.frame HZ8.out (WB _ (by omega))
              have O9 : Hid (Oth (w.heap.size + 1) w2 (w8.setCell ⟨bx, 2, none⟩ (.slice va8 (t.length + 1) vc8))) := HO8.out.new (by show w2.heap.size ≤ bx; omega) _
              have D9 : Hid (Rd2 (w8.setCell ⟨bx, 2, none⟩ (.slice va8 (t.length + 1) vc8)) (w.heap.size + 1) (50009 - 2 * k)) := Rd2.mono (Rd2.same HD8.out (fun b hb => WB b (by omega))) (by omega)
              have R9 : Hid (R3 (w2.heap.size + 1) (w8.setCell ⟨bx, 2, none⟩ (.slice va8 (t.length + 1) vc8)) (.slice a1 s.n.length a2) (.slice b1' s.ws.length b2') (.slice va8 (t.length + 1) vc8) ⟨s.n, s.ws, t ++ [(h3, n5)]⟩) := R3.far HRT.out _ _ NB1.out.1 NB1.out.2 HN8.out
              have B9 : bx < (w8.setCell ⟨bx, 2, none⟩ (.slice va8 (t.length + 1) vc8)).heap.size := by simp [World.setCell]; omega
              generalize w8.setCell ⟨bx, 2, none⟩ (.slice va8 (t.length + 1) vc8) = w9 at *
              clear WB e0 e1 e2 u0 u1 u2
              have v64 := w64 ((k : Int) + 1 - 1) (by omega)
              have e64 : (k : Int) + 1 - 1 = k := by omega
              go_wp2
              refine ⟨⟨k, t ++ [(h3, n5)], va8, vc8, by omega, by first | rfl | simp [e64], D9.out, O9.out, by simpa using G9.out, Z9.out, by simpa using R9.out, by simpa using HN8.out, ?_, by simp <;> omega, B9⟩, by simp [intOf] <;> omega⟩
              intro x hx
              rcases List.mem_append.1 hx with hx | hx
              · exact HTH.out x hx
              · obtain rfl : x = (h3, n5) := by simpa using hx
                simp [vIn]; omega
            · skip
              go_simp
              have PK_x28 : Hid _ := pick2 x23 (w.heap.size + 1) _ 10 RD_x23.out (by omega) (by omega) (by omega)
              refine Calls.mono PK_x28.out ?_
              rintro e' x28 ⟨n5, rfl, n5l, n5h, rdy, oty⟩
              have F1_x28 : Hid (C3 x28 bx (.slice a1 s.n.length a2) (.slice b1' s.ws.length b2') (.slice va t.length vc)) := C3.frame F1_x23.out (oty.block bx fb_x23 (by omega))
              have F2_x28 : Hid (C3 x28 w.heap.size (.slice none 0 0) (.slice none 0 0) (.slice none 0 0)) := C3.frame F2_x23.out (oty.block w.heap.size (by omega) (by omega))
              have F3_x28 : Hid (R3 (w2.heap.size + 1) x28 (.slice a1 s.n.length a2) (.slice b1' s.ws.length b2') (.slice va t.length vc) ⟨s.n, s.ws, t⟩) := R3.frame F3_x23.out (fun b hb q => oty.block b hb (fun e => by have := F3_x23.out.own_ge q; omega))
              have F4_x28 : Hid (Oth (w.heap.size + 1) w2 x28) := F4_x23.out.trans oty
              have fz_x28 : x23.heap.size ≤ x28.heap.size := oty.size
              have fb_x28 : bx < x28.heap.size := by omega
              have d2_x28 : x28.cell? ⟨bx, 2, none⟩ = some (.slice va t.length vc) := F1_x28.out.1.2.2
              clear d2_x23
              have RD_x28 : Hid _ := rdy
              clear rdy oty PK_x28
              refine hK.out _ _ trivial (fun _ => ?_)
              clear hK K
              refine' wpAnyH_take (i := 6) (v := _) rfl (by kernel_rfl) (by kernel_rfl) (by kernel_rfl) (fun _ _ _ h => h) (Or.inl ⟨by rfl, ?hz33⟩) trivial ?hm33
              case hz33 => (intro wz hSw; go_simp; first | done | with_reducible rfl)
              try simp only [List.getElem_toArray, List.getElem_cons_zero, List.getElem_cons_succ, Act.put, List.setIfInBounds_toArray, List.set_cons_zero, List.set_cons_succ]
              refine wpAnyH_ready (rs := [1, 7]) (by kernel_rfl) (by simp) ?_
              refine AllReadyH.cons rfl (fun K hK => ?_) (AllReadyH.cons rfl (fun K hK => ?_) AllReadyH.nil)
              · skip
                go_simp
                refine hK.out _ _ trivial (fun _ => ?_)
                clear hK K
                refine wpAnyH_ready (rs := [7]) (by kernel_rfl) (by simp) ?_
                refine AllReadyH.cons rfl (fun K hK => ?_) AllReadyH.nil
                go_simp
                have AL_x30 : Below x28.heap.size x28 (x28.alloc (.cells #[.int .i64 h3, .int .i64 n5] 111)) := (Below.refl _ _).alloc (Nat.le_refl _) _
                have nw_x30 := cells_new2 x28 (.int .i64 h3) (.int .i64 n5) 111 _ rfl
                have nwh_x30 : Hid _ := nw_x30
                obtain ⟨nbx30, hnbx30⟩ : ∃ nb, x28.heap.size = nb := ⟨_, rfl⟩
                rw [hnbx30] at nwh_x30 ⊢
                clear nw_x30
                generalize hal_x30 : (x28.alloc (.cells #[.int .i64 h3, .int .i64 n5] 111)) = x30 at *
                clear hal_x30
                have ola : Oth (w.heap.size + 1) x28 x30 := Oth.of_below AL_x30
                have F1_x30 : Hid (C3 x30 bx (.slice a1 s.n.length a2) (.slice b1' s.ws.length b2') (.slice va t.length vc)) := C3.frame F1_x28.out (ola.block bx fb_x28 (by omega))
                have F2_x30 : Hid (C3 x30 w.heap.size (.slice none 0 0) (.slice none 0 0) (.slice none 0 0)) := C3.frame F2_x28.out (ola.block w.heap.size (by omega) (by omega))
                have F3_x30 : Hid (R3 (w2.heap.size + 1) x30 (.slice a1 s.n.length a2) (.slice b1' s.ws.length b2') (.slice va t.length vc) ⟨s.n, s.ws, t⟩) := R3.frame F3_x28.out (fun b hb q => ola.block b hb (fun e => by have := F3_x28.out.own_ge q; omega))
                have F4_x30 : Hid (Oth (w.heap.size + 1) w2 x30) := F4_x28.out.trans ola
                have fz_x30 : x28.heap.size ≤ x30.heap.size := ola.size
                have fb_x30 : bx < x30.heap.size := by omega
                have d2_x30 : x30.cell? ⟨bx, 2, none⟩ = some (.slice va t.length vc) := F1_x30.out.1.2.2
                clear d2_x28
                have RD_x30 : Hid _ := Rd2.oth RD_x28.out AL_x30
                clear AL_x30 ola
                refine hK.out _ _ trivial (fun _ => ?_)
                clear hK K
                refine wpAnyH_ready (rs := [8]) (by kernel_rfl) (by simp) ?_
                refine AllReadyH.cons rfl (fun K hK => ?_) AllReadyH.nil
                rw [if_pos (by rfl)]
                refine wp_append_at' _ _ _ 45 rfl (w2.heap.size + 1) 111 i1 _ 2 16 Try.underlying45 hj0 hy0 hy1 hy2 rfl (by decide) (.slice va t.length vc) t.length (pcells t) rfl F3_x30.out.ss ⟨nbx30, 0, none⟩ 1 1 [.int .i64 h3, .int .i64 n5] rfl rfl ?d1x31 ?d2x31 ?d3x31 ?d4x31 ?d5x31 ?_
                case d1x31 => exact nwh_x30.out
                case d2x31 => simp [Value.oneCell']
                case d3x31 => unfold maxLen; omega
                case d4x31 => omega
                case d5x31 => omega
                intro v8 w8 own8 grow8 nn8 at8
                have RT : R3 (w2.heap.size + 1) w8 (.slice a1 s.n.length a2) (.slice b1' s.ws.length b2') v8 ⟨s.n, s.ws, t ++ [(h3, n5)]⟩ := R3.tell (s := ⟨s.n, s.ws, t⟩) (a := (h3, n5)) F3_x30.out own8 grow8 at8
                have s8 : x30.heap.size ≤ w8.heap.size := grow8.size
                have blk : ∀ b, b < x30.heap.size → Value.ownBlock (.slice va t.length vc) ≠ some b → w8.heap[b]? = x30.heap[b]? := fun b hb hne => grow8.block b hb (fun q => hne q.symm)
                have nob : ∀ b, b < w2.heap.size + 1 → Value.ownBlock (.slice va t.length vc) ≠ some b := fun b hb e => by have := (World.ownsRow.lt F3_x30.out.ss b e).1; omega
                have G8 : C3 w8 bx (.slice a1 s.n.length a2) (.slice b1' s.ws.length b2') (.slice va t.length vc) := C3.frame F1_x30.out (blk bx fb_x30 hcb)
                have Z8 : C3 w8 w.heap.size (.slice none 0 0) (.slice none 0 0) (.slice none 0 0) := C3.frame F2_x30.out (blk _ (by omega) (nob _ (by omega)))
                have O8 : Oth (w.heap.size + 1) w2 w8 := F4_x30.out.grown grow8 (fun k hk => by have := (World.ownsRow.lt F3_x30.out.ss k hk).1; omega)
                have D8 : Rd2 w8 (w.heap.size + 1) (50009 - 2 * (k + 1) + 2) := Rd2.mono (Rd2.same RD_x30.out (fun b hb => blk b (by omega) (nob b (by omega)))) (by omega)
                have nb8 : v8.ownBlock ≠ some bx := by
                  rcases at8 with e | e
                  · rw [e]; exact hcb
                  · rw [e]; intro q; have := Option.some.inj q; omega
                obtain ⟨va8, vc8, rfl⟩ := rowg_slice own8
                have HRT : Hid _ := RT
                have HG8 : Hid _ := G8
                have HZ8 : Hid _ := Z8
                have HO8 : Hid _ := O8
                have HD8 : Hid _ := D8
                have HN8 : Hid _ := nb8
                refine hK.out _ _ trivial (fun _ => ?_)
                clear hK K own8 grow8 nn8 at8 RT blk nob Z8 O8 D8 nb8 d2_x30
                refine' wpAnyH_take (i := 9) (v := _) rfl (by kernel_rfl) (by kernel_rfl) (by kernel_rfl) (fun _ _ _ h => h) (Or.inl ⟨by rfl, ?hz34⟩) trivial ?hm34
                case hz34 => (intro wz hSw; go_simp; first | done | with_reducible rfl)
                try simp only [List.getElem_toArray, List.getElem_cons_zero, List.getElem_cons_succ, Act.put, List.setIfInBounds_toArray, List.set_cons_zero, List.set_cons_succ]
                obtain ⟨⟨e0, e1, e2⟩, u0, u1, u2⟩ := G8
                refine wpAnyH_ready (rs := [10]) (by kernel_rfl) (by simp) ?_
                refine AllReadyH.cons rfl (fun K hK => ?_) AllReadyH.nil
                go_simp
                refine hK.out _ _ trivial (fun _ => ?_)
                clear hK K
                refine wpAnyH_done (by kernel_rfl) ?_ _
                have WB : ∀ b, b ≠ bx → (w8.setCell ⟨bx, 2, none⟩ (.slice va8 (t.length + 1) vc8)).heap[b]? = w8.heap[b]? := fun b hb => Below.heap_setCell _ _ _ _ hb
                have G9 : Hid (C3 (w8.setCell ⟨bx, 2, none⟩ (.slice va8 (t.length + 1) vc8)) bx (.slice a1 s.n.length a2) (.slice b1' s.ws.length b2') (.slice va8 (t.length + 1) vc8)) := C3.set2 _ HG8.out
                have Z9 : Hid (C3 (w8.setCell ⟨bx, 2, none⟩ (.slice va8 (t.length + 1) vc8)) w.heap.size (.slice none 0 0) (.slice none 0 0) (.slice none 0 0)) := C3.frame HZ8.out (WB _ (by omega))
                have O9 : Hid (Oth (w.heap.size + 1) w2 (w8.setCell ⟨bx, 2, none⟩ (.slice va8 (t.length + 1) vc8))) := HO8.out.new (by show w2.heap.size ≤ bx; omega) _
                have D9 : Hid (Rd2 (w8.setCell ⟨bx, 2, none⟩ (.slice va8 (t.length + 1) vc8)) (w.heap.size + 1) (50009 - 2 * k)) := Rd2.mono (Rd2.same HD8.out (fun b hb => WB b (by omega))) (by omega)
                have R9 : Hid (R3 (w2.heap.size + 1) (w8.setCell ⟨bx, 2, none⟩ (.slice va8 (t.length + 1) vc8)) (.slice a1 s.n.length a2) (.slice b1' s.ws.length b2') (.slice va8 (t.length + 1) vc8) ⟨s.n, s.ws, t ++ [(h3, n5)]⟩) := R3.far HRT.out _ _ NB1.out.1 NB1.out.2 HN8.out
                have B9 : bx < (w8.setCell ⟨bx, 2, none⟩ (.slice va8 (t.length + 1) vc8)).heap.size := by simp [World.setCell]; omega
                generalize w8.setCell ⟨bx, 2, none⟩ (.slice va8 (t.length + 1) vc8) = w9 at *
                clear WB e0 e1 e2 u0 u1 u2
                have v64 := w64 ((k : Int) + 1 - 1) (by omega)
                have e64 : (k : Int) + 1 - 1 = k := by omega
                go_wp2
                refine ⟨⟨k, t ++ [(h3, n5)], va8, vc8, by omega, by first | rfl | simp [e64], D9.out, O9.out, by simpa using G9.out, Z9.out, by simpa using R9.out, by simpa using HN8.out, ?_, by simp <;> omega, B9⟩, by simp [intOf] <;> omega⟩
                intro x hx
                rcases List.mem_append.1 hx with hx | hx
                · exact HTH.out x hx
                · obtain rfl : x = (h3, n5) := by simpa using hx
                  simp [vIn]; omega
              · skip
                go_simp
                have AL_x32 : Below x28.heap.size x28 (x28.alloc (.cells #[.int .i64 h3, .int .i64 n5] 111)) := (Below.refl _ _).alloc (Nat.le_refl _) _
                have nw_x32 := cells_new2 x28 (.int .i64 h3) (.int .i64 n5) 111 _ rfl
                have nwh_x32 : Hid _ := nw_x32
                obtain ⟨nbx32, hnbx32⟩ : ∃ nb, x28.heap.size = nb := ⟨_, rfl⟩
                rw [hnbx32] at nwh_x32 ⊢
                clear nw_x32
                generalize hal_x32 : (x28.alloc (.cells #[.int .i64 h3, .int .i64 n5] 111)) = x32 at *
                clear hal_x32
                have ola : Oth (w.heap.size + 1) x28 x32 := Oth.of_below AL_x32
                have F1_x32 : Hid (C3 x32 bx (.slice a1 s.n.length a2) (.slice b1' s.ws.length b2') (.slice va t.length vc)) := C3.frame F1_x28.out (ola.block bx fb_x28 (by omega))
                have F2_x32 : Hid (C3 x32 w.heap.size (.slice none 0 0) (.slice none 0 0) (.slice none 0 0)) := C3.frame F2_x28.out (ola.block w.heap.size (by omega) (by omega))
                have F3_x32 : Hid (R3 (w2.heap.size + 1) x32 (.slice a1 s.n.length a2) (.slice b1' s.ws.length b2') (.slice va t.length vc) ⟨s.n, s.ws, t⟩) := R3.frame F3_x28.out (fun b hb q => ola.block b hb (fun e => by have := F3_x28.out.own_ge q; omega))
                have F4_x32 : Hid (Oth (w.heap.size + 1) w2 x32) := F4_x28.out.trans ola
                have fz_x32 : x28.heap.size ≤ x32.heap.size := ola.size
                have fb_x32 : bx < x32.heap.size := by omega
                have d2_x32 : x32.cell? ⟨bx, 2, none⟩ = some (.slice va t.length vc) := F1_x32.out.1.2.2
                clear d2_x28
                have RD_x32 : Hid _ := Rd2.oth RD_x28.out AL_x32
                clear AL_x32 ola
                refine hK.out _ _ trivial (fun _ => ?_)
                clear hK K
                refine wpAnyH_ready (rs := [1]) (by kernel_rfl) (by simp) ?_
                refine AllReadyH.cons rfl (fun K hK => ?_) AllReadyH.nil
                go_simp
                refine hK.out _ _ trivial (fun _ => ?_)
                clear hK K
                refine wpAnyH_ready (rs := [8]) (by kernel_rfl) (by simp) ?_
                refine AllReadyH.cons rfl (fun K hK => ?_) AllReadyH.nil
                rw [if_pos (by rfl)]
                refine wp_append_at' _ _ _ 45 rfl (w2.heap.size + 1) 111 i1 _ 2 16 Try.underlying45 hj0 hy0 hy1 hy2 rfl (by decide) (.slice va t.length vc) t.length (pcells t) rfl F3_x32.out.ss ⟨nbx32, 0, none⟩ 1 1 [.int .i64 h3, .int .i64 n5] rfl rfl ?d1x34 ?d2x34 ?d3x34 ?d4x34 ?d5x34 ?_
                case d1x34 => exact nwh_x32.out
                case d2x34 => simp [Value.oneCell']
                case d3x34 => unfold maxLen; omega
                case d4x34 => omega
                case d5x34 => omega
                intro v8 w8 own8 grow8 nn8 at8
                have RT : R3 (w2.heap.size + 1) w8 (.slice a1 s.n.length a2) (.slice b1' s.ws.length b2') v8 ⟨s.n, s.ws, t ++ [(h3, n5)]⟩ := R3.tell (s := ⟨s.n, s.ws, t⟩) (a := (h3, n5)) F3_x32.out own8 grow8 at8
                have s8 : x32.heap.size ≤ w8.heap.size := grow8.size
                have blk : ∀ b, b < x32.heap.size → Value.ownBlock (.slice va t.length vc) ≠ some b → w8.heap[b]? = x32.heap[b]? := fun b hb hne => grow8.block b hb (fun q => hne q.symm)
                have nob : ∀ b, b < w2.heap.size + 1 → Value.ownBlock (.slice va t.length vc) ≠ some b := fun b hb e => by have := (World.ownsRow.lt F3_x32.out.ss b e).1; omega
                have G8 : C3 w8 bx (.slice a1 s.n.length a2) (.slice b1' s.ws.length b2') (.slice va t.length vc) := C3.frame F1_x32.out (blk bx fb_x32 hcb)
                have Z8 : C3 w8 w.heap.size (.slice none 0 0) (.slice none 0 0) (.slice none 0 0) := C3.frame F2_x32.out (blk _ (by omega) (nob _ (by omega)))
                have O8 : Oth (w.heap.size + 1) w2 w8 := F4_x32.out.grown grow8 (fun k hk => by have := (World.ownsRow.lt F3_x32.out.ss k hk).1; omega)
                have D8 : Rd2 w8 (w.heap.size + 1) (50009 - 2 * (k + 1) + 2) := Rd2.mono (Rd2.same RD_x32.out (fun b hb => blk b (by omega) (nob b (by omega)))) (by omega)
                have nb8 : v8.ownBlock ≠ some bx := by
                  rcases at8 with e | e
                  · rw [e]; exact hcb
                  · rw [e]; intro q; have := Option.some.inj q; omega
                obtain ⟨va8, vc8, rfl⟩ := rowg_slice own8
                have HRT : Hid _ := RT
                have HG8 : Hid _ := G8
                have HZ8 : Hid _ := Z8
                have HO8 : Hid _ := O8
                have HD8 : Hid _ := D8
                have HN8 : Hid _ := nb8
                refine hK.out _ _ trivial (fun _ => ?_)
                clear hK K own8 grow8 nn8 at8 RT blk nob Z8 O8 D8 nb8 d2_x32
                refine' wpAnyH_take (i := 9) (v := _) rfl (by kernel_rfl) (by kernel_rfl) (by kernel_rfl) (fun _ _ _ h => h) (Or.inl ⟨by rfl, ?hz35⟩) trivial ?hm35
                case hz35 => (intro wz hSw; go_simp; first | done | with_reducible rfl)
                try simp only [List.getElem_toArray, List.getElem_cons_zero, List.getElem_cons_succ, Act.put, List.setIfInBounds_toArray, List.set_cons_zero, List.set_cons_succ]
                obtain ⟨⟨e0, e1, e2⟩, u0, u1, u2⟩ := G8
                refine wpAnyH_ready (rs := [10]) (by kernel_rfl) (by simp) ?_
                refine AllReadyH.cons rfl (fun K hK => ?_) AllReadyH.nil
                go_simp
                refine hK.out _ _ trivial (fun _ => ?_)
                clear hK K
                refine wpAnyH_done (by kernel_rfl) ?_ _
                have WB : ∀ b, b ≠ bx → (w8.setCell ⟨bx, 2, none⟩ (.slice va8 (t.length + 1) vc8)).heap[b]? = w8.heap[b]? := fun b hb => Below.heap_setCell _ _ _ _ hb
                have G9 : Hid (C3 (w8.setCell ⟨bx, 2, none⟩ (.slice va8 (t.length + 1) vc8)) bx (.slice a1 s.n.length a2) (.slice b1' s.ws.length b2') (.slice va8 (t.length + 1) vc8)) := C3.set2 _ HG8.out
                have Z9 : Hid (C3 (w8.setCell ⟨bx, 2, none⟩ (.slice va8 (t.length + 1) vc8)) w.heap.size (.slice none 0 0) (.slice none 0 0) (.slice none 0 0)) := C3.frame HZ8.out (WB _ (by omega))
                have O9 : Hid (Oth (w.heap.size + 1) w2 (w8.setCell ⟨bx, 2, none⟩ (.slice va8 (t.length + 1) vc8))) := HO8.out.new (by show w2.heap.size ≤ bx; omega) _
                have D9 : Hid (Rd2 (w8.setCell ⟨bx, 2, none⟩ (.slice va8 (t.length + 1) vc8)) (w.heap.size + 1) (50009 - 2 * k)) := Rd2.mono (Rd2.same HD8.out (fun b hb => WB b (by omega))) (by omega)
                have R9 : Hid (R3 (w2.heap.size + 1) (w8.setCell ⟨bx, 2, none⟩ (.slice va8 (t.length + 1) vc8)) (.slice a1 s.n.length a2) (.slice b1' s.ws.length b2') (.slice va8 (t.length + 1) vc8) ⟨s.n, s.ws, t ++ [(h3, n5)]⟩) := R3.far HRT.out _ _ NB1.out.1 NB1.out.2 HN8.out
                have B9 : bx < (w8.setCell ⟨bx, 2, none⟩ (.slice va8 (t.length + 1) vc8)).heap.size := by simp [World.setCell]; omega
                generalize w8.setCell ⟨bx, 2, none⟩ (.slice va8 (t.length + 1) vc8) = w9 at *
                clear WB e0 e1 e2 u0 u1 u2
                have v64 := w64 ((k : Int) + 1 - 1) (by omega)
                have e64 : (k : Int) + 1 - 1 = k := by omega
                go_wp2
                refine ⟨⟨k, t ++ [(h3, n5)], va8, vc8, by omega, by first | rfl | simp [e64], D9.out, O9.out, by simpa using G9.out, Z9.out, by simpa using R9.out, by simpa using HN8.out, ?_, by simp <;> omega, B9⟩, by simp [intOf] <;> omega⟩
                intro x hx
                rcases List.mem_append.1 hx with hx | hx
                · exact HTH.out x hx
                · obtain rfl : x = (h3, n5) := by simpa using hx
                  simp [vIn]; omega
        | zero =>
          have HG1 : Hid (C3 wr bx (.slice a1 s.n.length a2) (.slice b1' s.ws.length b2') (.slice va t.length vc)) := hg1
          have HZ1 : Hid (C3 wr w.heap.size (.slice none 0 0) (.slice none 0 0) (.slice none 0 0)) := hz1'
          have HR3' : Hid (R3 (w2.heap.size + 1) wr (.slice a1 s.n.length a2) (.slice b1' s.ws.length b2') (.slice va t.length vc) ⟨s.n, s.ws, t⟩) := hr3
          have HOT : Hid (Oth (w.heap.size + 1) w2 wr) := hot
          have PK5 : Hid _ := pick2 wr.drew (w.heap.size + 1) _ 5 (hrd.same (fun _ _ => rfl)) (by omega) (by omega) (by omega)
          clear hrd hot hg1 hz1' hr3 hth
          go_wp2_with fail
          refine wp_region_held (S := (fun wz => wz.cell? ⟨bx, 0, none⟩ = some (.slice a1 s.n.length a2) ∧ wz.cell? ⟨bx, 1, none⟩ = some (.slice b1' s.ws.length b2') ∧ wz.cell? ⟨bx, 2, none⟩ = some (.slice va t.length vc))) (by kernel_rfl) ?_
          change wpAnyH _ _ _ _ _ _ _ _ (World.drew _)
          have hHeld : wr.drew.cell? ⟨bx, 0, none⟩ = some (.slice a1 s.n.length a2) ∧ wr.drew.cell? ⟨bx, 1, none⟩ = some (.slice b1' s.ws.length b2') ∧ wr.drew.cell? ⟨bx, 2, none⟩ = some (.slice va t.length vc) := HG1.out.1
          refine' wpAnyH_take (i := 0) (v := .agg #[.slice a1 s.n.length a2, .slice b1' s.ws.length b2', .slice va t.length vc]) rfl (by kernel_rfl) (by kernel_rfl) (by kernel_rfl) (fun _ _ _ h => h) (Or.inl ⟨by rfl, ?hz36⟩) hHeld ?hm36
          case hz36 => (intro wz hSw; obtain ⟨j0, j1, j2⟩ := hSw; go_simp)
          try simp only [List.getElem_toArray, List.getElem_cons_zero, List.getElem_cons_succ, Act.put, List.setIfInBounds_toArray, List.set_cons_zero, List.set_cons_succ]
          refine' wpAnyH_take (i := 1) (v := _) rfl (by kernel_rfl) (by kernel_rfl) (by kernel_rfl) (fun _ _ _ h => h) (Or.inl ⟨by rfl, ?hz37⟩) hHeld ?hm37
          case hz37 => (intro wz hSw; obtain ⟨j0, j1, j2⟩ := hSw; go_simp; first | done | with_reducible rfl)
          try simp only [List.getElem_toArray, List.getElem_cons_zero, List.getElem_cons_succ, Act.put, List.setIfInBounds_toArray, List.set_cons_zero, List.set_cons_succ]
          refine wpAnyH_ready (rs := [2]) (by kernel_rfl) (by simp) ?_
          refine AllReadyH.cons rfl (fun K hK => ?_) AllReadyH.nil
          go_simp
          refine Calls.mono PK5.out ?_
          rintro e' w7 ⟨h5, rfl, h5l, h5h, rd7, ot7⟩
          have G7 : C3 w7 bx (.slice a1 s.n.length a2) (.slice b1' s.ws.length b2') (.slice va t.length vc) := C3.frame HG1.out (ot7.block bx hbw (by omega))
          have Z7 : C3 w7 w.heap.size (.slice none 0 0) (.slice none 0 0) (.slice none 0 0) := C3.frame HZ1.out (ot7.block w.heap.size (by show w.heap.size < wr.heap.size; omega) (by omega))
          have R7 : Hid (R3 (w2.heap.size + 1) w7 (.slice a1 s.n.length a2) (.slice b1' s.ws.length b2') (.slice va t.length vc) ⟨s.n, s.ws, t⟩) := R3.frame HR3'.out (fun b hb q => ot7.block b hb (fun e => by have := HR3'.out.own_ge q; omega))
          have O7 : Hid (Oth (w.heap.size + 1) w2 w7) := (HOT.out.drew).trans ot7
          have HZ7 : Hid _ := Z7
          have z7 : wr.heap.size ≤ w7.heap.size := ot7.size
          refine hK.out _ _ G7.1 (fun hHeld => ?_)
          clear hK K rd7 ot7 PK5
          have v5 := w64 (h5 - 1) (by omega)
          refine' wpAnyH_take (i := 3) (v := _) rfl (by kernel_rfl) (by kernel_rfl) (by kernel_rfl) (fun _ _ _ h => h) (Or.inl ⟨by rfl, ?hz38⟩) hHeld ?hm38
          case hz38 => (intro wz hSw; obtain ⟨j0, j1, j2⟩ := hSw; go_simp; first | done | with_reducible rfl)
          try simp only [List.getElem_toArray, List.getElem_cons_zero, List.getElem_cons_succ, Act.put, List.setIfInBounds_toArray, List.set_cons_zero, List.set_cons_succ]
          obtain ⟨⟨e0, e1, e2⟩, u0, u1, u2⟩ := Z7
          refine wpAnyH_ready (rs := [4]) (by kernel_rfl) (by simp) ?_
          refine AllReadyH.cons rfl (fun K hK => ?_) AllReadyH.nil
          go_simp
          have nbw : ¬ bx = w.heap.size := by omega
          refine hK.out _ _ ⟨(World.cell?_setCell_other _ _ _ _ (by simp <;> omega)).trans ((World.cell?_setCell_other _ _ _ _ (by simp <;> omega)).trans ((World.cell?_setCell_other _ _ _ _ (by simp <;> omega)).trans hHeld.1)), (World.cell?_setCell_other _ _ _ _ (by simp <;> omega)).trans ((World.cell?_setCell_other _ _ _ _ (by simp <;> omega)).trans ((World.cell?_setCell_other _ _ _ _ (by simp <;> omega)).trans hHeld.2.1)), (World.cell?_setCell_other _ _ _ _ (by simp <;> omega)).trans ((World.cell?_setCell_other _ _ _ _ (by simp <;> omega)).trans ((World.cell?_setCell_other _ _ _ _ (by simp <;> omega)).trans hHeld.2.2))⟩ (fun hHeld => ?_)
          clear hK K
          refine' wpAnyH_take (i := 5) (v := _) rfl (by kernel_rfl) (by kernel_rfl) (by kernel_rfl) (fun _ _ _ h => h) (Or.inl ⟨by rfl, ?hz39⟩) hHeld ?hm39
          case hz39 => (intro wz hSw; obtain ⟨j0, j1, j2⟩ := hSw; go_simp; first | done | with_reducible rfl)
          try simp only [List.getElem_toArray, List.getElem_cons_zero, List.getElem_cons_succ, Act.put, List.setIfInBounds_toArray, List.set_cons_zero, List.set_cons_succ]
          refine wpAnyH_done (by kernel_rfl) ?_ _
          clear hHeld e0 e1 e2 u0 u1 u2
          go_wp2
          have GF := C3.set2 (.slice va t.length vc) (C3.set1 (.slice b1' s.ws.length b2') (C3.set0 (.slice a1 s.n.length a2) HZ7.out))
          obtain ⟨⟨r0, r1, r2⟩, -⟩ := GF
          have WBf : ∀ b, b ≠ w.heap.size → (((w7.setCell ⟨w.heap.size, 0, none⟩ (.slice a1 s.n.length a2)).setCell ⟨w.heap.size, 1, none⟩ (.slice b1' s.ws.length b2')).setCell ⟨w.heap.size, 2, none⟩ (.slice va t.length vc)).heap[b]? = w7.heap[b]? := fun b hb => by rw [Below.heap_setCell _ _ _ _ hb, Below.heap_setCell _ _ _ _ hb, Below.heap_setCell _ _ _ _ hb]
          refine bodyPost_ret (v := .tuple #[.agg #[.slice a1 s.n.length a2, .slice b1' s.ws.length b2', .slice va t.length vc], .int .i64 (h5 - 1)]) (by simp [results, Try.results36, go_sem, r0, r1, r2]) rfl ⟨_, _, _, ⟨s.n, s.ws, t⟩, _, rfl, ?_, ?_, HTH.out, by show t.length ≤ _; omega⟩
          · exact (((HB1.out.trans ((HO2.out.trans O7.out).below (B := w.heap.size) (by omega) (by omega))).setCell (Nat.le_refl _) _).setCell (Nat.le_refl _) _).setCell (Nat.le_refl _) _
          · exact R3.mono (B := w2.heap.size + 1) (R3.frame R7.out (fun b _ q => WBf b (fun e => by have := R7.out.own_ge q; omega))) (by omega)
  · skip
    go_simp
    have AA_w4 : Below wd.heap.size wd (wd.alloc (.cells #[.slice none 0 0, .slice none 0 0, .slice none 0 0] 47)) := (Below.refl _ _).alloc (Nat.le_refl _) _
    have GA_w4 := C3.new wd (.slice none 0 0) (.slice none 0 0) (.slice none 0 0) 47
    generalize hal_w4 : (wd.alloc (.cells #[.slice none 0 0, .slice none 0 0, .slice none 0 0] 47)) = w4 at *
    clear hal_w4
    have OX_w4 : Oth (w.heap.size + 1) wd w4 := (Oth.of_below (r := (w.heap.size + 1)) AA_w4)
    have sz_w4 : w2.heap.size < w4.heap.size := Nat.lt_of_lt_of_le sz_wd OX_w4.size
    have zz_w4 : wd.heap.size ≤ w4.heap.size := OX_w4.size
    have PB_w4 : Hid (C2 w4 w2.heap.size (.slice la ls.length lc) (.slice sa (ln 3 T) sc)) := C2.oth PB_wd.out OX_w4 (by omega)
    have ZR_w4 : Hid (C3 w4 w.heap.size (.slice none 0 0) (.slice none 0 0) (.slice none 0 0)) := C3.frame ZR_wd.out (OX_w4.block w.heap.size (by omega) (by omega))
    have OT_w4 : Hid (Oth (w.heap.size + 1) w2 w4) := OT_wd.out.trans OX_w4
    have RD_w4 : Hid (Rd2 w4 (w.heap.size + 1) 40000) := Rd2.oth RD_wd.out AA_w4
    have HX_w4 : Hid _ := OX_w4
    clear OX_w4
    have BX : Hid (C3 w4 wd.heap.size (.slice none 0 0) (.slice none 0 0) (.slice none 0 0)) := GA_w4
    have bl_w4 : wd.heap.size < w4.heap.size := C3.lt GA_w4
    obtain ⟨bx, hbx⟩ : ∃ bx, wd.heap.size = bx := ⟨_, rfl⟩
    rw [hbx] at BX bl_w4 zz_w4 ⊢
    have bxr : w2.heap.size < bx := by omega
    clear AA_w4 GA_w4
    refine hK.out _ _ PB_w4.out.1 (fun hHeld => ?_)
    clear hK K
    refine wpAnyH_ready (rs := [3]) (by kernel_rfl) (by simp) ?_
    refine AllReadyH.cons rfl (fun K hK => ?_) AllReadyH.nil
    go_simp
    have NU_w4 : Hid _ := l71Nums_any w4 (w.heap.size + 1) 40000 la sa ls.length lc (ln 3 T) sc RD_w4.out (by omega) l1 l4
    refine Calls.mono NU_w4.out ?_
    rintro e' w5 ⟨zs, ad, nc, rfl, rdn, otn, rown⟩
    have OX_w5 : Oth (w.heap.size + 1) w4 w5 := otn
    have sz_w5 : w2.heap.size < w5.heap.size := Nat.lt_of_lt_of_le sz_w4 OX_w5.size
    have zz_w5 : w4.heap.size ≤ w5.heap.size := OX_w5.size
    have PB_w5 : Hid (C2 w5 w2.heap.size (.slice la ls.length lc) (.slice sa (ln 3 T) sc)) := C2.oth PB_w4.out OX_w5 (by omega)
    have ZR_w5 : Hid (C3 w5 w.heap.size (.slice none 0 0) (.slice none 0 0) (.slice none 0 0)) := C3.frame ZR_w4.out (OX_w5.block w.heap.size (by omega) (by omega))
    have OT_w5 : Hid (Oth (w.heap.size + 1) w2 w5) := OT_w4.out.trans OX_w5
    have RD_w5 : Hid (Rd2 w5 (w.heap.size + 1) 50000) := Rd2.mono rdn (by omega)
    have HX_w5 : Hid _ := OX_w5
    clear OX_w5
    have NR_w5 : Hid (GRep (Value.int .i64) w5 (.slice (some ad) zs.length nc) zs) := (show GRep (Value.int .i64) w5 (.slice (some ad) zs.length nc) zs from by obtain ⟨bs, q1, _⟩ := row_gown rown; exact q1.rep)
    clear rdn otn rown NU_w4
    have BXn : Hid (C3 w5 bx (.slice none 0 0) (.slice none 0 0) (.slice none 0 0)) := C3.frame BX.out (HX_w5.out.block bx (by omega) (by omega))
    clear BX
    have BX : Hid (C3 w5 bx (.slice none 0 0) (.slice none 0 0) (.slice none 0 0)) := BXn
    clear BXn
    refine hK.out _ _ PB_w5.out.1 (fun hHeld => ?_)
    clear hK K
    refine wpAnyH_ready (rs := [4]) (by kernel_rfl) (by simp) ?_
    refine AllReadyH.cons rfl (fun K hK => ?_) AllReadyH.nil
    go_simp
    have LR_w5 := KK.out w5 (fun b q1 q2 => OT_w5.out.block b q2 (by omega))
    have RU_w5 : Hid _ := sRunOf_any LR_w5.1 LR_w5.2 (by omega) NR_w5.out
    clear LR_w5
    refine Calls.mono RU_w5.out ?_
    rintro e' w6 ⟨ra, rb, rc, rfl, hbr, r5⟩
    have OX_w6 : Oth (w.heap.size + 1) w5 w6 := (Oth.of_below (r := (w.heap.size + 1)) hbr)
    have sz_w6 : w2.heap.size < w6.heap.size := Nat.lt_of_lt_of_le sz_w5 OX_w6.size
    have zz_w6 : w5.heap.size ≤ w6.heap.size := OX_w6.size
    have PB_w6 : Hid (C2 w6 w2.heap.size (.slice la ls.length lc) (.slice sa (ln 3 T) sc)) := C2.oth PB_w5.out OX_w6 (by omega)
    have ZR_w6 : Hid (C3 w6 w.heap.size (.slice none 0 0) (.slice none 0 0) (.slice none 0 0)) := C3.frame ZR_w5.out (OX_w6.block w.heap.size (by omega) (by omega))
    have OT_w6 : Hid (Oth (w.heap.size + 1) w2 w6) := OT_w5.out.trans OX_w6
    have RD_w6 : Hid (Rd2 w6 (w.heap.size + 1) 50000) := Rd2.oth RD_w5.out hbr
    have HX_w6 : Hid _ := OX_w6
    clear OX_w6
    have BX' : Hid (C3 w6 bx (.slice none 0 0) (.slice none 0 0) (.slice none 0 0)) := C3.below BX.out hbr
    clear BX
    have BX : Hid (C3 w6 bx (.slice none 0 0) (.slice none 0 0) (.slice none 0 0)) := BX'
    clear BX'
    have SV1 := runS_hosts ls 3 T zs
    have SL1 := runS_slen ls 3 T zs
    obtain ⟨s, hs⟩ : ∃ s, runS ls 3 T zs = s := ⟨_, rfl⟩
    rw [hs] at r5 SV1 SL1
    have HSV : Hid _ := SV1
    have HSL : Hid (s.ss.length ≤ 8) := SL1
    obtain ⟨a1, a2, rfl⟩ := rowg_slice r5.n
    obtain ⟨b1', b2', rfl⟩ := rowg_slice r5.ws
    obtain ⟨c1', c2', rfl⟩ := rowg_slice r5.ss
    have NBX : Hid (¬ (Value.ownBlock (.slice a1 s.n.length a2) = some bx ∨ Value.ownBlock (.slice b1' s.ws.length b2') = some bx ∨ Value.ownBlock (.slice c1' s.ss.length c2') = some bx)) := (show ¬ _ from fun e => by have := r5.own_ge e; omega)
    have r6 := r5.mono (B' := w2.heap.size + 1) (by omega)
    have HR3 : Hid _ := r6
    generalize numsB ls 3 T zs = nb at *
    clear hbr r5 r6 SV1 SL1 hs RU_w5
    refine hK.out _ _ PB_w6.out.1 (fun hHeld => ?_)
    clear hK K
    refine' wpAnyH_take (i := 5) (v := _) rfl (by kernel_rfl) (by kernel_rfl) (by kernel_rfl) (fun _ _ _ h => h) (Or.inl ⟨by rfl, ?hz40⟩) hHeld ?hm40
    case hz40 => (intro wz hSw; obtain ⟨j0, j1⟩ := hSw; go_simp; first | done | with_reducible rfl)
    try simp only [List.getElem_toArray, List.getElem_cons_zero, List.getElem_cons_succ, Act.put, List.setIfInBounds_toArray, List.set_cons_zero, List.set_cons_succ]
    refine' wpAnyH_take (i := 6) (v := _) rfl (by kernel_rfl) (by kernel_rfl) (by kernel_rfl) (fun _ _ _ h => h) (Or.inl ⟨by rfl, ?hz41⟩) hHeld ?hm41
    case hz41 => (intro wz hSw; obtain ⟨j0, j1⟩ := hSw; go_simp; first | done | with_reducible rfl)
    try simp only [List.getElem_toArray, List.getElem_cons_zero, List.getElem_cons_succ, Act.put, List.setIfInBounds_toArray, List.set_cons_zero, List.set_cons_succ]
    refine' wpAnyH_take (i := 7) (v := _) rfl (by kernel_rfl) (by kernel_rfl) (by kernel_rfl) (fun _ _ _ h => h) (Or.inl ⟨by rfl, ?hz42⟩) hHeld ?hm42
    case hz42 => (intro wz hSw; obtain ⟨j0, j1⟩ := hSw; go_simp; first | done | with_reducible rfl)
    try simp only [List.getElem_toArray, List.getElem_cons_zero, List.getElem_cons_succ, Act.put, List.setIfInBounds_toArray, List.set_cons_zero, List.set_cons_succ]
    refine wpAnyH_ready (rs := [9]) (by kernel_rfl) (by simp) ?_
    refine AllReadyH.cons rfl (fun K hK => ?_) AllReadyH.nil
    obtain ⟨⟨e0, e1, e2⟩, u0, u1, u2⟩ := BX.out
    go_simp
    have bxw : bx < w6.heap.size := C3.lt BX.out
    have OVx : Oth (w.heap.size + 1) w6 (((w6.setCell ⟨bx, 0, none⟩ (.slice a1 s.n.length a2)).setCell ⟨bx, 1, none⟩ (.slice b1' s.ws.length b2')).setCell ⟨bx, 2, none⟩ (.slice c1' s.ss.length c2')) → True := fun _ => trivial
    have WB : ∀ b, b ≠ bx → (((w6.setCell ⟨bx, 0, none⟩ (.slice a1 s.n.length a2)).setCell ⟨bx, 1, none⟩ (.slice b1' s.ws.length b2')).setCell ⟨bx, 2, none⟩ (.slice c1' s.ss.length c2')).heap[b]? = w6.heap[b]? := fun b hb => by rw [Below.heap_setCell _ _ _ _ hb, Below.heap_setCell _ _ _ _ hb, Below.heap_setCell _ _ _ _ hb]
    have WG : C3 (((w6.setCell ⟨bx, 0, none⟩ (.slice a1 s.n.length a2)).setCell ⟨bx, 1, none⟩ (.slice b1' s.ws.length b2')).setCell ⟨bx, 2, none⟩ (.slice c1' s.ss.length c2')) bx (.slice a1 s.n.length a2) (.slice b1' s.ws.length b2') (.slice c1' s.ss.length c2') := C3.set2 _ (C3.set1 _ (C3.set0 _ BX.out))
    have WS : (((w6.setCell ⟨bx, 0, none⟩ (.slice a1 s.n.length a2)).setCell ⟨bx, 1, none⟩ (.slice b1' s.ws.length b2')).setCell ⟨bx, 2, none⟩ (.slice c1' s.ss.length c2')).heap.size = w6.heap.size := by simp [World.setCell]
    have WR : R3 (w2.heap.size + 1) (((w6.setCell ⟨bx, 0, none⟩ (.slice a1 s.n.length a2)).setCell ⟨bx, 1, none⟩ (.slice b1' s.ws.length b2')).setCell ⟨bx, 2, none⟩ (.slice c1' s.ss.length c2')) (.slice a1 s.n.length a2) (.slice b1' s.ws.length b2') (.slice c1' s.ss.length c2') s := R3.frame HR3.out (fun b _ q => WB b (fun e => by subst e; exact NBX.out q))
    have WO : Oth (w.heap.size + 1) w2 (((w6.setCell ⟨bx, 0, none⟩ (.slice a1 s.n.length a2)).setCell ⟨bx, 1, none⟩ (.slice b1' s.ws.length b2')).setCell ⟨bx, 2, none⟩ (.slice c1' s.ss.length c2')) := ((OT_w6.out.new (by show w2.heap.size ≤ bx; omega) _).new (by show w2.heap.size ≤ bx; omega) _).new (by show w2.heap.size ≤ bx; omega) _
    generalize (((w6.setCell ⟨bx, 0, none⟩ (.slice a1 s.n.length a2)).setCell ⟨bx, 1, none⟩ (.slice b1' s.ws.length b2')).setCell ⟨bx, 2, none⟩ (.slice c1' s.ss.length c2')) = wv at *
    have PBv : Hid (C2 wv w2.heap.size (.slice la ls.length lc) (.slice sa (ln 3 T) sc)) := C2.same PB_w6.out (WB _ (by omega))
    have ZRv : Hid (C3 wv w.heap.size (.slice none 0 0) (.slice none 0 0) (.slice none 0 0)) := C3.frame ZR_w6.out (WB _ (by omega))
    have RDv : Hid (Rd2 wv (w.heap.size + 1) 50000) := Rd2.same RD_w6.out (fun b hb => WB b (by omega))
    have HGv : Hid _ := WG
    have HRv : Hid _ := WR
    have HOv : Hid _ := WO
    have szv : w2.heap.size < wv.heap.size := by omega
    have bxv : bx < wv.heap.size := by omega
    clear WB WG WS WR WO OVx e0 e1 e2 u0 u1 u2
    refine hK.out _ _ PBv.out.1 (fun hHeld => ?_)
    clear hK K
    refine' wpAnyH_take (i := 10) (v := _) rfl (by kernel_rfl) (by kernel_rfl) (by kernel_rfl) (fun _ _ _ h => h) (Or.inl ⟨by rfl, ?hz43⟩) hHeld ?hm43
    case hz43 => (intro wz hSw; obtain ⟨j0, j1⟩ := hSw; go_simp; first | done | with_reducible rfl)
    try simp only [List.getElem_toArray, List.getElem_cons_zero, List.getElem_cons_succ, Act.put, List.setIfInBounds_toArray, List.set_cons_zero, List.set_cons_succ]
    refine wpAnyH_done (by kernel_rfl) ?_ _
    clear hHeld
    have PKa : Hid _ := pick2 wv (w.heap.size + 1) _ 4 RDv.out (by omega) (by omega) (by omega)
    have NB1 : Hid (Value.ownBlock (.slice a1 s.n.length a2) ≠ some bx ∧ Value.ownBlock (.slice b1' s.ws.length b2') ≠ some bx) := (show _ ∧ _ from ⟨fun e => NBX.out (.inl e), fun e => NBX.out (.inr (.inl e))⟩)
    have NB2 : Hid (Value.ownBlock (.slice c1' s.ss.length c2') ≠ some bx) := (show Value.ownBlock (.slice c1' s.ss.length c2') ≠ some bx from fun e => NBX.out (.inr (.inr e)))
    go_wp2_with fail
    go_at_call 64; refine Calls.mono PKa.out ?_
    rintro e wp ⟨kp, rfl, kpl, kph, rdp, otp⟩
    obtain ⟨kn, rfl⟩ := Int.eq_ofNat_of_zero_le kpl
    have I1 : Hid (C3 wp bx (.slice a1 s.n.length a2) (.slice b1' s.ws.length b2') (.slice c1' s.ss.length c2')) := C3.frame HGv.out (otp.block bx bxv (by omega))
    have I2 : Hid (C3 wp w.heap.size (.slice none 0 0) (.slice none 0 0) (.slice none 0 0)) := C3.frame ZRv.out (otp.block _ (by omega) (by omega))
    have I3 : Hid (R3 (w2.heap.size + 1) wp (.slice a1 s.n.length a2) (.slice b1' s.ws.length b2') (.slice c1' s.ss.length c2') s) := R3.frame HRv.out (fun b hb q => otp.block b hb (fun e => by have := HRv.out.own_ge q; omega))
    have I4 : Hid (Oth (w.heap.size + 1) w2 wp) := HOv.out.trans otp
    have I5 : Hid (Rd2 wp (w.heap.size + 1) (50009 - 2 * kn)) := (show Rd2 _ _ _ from rdp.mono (by omega))
    have I6 : bx < wp.heap.size := by have := otp.size; omega
    have hkn : kn ≤ 3 := by omega
    clear rdp otp PKa
    go_wp2
    go_loopw [8] (fun j wr => ∃ (k : Nat) (t : List (Int × Int)) (va : Option Addr) (vc : Nat), k ≤ 3 ∧ j = .int .i64 k ∧ Rd2 wr (w.heap.size + 1) (50009 - 2 * k) ∧ Oth (w.heap.size + 1) w2 wr ∧ C3 wr bx (.slice a1 s.n.length a2) (.slice b1' s.ws.length b2') (.slice va t.length vc) ∧ C3 wr w.heap.size (.slice none 0 0) (.slice none 0 0) (.slice none 0 0) ∧ R3 (w2.heap.size + 1) wr (.slice a1 s.n.length a2) (.slice b1' s.ws.length b2') (.slice va t.length vc) ⟨s.n, s.ws, t⟩ ∧ Value.ownBlock (.slice va t.length vc) ≠ some bx ∧ (∀ x ∈ t, vIn 3 x.1 = true) ∧ t.length + k ≤ 1000 ∧ bx < wr.heap.size) (fun j _ => (intOf j).toNat)
    case atStart => exact ⟨kn, s.ss, c1', c2', hkn, rfl, I5.out, I4.out, I1.out, I2.out, I3.out, NB2.out, HSV.out, by have := HSL.out; omega, I6⟩
    case round =>
      obtain ⟨k, t, va, vc, hk3, rfl, hrd, hot, hg1, hz1', hr3, hcb, hth, htl, hbw⟩ := hrel
      have hsw : w2.heap.size ≤ wr.heap.size := hot.size
      have HTH : Hid _ := hth
      cases k with
      | succ k =>
        have kp0 : (0 : Int) < (k : Int) + 1 := by omega
        have BDr : Oth (w.heap.size + 1) wr wr.drew := (Oth.refl _ _).drew
        have F1_wr : Hid (C3 wr.drew bx (.slice a1 s.n.length a2) (.slice b1' s.ws.length b2') (.slice va t.length vc)) := hg1
        have F2_wr : Hid (C3 wr.drew w.heap.size (.slice none 0 0) (.slice none 0 0) (.slice none 0 0)) := hz1'
        have F3_wr : Hid (R3 (w2.heap.size + 1) wr.drew (.slice a1 s.n.length a2) (.slice b1' s.ws.length b2') (.slice va t.length vc) ⟨s.n, s.ws, t⟩) := R3.frame hr3 (fun b _ _ => rfl)
        have F4_wr : Hid (Oth (w.heap.size + 1) w2 wr.drew) := hot.drew
        have RD_wr : Hid (Rd2 wr.drew (w.heap.size + 1) (50009 - 2 * (k + 1))) := (show Rd2 _ _ _ from hrd.same (fun _ _ => rfl))
        have fb_wr : bx < wr.drew.heap.size := hbw
        have fz_wr : w2.heap.size ≤ wr.drew.heap.size := hsw
        have d2_wr : wr.drew.cell? ⟨bx, 2, none⟩ = some (.slice va t.length vc) := hg1.1.2.2
        clear hrd hot hg1 hz1' hr3 hth BDr
        go_wp2_with fail
        refine wp_region_held (S := fun _ => True) (by kernel_rfl) ?_
        change wpAnyH _ _ _ _ _ _ _ _ (World.drew _)
        generalize wr.drew = wq at *
        have F1_wq : Hid _ := F1_wr.out
        have F2_wq : Hid _ := F2_wr.out
        have F3_wq : Hid (R3 (w2.heap.size + 1) wq (.slice a1 s.n.length a2) (.slice b1' s.ws.length b2') (.slice va t.length vc) ⟨s.n, s.ws, t⟩) := F3_wr.out
        have F4_wq : Hid (Oth (w.heap.size + 1) w2 wq) := F4_wr.out
        have RD_wq : Hid (Rd2 wq (w.heap.size + 1) (50009 - 2 * (k + 1))) := RD_wr.out
        have fb_wq : bx < wq.heap.size := fb_wr
        have fz_wq : w2.heap.size ≤ wq.heap.size := fz_wr
        have d2_wq : wq.cell? ⟨bx, 2, none⟩ = some (.slice va t.length vc) := d2_wr
        clear F1_wr F2_wr F3_wr F4_wr RD_wr d2_wr
        refine' wpAnyH_take (i := 0) (v := _) rfl (by kernel_rfl) (by kernel_rfl) (by kernel_rfl) (fun _ _ _ h => h) (Or.inl ⟨by rfl, ?hz44⟩) trivial ?hm44
        case hz44 => (intro wz hSw; go_simp; first | done | with_reducible rfl)
        try simp only [List.getElem_toArray, List.getElem_cons_zero, List.getElem_cons_succ, Act.put, List.setIfInBounds_toArray, List.set_cons_zero, List.set_cons_succ]
        refine' wpAnyH_take (i := 2) (v := _) rfl (by kernel_rfl) (by kernel_rfl) (by kernel_rfl) (fun _ _ _ h => h) (Or.inl ⟨by rfl, ?hz45⟩) trivial ?hm45
        case hz45 => (intro wz hSw; go_simp; first | done | with_reducible rfl)
        try simp only [List.getElem_toArray, List.getElem_cons_zero, List.getElem_cons_succ, Act.put, List.setIfInBounds_toArray, List.set_cons_zero, List.set_cons_succ]
        refine' wpAnyH_take (i := 4) (v := _) rfl (by kernel_rfl) (by kernel_rfl) (by kernel_rfl) (fun _ _ _ h => h) (Or.inl ⟨by rfl, ?hz46⟩) trivial ?hm46
        case hz46 => (intro wz hSw; go_simp; first | done | with_reducible rfl)
        try simp only [List.getElem_toArray, List.getElem_cons_zero, List.getElem_cons_succ, Act.put, List.setIfInBounds_toArray, List.set_cons_zero, List.set_cons_succ]
        refine wpAnyH_ready (rs := [1, 3]) (by kernel_rfl) (by simp) ?_
        refine AllReadyH.cons rfl (fun K hK => ?_) (AllReadyH.cons rfl (fun K hK => ?_) AllReadyH.nil)
        · skip
          go_simp
          refine hK.out _ _ trivial (fun _ => ?_)
          clear hK K
          refine wpAnyH_ready (rs := [3]) (by kernel_rfl) (by simp) ?_
          refine AllReadyH.cons rfl (fun K hK => ?_) AllReadyH.nil
          go_simp
          have PK_x36 : Hid _ := pick2 wq (w.heap.size + 1) _ 3 RD_wq.out (by omega) (by omega) (by omega)
          refine Calls.mono PK_x36.out ?_
          rintro e' x36 ⟨h3, rfl, h3l, h3h, rdy, oty⟩
          have F1_x36 : Hid (C3 x36 bx (.slice a1 s.n.length a2) (.slice b1' s.ws.length b2') (.slice va t.length vc)) := C3.frame F1_wq.out (oty.block bx fb_wq (by omega))
          have F2_x36 : Hid (C3 x36 w.heap.size (.slice none 0 0) (.slice none 0 0) (.slice none 0 0)) := C3.frame F2_wq.out (oty.block w.heap.size (by omega) (by omega))
          have F3_x36 : Hid (R3 (w2.heap.size + 1) x36 (.slice a1 s.n.length a2) (.slice b1' s.ws.length b2') (.slice va t.length vc) ⟨s.n, s.ws, t⟩) := R3.frame F3_wq.out (fun b hb q => oty.block b hb (fun e => by have := F3_wq.out.own_ge q; omega))
          have F4_x36 : Hid (Oth (w.heap.size + 1) w2 x36) := F4_wq.out.trans oty
          have fz_x36 : wq.heap.size ≤ x36.heap.size := oty.size
          have fb_x36 : bx < x36.heap.size := by omega
          have d2_x36 : x36.cell? ⟨bx, 2, none⟩ = some (.slice va t.length vc) := F1_x36.out.1.2.2
          clear d2_wq
          have RD_x36 : Hid _ := rdy
          clear rdy oty PK_x36
          refine hK.out _ _ trivial (fun _ => ?_)
          clear hK K
          refine wpAnyH_ready (rs := [5]) (by kernel_rfl) (by simp) ?_
          refine AllReadyH.cons rfl (fun K hK => ?_) AllReadyH.nil
          go_simp
          have PK_x37 : Hid _ := pick2 x36 (w.heap.size + 1) _ 10 RD_x36.out (by omega) (by omega) (by omega)
          refine Calls.mono PK_x37.out ?_
          rintro e' x37 ⟨n5, rfl, n5l, n5h, rdy, oty⟩
          have F1_x37 : Hid (C3 x37 bx (.slice a1 s.n.length a2) (.slice b1' s.ws.length b2') (.slice va t.length vc)) := C3.frame F1_x36.out (oty.block bx fb_x36 (by omega))
          have F2_x37 : Hid (C3 x37 w.heap.size (.slice none 0 0) (.slice none 0 0) (.slice none 0 0)) := C3.frame F2_x36.out (oty.block w.heap.size (by omega) (by omega))
          have F3_x37 : Hid (R3 (w2.heap.size + 1) x37 (.slice a1 s.n.length a2) (.slice b1' s.ws.length b2') (.slice va t.length vc) ⟨s.n, s.ws, t⟩) := R3.frame F3_x36.out (fun b hb q => oty.block b hb (fun e => by have := F3_x36.out.own_ge q; omega))
          have F4_x37 : Hid (Oth (w.heap.size + 1) w2 x37) := F4_x36.out.trans oty
          have fz_x37 : x36.heap.size ≤ x37.heap.size := oty.size
          have fb_x37 : bx < x37.heap.size := by omega
          have d2_x37 : x37.cell? ⟨bx, 2, none⟩ = some (.slice va t.length vc) := F1_x37.out.1.2.2
          clear d2_x36
          have RD_x37 : Hid _ := rdy
          clear rdy oty PK_x37
          refine hK.out _ _ trivial (fun _ => ?_)
          clear hK K
          refine' wpAnyH_take (i := 6) (v := _) rfl (by kernel_rfl) (by kernel_rfl) (by kernel_rfl) (fun _ _ _ h => h) (Or.inl ⟨by rfl, ?hz47⟩) trivial ?hm47
          case hz47 => (intro wz hSw; go_simp; first | done | with_reducible rfl)
          try simp only [List.getElem_toArray, List.getElem_cons_zero, List.getElem_cons_succ, Act.put, List.setIfInBounds_toArray, List.set_cons_zero, List.set_cons_succ]
          refine wpAnyH_ready (rs := [7]) (by kernel_rfl) (by simp) ?_
          refine AllReadyH.cons rfl (fun K hK => ?_) AllReadyH.nil
          go_simp
          have AL_x38 : Below x37.heap.size x37 (x37.alloc (.cells #[.int .i64 h3, .int .i64 n5] 111)) := (Below.refl _ _).alloc (Nat.le_refl _) _
          have nw_x38 := cells_new2 x37 (.int .i64 h3) (.int .i64 n5) 111 _ rfl
          have nwh_x38 : Hid _ := nw_x38
          obtain ⟨nbx38, hnbx38⟩ : ∃ nb, x37.heap.size = nb := ⟨_, rfl⟩
          rw [hnbx38] at nwh_x38 ⊢
          clear nw_x38
          generalize hal_x38 : (x37.alloc (.cells #[.int .i64 h3, .int .i64 n5] 111)) = x38 at *
          clear hal_x38
          have ola : Oth (w.heap.size + 1) x37 x38 := Oth.of_below AL_x38
          have F1_x38 : Hid (C3 x38 bx (.slice a1 s.n.length a2) (.slice b1' s.ws.length b2') (.slice va t.length vc)) := C3.frame F1_x37.out (ola.block bx fb_x37 (by omega))
          have F2_x38 : Hid (C3 x38 w.heap.size (.slice none 0 0) (.slice none 0 0) (.slice none 0 0)) := C3.frame F2_x37.out (ola.block w.heap.size (by omega) (by omega))
          have F3_x38 : Hid (R3 (w2.heap.size + 1) x38 (.slice a1 s.n.length a2) (.slice b1' s.ws.length b2') (.slice va t.length vc) ⟨s.n, s.ws, t⟩) := R3.frame F3_x37.out (fun b hb q => ola.block b hb (fun e => by have := F3_x37.out.own_ge q; omega))
          have F4_x38 : Hid (Oth (w.heap.size + 1) w2 x38) := F4_x37.out.trans ola
          have fz_x38 : x37.heap.size ≤ x38.heap.size := ola.size
          have fb_x38 : bx < x38.heap.size := by omega
          have d2_x38 : x38.cell? ⟨bx, 2, none⟩ = some (.slice va t.length vc) := F1_x38.out.1.2.2
          clear d2_x37
          have RD_x38 : Hid _ := Rd2.oth RD_x37.out AL_x38
          clear AL_x38 ola
          refine hK.out _ _ trivial (fun _ => ?_)
          clear hK K
          refine wpAnyH_ready (rs := [8]) (by kernel_rfl) (by simp) ?_
          refine AllReadyH.cons rfl (fun K hK => ?_) AllReadyH.nil
          rw [if_pos (by rfl)]
          refine wp_append_at' _ _ _ 45 rfl (w2.heap.size + 1) 111 i1 _ 2 16 Try.underlying45 hj0 hy0 hy1 hy2 rfl (by decide) (.slice va t.length vc) t.length (pcells t) rfl F3_x38.out.ss ⟨nbx38, 0, none⟩ 1 1 [.int .i64 h3, .int .i64 n5] rfl rfl ?d1x39 ?d2x39 ?d3x39 ?d4x39 ?d5x39 ?_
          case d1x39 => exact nwh_x38.out
          case d2x39 => simp [Value.oneCell']
          case d3x39 => unfold maxLen; omega
          case d4x39 => omega
          case d5x39 => omega
          intro v8 w8 own8 grow8 nn8 at8
          have RT : R3 (w2.heap.size + 1) w8 (.slice a1 s.n.length a2) (.slice b1' s.ws.length b2') v8 ⟨s.n, s.ws, t ++ [(h3, n5)]⟩ := R3.tell (s := ⟨s.n, s.ws, t⟩) (a := (h3, n5)) F3_x38.out own8 grow8 at8
          have s8 : x38.heap.size ≤ w8.heap.size := grow8.size
          have blk : ∀ b, b < x38.heap.size → Value.ownBlock (.slice va t.length vc) ≠ some b → w8.heap[b]? = x38.heap[b]? := fun b hb hne => grow8.block b hb (fun q => hne q.symm)
          have nob : ∀ b, b < w2.heap.size + 1 → Value.ownBlock (.slice va t.length vc) ≠ some b := fun b hb e => by have := (World.ownsRow.lt F3_x38.out.ss b e).1; omega
          have G8 : C3 w8 bx (.slice a1 s.n.length a2) (.slice b1' s.ws.length b2') (.slice va t.length vc) := C3.frame F1_x38.out (blk bx fb_x38 hcb)
          have Z8 : C3 w8 w.heap.size (.slice none 0 0) (.slice none 0 0) (.slice none 0 0) := C3.frame F2_x38.out (blk _ (by omega) (nob _ (by omega)))
          have O8 : Oth (w.heap.size + 1) w2 w8 := F4_x38.out.grown grow8 (fun k hk => by have := (World.ownsRow.lt F3_x38.out.ss k hk).1; omega)
          have D8 : Rd2 w8 (w.heap.size + 1) (50009 - 2 * (k + 1) + 2) := Rd2.mono (Rd2.same RD_x38.out (fun b hb => blk b (by omega) (nob b (by omega)))) (by omega)
          have nb8 : v8.ownBlock ≠ some bx := by
            rcases at8 with e | e
            · rw [e]; exact hcb
            · rw [e]; intro q; have := Option.some.inj q; omega
          obtain ⟨va8, vc8, rfl⟩ := rowg_slice own8
          have HRT : Hid _ := RT
          have HG8 : Hid _ := G8
          have HZ8 : Hid _ := Z8
          have HO8 : Hid _ := O8
          have HD8 : Hid _ := D8
          have HN8 : Hid _ := nb8
          refine hK.out _ _ trivial (fun _ => ?_)
          clear hK K own8 grow8 nn8 at8 RT blk nob Z8 O8 D8 nb8 d2_x38
          refine' wpAnyH_take (i := 9) (v := _) rfl (by kernel_rfl) (by kernel_rfl) (by kernel_rfl) (fun _ _ _ h => h) (Or.inl ⟨by rfl, ?hz48⟩) trivial ?hm48
          case hz48 => (intro wz hSw; go_simp; first | done | with_reducible rfl)
          try simp only [List.getElem_toArray, List.getElem_cons_zero, List.getElem_cons_succ, Act.put, List.setIfInBounds_toArray, List.set_cons_zero, List.set_cons_succ]
          obtain ⟨⟨e0, e1, e2⟩, u0, u1, u2⟩ := G8
          refine wpAnyH_ready (rs := [10]) (by kernel_rfl) (by simp) ?_
          refine AllReadyH.cons rfl (fun K hK => ?_) AllReadyH.nil
          go_simp
          refine hK.out _ _ trivial (fun _ => ?_)
          clear hK K
          refine wpAnyH_done (by kernel_rfl) ?_ _
          have WB : ∀ b, b ≠ bx → (w8.setCell ⟨bx, 2, none⟩ (.slice va8 (t.length + 1) vc8)).heap[b]? = w8.heap[b]? := fun b hb => Below.heap_setCell _ _ _ _ hb
          have G9 : Hid (C3 (w8.setCell ⟨bx, 2, none⟩ (.slice va8 (t.length + 1) vc8)) bx (.slice a1 s.n.length a2) (.slice b1' s.ws.length b2') (.slice va8 (t.length + 1) vc8)) := C3.set2 _ HG8.out
          have Z9 : Hid (C3 (w8.setCell ⟨bx, 2, none⟩ (.slice va8 (t.length + 1) vc8)) w.heap.size (.slice none 0 0) (.slice none 0 0) (.slice none 0 0)) := C3.frame HZ8.out (WB _ (by omega))
          have O9 : Hid (Oth (w.heap.size + 1) w2 (w8.setCell ⟨bx, 2, none⟩ (.slice va8 (t.length + 1) vc8))) := HO8.out.new (by show w2.heap.size ≤ bx; omega) _
          have D9 : Hid (Rd2 (w8.setCell ⟨bx, 2, none⟩ (.slice va8 (t.length + 1) vc8)) (w.heap.size + 1) (50009 - 2 * k)) := Rd2.mono (Rd2.same HD8.out (fun b hb => WB b (by omega))) (by omega)
          have R9 : Hid (R3 (w2.heap.size + 1) (w8.setCell ⟨bx, 2, none⟩ (.slice va8 (t.length + 1) vc8)) (.slice a1 s.n.length a2) (.slice b1' s.ws.length b2') (.slice va8 (t.length + 1) vc8) ⟨s.n, s.ws, t ++ [(h3, n5)]⟩) := R3.far HRT.out _ _ NB1.out.1 NB1.out.2 HN8.out
          have B9 : bx < (w8.setCell ⟨bx, 2, none⟩ (.slice va8 (t.length + 1) vc8)).heap.size := by simp [World.setCell]; omega
          generalize w8.setCell ⟨bx, 2, none⟩ (.slice va8 (t.length + 1) vc8) = w9 at *
          clear WB e0 e1 e2 u0 u1 u2
          have v64 := w64 ((k : Int) + 1 - 1) (by omega)
          have e64 : (k : Int) + 1 - 1 = k := by omega
          go_wp2
          refine ⟨⟨k, t ++ [(h3, n5)], va8, vc8, by omega, by first | rfl | simp [e64], D9.out, O9.out, by simpa using G9.out, Z9.out, by simpa using R9.out, by simpa using HN8.out, ?_, by simp <;> omega, B9⟩, by simp [intOf] <;> omega⟩
          intro x hx
          rcases List.mem_append.1 hx with hx | hx
          · exact HTH.out x hx
          · obtain rfl : x = (h3, n5) := by simpa using hx
            simp [vIn]; omega
        · skip
          go_simp
          have PK_x40 : Hid _ := pick2 wq (w.heap.size + 1) _ 3 RD_wq.out (by omega) (by omega) (by omega)
          refine Calls.mono PK_x40.out ?_
          rintro e' x40 ⟨h3, rfl, h3l, h3h, rdy, oty⟩
          have F1_x40 : Hid (C3 x40 bx (.slice a1 s.n.length a2) (.slice b1' s.ws.length b2') (.slice va t.length vc)) := C3.frame F1_wq.out (oty.block bx fb_wq (by omega))
          have F2_x40 : Hid (C3 x40 w.heap.size (.slice none 0 0) (.slice none 0 0) (.slice none 0 0)) := C3.frame F2_wq.out (oty.block w.heap.size (by omega) (by omega))
          have F3_x40 : Hid (R3 (w2.heap.size + 1) x40 (.slice a1 s.n.length a2) (.slice b1' s.ws.length b2') (.slice va t.length vc) ⟨s.n, s.ws, t⟩) := R3.frame F3_wq.out (fun b hb q => oty.block b hb (fun e => by have := F3_wq.out.own_ge q; omega))
          have F4_x40 : Hid (Oth (w.heap.size + 1) w2 x40) := F4_wq.out.trans oty
          have fz_x40 : wq.heap.size ≤ x40.heap.size := oty.size
          have fb_x40 : bx < x40.heap.size := by omega
          have d2_x40 : x40.cell? ⟨bx, 2, none⟩ = some (.slice va t.length vc) := F1_x40.out.1.2.2
          clear d2_wq
          have RD_x40 : Hid _ := rdy
          clear rdy oty PK_x40
          refine hK.out _ _ trivial (fun _ => ?_)
          clear hK K
          refine wpAnyH_ready (rs := [1, 5]) (by kernel_rfl) (by simp) ?_
          refine AllReadyH.cons rfl (fun K hK => ?_) (AllReadyH.cons rfl (fun K hK => ?_) AllReadyH.nil)
          · skip
            go_simp
            refine hK.out _ _ trivial (fun _ => ?_)
            clear hK K
            refine wpAnyH_ready (rs := [5]) (by kernel_rfl) (by simp) ?_
            refine AllReadyH.cons rfl (fun K hK => ?_) AllReadyH.nil
            go_simp
            have PK_x42 : Hid _ := pick2 x40 (w.heap.size + 1) _ 10 RD_x40.out (by omega) (by omega) (by omega)
            refine Calls.mono PK_x42.out ?_
            rintro e' x42 ⟨n5, rfl, n5l, n5h, rdy, oty⟩
            have F1_x42 : Hid (C3 x42 bx (.slice a1 s.n.length a2) (.slice b1' s.ws.length b2') (.slice va t.length vc)) := C3.frame F1_x40.out (oty.block bx fb_x40 (by omega))
            have F2_x42 : Hid (C3 x42 w.heap.size (.slice none 0 0) (.slice none 0 0) (.slice none 0 0)) := C3.frame F2_x40.out (oty.block w.heap.size (by omega) (by omega))
            have F3_x42 : Hid (R3 (w2.heap.size + 1) x42 (.slice a1 s.n.length a2) (.slice b1' s.ws.length b2') (.slice va t.length vc) ⟨s.n, s.ws, t⟩) := R3.frame F3_x40.out (fun b hb q => oty.block b hb (fun e => by have := F3_x40.out.own_ge q; omega))
            have F4_x42 : Hid (Oth (w.heap.size + 1) w2 x42) := F4_x40.out.trans oty
            have fz_x42 : x40.heap.size ≤ x42.heap.size := oty.size
            have fb_x42 : bx < x42.heap.size := by omega
            have d2_x42 : x42.cell? ⟨bx, 2, none⟩ = some (.slice va t.length vc) := F1_x42.out.1.2.2
            clear d2_x40
            have RD_x42 : Hid _ := rdy
            clear rdy oty PK_x42
            refine hK.out _ _ trivial (fun _ => ?_)
            clear hK K
            refine' wpAnyH_take (i := 6) (v := _) rfl (by kernel_rfl) (by kernel_rfl) (by kernel_rfl) (fun _ _ _ h => h) (Or.inl ⟨by rfl, ?hz49⟩) trivial ?hm49
            case hz49 => (intro wz hSw; go_simp; first | done | with_reducible rfl)
            try simp only [List.getElem_toArray, List.getElem_cons_zero, List.getElem_cons_succ, Act.put, List.setIfInBounds_toArray, List.set_cons_zero, List.set_cons_succ]
            refine wpAnyH_ready (rs := [7]) (by kernel_rfl) (by simp) ?_
            refine AllReadyH.cons rfl (fun K hK => ?_) AllReadyH.nil
            go_simp
            have AL_x43 : Below x42.heap.size x42 (x42.alloc (.cells #[.int .i64 h3, .int .i64 n5] 111)) := (Below.refl _ _).alloc (Nat.le_refl _) _
            have nw_x43 := cells_new2 x42 (.int .i64 h3) (.int .i64 n5) 111 _ rfl
            have nwh_x43 : Hid _ := nw_x43
            obtain ⟨nbx43, hnbx43⟩ : ∃ nb, x42.heap.size = nb := ⟨_, rfl⟩
            rw [hnbx43] at nwh_x43 ⊢
            clear nw_x43
            generalize hal_x43 : (x42.alloc (.cells #[.int .i64 h3, .int .i64 n5] 111)) = x43 at *
            clear hal_x43
            have ola : Oth (w.heap.size + 1) x42 x43 := Oth.of_below AL_x43
            have F1_x43 : Hid (C3 x43 bx (.slice a1 s.n.length a2) (.slice b1' s.ws.length b2') (.slice va t.length vc)) := C3.frame F1_x42.out (ola.block bx fb_x42 (by omega))
            have F2_x43 : Hid (C3 x43 w.heap.size (.slice none 0 0) (.slice none 0 0) (.slice none 0 0)) := C3.frame F2_x42.out (ola.block w.heap.size (by omega) (by omega))
            have F3_x43 : Hid (R3 (w2.heap.size + 1) x43 (.slice a1 s.n.length a2) (.slice b1' s.ws.length b2') (.slice va t.length vc) ⟨s.n, s.ws, t⟩) := R3.frame F3_x42.out (fun b hb q => ola.block b hb (fun e => by have := F3_x42.out.own_ge q; omega))
            have F4_x43 : Hid (Oth (w.heap.size + 1) w2 x43) := F4_x42.out.trans ola
            have fz_x43 : x42.heap.size ≤ x43.heap.size := ola.size
            have fb_x43 : bx < x43.heap.size := by omega
            have d2_x43 : x43.cell? ⟨bx, 2, none⟩ = some (.slice va t.length vc) := F1_x43.out.1.2.2
            clear d2_x42
            have RD_x43 : Hid _ := Rd2.oth RD_x42.out AL_x43
            clear AL_x43 ola
            refine hK.out _ _ trivial (fun _ => ?_)
            clear hK K
            refine wpAnyH_ready (rs := [8]) (by kernel_rfl) (by simp) ?_
            refine AllReadyH.cons rfl (fun K hK => ?_) AllReadyH.nil
            rw [if_pos (by rfl)]
            refine wp_append_at' _ _ _ 45 rfl (w2.heap.size + 1) 111 i1 _ 2 16 Try.underlying45 hj0 hy0 hy1 hy2 rfl (by decide) (.slice va t.length vc) t.length (pcells t) rfl F3_x43.out.ss ⟨nbx43, 0, none⟩ 1 1 [.int .i64 h3, .int .i64 n5] rfl rfl ?d1x44 ?d2x44 ?d3x44 ?d4x44 ?d5x44 ?_
            case d1x44 => exact nwh_x43.out
            case d2x44 => simp [Value.oneCell']
            case d3x44 => unfold maxLen; omega
            case d4x44 => omega
            case d5x44 => omega
            intro v8 w8 own8 grow8 nn8 at8
            have RT : R3 (w2.heap.size + 1) w8 (.slice a1 s.n.length a2) (.slice b1' s.ws.length b2') v8 ⟨s.n, s.ws, t ++ [(h3, n5)]⟩ := R3.tell (s := ⟨s.n, s.ws, t⟩) (a := (h3, n5)) F3_x43.out own8 grow8 at8
            have s8 : x43.heap.size ≤ w8.heap.size := grow8.size
            have blk : ∀ b, b < x43.heap.size → Value.ownBlock (.slice va t.length vc) ≠ some b → w8.heap[b]? = x43.heap[b]? := fun b hb hne => grow8.block b hb (fun q => hne q.symm)
            have nob : ∀ b, b < w2.heap.size + 1 → Value.ownBlock (.slice va t.length vc) ≠ some b := fun b hb e => by have := (World.ownsRow.lt F3_x43.out.ss b e).1; omega
            have G8 : C3 w8 bx (.slice a1 s.n.length a2) (.slice b1' s.ws.length b2') (.slice va t.length vc) := C3.frame F1_x43.out (blk bx fb_x43 hcb)
            have Z8 : C3 w8 w.heap.size (.slice none 0 0) (.slice none 0 0) (.slice none 0 0) := C3.frame F2_x43.out (blk _ (by omega) (nob _ (by omega)))
            have O8 : Oth (w.heap.size + 1) w2 w8 := F4_x43.out.grown grow8 (fun k hk => by have := (World.ownsRow.lt F3_x43.out.ss k hk).1; omega)
            have D8 : Rd2 w8 (w.heap.size + 1) (50009 - 2 * (k + 1) + 2) := Rd2.mono (Rd2.same RD_x43.out (fun b hb => blk b (by omega) (nob b (by omega)))) (by omega)
            have nb8 : v8.ownBlock ≠ some bx := by
              rcases at8 with e | e
              · rw [e]; exact hcb
              · rw [e]; intro q; have := Option.some.inj q; omega
            obtain ⟨va8, vc8, rfl⟩ := rowg_slice own8
            have HRT : Hid _ := RT
            have HG8 : Hid _ := G8
            have HZ8 : Hid _ := Z8
            have HO8 : Hid _ := O8
            have HD8 : Hid _ := D8
            have HN8 : Hid _ := nb8
            refine hK.out _ _ trivial (fun _ => ?_)
            clear hK K own8 grow8 nn8 at8 RT blk nob Z8 O8 D8 nb8 d2_x43
            refine' wpAnyH_take (i := 9) (v := _) rfl (by kernel_rfl) (by kernel_rfl) (by kernel_rfl) (fun _ _ _ h => h) (Or.inl ⟨by rfl, ?hz50⟩) trivial ?hm50
            case hz50 => (intro wz hSw; go_simp; first | done | with_reducible rfl)
            try simp only [List.getElem_toArray, List.getElem_cons_zero, List.getElem_cons_succ, Act.put, List.setIfInBounds_toArray, List.set_cons_zero, List.set_cons_succ]
            obtain ⟨⟨e0, e1, e2⟩, u0, u1, u2⟩ := G8
            refine wpAnyH_ready (rs := [10]) (by kernel_rfl) (by simp) ?_
            refine AllReadyH.cons rfl (fun K hK => ?_) AllReadyH.nil
            go_simp
            refine hK.out _ _ trivial (fun _ => ?_)
            clear hK K
            refine wpAnyH_done (by kernel_rfl) ?_ _
            have WB : ∀ b, b ≠ bx → (w8.setCell ⟨bx, 2, none⟩ (.slice va8 (t.length + 1) vc8)).heap[b]? = w8.heap[b]? := fun b hb => Below.heap_setCell _ _ _ _ hb
            have G9 : Hid (C3 (w8.setCell ⟨bx, 2, none⟩ (.slice va8 (t.length + 1) vc8)) bx (.slice a1 s.n.length a2) (.slice b1' s.ws.length b2') (.slice va8 (t.length + 1) vc8)) := C3.set2 _ HG8.out
            have Z9 : Hid (C3 (w8.setCell ⟨bx, 2, none⟩ (.slice va8 (t.length + 1) vc8)) w.heap.size (.slice none 0 0) (.slice none 0 0) (.slice none 0 0)) := C3.frame HZ8.out (WB _ (by omega))
            have O9 : Hid (Oth (w.heap.size + 1) w2 (w8.setCell ⟨bx, 2, none⟩ (.slice va8 (t.length + 1) vc8))) := HO8.out.new (by show w2.heap.size ≤ bx; omega) _
            have D9 : Hid (Rd2 (w8.setCell ⟨bx, 2, none⟩ (.slice va8 (t.length + 1) vc8)) (w.heap.size + 1) (50009 - 2 * k)) := Rd2.mono (Rd2.same HD8.out (fun b hb => WB b (by omega))) (by omega)
            have R9 : Hid (R3 (w2.heap.size + 1) (w8.setCell ⟨bx, 2, none⟩ (.slice va8 (t.length + 1) vc8)) (.slice a1 s.n.length a2) (.slice b1' s.ws.length b2') (.slice va8 (t.length + 1) vc8) ⟨s.n, s.ws, t ++ [(h3, n5)]⟩) := R3.far HRT.out _ _ NB1.out.1 NB1.out.2 HN8.out
            have B9 : bx < (w8.setCell ⟨bx, 2, none⟩ (.slice va8 (t.length + 1) vc8)).heap.size := by simp [World.setCell]; omega
            generalize w8.setCell ⟨bx, 2, none⟩ (.slice va8 (t.length + 1) vc8) = w9 at *
            clear WB e0 e1 e2 u0 u1 u2
            have v64 := w64 ((k : Int) + 1 - 1) (by omega)
            have e64 : (k : Int) + 1 - 1 = k := by omega
            go_wp2
            refine ⟨⟨k, t ++ [(h3, n5)], va8, vc8, by omega, by first | rfl | simp [e64], D9.out, O9.out, by simpa using G9.out, Z9.out, by simpa using R9.out, by simpa using HN8.out, ?_, by simp <;> omega, B9⟩, by simp [intOf] <;> omega⟩
            intro x hx
            rcases List.mem_append.1 hx with hx | hx
            · exact HTH.out x hx
            · obtain rfl : x = (h3, n5) := by simpa using hx
              simp [vIn]; omega
          · skip
            go_simp
            have PK_x45 : Hid _ := pick2 x40 (w.heap.size + 1) _ 10 RD_x40.out (by omega) (by omega) (by omega)
            refine Calls.mono PK_x45.out ?_
            rintro e' x45 ⟨n5, rfl, n5l, n5h, rdy, oty⟩
            have F1_x45 : Hid (C3 x45 bx (.slice a1 s.n.length a2) (.slice b1' s.ws.length b2') (.slice va t.length vc)) := C3.frame F1_x40.out (oty.block bx fb_x40 (by omega))
            have F2_x45 : Hid (C3 x45 w.heap.size (.slice none 0 0) (.slice none 0 0) (.slice none 0 0)) := C3.frame F2_x40.out (oty.block w.heap.size (by omega) (by omega))
            have F3_x45 : Hid (R3 (w2.heap.size + 1) x45 (.slice a1 s.n.length a2) (.slice b1' s.ws.length b2') (.slice va t.length vc) ⟨s.n, s.ws, t⟩) := R3.frame F3_x40.out (fun b hb q => oty.block b hb (fun e => by have := F3_x40.out.own_ge q; omega))
            have F4_x45 : Hid (Oth (w.heap.size + 1) w2 x45) := F4_x40.out.trans oty
            have fz_x45 : x40.heap.size ≤ x45.heap.size := oty.size
            have fb_x45 : bx < x45.heap.size := by omega
            have d2_x45 : x45.cell? ⟨bx, 2, none⟩ = some (.slice va t.length vc) := F1_x45.out.1.2.2
            clear d2_x40
            have RD_x45 : Hid _ := rdy
            clear rdy oty PK_x45
            refine hK.out _ _ trivial (fun _ => ?_)
            clear hK K
            refine' wpAnyH_take (i := 6) (v := _) rfl (by kernel_rfl) (by kernel_rfl) (by kernel_rfl) (fun _ _ _ h => h) (Or.inl ⟨by rfl, ?hz51⟩) trivial ?hm51
            case hz51 => (intro wz hSw; go_simp; first | done | with_reducible rfl)
            try simp only [List.getElem_toArray, List.getElem_cons_zero, List.getElem_cons_succ, Act.put, List.setIfInBounds_toArray, List.set_cons_zero, List.set_cons_succ]
            refine wpAnyH_ready (rs := [1, 7]) (by kernel_rfl) (by simp) ?_
            refine AllReadyH.cons rfl (fun K hK => ?_) (AllReadyH.cons rfl (fun K hK => ?_) AllReadyH.nil)
            · skip
              go_simp
              refine hK.out _ _ trivial (fun _ => ?_)
              clear hK K
              refine wpAnyH_ready (rs := [7]) (by kernel_rfl) (by simp) ?_
              refine AllReadyH.cons rfl (fun K hK => ?_) AllReadyH.nil
              go_simp
              have AL_x47 : Below x45.heap.size x45 (x45.alloc (.cells #[.int .i64 h3, .int .i64 n5] 111)) := (Below.refl _ _).alloc (Nat.le_refl _) _
              have nw_x47 := cells_new2 x45 (.int .i64 h3) (.int .i64 n5) 111 _ rfl
              have nwh_x47 : Hid _ := nw_x47
              obtain ⟨nbx47, hnbx47⟩ : ∃ nb, x45.heap.size = nb := ⟨_, rfl⟩
              rw [hnbx47] at nwh_x47 ⊢
              clear nw_x47
              generalize hal_x47 : (x45.alloc (.cells #[.int .i64 h3, .int .i64 n5] 111)) = x47 at *
              clear hal_x47
              have ola : Oth (w.heap.size + 1) x45 x47 := Oth.of_below AL_x47
              have F1_x47 : Hid (C3 x47 bx (.slice a1 s.n.length a2) (.slice b1' s.ws.length b2') (.slice va t.length vc)) := C3.frame F1_x45.out (ola.block bx fb_x45 (by omega))
              have F2_x47 : Hid (C3 x47 w.heap.size (.slice none 0 0) (.slice none 0 0) (.slice none 0 0)) := C3.frame F2_x45.out (ola.block w.heap.size (by omega) (by omega))
              have F3_x47 : Hid (R3 (w2.heap.size + 1) x47 (.slice a1 s.n.length a2) (.slice b1' s.ws.length b2') (.slice va t.length vc) ⟨s.n, s.ws, t⟩) := R3.frame F3_x45.out (fun b hb q => ola.block b hb (fun e => by have := F3_x45.out.own_ge q; omega))
              have F4_x47 : Hid (Oth (w.heap.size + 1) w2 x47) := F4_x45.out.trans ola
              have fz_x47 : x45.heap.size ≤ x47.heap.size := ola.size
              have fb_x47 : bx < x47.heap.size := by omega
              have d2_x47 : x47.cell? ⟨bx, 2, none⟩ = some (.slice va t.length vc) := F1_x47.out.1.2.2
              clear d2_x45
              have RD_x47 : Hid _ := Rd2.oth RD_x45.out AL_x47
              clear AL_x47 ola
              refine hK.out _ _ trivial (fun _ => ?_)
              clear hK K
              refine wpAnyH_ready (rs := [8]) (by kernel_rfl) (by simp) ?_
              refine AllReadyH.cons rfl (fun K hK => ?_) AllReadyH.nil
              rw [if_pos (by rfl)]
              refine wp_append_at' _ _ _ 45 rfl (w2.heap.size + 1) 111 i1 _ 2 16 Try.underlying45 hj0 hy0 hy1 hy2 rfl (by decide) (.slice va t.length vc) t.length (pcells t) rfl F3_x47.out.ss ⟨nbx47, 0, none⟩ 1 1 [.int .i64 h3, .int .i64 n5] rfl rfl ?d1x48 ?d2x48 ?d3x48 ?d4x48 ?d5x48 ?_
              case d1x48 => exact nwh_x47.out
              case d2x48 => simp [Value.oneCell']
              case d3x48 => unfold maxLen; omega
              case d4x48 => omega
              case d5x48 => omega
              intro v8 w8 own8 grow8 nn8 at8
              have RT : R3 (w2.heap.size + 1) w8 (.slice a1 s.n.length a2) (.slice b1' s.ws.length b2') v8 ⟨s.n, s.ws, t ++ [(h3, n5)]⟩ := R3.tell (s := ⟨s.n, s.ws, t⟩) (a := (h3, n5)) F3_x47.out own8 grow8 at8
              have s8 : x47.heap.size ≤ w8.heap.size := grow8.size
              have blk : ∀ b, b < x47.heap.size → Value.ownBlock (.slice va t.length vc) ≠ some b → w8.heap[b]? = x47.heap[b]? := fun b hb hne => grow8.block b hb (fun q => hne q.symm)
              have nob : ∀ b, b < w2.heap.size + 1 → Value.ownBlock (.slice va t.length vc) ≠ some b := fun b hb e => by have := (World.ownsRow.lt F3_x47.out.ss b e).1; omega
              have G8 : C3 w8 bx (.slice a1 s.n.length a2) (.slice b1' s.ws.length b2') (.slice va t.length vc) := C3.frame F1_x47.out (blk bx fb_x47 hcb)
              have Z8 : C3 w8 w.heap.size (.slice none 0 0) (.slice none 0 0) (.slice none 0 0) := C3.frame F2_x47.out (blk _ (by omega) (nob _ (by omega)))
              have O8 : Oth (w.heap.size + 1) w2 w8 := F4_x47.out.grown grow8 (fun k hk => by have := (World.ownsRow.lt F3_x47.out.ss k hk).1; omega)
              have D8 : Rd2 w8 (w.heap.size + 1) (50009 - 2 * (k + 1) + 2) := Rd2.mono (Rd2.same RD_x47.out (fun b hb => blk b (by omega) (nob b (by omega)))) (by omega)
              have nb8 : v8.ownBlock ≠ some bx := by
                rcases at8 with e | e
                · rw [e]; exact hcb
                · rw [e]; intro q; have := Option.some.inj q; omega
              obtain ⟨va8, vc8, rfl⟩ := rowg_slice own8
              have HRT : Hid _ := RT
              have HG8 : Hid _ := G8
              have HZ8 : Hid _ := Z8
              have HO8 : Hid _ := O8
              have HD8 : Hid _ := D8
              have HN8 : Hid _ := nb8
              refine hK.out _ _ trivial (fun _ => ?_)
              clear hK K own8 grow8 nn8 at8 RT blk nob Z8 O8 D8 nb8 d2_x47
              refine' wpAnyH_take (i := 9) (v := _) rfl (by kernel_rfl) (by kernel_rfl) (by kernel_rfl) (fun _ _ _ h => h) (Or.inl ⟨by rfl, ?hz52⟩) trivial ?hm52
              case hz52 => (intro wz hSw; go_simp; first | done | with_reducible rfl)
              try simp only [List.getElem_toArray, List.getElem_cons_zero, List.getElem_cons_succ, Act.put, List.setIfInBounds_toArray, List.set_cons_zero, List.set_cons_succ]
              obtain ⟨⟨e0, e1, e2⟩, u0, u1, u2⟩ := G8
              refine wpAnyH_ready (rs := [10]) (by kernel_rfl) (by simp) ?_
              refine AllReadyH.cons rfl (fun K hK => ?_) AllReadyH.nil
              go_simp
              refine hK.out _ _ trivial (fun _ => ?_)
              clear hK K
              refine wpAnyH_done (by kernel_rfl) ?_ _
              have WB : ∀ b, b ≠ bx → (w8.setCell ⟨bx, 2, none⟩ (.slice va8 (t.length + 1) vc8)).heap[b]? = w8.heap[b]? := fun b hb => Below.heap_setCell _ _ _ _ hb
              have G9 : Hid (C3 (w8.setCell ⟨bx, 2, none⟩ (.slice va8 (t.length + 1) vc8)) bx (.slice a1 s.n.length a2) (.slice b1' s.ws.length b2') (.slice va8 (t.length + 1) vc8)) := C3.set2 _ HG8.out
              have Z9 : Hid (C3 (w8.setCell ⟨bx, 2, none⟩ (.slice va8 (t.length + 1) vc8)) w.heap.size (.slice none 0 0) (.slice none 0 0) (.slice none 0 0)) := C3.frame HZ8.out (WB _ (by omega))
              have O9 : Hid (Oth (w.heap.size + 1) w2 (w8.setCell ⟨bx, 2, none⟩ (.slice va8 (t.length + 1) vc8))) := HO8.out.new (by show w2.heap.size ≤ bx; omega) _
              have D9 : Hid (Rd2 (w8.setCell ⟨bx, 2, none⟩ (.slice va8 (t.length + 1) vc8)) (w.heap.size + 1) (50009 - 2 * k)) := Rd2.mono (Rd2.same HD8.out (fun b hb => WB b (by omega))) (by omega)
              have R9 : Hid (R3 (w2.heap.size + 1) (w8.setCell ⟨bx, 2, none⟩ (.slice va8 (t.length + 1) vc8)) (.slice a1 s.n.length a2) (.slice b1' s.ws.length b2') (.slice va8 (t.length + 1) vc8) ⟨s.n, s.ws, t ++ [(h3, n5)]⟩) := R3.far HRT.out _ _ NB1.out.1 NB1.out.2 HN8.out
              have B9 : bx < (w8.setCell ⟨bx, 2, none⟩ (.slice va8 (t.length + 1) vc8)).heap.size := by simp [World.setCell]; omega
              generalize w8.setCell ⟨bx, 2, none⟩ (.slice va8 (t.length + 1) vc8) = w9 at *
              clear WB e0 e1 e2 u0 u1 u2
              have v64 := w64 ((k : Int) + 1 - 1) (by omega)
              have e64 : (k : Int) + 1 - 1 = k := by omega
              go_wp2
              refine ⟨⟨k, t ++ [(h3, n5)], va8, vc8, by omega, by first | rfl | simp [e64], D9.out, O9.out, by simpa using G9.out, Z9.out, by simpa using R9.out, by simpa using HN8.out, ?_, by simp <;> omega, B9⟩, by simp [intOf] <;> omega⟩
              intro x hx
              rcases List.mem_append.1 hx with hx | hx
              · exact HTH.out x hx
              · obtain rfl : x = (h3, n5) := by simpa using hx
                simp [vIn]; omega
            · skip
              go_simp
              have AL_x49 : Below x45.heap.size x45 (x45.alloc (.cells #[.int .i64 h3, .int .i64 n5] 111)) := (Below.refl _ _).alloc (Nat.le_refl _) _
              have nw_x49 := cells_new2 x45 (.int .i64 h3) (.int .i64 n5) 111 _ rfl
              have nwh_x49 : Hid _ := nw_x49
              obtain ⟨nbx49, hnbx49⟩ : ∃ nb, x45.heap.size = nb := ⟨_, rfl⟩
              rw [hnbx49] at nwh_x49 ⊢
              clear nw_x49
              generalize hal_x49 : (x45.alloc (.cells #[.int .i64 h3, .int .i64 n5] 111)) = x49 at *
              clear hal_x49
              have ola : Oth (w.heap.size + 1) x45 x49 := Oth.of_below AL_x49
              have F1_x49 : Hid (C3 x49 bx (.slice a1 s.n.length a2) (.slice b1' s.ws.length b2') (.slice va t.length vc)) := C3.frame F1_x45.out (ola.block bx fb_x45 (by omega))
              have F2_x49 : Hid (C3 x49 w.heap.size (.slice none 0 0) (.slice none 0 0) (.slice none 0 0)) := C3.frame F2_x45.out (ola.block w.heap.size (by omega) (by omega))
              have F3_x49 : Hid (R3 (w2.heap.size + 1) x49 (.slice a1 s.n.length a2) (.slice b1' s.ws.length b2') (.slice va t.length vc) ⟨s.n, s.ws, t⟩) := R3.frame F3_x45.out (fun b hb q => ola.block b hb (fun e => by have := F3_x45.out.own_ge q; omega))
              have F4_x49 : Hid (Oth (w.heap.size + 1) w2 x49) := F4_x45.out.trans ola
              have fz_x49 : x45.heap.size ≤ x49.heap.size := ola.size
              have fb_x49 : bx < x49.heap.size := by omega
              have d2_x49 : x49.cell? ⟨bx, 2, none⟩ = some (.slice va t.length vc) := F1_x49.out.1.2.2
              clear d2_x45
              have RD_x49 : Hid _ := Rd2.oth RD_x45.out AL_x49
              clear AL_x49 ola
              refine hK.out _ _ trivial (fun _ => ?_)
              clear hK K
              refine wpAnyH_ready (rs := [1]) (by kernel_rfl) (by simp) ?_
              refine AllReadyH.cons rfl (fun K hK => ?_) AllReadyH.nil
              go_simp
              refine hK.out _ _ trivial (fun _ => ?_)
              clear hK K
              refine wpAnyH_ready (rs := [8]) (by kernel_rfl) (by simp) ?_
              refine AllReadyH.cons rfl (fun K hK => ?_) AllReadyH.nil
              rw [if_pos (by rfl)]
              refine wp_append_at' _ _ _ 45 rfl (w2.heap.size + 1) 111 i1 _ 2 16 Try.underlying45 hj0 hy0 hy1 hy2 rfl (by decide) (.slice va t.length vc) t.length (pcells t) rfl F3_x49.out.ss ⟨nbx49, 0, none⟩ 1 1 [.int .i64 h3, .int .i64 n5] rfl rfl ?d1x51 ?d2x51 ?d3x51 ?d4x51 ?d5x51 ?_
              case d1x51 => exact nwh_x49.out
              case d2x51 => simp [Value.oneCell']
              case d3x51 => unfold maxLen; omega
              case d4x51 => omega
              case d5x51 => omega
              intro v8 w8 own8 grow8 nn8 at8
              have RT : R3 (w2.heap.size + 1) w8 (.slice a1 s.n.length a2) (.slice b1' s.ws.length b2') v8 ⟨s.n, s.ws, t ++ [(h3, n5)]⟩ := R3.tell (s := ⟨s.n, s.ws, t⟩) (a := (h3, n5)) F3_x49.out own8 grow8 at8
              have s8 : x49.heap.size ≤ w8.heap.size := grow8.size
              have blk : ∀ b, b < x49.heap.size → Value.ownBlock (.slice va t.length vc) ≠ some b → w8.heap[b]? = x49.heap[b]? := fun b hb hne => grow8.block b hb (fun q => hne q.symm)
              have nob : ∀ b, b < w2.heap.size + 1 → Value.ownBlock (.slice va t.length vc) ≠ some b := fun b hb e => by have := (World.ownsRow.lt F3_x49.out.ss b e).1; omega
              have G8 : C3 w8 bx (.slice a1 s.n.length a2) (.slice b1' s.ws.length b2') (.slice va t.length vc) := C3.frame F1_x49.out (blk bx fb_x49 hcb)
              have Z8 : C3 w8 w.heap.size (.slice none 0 0) (.slice none 0 0) (.slice none 0 0) := C3.frame F2_x49.out (blk _ (by omega) (nob _ (by omega)))
              have O8 : Oth (w.heap.size + 1) w2 w8 := F4_x49.out.grown grow8 (fun k hk => by have := (World.ownsRow.lt F3_x49.out.ss k hk).1; omega)
              have D8 : Rd2 w8 (w.heap.size + 1) (50009 - 2 * (k + 1) + 2) := Rd2.mono (Rd2.same RD_x49.out (fun b hb => blk b (by omega) (nob b (by omega)))) (by omega)
              have nb8 : v8.ownBlock ≠ some bx := by
                rcases at8 with e | e
                · rw [e]; exact hcb
                · rw [e]; intro q; have := Option.some.inj q; omega
              obtain ⟨va8, vc8, rfl⟩ := rowg_slice own8
              have HRT : Hid _ := RT
              have HG8 : Hid _ := G8
              have HZ8 : Hid _ := Z8
              have HO8 : Hid _ := O8
              have HD8 : Hid _ := D8
              have HN8 : Hid _ := nb8
              refine hK.out _ _ trivial (fun _ => ?_)
              clear hK K own8 grow8 nn8 at8 RT blk nob Z8 O8 D8 nb8 d2_x49
              refine' wpAnyH_take (i := 9) (v := _) rfl (by kernel_rfl) (by kernel_rfl) (by kernel_rfl) (fun _ _ _ h => h) (Or.inl ⟨by rfl, ?hz53⟩) trivial ?hm53
              case hz53 => (intro wz hSw; go_simp; first | done | with_reducible rfl)
              try simp only [List.getElem_toArray, List.getElem_cons_zero, List.getElem_cons_succ, Act.put, List.setIfInBounds_toArray, List.set_cons_zero, List.set_cons_succ]
              obtain ⟨⟨e0, e1, e2⟩, u0, u1, u2⟩ := G8
              refine wpAnyH_ready (rs := [10]) (by kernel_rfl) (by simp) ?_
              refine AllReadyH.cons rfl (fun K hK => ?_) AllReadyH.nil
              go_simp
              refine hK.out _ _ trivial (fun _ => ?_)
              clear hK K
              refine wpAnyH_done (by kernel_rfl) ?_ _
              have WB : ∀ b, b ≠ bx → (w8.setCell ⟨bx, 2, none⟩ (.slice va8 (t.length + 1) vc8)).heap[b]? = w8.heap[b]? := fun b hb => Below.heap_setCell _ _ _ _ hb
              have G9 : Hid (C3 (w8.setCell ⟨bx, 2, none⟩ (.slice va8 (t.length + 1) vc8)) bx (.slice a1 s.n.length a2) (.slice b1' s.ws.length b2') (.slice va8 (t.length + 1) vc8)) := C3.set2 _ HG8.out
              have Z9 : Hid (C3 (w8.setCell ⟨bx, 2, none⟩ (.slice va8 (t.length + 1) vc8)) w.heap.size (.slice none 0 0) (.slice none 0 0) (.slice none 0 0)) := C3.frame HZ8.out (WB _ (by omega))
              have O9 : Hid (Oth (w.heap.size + 1) w2 (w8.setCell ⟨bx, 2, none⟩ (.slice va8 (t.length + 1) vc8))) := HO8.out.new (by show w2.heap.size ≤ bx; omega) _
              have D9 : Hid (Rd2 (w8.setCell ⟨bx, 2, none⟩ (.slice va8 (t.length + 1) vc8)) (w.heap.size + 1) (50009 - 2 * k)) := Rd2.mono (Rd2.same HD8.out (fun b hb => WB b (by omega))) (by omega)
              have R9 : Hid (R3 (w2.heap.size + 1) (w8.setCell ⟨bx, 2, none⟩ (.slice va8 (t.length + 1) vc8)) (.slice a1 s.n.length a2) (.slice b1' s.ws.length b2') (.slice va8 (t.length + 1) vc8) ⟨s.n, s.ws, t ++ [(h3, n5)]⟩) := R3.far HRT.out _ _ NB1.out.1 NB1.out.2 HN8.out
              have B9 : bx < (w8.setCell ⟨bx, 2, none⟩ (.slice va8 (t.length + 1) vc8)).heap.size := by simp [World.setCell]; omega
              generalize w8.setCell ⟨bx, 2, none⟩ (.slice va8 (t.length + 1) vc8) = w9 at *
              clear WB e0 e1 e2 u0 u1 u2
              have v64 := w64 ((k : Int) + 1 - 1) (by omega)
              have e64 : (k : Int) + 1 - 1 = k := by omega
              go_wp2
              refine ⟨⟨k, t ++ [(h3, n5)], va8, vc8, by omega, by first | rfl | simp [e64], D9.out, O9.out, by simpa using G9.out, Z9.out, by simpa using R9.out, by simpa using HN8.out, ?_, by simp <;> omega, B9⟩, by simp [intOf] <;> omega⟩
              intro x hx
              rcases List.mem_append.1 hx with hx | hx
              · exact HTH.out x hx
              · obtain rfl : x = (h3, n5) := by simpa using hx
                simp [vIn]; omega
      | zero =>
        have HG1 : Hid (C3 wr bx (.slice a1 s.n.length a2) (.slice b1' s.ws.length b2') (.slice va t.length vc)) := hg1
        have HZ1 : Hid (C3 wr w.heap.size (.slice none 0 0) (.slice none 0 0) (.slice none 0 0)) := hz1'
        have HR3' : Hid (R3 (w2.heap.size + 1) wr (.slice a1 s.n.length a2) (.slice b1' s.ws.length b2') (.slice va t.length vc) ⟨s.n, s.ws, t⟩) := hr3
        have HOT : Hid (Oth (w.heap.size + 1) w2 wr) := hot
        have PK5 : Hid _ := pick2 wr.drew (w.heap.size + 1) _ 5 (hrd.same (fun _ _ => rfl)) (by omega) (by omega) (by omega)
        clear hrd hot hg1 hz1' hr3 hth
        go_wp2_with fail
        refine wp_region_held (S := (fun wz => wz.cell? ⟨bx, 0, none⟩ = some (.slice a1 s.n.length a2) ∧ wz.cell? ⟨bx, 1, none⟩ = some (.slice b1' s.ws.length b2') ∧ wz.cell? ⟨bx, 2, none⟩ = some (.slice va t.length vc))) (by kernel_rfl) ?_
        change wpAnyH _ _ _ _ _ _ _ _ (World.drew _)
        have hHeld : wr.drew.cell? ⟨bx, 0, none⟩ = some (.slice a1 s.n.length a2) ∧ wr.drew.cell? ⟨bx, 1, none⟩ = some (.slice b1' s.ws.length b2') ∧ wr.drew.cell? ⟨bx, 2, none⟩ = some (.slice va t.length vc) := HG1.out.1
        refine' wpAnyH_take (i := 0) (v := .agg #[.slice a1 s.n.length a2, .slice b1' s.ws.length b2', .slice va t.length vc]) rfl (by kernel_rfl) (by kernel_rfl) (by kernel_rfl) (fun _ _ _ h => h) (Or.inl ⟨by rfl, ?hz54⟩) hHeld ?hm54
        case hz54 => (intro wz hSw; obtain ⟨j0, j1, j2⟩ := hSw; go_simp)
        try simp only [List.getElem_toArray, List.getElem_cons_zero, List.getElem_cons_succ, Act.put, List.setIfInBounds_toArray, List.set_cons_zero, List.set_cons_succ]
        refine' wpAnyH_take (i := 1) (v := _) rfl (by kernel_rfl) (by kernel_rfl) (by kernel_rfl) (fun _ _ _ h => h) (Or.inl ⟨by rfl, ?hz55⟩) hHeld ?hm55
        case hz55 => (intro wz hSw; obtain ⟨j0, j1, j2⟩ := hSw; go_simp; first | done | with_reducible rfl)
        try simp only [List.getElem_toArray, List.getElem_cons_zero, List.getElem_cons_succ, Act.put, List.setIfInBounds_toArray, List.set_cons_zero, List.set_cons_succ]
        refine wpAnyH_ready (rs := [2]) (by kernel_rfl) (by simp) ?_
        refine AllReadyH.cons rfl (fun K hK => ?_) AllReadyH.nil
        go_simp
        refine Calls.mono PK5.out ?_
        rintro e' w7 ⟨h5, rfl, h5l, h5h, rd7, ot7⟩
        have G7 : C3 w7 bx (.slice a1 s.n.length a2) (.slice b1' s.ws.length b2') (.slice va t.length vc) := C3.frame HG1.out (ot7.block bx hbw (by omega))
        have Z7 : C3 w7 w.heap.size (.slice none 0 0) (.slice none 0 0) (.slice none 0 0) := C3.frame HZ1.out (ot7.block w.heap.size (by show w.heap.size < wr.heap.size; omega) (by omega))
        have R7 : Hid (R3 (w2.heap.size + 1) w7 (.slice a1 s.n.length a2) (.slice b1' s.ws.length b2') (.slice va t.length vc) ⟨s.n, s.ws, t⟩) := R3.frame HR3'.out (fun b hb q => ot7.block b hb (fun e => by have := HR3'.out.own_ge q; omega))
        have O7 : Hid (Oth (w.heap.size + 1) w2 w7) := (HOT.out.drew).trans ot7
        have HZ7 : Hid _ := Z7
        have z7 : wr.heap.size ≤ w7.heap.size := ot7.size
        refine hK.out _ _ G7.1 (fun hHeld => ?_)
        clear hK K rd7 ot7 PK5
        have v5 := w64 (h5 - 1) (by omega)
        refine' wpAnyH_take (i := 3) (v := _) rfl (by kernel_rfl) (by kernel_rfl) (by kernel_rfl) (fun _ _ _ h => h) (Or.inl ⟨by rfl, ?hz56⟩) hHeld ?hm56
        case hz56 => (intro wz hSw; obtain ⟨j0, j1, j2⟩ := hSw; go_simp; first | done | with_reducible rfl)
        try simp only [List.getElem_toArray, List.getElem_cons_zero, List.getElem_cons_succ, Act.put, List.setIfInBounds_toArray, List.set_cons_zero, List.set_cons_succ]
        obtain ⟨⟨e0, e1, e2⟩, u0, u1, u2⟩ := Z7
        refine wpAnyH_ready (rs := [4]) (by kernel_rfl) (by simp) ?_
        refine AllReadyH.cons rfl (fun K hK => ?_) AllReadyH.nil
        go_simp
        have nbw : ¬ bx = w.heap.size := by omega
        refine hK.out _ _ ⟨(World.cell?_setCell_other _ _ _ _ (by simp <;> omega)).trans ((World.cell?_setCell_other _ _ _ _ (by simp <;> omega)).trans ((World.cell?_setCell_other _ _ _ _ (by simp <;> omega)).trans hHeld.1)), (World.cell?_setCell_other _ _ _ _ (by simp <;> omega)).trans ((World.cell?_setCell_other _ _ _ _ (by simp <;> omega)).trans ((World.cell?_setCell_other _ _ _ _ (by simp <;> omega)).trans hHeld.2.1)), (World.cell?_setCell_other _ _ _ _ (by simp <;> omega)).trans ((World.cell?_setCell_other _ _ _ _ (by simp <;> omega)).trans ((World.cell?_setCell_other _ _ _ _ (by simp <;> omega)).trans hHeld.2.2))⟩ (fun hHeld => ?_)
        clear hK K
        refine' wpAnyH_take (i := 5) (v := _) rfl (by kernel_rfl) (by kernel_rfl) (by kernel_rfl) (fun _ _ _ h => h) (Or.inl ⟨by rfl, ?hz57⟩) hHeld ?hm57
        case hz57 => (intro wz hSw; obtain ⟨j0, j1, j2⟩ := hSw; go_simp; first | done | with_reducible rfl)
        try simp only [List.getElem_toArray, List.getElem_cons_zero, List.getElem_cons_succ, Act.put, List.setIfInBounds_toArray, List.set_cons_zero, List.set_cons_succ]
        refine wpAnyH_done (by kernel_rfl) ?_ _
        clear hHeld e0 e1 e2 u0 u1 u2
        go_wp2
        have GF := C3.set2 (.slice va t.length vc) (C3.set1 (.slice b1' s.ws.length b2') (C3.set0 (.slice a1 s.n.length a2) HZ7.out))
        obtain ⟨⟨r0, r1, r2⟩, -⟩ := GF
        have WBf : ∀ b, b ≠ w.heap.size → (((w7.setCell ⟨w.heap.size, 0, none⟩ (.slice a1 s.n.length a2)).setCell ⟨w.heap.size, 1, none⟩ (.slice b1' s.ws.length b2')).setCell ⟨w.heap.size, 2, none⟩ (.slice va t.length vc)).heap[b]? = w7.heap[b]? := fun b hb => by rw [Below.heap_setCell _ _ _ _ hb, Below.heap_setCell _ _ _ _ hb, Below.heap_setCell _ _ _ _ hb]
        refine bodyPost_ret (v := .tuple #[.agg #[.slice a1 s.n.length a2, .slice b1' s.ws.length b2', .slice va t.length vc], .int .i64 (h5 - 1)]) (by simp [results, Try.results36, go_sem, r0, r1, r2]) rfl ⟨_, _, _, ⟨s.n, s.ws, t⟩, _, rfl, ?_, ?_, HTH.out, by show t.length ≤ _; omega⟩
        · exact (((HB1.out.trans ((HO2.out.trans O7.out).below (B := w.heap.size) (by omega) (by omega))).setCell (Nat.le_refl _) _).setCell (Nat.le_refl _) _).setCell (Nat.le_refl _) _
        · exact R3.mono (B := w2.heap.size + 1) (R3.frame R7.out (fun b _ q => WBf b (fun e => by have := R7.out.own_ge q; omega))) (by omega)

end Go.Proofs.Ytfhlkehhoanpaaa

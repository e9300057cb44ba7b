/- Steps whose hosts are named otherwise by the model. -/
import Derived.Test.YtkgblkbgebpejaaGreatDoorVtTmt
import Derived.Test.YtkgblkbgebpejaaGreatDoorVtCpy
import Derived.Test.YtkgblkbgebpejaaGreatDoorVtRwx
namespace Go.Proofs.YtkgblkbgebpejaaGreatDoor
open Go.RowKit
set_option linter.unusedSimpArgs false
set_option linter.unusedVariables false
attribute [local go_sem] World.cell?_alloc_some

/-- What steps turned are. -/
def Tq (F : FuncId) (f : Pay → Pay) (rv : Value) (k : Nat) (T : Tr k) (wx : World) (s : Value) : Prop := Calls Tryz.prog F #[s, rv] wx fun e w' => ∃ v' bs, e = .returned v' ∧ Below wx.heap.size wx w' ∧ Own w' k v' (mapT f k T) bs ∧ (∀ b ∈ bs, wx.heap.size ≤ b ∧ b < w'.heap.size) ∧ bs.Nodup
theorem okP_host {n : Int} {p : Pay} (h : okP n p) (hk : p.k = 3) : 0 ≤ p.h ∧ p.h < 3 := by
  obtain ⟨z, h⟩ := h
  unfold payB at h
  rw [if_neg (by omega), if_pos hk] at h
  simp [vIn] at h
  omega
set_option maxHeartbeats 8000000 in
set_option maxRecDepth 20000 in
theorem l14Hosts_rows (zs : List Int) {n : Nat} (d : Nat) (l : List (Pay × Tr d × Tr d)) (s : Value) (ra : Option Addr) (rc : Nat) (w : World) (hR : Rep w (d + 1) s (l : List (Pay × Tr d × Tr d))) (hlen : l.length ≤ 1048576) (hz : zs.length = 3) (hpos : 0 < zs.length) (hN : GRep (Value.int .i64) w (.slice ra zs.length rc) zs)
    (hP : ∀ i (hi : i < l.length), okP n l[i].1)
    (ch : ∀ i (hi : i < l.length) (s : Value) (wx : World), Below w.heap.size w wx → (Rep wx d s l[i].2.1 → Tq 35 (hostF zs) (.slice ra zs.length rc) d l[i].2.1 wx s) ∧ (Rep wx d s l[i].2.2 → Tq 35 (hostF zs) (.slice ra zs.length rc) d l[i].2.2 wx s)) :
    Tq 35 (hostF zs) (.slice ra zs.length rc) (d + 1) (l : List (Pay × Tr d × Tr d)) w s := by
  unfold Tq
  rw [mapT_succ]
  obtain ⟨i0, hi0, hz0, hz1, hz2⟩ := info_parts infoStep
  obtain ⟨a, c, rfl, hlc, hcm, hcell⟩ := hR
  obtain ⟨_, _, he, _, _, hrow⟩ := hN
  obtain ⟨rb, ro, hra, hr0⟩ := hrow 0 hpos
  cases he
  subst hra
  have hrlt : rb < w.heap.size := World.block_lt_of_cell? _ _ hr0
  have RC : Hid (∀ m (hm : m < zs.length) wx, Below w.heap.size w wx → wx.cell? ⟨rb, ro + m, none⟩ = some (.int .i64 zs[m])) := (show ∀ m (hm : m < zs.length) wx, _ from fun m hm wx hb => by
    obtain ⟨b, off, he, hc⟩ := hrow m hm
    cases he
    exact cell_later hb hc)
  have HP : Hid _ := hP
  have HZ : Hid _ := hz
  have HC : Hid (∀ i (hi : i < l.length), ∃ (p : Pay) (T1 T2 : Tr d) (b off : Nat) (ta : Option Addr) (tc : Nat) (ea : Option Addr) (ec : Nat), l[i] = (p, T1, T2) ∧ a = some ⟨b, off, none⟩ ∧ StepAt w b (off + i * 8) p (.slice ta (ln d T1) tc) (.slice ea (ln d T2) ec) ∧
      (∀ wx, Below w.heap.size w wx → Tq 35 (hostF zs) (.slice (some ⟨rb, ro, none⟩) zs.length rc) d T1 wx (.slice ta (ln d T1) tc)) ∧ (∀ wx, Below w.heap.size w wx → Tq 35 (hostF zs) (.slice (some ⟨rb, ro, none⟩) zs.length rc) d T2 wx (.slice ea (ln d T2) ec))) := (show ∀ i (hi : i < l.length), _ by
    intro i hi
    obtain ⟨b, off, t, e, ha, hS, r1, r2⟩ := hcell i hi
    obtain ⟨ta, tc, rfl⟩ := r1.slice
    obtain ⟨ea, ec, rfl⟩ := r2.slice
    exact ⟨_, _, _, b, off, ta, tc, ea, ec, rfl, ha, hS, fun wx hwx => (ch i hi _ wx hwx).1 (r1.below hwx), fun wx hwx => (ch i hi _ wx hwx).2 (r2.below hwx)⟩)
  clear hcell ch hrow hr0 hP hz
  go_enter Tryz.func35, Tryz.ntmps35
  go_wp2
  go_loopw [5, 6] (fun o j wr => ∃ (i : Nat) (parts : List (List Nat)) (ys : List Value), i ≤ l.length ∧ j = .int .i64 i ∧ Below w.heap.size w wr ∧ wr.ownsRow w.heap.size 56 8 o i ys ∧ parts.length = i ∧ (∀ b ∈ parts.flatten, (w.heap.size ≤ b ∧ b < wr.heap.size) ∧ some b ≠ o.ownBlock) ∧ parts.flatten.Nodup ∧
      ∀ q (hq : q < l.length), q < i → ∃ t e b1 b2, parts[q]? = some (b1 ++ b2) ∧ (∀ j, j < 8 → ys[q * 8 + j]? = (cells8 (hostF zs l[q].1) t e)[j]?) ∧ Own wr d t (mapT (hostF zs) d l[q].2.1) b1 ∧ Own wr d e (mapT (hostF zs) d l[q].2.2) b2) (fun _ j _ => l.length - (intOf j).toNat)
  case atStart => exact ⟨0, [], [], by omega, rfl, (Below.refl _ _).alloc (Nat.le_refl _) _, World.ownsRow_made w #[] 0 (Nat.le_refl _) (by unfold maxLen; omega) (by simp), rfl, by simp, by simp, fun q _ h => by omega⟩
  case round =>
    obtain ⟨i, parts, ys, hi, rfl, hbr, hor, hpl, hrg, hnd, hown⟩ := hrel
    have hsz : w.heap.size ≤ wr.heap.size := hbr.size
    by_cases hlt : i < l.length
    · obtain ⟨p, T1, T2, b, off, ta, tc, ea, ec, hx, rfl, hS, ch1, ch2⟩ := HC.out i hlt
      have hp := HP.out i hlt
      rw [hx] at hp
      dsimp only at hp
      obtain ⟨pk, pv, pvk, pva, pvb, ph⟩ := p
      obtain ⟨k0, k1, k2, k3, k4, k5, k6, k7⟩ := hS.on (w' := wr) (fun a v h => cell_later hbr h)
      dsimp only at k0 k1 k2 k3 k4 k5
      have i0' : (0 : Int) ≤ (i : Int) := by omega
      have i1' : (i : Int) < (l.length : Int) := by omega
      obtain ⟨ga, gc, rfl⟩ := row_slice hor
      have gblk : ∀ k, (Value.slice ga i gc).ownBlock = some k → k < wr.heap.size := fun k hk => (World.ownsRow.lt hor k hk).2
      obtain ⟨U1, hU1⟩ : ∃ U, mapT (hostF zs) d T1 = U := ⟨_, rfl⟩
      obtain ⟨U2, hU2⟩ : ∃ U, mapT (hostF zs) d T2 = U := ⟨_, rfl⟩
      have HU1 : Hid _ := hU1
      have HU2 : Hid _ := hU2
      have HOR : Hid (wr.ownsRow w.heap.size 56 8 (.slice ga i gc) i ys) := hor
      have HRG : Hid (∀ b ∈ parts.flatten, (w.heap.size ≤ b ∧ b < wr.heap.size) ∧ some b ≠ (Value.slice ga i gc).ownBlock) := hrg
      have HOW : Hid _ := hown
      have HBR : Hid (Below w.heap.size w wr) := hbr
      have CH1 : Hid _ := ch1
      have CH2 : Hid _ := ch2
      have HGB : Hid _ := gblk
      have rne : ¬ rb = wr.heap.size := by omega
      have rne' : ¬ wr.heap.size = rb := by omega
      clear hS hor hrg hown hbr ch1 ch2 gblk hU1 hU2
      by_cases hk : pk = 3
      · subst hk
        have hh := okP_host hp rfl
        dsimp only at hh
        obtain ⟨m, rfl⟩ := Int.eq_ofNat_of_zero_le hh.1
        have hm : m < zs.length := by rw [HZ.out]; omega
        have c0 := RC.out m hm wr HBR.out
        have hg : zs.getD m 0 = zs[m] := by simp [List.getD_eq_getElem?_getD, List.getElem?_eq_getElem hm]
        have HG : Hid _ := hg
        have m0 : (0 : Int) ≤ (m : Int) := by omega
        have m1 : (m : Int) < (zs.length : Int) := by omega
        clear hg
        generalize zs[m] = y at *
        have HF : Hid (hostF zs ⟨3, pv, pvk, pva, pvb, (m : Int)⟩ = ⟨3, pv, pvk, pva, pvb, y⟩) := (show hostF zs ⟨3, pv, pvk, pva, pvb, (m : Int)⟩ = ⟨3, pv, pvk, pva, pvb, y⟩ by unfold hostF; rw [if_pos rfl]; show Pay.mk 3 pv pvk pva pvb (zs.getD m 0) = _; rw [HG.out])
        have A1 := C8.new wr (.int .i64 3) (.int .i64 pv) (.int .i64 pvk) (.int .i64 pva) (.int .i64 pvb) (.int .i64 y) (.slice ta (ln d T1) tc) (.slice ea (ln d T2) ec) 56
        have B1 : Below w.heap.size w (wr.alloc (.cells #[.int .i64 3, .int .i64 pv, .int .i64 pvk, .int .i64 pva, .int .i64 pvb, .int .i64 y, .slice ta (ln d T1) tc, .slice ea (ln d T2) ec] 56)) := HBR.out.alloc hsz _
        have B0 : Below wr.heap.size wr (wr.alloc (.cells #[.int .i64 3, .int .i64 pv, .int .i64 pvk, .int .i64 pva, .int .i64 pvb, .int .i64 y, .slice ta (ln d T1) tc, .slice ea (ln d T2) ec] 56)) := (Below.refl wr.heap.size wr).alloc (Nat.le_refl _) _
        have z1 : (wr.alloc (.cells #[.int .i64 3, .int .i64 pv, .int .i64 pvk, .int .i64 pva, .int .i64 pvb, .int .i64 y, .slice ta (ln d T1) tc, .slice ea (ln d T2) ec] 56)).heap.size = wr.heap.size + 1 := by simp [World.setCell]
        obtain ⟨W1, hW1⟩ : ∃ W, wr.alloc (.cells #[.int .i64 3, .int .i64 pv, .int .i64 pvk, .int .i64 pva, .int .i64 pvb, .int .i64 y, .slice ta (ln d T1) tc, .slice ea (ln d T2) ec] 56) = W := ⟨_, rfl⟩
        rw [hW1] at A1 B1 B0 z1
        have HW1 : Hid _ := hW1
        have HA1 : Hid (C8 W1 wr.heap.size (.int .i64 3) (.int .i64 pv) (.int .i64 pvk) (.int .i64 pva) (.int .i64 pvb) (.int .i64 y) (.slice ta (ln d T1) tc) (.slice ea (ln d T2) ec)) := A1
        have HB0 : Hid (Below wr.heap.size wr W1) := B0
        have C1 : Hid _ := CH1.out _ B1
        have HZ1 : Hid (W1.heap.size = wr.heap.size + 1) := z1
        clear A1 B1 B0 hW1 z1
        go_wp2_with fail
        rw [HW1.out]
        clear HW1
        (try go_at_call 35); refine Calls.mono C1.out ?_
        rintro e w1 ⟨t', b1, rfl, hb1, o1, r1, n1⟩
        rw [HU1.out] at o1
        obtain ⟨ta', tc', rfl⟩ := o1.slice
        have s1 : wr.heap.size < w1.heap.size := by have := hb1.size; have := HZ1.out; omega
        replace r1 : ∀ b ∈ b1, wr.heap.size < b ∧ b < w1.heap.size := fun b hb => by have := r1 b hb; have := HZ1.out; omega
        have A1 := C8.below HA1.out hb1
        have HA1' : Hid (C8 w1 wr.heap.size (.int .i64 3) (.int .i64 pv) (.int .i64 pvk) (.int .i64 pva) (.int .i64 pvb) (.int .i64 y) (.slice ta (ln d T1) tc) (.slice ea (ln d T2) ec)) := A1
        have W1' : Hid (Below wr.heap.size wr w1) := Below.then HB0.out hb1 HB0.out.size
        have HR1 : Hid _ := r1
        have HO1 : Hid (Own w1 d (.slice ta' (ln d U1) tc') U1 b1) := o1
        obtain ⟨⟨x0, x1, x2, x3, x4, x5, x6, x7⟩, y0, y1, y2, y3, y4, y5, y6, y7⟩ := A1
        clear k0 k1 k2 k3 k4 k5 k6 k7 hb1 o1 r1 HA1 C1 HB0
        have B2 : Below wr.heap.size wr (w1.setCell ⟨wr.heap.size, 6, none⟩ (.slice ta' (ln d U1) tc')) := W1'.out.setCell (Nat.le_refl _) _
        have C2 : Hid _ := CH2.out _ (Below.then HBR.out B2 hsz)
        have A2 := HA1'.out.set6 (.slice ta' (ln d U1) tc')
        have ne1 : ∀ b ∈ b1, b ≠ wr.heap.size := fun b hb => by have := HR1.out b hb; omega
        have o1 : Own (w1.setCell ⟨wr.heap.size, 6, none⟩ (.slice ta' (ln d U1) tc')) d (.slice ta' (ln d U1) tc') U1 b1 := Own.set HO1.out (a := ⟨wr.heap.size, 6, none⟩) ne1 _
        have s2 : (w1.setCell ⟨wr.heap.size, 6, none⟩ (.slice ta' (ln d U1) tc')).heap.size = w1.heap.size := by simp [World.setCell]
        obtain ⟨w2, hw2⟩ : ∃ W, w1.setCell ⟨wr.heap.size, 6, none⟩ (.slice ta' (ln d U1) tc') = W := ⟨_, rfl⟩
        rw [hw2] at B2 C2 A2 o1 s2
        have HW2 : Hid _ := hw2
        clear hw2
        go_wp2_with fail
        rw [HW2.out]
        clear x0 x1 x2 x3 x4 x5 x6 x7 y0 y1 y2 y3 y4 y5 y6 y7 HA1' HO1 W1' HW2
        (try go_at_call 35); refine Calls.mono C2.out ?_
        rintro e w3 ⟨e', b2, rfl, hb3, o2, r2, n2⟩
        rw [HU2.out] at o2
        obtain ⟨ea', ec', rfl⟩ := o2.slice
        have s3 : w1.heap.size ≤ w3.heap.size := by have := hb3.size; omega
        have lt1 : ∀ b ∈ b1, b < w2.heap.size := fun b hb => by have := HR1.out b hb; omega
        replace o1 := o1.below hb3 lt1
        have A3 := A2.below hb3
        have W3 : Hid (Below wr.heap.size wr w3) := Below.then B2 hb3 B2.size
        have HR2 : Hid (∀ b ∈ b2, w1.heap.size ≤ b ∧ b < w3.heap.size) := (show ∀ b ∈ b2, _ from fun b hb => by have := r2 b hb; omega)
        have HO1 : Hid (Own w3 d (.slice ta' (ln d U1) tc') U1 b1) := o1
        have HO2 : Hid (Own w3 d (.slice ea' (ln d U2) ec') U2 b2) := o2
        have HN1 : Hid _ := n1
        have HN2 : Hid _ := n2
        obtain ⟨⟨x0, x1, x2, x3, x4, x5, x6, x7⟩, y0, y1, y2, y3, y4, y5, y6, y7⟩ := A3
        have W4 : Below wr.heap.size wr (w3.setCell ⟨wr.heap.size, 7, none⟩ (.slice ea' (ln d U2) ec')) := W3.out.setCell (Nat.le_refl _) _
        have OR4 := row_below HOR.out W4
        have s4 : (w3.setCell ⟨wr.heap.size, 7, none⟩ (.slice ea' (ln d U2) ec')).heap.size = w3.heap.size := by simp [World.setCell]
        have HW4 : Hid _ := W4
        clear hb3 o1 o2 r2 n1 n2 A2 B2 C2 ne1 lt1 W4
        go_wp2_with (at_builtin; refine wpList_append_own_at _ rfl _ _ 24 rfl w.heap.size 56 i0 _ 8 96 Tryz.underlying24 hi0 hz0 hz1 hz2 rfl (by decide) _ _ _ rfl (OR4.alloc _) ⟨w3.heap.size, 0, none⟩ 1 1 (cells8 ⟨3, pv, pvk, pva, pvb, y⟩ (.slice ta' (ln d U1) tc') (.slice ea' (ln d U2) ec')) rfl rfl ?c11 ?c21 ?c31 ?c41 ?c51 ?_)
        case c11 => have := cells8_new (w3.setCell ⟨wr.heap.size, 7, none⟩ (.slice ea' (ln d U2) ec')) ⟨3, pv, pvk, pva, pvb, y⟩ (.slice ta' (ln d U1) tc') (.slice ea' (ln d U2) ec') 56; rw [s4] at this; exact this
        case c21 => exact cells8_one _ _ _ _ _ _ _
        case c31 => unfold maxLen; omega
        case c41 => omega
        case c51 => simp [World.setCell]; omega
        intro v5 w5 hown5 hgrow5 _ hat5
        have sM : ((w3.setCell ⟨wr.heap.size, 7, none⟩ (.slice ea' (ln d U2) ec')).alloc (.cells (cells8 ⟨3, pv, pvk, pva, pvb, y⟩ (.slice ta' (ln d U1) tc') (.slice ea' (ln d U2) ec')).toArray 56)).heap.size = w3.heap.size + 1 := by simp [World.setCell]
        have BM : Below wr.heap.size wr ((w3.setCell ⟨wr.heap.size, 7, none⟩ (.slice ea' (ln d U2) ec')).alloc (.cells (cells8 ⟨3, pv, pvk, pva, pvb, y⟩ (.slice ta' (ln d U1) tc') (.slice ea' (ln d U2) ec')).toArray 56)) := HW4.out.alloc (by rw [s4]; omega) _
        have sM' : ∀ b, b < w3.heap.size + 1 → b < ((w3.setCell ⟨wr.heap.size, 7, none⟩ (.slice ea' (ln d U2) ec')).alloc (.cells (cells8 ⟨3, pv, pvk, pva, pvb, y⟩ (.slice ta' (ln d U1) tc') (.slice ea' (ln d U2) ec')).toArray 56)).heap.size := fun b h => by rw [sM]; exact h
        have B5 : Below w.heap.size w w5 := (Below.then HBR.out BM hsz).grown hgrow5 (by rw [sM]; omega) (fun j hj => (World.ownsRow.lt HOR.out j hj).1)
        have s5 : w3.heap.size + 1 ≤ w5.heap.size := by have := hgrow5.size; exact sM ▸ this
        have hgb : ∀ k, (Value.slice ga i gc).ownBlock = some k → k < wr.heap.size := HGB.out
        have hold : ∀ b, b < wr.heap.size → some b ≠ (Value.slice ga i gc).ownBlock → w5.heap[b]? = wr.heap[b]? := fun b hb hne => (hgrow5.block b (sM' b (by omega)) hne).trans (BM.block b hb)
        have hnew : ∀ b, wr.heap.size < b → b < w3.heap.size → w5.heap[b]? = w3.heap[b]? := fun b h1 h2 => (hgrow5.block b (sM' b (by omega)) (fun e => by have := hgb b e.symm; omega)).trans ((Below.heap_alloc _ _ _ (by rw [s4]; exact h2)).trans (Below.heap_setCell _ _ _ _ (by show b ≠ wr.heap.size; omega)))
        have hobk : ∀ b, b < w3.heap.size + 1 → some b ≠ (Value.slice ga i gc).ownBlock → some b ≠ v5.ownBlock := fun b h1 h2 e => by
          rcases hat5 with h | h
          · exact h2 (e.trans h)
          · rw [h] at e
            have e' := Option.some.inj e
            try simp [World.setCell] at e'
            omega
        have ylen : ys.length = i * 8 := HOR.out.1
        have hrg : ∀ b ∈ parts.flatten, (w.heap.size ≤ b ∧ b < wr.heap.size) ∧ some b ≠ (Value.slice ga i gc).ownBlock := HRG.out
        have r1 : ∀ b ∈ b1, wr.heap.size < b ∧ b < w1.heap.size := HR1.out
        have r2 : ∀ b ∈ b2, w1.heap.size ≤ b ∧ b < w3.heap.size := HR2.out
        have H5 : Hid (w5.ownsRow w.heap.size 56 8 v5 (i + 1) (ys ++ cells8 ⟨3, pv, pvk, pva, pvb, y⟩ (.slice ta' (ln d U1) tc') (.slice ea' (ln d U2) ec'))) := hown5
        clear hgrow5 hown5 hat5 BM OR4 x0 x1 x2 x3 x4 x5 x6 x7 y0 y1 y2 y3 y4 y5 y6 y7
        go_wp2
        refine ⟨⟨i + 1, parts ++ [b1 ++ b2], ys ++ cells8 ⟨3, pv, pvk, pva, pvb, y⟩ (.slice ta' (ln d U1) tc') (.slice ea' (ln d U2) ec'), by omega, by simp, B5, H5.out, by simp [hpl], ?_, ?_, ?_⟩, by simp [intOf]; omega⟩
        · intro b hb
          rw [List.flatten_append] at hb
          rcases List.mem_append.1 hb with hb | hb
          · have := hrg b hb
            exact ⟨⟨this.1.1, by omega⟩, hobk b (by omega) this.2⟩
          · have hb' : b ∈ b1 ++ b2 := by simpa using hb
            have hbb : wr.heap.size < b ∧ b < w3.heap.size := by
              rcases List.mem_append.1 hb' with h | h
              · have := r1 b h; omega
              · have := r2 b h; omega
            exact ⟨⟨by omega, by omega⟩, hobk b (by omega) (fun e => by have := hgb b e.symm; omega)⟩
        · rw [List.flatten_append]
          refine List.nodup_append.2 ⟨hnd, ?_, ?_⟩
          · simp only [List.flatten_cons, List.flatten_nil, List.append_nil]
            refine List.nodup_append.2 ⟨HN1.out, HN2.out, ?_⟩
            intro a ha b hb
            have := r1 a ha
            have := r2 b hb
            omega
          · intro a ha b hb
            have h1 := hrg a ha
            have hb' : b ∈ b1 ++ b2 := by simpa using hb
            rcases List.mem_append.1 hb' with h | h
            · have := r1 b h; omega
            · have := r2 b h; omega
        · intro q hq hqi
          by_cases hqe : q = i
          · subst hqe
            refine ⟨.slice ta' (ln d U1) tc', .slice ea' (ln d U2) ec', b1, b2, by rw [List.getElem?_append_right (by omega), hpl]; simp, ?_, ?_, ?_⟩
            · intro j hj
              rw [hx]
              dsimp only
              rw [HF.out, List.getElem?_append_right (by omega), ylen, show q * 8 + j - q * 8 = j by omega]
            · rw [hx]; dsimp only; rw [HU1.out]; exact Own.frame (fun b hb => by have := r1 b hb; exact hnew b this.1 (by omega)) HO1.out
            · rw [hx]; dsimp only; rw [HU2.out]; exact Own.frame (fun b hb => by have := r2 b hb; exact hnew b (by omega) this.2) HO2.out
          · obtain ⟨t, e, c1, c2, hp1, hra, oo1, oo2⟩ := HOW.out q hq (by omega)
            have hm : ∀ b ∈ c1 ++ c2, b ∈ parts.flatten := fun b hbm => List.mem_flatten.2 ⟨_, List.mem_of_getElem? hp1, hbm⟩
            refine ⟨t, e, c1, c2, by rw [List.getElem?_append_left (by omega)]; exact hp1, ?_, ?_, ?_⟩
            · intro j hj
              rw [List.getElem?_append_left (by rw [ylen]; omega)]; exact hra j hj
            · exact Own.frame (fun b hb => by have := hrg b (hm b (List.mem_append_left _ hb)); exact hold b this.1.2 this.2) oo1
            · exact Own.frame (fun b hb => by have := hrg b (hm b (List.mem_append_right _ hb)); exact hold b this.1.2 this.2) oo2
      · have HF : Hid (hostF zs ⟨pk, pv, pvk, pva, pvb, ph⟩ = ⟨pk, pv, pvk, pva, pvb, ph⟩) := (show hostF zs ⟨pk, pv, pvk, pva, pvb, ph⟩ = ⟨pk, pv, pvk, pva, pvb, ph⟩ by unfold hostF; rw [if_neg hk])
        have A1 := C8.new wr (.int .i64 pk) (.int .i64 pv) (.int .i64 pvk) (.int .i64 pva) (.int .i64 pvb) (.int .i64 ph) (.slice ta (ln d T1) tc) (.slice ea (ln d T2) ec) 56
        have B1 : Below w.heap.size w (wr.alloc (.cells #[.int .i64 pk, .int .i64 pv, .int .i64 pvk, .int .i64 pva, .int .i64 pvb, .int .i64 ph, .slice ta (ln d T1) tc, .slice ea (ln d T2) ec] 56)) := HBR.out.alloc hsz _
        have B0 : Below wr.heap.size wr (wr.alloc (.cells #[.int .i64 pk, .int .i64 pv, .int .i64 pvk, .int .i64 pva, .int .i64 pvb, .int .i64 ph, .slice ta (ln d T1) tc, .slice ea (ln d T2) ec] 56)) := (Below.refl wr.heap.size wr).alloc (Nat.le_refl _) _
        have z1 : (wr.alloc (.cells #[.int .i64 pk, .int .i64 pv, .int .i64 pvk, .int .i64 pva, .int .i64 pvb, .int .i64 ph, .slice ta (ln d T1) tc, .slice ea (ln d T2) ec] 56)).heap.size = wr.heap.size + 1 := by simp [World.setCell]
        obtain ⟨W1, hW1⟩ : ∃ W, wr.alloc (.cells #[.int .i64 pk, .int .i64 pv, .int .i64 pvk, .int .i64 pva, .int .i64 pvb, .int .i64 ph, .slice ta (ln d T1) tc, .slice ea (ln d T2) ec] 56) = W := ⟨_, rfl⟩
        rw [hW1] at A1 B1 B0 z1
        have HW1 : Hid _ := hW1
        have HA1 : Hid (C8 W1 wr.heap.size (.int .i64 pk) (.int .i64 pv) (.int .i64 pvk) (.int .i64 pva) (.int .i64 pvb) (.int .i64 ph) (.slice ta (ln d T1) tc) (.slice ea (ln d T2) ec)) := A1
        have HB0 : Hid (Below wr.heap.size wr W1) := B0
        have C1 : Hid _ := CH1.out _ B1
        have HZ1 : Hid (W1.heap.size = wr.heap.size + 1) := z1
        clear A1 B1 B0 hW1 z1
        go_wp2_with fail
        rw [HW1.out]
        clear HW1
        (try go_at_call 35); refine Calls.mono C1.out ?_
        rintro e w1 ⟨t', b1, rfl, hb1, o1, r1, n1⟩
        rw [HU1.out] at o1
        obtain ⟨ta', tc', rfl⟩ := o1.slice
        have s1 : wr.heap.size < w1.heap.size := by have := hb1.size; have := HZ1.out; omega
        replace r1 : ∀ b ∈ b1, wr.heap.size < b ∧ b < w1.heap.size := fun b hb => by have := r1 b hb; have := HZ1.out; omega
        have A1 := C8.below HA1.out hb1
        have HA1' : Hid (C8 w1 wr.heap.size (.int .i64 pk) (.int .i64 pv) (.int .i64 pvk) (.int .i64 pva) (.int .i64 pvb) (.int .i64 ph) (.slice ta (ln d T1) tc) (.slice ea (ln d T2) ec)) := A1
        have W1' : Hid (Below wr.heap.size wr w1) := Below.then HB0.out hb1 HB0.out.size
        have HR1 : Hid _ := r1
        have HO1 : Hid (Own w1 d (.slice ta' (ln d U1) tc') U1 b1) := o1
        obtain ⟨⟨x0, x1, x2, x3, x4, x5, x6, x7⟩, y0, y1, y2, y3, y4, y5, y6, y7⟩ := A1
        clear k0 k1 k2 k3 k4 k5 k6 k7 hb1 o1 r1 HA1 C1 HB0
        have B2 : Below wr.heap.size wr (w1.setCell ⟨wr.heap.size, 6, none⟩ (.slice ta' (ln d U1) tc')) := W1'.out.setCell (Nat.le_refl _) _
        have C2 : Hid _ := CH2.out _ (Below.then HBR.out B2 hsz)
        have A2 := HA1'.out.set6 (.slice ta' (ln d U1) tc')
        have ne1 : ∀ b ∈ b1, b ≠ wr.heap.size := fun b hb => by have := HR1.out b hb; omega
        have o1 : Own (w1.setCell ⟨wr.heap.size, 6, none⟩ (.slice ta' (ln d U1) tc')) d (.slice ta' (ln d U1) tc') U1 b1 := Own.set HO1.out (a := ⟨wr.heap.size, 6, none⟩) ne1 _
        have s2 : (w1.setCell ⟨wr.heap.size, 6, none⟩ (.slice ta' (ln d U1) tc')).heap.size = w1.heap.size := by simp [World.setCell]
        obtain ⟨w2, hw2⟩ : ∃ W, w1.setCell ⟨wr.heap.size, 6, none⟩ (.slice ta' (ln d U1) tc') = W := ⟨_, rfl⟩
        rw [hw2] at B2 C2 A2 o1 s2
        have HW2 : Hid _ := hw2
        clear hw2
        go_wp2_with fail
        rw [HW2.out]
        clear x0 x1 x2 x3 x4 x5 x6 x7 y0 y1 y2 y3 y4 y5 y6 y7 HA1' HO1 W1' HW2
        (try go_at_call 35); refine Calls.mono C2.out ?_
        rintro e w3 ⟨e', b2, rfl, hb3, o2, r2, n2⟩
        rw [HU2.out] at o2
        obtain ⟨ea', ec', rfl⟩ := o2.slice
        have s3 : w1.heap.size ≤ w3.heap.size := by have := hb3.size; omega
        have lt1 : ∀ b ∈ b1, b < w2.heap.size := fun b hb => by have := HR1.out b hb; omega
        replace o1 := o1.below hb3 lt1
        have A3 := A2.below hb3
        have W3 : Hid (Below wr.heap.size wr w3) := Below.then B2 hb3 B2.size
        have HR2 : Hid (∀ b ∈ b2, w1.heap.size ≤ b ∧ b < w3.heap.size) := (show ∀ b ∈ b2, _ from fun b hb => by have := r2 b hb; omega)
        have HO1 : Hid (Own w3 d (.slice ta' (ln d U1) tc') U1 b1) := o1
        have HO2 : Hid (Own w3 d (.slice ea' (ln d U2) ec') U2 b2) := o2
        have HN1 : Hid _ := n1
        have HN2 : Hid _ := n2
        obtain ⟨⟨x0, x1, x2, x3, x4, x5, x6, x7⟩, y0, y1, y2, y3, y4, y5, y6, y7⟩ := A3
        have W4 : Below wr.heap.size wr (w3.setCell ⟨wr.heap.size, 7, none⟩ (.slice ea' (ln d U2) ec')) := W3.out.setCell (Nat.le_refl _) _
        have OR4 := row_below HOR.out W4
        have s4 : (w3.setCell ⟨wr.heap.size, 7, none⟩ (.slice ea' (ln d U2) ec')).heap.size = w3.heap.size := by simp [World.setCell]
        have HW4 : Hid _ := W4
        clear hb3 o1 o2 r2 n1 n2 A2 B2 C2 ne1 lt1 W4
        go_wp2_with (at_builtin; refine wpList_append_own_at _ rfl _ _ 24 rfl w.heap.size 56 i0 _ 8 96 Tryz.underlying24 hi0 hz0 hz1 hz2 rfl (by decide) _ _ _ rfl (OR4.alloc _) ⟨w3.heap.size, 0, none⟩ 1 1 (cells8 ⟨pk, pv, pvk, pva, pvb, ph⟩ (.slice ta' (ln d U1) tc') (.slice ea' (ln d U2) ec')) rfl rfl ?c12 ?c22 ?c32 ?c42 ?c52 ?_)
        case c12 => have := cells8_new (w3.setCell ⟨wr.heap.size, 7, none⟩ (.slice ea' (ln d U2) ec')) ⟨pk, pv, pvk, pva, pvb, ph⟩ (.slice ta' (ln d U1) tc') (.slice ea' (ln d U2) ec') 56; rw [s4] at this; exact this
        case c22 => exact cells8_one _ _ _ _ _ _ _
        case c32 => unfold maxLen; omega
        case c42 => omega
        case c52 => simp [World.setCell]; omega
        intro v5 w5 hown5 hgrow5 _ hat5
        have sM : ((w3.setCell ⟨wr.heap.size, 7, none⟩ (.slice ea' (ln d U2) ec')).alloc (.cells (cells8 ⟨pk, pv, pvk, pva, pvb, ph⟩ (.slice ta' (ln d U1) tc') (.slice ea' (ln d U2) ec')).toArray 56)).heap.size = w3.heap.size + 1 := by simp [World.setCell]
        have BM : Below wr.heap.size wr ((w3.setCell ⟨wr.heap.size, 7, none⟩ (.slice ea' (ln d U2) ec')).alloc (.cells (cells8 ⟨pk, pv, pvk, pva, pvb, ph⟩ (.slice ta' (ln d U1) tc') (.slice ea' (ln d U2) ec')).toArray 56)) := HW4.out.alloc (by rw [s4]; omega) _
        have sM' : ∀ b, b < w3.heap.size + 1 → b < ((w3.setCell ⟨wr.heap.size, 7, none⟩ (.slice ea' (ln d U2) ec')).alloc (.cells (cells8 ⟨pk, pv, pvk, pva, pvb, ph⟩ (.slice ta' (ln d U1) tc') (.slice ea' (ln d U2) ec')).toArray 56)).heap.size := fun b h => by rw [sM]; exact h
        have B5 : Below w.heap.size w w5 := (Below.then HBR.out BM hsz).grown hgrow5 (by rw [sM]; omega) (fun j hj => (World.ownsRow.lt HOR.out j hj).1)
        have s5 : w3.heap.size + 1 ≤ w5.heap.size := by have := hgrow5.size; exact sM ▸ this
        have hgb : ∀ k, (Value.slice ga i gc).ownBlock = some k → k < wr.heap.size := HGB.out
        have hold : ∀ b, b < wr.heap.size → some b ≠ (Value.slice ga i gc).ownBlock → w5.heap[b]? = wr.heap[b]? := fun b hb hne => (hgrow5.block b (sM' b (by omega)) hne).trans (BM.block b hb)
        have hnew : ∀ b, wr.heap.size < b → b < w3.heap.size → w5.heap[b]? = w3.heap[b]? := fun b h1 h2 => (hgrow5.block b (sM' b (by omega)) (fun e => by have := hgb b e.symm; omega)).trans ((Below.heap_alloc _ _ _ (by rw [s4]; exact h2)).trans (Below.heap_setCell _ _ _ _ (by show b ≠ wr.heap.size; omega)))
        have hobk : ∀ b, b < w3.heap.size + 1 → some b ≠ (Value.slice ga i gc).ownBlock → some b ≠ v5.ownBlock := fun b h1 h2 e => by
          rcases hat5 with h | h
          · exact h2 (e.trans h)
          · rw [h] at e
            have e' := Option.some.inj e
            try simp [World.setCell] at e'
            omega
        have ylen : ys.length = i * 8 := HOR.out.1
        have hrg : ∀ b ∈ parts.flatten, (w.heap.size ≤ b ∧ b < wr.heap.size) ∧ some b ≠ (Value.slice ga i gc).ownBlock := HRG.out
        have r1 : ∀ b ∈ b1, wr.heap.size < b ∧ b < w1.heap.size := HR1.out
        have r2 : ∀ b ∈ b2, w1.heap.size ≤ b ∧ b < w3.heap.size := HR2.out
        have H5 : Hid (w5.ownsRow w.heap.size 56 8 v5 (i + 1) (ys ++ cells8 ⟨pk, pv, pvk, pva, pvb, ph⟩ (.slice ta' (ln d U1) tc') (.slice ea' (ln d U2) ec'))) := hown5
        clear hgrow5 hown5 hat5 BM OR4 x0 x1 x2 x3 x4 x5 x6 x7 y0 y1 y2 y3 y4 y5 y6 y7
        go_wp2
        refine ⟨⟨i + 1, parts ++ [b1 ++ b2], ys ++ cells8 ⟨pk, pv, pvk, pva, pvb, ph⟩ (.slice ta' (ln d U1) tc') (.slice ea' (ln d U2) ec'), by omega, by simp, B5, H5.out, by simp [hpl], ?_, ?_, ?_⟩, by simp [intOf]; omega⟩
        · intro b hb
          rw [List.flatten_append] at hb
          rcases List.mem_append.1 hb with hb | hb
          · have := hrg b hb
            exact ⟨⟨this.1.1, by omega⟩, hobk b (by omega) this.2⟩
          · have hb' : b ∈ b1 ++ b2 := by simpa using hb
            have hbb : wr.heap.size < b ∧ b < w3.heap.size := by
              rcases List.mem_append.1 hb' with h | h
              · have := r1 b h; omega
              · have := r2 b h; omega
            exact ⟨⟨by omega, by omega⟩, hobk b (by omega) (fun e => by have := hgb b e.symm; omega)⟩
        · rw [List.flatten_append]
          refine List.nodup_append.2 ⟨hnd, ?_, ?_⟩
          · simp only [List.flatten_cons, List.flatten_nil, List.append_nil]
            refine List.nodup_append.2 ⟨HN1.out, HN2.out, ?_⟩
            intro a ha b hb
            have := r1 a ha
            have := r2 b hb
            omega
          · intro a ha b hb
            have h1 := hrg a ha
            have hb' : b ∈ b1 ++ b2 := by simpa using hb
            rcases List.mem_append.1 hb' with h | h
            · have := r1 b h; omega
            · have := r2 b h; omega
        · intro q hq hqi
          by_cases hqe : q = i
          · subst hqe
            refine ⟨.slice ta' (ln d U1) tc', .slice ea' (ln d U2) ec', b1, b2, by rw [List.getElem?_append_right (by omega), hpl]; simp, ?_, ?_, ?_⟩
            · intro j hj
              rw [hx]
              dsimp only
              rw [HF.out, List.getElem?_append_right (by omega), ylen, show q * 8 + j - q * 8 = j by omega]
            · rw [hx]; dsimp only; rw [HU1.out]; exact Own.frame (fun b hb => by have := r1 b hb; exact hnew b this.1 (by omega)) HO1.out
            · rw [hx]; dsimp only; rw [HU2.out]; exact Own.frame (fun b hb => by have := r2 b hb; exact hnew b (by omega) this.2) HO2.out
          · obtain ⟨t, e, c1, c2, hp1, hra, oo1, oo2⟩ := HOW.out q hq (by omega)
            have hm : ∀ b ∈ c1 ++ c2, b ∈ parts.flatten := fun b hbm => List.mem_flatten.2 ⟨_, List.mem_of_getElem? hp1, hbm⟩
            refine ⟨t, e, c1, c2, by rw [List.getElem?_append_left (by omega)]; exact hp1, ?_, ?_, ?_⟩
            · intro j hj
              rw [List.getElem?_append_left (by rw [ylen]; omega)]; exact hra j hj
            · exact Own.frame (fun b hb => by have := hrg b (hm b (List.mem_append_left _ hb)); exact hold b this.1.2 this.2) oo1
            · exact Own.frame (fun b hb => by have := hrg b (hm b (List.mem_append_right _ hb)); exact hold b this.1.2 this.2) oo2
    · have hie : i = l.length := by omega
      subst hie
      have HOR : Hid _ := hor
      have HRG : Hid _ := hrg
      have HOW : Hid _ := hown
      have HBR : Hid (Below w.heap.size w wr) := hbr
      clear hor hrg hown hbr
      go_wp2
      go_ret
      have hor : wr.ownsRow w.heap.size 56 8 u5 l.length ys := HOR.out
      by_cases hz : l.length = 0
      · obtain ⟨ga, gc, hu⟩ := row_slice hor
        have hgc : gc ≤ maxLen := by
          obtain ⟨_, ⟨h1, _⟩ | ⟨g, cap, cur, hv, hg, hh, hc, hm, hs, ht⟩⟩ := hor
          · rw [h1] at hu; simp only [Value.slice.injEq] at hu; unfold maxLen; omega
          · rw [hv] at hu; simp only [Value.slice.injEq] at hu; omega
        exact ⟨_, [], rfl, HBR.out, .inl ⟨by rw [mapL_len]; exact hz, ⟨ga, gc, by rw [hz] at hu; exact hu, hgc⟩, rfl⟩, by simp, by simp⟩
      · obtain ⟨hy, ⟨h1, h2⟩ | ⟨g, cap, cur, hv, hg, hh, hc, hm, hs, ht⟩⟩ := id hor
        · omega
        · subst hv
          have gl := World.ownsRow.lt hor g rfl
          refine ⟨_, g :: parts.flatten, rfl, HBR.out, .inr ⟨by rw [mapL_len]; omega, g, cap, parts, by rw [mapL_len]; rfl, by rw [mapL_len]; exact hc, hm, by rw [mapL_len]; exact row_there hor, by rw [mapL_len]; exact hpl, rfl, fun q hq => ?_⟩, ?_, ?_⟩
          · have hq' : q < l.length := by rwa [mapL_len] at hq
            obtain ⟨t, e, c1, c2, hp1, hra, oo1, oo2⟩ := HOW.out q hq' hq'
            rw [mapL_get]
            exact ⟨t, e, c1, c2, hp1, rows_range hor hra rfl, oo1, oo2⟩
          · intro b hb
            rcases List.mem_cons.1 hb with rfl | hb
            · exact gl
            · exact (HRG.out b hb).1
          · refine List.nodup_cons.2 ⟨fun hm => ?_, hnd⟩
            exact (HRG.out _ hm).2 rfl

theorem l14Hosts_any (zs : List Int) {n : Nat} (ra : Option Addr) (rc : Nat) (hz : zs.length = 3) (hpos : 0 < zs.length) : ∀ (d : Nat) (T : Tr d) (s : Value) (w : World), Rep w d s T → cnt d T ≤ 1048576 → GRep (Value.int .i64) w (.slice ra zs.length rc) zs → allP (okP n) d T → Tq 35 (hostF zs) (.slice ra zs.length rc) d T w s := by
  intro d
  induction d with
  | zero =>
    intro T s w h hc hN hP
    obtain ⟨a, c, rfl⟩ := h
    unfold Tq
    go_enter Tryz.func35, Tryz.ntmps35
    go_wp2
    refine wp_loop_rounds 1 ?_
    rw [rounds_succ]
    go_wp2
    go_ret
    exact ⟨_, [], rfl, (Below.refl _ _).alloc (Nat.le_refl _) _, ⟨⟨_, _, rfl⟩, rfl⟩, by simp, by simp⟩
  | succ d ih =>
    intro (l : List (Pay × Tr d × Tr d)) s w h hc hN hP
    have hll := ln_le_cnt (d + 1) (l : List (Pay × Tr d × Tr d))
    have hll' : l.length ≤ cnt (d + 1) (l : List (Pay × Tr d × Tr d)) := hll
    refine l14Hosts_rows zs (n := n) d l s ra rc w h (by omega) hz hpos hN (fun i hi => (hP _ (List.getElem_mem hi)).1) ?_
    intro i hi s wx hwx
    have q1 := cnt_take l i hi
    have q2 := cnt_take_le l (i + 1)
    obtain ⟨_, p1, p2⟩ := hP _ (List.getElem_mem hi)
    exact ⟨fun r => ih _ _ _ r (by omega) (hN.below hwx) p1, fun r => ih _ _ _ r (by omega) (hN.below hwx) p2⟩

end Go.Proofs.YtkgblkbgebpejaaGreatDoor

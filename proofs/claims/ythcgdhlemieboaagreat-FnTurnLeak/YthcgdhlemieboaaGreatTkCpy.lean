/- Steps copied by the model. -/
import Derived.Test.YthcgdhlemieboaaGreatTkTmt
namespace Go.Proofs.YthcgdhlemieboaaGreat
open Go.RowKit
set_option linter.unusedSimpArgs false
set_option linter.unusedVariables false
attribute [local go_sem] World.cell?_alloc_some

abbrev Sg : Type := Σ k, Pay × Tr k × Tr k
def SRep (w : World) (s : Value) (xs : List Sg) : Prop := ∃ a c, s = .slice a xs.length c ∧ xs.length ≤ c ∧ c ≤ maxLen ∧
  (∀ i (hi : i < xs.length), ∃ b off t e, a = some ⟨b, off, none⟩ ∧ StepAt w b (off + i * 8) xs[i].2.1 t e ∧ Rep w xs[i].1 t xs[i].2.2.1 ∧ Rep w xs[i].1 e xs[i].2.2.2)
def SOwn (w : World) (s : Value) (xs : List Sg) (bs : List Nat) : Prop := (xs.length = 0 ∧ (∃ a c, s = .slice a 0 c ∧ c ≤ maxLen) ∧ bs = []) ∨
  (0 < xs.length ∧ ∃ (g c : Nat) (parts : List (List Nat)), s = .slice (some ⟨g, 0, none⟩) xs.length c ∧ xs.length ≤ c ∧ c ≤ maxLen ∧ w.there g 0 (xs.length * 8) ∧ parts.length = xs.length ∧ bs = g :: parts.flatten ∧
    ∀ i (hi : i < xs.length), ∃ t e b1 b2, parts[i]? = some (b1 ++ b2) ∧ w.rangeAt g (i * 8) (cells8 xs[i].2.1 t e) ∧ Own w xs[i].1 t xs[i].2.2.1 b1 ∧ Own w xs[i].1 e xs[i].2.2.2 b2)
def Cp (f : FuncId) (k : Nat) (T : Tr k) (wx : World) (s : Value) : Prop := Calls Tryz.prog f #[s] wx fun e w' => ∃ v' bs, e = .returned v' ∧ Below wx.heap.size wx w' ∧ Own w' k v' T bs ∧ (∀ b ∈ bs, wx.heap.size ≤ b ∧ b < w'.heap.size) ∧ bs.Nodup

theorem rows_range {w : World} {base : Nat} {e : TypeId} {g n c : Nat} {ys : List Value} (h : w.ownsRow base e 8 (.slice (some ⟨g, 0, none⟩) n c) n ys) {q : Nat} {cs : List Value} (hq : ∀ j, j < 8 → ys[q * 8 + j]? = cs[j]?) (hcs : cs.length = 8) : w.rangeAt g (q * 8) cs := by
  intro j v hv
  have hj : j < 8 := by rw [← hcs]; exact (List.getElem?_eq_some_iff.1 hv).1
  have := h.cells rfl (q * 8 + j) v ((hq j hj).trans hv)
  rwa [Addr.add_mid, Nat.zero_add] at this

set_option maxHeartbeats 4000000 in
theorem l2Copy_rowsO (xs : List Sg) (s : Value) (w : World) (hR : SRep w s xs) (hlen : xs.length ≤ 1048576)
    (ch : ∀ i (hi : i < xs.length) (s : Value) (wx : World), Below w.heap.size w wx → (Rep wx xs[i].1 s xs[i].2.2.1 → Cp 58 xs[i].1 xs[i].2.2.1 wx s) ∧ (Rep wx xs[i].1 s xs[i].2.2.2 → Cp 58 xs[i].1 xs[i].2.2.2 wx s)) :
    Calls Tryz.prog 58 #[s] w fun e w' => ∃ v' bs, e = .returned v' ∧ Below w.heap.size w w' ∧ SOwn w' v' xs bs ∧ (∀ b ∈ bs, w.heap.size ≤ b ∧ b < w'.heap.size) ∧ bs.Nodup ∧ ∃ ys, w'.ownsRow w.heap.size 66 8 v' xs.length ys := by
  obtain ⟨i0, hi0, hz0, hz1, hz2⟩ := info_parts infoStep
  obtain ⟨a, c, rfl, hlc, hcm, hcell⟩ := hR
  have HC : Hid (∀ i (hi : i < xs.length), ∃ (k : Nat) (p : Pay) (T1 T2 : Tr k) (b off : Nat) (ta : Option Addr) (tc : Nat) (ea : Option Addr) (ec : Nat), xs[i] = ⟨k, p, T1, T2⟩ ∧ a = some ⟨b, off, none⟩ ∧ StepAt w b (off + i * 8) p (.slice ta (ln k T1) tc) (.slice ea (ln k T2) ec) ∧
      (∀ wx, Below w.heap.size w wx → Cp 58 k T1 wx (.slice ta (ln k T1) tc)) ∧ (∀ wx, Below w.heap.size w wx → Cp 58 k T2 wx (.slice ea (ln k T2) ec))) := (show ∀ i (hi : i < xs.length), _ by
    intro i hi
    obtain ⟨b, off, t, e, ha, hS, r1, r2⟩ := hcell i hi
    obtain ⟨ta, tc, rfl⟩ := r1.slice
    obtain ⟨ea, ec, rfl⟩ := r2.slice
    exact ⟨_, _, _, _, b, off, ta, tc, ea, ec, rfl, ha, hS, fun wx hwx => (ch i hi _ wx hwx).1 (r1.below hwx), fun wx hwx => (ch i hi _ wx hwx).2 (r2.below hwx)⟩)
  clear hcell ch
  go_enter Tryz.func58, Tryz.ntmps58
  go_wp2
  go_loopw [3, 4] (fun o j wr => ∃ (i : Nat) (parts : List (List Nat)) (ys : List Value), i ≤ xs.length ∧ j = .int .i64 i ∧ Below w.heap.size w wr ∧ wr.ownsRow w.heap.size 66 8 o i ys ∧ parts.length = i ∧ (∀ b ∈ parts.flatten, (w.heap.size ≤ b ∧ b < wr.heap.size) ∧ some b ≠ o.ownBlock) ∧ parts.flatten.Nodup ∧
      ∀ q (hq : q < xs.length), q < i → ∃ t e b1 b2, parts[q]? = some (b1 ++ b2) ∧ (∀ j, j < 8 → ys[q * 8 + j]? = (cells8 xs[q].2.1 t e)[j]?) ∧ Own wr xs[q].1 t xs[q].2.2.1 b1 ∧ Own wr xs[q].1 e xs[q].2.2.2 b2) (fun _ j _ => xs.length - (intOf j).toNat)
  case atStart => exact ⟨0, [], [], by omega, rfl, (Below.refl _ _).alloc (Nat.le_refl _) _, World.ownsRow_made w #[] 0 (Nat.le_refl _) (by unfold maxLen; omega) (by simp), rfl, by simp, by simp, fun q _ h => by omega⟩
  case round =>
    obtain ⟨i, parts, ys, hi, rfl, hbr, hor, hpl, hrg, hnd, hown⟩ := hrel
    have hsz : w.heap.size ≤ wr.heap.size := hbr.size
    by_cases hlt : i < xs.length
    · obtain ⟨k, p, T1, T2, b, off, ta, tc, ea, ec, hx, rfl, hS, ch1, ch2⟩ := HC.out i hlt
      obtain ⟨k0, k1, k2, k3, k4, k5, k6, k7⟩ := hS.on (w' := wr) (fun a v h => cell_later hbr h)
      have i0' : (0 : Int) ≤ (i : Int) := by omega
      have i1' : (i : Int) < (xs.length : Int) := by omega
      obtain ⟨ga, gc, rfl⟩ := row_slice hor
      have gblk : ∀ k, (Value.slice ga i gc).ownBlock = some k → k < wr.heap.size := fun k hk => (World.ownsRow.lt hor k hk).2
      have HOR : Hid (wr.ownsRow w.heap.size 66 8 (.slice ga i gc) i ys) := hor
      have HRG : Hid (∀ b ∈ parts.flatten, (w.heap.size ≤ b ∧ b < wr.heap.size) ∧ some b ≠ (Value.slice ga i gc).ownBlock) := hrg
      have HOW : Hid _ := hown
      have HBR : Hid (Below w.heap.size w wr) := hbr
      have CH1 : Hid _ := ch1
      have CH2 : Hid _ := ch2
      have HGB : Hid _ := gblk
      clear hS hor hrg hown hbr ch1 ch2 gblk
      have A1 := C8.new wr (.int .i64 p.k) (.int .i64 p.v) (.int .i64 p.vk) (.int .i64 p.va) (.int .i64 p.vb) (.int .i64 p.h) (.slice ta (ln k T1) tc) (.slice ea (ln k T2) ec) 66
      have HA1 : Hid _ := A1
      have B1 : Below w.heap.size w (wr.alloc (.cells #[.int .i64 p.k, .int .i64 p.v, .int .i64 p.vk, .int .i64 p.va, .int .i64 p.vb, .int .i64 p.h, .slice ta (ln k T1) tc, .slice ea (ln k T2) ec] 66)) := HBR.out.alloc hsz _
      have C1 : Hid _ := CH1.out _ B1
      clear A1
      go_wp2_with fail
      go_at_call 58; refine Calls.mono C1.out ?_
      rintro e w1 ⟨t', b1, rfl, hb1, o1, r1, n1⟩
      obtain ⟨ta', tc', rfl⟩ := o1.slice
      have s1 : wr.heap.size < w1.heap.size := by have := hb1.size; simp at this; omega
      replace r1 : ∀ b ∈ b1, wr.heap.size < b ∧ b < w1.heap.size := fun b hb => by have := r1 b hb; simp at this; omega
      have A1 := C8.below HA1.out hb1
      have HA1' : Hid (C8 w1 wr.heap.size (.int .i64 p.k) (.int .i64 p.v) (.int .i64 p.vk) (.int .i64 p.va) (.int .i64 p.vb) (.int .i64 p.h) (.slice ta (ln k T1) tc) (.slice ea (ln k T2) ec)) := A1
      have W1 : Hid (Below wr.heap.size wr w1) := Below.then ((Below.refl _ _).alloc (Nat.le_refl _) _) hb1 (by simp)
      have HR1 : Hid _ := r1
      have HO1 : Hid (Own w1 k (.slice ta' (ln k T1) tc') T1 b1) := o1
      obtain ⟨⟨x0, x1, x2, x3, x4, x5, x6, x7⟩, y0, y1, y2, y3, y4, y5, y6, y7⟩ := A1
      clear k0 k1 k2 k3 k4 k5 k6 k7 hb1 o1 r1 B1 HA1 C1
      go_wp2_with fail
      have B2 : Below wr.heap.size wr (w1.setCell ⟨wr.heap.size, 6, none⟩ (.slice ta' (ln k T1) tc')) := W1.out.setCell (Nat.le_refl _) _
      have C2 : Hid _ := CH2.out _ (Below.then HBR.out B2 hsz)
      have A2 := HA1'.out.set6 (.slice ta' (ln k T1) tc')
      have ne1 : ∀ b ∈ b1, b ≠ wr.heap.size := fun b hb => by have := HR1.out b hb; omega
      have o1 : Own (w1.setCell ⟨wr.heap.size, 6, none⟩ (.slice ta' (ln k T1) tc')) k (.slice ta' (ln k T1) tc') T1 b1 := Own.set HO1.out (a := ⟨wr.heap.size, 6, none⟩) ne1 _
      have s2 : (w1.setCell ⟨wr.heap.size, 6, none⟩ (.slice ta' (ln k T1) tc')).heap.size = w1.heap.size := by simp [World.setCell]
      clear x0 x1 x2 x3 x4 x5 x6 x7 y0 y1 y2 y3 y4 y5 y6 y7 HA1' HO1 W1
      go_at_call 58; refine Calls.mono C2.out ?_
      generalize (w1.setCell ⟨wr.heap.size, 6, none⟩ (.slice ta' (ln k T1) tc')) = w2 at *
      rintro e w3 ⟨e', b2, rfl, hb3, o2, r2, n2⟩
      obtain ⟨ea', ec', rfl⟩ := o2.slice
      have s3 : w1.heap.size ≤ w3.heap.size := by have := hb3.size; omega
      have lt1 : ∀ b ∈ b1, b < w2.heap.size := fun b hb => by have := HR1.out b hb; omega
      replace o1 := o1.below hb3 lt1
      have A3 := A2.below hb3
      have HA3 : Hid (C8 w3 wr.heap.size (.int .i64 p.k) (.int .i64 p.v) (.int .i64 p.vk) (.int .i64 p.va) (.int .i64 p.vb) (.int .i64 p.h) (.slice ta' (ln k T1) tc') (.slice ea (ln k T2) ec)) := A3
      have W3 : Hid (Below wr.heap.size wr w3) := Below.then B2 hb3 B2.size
      have HR2 : Hid (∀ b ∈ b2, w1.heap.size ≤ b ∧ b < w3.heap.size) := (show ∀ b ∈ b2, _ from fun b hb => by have := r2 b hb; omega)
      have HO1 : Hid (Own w3 k (.slice ta' (ln k T1) tc') T1 b1) := o1
      have HO2 : Hid (Own w3 k (.slice ea' (ln k T2) ec') T2 b2) := o2
      have HN1 : Hid _ := n1
      have HN2 : Hid _ := n2
      obtain ⟨⟨x0, x1, x2, x3, x4, x5, x6, x7⟩, y0, y1, y2, y3, y4, y5, y6, y7⟩ := A3
      have W4 : Below wr.heap.size wr (w3.setCell ⟨wr.heap.size, 7, none⟩ (.slice ea' (ln k T2) ec')) := W3.out.setCell (Nat.le_refl _) _
      have OR4 := row_below HOR.out W4
      have s4 : (w3.setCell ⟨wr.heap.size, 7, none⟩ (.slice ea' (ln k T2) ec')).heap.size = w3.heap.size := by simp [World.setCell]
      have HW4 : Hid _ := W4
      clear hb3 o1 o2 r2 n1 n2 A2 B2 C2 ne1 lt1 W4
      go_wp2_with (at_builtin; refine wpList_append_own_at _ rfl _ _ 24 rfl w.heap.size 66 i0 _ 8 96 Tryz.underlying24 hi0 hz0 hz1 hz2 rfl (by decide) _ _ _ rfl (OR4.alloc _) ⟨w3.heap.size, 0, none⟩ 1 1 (cells8 p (.slice ta' (ln k T1) tc') (.slice ea' (ln k T2) ec')) rfl rfl ?c1 ?c2 ?c3 ?c4 ?c5 ?_)
      case c1 => have := cells8_new (w3.setCell ⟨wr.heap.size, 7, none⟩ (.slice ea' (ln k T2) ec')) p (.slice ta' (ln k T1) tc') (.slice ea' (ln k T2) ec') 66; rw [s4] at this; exact this
      case c2 => exact cells8_one _ _ _ _ _ _ _
      case c3 => unfold maxLen; omega
      case c4 => omega
      case c5 => simp [World.setCell]; omega
      intro v5 w5 hown5 hgrow5 _ hat5
      have sM : ((w3.setCell ⟨wr.heap.size, 7, none⟩ (.slice ea' (ln k T2) ec')).alloc (.cells #[.int .i64 p.k, .int .i64 p.v, .int .i64 p.vk, .int .i64 p.va, .int .i64 p.vb, .int .i64 p.h, .slice ta' (ln k T1) tc', .slice ea' (ln k T2) ec'] 66)).heap.size = w3.heap.size + 1 := by simp [World.setCell]
      have BM : Below wr.heap.size wr ((w3.setCell ⟨wr.heap.size, 7, none⟩ (.slice ea' (ln k T2) ec')).alloc (.cells #[.int .i64 p.k, .int .i64 p.v, .int .i64 p.vk, .int .i64 p.va, .int .i64 p.vb, .int .i64 p.h, .slice ta' (ln k T1) tc', .slice ea' (ln k T2) ec'] 66)) := HW4.out.alloc (by rw [s4]; omega) _
      have B5 : Below w.heap.size w w5 := (Below.then HBR.out BM hsz).grown hgrow5 (by rw [sM]; omega) (fun j hj => (World.ownsRow.lt HOR.out j hj).1)
      have s5 : w3.heap.size + 1 ≤ w5.heap.size := by have := hgrow5.size; rw [sM] at this; exact this
      have hgb : ∀ k, (Value.slice ga i gc).ownBlock = some k → k < wr.heap.size := HGB.out
      have hold : ∀ b, b < wr.heap.size → some b ≠ (Value.slice ga i gc).ownBlock → w5.heap[b]? = wr.heap[b]? := fun b hb hne => (hgrow5.block b (by rw [sM]; omega) hne).trans (BM.block b hb)
      have hnew : ∀ b, wr.heap.size < b → b < w3.heap.size → w5.heap[b]? = w3.heap[b]? := fun b h1 h2 => (hgrow5.block b (by rw [sM]; omega) (fun e => by have := hgb b e.symm; omega)).trans ((Below.heap_alloc _ _ _ (by rw [s4]; exact h2)).trans (Below.heap_setCell _ _ _ _ (by show b ≠ wr.heap.size; omega)))
      have hobk : ∀ b, b < w3.heap.size + 1 → some b ≠ (Value.slice ga i gc).ownBlock → some b ≠ v5.ownBlock := fun b h1 h2 e => by
        rcases hat5 with h | h
        · exact h2 (e.trans h)
        · rw [h] at e
          have e' := Option.some.inj e
          try simp [World.setCell] at e'
          omega
      have ylen : ys.length = i * 8 := HOR.out.1
      have hrg : ∀ b ∈ parts.flatten, (w.heap.size ≤ b ∧ b < wr.heap.size) ∧ some b ≠ (Value.slice ga i gc).ownBlock := HRG.out
      have r1 : ∀ b ∈ b1, wr.heap.size < b ∧ b < w1.heap.size := HR1.out
      have r2 : ∀ b ∈ b2, w1.heap.size ≤ b ∧ b < w3.heap.size := HR2.out
      have H5 : Hid (w5.ownsRow w.heap.size 66 8 v5 (i + 1) (ys ++ cells8 p (.slice ta' (ln k T1) tc') (.slice ea' (ln k T2) ec'))) := hown5
      clear hgrow5 hown5 hat5 BM OR4 x0 x1 x2 x3 x4 x5 x6 x7 y0 y1 y2 y3 y4 y5 y6 y7
      go_wp2
      refine ⟨⟨i + 1, parts ++ [b1 ++ b2], ys ++ cells8 p (.slice ta' (ln k T1) tc') (.slice ea' (ln k T2) ec'), by omega, by simp, B5, H5.out, by simp [hpl], ?_, ?_, ?_⟩, by simp [intOf]; omega⟩
      · intro b hb
        rw [List.flatten_append] at hb
        rcases List.mem_append.1 hb with hb | hb
        · have := hrg b hb
          exact ⟨⟨this.1.1, by omega⟩, hobk b (by omega) this.2⟩
        · have hb' : b ∈ b1 ++ b2 := by simpa using hb
          have hbb : wr.heap.size < b ∧ b < w3.heap.size := by
            rcases List.mem_append.1 hb' with h | h
            · have := r1 b h; omega
            · have := r2 b h; omega
          exact ⟨⟨by omega, by omega⟩, hobk b (by omega) (fun e => by have := hgb b e.symm; omega)⟩
      · rw [List.flatten_append]
        refine List.nodup_append.2 ⟨hnd, ?_, ?_⟩
        · simp only [List.flatten_cons, List.flatten_nil, List.append_nil]
          refine List.nodup_append.2 ⟨HN1.out, HN2.out, ?_⟩
          intro a ha b hb
          have := r1 a ha
          have := r2 b hb
          omega
        · intro a ha b hb
          have h1 := hrg a ha
          have hb' : b ∈ b1 ++ b2 := by simpa using hb
          rcases List.mem_append.1 hb' with h | h
          · have := r1 b h; omega
          · have := r2 b h; omega
      · intro q hq hqi
        by_cases hqe : q = i
        · subst hqe
          refine ⟨.slice ta' (ln k T1) tc', .slice ea' (ln k T2) ec', b1, b2, by rw [List.getElem?_append_right (by omega), hpl]; simp, ?_, ?_, ?_⟩
          · intro j hj
            rw [hx, List.getElem?_append_right (by omega), ylen, show q * 8 + j - q * 8 = j by omega]
          · rw [hx]; exact Own.frame (fun b hb => by have := r1 b hb; exact hnew b this.1 (by omega)) HO1.out
          · rw [hx]; exact Own.frame (fun b hb => by have := r2 b hb; exact hnew b (by omega) this.2) HO2.out
        · obtain ⟨t, e, c1, c2, hp1, hra, oo1, oo2⟩ := HOW.out q hq (by omega)
          have hm : ∀ b ∈ c1 ++ c2, b ∈ parts.flatten := fun b hbm => List.mem_flatten.2 ⟨_, List.mem_of_getElem? hp1, hbm⟩
          refine ⟨t, e, c1, c2, by rw [List.getElem?_append_left (by omega)]; exact hp1, ?_, ?_, ?_⟩
          · intro j hj
            rw [List.getElem?_append_left (by rw [ylen]; omega)]; exact hra j hj
          · exact Own.frame (fun b hb => by have := hrg b (hm b (List.mem_append_left _ hb)); exact hold b this.1.2 this.2) oo1
          · exact Own.frame (fun b hb => by have := hrg b (hm b (List.mem_append_right _ hb)); exact hold b this.1.2 this.2) oo2
    · have hie : i = xs.length := by omega
      subst hie
      have HOR : Hid _ := hor
      have HRG : Hid _ := hrg
      have HOW : Hid _ := hown
      have HBR : Hid (Below w.heap.size w wr) := hbr
      clear hor hrg hown hbr
      go_wp2
      go_ret
      have hor : wr.ownsRow w.heap.size 66 8 u3 xs.length ys := HOR.out
      by_cases hz : xs.length = 0
      · obtain ⟨ga, gc, hu⟩ := row_slice hor
        have hgc : gc ≤ maxLen := by
          obtain ⟨_, ⟨h1, _⟩ | ⟨g, cap, cur, hv, hg, hh, hc, hm, hs, ht⟩⟩ := hor
          · rw [h1] at hu; simp only [Value.slice.injEq] at hu; unfold maxLen; omega
          · rw [hv] at hu; simp only [Value.slice.injEq] at hu; omega
        exact ⟨_, [], rfl, HBR.out, .inl ⟨hz, ⟨ga, gc, by rw [hz] at hu; exact hu, hgc⟩, rfl⟩, by simp, by simp, ys, hor⟩
      · obtain ⟨hy, ⟨h1, h2⟩ | ⟨g, cap, cur, hv, hg, hh, hc, hm, hs, ht⟩⟩ := id hor
        · omega
        · subst hv
          have gl := World.ownsRow.lt hor g rfl
          refine ⟨_, g :: parts.flatten, rfl, HBR.out, .inr ⟨by omega, g, cap, parts, rfl, hc, hm, row_there hor, hpl, rfl, fun q hq => ?_⟩, ?_, ?_, ys, hor⟩
          · obtain ⟨t, e, c1, c2, hp1, hra, oo1, oo2⟩ := HOW.out q hq hq
            exact ⟨t, e, c1, c2, hp1, rows_range hor hra rfl, oo1, oo2⟩
          · intro b hb
            rcases List.mem_cons.1 hb with rfl | hb
            · exact gl
            · exact (HRG.out b hb).1
          · refine List.nodup_cons.2 ⟨fun hm => ?_, hnd⟩
            exact (HRG.out _ hm).2 rfl

theorem l2Copy_rows (xs : List Sg) (s : Value) (w : World) (hR : SRep w s xs) (hlen : xs.length ≤ 1048576)
    (ch : ∀ i (hi : i < xs.length) (s : Value) (wx : World), Below w.heap.size w wx → (Rep wx xs[i].1 s xs[i].2.2.1 → Cp 58 xs[i].1 xs[i].2.2.1 wx s) ∧ (Rep wx xs[i].1 s xs[i].2.2.2 → Cp 58 xs[i].1 xs[i].2.2.2 wx s)) :
    Calls Tryz.prog 58 #[s] w fun e w' => ∃ v' bs, e = .returned v' ∧ Below w.heap.size w w' ∧ SOwn w' v' xs bs ∧ (∀ b ∈ bs, w.heap.size ≤ b ∧ b < w'.heap.size) ∧ bs.Nodup :=
  (l2Copy_rowsO xs s w hR hlen ch).mono fun _ _ ⟨v, bs, h1, h2, h3, h4, h5, _⟩ => ⟨v, bs, h1, h2, h3, h4, h5⟩

theorem SOwn.own {w : World} {d : Nat} {s : Value} {l : List (Pay × Tr d × Tr d)} {bs : List Nat} (h : SOwn w s (l.map fun x => (⟨d, x⟩ : Sg)) bs) : Own w (d + 1) s (l : List (Pay × Tr d × Tr d)) bs := by
  rcases h with ⟨h0, h1, h2⟩ | ⟨h0, g, c, parts, hs, hlc, hcm, ht, hp, hb, hr⟩
  · exact .inl ⟨by simpa using h0, h1, h2⟩
  · simp only [List.length_map] at h0 hs hlc ht hp hr
    refine .inr ⟨h0, g, c, parts, hs, hlc, hcm, ht, hp, hb, fun i hi => ?_⟩
    have := hr i (by simpa using hi)
    rw [show (l.map fun x => (⟨d, x⟩ : Sg))[i]'(by simpa using hi) = ⟨d, l[i]⟩ from List.getElem_map _] at this
    exact this
theorem rep_srep {w : World} {d : Nat} {s : Value} {l : List (Pay × Tr d × Tr d)} (h : Rep w (d + 1) s (l : List (Pay × Tr d × Tr d))) : SRep w s (l.map fun x => (⟨d, x⟩ : Sg)) := by
  obtain ⟨a, c, hs, hlc, hcm, hr⟩ := h
  refine ⟨a, c, by simpa using hs, by simpa using hlc, hcm, fun i hi => ?_⟩
  have := hr i (by simpa using hi)
  rw [show (l.map fun x => (⟨d, x⟩ : Sg))[i]'hi = ⟨d, l[i]'(by simpa using hi)⟩ from List.getElem_map _]
  exact this

theorem l2Copy_any : ∀ (d : Nat) (T : Tr d) (s : Value) (w : World), Rep w d s T → cnt d T ≤ 1048576 → Cp 58 d T w s := by
  intro d
  induction d with
  | zero =>
    intro T s w h hc
    obtain ⟨a, c, rfl⟩ := h
    unfold Cp
    go_enter Tryz.func58, Tryz.ntmps58
    go_wp2
    refine wp_loop_rounds 1 ?_
    rw [rounds_succ]
    go_wp2
    go_ret
    exact ⟨_, [], rfl, (Below.refl _ _).alloc (Nat.le_refl _) _, ⟨⟨_, _, rfl⟩, rfl⟩, by simp, by simp⟩
  | succ d ih =>
    intro (l : List (Pay × Tr d × Tr d)) s w h hc
    have hll := ln_le_cnt (d + 1) (l : List (Pay × Tr d × Tr d))
    have hll' : l.length ≤ cnt (d + 1) (l : List (Pay × Tr d × Tr d)) := hll
    refine (l2Copy_rows (l.map fun x => (⟨d, x⟩ : Sg)) s w (rep_srep h) (by simp; omega) ?_).mono ?_
    · intro i hi s wx hwx
      have hi' : i < l.length := by simpa using hi
      have q1 := cnt_take l i hi'
      have q2 := cnt_take_le l (i + 1)
      rw [show (l.map fun x => (⟨d, x⟩ : Sg))[i]'hi = ⟨d, l[i]⟩ from List.getElem_map _]
      have h1 : cnt d l[i].2.1 ≤ 1048576 := by omega
      have h2 : cnt d l[i].2.2 ≤ 1048576 := by omega
      exact ⟨fun r => ih _ _ _ r h1, fun r => ih _ _ _ r h2⟩
    · rintro e w' ⟨v', bs, he, hb, ho, hr, hn⟩
      exact ⟨v', bs, he, hb, ho.own, hr, hn⟩

theorem l2Copy_own (d : Nat) (l : List (Pay × Tr d × Tr d)) (s : Value) (w : World) (h : Rep w (d + 1) s (l : List (Pay × Tr d × Tr d))) (hc : cnt (d + 1) (l : List (Pay × Tr d × Tr d)) ≤ 1048576) :
    Calls Tryz.prog 58 #[s] w fun e w' => ∃ v' bs ys, e = .returned v' ∧ Below w.heap.size w w' ∧ Own w' (d + 1) v' (l : List (Pay × Tr d × Tr d)) bs ∧ (∀ b ∈ bs, w.heap.size ≤ b ∧ b < w'.heap.size) ∧ bs.Nodup ∧ w'.ownsRow w.heap.size 66 8 v' l.length ys := by
    have hll := ln_le_cnt (d + 1) (l : List (Pay × Tr d × Tr d))
    have hll' : l.length ≤ cnt (d + 1) (l : List (Pay × Tr d × Tr d)) := hll
    refine (l2Copy_rowsO (l.map fun x => (⟨d, x⟩ : Sg)) s w (rep_srep h) (by simp; omega) ?_).mono ?_
    · intro i hi s wx hwx
      have hi' : i < l.length := by simpa using hi
      have q1 := cnt_take l i hi'
      have q2 := cnt_take_le l (i + 1)
      rw [show (l.map fun x => (⟨d, x⟩ : Sg))[i]'hi = ⟨d, l[i]⟩ from List.getElem_map _]
      have h1 : cnt d l[i].2.1 ≤ 1048576 := by omega
      have h2 : cnt d l[i].2.2 ≤ 1048576 := by omega
      exact ⟨fun r => l2Copy_any _ _ _ _ r h1, fun r => l2Copy_any _ _ _ _ r h2⟩
    · rintro e w' ⟨v', bs, he, hb, ho, hr, hn, ys, hy⟩
      exact ⟨v', bs, ys, he, hb, ho.own, hr, hn, by simpa using hy⟩

end Go.Proofs.YthcgdhlemieboaaGreat

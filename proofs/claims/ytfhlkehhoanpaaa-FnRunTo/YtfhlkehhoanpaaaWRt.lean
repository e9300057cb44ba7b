/- All that is told is told to hosts: the law, walked. -/
import Derived.Test.YtfhlkehhoanpaaaDrt
namespace Go.Proofs.Ytfhlkehhoanpaaa
open Go.RowKit
set_option linter.unusedSimpArgs false
set_option linter.unusedVariables false
attribute [local go_sem ↓] Go.wp_at_zero Go.wp_at_succ
attribute [local go_sem] World.cell?_alloc_some

set_option maxHeartbeats 1000000 in
theorem lcInts_same {v v' : Value} {zs : List Int} {w : World} (h : GRep (Value.int .i64) w v zs) (h' : GRep (Value.int .i64) w v' zs) :
    Calls Try.prog 32 #[v, v'] w fun e w' => e = .returned (.bool true) ∧ Below w.heap.size w w' := by
  obtain ⟨a, c, rfl, hlc, hcm, hcell⟩ := h
  obtain ⟨a', c', rfl, hlc', hcm', hcell'⟩ := h'
  have hlm : (zs.length : Int) ≤ 9223372036854775807 := by unfold maxLen at hcm; omega
  have HC : Hid _ := hcell
  have HC' : Hid _ := hcell'
  clear hcell hcell'
  go_enter Try.func32, Try.ntmps32
  go_wp2
  go_loopw [5] (fun j wr => ∃ (i : Nat), i ≤ zs.length ∧ j = .int .i64 i ∧ Below w.heap.size w wr) (fun j _ => zs.length - (intOf j).toNat)
  case atStart => exact ⟨0, by omega, rfl, Below.refl _ _⟩
  case round =>
    obtain ⟨i, hi, rfl, hbr⟩ := hrel
    by_cases hlt : i < zs.length
    · obtain ⟨b, off, rfl, k0⟩ := HC.out i hlt
      obtain ⟨b', off', rfl, m0⟩ := HC'.out i hlt
      replace k0 := cell_later hbr k0
      replace m0 := cell_later hbr m0
      have i0' : (0 : Int) ≤ (i : Int) := by omega
      have i1' : (i : Int) < (zs.length : Int) := by omega
      go_wp2_with fail
      refine wp_region_held (S := (fun wz => wz.cell? ⟨b, off + i, none⟩ = some (.int .i64 zs[i]) ∧ wz.cell? ⟨b', off' + i, none⟩ = some (.int .i64 zs[i]) ∧ Below w.heap.size w wz)) (by kernel_rfl) ?_
      change wpAnyH _ _ _ _ _ _ _ _ (World.drew _)
      have hHeld := SI1 ⟨k0, m0, hbr⟩
      refine' wpAnyH_take (i := 0) (v := _) rfl (by kernel_rfl) (by kernel_rfl) (by kernel_rfl) (fun _ _ _ h => h) (Or.inl ⟨by rfl, ?hy1⟩) hHeld ?hn1
      case hy1 => (intro wz hSw; (try dsimp only at hSw); go_simp; first | done | with_reducible rfl)
      try simp only [List.getElem_toArray, List.getElem_cons_zero, List.getElem_cons_succ, Act.put, List.setIfInBounds_toArray, List.set_cons_zero, List.set_cons_succ]
      refine' wpAnyH_take (i := 1) (v := _) rfl (by kernel_rfl) (by kernel_rfl) (by kernel_rfl) (fun _ _ _ h => h) (Or.inl ⟨by rfl, ?hy2⟩) hHeld ?hn2
      case hy2 => (intro wz hSw; (try dsimp only at hSw); go_simp; first | done | with_reducible rfl)
      try simp only [List.getElem_toArray, List.getElem_cons_zero, List.getElem_cons_succ, Act.put, List.setIfInBounds_toArray, List.set_cons_zero, List.set_cons_succ]
      refine' wpAnyH_take (i := 2) (v := _) rfl (by kernel_rfl) (by kernel_rfl) (by kernel_rfl) (fun _ _ _ h => h) (Or.inl ⟨by rfl, ?hy3⟩) hHeld ?hn3
      case hy3 => (intro wz hSw; (try dsimp only at hSw); go_simp; first | done | with_reducible rfl)
      try simp only [List.getElem_toArray, List.getElem_cons_zero, List.getElem_cons_succ, Act.put, List.setIfInBounds_toArray, List.set_cons_zero, List.set_cons_succ]
      refine' wpAnyH_take (i := 3) (v := _) rfl (by kernel_rfl) (by kernel_rfl) (by kernel_rfl) (fun _ _ _ h => h) (Or.inl ⟨by rfl, ?hy4⟩) hHeld ?hn4
      case hy4 => (intro wz hSw; (try dsimp only at hSw); go_simp; first | done | with_reducible rfl)
      try simp only [List.getElem_toArray, List.getElem_cons_zero, List.getElem_cons_succ, Act.put, List.setIfInBounds_toArray, List.set_cons_zero, List.set_cons_succ]
      refine' wpAnyH_take (i := 4) (v := _) rfl (by kernel_rfl) (by kernel_rfl) (by kernel_rfl) (fun _ _ _ h => h) (Or.inl ⟨by rfl, ?hy5⟩) hHeld ?hn5
      case hy5 => (intro wz hSw; (try dsimp only at hSw); go_simp; first | done | with_reducible rfl)
      try simp only [List.getElem_toArray, List.getElem_cons_zero, List.getElem_cons_succ, Act.put, List.setIfInBounds_toArray, List.set_cons_zero, List.set_cons_succ]
      refine' wpAnyH_take (i := 5) (v := _) rfl (by kernel_rfl) (by kernel_rfl) (by kernel_rfl) (fun _ _ _ h => h) (Or.inl ⟨by rfl, ?hy6⟩) hHeld ?hn6
      case hy6 => (intro wz hSw; (try dsimp only at hSw); go_simp; first | done | with_reducible rfl)
      try simp only [List.getElem_toArray, List.getElem_cons_zero, List.getElem_cons_succ, Act.put, List.setIfInBounds_toArray, List.set_cons_zero, List.set_cons_succ]
      refine' wpAnyH_take (i := 6) (v := _) rfl (by kernel_rfl) (by kernel_rfl) (by kernel_rfl) (fun _ _ _ h => h) (Or.inl ⟨by rfl, ?hy7⟩) hHeld ?hn7
      case hy7 => (intro wz hSw; (try dsimp only at hSw); go_simp; first | done | with_reducible rfl)
      try simp only [List.getElem_toArray, List.getElem_cons_zero, List.getElem_cons_succ, Act.put, List.setIfInBounds_toArray, List.set_cons_zero, List.set_cons_succ]
      refine' wpAnyH_take (i := 7) (v := _) rfl (by kernel_rfl) (by kernel_rfl) (by kernel_rfl) (fun _ _ _ h => h) (Or.inl ⟨by rfl, ?hy8⟩) hHeld ?hn8
      case hy8 => (intro wz hSw; (try dsimp only at hSw); go_simp; first | done | with_reducible rfl)
      try simp only [List.getElem_toArray, List.getElem_cons_zero, List.getElem_cons_succ, Act.put, List.setIfInBounds_toArray, List.set_cons_zero, List.set_cons_succ]
      refine' wpAnyH_take (i := 8) (v := _) rfl (by kernel_rfl) (by kernel_rfl) (by kernel_rfl) (fun _ _ _ h => h) (Or.inl ⟨by rfl, ?hy9⟩) hHeld ?hn9
      case hy9 => (intro wz hSw; (try dsimp only at hSw); go_simp; first | done | with_reducible rfl)
      try simp only [List.getElem_toArray, List.getElem_cons_zero, List.getElem_cons_succ, Act.put, List.setIfInBounds_toArray, List.set_cons_zero, List.set_cons_succ]
      refine wpAnyH_done (by kernel_rfl) ?_ _
      obtain ⟨_, _, hB9⟩ := hHeld
      go_wp2
      exact ⟨⟨i + 1, by omega, by simp, hB9⟩, by simp [intOf]; omega⟩
    · have : i = zs.length := by omega
      subst this
      have HB : Hid (Below w.heap.size w wr) := hbr
      clear hbr
      go_wp2
      go_ret
      exact ⟨rfl, HB.out⟩

def sumH (ss : List (Int × Int)) : Nat → Nat
  | 0 => 0
  | i + 1 => sumH ss i + (toH i ss).length
theorem toH_cons (h : Int) (x : Int × Int) (ss : List (Int × Int)) : (toH h (x :: ss)).length = (if x.1 = h then 1 else 0) + (toH h ss).length := by
  unfold toH
  by_cases q : x.1 = h
  · simp [q]; omega
  · simp [q]
theorem sumH_le (ss : List (Int × Int)) : ∀ i, sumH ss i ≤ i * ss.length
  | 0 => by simp [sumH]
  | i + 1 => by
    have h1 := sumH_le ss i
    have h2 := toH_len (i : Int) ss
    simp only [sumH]
    rw [Nat.add_mul]
    omega
theorem sumH_all : ∀ (ss : List (Int × Int)), (∀ x ∈ ss, vIn 3 x.1 = true) → sumH ss 3 = ss.length
  | [], _ => by simp [sumH, toH]
  | x :: ss, h => by
    have ih := sumH_all ss (fun y hy => h y (List.mem_cons_of_mem _ hy))
    have hx : 0 ≤ x.1 ∧ x.1 < 3 := by simpa [vIn] using h x (by simp)
    simp only [sumH, toH_cons, List.length_cons] at ih ⊢
    obtain q | q | q : x.1 = 0 ∨ x.1 = 1 ∨ x.1 = 2 := by omega
    · simp [q] at ih ⊢; omega
    · simp [q] at ih ⊢; omega
    · simp [q] at ih ⊢; omega

set_option maxHeartbeats 8000000 in
set_option maxRecDepth 20000 in
theorem fnRunTo_walk (a0 : Option Addr) (len0 cap0 : Nat) (zs0 : List Int) (w : World) (h : IsRow .u8 w a0 len0 cap0 zs0) :
    Calls Try.prog 9 #[.slice a0 len0 cap0] w fun e w' => e = .returned (.bool true) ∧ Below w.heap.size w w' := by
  have C1 : Hid _ := drawRunTo_any w a0 len0 cap0 zs0 h
  clear h
  by_cases hlen : (1048576 : Int) < (len0 : Int)
  case pos =>
    go_enter Try.func9, Try.ntmps9
    go_wp2
    go_ret
    exact ⟨rfl, Below.refl _ _⟩
  go_enter Try.func9, Try.ntmps9
  go_wp2_with fail
  go_at_call 36; refine Calls.mono C1.out ?_
  rintro e w1 ⟨ra, rb, rc, s, hh, rfl, hb1, hr3, hhosts, hsl⟩
  obtain ⟨na, nc, rfl⟩ := rowg_slice hr3.n
  obtain ⟨wa, wc, rfl⟩ := rowg_slice hr3.ws
  obtain ⟨sa, sc, rfl⟩ := rowg_slice hr3.ss
  have hs1 : LRep w1 (.slice sa s.ss.length sc) s.ss := by
    obtain ⟨bs, q1, _⟩ := row_pown hr3.ss
    exact q1.rep
  have A2 : Below w1.heap.size w1 (w1.alloc (.cells #[.slice na s.n.length nc, .slice wa s.ws.length wc, .slice sa s.ss.length sc] 47)) := (Below.refl _ _).alloc (Nat.le_refl _) _
  have G2 := C3.new w1 (.slice na s.n.length nc) (.slice wa s.ws.length wc) (.slice sa s.ss.length sc) 47
  have HSX : Hid (∀ wx, Below w1.heap.size w1 wx → LRep wx (.slice sa s.ss.length sc) s.ss) := (show ∀ wx, _ from fun wx hb => hs1.below hb)
  have HB1 : Hid (Below w.heap.size w w1) := hb1
  have HSUM : Hid (sumH s.ss 3 = s.ss.length) := (show _ = _ from sumH_all s.ss hhosts)
  have HSLE : Hid _ := sumH_le s.ss
  have HA2 : Hid _ := A2
  have HG2 : Hid _ := G2
  have hxl := toH_len hh s.ss
  clear hr3 hhosts hs1 hb1 C1 A2 G2
  have C3' : Hid _ := runTo_any (na := na) (wa := wa) (n0 := s.n.length) (nc := nc) (n1 := s.ws.length) (wc := wc) hh (HSX.out _ HA2.out) hsl
  go_wp2_with fail
  go_at_call 37; refine Calls.mono C3'.out ?_
  rintro e w3 ⟨lv, lb, rfl, hb3, lo3, lr3⟩
  obtain ⟨la, lc, rfl, -⟩ := lo3.rep
  have B3 : Below w1.heap.size w1 w3 := Below.then HA2.out hb3 HA2.out.size
  have G3 := C3.below HG2.out hb3
  have HG3 : Hid _ := G3
  have HLO : Hid (GRep (Value.int .i64) w3 (.slice la (toH hh s.ss).length lc) (toH hh s.ss)) := lo3.rep
  have C4 : Hid _ := sRunTo_any (na := na) (wa := wa) (n0 := s.n.length) (nc := nc) (n1 := s.ws.length) (wc := wc) hh (HSX.out _ B3) hsl
  have HB3 : Hid (Below w1.heap.size w1 w3) := B3
  clear hb3 lo3 lr3 C3' HG2 HA2 B3
  obtain ⟨⟨c0, c1, c2⟩, -⟩ := G3
  generalize hXl : (toH hh s.ss).length = nx at *
  go_wp2_with fail
  go_at_call 38; refine Calls.mono C4.out ?_
  rintro e w4 ⟨mv, mb, rfl, hb4, mo4, -⟩
  obtain ⟨ma, mc, hmv, -⟩ := id mo4.rep
  rw [hXl] at hmv
  subst hmv
  have HX4 : Hid (GRep (Value.int .i64) w4 (.slice la nx lc) (toH hh s.ss)) := GRep.below hb4 HLO.out
  have C5 : Hid _ := lcInts_same HX4.out mo4.rep
  have G4 := C3.below HG3.out hb4
  have HG4 : Hid _ := G4
  have HB4 : Hid (Below w1.heap.size w1 w4) := Below.then HB3.out hb4 HB3.out.size
  clear hb4 mo4 C4 HLO HG3 HB3 c0 c1 c2 G4
  go_wp2_with fail
  go_at_call 32; refine Calls.mono C5.out ?_
  rintro e w5 ⟨rfl, hb5⟩
  have G5 := C3.below HG4.out hb5
  have HG5 : Hid (C3 w5 w1.heap.size (.slice na s.n.length nc) (.slice wa s.ws.length wc) (.slice sa s.ss.length sc)) := G5
  have HB5 : Hid (Below w1.heap.size w1 w5) := Below.then HB4.out hb5 HB4.out.size
  have z5 : w1.heap.size < w5.heap.size := C3.lt G5
  clear hb5 C5 HG4 HB4 HX4 G5
  go_wp2
  go_loopw [6, 7] (fun o j wr => ∃ (i nn : Nat), i ≤ 3 ∧ j = .int .i64 i ∧ o = .int .i64 nn ∧ Hid (nn = sumH s.ss i) ∧ Below w5.heap.size w5 wr) (fun _ j _ => 3 - (intOf j).toNat)
  case atStart => exact ⟨0, 0, by omega, rfl, rfl, (show 0 = sumH s.ss 0 from rfl), Below.refl _ _⟩
  case round =>
    obtain ⟨i, nn, hi, rfl, rfl, HNN, hbr⟩ := hrel
    have HBR5 : Hid (Below w5.heap.size w5 wr) := hbr
    have HBR : Hid (Below w1.heap.size w1 wr) := Below.then HB5.out hbr HB5.out.size
    have G6 := C3.below HG5.out hbr
    have zr : w5.heap.size ≤ wr.heap.size := hbr.size
    by_cases hlt : i < 3
    · have i1' : (i : Int) < 3 := by omega
      have i0' : (0 : Int) ≤ (i : Int) := by omega
      have C6 : Hid _ := runTo_any (na := na) (wa := wa) (n0 := s.n.length) (nc := nc) (n1 := s.ws.length) (wc := wc) (i : Int) (HSX.out _ HBR.out) hsl
      have hnb : nn ≤ 3 * 1048576 := by have h1 := HNN.out; have h2 := HSLE.out i; rw [h1]; exact Nat.le_trans h2 (Nat.mul_le_mul (by omega) hsl)
      have htl := toH_len (i : Int) s.ss
      obtain ⟨⟨c0, c1, c2⟩, -⟩ := G6
      clear hbr
      go_wp2_with fail
      go_at_call 37; refine Calls.mono C6.out ?_
      rintro e w7 ⟨ov, ob, rfl, hb7, oo7, -⟩
      obtain ⟨oa, oc, rfl, -⟩ := oo7.rep
      have HNE : Hid (nn + (toH (i : Int) s.ss).length = sumH s.ss (i + 1)) := (show nn + (toH (i : Int) s.ss).length = sumH s.ss (i + 1) by rw [HNN.out]; rfl)
      generalize (toH (i : Int) s.ss).length = nt at *
      have HB7 : Hid (Below w5.heap.size w5 w7) := Below.then HBR5.out hb7 zr
      have v7 := w64 ((nn : Int) + (nt : Int)) (by omega)
      clear hb7 oo7 C6 c0 c1 c2
      go_wp2
      exact ⟨⟨i + 1, nn + nt, by omega, by simp, by simp, HNE, HB7.out⟩, by simp [intOf]; omega⟩
    · have hi3 : i = 3 := by omega
      subst hi3
      have hn3 : nn = s.ss.length := HNN.out.trans HSUM.out
      subst hn3
      obtain ⟨⟨c0, c1, c2⟩, -⟩ := G6
      clear hbr
      go_wp2
      go_ret
      exact ⟨by simp, Below.then HB1.out HBR.out HB1.out.size⟩

end Go.Proofs.Ytfhlkehhoanpaaa

/- What was told to a host. -/
import Derived.Test.YthcgdhlemieboaaGreatTkRwx
import Derived.Test.YthcgdhlemieboaaGreatTkCpy
import Derived.Test.YthcgdhlemieboaaGreatTkPcx
import Derived.Test.YthcgdhlemieboaaGreatTkSpx
namespace Go.Proofs.YthcgdhlemieboaaGreat
open Go.RowKit
set_option linter.unusedSimpArgs false
set_option linter.unusedVariables false
attribute [local go_sem] World.cell?_alloc_some

def toH (host : Int) (ss : List (Int × Int)) : List Int := (ss.filter fun x => x.1 = host).map (·.2)
theorem toH_take {host : Int} (ss : List (Int × Int)) (i : Nat) (hi : i < ss.length) : toH host (ss.take (i + 1)) = toH host (ss.take i) ++ (if ss[i].1 = host then [ss[i].2] else []) := by
  unfold toH
  rw [List.take_succ_eq_append_getElem hi, List.filter_append, List.map_append]
  by_cases h : ss[i].1 = host <;> simp [h]
theorem toH_len (host : Int) (ss : List (Int × Int)) : (toH host ss).length ≤ ss.length := by simp only [toH, List.length_map]; exact List.length_filter_le _ _
theorem rowg_slice {w : World} {base : Nat} {e : TypeId} {sz : Nat} {v : Value} {n : Nat} {xs : List Value} (h : w.ownsRow base e sz v n xs) : ∃ a c, v = .slice a n c := by
  obtain ⟨_, ⟨rfl, rfl⟩ | ⟨g, cap, cur, rfl, _⟩⟩ := h
  · exact ⟨_, _, rfl⟩
  · exact ⟨_, _, rfl⟩
theorem row_gown {α : Type} {f : α → Value} {w : World} {base : Nat} {e : TypeId} {v : Value} {xs : List α} (h : w.ownsRow base e 1 v xs.length (xs.map f)) : ∃ bs, GOwn f w v xs bs ∧ (∀ b ∈ bs, v.ownBlock = some b) := by
  obtain ⟨h0, ⟨h1, h2⟩ | ⟨g, cap, cur, hv, hg, hh, hc, hm, hs, ht⟩⟩ := id h
  · exact ⟨[], .inl ⟨h2, ⟨none, 0, h1, by unfold maxLen; omega⟩, rfl⟩, by simp⟩
  · subst hv
    by_cases hz : xs.length = 0
    · exact ⟨[], .inl ⟨hz, ⟨some ⟨g, 0, none⟩, cap, by rw [hz], hm⟩, rfl⟩, by simp⟩
    · refine ⟨[g], .inr ⟨by omega, g, cap, rfl, hc, hm, by have := row_there h; rwa [Nat.mul_one] at this, rfl, fun i hi => ?_⟩, by simp [Value.ownBlock]⟩
      have := h.cells rfl i (f xs[i]) (by simp [hi])
      rwa [Addr.add_mid, Nat.zero_add] at this

theorem cells_new1 (w : World) (u : Value) (T : TypeId) (k : Nat) (hk : k = w.heap.size) : ∀ j v, [u][j]? = some v → (w.alloc (.cells #[u] T)).cell? ((⟨k, 0, none⟩ : Addr).add j) = some v := by
  subst hk
  intro j v hv
  match j, hv with
  | 0, hv => cases hv; simp [Addr.add]
  | (j + 1), hv => simp at hv

set_option maxHeartbeats 2000000 in
set_option maxRecDepth 20000 in
theorem runTo_any {na wa : Option Addr} {n0 nc n1 wc : Nat} {sv : Value} {ss : List (Int × Int)} (host : Int) {w : World} (hS : LRep w sv ss) (hl : ss.length ≤ 1048576) :
    Calls Tryz.prog 24 #[.agg #[.slice na n0 nc, .slice wa n1 wc, sv], .int .i64 host] w fun e w' => ∃ v' bs, e = .returned v' ∧ Below w.heap.size w w' ∧ GOwn (Value.int .i64) w' v' (toH host ss) bs ∧ (∀ b ∈ bs, w.heap.size ≤ b ∧ b < w'.heap.size) := by
  obtain ⟨i0, hi0, hz0, hz1, hz2⟩ := info_parts infoInt
  obtain ⟨sa, sc, rfl, hlc, hcm, hcell⟩ := hS
  have HC : Hid _ := hcell
  clear hcell
  go_enter Tryz.func24, Tryz.ntmps24
  go_wp2
  go_loopw [5, 11] (fun o j wr => ∃ (i : Nat), i ≤ ss.length ∧ j = .int .i64 i ∧ Below w.heap.size w wr ∧ wr.ownsRow w.heap.size 3 1 o (toH host (ss.take i)).length ((toH host (ss.take i)).map (Value.int .i64))) (fun _ j _ => ss.length - (intOf j).toNat)
  case atStart => exact ⟨0, by omega, rfl, (Below.refl _ _).alloc (Nat.le_refl _) _, World.ownsRow_nil _ _ _ _⟩
  case round =>
    obtain ⟨i, hi, rfl, hbr, hor⟩ := hrel
    have hsz : w.heap.size ≤ wr.heap.size := hbr.size
    by_cases hlt : i < ss.length
    · obtain ⟨b, off, rfl, k0, k1⟩ := HC.out i hlt
      replace k0 := cell_later hbr k0
      replace k1 := cell_later hbr k1
      have i0' : (0 : Int) ≤ (i : Int) := by omega
      have i1' : (i : Int) < (ss.length : Int) := by omega
      have q1 := toH_take (host := host) ss i hlt
      have q2 := toH_len host (ss.take i)
      have q3 : (ss.take i).length ≤ ss.length := by simp; omega
      generalize hX : toH host (ss.take i) = X at *
      obtain ⟨oa, oc, rfl⟩ := rowg_slice hor
      have HQ : Hid _ := q1
      have HOR : Hid (wr.ownsRow w.heap.size 3 1 (.slice oa X.length oc) X.length (X.map (Value.int .i64))) := hor
      have HBR : Hid (Below w.heap.size w wr) := hbr
      clear q1 hor hbr hX
      generalize ss[i].1 = h1 at *
      generalize ss[i].2 = m1 at *
      by_cases hh : h1 = host
      · rw [if_pos hh] at HQ
        subst hh
        go_wp2_with (at_builtin; refine wpList_append_own_at _ rfl _ _ 29 rfl w.heap.size 3 i0 _ 1 8 Tryz.underlying29 hi0 hz0 hz1 hz2 rfl (by decide) _ _ _ rfl ((HOR.out.alloc _).alloc _) ⟨wr.heap.size + 1, 0, none⟩ 1 1 [.int .i64 m1] rfl rfl ?c1 ?c2 ?c3 ?c4 ?c5 ?_)
        case c1 => exact cells_new1 (wr.alloc (.cells #[.int .i64 h1, .int .i64 m1] 93)) _ _ _ (by simp)
        case c2 => simp [Value.oneCell']
        case c3 => unfold maxLen; omega
        case c4 => omega
        case c5 => simp; omega
        intro v1 w1 own1 grow1 hn1 _
        have B1 : Below w.heap.size w w1 := ((HBR.out.alloc hsz _).alloc (by simp; omega) _).grown grow1 (by simp; omega) (fun j hj => (World.ownsRow.lt HOR.out j hj).1)
        have H1 : Hid (w1.ownsRow w.heap.size 3 1 v1 (X ++ [m1]).length ((X ++ [m1]).map (Value.int .i64))) := (show w1.ownsRow w.heap.size 3 1 v1 (X ++ [m1]).length ((X ++ [m1]).map (Value.int .i64)) by simpa using own1)
        clear own1 grow1 hn1
        go_wp2
        exact ⟨⟨i + 1, by omega, by simp, B1, by rw [HQ.out]; exact H1.out⟩, by simp [intOf]; omega⟩
      · rw [if_neg hh] at HQ
        go_wp2
        exact ⟨⟨i + 1, by omega, by simp, HBR.out.alloc hsz _, by rw [HQ.out, List.append_nil]; exact HOR.out.alloc _⟩, by simp [intOf]; omega⟩
    · have : i = ss.length := by omega
      subst this
      rw [List.take_length] at hor
      have HOR : Hid _ := hor
      have HBR : Hid (Below w.heap.size w wr) := hbr
      clear hor hbr
      go_wp2
      go_ret
      obtain ⟨bs, h1, h2⟩ := row_gown HOR.out
      exact ⟨_, bs, rfl, HBR.out, h1, fun b hb => World.ownsRow.lt HOR.out b (h2 b hb)⟩

set_option maxHeartbeats 2000000 in
set_option maxRecDepth 20000 in
theorem sRunTo_any {na wa : Option Addr} {n0 nc n1 wc : Nat} {sv : Value} {ss : List (Int × Int)} (host : Int) {w : World} (hS : LRep w sv ss) (hl : ss.length ≤ 1048576) :
    Calls Tryz.prog 41 #[.agg #[.slice na n0 nc, .slice wa n1 wc, sv], .int .i64 host] w fun e w' => ∃ v' bs, e = .returned v' ∧ Below w.heap.size w w' ∧ GOwn (Value.int .i64) w' v' (toH host ss) bs ∧ (∀ b ∈ bs, w.heap.size ≤ b ∧ b < w'.heap.size) := by
  obtain ⟨i0, hi0, hz0, hz1, hz2⟩ := info_parts infoInt
  obtain ⟨sa, sc, rfl, hlc, hcm, hcell⟩ := hS
  have HC : Hid _ := hcell
  clear hcell
  go_enter Tryz.func41, Tryz.ntmps41
  have G := C3.new w (.slice na n0 nc) (.slice wa n1 wc) (.slice sa ss.length sc) 51
  have A : Below w.heap.size w (w.alloc (.cells #[.slice na n0 nc, .slice wa n1 wc, .slice sa ss.length sc] 51)) := (Below.refl _ _).alloc (Nat.le_refl _) _
  generalize hW0 : w.alloc (.cells #[.slice na n0 nc, .slice wa n1 wc, .slice sa ss.length sc] 51) = w0 at G A
  have HW0 : Hid _ := hW0
  have s0 : w0.heap.size = w.heap.size + 1 := by rw [← hW0]; simp
  have HG : Hid _ := G
  clear hW0 G
  go_wp2
  rw [HW0.out]
  rw [show w.heap.size + 1 = w0.heap.size from s0.symm]
  have HS0 : Hid (w0.heap.size = w.heap.size + 1) := s0
  clear HW0 s0
  go_loopw [5, 6] (fun o j wr => ∃ (i : Nat), i ≤ ss.length ∧ j = .int .i64 i ∧ Below w0.heap.size w0 wr ∧ wr.ownsRow w0.heap.size 3 1 o (toH host (ss.take i)).length ((toH host (ss.take i)).map (Value.int .i64))) (fun _ j _ => ss.length - (intOf j).toNat)
  case atStart => exact ⟨0, by omega, rfl, (Below.refl _ _).alloc (Nat.le_refl _) _, World.ownsRow_made w0 #[] 0 (Nat.le_refl _) (by unfold maxLen; omega) (by simp)⟩
  case round =>
    obtain ⟨i, hi, rfl, hbr, hor⟩ := hrel
    have hsz : w0.heap.size ≤ wr.heap.size := hbr.size
    obtain ⟨⟨-, -, x2⟩, -⟩ := C3.below HG.out hbr
    by_cases hlt : i < ss.length
    · obtain ⟨b, off, rfl, k0, k1⟩ := HC.out i hlt
      replace k0 := cell_later hbr (cell_later A k0)
      replace k1 := cell_later hbr (cell_later A k1)
      have i0' : (0 : Int) ≤ (i : Int) := by omega
      have i1' : (i : Int) < (ss.length : Int) := by omega
      have q1 := toH_take (host := host) ss i hlt
      have q2 := toH_len host (ss.take i)
      have q3 : (ss.take i).length ≤ ss.length := by simp; omega
      generalize hX : toH host (ss.take i) = X at *
      obtain ⟨oa, oc, rfl⟩ := rowg_slice hor
      have HQ : Hid _ := q1
      have HOR : Hid (wr.ownsRow w0.heap.size 3 1 (.slice oa X.length oc) X.length (X.map (Value.int .i64))) := hor
      have HBR : Hid (Below w0.heap.size w0 wr) := hbr
      clear q1 hor hbr hX
      generalize ss[i].1 = h1 at *
      generalize ss[i].2 = m1 at *
      by_cases hh : h1 = host
      · rw [if_pos hh] at HQ
        subst hh
        go_wp2_with (at_builtin; refine wpList_append_own_at _ rfl _ _ 29 rfl w0.heap.size 3 i0 _ 1 8 Tryz.underlying29 hi0 hz0 hz1 hz2 rfl (by decide) _ _ _ rfl (HOR.out.alloc _) ⟨wr.heap.size, 0, none⟩ 1 1 [.int .i64 m1] rfl rfl ?c1 ?c2 ?c3 ?c4 ?c5 ?_)
        case c1 => exact cells_new1 wr _ _ _ (by simp)
        case c2 => simp [Value.oneCell']
        case c3 => unfold maxLen; omega
        case c4 => omega
        case c5 => simp; omega
        intro v1 w1 own1 grow1 hn1 _
        have B1 : Below w0.heap.size w0 w1 := (HBR.out.alloc hsz _).grown grow1 (by simp; omega) (fun j hj => (World.ownsRow.lt HOR.out j hj).1)
        have H1 : Hid (w1.ownsRow w0.heap.size 3 1 v1 (X ++ [m1]).length ((X ++ [m1]).map (Value.int .i64))) := (show w1.ownsRow w0.heap.size 3 1 v1 (X ++ [m1]).length ((X ++ [m1]).map (Value.int .i64)) by simpa using own1)
        clear own1 grow1 hn1
        go_wp2
        exact ⟨⟨i + 1, by omega, by simp, B1, by rw [HQ.out]; exact H1.out⟩, by simp [intOf]; omega⟩
      · rw [if_neg hh] at HQ
        go_wp2
        exact ⟨⟨i + 1, by omega, by simp, HBR.out, by rw [HQ.out, List.append_nil]; exact HOR.out⟩, by simp [intOf]; omega⟩
    · have : i = ss.length := by omega
      subst this
      rw [List.take_length] at hor
      have HOR : Hid _ := hor
      have HBR : Hid (Below w0.heap.size w0 wr) := hbr
      clear hor hbr
      go_wp2
      go_ret
      obtain ⟨bs, h1, h2⟩ := row_gown HOR.out
      exact ⟨_, bs, rfl, Below.then A HBR.out A.size, h1, fun b hb => by have := World.ownsRow.lt HOR.out b (h2 b hb); have := HS0.out; omega⟩

end Go.Proofs.YthcgdhlemieboaaGreat

namespace Go.Proofs.YthcgdhlemieboaaGreat
open Go.RowKit
set_option linter.unusedSimpArgs false
set_option linter.unusedVariables false
attribute [local go_sem] World.cell?_alloc_some

def setB (vs : List Bool) (x : Int) : Bool := vIn vs.length x && vs.getD x.toNat false
def setV (vs : List Bool) (ws : List (Int × Int)) : List (Int × Int) := ws.filter fun x => setB vs x.1
def pcells (ls : List (Int × Int)) : List Value := ls.flatMap fun a => [.int .i64 a.1, .int .i64 a.2]
theorem pcells_get : ∀ (ls : List (Int × Int)) (i : Nat) (hi : i < ls.length), (pcells ls)[i * 2]? = some (.int .i64 ls[i].1) ∧ (pcells ls)[i * 2 + 1]? = some (.int .i64 ls[i].2)
  | a :: ls, 0, _ => ⟨rfl, rfl⟩
  | a :: ls, i + 1, hi => by
    have := pcells_get ls i (by simpa using hi)
    have e : pcells (a :: ls) = [.int .i64 a.1, .int .i64 a.2] ++ pcells ls := rfl
    rw [e, List.getElem?_append_right (by simp; omega), List.getElem?_append_right (by simp; omega)]
    simpa [show (i + 1) * 2 - 2 = i * 2 by omega, show (i + 1) * 2 + 1 - 2 = i * 2 + 1 by omega] using this
theorem pcells_app (ls : List (Int × Int)) (a : Int × Int) : pcells (ls ++ [a]) = pcells ls ++ [.int .i64 a.1, .int .i64 a.2] := by simp [pcells]
theorem row_pown {w : World} {base : Nat} {e : TypeId} {v : Value} {ls : List (Int × Int)} (h : w.ownsRow base e 2 v ls.length (pcells ls)) : ∃ bs, LOwn w v ls bs ∧ (∀ b ∈ bs, v.ownBlock = some b) := by
  obtain ⟨h0, ⟨h1, h2⟩ | ⟨g, cap, cur, hv, hg, hh, hc, hm, hs, ht⟩⟩ := id h
  · exact ⟨[], .inl ⟨h2, ⟨none, 0, h1, by unfold maxLen; omega⟩, rfl⟩, by simp⟩
  · subst hv
    by_cases hz : ls.length = 0
    · exact ⟨[], .inl ⟨hz, ⟨some ⟨g, 0, none⟩, cap, by rw [hz], hm⟩, rfl⟩, by simp⟩
    · refine ⟨[g], .inr ⟨by omega, g, cap, rfl, hc, hm, row_there h, rfl, fun i hi => ?_⟩, by simp [Value.ownBlock]⟩
      intro j u hu
      have hg := pcells_get ls i hi
      match j, hu with
      | 0, hu =>
        cases hu
        have := h.cells rfl (i * 2) _ hg.1
        rwa [Addr.add_mid, Nat.zero_add] at this
      | 1, hu =>
        cases hu
        have := h.cells rfl (i * 2 + 1) _ hg.2
        rwa [Addr.add_mid, Nat.zero_add] at this
      | (j + 2), hu => simp at hu
theorem cells_new2 (w : World) (u v : Value) (T : TypeId) (k : Nat) (hk : k = w.heap.size) : ∀ j x, [u, v][j]? = some x → (w.alloc (.cells #[u, v] T)).cell? ((⟨k, 0, none⟩ : Addr).add j) = some x := by
  subst hk
  intro j x hv
  match j, hv with
  | 0, hv => cases hv; simp [Addr.add]
  | 1, hv => cases hv; simp [Addr.add]
  | (j + 2), hv => simp at hv

end Go.Proofs.YthcgdhlemieboaaGreat

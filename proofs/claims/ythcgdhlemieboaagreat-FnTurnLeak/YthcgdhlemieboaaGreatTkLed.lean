/- Leaks, by the model: the first two rows with which a host is told something else, or something else is set. -/
import Derived.Test.YthcgdhlemieboaaGreatTkLeb
import Derived.Test.YthcgdhlemieboaaGreatTkKnw
import Derived.Deep.RegionHeld3
import Derived.Deep.DrawnRows
namespace Go.Proofs.YthcgdhlemieboaaGreat
open Go.RowKit
set_option linter.unusedSimpArgs false
set_option linter.unusedVariables false
attribute [local go_sem] World.cell?_alloc_some

def LkOPost (w : World) (ok : Bool) (P : Nat → Nat → Bool) (n : Nat) (e : Ending) (w' : World) : Prop := ∃ (o : Option (Nat × Nat)) (va vb : Value), (if ok then FirstP P (2 ^ n) o else o = none) ∧ e = .returned (.tuple #[va, vb, .bool o.isSome]) ∧ Below w.heap.size w w' ∧ GRep (Value.int .i64) w' va (rowsO n o).1 ∧ GRep (Value.int .i64) w' vb (rowsO n o).2
theorem knOf_len (ls : List (Int × Int)) (h : Int) : (knowL ls h).length = ls.length ∧ (trustL ls h).length = ls.length := by simp [knowL, trustL]

set_option maxHeartbeats 4000000 in
set_option maxRecDepth 20000 in
theorem sLeakOf_any {d : Nat} {T : Tr d} {lv sv : Value} {ls : List (Int × Int)} (h : Int) {w : World} (hL : LRep w lv ls) (hR : Rep w d sv T) (hcn : cnt d T ≤ 1048576) :
    Calls Tryz.prog 5 #[.agg #[lv, sv], .int .i64 h] w (LkOPost w (progB ls d T && vIn 3 h) (leakP ls d T (knowL ls h) h) ls.length) := by
  obtain ⟨la, lc, rfl, -⟩ := id hL
  obtain ⟨sa, sc, rfl⟩ := id hR.slice
  have A2 : Below w.heap.size w (w.alloc (.cells #[.slice la ls.length lc, .slice sa (ln d T) sc] 26)) := (Below.refl _ _).alloc (Nat.le_refl _) _
  have HX : Hid (∀ wz, Below w.heap.size w wz → LRep wz (.slice la ls.length lc) ls ∧ Rep wz d (.slice sa (ln d T) sc) T) := (show ∀ wz, _ from fun wz hb => ⟨hL.below hb, hR.below hb⟩)
  obtain ⟨w2, hw2⟩ : ∃ W, w.alloc (.cells #[.slice la ls.length lc, .slice sa (ln d T) sc] 26) = W := ⟨_, rfl⟩
  have HPB : Hid (∀ wz, Below w2.heap.size w2 wz → wz.cell? ⟨w.heap.size, 0, none⟩ = some (.slice la ls.length lc) ∧ wz.cell? ⟨w.heap.size, 1, none⟩ = some (.slice sa (ln d T) sc)) := (show ∀ wz, _ from fun wz hb => ⟨cell_later hb (by rw [← hw2]; simp), cell_later hb (by rw [← hw2]; simp)⟩)
  rw [hw2] at A2
  have HW2 : Hid _ := hw2
  have HA2 : Hid (Below w.heap.size w w2) := A2
  obtain ⟨pb, hpb⟩ : ∃ x, progB ls d T = x := ⟨_, rfl⟩
  have K1 : Hid _ := sProgOk_any (HX.out w2 A2).1 (HX.out w2 A2).2 hcn
  rw [hpb] at K1
  have HPBB : Hid _ := hpb
  have HWX : Hid (∀ wz, Below w2.heap.size w2 wz → Below w.heap.size w wz) := (show ∀ wz, _ from fun wz hb => Below.then HA2.out hb HA2.out.size)
  clear hL hR A2 hw2 hpb
  rw [show (progB ls d T && vIn 3 h) = (pb && vIn 3 h) by rw [HPBB.out]]
  go_enter Tryz.func5, Tryz.ntmps5
  go_wp2_with fail
  rw [HW2.out]
  clear HW2
  (try go_at_call 13); refine Calls.mono K1.out ?_
  rintro e w3 ⟨rfl, hb3⟩
  have HB3 : Hid (Below w2.heap.size w2 w3) := hb3
  clear hb3 K1
  have HBO : Hid (Below w.heap.size w ((w3.alloc (.cells #[] 3)).alloc (.cells #[] 3))) := ((HWX.out w3 HB3.out).alloc (HWX.out w3 HB3.out).size _).alloc (by have := (HWX.out w3 HB3.out).size; simp; omega) _
  cases pb
  · go_wp2
    exact bodyPost_ret (v := .tuple #[.slice (some ⟨w3.heap.size, 0, none⟩) 0 0, .slice (some ⟨w3.heap.size + 1, 0, none⟩) 0 0, .bool false]) (by simp [results, Tryz.results5, go_sem]) rfl ⟨none, _, _, rfl, rfl, HBO.out, grep_nil _ _ _ (by unfold maxLen; omega), grep_nil _ _ _ (by unfold maxLen; omega)⟩
  obtain ⟨hb', hhb⟩ : ∃ x, vIn 3 h = x := ⟨_, rfl⟩
  have HHB : Hid _ := hhb
  have K2 : Hid _ := l6In_any h 0 2 w3
  rw [show (decide ((0 : Int) ≤ h) && decide (h ≤ 2)) = vIn 3 h by unfold vIn; congr 1; exact decide_eq_decide.2 (by omega)] at K2
  rw [hhb] at K2 ⊢
  obtain ⟨l4, -⟩ := progB_parts HPBB.out
  go_wp2_with fail
  (try go_at_call 14); refine Calls.mono K2.out ?_
  rintro e w4 ⟨rfl, rfl⟩
  clear K2 hhb
  cases hb'
  · go_wp2
    exact bodyPost_ret (v := .tuple #[.slice (some ⟨w4.heap.size, 0, none⟩) 0 0, .slice (some ⟨w4.heap.size + 1, 0, none⟩) 0 0, .bool false]) (by simp [results, Tryz.results5, go_sem]) rfl ⟨none, _, _, (by rw [HHB.out]; rfl), rfl, HBO.out, grep_nil _ _ _ (by unfold maxLen; omega), grep_nil _ _ _ (by unfold maxLen; omega)⟩
  clear HBO
  obtain ⟨p0, p1⟩ := HPB.out w4 HB3.out
  go_wp2_with fail
  refine wp_region_held (S := (fun wz => Below w4.heap.size w4 wz)) (by kernel_rfl) ?_
  change wpAnyH _ _ _ _ _ _ _ _ (World.drew _)
  have hHeld := (Below.refl w4.heap.size w4).drew
  refine' wpAnyH_take (i := 0) (v := .agg #[.slice la ls.length lc, .slice sa (ln d T) sc]) rfl (by kernel_rfl) (by kernel_rfl) (by kernel_rfl) (fun _ _ _ h => h) (Or.inl ⟨by rfl, ?hy12001⟩) hHeld ?hn12001
  case hy12001 => (intro wz hSw; have j0 := cell_later hSw p0; have j1 := cell_later hSw p1; go_simp)
  try simp only [nrm, Act.put]
  refine' wpAnyH_take (i := 1) (v := .agg #[.slice la ls.length lc, .slice sa (ln d T) sc]) rfl (by kernel_rfl) (by kernel_rfl) (by kernel_rfl) (fun _ _ _ h => h) (Or.inl ⟨by rfl, ?hy12002⟩) hHeld ?hn12002
  case hy12002 => (intro wz hSw; have j0 := cell_later hSw p0; have j1 := cell_later hSw p1; go_simp)
  try simp only [nrm, Act.put]
  refine' wpAnyH_take (i := 2) (v := _) rfl (by kernel_rfl) (by kernel_rfl) (by kernel_rfl) (fun _ _ _ h => h) (Or.inl ⟨by rfl, ?hy12003⟩) hHeld ?hn12003
  case hy12003 => (intro wz hSw; (try dsimp only at hSw); go_simp; first | done | with_reducible rfl)
  try simp only [nrm, Act.put]
  refine' wpAnyH_take (i := 4) (v := _) rfl (by kernel_rfl) (by kernel_rfl) (by kernel_rfl) (fun _ _ _ h => h) (Or.inl ⟨by rfl, ?hy12004⟩) hHeld ?hn12004
  case hy12004 => (intro wz hSw; (try dsimp only at hSw); go_simp; first | done | with_reducible rfl)
  try simp only [nrm, Act.put]
  refine wpAnyH_ready (rs := [3]) (by kernel_rfl) (by simp) ?_
  refine AllReadyH.cons rfl (fun K hK => ?_) AllReadyH.nil
  go_simp
  refine Calls.mono (sTypeKnows_any h (HX.out _ (HWX.out _ (Below.then HB3.out hHeld HB3.out.size))).1 (HX.out _ (HWX.out _ (Below.then HB3.out hHeld HB3.out.size))).2 hcn) ?_; rintro e' y1 ⟨kv, kbs, rfl, hbx, okv, -⟩; have hK2 := Below.then hHeld hbx hHeld.size; rw [HPBB.out, if_pos rfl] at okv; have gkv := okv.rep; obtain ⟨ka, kc, rfl, -⟩ := id gkv; clear okv
  refine hK.out _ _ (hK2) (fun hHeld => ?_)
  clear hK K
  refine wpAnyH_ready (rs := [5]) (by kernel_rfl) (by simp) ?_
  refine AllReadyH.cons rfl (fun K hK => ?_) AllReadyH.nil
  go_simp
  refine Calls.mono (l12FindT_any h (HX.out _ (HWX.out _ (Below.then HB3.out hHeld HB3.out.size))).1 (HX.out _ (HWX.out _ (Below.then HB3.out hHeld HB3.out.size))).2 l4 hcn gkv (knOf_len ls h).1) ?_; rintro e' y2 ⟨o, va, vb, ho, rfl, hbx, g1, g2⟩; have hK2 := Below.then hHeld hbx hHeld.size
  refine hK.out _ _ (hK2) (fun hHeld => ?_)
  clear hK K
  refine' wpAnyH_take (i := 6) (v := _) rfl (by kernel_rfl) (by kernel_rfl) (by kernel_rfl) (fun _ _ _ h => h) (Or.inl ⟨by rfl, ?hy12005⟩) hHeld ?hn12005
  case hy12005 => (intro wz hSw; (try dsimp only at hSw); go_simp; first | done | with_reducible rfl)
  try simp only [nrm, Act.put]
  refine' wpAnyH_take (i := 7) (v := _) rfl (by kernel_rfl) (by kernel_rfl) (by kernel_rfl) (fun _ _ _ h => h) (Or.inl ⟨by rfl, ?hy12006⟩) hHeld ?hn12006
  case hy12006 => (intro wz hSw; (try dsimp only at hSw); go_simp; first | done | with_reducible rfl)
  try simp only [nrm, Act.put]
  refine' wpAnyH_take (i := 8) (v := _) rfl (by kernel_rfl) (by kernel_rfl) (by kernel_rfl) (fun _ _ _ h => h) (Or.inl ⟨by rfl, ?hy12007⟩) hHeld ?hn12007
  case hy12007 => (intro wz hSw; (try dsimp only at hSw); go_simp; first | done | with_reducible rfl)
  try simp only [nrm, Act.put]
  refine' wpAnyH_take (i := 9) (v := _) rfl (by kernel_rfl) (by kernel_rfl) (by kernel_rfl) (fun _ _ _ h => h) (Or.inl ⟨by rfl, ?hy12008⟩) hHeld ?hn12008
  case hy12008 => (intro wz hSw; (try dsimp only at hSw); go_simp; first | done | with_reducible rfl)
  try simp only [nrm, Act.put]
  refine' wpAnyH_take (i := 10) (v := _) rfl (by kernel_rfl) (by kernel_rfl) (by kernel_rfl) (fun _ _ _ h => h) (Or.inl ⟨by rfl, ?hy12009⟩) hHeld ?hn12009
  case hy12009 => (intro wz hSw; (try dsimp only at hSw); go_simp; first | done | with_reducible rfl)
  try simp only [nrm, Act.put]
  refine' wpAnyH_take (i := 11) (v := _) rfl (by kernel_rfl) (by kernel_rfl) (by kernel_rfl) (fun _ _ _ h => h) (Or.inl ⟨by rfl, ?hy12010⟩) hHeld ?hn12010
  case hy12010 => (intro wz hSw; (try dsimp only at hSw); go_simp; first | done | with_reducible rfl)
  try simp only [nrm, Act.put]
  refine wpAnyH_done (by kernel_rfl) ?_ _
  have HF : Hid _ := ho
  have HG1 : Hid _ := g1
  have HG2 : Hid _ := g2
  have HBF : Hid _ := (HWX.out _ (Below.then HB3.out hHeld HB3.out.size))
  clear hHeld p0 p1 ho g1 g2 gkv
  go_wp2
  exact bodyPost_ret (v := .tuple #[va, vb, .bool o.isSome]) (by simp [results, Tryz.results5, go_sem]) rfl ⟨o, va, vb, (by rw [HHB.out]; exact HF.out), rfl, HBF.out, HG1.out, HG2.out⟩

end Go.Proofs.YthcgdhlemieboaaGreat

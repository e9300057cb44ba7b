/- Numbers laid anew, in a row that is there. -/
import Derived.Test.YtpcmhkcahajdgaaVrw
namespace Go.Proofs.Ytpcmhkcahajdgaa
open Go.RowKit
set_option linter.unusedSimpArgs false
set_option linter.unusedVariables false

set_option maxHeartbeats 4000000 in
theorem toIntS_nn {v : Value} {zs : List Int} {w : World} (hL : GRep (Value.int .i64) w v zs) (hlen : zs.length ≤ 1048576) :
    Calls Try.prog 57 #[v] w fun e w' => ∃ v' bs, e = .returned v' ∧ (∃ ad n c, v' = .slice (some ad) n c) ∧ Below w.heap.size w w' ∧ GOwn (Value.int .i64) w' v' zs bs ∧ (∀ b ∈ bs, w.heap.size ≤ b ∧ b < w'.heap.size) := by
  obtain ⟨i0, hi0, hz0, hz1, hz2⟩ := info_parts infoInt
  obtain ⟨la, lc, rfl, hlc, hcm, hcell⟩ := hL
  have HC : Hid _ := hcell
  clear hcell
  go_enter Try.func57, Try.ntmps57
  go_wp2_with (at_make; refine wpList_make_full _ rfl _ _ 41 rfl w.heap.size 3 i0 _ 1 Try.underlying41 hi0 hz0 hz1 _ _ _ _ zs.length rfl rfl rfl rfl ?b2 ?b3 ?b4 ?_)
  case b2 => rw [hz2]; omega
  case b3 => unfold maxLen; omega
  case b4 => exact Nat.le_refl _
  intro w0 own0 grow0
  have t0 := row_there own0
  rw [Nat.mul_one] at t0
  have B0 : Below w.heap.size w w0 := (Below.refl _ _).grown grow0 (Nat.le_refl _) (fun k hk => by cases hk)
  have s0 : w.heap.size < w0.heap.size := (own0.lt w.heap.size rfl).2
  clear own0 grow0
  go_wp2_with fail
  go_loopw [4] (fun j wr => ∃ (i : Nat), i ≤ zs.length ∧ j = .int .i64 i ∧ Below w.heap.size w wr ∧ w.heap.size < wr.heap.size ∧ wr.there w.heap.size 0 zs.length ∧
      ∀ q (hq : q < zs.length), q < i → wr.cell? ⟨w.heap.size, q, none⟩ = some (.int .i64 zs[q])) (fun j _ => zs.length - (intOf j).toNat)
  case atStart => exact ⟨0, by omega, rfl, B0, s0, t0, fun q _ h => by omega⟩
  case round =>
    obtain ⟨i, hi, rfl, hbr, hgs, hth, hown⟩ := hrel
    have hsz : w.heap.size ≤ wr.heap.size := hbr.size
    by_cases hlt : i < zs.length
    · obtain ⟨b, off, rfl, k0⟩ := HC.out i hlt
      replace k0 := cell_later hbr k0
      have i0' : (0 : Int) ≤ (i : Int) := by omega
      have i1' : (i : Int) < (zs.length : Int) := by omega
      obtain ⟨hu, hf⟩ := hth i hlt
      rw [Nat.zero_add] at hu hf
      obtain ⟨u, hu⟩ := Option.isSome_iff_exists.1 hu
      have HTH : Hid _ := hth
      have HOW : Hid _ := hown
      have HBR : Hid (Below w.heap.size w wr) := hbr
      clear hth hown hbr
      go_wp2
      refine ⟨⟨i + 1, by omega, by simp, HBR.out.setCell (Nat.le_refl _) _, by simpa [World.setCell] using hgs, World.there_setCells HTH.out w.heap.size i [.int .i64 zs[i]], ?_⟩, by simp [intOf]; omega⟩
      intro q hq hqi
      by_cases hqe : q = i
      · subst hqe
        exact World.cell?_setCell_same _ _ _ hu
      · exact (World.cell?_setCell_other _ _ _ _ (fun e => hqe (by simpa using e.symm))).trans (HOW.out q hq (by omega))
    · have hie : i = zs.length := by omega
      subst hie
      have HTH : Hid _ := hth
      have HOW : Hid _ := hown
      have HBR : Hid (Below w.heap.size w wr) := hbr
      clear hth hown hbr
      go_wp2
      go_ret
      by_cases hz : zs.length = 0
      · exact ⟨_, [], rfl, ⟨_, _, _, rfl⟩, HBR.out, .inl ⟨hz, ⟨_, _, by rw [hz]; rfl, by unfold maxLen; omega⟩, rfl⟩, by simp⟩
      · refine ⟨_, [w.heap.size], rfl, ⟨_, _, _, rfl⟩, HBR.out, .inr ⟨by omega, w.heap.size, zs.length, rfl, Nat.le_refl _, by unfold maxLen; omega, HTH.out, rfl, fun q hq => HOW.out q hq hq⟩, ?_⟩
        intro b hb
        obtain rfl : b = w.heap.size := by simpa using hb
        exact ⟨Nat.le_refl _, hgs⟩

end Go.Proofs.Ytpcmhkcahajdgaa

/- Rows that are drawn, and sets with them. -/
import Derived.Test.YtkgblkbgebpejaaGreatDoorVtTra
import Derived.Test.YtkgblkbgebpejaaGreatDoorVtTia
namespace Go.Proofs.YtkgblkbgebpejaaGreatDoor
open Go.RowKit
set_option linter.unusedSimpArgs false
set_option linter.unusedVariables false
attribute [local go_sem] World.cell?_alloc_some

set_option maxHeartbeats 8000000 in
set_option maxRecDepth 20000 in
theorem l71Row_any (w : World) (r m n : Nat) (h : Rd2 w r m) (hm : m ≤ 200000) (hn : 1 ≤ n) (hn8 : n ≤ 8) :
    Calls Tryz.prog 33 #[.pointer (some ⟨r, 0, none⟩), .int .i64 n] w fun e w' => ∃ (zs : List Int) (g c : Nat), e = .returned (.slice (some ⟨g, 0, none⟩) zs.length c) ∧ Rd2 w' r (m + 70) ∧ Oth r w w' ∧ w'.ownsRow w.heap.size 3 1 (.slice (some ⟨g, 0, none⟩) zs.length c) zs.length (zs.map (Value.int .i64)) ∧ zs.length ≤ 9 := by
  obtain ⟨i0, hi0, hz0, hz1, hz2⟩ := info_parts infoInt
  have hlt := h.lt
  have hn64 : (n : Int) ≤ 8 := by omega
  have hn1 : (1 : Int) ≤ n := by omega
  have A1 : Below w.heap.size w (w.alloc (.cells #[] 3)) := (Below.refl _ _).alloc (Nat.le_refl _) _
  have H0 : Hid _ := And.intro (h.oth A1) (And.intro (Oth.of_below (r := r) A1) (World.ownsRow_made (base := w.heap.size) (e := 3) (size := 1) w #[] 0 (by simp) (by unfold maxLen; omega) (by simp)))
  clear h A1
  go_enter Tryz.func33, Tryz.ntmps33
  go_wp2
  go_loopw [5, 6] (fun o j wr => ∃ (zs : List Int) (i g gc : Nat), i ≤ 60 ∧ zs.length ≤ n ∧ j = .int .i64 i ∧ o = .slice (some ⟨g, 0, none⟩) zs.length gc ∧ Rd2 wr r (m + i) ∧ Oth r w wr ∧ wr.ownsRow w.heap.size 3 1 (.slice (some ⟨g, 0, none⟩) zs.length gc) zs.length (zs.map (Value.int .i64))) (fun _ j _ => 60 - (intOf j).toNat)
  case atStart => exact ⟨[], 0, w.heap.size, 0, by omega, by simp, rfl, rfl, H0.out.1, H0.out.2.1, by simpa using H0.out.2.2⟩
  case round =>
    obtain ⟨zs, i, g, gc, hi, hzl, rfl, rfl, hrd, hot, hor⟩ := hrel
    have hgl := World.ownsRow.lt hor g rfl
    have HOR : Hid (wr.ownsRow w.heap.size 3 1 (.slice (some ⟨g, 0, none⟩) zs.length gc) zs.length (zs.map (Value.int .i64))) := hor
    have HOT : Hid (Oth r w wr) := hot
    have HRD : Hid (Rd2 wr r (m + i)) := hrd
    have hzi : (zs.length : Int) ≤ 8 := by omega
    clear hrd hot hor
    by_cases hlt2 : i < 60 ∧ zs.length < n
    · obtain ⟨hl1, hl2⟩ := hlt2
      have i1' : (zs.length : Int) < (n : Int) := by omega
      have i0' : (i : Int) < 60 := by omega
      have P1 : Hid _ := pick2 wr r _ n HRD.out (by omega) (by omega) (by omega)
      go_wp2_with fail
      go_at_call 20; refine Calls.mono P1.out ?_
      rintro e w2 ⟨k, rfl, kl, kh, rd2, ot2⟩
      have OR2 : Hid (w2.ownsRow w.heap.size 3 1 (.slice (some ⟨g, 0, none⟩) zs.length gc) zs.length (zs.map (Value.int .i64))) := rowq_oth HOR.out ot2 (by omega)
      have HO2 : Hid (Oth r w w2) := HOT.out.trans ot2
      have HRD2 : Hid _ := rd2
      have HCA : Hid (∀ q (hq : q < zs.length), w2.cell? ⟨g, q, none⟩ = some (.int .i64 zs[q])) := (show ∀ q (hq : q < zs.length), _ from fun q hq => by
        have := World.ownsRow.cellAt OR2.out q (by omega)
        rw [this]; simp [hq])
      have s2 : wr.heap.size ≤ w2.heap.size := ot2.size
      clear rd2 ot2 P1
      go_wp2_with fail
      go_loopw [8, 9] (fun f j wq => ∃ (b : Bool) (q : Nat), q ≤ zs.length ∧ j = .int .i64 q ∧ wq = w2 ∧ f = .bool b) (fun _ j _ => zs.length - (intOf j).toNat)
      case atStart => exact ⟨false, 0, by omega, rfl, rfl, rfl⟩
      case round =>
        obtain ⟨b, q, hq, rfl, hwq, rfl⟩ := hrel
        have hwq' := hwq.symm
        subst hwq'
        clear hwq
        by_cases hql : q < zs.length
        · have c0 := HCA.out q hql
          have q0' : (0 : Int) ≤ (q : Int) := by omega
          have q1' : (q : Int) < (zs.length : Int) := by omega
          generalize zs[q] = y at *
          cases b
          · go_wp2
            exact ⟨⟨_, q + 1, by omega, by simp, by simp, rfl⟩, by simp [intOf]; omega⟩
          · go_wp2
            exact ⟨⟨_, q + 1, by omega, by simp, by simp, rfl⟩, by simp [intOf]; omega⟩
        · have : q = zs.length := by omega
          subst this
          clear HCA
          cases b
          · go_wp2_with (at_builtin; refine wpList_append_own_at _ rfl _ _ 33 rfl w.heap.size 3 i0 _ 1 8 Tryz.underlying33 hi0 hz0 hz1 hz2 rfl (by decide) _ _ _ rfl (OR2.out.alloc _) ⟨w2.heap.size, 0, none⟩ 1 1 [.int .i64 k] rfl rfl ?c1 ?c2 ?c3 ?c4 ?c5 ?_)
            case c1 => exact cells_new1 w2 _ _ _ rfl
            case c2 => simp [Value.oneCell']
            case c3 => unfold maxLen; omega
            case c4 => omega
            case c5 => simp; omega
            intro v5 w5 own5 grow5 nn5 at5
            have nz : v5 ≠ .slice none 0 0 := by intro e; have := nn5; simp [e] at this
            obtain ⟨g5, gc5, hv5⟩ : ∃ g5 gc5, v5 = .slice (some ⟨g5, 0, none⟩) (zs.length + 1) gc5 := by
              obtain ⟨_, ⟨q, _⟩ | ⟨g5, c5, _, q, _⟩⟩ := id own5
              · exact (nz q).elim
              · exact ⟨g5, c5, q⟩
            subst hv5
            have O5 : Oth r w w5 := (HO2.out.alloc _).grown grow5 (fun k hk => by have e : g = k := (by simpa [Value.ownBlock] using hk); have := hgl.1; omega)
            have bl5 : ∀ b, b < w2.heap.size → b ≠ g → w5.heap[b]? = w2.heap[b]? := fun b hb hne => (grow5.block b (by simp; omega) (fun q => hne (by cases q; rfl))).trans (Below.heap_alloc _ _ _ hb)
            have RD5 : Rd2 w5 r (m + (i + 1)) := Rd2.mono (Rd2.same HRD2.out (fun b hb => bl5 b (by omega) (by omega))) (by omega)
            have HO5 : Hid _ := O5
            have HR5 : Hid _ := RD5
            have HW5 : Hid (w5.ownsRow w.heap.size 3 1 (.slice (some ⟨g5, 0, none⟩) (zs.length + 1) gc5) (zs.length + 1) (zs.map (Value.int .i64) ++ [.int .i64 k])) := own5
            clear own5 grow5 nn5 at5 nz O5 bl5 RD5
            go_wp2
            exact ⟨⟨zs ++ [k], i + 1, g5, gc5, by omega, by simp; omega, by simp, by simp, HR5.out, HO5.out, by simpa using HW5.out⟩, by simp [intOf]; omega⟩
          · go_wp2
            exact ⟨⟨zs, i + 1, g, gc, by omega, by omega, by simp, rfl, Rd2.mono HRD2.out (by omega), HO2.out, OR2.out⟩, by simp [intOf]; omega⟩
    · have P1 : Hid _ := pick2 wr r _ 16 HRD.out (by omega) (by omega) (by omega)
      have PL : Hid (Calls Tryz.prog 20 #[.pointer (some ⟨r, 0, none⟩), .int .i64 16] wr fun e w' => ∃ k, e = .returned (.int .i64 k) ∧ 0 ≤ k ∧ k < 16 ∧ Rd2 w' r (m + 61) ∧ Oth r wr w') := (Calls.mono P1.out) (by
        rintro e w2 ⟨k, rfl, kl, kh, rd2, ot2⟩
        exact ⟨k, rfl, kl, kh, rd2.mono (by omega), ot2⟩)
      clear P1
      have fin : ∀ K : Prop, True := fun _ => trivial
      by_cases hl1 : i < 60
      · have hl2 : ¬ (zs.length : Int) < (n : Int) := by omega
        have hl1' : (i : Int) < 60 := by omega
        clear hlt2
        go_wp2_with fail
        go_at_call 20; refine Calls.mono PL.out ?_
        rintro e w2 ⟨k, rfl, kl, kh, rd2, ot2⟩
        have s2 : wr.heap.size ≤ w2.heap.size := ot2.size
        have OR2 : Hid (w2.ownsRow w.heap.size 3 1 (.slice (some ⟨g, 0, none⟩) zs.length gc) zs.length (zs.map (Value.int .i64))) := rowq_oth HOR.out ot2 (by omega)
        have HO2 : Hid (Oth r w w2) := HOT.out.trans ot2
        have HRD2 : Hid (Rd2 w2 r (m + 61)) := rd2
        clear PL
        by_cases hk0 : k = 0
        · subst hk0
          have P2 : Hid _ := pick2 w2 r _ 3 rd2 (by omega) (by omega) (by omega)
          clear rd2 ot2
          go_wp2_with fail
          go_at_call 20; refine Calls.mono P2.out ?_
          rintro e w3 ⟨k, rfl, kl, kh, rd3, ot3⟩
          have OR3 : Hid (w3.ownsRow w.heap.size 3 1 (.slice (some ⟨g, 0, none⟩) zs.length gc) zs.length (zs.map (Value.int .i64))) := rowq_oth OR2.out ot3 (by omega)
          have HO3 : Hid (Oth r w w3) := HO2.out.trans ot3
          have HRD3 : Hid _ := rd3
          have s3 : w2.heap.size ≤ w3.heap.size := ot3.size
          clear rd3 ot3 P2
          go_wp2_with (at_builtin; refine wpList_append_own_at _ rfl _ _ 33 rfl w.heap.size 3 i0 _ 1 8 Tryz.underlying33 hi0 hz0 hz1 hz2 rfl (by decide) _ _ _ rfl (OR3.out.alloc _) ⟨w3.heap.size, 0, none⟩ 1 1 [.int .i64 k] rfl rfl ?d1 ?d2 ?d3 ?d4 ?d5 ?_)
          case d1 => exact cells_new1 w3 _ _ _ rfl
          case d2 => simp [Value.oneCell']
          case d3 => unfold maxLen; omega
          case d4 => omega
          case d5 => simp; omega
          intro v5 w5 own5 grow5 nn5 at5
          have nz : v5 ≠ .slice none 0 0 := by intro e; have := nn5; simp [e] at this
          obtain ⟨g5, gc5, hv5⟩ : ∃ g5 gc5, v5 = .slice (some ⟨g5, 0, none⟩) (zs.length + 1) gc5 := by
            obtain ⟨_, ⟨q, _⟩ | ⟨g5, c5, _, q, _⟩⟩ := id own5
            · exact (nz q).elim
            · exact ⟨g5, c5, q⟩
          subst hv5
          have O5 : Oth r w w5 := (HO3.out.alloc _).grown grow5 (fun k hk => by have e : g = k := (by simpa [Value.ownBlock] using hk); have := hgl.1; omega)
          have bl5 : ∀ b, b < w3.heap.size → b ≠ g → w5.heap[b]? = w3.heap[b]? := fun b hb hne => (grow5.block b (by simp; omega) (fun q => hne (by cases q; rfl))).trans (Below.heap_alloc _ _ _ hb)
          have RD5 : Rd2 w5 r (m + 70) := Rd2.mono (Rd2.same HRD3.out (fun b hb => bl5 b (by omega) (by omega))) (by omega)
          have HO5 : Hid _ := O5
          have HR5 : Hid _ := RD5
          have HW5 : Hid (w5.ownsRow w.heap.size 3 1 (.slice (some ⟨g5, 0, none⟩) (zs.length + 1) gc5) (zs.length + 1) (zs.map (Value.int .i64) ++ [.int .i64 k])) := own5
          clear own5 grow5 nn5 at5 nz O5 bl5 RD5
          go_wp2
          go_ret
          exact ⟨zs ++ [k], g5, gc5, by simp, HR5.out, HO5.out, by simpa using HW5.out, by simp; omega⟩
        · clear rd2 ot2
          go_wp2
          go_ret
          exact ⟨zs, g, gc, rfl, Rd2.mono HRD2.out (by omega), HO2.out, OR2.out, by omega⟩
      · have hl1' : ¬ (i : Int) < 60 := by omega
        clear hlt2
        go_wp2_with fail
        go_at_call 20; refine Calls.mono PL.out ?_
        rintro e w2 ⟨k, rfl, kl, kh, rd2, ot2⟩
        have s2 : wr.heap.size ≤ w2.heap.size := ot2.size
        have OR2 : Hid (w2.ownsRow w.heap.size 3 1 (.slice (some ⟨g, 0, none⟩) zs.length gc) zs.length (zs.map (Value.int .i64))) := rowq_oth HOR.out ot2 (by omega)
        have HO2 : Hid (Oth r w w2) := HOT.out.trans ot2
        have HRD2 : Hid (Rd2 w2 r (m + 61)) := rd2
        clear PL
        by_cases hk0 : k = 0
        · subst hk0
          have P2 : Hid _ := pick2 w2 r _ 3 rd2 (by omega) (by omega) (by omega)
          clear rd2 ot2
          go_wp2_with fail
          go_at_call 20; refine Calls.mono P2.out ?_
          rintro e w3 ⟨k, rfl, kl, kh, rd3, ot3⟩
          have OR3 : Hid (w3.ownsRow w.heap.size 3 1 (.slice (some ⟨g, 0, none⟩) zs.length gc) zs.length (zs.map (Value.int .i64))) := rowq_oth OR2.out ot3 (by omega)
          have HO3 : Hid (Oth r w w3) := HO2.out.trans ot3
          have HRD3 : Hid _ := rd3
          have s3 : w2.heap.size ≤ w3.heap.size := ot3.size
          clear rd3 ot3 P2
          go_wp2_with (at_builtin; refine wpList_append_own_at _ rfl _ _ 33 rfl w.heap.size 3 i0 _ 1 8 Tryz.underlying33 hi0 hz0 hz1 hz2 rfl (by decide) _ _ _ rfl (OR3.out.alloc _) ⟨w3.heap.size, 0, none⟩ 1 1 [.int .i64 k] rfl rfl ?e1 ?e2 ?e3 ?e4 ?e5 ?_)
          case e1 => exact cells_new1 w3 _ _ _ rfl
          case e2 => simp [Value.oneCell']
          case e3 => unfold maxLen; omega
          case e4 => omega
          case e5 => simp; omega
          intro v5 w5 own5 grow5 nn5 at5
          have nz : v5 ≠ .slice none 0 0 := by intro e; have := nn5; simp [e] at this
          obtain ⟨g5, gc5, hv5⟩ : ∃ g5 gc5, v5 = .slice (some ⟨g5, 0, none⟩) (zs.length + 1) gc5 := by
            obtain ⟨_, ⟨q, _⟩ | ⟨g5, c5, _, q, _⟩⟩ := id own5
            · exact (nz q).elim
            · exact ⟨g5, c5, q⟩
          subst hv5
          have O5 : Oth r w w5 := (HO3.out.alloc _).grown grow5 (fun k hk => by have e : g = k := (by simpa [Value.ownBlock] using hk); have := hgl.1; omega)
          have bl5 : ∀ b, b < w3.heap.size → b ≠ g → w5.heap[b]? = w3.heap[b]? := fun b hb hne => (grow5.block b (by simp; omega) (fun q => hne (by cases q; rfl))).trans (Below.heap_alloc _ _ _ hb)
          have RD5 : Rd2 w5 r (m + 70) := Rd2.mono (Rd2.same HRD3.out (fun b hb => bl5 b (by omega) (by omega))) (by omega)
          have HO5 : Hid _ := O5
          have HR5 : Hid _ := RD5
          have HW5 : Hid (w5.ownsRow w.heap.size 3 1 (.slice (some ⟨g5, 0, none⟩) (zs.length + 1) gc5) (zs.length + 1) (zs.map (Value.int .i64) ++ [.int .i64 k])) := own5
          clear own5 grow5 nn5 at5 nz O5 bl5 RD5
          go_wp2
          go_ret
          exact ⟨zs ++ [k], g5, gc5, by simp, HR5.out, HO5.out, by simpa using HW5.out, by simp; omega⟩
        · clear rd2 ot2
          go_wp2
          go_ret
          exact ⟨zs, g, gc, rfl, Rd2.mono HRD2.out (by omega), HO2.out, OR2.out, by omega⟩

end Go.Proofs.YtkgblkbgebpejaaGreatDoor

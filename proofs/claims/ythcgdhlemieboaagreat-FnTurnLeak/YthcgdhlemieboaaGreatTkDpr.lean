/- Drawn programs. -/
import Derived.Test.YthcgdhlemieboaaGreatTkDvx
import Derived.Test.YthcgdhlemieboaaGreatTkTmt
import Derived.Test.YthcgdhlemieboaaGreatTkSpx
import Derived.Deep.RegionHeld3
import Derived.Deep.DrawnRows
namespace Go.Proofs.YthcgdhlemieboaaGreat
open Go.RowKit
set_option linter.unusedSimpArgs false
set_option linter.unusedVariables false
attribute [local go_sem ↓] Go.wp_at_zero Go.wp_at_succ
attribute [local go_sem] World.cell?_alloc_some

theorem dr1 (w : World) (r m : Nat) (most vars : Int) (h : Rd2 w r m) (hm : m ≤ 500000000) (n1 : 1 ≤ vars) (n2 : vars ≤ 100) (m1 : 1 ≤ most) (m2 : most ≤ 4) : Dr 1 w r m most 1 vars :=
  l71Steps_of 0 w r m most vars h hm (by decide) (by decide) n1 n2 m1 m2 (by omega) (fun h => absurd h (by omega))
theorem dr2 (w : World) (r m : Nat) (most vars : Int) (h : Rd2 w r m) (hm : m ≤ 300000000) (n1 : 1 ≤ vars) (n2 : vars ≤ 100) (m1 : 1 ≤ most) (m2 : most ≤ 4) : Dr 2 w r m most 2 vars :=
  l71Steps_of 1 w r m most vars h (by omega) (by decide) (by decide) n1 n2 m1 m2 (by omega) (fun _ wx mx hx hmx => dr1 wx r mx 2 vars hx (by omega) n1 n2 (by omega) (by omega))
theorem dr3 (w : World) (r m : Nat) (most vars : Int) (h : Rd2 w r m) (hm : m ≤ 100000000) (n1 : 1 ≤ vars) (n2 : vars ≤ 100) (m1 : 1 ≤ most) (m2 : most ≤ 4) : Dr 3 w r m most 3 vars :=
  l71Steps_of 2 w r m most vars h (by omega) (by decide) (by decide) n1 n2 m1 m2 (by omega) (fun _ wx mx hx hmx => dr2 wx r mx 2 vars hx (by omega) n1 n2 (by omega) (by omega))

theorem wp_append_at {P : Program} (w : World) {o : Oper} {a : Act} {K : Act → World → Prop} {Q : Exit → Act → World → Prop} (s x : Operand) (t : TypeId)
    (ho : o.op = .call { callee := .builtin .append, args := #[s, x], argTypes := #[t, t] })
    (base : Nat) (e : TypeId) (i : TypeInfo) (z : Value) (size bytes : Nat) (ht : P.underlying t = some (.slice e)) (hi : P.info? e = some i) (hz : i.zero = some z)
    (hsize : i.size = size) (hby : i.bytes = bytes) (hzs : z.cells.size = size) (hsz : 0 < size)
    (v : Value) (n : Nat) (xs : List Value) (hs : a.eval s = v) (hown : w.ownsRow base e size v n xs)
    (ad : Addr) (m c : Nat) (news : List Value) (hx : a.eval x = .slice (some ad) m c) (hl : news.length = m * size) (hnews : ∀ j u, news[j]? = some u → w.cell? (ad.add j) = some u) (h1 : ∀ u ∈ news, u.oneCell' = true)
    (h63 : n + m ≤ maxLen) (hbytes : (n + m) * bytes ≤ 140737488355328) (hbase : base ≤ w.heap.size)
    (h : ∀ v' w', w'.ownsRow base e size v' (n + m) (xs ++ news) → w.grownBy w' v.ownBlock → (v' = .slice none 0 0 ↔ v = .slice none 0 0 ∧ m = 0) → (v'.ownBlock = v.ownBlock ∨ v'.ownBlock = some w.heap.size) → K (a.put o.dst v') w') : o.wp P a w K Q := by
  obtain ⟨v', w', hr, h2, h3, h4, h5⟩ := run_append_own_at (P := P) w base t o.type e i z size bytes ht hi hz hsize hby hzs hsz v n xs hown ad m c news hl hnews h1 h63 hbytes hbase
  unfold Oper.wp execOp
  simp only [ho, resolve, invoke, builtin, Sem.run_bind, Sem.run_pure, Result.andThen_ok, List.map_toArray, List.map_cons, List.map_nil, hs, hx, hr]
  exact h v' w' h2 h3 h4 h5

def lcells (ls : List (Int × Int)) : List Value := ls.flatMap fun a => [.int .i64 a.1, .int .i64 a.2]
theorem lcells_get : ∀ (ls : List (Int × Int)) (i : Nat) (hi : i < ls.length), (lcells ls)[i * 2]? = some (.int .i64 ls[i].1) ∧ (lcells ls)[i * 2 + 1]? = some (.int .i64 ls[i].2)
  | a :: ls, 0, _ => ⟨rfl, rfl⟩
  | a :: ls, i + 1, hi => by
    have := lcells_get ls i (by simpa using hi)
    have e : lcells (a :: ls) = [.int .i64 a.1, .int .i64 a.2] ++ lcells ls := rfl
    rw [e, List.getElem?_append_right (by simp; omega), List.getElem?_append_right (by simp; omega)]
    simpa [show (i + 1) * 2 - 2 = i * 2 by omega, show (i + 1) * 2 + 1 - 2 = i * 2 + 1 by omega] using this
theorem lcells_app (ls : List (Int × Int)) (a : Int × Int) : lcells (ls ++ [a]) = lcells ls ++ [.int .i64 a.1, .int .i64 a.2] := by simp [lcells]
theorem row_lown {w : World} {base : Nat} {v : Value} {ls : List (Int × Int)} (h : w.ownsRow base 59 2 v ls.length (lcells ls)) : ∃ bs, LOwn w v ls bs ∧ (∀ b ∈ bs, v.ownBlock = some b) := by
  obtain ⟨h0, ⟨h1, h2⟩ | ⟨g, cap, cur, hv, hg, hh, hc, hm, hs, ht⟩⟩ := id h
  · exact ⟨[], .inl ⟨h2, ⟨none, 0, h1, by unfold maxLen; omega⟩, rfl⟩, by simp⟩
  · subst hv
    by_cases hz : ls.length = 0
    · exact ⟨[], .inl ⟨hz, ⟨some ⟨g, 0, none⟩, cap, by rw [hz], hm⟩, rfl⟩, by simp⟩
    · refine ⟨[g], .inr ⟨by omega, g, cap, rfl, hc, hm, row_there h, rfl, fun i hi => ?_⟩, by simp [Value.ownBlock]⟩
      intro j u hu
      have hg := lcells_get ls i hi
      match j, hu with
      | 0, hu =>
        cases hu
        have := h.cells rfl (i * 2) _ hg.1
        rwa [Addr.add_mid, Nat.zero_add] at this
      | 1, hu =>
        cases hu
        have := h.cells rfl (i * 2 + 1) _ hg.2
        rwa [Addr.add_mid, Nat.zero_add] at this
      | (j + 2), hu => simp at hu
def C2 (w : World) (b : Nat) (v0 v1 : Value) : Prop := (w.cell? ⟨b, 0, none⟩ = some v0 ∧ w.cell? ⟨b, 1, none⟩ = some v1) ∧ (w.frozen? ⟨b, 0, none⟩ = false ∧ w.frozen? ⟨b, 1, none⟩ = false)
theorem C2.oth {w w' : World} {b r : Nat} {v0 v1 : Value} (h : C2 w b v0 v1) (k : Oth r w w') (hb : b ≠ r) : C2 w' b v0 v1 :=
  ⟨⟨k.cell hb h.1.1, k.cell hb h.1.2⟩, k.frozen hb h.1.1 h.2.1, k.frozen hb h.1.2 h.2.2⟩
theorem C2.new (w : World) (v0 v1 : Value) (T : TypeId) : C2 (w.alloc (.cells #[v0, v1] T)) w.heap.size v0 v1 := by
  refine ⟨⟨?_, ?_⟩, ?_, ?_⟩ <;> simp
theorem C2.same {w w' : World} {b : Nat} {v0 v1 : Value} (h : C2 w b v0 v1) (k : w'.heap[b]? = w.heap[b]?) : C2 w' b v0 v1 :=
  ⟨⟨(World.cell?_of_block (a := ⟨b, 0, none⟩) k).trans h.1.1, (World.cell?_of_block (a := ⟨b, 1, none⟩) k).trans h.1.2⟩, (World.frozen?_of_block (a := ⟨b, 0, none⟩) k).trans h.2.1, (World.frozen?_of_block (a := ⟨b, 1, none⟩) k).trans h.2.2⟩
theorem C2.set0 {w : World} {b : Nat} {v0 v1 : Value} (u : Value) (h : C2 w b v0 v1) : C2 (w.setCell ⟨b, 0, none⟩ u) b u v1 :=
  ⟨⟨World.cell?_setCell_same _ _ _ h.1.1, (World.cell?_setCell_other _ _ _ _ (by simp)).trans h.1.2⟩, by simpa only [World.frozen?_setCell] using h.2⟩
theorem C2.set1 {w : World} {b : Nat} {v0 v1 : Value} (u : Value) (h : C2 w b v0 v1) : C2 (w.setCell ⟨b, 1, none⟩ u) b v0 u :=
  ⟨⟨(World.cell?_setCell_other _ _ _ _ (by simp)).trans h.1.1, World.cell?_setCell_same _ _ _ h.1.2⟩, by simpa only [World.frozen?_setCell] using h.2⟩
theorem label2 (w : World) (r m : Nat) (h : Rd2 w r m) (hm : m ≤ 900000000) :
    Calls Tryz.prog 30 #[.pointer (some ⟨r, 0, none⟩)] w fun e w' => ∃ k t, e = .returned (.agg #[.int .i64 k, .int .i64 t]) ∧ ((0 ≤ k ∧ k ≤ 7) ∧ (0 ≤ t ∧ t ≤ 7)) ∧ Rd2 w' r (m + 2) ∧ Oth r w w' := by
  obtain ⟨p, hp, h⟩ := h
  refine (l71Label_any w r p h (by omega)).mono ?_
  rintro e w' ⟨k, t, h1, h2, h3, h4⟩
  exact ⟨k, t, h1, h2, h3.mono (by omega), h4⟩
def DpPost (w : World) (r m : Nat) (e : Ending) (w' : World) : Prop := ∃ (lv sv : Value) (ls : List (Int × Int)) (T : Tr 3) (b1 b2 : List Nat), e = .returned (.agg #[lv, sv]) ∧ Rd2 w' r m ∧ Oth r w w' ∧ LOwn w' lv ls b1 ∧ Own w' 3 sv T b2 ∧ (∀ b ∈ b1 ++ b2, w.heap.size ≤ b ∧ b < w'.heap.size) ∧ 1 ≤ ls.length ∧ ls.length ≤ 4 ∧ cnt 3 T ≤ 292

set_option maxHeartbeats 8000000 in
set_option maxRecDepth 20000 in
theorem l71Prog_any (w : World) (r m : Nat) (h : Rd2 w r m) (hm : m ≤ 50000000) : Calls Tryz.prog 10 #[.pointer (some ⟨r, 0, none⟩)] w (DpPost w r (m + 40000)) := by
  have hlt := h.lt
  obtain ⟨i0, hi0, hz0, hz1, hz2⟩ := info_parts infoLabel
  have A0 : Below w.heap.size w (w.alloc (.cells #[.slice none 0 0, .slice none 0 0] 26)) := (Below.refl _ _).alloc (Nat.le_refl _) _
  have HR0 : Hid _ := h.oth A0
  have HZ0 : Hid _ := C2.new w (.slice none 0 0) (.slice none 0 0) 26
  have HO0 : Hid (Oth r w (w.alloc (.cells #[.slice none 0 0, .slice none 0 0] 26))) := Oth.of_below A0
  clear A0
  go_enter Tryz.func10, Tryz.ntmps10
  go_wp2_with fail
  go_loopw [3] (fun j wr => ∃ (i : Nat), i ≤ 20 ∧ j = .int .i64 i ∧ Oth r w wr ∧ Rd2 wr r (m + i * 1834) ∧ C2 wr w.heap.size (.slice none 0 0) (.slice none 0 0)) (fun j _ => 20 - (intOf j).toNat)
  case atStart => exact ⟨0, by omega, rfl, HO0.out, Rd2.mono HR0.out (by omega), HZ0.out⟩
  case round =>
    generalize wr = wo at *
    obtain ⟨i, hi, rfl, hot, hrd, hz⟩ := hrel
    have hsz : w.heap.size < wo.heap.size := World.block_lt_of_cell? wo _ hz.1.1
    by_cases hlt' : i < 20
    · have i1' : (i : Int) < 20 := by omega
      have A1 : Below wo.heap.size wo ((wo.alloc (.cells #[] 59)).alloc (.cells #[.slice (some ⟨wo.heap.size, 0, none⟩) 0 0, .slice none 0 0] 26)) := ((Below.refl _ _).alloc (Nat.le_refl _) _).alloc (by simp) _
      have BX : C2 ((wo.alloc (.cells #[] 59)).alloc (.cells #[.slice (some ⟨wo.heap.size, 0, none⟩) 0 0, .slice none 0 0] 26)) (wo.heap.size + 1) (.slice (some ⟨wo.heap.size, 0, none⟩) 0 0) (.slice none 0 0) := by
        have := C2.new (wo.alloc (.cells #[] 59)) (.slice (some ⟨wo.heap.size, 0, none⟩) 0 0) (.slice none 0 0) 26
        rwa [show (wo.alloc (.cells #[] 59)).heap.size = wo.heap.size + 1 by simp] at this
      have RW : ((wo.alloc (.cells #[] 59)).alloc (.cells #[.slice (some ⟨wo.heap.size, 0, none⟩) 0 0, .slice none 0 0] 26)).ownsRow wo.heap.size 59 2 (.slice (some ⟨wo.heap.size, 0, none⟩) 0 0) 0 (lcells []) := (World.ownsRow_made wo #[] 0 (Nat.le_refl _) (by unfold maxLen; omega) (by simp)).alloc _
      have C1 : Hid _ := pick2 _ r _ 4 (hrd.oth A1) (by omega) (by omega) (by omega)
      have HBX : Hid _ := BX
      have HRW : Hid (((wo.alloc (.cells #[] 59)).alloc (.cells #[.slice (some ⟨wo.heap.size, 0, none⟩) 0 0, .slice none 0 0] 26)).ownsRow wo.heap.size 59 2 (.slice (some ⟨wo.heap.size, 0, none⟩) 0 0) 0 (lcells [])) := RW
      have HOT : Hid (Oth r w wo) := hot
      have HOA : Hid (Oth r wo ((wo.alloc (.cells #[] 59)).alloc (.cells #[.slice (some ⟨wo.heap.size, 0, none⟩) 0 0, .slice none 0 0] 26))) := Oth.of_below A1
      have HZ : Hid _ := hz
      clear A1 BX RW hot hz hrd
      go_wp2_with fail
      go_at_call 11; refine Calls.mono C1.out ?_
      rintro e w1 ⟨k, rfl, k0, k4, rd1, ot1⟩
      obtain ⟨n, hn⟩ : ∃ n : Nat, 1 + k = n := ⟨(1 + k).toNat, by omega⟩
      have hn14 : 1 ≤ n ∧ n ≤ 4 := by omega
      have hwn := w64 (1 + k) (by omega)
      have B1 : Hid (C2 w1 (wo.heap.size + 1) (.slice (some ⟨wo.heap.size, 0, none⟩) 0 0) (.slice none 0 0)) := C2.oth HBX.out ot1 (by omega)
      have RW1 : Hid (w1.ownsRow wo.heap.size 59 2 (.slice (some ⟨wo.heap.size, 0, none⟩) 0 0) 0 (lcells [])) := row_oth HRW.out ot1 (by omega)
      have O1 : Hid (Oth r wo w1) := Oth.trans HOA.out ot1
      have RD1 : Hid (Rd2 w1 r (m + i * 1834 + 1)) := rd1
      clear C1 HBX HRW HOA ot1 rd1
      go_wp2_with fail
      clear hwn hn k0 k4
      go_loopw [5] (fun j wx => ∃ (q : Nat) (v : Value) (ls : List (Int × Int)), q ≤ n ∧ j = .int .i64 ((n : Int) - q) ∧ ls.length = q ∧ Oth r wo wx ∧ Rd2 wx r (m + i * 1834 + 1 + q * 2) ∧ C2 wx (wo.heap.size + 1) v (.slice none 0 0) ∧ wx.ownsRow wo.heap.size 59 2 v q (lcells ls) ∧ some (wo.heap.size + 1) ≠ v.ownBlock ∧ v ≠ .slice none 0 0) (fun j _ => (intOf j).toNat)
      case atStart => exact ⟨0, _, [], by omega, by simp, rfl, O1.out, Rd2.mono RD1.out (by omega), B1.out, RW1.out, by simp [Value.ownBlock], by simp⟩
      case round =>
        obtain ⟨q, v, ls, hq, rfl, hlq, hox, hrx, hbx, hrw, hnb, hnn⟩ := hrel
        have hbl : wo.heap.size + 1 < wr.heap.size := World.block_lt_of_cell? _ _ hbx.1.1
        by_cases hqn : q < n
        · have hg0 : (0 : Int) < (n : Int) - q := by omega
          have hwd := w64 ((n : Int) - q - 1) (by omega)
          obtain ⟨g, gc, rfl, hg0, hg1⟩ : ∃ g c, v = .slice (some ⟨g, 0, none⟩) q c ∧ wo.heap.size ≤ g ∧ g < wr.heap.size := by
            obtain ⟨h0, ⟨h1, _⟩ | ⟨g, cap, cur, hv', hg, hh, rr⟩⟩ := id hrw
            · exact (hnn h1).elim
            · exact ⟨g, cap, hv', hg, (World.ownsRow.lt hrw g (by rw [hv']; rfl)).2⟩
          have HBX0 : Hid (C2 wr.drew (wo.heap.size + 1) (.slice (some ⟨g, 0, none⟩) q gc) (.slice none 0 0)) := hbx
          have HRW0 : Hid (wr.drew.ownsRow wo.heap.size 59 2 (.slice (some ⟨g, 0, none⟩) q gc) q (lcells ls)) := hrw
          have HOX : Hid (Oth r wo wr.drew) := hox.drew
          have hgne : g ≠ wo.heap.size + 1 := fun e => hnb (by rw [e]; rfl)
          have CL : Hid _ := label2 wr.drew r (m + i * 1834 + 1 + q * 2) (Rd2.same hrx (fun _ _ => rfl)) (by omega)
          obtain ⟨⟨x0, x1⟩, y0, y1⟩ := hbx
          clear hrw hox hrx
          go_wp2_with fail
          refine wp_region_held (S := fun _ => True) (by kernel_rfl) ?_
          change wpAnyH _ _ _ _ _ _ _ _ (World.drew _)
          refine' wpAnyH_take (i := 0) (v := _) rfl (by kernel_rfl) (by kernel_rfl) (by kernel_rfl) (fun _ _ _ h => h) (Or.inl ⟨by rfl, ?hy1001⟩) trivial ?hn1001
          case hy1001 => (intro wz hSw; go_simp; first | done | with_reducible rfl)
          try simp only [nrm, Act.put]
          refine' wpAnyH_take (i := 2) (v := _) rfl (by kernel_rfl) (by kernel_rfl) (by kernel_rfl) (fun _ _ _ h => h) (Or.inl ⟨by rfl, ?hy1002⟩) trivial ?hn1002
          case hy1002 => (intro wz hSw; go_simp; first | done | with_reducible rfl)
          try simp only [nrm, Act.put]
          refine wpAnyH_ready (rs := [1, 3]) (by kernel_rfl) (by simp) ?_
          refine AllReadyH.cons rfl (fun K hK => ?_) (AllReadyH.cons rfl (fun K hK => ?_) AllReadyH.nil)
          · go_simp
            refine hK.out _ _ trivial (fun _ => ?_)
            clear hK K
            refine wpAnyH_ready (rs := [3]) (by kernel_rfl) (by simp) ?_
            refine AllReadyH.cons rfl (fun K hK => ?_) AllReadyH.nil
            go_simp
            refine Calls.mono CL.out ?_
            rintro e' w3 ⟨k3, t3, rfl, _, rd3, ot3⟩
            have X3 := C2.oth HBX0.out ot3 (by omega)
            have HX3 : Hid (C2 w3 (wo.heap.size + 1) (.slice (some ⟨g, 0, none⟩) q gc) (.slice none 0 0)) := X3
            have RW3 : Hid (w3.ownsRow wo.heap.size 59 2 (.slice (some ⟨g, 0, none⟩) q gc) q (lcells ls)) := row_oth HRW0.out ot3 (by omega)
            have O3 : Hid (Oth r wo w3) := HOX.out.trans ot3
            have HRD3 : Hid _ := rd3
            have s3 : wo.heap.size + 1 < w3.heap.size := Nat.lt_of_lt_of_le hbl ot3.size
            clear x0 x1 y0 y1 ot3 rd3
            obtain ⟨⟨x0, x1⟩, y0, y1⟩ := X3
            refine hK.out _ _ trivial (fun _ => ?_)
            clear hK K
            refine wpAnyH_ready (rs := [4]) (by kernel_rfl) (by simp) ?_
            refine AllReadyH.cons rfl (fun K hK => ?_) AllReadyH.nil
            go_simp
            refine hK.out _ _ trivial (fun _ => ?_)
            clear hK K
            refine wpAnyH_ready (rs := [5]) (by kernel_rfl) (by simp) ?_
            refine AllReadyH.cons rfl (fun K hK => ?_) AllReadyH.nil
            rw [if_pos (by rfl)]
            refine wp_append_at _ _ _ 23 rfl wo.heap.size 59 i0 _ 2 16 Tryz.underlying23 hi0 hz0 hz1 hz2 rfl (by decide) (.slice (some ⟨g, 0, none⟩) q gc) q (lcells ls) rfl (World.ownsRow.alloc RW3.out _) ⟨w3.heap.size, 0, none⟩ 1 1 [.int .i64 k3, .int .i64 t3] rfl rfl ?c1 ?c2 ?c3 ?c4 ?c5 ?_
            case c1 =>
              intro j u hj
              match j, hj with
              | 0, hj => cases hj; simp [Addr.add]
              | 1, hj => cases hj; simp [Addr.add]
            case c2 => (intro u hu; simp at hu; rcases hu with rfl | rfl <;> rfl)
            case c3 => (unfold maxLen; omega)
            case c4 => omega
            case c5 => (simp; omega)
            intro v5 w5 own5 grow5 nn5 at5
            have hb5 : w5.heap[wo.heap.size + 1]? = w3.heap[wo.heap.size + 1]? := (grow5.block _ (by simp; omega) (fun e => hgne (by simpa [Value.ownBlock] using e.symm))).trans (Below.heap_alloc _ _ _ (by omega))
            have X5 := C2.same HX3.out hb5
            have HX5 : Hid (C2 w5 (wo.heap.size + 1) (.slice (some ⟨g, 0, none⟩) q gc) (.slice none 0 0)) := X5
            have O5 : Hid (Oth r wo w5) := ⟨grow5.os.trans O3.out.os, grow5.tape.trans O3.out.tape, grow5.output.trans O3.out.output, by have := grow5.size; simp at this; omega, fun k hk hr => (grow5.block k (by simp; omega) (fun e => by simp [Value.ownBlock] at e; omega)).trans ((Below.heap_alloc _ _ _ (by omega)).trans (O3.out.block k hk hr))⟩
            have R5 : Hid (Rd2 w5 r (m + i * 1834 + 1 + q * 2 + 2)) := Rd2.same HRD3.out (fun k hk => (grow5.block k (by simp; omega) (fun e => by simp [Value.ownBlock] at e; omega)).trans (Below.heap_alloc _ _ _ (by omega)))
            have W5 : Hid (w5.ownsRow wo.heap.size 59 2 v5 (q + 1) (lcells ls ++ [.int .i64 k3, .int .i64 t3])) := own5
            have hnn5 : v5 ≠ .slice none 0 0 := by intro e; have := nn5; simp [e] at this
            have hne5 : some (wo.heap.size + 1) ≠ v5.ownBlock := by
              intro e
              rcases at5 with h | h
              · rw [h] at e; simp [Value.ownBlock] at e; omega
              · rw [h] at e
                have e' := Option.some.inj e
                simp at e'
                omega
            have HN5 : Hid _ := And.intro hnn5 hne5
            obtain ⟨g5, gc5, rfl⟩ : ∃ g5 c5, v5 = .slice (some ⟨g5, 0, none⟩) (q + 1) c5 := by
              obtain ⟨h0, ⟨h1, _⟩ | ⟨g', cap, cur, hv', rr⟩⟩ := id own5
              · exact (hnn5 h1).elim
              · exact ⟨g', cap, hv'⟩
            clear x0 x1 y0 y1 own5 grow5 nn5 at5 hb5 hnn5 hne5
            obtain ⟨⟨x0, x1⟩, y0, y1⟩ := X5
            refine hK.out _ _ trivial (fun _ => ?_)
            clear hK K
            refine' wpAnyH_take (i := 6) (v := _) rfl (by kernel_rfl) (by kernel_rfl) (by kernel_rfl) (fun _ _ _ h => h) (Or.inl ⟨by rfl, ?hy1003⟩) trivial ?hn1003
            case hy1003 => (intro wz hSw; go_simp; first | done | with_reducible rfl)
            try simp only [nrm, Act.put]
            refine wpAnyH_ready (rs := [7]) (by kernel_rfl) (by simp) ?_
            refine AllReadyH.cons rfl (fun K hK => ?_) AllReadyH.nil
            go_simp
            refine hK.out _ _ trivial (fun _ => ?_)
            clear hK K
            refine wpAnyH_done (by kernel_rfl) ?_ _
            have X6 : C2 (w5.setCell ⟨wo.heap.size + 1, 0, none⟩ (.slice (some ⟨g5, 0, none⟩) (q + 1) gc5)) (wo.heap.size + 1) (.slice (some ⟨g5, 0, none⟩) (q + 1) gc5) (.slice none 0 0) := C2.set0 (.slice (some ⟨g5, 0, none⟩) (q + 1) gc5) HX5.out
            have hbk : ∀ b, b ≠ wo.heap.size + 1 → (w5.setCell ⟨wo.heap.size + 1, 0, none⟩ (.slice (some ⟨g5, 0, none⟩) (q + 1) gc5)).heap[b]? = w5.heap[b]? := fun b hb => Below.heap_setCell _ _ _ _ hb
            have W6 : (w5.setCell ⟨wo.heap.size + 1, 0, none⟩ (.slice (some ⟨g5, 0, none⟩) (q + 1) gc5)).ownsRow wo.heap.size 59 2 (.slice (some ⟨g5, 0, none⟩) (q + 1) gc5) (q + 1) (lcells (ls ++ [(k3, t3)])) := by
              rw [lcells_app]
              obtain ⟨h0, ⟨h1, _⟩ | ⟨g', cap, cur, hv', hg, hh, rr⟩⟩ := (show w5.ownsRow wo.heap.size 59 2 (.slice (some ⟨g5, 0, none⟩) (q + 1) gc5) (q + 1) (lcells ls ++ [.int .i64 k3, .int .i64 t3]) from W5.out)
              · exact (HN5.out.1 h1).elim
              · refine ⟨h0, .inr ⟨g', cap, cur, hv', hg, (hbk g' (fun e => HN5.out.2 (by rw [hv', ← e]; rfl))).trans hh, rr⟩⟩
            have O6 : Oth r wo (w5.setCell ⟨wo.heap.size + 1, 0, none⟩ (.slice (some ⟨g5, 0, none⟩) (q + 1) gc5)) := O5.out.new (p := ⟨wo.heap.size + 1, 0, none⟩) (by show wo.heap.size ≤ wo.heap.size + 1; omega) _
            have R6 : Rd2 (w5.setCell ⟨wo.heap.size + 1, 0, none⟩ (.slice (some ⟨g5, 0, none⟩) (q + 1) gc5)) r (m + i * 1834 + 1 + (q + 1) * 2) := (Rd2.same R5.out (fun k hk => hbk k (by omega))).mono (by omega)
            have HN6 := HN5.out
            generalize w5.setCell ⟨wo.heap.size + 1, 0, none⟩ (.slice (some ⟨g5, 0, none⟩) (q + 1) gc5) = w6 at *
            clear x0 x1 y0 y1
            go_wp2
            exact ⟨⟨q + 1, (.slice (some ⟨g5, 0, none⟩) (q + 1) gc5), ls ++ [(k3, t3)], by omega, by simp; omega, by simp [hlq], O6, R6, X6, W6, HN6.2, HN6.1⟩, by simp [intOf]; omega⟩
          · go_simp
            refine Calls.mono CL.out ?_
            rintro e' w3 ⟨k3, t3, rfl, _, rd3, ot3⟩
            have X3 := C2.oth HBX0.out ot3 (by omega)
            have HX3 : Hid (C2 w3 (wo.heap.size + 1) (.slice (some ⟨g, 0, none⟩) q gc) (.slice none 0 0)) := X3
            have RW3 : Hid (w3.ownsRow wo.heap.size 59 2 (.slice (some ⟨g, 0, none⟩) q gc) q (lcells ls)) := row_oth HRW0.out ot3 (by omega)
            have O3 : Hid (Oth r wo w3) := HOX.out.trans ot3
            have HRD3 : Hid _ := rd3
            have s3 : wo.heap.size + 1 < w3.heap.size := Nat.lt_of_lt_of_le hbl ot3.size
            clear x0 x1 y0 y1 ot3 rd3
            obtain ⟨⟨x0, x1⟩, y0, y1⟩ := X3
            refine hK.out _ _ trivial (fun _ => ?_)
            clear hK K
            refine wpAnyH_ready (rs := [1, 4]) (by kernel_rfl) (by simp) ?_
            refine AllReadyH.cons rfl (fun K hK => ?_) (AllReadyH.cons rfl (fun K hK => ?_) AllReadyH.nil)
            · go_simp
              refine hK.out _ _ trivial (fun _ => ?_)
              clear hK K
              refine wpAnyH_ready (rs := [4]) (by kernel_rfl) (by simp) ?_
              refine AllReadyH.cons rfl (fun K hK => ?_) AllReadyH.nil
              go_simp
              refine hK.out _ _ trivial (fun _ => ?_)
              clear hK K
              refine wpAnyH_ready (rs := [5]) (by kernel_rfl) (by simp) ?_
              refine AllReadyH.cons rfl (fun K hK => ?_) AllReadyH.nil
              rw [if_pos (by rfl)]
              refine wp_append_at _ _ _ 23 rfl wo.heap.size 59 i0 _ 2 16 Tryz.underlying23 hi0 hz0 hz1 hz2 rfl (by decide) (.slice (some ⟨g, 0, none⟩) q gc) q (lcells ls) rfl (World.ownsRow.alloc RW3.out _) ⟨w3.heap.size, 0, none⟩ 1 1 [.int .i64 k3, .int .i64 t3] rfl rfl ?c1 ?c2 ?c3 ?c4 ?c5 ?_
              case c1 =>
                intro j u hj
                match j, hj with
                | 0, hj => cases hj; simp [Addr.add]
                | 1, hj => cases hj; simp [Addr.add]
              case c2 => (intro u hu; simp at hu; rcases hu with rfl | rfl <;> rfl)
              case c3 => (unfold maxLen; omega)
              case c4 => omega
              case c5 => (simp; omega)
              intro v5 w5 own5 grow5 nn5 at5
              have hb5 : w5.heap[wo.heap.size + 1]? = w3.heap[wo.heap.size + 1]? := (grow5.block _ (by simp; omega) (fun e => hgne (by simpa [Value.ownBlock] using e.symm))).trans (Below.heap_alloc _ _ _ (by omega))
              have X5 := C2.same HX3.out hb5
              have HX5 : Hid (C2 w5 (wo.heap.size + 1) (.slice (some ⟨g, 0, none⟩) q gc) (.slice none 0 0)) := X5
              have O5 : Hid (Oth r wo w5) := ⟨grow5.os.trans O3.out.os, grow5.tape.trans O3.out.tape, grow5.output.trans O3.out.output, by have := grow5.size; simp at this; omega, fun k hk hr => (grow5.block k (by simp; omega) (fun e => by simp [Value.ownBlock] at e; omega)).trans ((Below.heap_alloc _ _ _ (by omega)).trans (O3.out.block k hk hr))⟩
              have R5 : Hid (Rd2 w5 r (m + i * 1834 + 1 + q * 2 + 2)) := Rd2.same HRD3.out (fun k hk => (grow5.block k (by simp; omega) (fun e => by simp [Value.ownBlock] at e; omega)).trans (Below.heap_alloc _ _ _ (by omega)))
              have W5 : Hid (w5.ownsRow wo.heap.size 59 2 v5 (q + 1) (lcells ls ++ [.int .i64 k3, .int .i64 t3])) := own5
              have hnn5 : v5 ≠ .slice none 0 0 := by intro e; have := nn5; simp [e] at this
              have hne5 : some (wo.heap.size + 1) ≠ v5.ownBlock := by
                intro e
                rcases at5 with h | h
                · rw [h] at e; simp [Value.ownBlock] at e; omega
                · rw [h] at e
                  have e' := Option.some.inj e
                  simp at e'
                  omega
              have HN5 : Hid _ := And.intro hnn5 hne5
              obtain ⟨g5, gc5, rfl⟩ : ∃ g5 c5, v5 = .slice (some ⟨g5, 0, none⟩) (q + 1) c5 := by
                obtain ⟨h0, ⟨h1, _⟩ | ⟨g', cap, cur, hv', rr⟩⟩ := id own5
                · exact (hnn5 h1).elim
                · exact ⟨g', cap, hv'⟩
              clear x0 x1 y0 y1 own5 grow5 nn5 at5 hb5 hnn5 hne5
              obtain ⟨⟨x0, x1⟩, y0, y1⟩ := X5
              refine hK.out _ _ trivial (fun _ => ?_)
              clear hK K
              refine' wpAnyH_take (i := 6) (v := _) rfl (by kernel_rfl) (by kernel_rfl) (by kernel_rfl) (fun _ _ _ h => h) (Or.inl ⟨by rfl, ?hy1004⟩) trivial ?hn1004
              case hy1004 => (intro wz hSw; go_simp; first | done | with_reducible rfl)
              try simp only [nrm, Act.put]
              refine wpAnyH_ready (rs := [7]) (by kernel_rfl) (by simp) ?_
              refine AllReadyH.cons rfl (fun K hK => ?_) AllReadyH.nil
              go_simp
              refine hK.out _ _ trivial (fun _ => ?_)
              clear hK K
              refine wpAnyH_done (by kernel_rfl) ?_ _
              have X6 : C2 (w5.setCell ⟨wo.heap.size + 1, 0, none⟩ (.slice (some ⟨g5, 0, none⟩) (q + 1) gc5)) (wo.heap.size + 1) (.slice (some ⟨g5, 0, none⟩) (q + 1) gc5) (.slice none 0 0) := C2.set0 (.slice (some ⟨g5, 0, none⟩) (q + 1) gc5) HX5.out
              have hbk : ∀ b, b ≠ wo.heap.size + 1 → (w5.setCell ⟨wo.heap.size + 1, 0, none⟩ (.slice (some ⟨g5, 0, none⟩) (q + 1) gc5)).heap[b]? = w5.heap[b]? := fun b hb => Below.heap_setCell _ _ _ _ hb
              have W6 : (w5.setCell ⟨wo.heap.size + 1, 0, none⟩ (.slice (some ⟨g5, 0, none⟩) (q + 1) gc5)).ownsRow wo.heap.size 59 2 (.slice (some ⟨g5, 0, none⟩) (q + 1) gc5) (q + 1) (lcells (ls ++ [(k3, t3)])) := by
                rw [lcells_app]
                obtain ⟨h0, ⟨h1, _⟩ | ⟨g', cap, cur, hv', hg, hh, rr⟩⟩ := (show w5.ownsRow wo.heap.size 59 2 (.slice (some ⟨g5, 0, none⟩) (q + 1) gc5) (q + 1) (lcells ls ++ [.int .i64 k3, .int .i64 t3]) from W5.out)
                · exact (HN5.out.1 h1).elim
                · refine ⟨h0, .inr ⟨g', cap, cur, hv', hg, (hbk g' (fun e => HN5.out.2 (by rw [hv', ← e]; rfl))).trans hh, rr⟩⟩
              have O6 : Oth r wo (w5.setCell ⟨wo.heap.size + 1, 0, none⟩ (.slice (some ⟨g5, 0, none⟩) (q + 1) gc5)) := O5.out.new (p := ⟨wo.heap.size + 1, 0, none⟩) (by show wo.heap.size ≤ wo.heap.size + 1; omega) _
              have R6 : Rd2 (w5.setCell ⟨wo.heap.size + 1, 0, none⟩ (.slice (some ⟨g5, 0, none⟩) (q + 1) gc5)) r (m + i * 1834 + 1 + (q + 1) * 2) := (Rd2.same R5.out (fun k hk => hbk k (by omega))).mono (by omega)
              have HN6 := HN5.out
              generalize w5.setCell ⟨wo.heap.size + 1, 0, none⟩ (.slice (some ⟨g5, 0, none⟩) (q + 1) gc5) = w6 at *
              clear x0 x1 y0 y1
              go_wp2
              exact ⟨⟨q + 1, (.slice (some ⟨g5, 0, none⟩) (q + 1) gc5), ls ++ [(k3, t3)], by omega, by simp; omega, by simp [hlq], O6, R6, X6, W6, HN6.2, HN6.1⟩, by simp [intOf]; omega⟩
            · go_simp
              refine hK.out _ _ trivial (fun _ => ?_)
              clear hK K
              refine wpAnyH_ready (rs := [1]) (by kernel_rfl) (by simp) ?_
              refine AllReadyH.cons rfl (fun K hK => ?_) AllReadyH.nil
              go_simp
              refine hK.out _ _ trivial (fun _ => ?_)
              clear hK K
              refine wpAnyH_ready (rs := [5]) (by kernel_rfl) (by simp) ?_
              refine AllReadyH.cons rfl (fun K hK => ?_) AllReadyH.nil
              rw [if_pos (by rfl)]
              refine wp_append_at _ _ _ 23 rfl wo.heap.size 59 i0 _ 2 16 Tryz.underlying23 hi0 hz0 hz1 hz2 rfl (by decide) (.slice (some ⟨g, 0, none⟩) q gc) q (lcells ls) rfl (World.ownsRow.alloc RW3.out _) ⟨w3.heap.size, 0, none⟩ 1 1 [.int .i64 k3, .int .i64 t3] rfl rfl ?c1 ?c2 ?c3 ?c4 ?c5 ?_
              case c1 =>
                intro j u hj
                match j, hj with
                | 0, hj => cases hj; simp [Addr.add]
                | 1, hj => cases hj; simp [Addr.add]
              case c2 => (intro u hu; simp at hu; rcases hu with rfl | rfl <;> rfl)
              case c3 => (unfold maxLen; omega)
              case c4 => omega
              case c5 => (simp; omega)
              intro v5 w5 own5 grow5 nn5 at5
              have hb5 : w5.heap[wo.heap.size + 1]? = w3.heap[wo.heap.size + 1]? := (grow5.block _ (by simp; omega) (fun e => hgne (by simpa [Value.ownBlock] using e.symm))).trans (Below.heap_alloc _ _ _ (by omega))
              have X5 := C2.same HX3.out hb5
              have HX5 : Hid (C2 w5 (wo.heap.size + 1) (.slice (some ⟨g, 0, none⟩) q gc) (.slice none 0 0)) := X5
              have O5 : Hid (Oth r wo w5) := ⟨grow5.os.trans O3.out.os, grow5.tape.trans O3.out.tape, grow5.output.trans O3.out.output, by have := grow5.size; simp at this; omega, fun k hk hr => (grow5.block k (by simp; omega) (fun e => by simp [Value.ownBlock] at e; omega)).trans ((Below.heap_alloc _ _ _ (by omega)).trans (O3.out.block k hk hr))⟩
              have R5 : Hid (Rd2 w5 r (m + i * 1834 + 1 + q * 2 + 2)) := Rd2.same HRD3.out (fun k hk => (grow5.block k (by simp; omega) (fun e => by simp [Value.ownBlock] at e; omega)).trans (Below.heap_alloc _ _ _ (by omega)))
              have W5 : Hid (w5.ownsRow wo.heap.size 59 2 v5 (q + 1) (lcells ls ++ [.int .i64 k3, .int .i64 t3])) := own5
              have hnn5 : v5 ≠ .slice none 0 0 := by intro e; have := nn5; simp [e] at this
              have hne5 : some (wo.heap.size + 1) ≠ v5.ownBlock := by
                intro e
                rcases at5 with h | h
                · rw [h] at e; simp [Value.ownBlock] at e; omega
                · rw [h] at e
                  have e' := Option.some.inj e
                  simp at e'
                  omega
              have HN5 : Hid _ := And.intro hnn5 hne5
              obtain ⟨g5, gc5, rfl⟩ : ∃ g5 c5, v5 = .slice (some ⟨g5, 0, none⟩) (q + 1) c5 := by
                obtain ⟨h0, ⟨h1, _⟩ | ⟨g', cap, cur, hv', rr⟩⟩ := id own5
                · exact (hnn5 h1).elim
                · exact ⟨g', cap, hv'⟩
              clear x0 x1 y0 y1 own5 grow5 nn5 at5 hb5 hnn5 hne5
              obtain ⟨⟨x0, x1⟩, y0, y1⟩ := X5
              refine hK.out _ _ trivial (fun _ => ?_)
              clear hK K
              refine' wpAnyH_take (i := 6) (v := _) rfl (by kernel_rfl) (by kernel_rfl) (by kernel_rfl) (fun _ _ _ h => h) (Or.inl ⟨by rfl, ?hy1005⟩) trivial ?hn1005
              case hy1005 => (intro wz hSw; go_simp; first | done | with_reducible rfl)
              try simp only [nrm, Act.put]
              refine wpAnyH_ready (rs := [7]) (by kernel_rfl) (by simp) ?_
              refine AllReadyH.cons rfl (fun K hK => ?_) AllReadyH.nil
              go_simp
              refine hK.out _ _ trivial (fun _ => ?_)
              clear hK K
              refine wpAnyH_done (by kernel_rfl) ?_ _
              have X6 : C2 (w5.setCell ⟨wo.heap.size + 1, 0, none⟩ (.slice (some ⟨g5, 0, none⟩) (q + 1) gc5)) (wo.heap.size + 1) (.slice (some ⟨g5, 0, none⟩) (q + 1) gc5) (.slice none 0 0) := C2.set0 (.slice (some ⟨g5, 0, none⟩) (q + 1) gc5) HX5.out
              have hbk : ∀ b, b ≠ wo.heap.size + 1 → (w5.setCell ⟨wo.heap.size + 1, 0, none⟩ (.slice (some ⟨g5, 0, none⟩) (q + 1) gc5)).heap[b]? = w5.heap[b]? := fun b hb => Below.heap_setCell _ _ _ _ hb
              have W6 : (w5.setCell ⟨wo.heap.size + 1, 0, none⟩ (.slice (some ⟨g5, 0, none⟩) (q + 1) gc5)).ownsRow wo.heap.size 59 2 (.slice (some ⟨g5, 0, none⟩) (q + 1) gc5) (q + 1) (lcells (ls ++ [(k3, t3)])) := by
                rw [lcells_app]
                obtain ⟨h0, ⟨h1, _⟩ | ⟨g', cap, cur, hv', hg, hh, rr⟩⟩ := (show w5.ownsRow wo.heap.size 59 2 (.slice (some ⟨g5, 0, none⟩) (q + 1) gc5) (q + 1) (lcells ls ++ [.int .i64 k3, .int .i64 t3]) from W5.out)
                · exact (HN5.out.1 h1).elim
                · refine ⟨h0, .inr ⟨g', cap, cur, hv', hg, (hbk g' (fun e => HN5.out.2 (by rw [hv', ← e]; rfl))).trans hh, rr⟩⟩
              have O6 : Oth r wo (w5.setCell ⟨wo.heap.size + 1, 0, none⟩ (.slice (some ⟨g5, 0, none⟩) (q + 1) gc5)) := O5.out.new (p := ⟨wo.heap.size + 1, 0, none⟩) (by show wo.heap.size ≤ wo.heap.size + 1; omega) _
              have R6 : Rd2 (w5.setCell ⟨wo.heap.size + 1, 0, none⟩ (.slice (some ⟨g5, 0, none⟩) (q + 1) gc5)) r (m + i * 1834 + 1 + (q + 1) * 2) := (Rd2.same R5.out (fun k hk => hbk k (by omega))).mono (by omega)
              have HN6 := HN5.out
              generalize w5.setCell ⟨wo.heap.size + 1, 0, none⟩ (.slice (some ⟨g5, 0, none⟩) (q + 1) gc5) = w6 at *
              clear x0 x1 y0 y1
              go_wp2
              exact ⟨⟨q + 1, (.slice (some ⟨g5, 0, none⟩) (q + 1) gc5), ls ++ [(k3, t3)], by omega, by simp; omega, by simp [hlq], O6, R6, X6, W6, HN6.2, HN6.1⟩, by simp [intOf]; omega⟩
        · have hqe : q = n := by omega
          subst hqe
          have hg0 : ¬ (0 : Int) < (q : Int) - q := by omega
          obtain ⟨g, gc, rfl, hg0', hg1⟩ : ∃ g c, v = .slice (some ⟨g, 0, none⟩) q c ∧ wo.heap.size ≤ g ∧ g < wr.heap.size := by
            obtain ⟨h0, ⟨h1, _⟩ | ⟨g, cap, cur, hv', hg, hh, rr⟩⟩ := id hrw
            · exact (hnn h1).elim
            · exact ⟨g, cap, hv', hg, (World.ownsRow.lt hrw g (by rw [hv']; rfl)).2⟩
          have hgne : g ≠ wo.heap.size + 1 := fun e => hnb (by rw [e]; rfl)
          obtain ⟨b1, lo, hlo⟩ := row_lown (ls := ls) (by rw [hlq]; exact hrw)
          have hb1 : ∀ b ∈ b1, b = g := fun b hb => by have := hlo b hb; simpa [Value.ownBlock] using this.symm
          have CD : Hid (Calls Tryz.prog 31 #[.pointer (some ⟨r, 0, none⟩), .int .i64 4, .int .i64 3, .int .i64 q] wr (DrPost 3 wr r (m + i * 1834 + 1 + q * 2 + pk 3) (ck 3))) := dr3 wr r (m + i * 1834 + 1 + q * 2) 4 q hrx (by omega) (by omega) (by omega) (by omega) (by omega)
          have HBX : Hid _ := hbx
          have HLO : Hid _ := lo
          have HOX : Hid (Oth r wo wr) := hox
          obtain ⟨⟨x0, x1⟩, y0, y1⟩ := hbx
          clear hrw hox hrx lo hlo
          go_wp2_with fail
          go_at_call 31; refine Calls.mono CD.out ?_
          rintro e w3 ⟨sv, T, bs, rfl, rd3, ot3, own3, rg3, nd3, cT⟩
          obtain ⟨sa, sc, rfl⟩ := own3.slice
          have s3 : wr.heap.size ≤ w3.heap.size := ot3.size
          have X3 := C2.oth HBX.out ot3 (by omega)
          have lo3 : LOwn w3 (.slice (some ⟨g, 0, none⟩) q gc) ls b1 := LOwn.frame (fun b hb => ot3.block b (by rw [hb1 b hb]; omega) (by rw [hb1 b hb]; omega)) HLO.out
          have hs3 : ∀ b, b ≠ wo.heap.size + 1 → (w3.setCell ⟨wo.heap.size + 1, 1, none⟩ (.slice sa (ln 3 T) sc)).heap[b]? = w3.heap[b]? := fun b hb => Below.heap_setCell _ _ _ _ hb
          have lo3' : LOwn (w3.setCell ⟨wo.heap.size + 1, 1, none⟩ (.slice sa (ln 3 T) sc)) (.slice (some ⟨g, 0, none⟩) q gc) ls b1 := LOwn.frame (fun b hb => hs3 b (by rw [hb1 b hb]; exact hgne)) lo3
          have ow3' : Own (w3.setCell ⟨wo.heap.size + 1, 1, none⟩ (.slice sa (ln 3 T) sc)) 3 (.slice sa (ln 3 T) sc) T bs := Own.frame (fun b hb => hs3 b (by have := rg3 b hb; omega)) own3
          have X3' : C2 (w3.setCell ⟨wo.heap.size + 1, 1, none⟩ (.slice sa (ln 3 T) sc)) (wo.heap.size + 1) (.slice (some ⟨g, 0, none⟩) q gc) (.slice sa (ln 3 T) sc) := C2.set1 _ X3
          have O3 : Oth r w (w3.setCell ⟨wo.heap.size + 1, 1, none⟩ (.slice sa (ln 3 T) sc)) := (((HOT.out.trans HOX.out).trans ot3)).new (p := ⟨wo.heap.size + 1, 1, none⟩) (by show w.heap.size ≤ wo.heap.size + 1; omega) _
          have R3 : Rd2 (w3.setCell ⟨wo.heap.size + 1, 1, none⟩ (.slice sa (ln 3 T) sc)) r (m + (i + 1) * 1834) := (rd3.same (fun k hk => hs3 k (by omega))).mono (by have : pk 3 = 1825 := rfl; omega)
          have z3 : (w3.setCell ⟨wo.heap.size + 1, 1, none⟩ (.slice sa (ln 3 T) sc)).heap.size = w3.heap.size := by simp [World.setCell]
          have Z3 : C2 (w3.setCell ⟨wo.heap.size + 1, 1, none⟩ (.slice sa (ln 3 T) sc)) w.heap.size (.slice none 0 0) (.slice none 0 0) := ((C2.oth HZ.out HOX.out (by omega)).oth ot3 (by omega)).same (hs3 _ (by omega))
          have CP : Hid _ := sProgOk_any lo3'.rep ow3'.rep (by have : ck 3 = 292 := rfl; omega)
          have HX3 : Hid _ := X3'
          have HL3 : Hid _ := lo3'
          have HW3 : Hid _ := ow3'
          have HO3 : Hid (Oth r w (w3.setCell ⟨wo.heap.size + 1, 1, none⟩ (.slice sa (ln 3 T) sc))) := O3
          have HR3 : Hid _ := R3
          have HZ3 : Hid _ := Z3
          have HRG : Hid _ := rg3
          clear x0 x1 y0 y1 CD HBX HLO ot3 rd3 own3 lo3 lo3' ow3' O3 R3 Z3 rg3
          obtain ⟨⟨x0, x1⟩, y0, y1⟩ := X3
          go_wp2_with fail
          go_at_call 13; refine Calls.mono CP.out ?_
          generalize (w3.setCell ⟨wo.heap.size + 1, 1, none⟩ (.slice sa (ln 3 T) sc)) = w3' at *
          rintro e w4 ⟨rfl, hb4⟩
          have O4 : Oth r w w4 := HO3.out.trans (Oth.of_below hb4)
          have R4 : Rd2 w4 r (m + (i + 1) * 1834) := Rd2.oth HR3.out hb4
          have s4 : w3'.heap.size ≤ w4.heap.size := hb4.size
          have Z4 : C2 w4 w.heap.size (.slice none 0 0) (.slice none 0 0) := C2.same HZ3.out (hb4.block _ (by omega))
          have X4 : C2 w4 (wo.heap.size + 1) (.slice (some ⟨g, 0, none⟩) q gc) (.slice sa (ln 3 T) sc) := C2.same HX3.out (hb4.block _ (by omega))
          have lo4 : LOwn w4 (.slice (some ⟨g, 0, none⟩) q gc) ls b1 := LOwn.frame (fun b hb => hb4.block b (by rw [hb1 b hb]; omega)) HL3.out
          have rg3 : ∀ b ∈ bs, wr.heap.size ≤ b ∧ b < w3.heap.size := HRG.out
          have ow4 : Own w4 3 (.slice sa (ln 3 T) sc) T bs := Own.frame (fun b hb => hb4.block b (by have := rg3 b hb; omega)) HW3.out
          clear x0 x1 y0 y1 CP HX3 HL3 HW3 HO3 HR3 HZ3 hb4 hs3
          generalize progB ls 3 T = ok
          cases ok
          · have HO4 : Hid _ := O4
            have HR4 : Hid _ := R4
            have HZ4 : Hid _ := Z4
            clear O4 R4 Z4 lo4 ow4 X4 X3'
            go_wp2
            exact ⟨⟨i + 1, by omega, by simp, HO4.out, HR4.out, HZ4.out⟩, by simp [intOf]; omega⟩
          · have HO4 : Hid (Oth r w w4) := O4
            have HR4 : Hid _ := R4
            have HZ4 : Hid (C2 w4 w.heap.size (.slice none 0 0) (.slice none 0 0)) := Z4
            have HL4 : Hid _ := lo4
            have HW4 : Hid _ := ow4
            obtain ⟨⟨x0, x1⟩, y0, y1⟩ := X4
            obtain ⟨⟨z0, z1⟩, u0, u1⟩ := Z4
            clear O4 R4 lo4 ow4 X3'
            go_wp2
            have AF : C2 ((w4.setCell ⟨w.heap.size, 0, none⟩ (.slice (some ⟨g, 0, none⟩) q gc)).setCell ⟨w.heap.size, 1, none⟩ (.slice sa (ln 3 T) sc)) w.heap.size (.slice (some ⟨g, 0, none⟩) q gc) (.slice sa (ln 3 T) sc) := (HZ4.out.set0 _).set1 _
            have hF : ∀ b, b ≠ w.heap.size → ((w4.setCell ⟨w.heap.size, 0, none⟩ (.slice (some ⟨g, 0, none⟩) q gc)).setCell ⟨w.heap.size, 1, none⟩ (.slice sa (ln 3 T) sc)).heap[b]? = w4.heap[b]? := fun b hb => (Below.heap_setCell _ _ _ _ hb).trans (Below.heap_setCell _ _ _ _ hb)
            have OF : Oth r w ((w4.setCell ⟨w.heap.size, 0, none⟩ (.slice (some ⟨g, 0, none⟩) q gc)).setCell ⟨w.heap.size, 1, none⟩ (.slice sa (ln 3 T) sc)) := (HO4.out.new (p := ⟨w.heap.size, 0, none⟩) (Nat.le_refl _) _).new (p := ⟨w.heap.size, 1, none⟩) (Nat.le_refl _) _
            have zF : ((w4.setCell ⟨w.heap.size, 0, none⟩ (.slice (some ⟨g, 0, none⟩) q gc)).setCell ⟨w.heap.size, 1, none⟩ (.slice sa (ln 3 T) sc)).heap.size = w4.heap.size := by simp [World.setCell]
            generalize ((w4.setCell ⟨w.heap.size, 0, none⟩ (.slice (some ⟨g, 0, none⟩) q gc)).setCell ⟨w.heap.size, 1, none⟩ (.slice sa (ln 3 T) sc)) = wf at *
            obtain ⟨⟨c0, c1⟩, -⟩ := AF
            refine bodyPost_ret (v := .agg #[.slice (some ⟨g, 0, none⟩) q gc, .slice sa (ln 3 T) sc]) (by simp [results, Tryz.results10, go_sem, c0, c1]) rfl ⟨_, _, ls, T, b1, bs, rfl, Rd2.mono (Rd2.same HR4.out (fun k hk => hF k (by omega))) (by omega), OF, LOwn.frame (fun b hb => hF b (by rw [hb1 b hb]; omega)) HL4.out, Own.frame (fun b hb => hF b (by have := rg3 b hb; omega)) HW4.out, ?_, by omega, by omega, by have : ck 3 = 292 := rfl; omega⟩
            intro b hb
            rw [zF]
            rcases List.mem_append.1 hb with hb | hb
            · rw [hb1 b hb]; omega
            · have := rg3 b hb; omega
    · have hi20 : i = 20 := by omega
      subst hi20
      have HOT : Hid (Oth r w wo) := hot
      have HRD : Hid _ := hrd
      have HZ : Hid (C2 wo w.heap.size (.slice none 0 0) (.slice none 0 0)) := hz
      obtain ⟨⟨z0, z1⟩, u0, u1⟩ := hz
      clear hot hrd
      go_wp2
      have AX : C2 ((wo.setCell ⟨w.heap.size, 0, none⟩ (.slice (some ⟨wo.heap.size, 0, none⟩) 1 1)).setCell ⟨w.heap.size, 1, none⟩ (.slice none 0 0)) w.heap.size (.slice (some ⟨wo.heap.size, 0, none⟩) 1 1) (.slice none 0 0) := (HZ.out.set0 _).set1 _
      have zX : ((wo.setCell ⟨w.heap.size, 0, none⟩ (.slice (some ⟨wo.heap.size, 0, none⟩) 1 1)).setCell ⟨w.heap.size, 1, none⟩ (.slice none 0 0)).heap.size = wo.heap.size := by simp [World.setCell]
      have OX : Oth r w ((wo.setCell ⟨w.heap.size, 0, none⟩ (.slice (some ⟨wo.heap.size, 0, none⟩) 1 1)).setCell ⟨w.heap.size, 1, none⟩ (.slice none 0 0)) := (HOT.out.new (p := ⟨w.heap.size, 0, none⟩) (Nat.le_refl _) _).new (p := ⟨w.heap.size, 1, none⟩) (Nat.le_refl _) _
      have RX : Rd2 ((wo.setCell ⟨w.heap.size, 0, none⟩ (.slice (some ⟨wo.heap.size, 0, none⟩) 1 1)).setCell ⟨w.heap.size, 1, none⟩ (.slice none 0 0)) r (m + 20 * 1834) := Rd2.same HRD.out (fun k hk => (Below.heap_setCell _ _ _ _ (by show k ≠ w.heap.size; omega)).trans (Below.heap_setCell _ _ _ _ (by show k ≠ w.heap.size; omega)))
      generalize ((wo.setCell ⟨w.heap.size, 0, none⟩ (.slice (some ⟨wo.heap.size, 0, none⟩) 1 1)).setCell ⟨w.heap.size, 1, none⟩ (.slice none 0 0)) = wx at *
      have AB : Below wx.heap.size wx (wx.alloc (.cells #[.int .i64 7, .int .i64 0] 59)) := (Below.refl _ _).alloc (Nat.le_refl _) _
      have AF := AX.same (AB.block _ (by omega))
      have NL := C2.new wx (.int .i64 7) (.int .i64 0) 59
      rw [zX] at NL
      obtain ⟨T, on, cn, -⟩ := own_nil (wx.alloc (.cells #[.int .i64 7, .int .i64 0] 59)) 3
      have zF : (wx.alloc (.cells #[.int .i64 7, .int .i64 0] 59)).heap.size = wo.heap.size + 1 := by simp [zX]
      have OF : Oth r w (wx.alloc (.cells #[.int .i64 7, .int .i64 0] 59)) := OX.trans (Oth.of_below AB)
      have RF := Rd2.oth RX AB
      generalize wx.alloc (.cells #[.int .i64 7, .int .i64 0] 59) = wf at *
      obtain ⟨⟨c0, c1⟩, -⟩ := AF
      refine bodyPost_ret (v := .agg #[.slice (some ⟨wo.heap.size, 0, none⟩) 1 1, .slice none 0 0]) (by simp [results, Tryz.results10, go_sem, c0, c1]) rfl ⟨_, _, [(7, 0)], T, [wo.heap.size], [], rfl, RF.mono (by omega), OF, .inr ⟨by simp, wo.heap.size, 1, rfl, by simp, by unfold maxLen; omega, ?_, rfl, ?_⟩, on, ?_, by simp, by simp, by omega⟩
      · intro j hj
        have hj' : j = 0 ∨ j = 1 := by simp at hj; omega
        rcases hj' with rfl | rfl
        · exact ⟨by rw [NL.1.1]; rfl, NL.2.1⟩
        · exact ⟨by rw [NL.1.2]; rfl, NL.2.2⟩
      · intro j hj
        have hj' : j = 0 := by simp at hj; omega
        subst hj'
        intro q u hu
        match q, hu with
        | 0, hu => cases hu; exact NL.1.1
        | 1, hu => cases hu; exact NL.1.2
      · intro b hb
        have : b = wo.heap.size := by simpa using hb
        omega

end Go.Proofs.YthcgdhlemieboaaGreat

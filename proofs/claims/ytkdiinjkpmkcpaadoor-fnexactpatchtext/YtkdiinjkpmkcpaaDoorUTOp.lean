/- Data as cells: the helpers of the laws over Op. -/
import Derived.Test.YtkdiinjkpmkcpaaDoorULeaf
import Derived.Test.YtkdiinjkpmkcpaaDoorUTValue
namespace Go.Proofs.YtkdiinjkpmkcpaaDoor
open Go.RowKit Go.BigFrame
set_option linter.unusedVariables false

set_option maxRecDepth 20000 in
set_option maxHeartbeats 800000 in
theorem uszOp_any {lo hi : Nat} (d : UD) (xs : List Value) (left : Int) (w : World) (ht : tyL d (uE 7)) (hx : uH w lo hi d xs) (h0 : 0 ≤ left) (h1 : left ≤ 1048576) :
    Calls Tryd.prog 9 #[.agg xs.toArray, .int .i64 left] w fun e w' => e = .returned (.int .i64 (leftI left (wt d))) ∧ Below w.heap.size w w' := by
  obtain ⟨z0, n1, c1, z2, z3, z4, n5, c5, n6, c6, rfl, g0, g1, g2, g3, g4, g5, g6⟩ := partsOp ht
  obtain ⟨_, rfl, ⟨v1, _, rfl, s1, ⟨_, rfl, ⟨_, rfl, ⟨_, rfl, ⟨v5, _, rfl, s5, ⟨v6, _, rfl, s6, rfl⟩⟩⟩⟩⟩⟩⟩ := hx
  obtain ⟨a1, p1, rfl, t1⟩ := s1
  obtain ⟨a5, p5, rfl, t5⟩ := s5
  obtain ⟨a6, p6, rfl, t6⟩ := s6
  obtain ⟨M0, hM0⟩ : ∃ M, M = (n1 + wt c1) := ⟨_, rfl⟩
  have HC0 : Hid (∀ (wx : World) (l : Int), Below w.heap.size w wx → 0 ≤ l → l ≤ 1048576 → Calls Tryd.prog 16 #[.slice a1 n1 p1, .int .i64 l] wx fun e w' => e = .returned (.int .i64 (leftI l M0)) ∧ Below wx.heap.size wx w') := fun wx l hb q0 q1 => hM0 ▸ uszStringS_any (lo := lo) (hi := hi) n1 c1 _ l wx g1 q0 q1 ((show uS w lo hi 1 n1 c1 (.slice a1 n1 p1) from ⟨_, _, rfl, t1⟩).below hb)
  obtain ⟨M1, hM1⟩ : ∃ M, M = (wt (.p (.int .i64 z2) (.p (.string z3) (.p (.int .i64 z4) (.l 1 n5 c5 (.l 5 n6 c6 .nil)))))) := ⟨_, rfl⟩
  have HC1 : Hid (∀ (wx : World) (l : Int), Below w.heap.size w wx → 0 ≤ l → l ≤ 1048576 → Calls Tryd.prog 17 #[.agg #[.int .i64 z2, .string z3, .int .i64 z4, .slice a5 n5 p5, .slice a6 n6 p6], .int .i64 l] wx fun e w' => e = .returned (.int .i64 (leftI l M1)) ∧ Below wx.heap.size wx w') := fun wx l hb q0 q1 => hM1 ▸ uszValue_any (lo := lo) (hi := hi) (.p (.int .i64 z2) (.p (.string z3) (.p (.int .i64 z4) (.l 1 n5 c5 (.l 5 n6 c6 .nil))))) [.int .i64 z2, .string z3, .int .i64 z4, .slice a5 n5 p5, .slice a6 n6 p6] l wx ⟨_, _, rfl, ⟨z2, rfl, g2⟩, ⟨_, _, rfl, ⟨z3, rfl, g3⟩, ⟨_, _, rfl, ⟨z4, rfl, g4⟩, ⟨_, _, rfl, g5, ⟨_, _, rfl, g6, rfl⟩⟩⟩⟩⟩ ((show uH w lo hi (.p (.int .i64 z2) (.p (.string z3) (.p (.int .i64 z4) (.l 1 n5 c5 (.l 5 n6 c6 .nil))))) [.int .i64 z2, .string z3, .int .i64 z4, .slice a5 n5 p5, .slice a6 n6 p6] from ⟨_, rfl, ⟨_, rfl, ⟨_, rfl, ⟨_, _, rfl, ⟨_, _, rfl, t5⟩, ⟨_, _, rfl, ⟨_, _, rfl, t6⟩, rfl⟩⟩⟩⟩⟩).below hb) q0 q1
  have E : Hid (leftI left (wt (.p (.int .i64 z0) (.l 1 n1 c1 (.p (.int .i64 z2) (.p (.string z3) (.p (.int .i64 z4) (.l 1 n5 c5 (.l 5 n6 c6 .nil)))))))) = leftI left (M0 + (M1 + 0))) := by show _ = _; congr 1 <;> (simp only [wt, wtP, hM0, hM1] <;> omega)
  generalize leftI left (wt (.p (.int .i64 z0) (.l 1 n1 c1 (.p (.int .i64 z2) (.p (.string z3) (.p (.int .i64 z4) (.l 1 n5 c5 (.l 5 n6 c6 .nil)))))))) = R at *
  have HA : Hid (∀ o, Below w.heap.size w (w.alloc o)) := fun o => (Below.refl _ _).alloc (Nat.le_refl _) _
  unfold maxLen at g3
  clear t1 t5 t6 hM0 hM1 g1 g5 g6
  obtain ⟨y0, hy0⟩ : ∃ y, y = leftI left M0 := ⟨_, rfl⟩
  have Y0 := uhide hy0
  by_cases k0 : y0 < 0
  · have EN : Hid (R = -1) := by show _ = _; rw [E.out]; exact leftI_neg _ (by omega) (by rw [← hy0]; exact k0)
    clear E hy0
    go_enter Tryd.func9, Tryd.ntmps9
    go_wp2_with fail
    refine (HC0.out _ _ (HA.out _) (by omega) (by omega)).mono ?_
    rintro e w1 ⟨rfl, hb1⟩
    have B1 : Hid (Below w.heap.size w w1) := (HA.out _).trans (hb1.mono (by simp))
    clear hb1
    rw [show leftI left M0 = y0 from Y0.out.symm]
    go_wp2
    go_ret
    exact ⟨ret_intU EN.out.symm, B1.out⟩
  replace E : Hid (R = leftI y0 (M1 + 0)) := by
    obtain ⟨q1, q2, q3⟩ := leftI_pos (x := left) (a := M0) (M1 + 0) (by rw [← hy0]; exact k0)
    show _ = _; rw [E.out, q1, ← hy0]
  have u0 : y0 ≤ left := by rw [hy0]; unfold leftI; split <;> omega
  clear hy0
  obtain ⟨y1, hy1⟩ : ∃ y, y = leftI y0 M1 := ⟨_, rfl⟩
  have Y1 := uhide hy1
  by_cases k1 : y1 < 0
  · have EN : Hid (R = -1) := by show _ = _; rw [E.out]; exact leftI_neg _ (by omega) (by rw [← hy1]; exact k1)
    clear E hy1
    go_enter Tryd.func9, Tryd.ntmps9
    go_wp2_with fail
    refine (HC0.out _ _ (HA.out _) (by omega) (by omega)).mono ?_
    rintro e w1 ⟨rfl, hb1⟩
    have b2 : w1.cell? ⟨w.heap.size, 2, none⟩ = some (.int .i64 z2) := (hb1.cell (p := ⟨w.heap.size, 2, none⟩) (by simp <;> omega)).trans (by simp [go_sem])
    have b3 : w1.cell? ⟨w.heap.size, 3, none⟩ = some (.string z3) := (hb1.cell (p := ⟨w.heap.size, 3, none⟩) (by simp <;> omega)).trans (by simp [go_sem])
    have b4 : w1.cell? ⟨w.heap.size, 4, none⟩ = some (.int .i64 z4) := (hb1.cell (p := ⟨w.heap.size, 4, none⟩) (by simp <;> omega)).trans (by simp [go_sem])
    have b5 : w1.cell? ⟨w.heap.size, 5, none⟩ = some (.slice a5 n5 p5) := (hb1.cell (p := ⟨w.heap.size, 5, none⟩) (by simp <;> omega)).trans (by simp [go_sem])
    have b6 : w1.cell? ⟨w.heap.size, 6, none⟩ = some (.slice a6 n6 p6) := (hb1.cell (p := ⟨w.heap.size, 6, none⟩) (by simp <;> omega)).trans (by simp [go_sem])
    have B1 : Hid (Below w.heap.size w w1) := (HA.out _).trans (hb1.mono (by simp))
    clear hb1
    rw [show leftI left M0 = y0 from Y0.out.symm]
    go_wp2_with fail
    refine (HC1.out _ _ (by repeat (first | assumption | exact HA.out _ | exact B1.out)) (by omega) (by omega)).mono ?_
    rintro e w2 ⟨rfl, hb2⟩
    have B2 : Hid (Below w.heap.size w w2) := B1.out.trans (hb2.mono B1.out.size)
    clear hb2
    rw [show leftI y0 M1 = y1 from Y1.out.symm]
    go_wp2
    go_ret
    exact ⟨ret_intU EN.out.symm, B2.out⟩
  replace E : Hid (R = leftI y1 (0)) := by
    obtain ⟨q1, q2, q3⟩ := leftI_pos (x := y0) (a := M1) (0) (by rw [← hy1]; exact k1)
    show _ = _; rw [E.out, q1, ← hy1]
  have u1 : y1 ≤ y0 := by rw [hy1]; unfold leftI; split <;> omega
  clear hy1
  replace E : Hid (R = y1) := E.out.trans (leftI_zero (by omega))
  go_enter Tryd.func9, Tryd.ntmps9
  go_wp2_with fail
  refine (HC0.out _ _ (HA.out _) (by omega) (by omega)).mono ?_
  rintro e w1 ⟨rfl, hb1⟩
  have b2 : w1.cell? ⟨w.heap.size, 2, none⟩ = some (.int .i64 z2) := (hb1.cell (p := ⟨w.heap.size, 2, none⟩) (by simp <;> omega)).trans (by simp [go_sem])
  have b3 : w1.cell? ⟨w.heap.size, 3, none⟩ = some (.string z3) := (hb1.cell (p := ⟨w.heap.size, 3, none⟩) (by simp <;> omega)).trans (by simp [go_sem])
  have b4 : w1.cell? ⟨w.heap.size, 4, none⟩ = some (.int .i64 z4) := (hb1.cell (p := ⟨w.heap.size, 4, none⟩) (by simp <;> omega)).trans (by simp [go_sem])
  have b5 : w1.cell? ⟨w.heap.size, 5, none⟩ = some (.slice a5 n5 p5) := (hb1.cell (p := ⟨w.heap.size, 5, none⟩) (by simp <;> omega)).trans (by simp [go_sem])
  have b6 : w1.cell? ⟨w.heap.size, 6, none⟩ = some (.slice a6 n6 p6) := (hb1.cell (p := ⟨w.heap.size, 6, none⟩) (by simp <;> omega)).trans (by simp [go_sem])
  have B1 : Hid (Below w.heap.size w w1) := (HA.out _).trans (hb1.mono (by simp))
  clear hb1
  rw [show leftI left M0 = y0 from Y0.out.symm]
  go_wp2_with fail
  refine (HC1.out _ _ (by repeat (first | assumption | exact HA.out _ | exact B1.out)) (by omega) (by omega)).mono ?_
  rintro e w2 ⟨rfl, hb2⟩
  have B2 : Hid (Below w.heap.size w w2) := B1.out.trans (hb2.mono B1.out.size)
  clear hb2
  rw [show leftI y0 M1 = y1 from Y1.out.symm]
  go_wp2
  go_ret
  exact ⟨ret_intU E.out.symm, B2.out⟩
set_option maxRecDepth 20000 in
set_option maxHeartbeats 800000 in
set_option maxRecDepth 20000 in
theorem uszOpS_any {lo hi : Nat} (n : Nat) (cs : UD) (c : Value) (left : Int) (w : World) (ht : tyS 7 n cs 7) (h0 : 0 ≤ left) (h1 : left ≤ 1048576) (hx : uS w lo hi 7 n cs c) :
    Calls Tryd.prog 4 #[c, .int .i64 left] w fun e w' => e = .returned (.int .i64 (leftI left (n + wt cs))) ∧ Below w.heap.size w w' := by
  obtain ⟨a, cap, rfl, hx2⟩ := hx
  have Hx : Hid (uS w lo hi 7 n cs (.slice a n cap)) := ⟨a, cap, rfl, hx2⟩
  have hmx := ht.2.2.1
  unfold maxLen at hmx
  have Ht := uhide ht
  clear hx2 ht
  by_cases c1 : left - (n : Int) < 0
  · have E : Hid (leftI left (n + wt cs) = -1) := by show _ = _; unfold leftI; rw [if_pos (by omega)]
    go_enter Tryd.func4, Tryd.ntmps4
    go_wp2
    go_ret
    exact ⟨ret_intU E.out.symm, Below.refl _ _⟩
  have E : Hid (leftI left (n + wt cs) = leftI (left - n) (wt (cs.dropN (0 * 7)))) := by
    show _ = _
    obtain ⟨g1, g2, g3⟩ := leftI_pos (x := left) (a := n) (wt cs) (by unfold leftI; split <;> omega)
    rw [g1, g2, Nat.zero_mul, UD.dropN_zero]
  go_enter Tryd.func4, Tryd.ntmps4
  go_wp2
  go_loopw [1, 5] (fun l i wr => ∃ (q : Nat) (x : Int), q ≤ n ∧ i = .int .i64 q ∧ l = .int .i64 x ∧ 0 ≤ x ∧ x ≤ 1048576 ∧ Hid (leftI left (n + wt cs) = leftI x (wt (cs.dropN (q * 7)))) ∧ Below w.heap.size w wr) (fun _ i _ => n - (intOf i).toNat)
  case atStart => exact ⟨0, _, Nat.zero_le _, rfl, rfl, by omega, by omega, E, Below.refl _ _⟩
  case round =>
    obtain ⟨q, x, hq, rfl, rfl, hx0, hx1, Hs, hbw⟩ := hrel
    by_cases hlt : q < n
    · obtain ⟨b, off, rfl, hbb, hm⟩ := (Hx.out.below hbw).cells (by omega)
      have htr := Ht.out.row hlt
      have hr := hm.row 7 q
      have hw : wt (cs.dropN (q * 7)) = wt (rowU cs 7 q) + wt (cs.dropN ((q + 1) * 7)) := by rw [UD.drop_row cs 7 q, wt_app]
      have hsz := uszD_row cs 7 q
      obtain ⟨xs, hh, hcl⟩ := hr.hand
      have Hcon : Hid (∀ wx, Below wr.heap.size wr wx → Calls Tryd.prog 9 #[.agg xs.toArray, .int .i64 x] wx fun e w' => e = .returned (.int .i64 (leftI x (wt (rowU cs 7 q)))) ∧ Below wx.heap.size wx w') := fun wx hb => uszOp_any (lo := lo) (hi := hi) _ _ x wx htr (hh.below hb) hx0 hx1
      obtain ⟨z0, n1, c1, z2, z3, z4, n5, c5, n6, c6, hR, g0, g1, g2, g3, g4, g5, g6⟩ := partsOp htr
      rw [hR] at hh
      obtain ⟨_, rfl, ⟨v1, _, rfl, s1, ⟨_, rfl, ⟨_, rfl, ⟨_, rfl, ⟨v5, _, rfl, s5, ⟨v6, _, rfl, s6, rfl⟩⟩⟩⟩⟩⟩⟩ := hh
      obtain ⟨a1, p1, rfl, t1⟩ := s1
      obtain ⟨a5, p5, rfl, t5⟩ := s5
      obtain ⟨a6, p6, rfl, t6⟩ := s6
      have q0 : wr.cell? ⟨b, off + q * 7, none⟩ = some (.int .i64 z0) := hcl 0 _ rfl
      have q1 : wr.cell? ⟨b, off + q * 7 + 1, none⟩ = some (.slice a1 n1 p1) := hcl 1 _ rfl
      have q2 : wr.cell? ⟨b, off + q * 7 + 2, none⟩ = some (.int .i64 z2) := hcl 2 _ rfl
      have q3 : wr.cell? ⟨b, off + q * 7 + 3, none⟩ = some (.string z3) := hcl 3 _ rfl
      have q4 : wr.cell? ⟨b, off + q * 7 + 4, none⟩ = some (.int .i64 z4) := hcl 4 _ rfl
      have q5 : wr.cell? ⟨b, off + q * 7 + 5, none⟩ = some (.slice a5 n5 p5) := hcl 5 _ rfl
      have q6 : wr.cell? ⟨b, off + q * 7 + 6, none⟩ = some (.slice a6 n6 p6) := hcl 6 _ rfl
      clear hR hcl hr hm htr hsz g0 g1 g2 g3 g4 g5 g6 t1 t5 t6
      generalize wt (rowU cs 7 q) = m at *
      have hneg0 := fun h => leftI_neg (x := x) (a := m) (wt (cs.dropN ((q + 1) * 7))) hx0 h
      have hpos0 := fun h => leftI_pos (x := x) (a := m) (wt (cs.dropN ((q + 1) * 7))) h
      have hle0 : leftI x m ≤ x := by unfold leftI; split <;> omega
      generalize leftI x m = y at *
      by_cases hneg : y < 0
      · have hr : Hid (leftI left (n + wt cs) = -1) := by show _ = _; rw [Hs.out, hw]; exact hneg0 hneg
        clear hw Hs E hneg0 hpos0
        go_wp2_with fail
        refine (Hcon.out _ (by repeat (first | exact Below.refl _ _ | refine Below.alloc ?_ (by simp) _))).mono ?_
        rintro e w1 ⟨rfl, hb⟩
        go_wp2
        go_ret
        exact ⟨ret_intU hr.out.symm, hbw.trans (hb.mono hbw.size)⟩
      · have hr : Hid (leftI left (n + wt cs) = leftI y (wt (cs.dropN ((q + 1) * 7)))) := by
          show _ = _
          rw [Hs.out, hw]; exact (hpos0 hneg).1
        clear hw Hs E hneg0 hpos0
        go_wp2_with fail
        refine (Hcon.out _ (by repeat (first | exact Below.refl _ _ | refine Below.alloc ?_ (by simp) _))).mono ?_
        rintro e w1 ⟨rfl, hb⟩
        go_wp2
        go_roundw
        case rel => exact ⟨q + 1, _, by omega, by go_num, rfl, by omega, by omega, hr, hbw.trans (hb.mono hbw.size)⟩
        case measure => simp [intOf]; omega
    · have e : q = n := by omega
      subst e
      have hr : Hid (leftI left (q + wt cs) = x) := by
        show _ = _
        rw [Hs.out, ← Ht.out.2.2.2.1, UD.dropN_all]
        exact leftI_zero hx0
      clear Hs E
      go_wp2
      go_ret
      exact ⟨ret_intU hr.out.symm, hbw⟩
set_option maxRecDepth 20000 in
set_option maxHeartbeats 800000 in
theorem ueqOp_any {lo hi lo' hi' : Nat} (d : UD) (xs ys : List Value) (w : World) (ht : tyL d (uE 7)) (hx : uH w lo hi d xs) (hy : uH w lo' hi' d ys) :
    Calls Tryd.prog 15 #[.agg xs.toArray, .agg ys.toArray] w fun e w' => e = .returned (.bool true) ∧ Below w.heap.size w w' := by
  obtain ⟨z0, n1, c1, z2, z3, z4, n5, c5, n6, c6, rfl, g0, g1, g2, g3, g4, g5, g6⟩ := partsOp ht
  obtain ⟨_, rfl, ⟨v1l, _, rfl, s1l, ⟨_, rfl, ⟨_, rfl, ⟨_, rfl, ⟨v5l, _, rfl, s5l, ⟨v6l, _, rfl, s6l, rfl⟩⟩⟩⟩⟩⟩⟩ := hx
  obtain ⟨a1l, p1l, rfl, t1l⟩ := s1l
  obtain ⟨a5l, p5l, rfl, t5l⟩ := s5l
  obtain ⟨a6l, p6l, rfl, t6l⟩ := s6l
  obtain ⟨_, rfl, ⟨v1r, _, rfl, s1r, ⟨_, rfl, ⟨_, rfl, ⟨_, rfl, ⟨v5r, _, rfl, s5r, ⟨v6r, _, rfl, s6r, rfl⟩⟩⟩⟩⟩⟩⟩ := hy
  obtain ⟨a1r, p1r, rfl, t1r⟩ := s1r
  obtain ⟨a5r, p5r, rfl, t5r⟩ := s5r
  obtain ⟨a6r, p6r, rfl, t6r⟩ := s6r
  have HC0 : Hid (∀ wx : World, Below w.heap.size w wx → Calls Tryd.prog 30 #[.slice a1l n1 p1l, .slice a1r n1 p1r] wx fun e w' => e = .returned (.bool true) ∧ Below wx.heap.size wx w') := fun wx hb => ueqStringS_any (lo := lo) (hi := hi) (lo' := lo') (hi' := hi') n1 c1 _ _ wx g1 ((show uS w lo hi 1 n1 c1 (.slice a1l n1 p1l) from ⟨_, _, rfl, t1l⟩).below hb) ((show uS w lo' hi' 1 n1 c1 (.slice a1r n1 p1r) from ⟨_, _, rfl, t1r⟩).below hb)
  have HC1 : Hid (∀ wx : World, Below w.heap.size w wx → Calls Tryd.prog 31 #[.agg #[.int .i64 z2, .string z3, .int .i64 z4, .slice a5l n5 p5l, .slice a6l n6 p6l], .agg #[.int .i64 z2, .string z3, .int .i64 z4, .slice a5r n5 p5r, .slice a6r n6 p6r]] wx fun e w' => e = .returned (.bool true) ∧ Below wx.heap.size wx w') := fun wx hb => ueqValue_any (lo := lo) (hi := hi) (lo' := lo') (hi' := hi') (.p (.int .i64 z2) (.p (.string z3) (.p (.int .i64 z4) (.l 1 n5 c5 (.l 5 n6 c6 .nil))))) [.int .i64 z2, .string z3, .int .i64 z4, .slice a5l n5 p5l, .slice a6l n6 p6l] [.int .i64 z2, .string z3, .int .i64 z4, .slice a5r n5 p5r, .slice a6r n6 p6r] wx ⟨_, _, rfl, ⟨z2, rfl, g2⟩, ⟨_, _, rfl, ⟨z3, rfl, g3⟩, ⟨_, _, rfl, ⟨z4, rfl, g4⟩, ⟨_, _, rfl, g5, ⟨_, _, rfl, g6, rfl⟩⟩⟩⟩⟩ ((show uH w lo hi (.p (.int .i64 z2) (.p (.string z3) (.p (.int .i64 z4) (.l 1 n5 c5 (.l 5 n6 c6 .nil))))) [.int .i64 z2, .string z3, .int .i64 z4, .slice a5l n5 p5l, .slice a6l n6 p6l] from ⟨_, rfl, ⟨_, rfl, ⟨_, rfl, ⟨_, _, rfl, ⟨_, _, rfl, t5l⟩, ⟨_, _, rfl, ⟨_, _, rfl, t6l⟩, rfl⟩⟩⟩⟩⟩).below hb) ((show uH w lo' hi' (.p (.int .i64 z2) (.p (.string z3) (.p (.int .i64 z4) (.l 1 n5 c5 (.l 5 n6 c6 .nil))))) [.int .i64 z2, .string z3, .int .i64 z4, .slice a5r n5 p5r, .slice a6r n6 p6r] from ⟨_, rfl, ⟨_, rfl, ⟨_, rfl, ⟨_, _, rfl, ⟨_, _, rfl, t5r⟩, ⟨_, _, rfl, ⟨_, _, rfl, t6r⟩, rfl⟩⟩⟩⟩⟩).below hb)
  have e0 : (z0 != z0) = false := by simp
  have e2 : (z2 != z2) = false := by simp
  have e3 : (z3.toList == z3.toList) = true := by simp
  have e4 : (z4 != z4) = false := by simp
  have HB : Hid (∀ o o', Below w.heap.size w ((w.alloc o).alloc o')) := fun o o' => ((Below.refl _ _).alloc (Nat.le_refl _) _).alloc (by simp) _
  clear g0 g1 g2 g3 g4 g5 g6 t1l t1r t5l t5r t6l t6r
  go_enter Tryd.func15, Tryd.ntmps15
  go_wp2_with fail
  refine (HC0.out _ (HB.out _ _)).mono ?_
  rintro e w1 ⟨rfl, hb1⟩
  have b2 : w1.cell? ⟨w.heap.size, 2, none⟩ = some (.int .i64 z2) := (hb1.cell (p := ⟨w.heap.size, 2, none⟩) (by simp <;> omega)).trans (by simp [go_sem])
  have b3 : w1.cell? ⟨w.heap.size, 3, none⟩ = some (.string z3) := (hb1.cell (p := ⟨w.heap.size, 3, none⟩) (by simp <;> omega)).trans (by simp [go_sem])
  have b4 : w1.cell? ⟨w.heap.size, 4, none⟩ = some (.int .i64 z4) := (hb1.cell (p := ⟨w.heap.size, 4, none⟩) (by simp <;> omega)).trans (by simp [go_sem])
  have b5 : w1.cell? ⟨w.heap.size, 5, none⟩ = some (.slice a5l n5 p5l) := (hb1.cell (p := ⟨w.heap.size, 5, none⟩) (by simp <;> omega)).trans (by simp [go_sem])
  have b6 : w1.cell? ⟨w.heap.size, 6, none⟩ = some (.slice a6l n6 p6l) := (hb1.cell (p := ⟨w.heap.size, 6, none⟩) (by simp <;> omega)).trans (by simp [go_sem])
  have d2 : w1.cell? ⟨w.heap.size + 1, 2, none⟩ = some (.int .i64 z2) := (hb1.cell (p := ⟨w.heap.size + 1, 2, none⟩) (by simp <;> omega)).trans (by simp [go_sem])
  have d3 : w1.cell? ⟨w.heap.size + 1, 3, none⟩ = some (.string z3) := (hb1.cell (p := ⟨w.heap.size + 1, 3, none⟩) (by simp <;> omega)).trans (by simp [go_sem])
  have d4 : w1.cell? ⟨w.heap.size + 1, 4, none⟩ = some (.int .i64 z4) := (hb1.cell (p := ⟨w.heap.size + 1, 4, none⟩) (by simp <;> omega)).trans (by simp [go_sem])
  have d5 : w1.cell? ⟨w.heap.size + 1, 5, none⟩ = some (.slice a5r n5 p5r) := (hb1.cell (p := ⟨w.heap.size + 1, 5, none⟩) (by simp <;> omega)).trans (by simp [go_sem])
  have d6 : w1.cell? ⟨w.heap.size + 1, 6, none⟩ = some (.slice a6r n6 p6r) := (hb1.cell (p := ⟨w.heap.size + 1, 6, none⟩) (by simp <;> omega)).trans (by simp [go_sem])
  have B1 : Hid (Below w.heap.size w w1) := (HB.out _ _).trans (hb1.mono (by simp; omega))
  clear hb1
  go_wp2_with fail
  refine (HC1.out _ B1.out).mono ?_
  rintro e w2 ⟨rfl, hb2⟩
  have B2 : Hid (Below w.heap.size w w2) := B1.out.trans (hb2.mono B1.out.size)
  clear hb2
  go_wp2
  go_ret
  exact ⟨rfl, B2.out⟩
set_option maxRecDepth 20000 in
set_option maxHeartbeats 800000 in
theorem ueqOpS_any {lo hi lo' hi' : Nat} (n : Nat) (cs : UD) (c c' : Value) (w : World) (ht : tyS 7 n cs 7) (hx : uS w lo hi 7 n cs c) (hy : uS w lo' hi' 7 n cs c') :
    Calls Tryd.prog 8 #[c, c'] w fun e w' => e = .returned (.bool true) ∧ Below w.heap.size w w' := by
  obtain ⟨a, cap, rfl, hx2⟩ := hx
  obtain ⟨a', cap', rfl, hy2⟩ := hy
  have Hx : Hid (uS w lo hi 7 n cs (.slice a n cap)) := ⟨a, cap, rfl, hx2⟩
  have Hy : Hid (uS w lo' hi' 7 n cs (.slice a' n cap')) := ⟨a', cap', rfl, hy2⟩
  have hmx := ht.2.2.1
  unfold maxLen at hmx
  have Ht := uhide ht
  have hb0 : ((n : Int) != (n : Int)) = false := by simp
  clear hx2 hy2 ht
  go_enter Tryd.func8, Tryd.ntmps8
  go_wp2
  go_loopw [5] (fun i wr => ∃ (q : Nat), q ≤ n ∧ i = .int .i64 q ∧ Below w.heap.size w wr) (fun i _ => n - (intOf i).toNat)
  case atStart => exact ⟨0, Nat.zero_le _, rfl, Below.refl _ _⟩
  case round =>
    obtain ⟨q, hq, rfl, hbw⟩ := hrel
    by_cases hlt : q < n
    · obtain ⟨b, off, rfl, hbb, hm⟩ := (Hx.out.below hbw).cells (by omega)
      obtain ⟨b', off', rfl, hbb', hm'⟩ := (Hy.out.below hbw).cells (by omega)
      have htr := Ht.out.row hlt
      have hsz := uszD_row cs 7 q
      obtain ⟨xs, hh, hcl⟩ := (hm.row 7 q).hand
      obtain ⟨ys, hh', hcl'⟩ := (hm'.row 7 q).hand
      have Hcon : Hid (∀ wx, Below wr.heap.size wr wx → Calls Tryd.prog 15 #[.agg xs.toArray, .agg ys.toArray] wx fun e w' => e = .returned (.bool true) ∧ Hid (Below w.heap.size w w')) := fun wx hb => (ueqOp_any (lo := lo) (hi := hi) (lo' := lo') (hi' := hi') _ _ _ wx htr (hh.below hb) (hh'.below hb)).mono fun e w' h => ⟨h.1, (hbw.trans (hb.mono hbw.size)).trans (h.2.mono (Nat.le_trans hbw.size hb.size))⟩
      obtain ⟨z0, n1, c1, z2, z3, z4, n5, c5, n6, c6, hR, g0, g1, g2, g3, g4, g5, g6⟩ := partsOp htr
      rw [hR] at hh hh'
      obtain ⟨_, rfl, ⟨v1l, _, rfl, s1l, ⟨_, rfl, ⟨_, rfl, ⟨_, rfl, ⟨v5l, _, rfl, s5l, ⟨v6l, _, rfl, s6l, rfl⟩⟩⟩⟩⟩⟩⟩ := hh
      obtain ⟨a1l, p1l, rfl, t1l⟩ := s1l
      obtain ⟨a5l, p5l, rfl, t5l⟩ := s5l
      obtain ⟨a6l, p6l, rfl, t6l⟩ := s6l
      obtain ⟨_, rfl, ⟨v1r, _, rfl, s1r, ⟨_, rfl, ⟨_, rfl, ⟨_, rfl, ⟨v5r, _, rfl, s5r, ⟨v6r, _, rfl, s6r, rfl⟩⟩⟩⟩⟩⟩⟩ := hh'
      obtain ⟨a1r, p1r, rfl, t1r⟩ := s1r
      obtain ⟨a5r, p5r, rfl, t5r⟩ := s5r
      obtain ⟨a6r, p6r, rfl, t6r⟩ := s6r
      have q0 : wr.cell? ⟨b, off + q * 7, none⟩ = some (.int .i64 z0) := hcl 0 _ rfl
      have q1 : wr.cell? ⟨b, off + q * 7 + 1, none⟩ = some (.slice a1l n1 p1l) := hcl 1 _ rfl
      have q2 : wr.cell? ⟨b, off + q * 7 + 2, none⟩ = some (.int .i64 z2) := hcl 2 _ rfl
      have q3 : wr.cell? ⟨b, off + q * 7 + 3, none⟩ = some (.string z3) := hcl 3 _ rfl
      have q4 : wr.cell? ⟨b, off + q * 7 + 4, none⟩ = some (.int .i64 z4) := hcl 4 _ rfl
      have q5 : wr.cell? ⟨b, off + q * 7 + 5, none⟩ = some (.slice a5l n5 p5l) := hcl 5 _ rfl
      have q6 : wr.cell? ⟨b, off + q * 7 + 6, none⟩ = some (.slice a6l n6 p6l) := hcl 6 _ rfl
      have r0 : wr.cell? ⟨b', off' + q * 7, none⟩ = some (.int .i64 z0) := hcl' 0 _ rfl
      have r1 : wr.cell? ⟨b', off' + q * 7 + 1, none⟩ = some (.slice a1r n1 p1r) := hcl' 1 _ rfl
      have r2 : wr.cell? ⟨b', off' + q * 7 + 2, none⟩ = some (.int .i64 z2) := hcl' 2 _ rfl
      have r3 : wr.cell? ⟨b', off' + q * 7 + 3, none⟩ = some (.string z3) := hcl' 3 _ rfl
      have r4 : wr.cell? ⟨b', off' + q * 7 + 4, none⟩ = some (.int .i64 z4) := hcl' 4 _ rfl
      have r5 : wr.cell? ⟨b', off' + q * 7 + 5, none⟩ = some (.slice a5r n5 p5r) := hcl' 5 _ rfl
      have r6 : wr.cell? ⟨b', off' + q * 7 + 6, none⟩ = some (.slice a6r n6 p6r) := hcl' 6 _ rfl
      clear hR hcl hcl' hm hm' htr hsz g0 g1 g2 g3 g4 g5 g6 t1l t1r t5l t5r t6l t6r
      clear Hx Hy Ht
      go_wp2
      go_region_with (go_at_call 15; refine (Hcon.out _ (by repeat (first | exact Below.refl _ _ | refine Below.drew ?_ | refine below_drewN ?_ _))).mono ?_; rintro e w2 ⟨rfl, hb2⟩)
      all_goals go_wp2
      all_goals (
        go_roundw
        case rel => exact ⟨q + 1, by omega, by go_num, by repeat (first | exact hb2.out | refine Below.drew ?_ | refine below_drewN ?_ _)⟩
        case measure => simp [intOf]; omega)
    · have e : q = n := by omega
      subst e
      go_wp2
      go_ret
      exact ⟨rfl, hbw⟩
set_option maxRecDepth 20000 in
set_option maxHeartbeats 1600000 in
theorem utoOp_any {lo hi : Nat} (d : UD) (xs : List Value) (w : World) (ht : tyL d (uE 7)) (hn : wt d ≤ 1048576) (hx : uH w lo hi d xs) :
    Calls Tryd.prog 12 #[.agg xs.toArray] w fun e w' => ∃ ys S, e = .returned (.agg ys.toArray) ∧ oH w' d ys S ∧ S.Nodup ∧ (∀ s ∈ S, w.heap.size ≤ s) ∧ Below w.heap.size w w' := by
  obtain ⟨z0, n1, c1, z2, z3, z4, n5, c5, n6, c6, rfl, g0, g1, g2, g3, g4, g5, g6⟩ := partsOp ht
  obtain ⟨_, rfl, ⟨v1l, _, rfl, s1l, ⟨_, rfl, ⟨_, rfl, ⟨_, rfl, ⟨v5l, _, rfl, s5l, ⟨v6l, _, rfl, s6l, rfl⟩⟩⟩⟩⟩⟩⟩ := hx
  obtain ⟨a1l, p1l, rfl, t1l⟩ := s1l
  obtain ⟨a5l, p5l, rfl, t5l⟩ := s5l
  obtain ⟨a6l, p6l, rfl, t6l⟩ := s6l
  simp only [wt, wtP] at hn
  have HC0 : Hid (∀ wx : World, Below w.heap.size w wx → Calls Tryd.prog 24 #[.slice a1l n1 p1l] wx fun e w' => ∃ a p S, e = .returned (.slice a n1 p) ∧ Hid (oS w' 1 n1 c1 (.slice a n1 p) S) ∧ Hid (own2 S wx.heap.size w'.heap.size) ∧ Below wx.heap.size wx w') := fun wx hb => (utoStringS_any (lo := lo) (hi := hi) n1 c1 _ wx g1 (by omega) ((show uS w lo hi 1 n1 c1 (.slice a1l n1 p1l) from ⟨_, _, rfl, t1l⟩).below hb)).mono fun e w' ⟨c', S, h1, h2, h3, h4, h5⟩ => by
    obtain ⟨a, p, rfl⟩ := h2.slice
    exact ⟨a, p, S, h1, h2, ⟨h3, fun s hs => ⟨h4 s hs, h2.lt s hs⟩⟩, h5⟩
  have HC1 : Hid (∀ wx : World, Below w.heap.size w wx → Calls Tryd.prog 25 #[.agg #[.int .i64 z2, .string z3, .int .i64 z4, .slice a5l n5 p5l, .slice a6l n6 p6l]] wx fun e w' => ∃ a5r p5r a6r p6r S, e = .returned (.agg #[.int .i64 z2, .string z3, .int .i64 z4, .slice a5r n5 p5r, .slice a6r n6 p6r]) ∧ Hid (oH w' (.p (.int .i64 z2) (.p (.string z3) (.p (.int .i64 z4) (.l 1 n5 c5 (.l 5 n6 c6 .nil))))) [.int .i64 z2, .string z3, .int .i64 z4, .slice a5r n5 p5r, .slice a6r n6 p6r] S) ∧ Hid (own2 S wx.heap.size w'.heap.size) ∧ Below wx.heap.size wx w') := fun wx hb => (utoValue_any (lo := lo) (hi := hi) (.p (.int .i64 z2) (.p (.string z3) (.p (.int .i64 z4) (.l 1 n5 c5 (.l 5 n6 c6 .nil))))) [.int .i64 z2, .string z3, .int .i64 z4, .slice a5l n5 p5l, .slice a6l n6 p6l] wx ⟨_, _, rfl, ⟨z2, rfl, g2⟩, ⟨_, _, rfl, ⟨z3, rfl, g3⟩, ⟨_, _, rfl, ⟨z4, rfl, g4⟩, ⟨_, _, rfl, g5, ⟨_, _, rfl, g6, rfl⟩⟩⟩⟩⟩ (by simp only [wt, wtP]; omega) ((show uH w lo hi (.p (.int .i64 z2) (.p (.string z3) (.p (.int .i64 z4) (.l 1 n5 c5 (.l 5 n6 c6 .nil))))) [.int .i64 z2, .string z3, .int .i64 z4, .slice a5l n5 p5l, .slice a6l n6 p6l] from ⟨_, rfl, ⟨_, rfl, ⟨_, rfl, ⟨_, _, rfl, ⟨_, _, rfl, t5l⟩, ⟨_, _, rfl, ⟨_, _, rfl, t6l⟩, rfl⟩⟩⟩⟩⟩).below hb)).mono fun e w' ⟨ys, S, h1, h2, h3, h4, h5⟩ => by
    have h2' := h2
    obtain ⟨_, rfl, ⟨_, rfl, ⟨_, rfl, ⟨v5, _, _, _, rfl, _, _, ⟨_, _, o5, _⟩, ⟨v6, _, _, _, rfl, _, _, ⟨_, _, o6, _⟩, ⟨rfl, _⟩⟩⟩⟩⟩⟩ := h2'
    obtain ⟨a5, p5, rfl⟩ := uowns_slice o5
    clear o5
    obtain ⟨a6, p6, rfl⟩ := uowns_slice o6
    clear o6
    exact ⟨a5, p5, a6, p6, S, h1, h2, ⟨h3, fun s hs => ⟨h4 s hs, h2.lt _ _ _ s hs⟩⟩, h5⟩
  have HA : Hid (∀ o1 o2 o3, Below w.heap.size w (((w.alloc o1).alloc o2).alloc o3)) := fun o1 o2 o3 => (((Below.refl _ _).alloc (Nat.le_refl _) _).alloc (by simp) _).alloc (by simp; omega) _
  clear hn ht g0 g1 g2 g3 g4 g5 g6 t1l t5l t6l
  go_enter Tryd.func12, Tryd.ntmps12
  go_wp2_with fail
  refine (HC0.out _ (by repeat (first | with_reducible exact HA.out _ _ _ | with_reducible assumption | with_reducible refine Below.setCell ?_ (by simp <;> omega) _))).mono ?_
  rintro e w1 ⟨a1r, p1r, S1, rfl, O1, W1, hb1⟩
  have OA1 : Hid (objU w1 w.heap.size 35 [.int .i64 z0, .slice a1l n1 p1l, .int .i64 z2, .string z3, .int .i64 z4, .slice a5l n5 p5l, .slice a6l n6 p6l]) := objU.below (by repeat (first | with_reducible exact objU.new2 _ _ rfl | with_reducible refine objU.other ?_ _ (by simp <;> omega) _ | with_reducible refine objU.old ?_ _)) hb1
  have OR1 : Hid (objU w1 (w.heap.size + 1) 41 [.int .i64 0, .slice none 0 0, .int .i64 0, .string ⟨#[]⟩, .int .i64 0, .slice none 0 0, .slice none 0 0]) := objU.below (by repeat (first | with_reducible exact objU.new2 _ _ (by simp) | with_reducible refine objU.other ?_ _ (by simp <;> omega) _ | with_reducible refine objU.old ?_ _)) hb1
  have OO1 : Hid (objU w1 (w.heap.size + 1 + 1) 41 [.int .i64 z0, .slice none 0 0, .int .i64 0, .string ⟨#[]⟩, .int .i64 0, .slice none 0 0, .slice none 0 0]) := objU.below (by repeat (first | with_reducible exact objU.new2 _ _ (by simp) | with_reducible refine objU.old ?_ _)) hb1
  have hsz1 : w.heap.size + 1 + 1 + 1 ≤ w1.heap.size := by have := hb1.size; simpa using this
  replace W1 := uhide (W1.out.mono (a' := w.heap.size + 1 + 1 + 1) (by simp <;> omega) (Nat.le_refl _))
  have HB1 : Hid (Below w.heap.size w w1) := Below.trans (by repeat (first | with_reducible exact HA.out _ _ _ | with_reducible refine Below.setCell ?_ (by simp <;> omega) _)) (hb1.mono (by simp <;> omega))
  clear hb1
  have co1_1 : w1.cell? ⟨w.heap.size + 1 + 1, 1, none⟩ = some (.slice none 0 0) := OO1.out.cell 1 _ rfl
  have fo1_1 : w1.frozen? ⟨w.heap.size + 1 + 1, 1, none⟩ = false := OO1.out.fz 1
  have ca2_1 : w1.cell? ⟨w.heap.size, 2, none⟩ = some (.int .i64 z2) := OA1.out.cell 2 _ rfl
  have co2_1 : w1.cell? ⟨w.heap.size + 1 + 1, 2, none⟩ = some (.int .i64 0) := OO1.out.cell 2 _ rfl
  have fo2_1 : w1.frozen? ⟨w.heap.size + 1 + 1, 2, none⟩ = false := OO1.out.fz 2
  have ca3_1 : w1.cell? ⟨w.heap.size, 3, none⟩ = some (.string z3) := OA1.out.cell 3 _ rfl
  have co3_1 : w1.cell? ⟨w.heap.size + 1 + 1, 3, none⟩ = some (.string ⟨#[]⟩) := OO1.out.cell 3 _ rfl
  have fo3_1 : w1.frozen? ⟨w.heap.size + 1 + 1, 3, none⟩ = false := OO1.out.fz 3
  have ca4_1 : w1.cell? ⟨w.heap.size, 4, none⟩ = some (.int .i64 z4) := OA1.out.cell 4 _ rfl
  have co4_1 : w1.cell? ⟨w.heap.size + 1 + 1, 4, none⟩ = some (.int .i64 0) := OO1.out.cell 4 _ rfl
  have fo4_1 : w1.frozen? ⟨w.heap.size + 1 + 1, 4, none⟩ = false := OO1.out.fz 4
  have ca5_1 : w1.cell? ⟨w.heap.size, 5, none⟩ = some (.slice a5l n5 p5l) := OA1.out.cell 5 _ rfl
  have co5_1 : w1.cell? ⟨w.heap.size + 1 + 1, 5, none⟩ = some (.slice none 0 0) := OO1.out.cell 5 _ rfl
  have fo5_1 : w1.frozen? ⟨w.heap.size + 1 + 1, 5, none⟩ = false := OO1.out.fz 5
  have ca6_1 : w1.cell? ⟨w.heap.size, 6, none⟩ = some (.slice a6l n6 p6l) := OA1.out.cell 6 _ rfl
  have co6_1 : w1.cell? ⟨w.heap.size + 1 + 1, 6, none⟩ = some (.slice none 0 0) := OO1.out.cell 6 _ rfl
  have fo6_1 : w1.frozen? ⟨w.heap.size + 1 + 1, 6, none⟩ = false := OO1.out.fz 6
  go_wp2_with fail
  refine (HC1.out _ (by repeat (first | with_reducible exact HA.out _ _ _ | with_reducible assumption | with_reducible refine Below.setCell ?_ (by simp <;> omega) _ | with_reducible exact HB1.out))).mono ?_
  rintro e w2 ⟨a5r, p5r, a6r, p6r, S2, rfl, O2, W2, hb2⟩
  have OA2 : Hid (objU w2 w.heap.size 35 [.int .i64 z0, .slice a1l n1 p1l, .int .i64 z2, .string z3, .int .i64 z4, .slice a5l n5 p5l, .slice a6l n6 p6l]) := objU.below (by repeat (first | with_reducible exact OA1.out | with_reducible refine objU.other ?_ _ (by simp <;> omega) _ | with_reducible refine objU.old ?_ _)) hb2
  have OR2 : Hid (objU w2 (w.heap.size + 1) 41 [.int .i64 0, .slice none 0 0, .int .i64 0, .string ⟨#[]⟩, .int .i64 0, .slice none 0 0, .slice none 0 0]) := objU.below (by repeat (first | with_reducible exact OR1.out | with_reducible refine objU.other ?_ _ (by simp <;> omega) _ | with_reducible refine objU.old ?_ _)) hb2
  have OO2 : Hid (objU w2 (w.heap.size + 1 + 1) 41 [.int .i64 z0, .slice a1r n1 p1r, .int .i64 0, .string ⟨#[]⟩, .int .i64 0, .slice none 0 0, .slice none 0 0]) := objU.below (by refine objU.set (xs := [.int .i64 z0, .slice none 0 0, .int .i64 0, .string ⟨#[]⟩, .int .i64 0, .slice none 0 0, .slice none 0 0]) ?_ 1 _; exact OO1.out) hb2
  replace O1 := uhide ((oS.outs O1.out (T := [w.heap.size + 1 + 1]) (by repeat (first | with_reducible exact OutS.refl _ _ | with_reducible refine OutS.setCell ?_ (show _ ∈ [w.heap.size + 1 + 1] by simp) _)) W1.out (fun x hx => by simp at hx; omega)).below hb2)
  have hsz2 : w1.heap.size ≤ w2.heap.size := Nat.le_trans (by simp) hb2.size
  replace W2 := uhide (W2.out.mono (a' := w1.heap.size) (by simp) (Nat.le_refl _))
  have HB2 : Hid (Below w.heap.size w w2) := Below.trans (by repeat (first | with_reducible exact HB1.out | with_reducible refine Below.setCell ?_ (by simp <;> omega) _)) (hb2.mono (by simp <;> omega))
  clear hb2
  clear OA1 OR1 OO1 HB1
  have co2_2 : w2.cell? ⟨w.heap.size + 1 + 1, 2, none⟩ = some (.int .i64 0) := OO2.out.cell 2 _ rfl
  have fo2_2 : w2.frozen? ⟨w.heap.size + 1 + 1, 2, none⟩ = false := OO2.out.fz 2
  have co3_2 : w2.cell? ⟨w.heap.size + 1 + 1, 3, none⟩ = some (.string ⟨#[]⟩) := OO2.out.cell 3 _ rfl
  have fo3_2 : w2.frozen? ⟨w.heap.size + 1 + 1, 3, none⟩ = false := OO2.out.fz 3
  have co4_2 : w2.cell? ⟨w.heap.size + 1 + 1, 4, none⟩ = some (.int .i64 0) := OO2.out.cell 4 _ rfl
  have fo4_2 : w2.frozen? ⟨w.heap.size + 1 + 1, 4, none⟩ = false := OO2.out.fz 4
  have co5_2 : w2.cell? ⟨w.heap.size + 1 + 1, 5, none⟩ = some (.slice none 0 0) := OO2.out.cell 5 _ rfl
  have fo5_2 : w2.frozen? ⟨w.heap.size + 1 + 1, 5, none⟩ = false := OO2.out.fz 5
  have co6_2 : w2.cell? ⟨w.heap.size + 1 + 1, 6, none⟩ = some (.slice none 0 0) := OO2.out.cell 6 _ rfl
  have fo6_2 : w2.frozen? ⟨w.heap.size + 1 + 1, 6, none⟩ = false := OO2.out.fz 6
  have co0_2 : w2.cell? ⟨w.heap.size + 1 + 1, 0, none⟩ = some (.int .i64 z0) := OO2.out.cell 0 _ rfl
  have cr0 : w2.cell? ⟨w.heap.size + 1, 0, none⟩ = some (.int .i64 0) := OR2.out.cell 0 _ rfl
  have fr0 : w2.frozen? ⟨w.heap.size + 1, 0, none⟩ = false := OR2.out.fz 0
  have co1_2 : w2.cell? ⟨w.heap.size + 1 + 1, 1, none⟩ = some (.slice a1r n1 p1r) := OO2.out.cell 1 _ rfl
  have cr1 : w2.cell? ⟨w.heap.size + 1, 1, none⟩ = some (.slice none 0 0) := OR2.out.cell 1 _ rfl
  have fr1 : w2.frozen? ⟨w.heap.size + 1, 1, none⟩ = false := OR2.out.fz 1
  have cr2 : w2.cell? ⟨w.heap.size + 1, 2, none⟩ = some (.int .i64 0) := OR2.out.cell 2 _ rfl
  have fr2 : w2.frozen? ⟨w.heap.size + 1, 2, none⟩ = false := OR2.out.fz 2
  have cr3 : w2.cell? ⟨w.heap.size + 1, 3, none⟩ = some (.string ⟨#[]⟩) := OR2.out.cell 3 _ rfl
  have fr3 : w2.frozen? ⟨w.heap.size + 1, 3, none⟩ = false := OR2.out.fz 3
  have cr4 : w2.cell? ⟨w.heap.size + 1, 4, none⟩ = some (.int .i64 0) := OR2.out.cell 4 _ rfl
  have fr4 : w2.frozen? ⟨w.heap.size + 1, 4, none⟩ = false := OR2.out.fz 4
  have cr5 : w2.cell? ⟨w.heap.size + 1, 5, none⟩ = some (.slice none 0 0) := OR2.out.cell 5 _ rfl
  have fr5 : w2.frozen? ⟨w.heap.size + 1, 5, none⟩ = false := OR2.out.fz 5
  have cr6 : w2.cell? ⟨w.heap.size + 1, 6, none⟩ = some (.slice none 0 0) := OR2.out.cell 6 _ rfl
  have fr6 : w2.frozen? ⟨w.heap.size + 1, 6, none⟩ = false := OR2.out.fz 6
  go_wp2
  refine bodyPost_ret (v := .agg #[.int .i64 z0, .slice a1r n1 p1r, .int .i64 z2, .string z3, .int .i64 z4, .slice a5r n5 p5r, .slice a6r n6 p6r]) ?_ rfl ⟨[.int .i64 z0, .slice a1r n1 p1r, .int .i64 z2, .string z3, .int .i64 z4, .slice a5r n5 p5r, .slice a6r n6 p6r], (S1 ++ (S2 ++ [])), rfl, ?_, ?_⟩
  · simp [results, Tryd.results12, go_sem, cr0, cr1, cr2, cr3, cr4, cr5, cr6]
  · exact oH.consP _ (oH.consS (oS.outs O1.out (T := [w.heap.size + 1, w.heap.size + 1 + 1]) (by repeat (first | with_reducible exact OutS.refl _ _ | with_reducible refine OutS.setCell ?_ (show _ ∈ [w.heap.size + 1, w.heap.size + 1 + 1] by simp) _)) W1.out (fun x hx => by simp at hx; omega)) ((oH.app (oH.outs O2.out (T := [w.heap.size + 1, w.heap.size + 1 + 1]) (by repeat (first | with_reducible exact OutS.refl _ _ | with_reducible refine OutS.setCell ?_ (show _ ∈ [w.heap.size + 1, w.heap.size + 1 + 1] by simp) _)) W2.out (fun x hx => by simp at hx; omega)) (oH.nil _))))
  · have HW := own2.app W1.out (own2.app W2.out (own2.nil w2.heap.size w2.heap.size) (by omega) (by omega) (by omega)) (by omega) (by omega) (by omega)
    refine ⟨HW.1, fun s hs => (by have := HW.2 s hs; omega), ?_⟩
    repeat (first | with_reducible exact HB2.out | with_reducible refine Below.setCell ?_ (by simp <;> omega) _)
theorem Tryd.infoUOp : (Tryd.prog.info? 41).map (fun i => (i.zero, i.size, decide (i.bytes ≤ 1000))) = some (some (.agg #[.int .i64 0, .slice none 0 0, .int .i64 0, .string ByteArray.empty, .int .i64 0, .slice none 0 0, .slice none 0 0]), 7, true) := by kernel_rfl
set_option maxRecDepth 20000 in
set_option maxHeartbeats 1600000 in
theorem utoOpS_any {lo hi : Nat} (n : Nat) (cs : UD) (c : Value) (w : World) (ht : tyS 7 n cs 7) (hn : n + wt cs ≤ 1048576) (hx : uS w lo hi 7 n cs c) :
    Calls Tryd.prog 6 #[c] w fun e w' => ∃ c' S, e = .returned c' ∧ oS w' 7 n cs c' S ∧ S.Nodup ∧ (∀ s ∈ S, w.heap.size ≤ s) ∧ Below w.heap.size w w' := by
  obtain ⟨i0, hinf, hz0, hz1, hz2⟩ : ∃ i, Tryd.prog.info? 41 = some i ∧ i.zero = some (.agg #[.int .i64 0, .slice none 0 0, .int .i64 0, .string ByteArray.empty, .int .i64 0, .slice none 0 0, .slice none 0 0]) ∧ i.size = 7 ∧ i.bytes ≤ 1000 := by
    have h := Tryd.infoUOp
    cases e : Tryd.prog.info? 41 with
    | none => rw [e] at h; cases h
    | some i => rw [e] at h; simp at h; exact ⟨i, rfl, h.1, h.2.1, h.2.2⟩
  obtain ⟨a, cap, rfl, hx2⟩ := hx
  have Hx : Hid (uS w lo hi 7 n cs (.slice a n cap)) := ⟨a, cap, rfl, hx2⟩
  have Ht := uhide ht
  have Hn : Hid (∀ q, q < n → wt (rowU cs 7 q) ≤ 1048576) := fun q hq => by have := wt_row cs 7 q; omega
  have hnn : n ≤ 1048576 := by omega
  have hbb : i0.bytes * n ≤ 281474976710656 := Nat.le_trans (Nat.mul_le_mul hz2 hnn) (by decide)
  clear hx2 ht hn
  go_enter Tryd.func6, Tryd.ntmps6
  go_wp2_with (at_make; refine wpList_make_full _ rfl _ _ 25 rfl w.heap.size 41 i0 _ 7 Tryd.underlying25 hinf hz0 hz1 _ _ _ _ n rfl rfl rfl rfl hbb (by unfold maxLen; omega) (Nat.le_refl _) ?_; intro w1 hown hgrow)
  have T0 := uhide (TS.start (cs := cs) hown (Below.grown (Below.refl _ _) hgrow (Nat.le_refl _) (fun k hk => by cases hk)))
  clear hown hgrow
  go_loopw [4] (fun i wr => ∃ (q : Nat), q ≤ n ∧ i = .int .i64 q ∧ Hid (TS w wr 41 7 n cs q)) (fun i _ => n - (intOf i).toNat)
  case atStart => exact ⟨0, Nat.zero_le _, rfl, T0⟩
  case round =>
    clear T0
    obtain ⟨q, hq, rfl, HT⟩ := hrel
    by_cases hlt : q < n
    · obtain ⟨b, off, rfl, hbk, hm⟩ := (Hx.out.below HT.out.bel).cells (by omega)
      have htr := Ht.out.row hlt
      have hwr := Hn.out q hlt
      have hsz := uszD_row cs 7 q
      obtain ⟨xs, hh, hcl⟩ := (hm.row 7 q).hand
      have Hcon : Hid (∀ wx, Below wr.heap.size wr wx → Calls Tryd.prog 12 #[.agg xs.toArray] wx fun e w' => ∃ ys S, e = .returned (.agg ys.toArray) ∧ oH w' (rowU cs 7 q) ys S ∧ S.Nodup ∧ (∀ s ∈ S, wx.heap.size ≤ s) ∧ Below wx.heap.size wx w') := fun wx hb => utoOp_any (lo := lo) (hi := hi) _ _ wx htr hwr (hh.below hb)
      obtain ⟨z0, n1, c1, z2, z3, z4, n5, c5, n6, c6, hR, g0, g1, g2, g3, g4, g5, g6⟩ := partsOp htr
      rw [hR] at hh
      obtain ⟨_, rfl, ⟨v1l, _, rfl, s1l, ⟨_, rfl, ⟨_, rfl, ⟨_, rfl, ⟨v5l, _, rfl, s5l, ⟨v6l, _, rfl, s6l, rfl⟩⟩⟩⟩⟩⟩⟩ := hh
      obtain ⟨a1l, p1l, rfl, t1l⟩ := s1l
      obtain ⟨a5l, p5l, rfl, t5l⟩ := s5l
      obtain ⟨a6l, p6l, rfl, t6l⟩ := s6l
      have q0 : wr.cell? ⟨b, off + q * 7, none⟩ = some (.int .i64 z0) := hcl 0 _ rfl
      have q1 : wr.cell? ⟨b, off + q * 7 + 1, none⟩ = some (.slice a1l n1 p1l) := hcl 1 _ rfl
      have q2 : wr.cell? ⟨b, off + q * 7 + 2, none⟩ = some (.int .i64 z2) := hcl 2 _ rfl
      have q3 : wr.cell? ⟨b, off + q * 7 + 3, none⟩ = some (.string z3) := hcl 3 _ rfl
      have q4 : wr.cell? ⟨b, off + q * 7 + 4, none⟩ = some (.int .i64 z4) := hcl 4 _ rfl
      have q5 : wr.cell? ⟨b, off + q * 7 + 5, none⟩ = some (.slice a5l n5 p5l) := hcl 5 _ rfl
      have q6 : wr.cell? ⟨b, off + q * 7 + 6, none⟩ = some (.slice a6l n6 p6l) := hcl 6 _ rfl
      have HR := uhide hR
      have HS : Hid (∀ (w2 : World) ys S, oH w2 (rowU cs 7 q) ys S → ∃ a1r p1r a5r p5r a6r p6r , ys = [.int .i64 z0, .slice a1r n1 p1r, .int .i64 z2, .string z3, .int .i64 z4, .slice a5r n5 p5r, .slice a6r n6 p6r]) := by
        intro w2 ys S h
        rw [HR.out] at h
        obtain ⟨_, rfl, ⟨v1, _, _, _, rfl, _, _, ⟨_, _, o1, _⟩, ⟨_, rfl, ⟨_, rfl, ⟨_, rfl, ⟨v5, _, _, _, rfl, _, _, ⟨_, _, o5, _⟩, ⟨v6, _, _, _, rfl, _, _, ⟨_, _, o6, _⟩, ⟨rfl, _⟩⟩⟩⟩⟩⟩⟩⟩ := h
        obtain ⟨a1, p1, rfl⟩ := uowns_slice o1
        obtain ⟨a5, p5, rfl⟩ := uowns_slice o5
        obtain ⟨a6, p6, rfl⟩ := uowns_slice o6
        exact ⟨a1, p1, a5, p5, a6, p6, rfl⟩
      have hKn : q * 7 + 7 ≤ n * 7 := by have := Nat.mul_le_mul_right 7 (show q + 1 ≤ n by omega); rw [Nat.succ_mul] at this; exact this
      clear hR hcl hm htr hsz hwr HR g0 g1 g2 g3 g4 g5 g6 t1l t5l t6l
      go_wp2_with fail
      refine (Hcon.out _ (by repeat (first | exact Below.refl _ _ | refine Below.alloc ?_ (by simp) _))).mono ?_
      rintro e w2 ⟨ys, S, rfl, ho, hnd, hS, hb2⟩
      obtain ⟨a1r, p1r, a5r, p5r, a6r, p6r, rfl⟩ := HS.out _ _ _ ho
      have HT2 := uhide (HT.out.below hb2)
      have T1 := uhide (HT.out.step hb2 ho hnd hS Ht.out.2.2.2.1 hlt)
      obtain ⟨d0, p0x⟩ := HT2.out.cell (q * 7) (by omega)
      have f0 := HT2.out.fz (q * 7)
      obtain ⟨d1, p1x⟩ := HT2.out.cell (q * 7 + 1) (by omega)
      have f1 := HT2.out.fz (q * 7 + 1)
      obtain ⟨d2, p2x⟩ := HT2.out.cell (q * 7 + 2) (by omega)
      have f2 := HT2.out.fz (q * 7 + 2)
      obtain ⟨d3, p3x⟩ := HT2.out.cell (q * 7 + 3) (by omega)
      have f3 := HT2.out.fz (q * 7 + 3)
      obtain ⟨d4, p4x⟩ := HT2.out.cell (q * 7 + 4) (by omega)
      have f4 := HT2.out.fz (q * 7 + 4)
      obtain ⟨d5, p5x⟩ := HT2.out.cell (q * 7 + 5) (by omega)
      have f5 := HT2.out.fz (q * 7 + 5)
      obtain ⟨d6, p6x⟩ := HT2.out.cell (q * 7 + 6) (by omega)
      have f6 := HT2.out.fz (q * 7 + 6)
      clear ho hnd hS hb2 Hcon HS HT HT2 Hx Ht Hn
      go_wp2
      go_roundw
      case rel => exact ⟨q + 1, by omega, by go_num, T1⟩
      case measure => simp [intOf]; omega
    · have e : q = n := by omega
      subst e
      obtain ⟨S, h1, h2, h3, h4⟩ := HT.out.done (by decide) Ht.out.2.2.2.1
      have HS : Hid (oS wr 7 q cs (.slice (some ⟨w.heap.size, 0, none⟩) q q) S ∧ S.Nodup ∧ (∀ s ∈ S, w.heap.size ≤ s) ∧ Below w.heap.size w wr) := ⟨h1, h2, h3, h4⟩
      clear h1 h2 h3 h4
      go_wp2
      go_ret
      exact ⟨_, S, rfl, HS.out⟩
end Go.Proofs.YtkdiinjkpmkcpaaDoor

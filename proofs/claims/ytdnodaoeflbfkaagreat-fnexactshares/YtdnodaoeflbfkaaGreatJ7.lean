/- Texts of one claim, joined: each in its own section, in build order. -/
import Derived.Test.YtdnodaoeflbfkaaGreatJ3
import Derived.Test.YtdnodaoeflbfkaaGreatJ4
import Derived.Test.YtdnodaoeflbfkaaGreatJ6
/- Data as cells: the helpers of the laws over Want. -/
namespace Go.Proofs.YtdnodaoeflbfkaaGreat
open Go.RowKit Go.BigFrame
set_option linter.unusedVariables false

set_option maxRecDepth 20000 in
set_option maxHeartbeats 800000 in
theorem uszWant_any {lo hi : Nat} (d : UD) (xs : List Value) (left : Int) (w : World) (ht : tyL d (uE 16)) (hx : uH w lo hi d xs) (h0 : 0 ≤ left) (h1 : left ≤ 1048576) :
    Calls Tryz.prog 10 #[.agg xs.toArray, .int .i64 left] w fun e w' => e = .returned (.int .i64 (leftI left (wt d))) ∧ Below w.heap.size w w' := by
  obtain ⟨z0, n1, c1, n2, c2, n3, c3, rfl, g0, g1, g2, g3⟩ := partsWant ht
  obtain ⟨_, rfl, ⟨v1, _, rfl, s1, ⟨v2, _, rfl, s2, ⟨v3, _, rfl, s3, rfl⟩⟩⟩⟩ := hx
  obtain ⟨a1, p1, rfl, t1⟩ := s1
  obtain ⟨a2, p2, rfl, t2⟩ := s2
  obtain ⟨a3, p3, rfl, t3⟩ := s3
  obtain ⟨M0, hM0⟩ : ∃ M, M = (n1 + wt c1) := ⟨_, rfl⟩
  have HC0 : Hid (∀ (wx : World) (l : Int), Below w.heap.size w wx → 0 ≤ l → l ≤ 1048576 → Calls Tryz.prog 62 #[.slice a1 n1 p1, .int .i64 l] wx fun e w' => e = .returned (.int .i64 (leftI l M0)) ∧ Below wx.heap.size wx w') := fun wx l hb q0 q1 => hM0 ▸ uszTermS_any (lo := lo) (hi := hi) n1 c1 _ l wx g1 q0 q1 ((show uS w lo hi 3 n1 c1 (.slice a1 n1 p1) from ⟨_, _, rfl, t1⟩).below hb)
  obtain ⟨M1, hM1⟩ : ∃ M, M = (n2 + wt c2) := ⟨_, rfl⟩
  have HC1 : Hid (∀ (wx : World) (l : Int), Below w.heap.size w wx → 0 ≤ l → l ≤ 1048576 → Calls Tryz.prog 48 #[.slice a2 n2 p2, .int .i64 l] wx fun e w' => e = .returned (.int .i64 (leftI l M1)) ∧ Below wx.heap.size wx w') := fun wx l hb q0 q1 => hM1 ▸ uszStringS_any (lo := lo) (hi := hi) n2 c2 _ l wx g2 q0 q1 ((show uS w lo hi 1 n2 c2 (.slice a2 n2 p2) from ⟨_, _, rfl, t2⟩).below hb)
  obtain ⟨M2, hM2⟩ : ∃ M, M = (n3 + wt c3) := ⟨_, rfl⟩
  have HC2 : Hid (∀ (wx : World) (l : Int), Below w.heap.size w wx → 0 ≤ l → l ≤ 1048576 → Calls Tryz.prog 63 #[.slice a3 n3 p3, .int .i64 l] wx fun e w' => e = .returned (.int .i64 (leftI l M2)) ∧ Below wx.heap.size wx w') := fun wx l hb q0 q1 => hM2 ▸ uszWeighS_any (lo := lo) (hi := hi) n3 c3 _ l wx g3 q0 q1 ((show uS w lo hi 2 n3 c3 (.slice a3 n3 p3) from ⟨_, _, rfl, t3⟩).below hb)
  have E : Hid (leftI left (wt (.p (.int .i64 z0) (.l 3 n1 c1 (.l 1 n2 c2 (.l 2 n3 c3 .nil))))) = leftI left (M0 + (M1 + (M2 + 0)))) := by show _ = _; congr 1 <;> (simp only [wt, wtP, hM0, hM1, hM2] <;> omega)
  generalize leftI left (wt (.p (.int .i64 z0) (.l 3 n1 c1 (.l 1 n2 c2 (.l 2 n3 c3 .nil))))) = R at *
  have HA : Hid (∀ o, Below w.heap.size w (w.alloc o)) := fun o => (Below.refl _ _).alloc (Nat.le_refl _) _
  clear t1 t2 t3 hM0 hM1 hM2 g1 g2 g3
  obtain ⟨y0, hy0⟩ : ∃ y, y = leftI left M0 := ⟨_, rfl⟩
  have Y0 := uhide hy0
  by_cases k0 : y0 < 0
  · have EN : Hid (R = -1) := by show _ = _; rw [E.out]; exact leftI_neg _ (by omega) (by rw [← hy0]; exact k0)
    clear E hy0
    go_enter Tryz.func10, Tryz.ntmps10
    go_wp2_with fail
    refine (HC0.out _ _ (HA.out _) (by omega) (by omega)).mono ?_
    rintro e w1 ⟨rfl, hb1⟩
    have B1 : Hid (Below w.heap.size w w1) := (HA.out _).trans (hb1.mono (by simp))
    clear hb1
    rw [show leftI left M0 = y0 from Y0.out.symm]
    go_wp2
    go_ret
    exact ⟨ret_intU EN.out.symm, B1.out⟩
  replace E : Hid (R = leftI y0 (M1 + (M2 + 0))) := by
    obtain ⟨q1, q2, q3⟩ := leftI_pos (x := left) (a := M0) (M1 + (M2 + 0)) (by rw [← hy0]; exact k0)
    show _ = _; rw [E.out, q1, ← hy0]
  have u0 : y0 ≤ left := by rw [hy0]; unfold leftI; split <;> omega
  clear hy0
  obtain ⟨y1, hy1⟩ : ∃ y, y = leftI y0 M1 := ⟨_, rfl⟩
  have Y1 := uhide hy1
  by_cases k1 : y1 < 0
  · have EN : Hid (R = -1) := by show _ = _; rw [E.out]; exact leftI_neg _ (by omega) (by rw [← hy1]; exact k1)
    clear E hy1
    go_enter Tryz.func10, Tryz.ntmps10
    go_wp2_with fail
    refine (HC0.out _ _ (HA.out _) (by omega) (by omega)).mono ?_
    rintro e w1 ⟨rfl, hb1⟩
    have b2 : w1.cell? ⟨w.heap.size, 2, none⟩ = some (.slice a2 n2 p2) := (hb1.cell (p := ⟨w.heap.size, 2, none⟩) (by simp <;> omega)).trans (by simp [go_sem])
    have B1 : Hid (Below w.heap.size w w1) := (HA.out _).trans (hb1.mono (by simp))
    clear hb1
    rw [show leftI left M0 = y0 from Y0.out.symm]
    go_wp2_with fail
    refine (HC1.out _ _ (by repeat (first | assumption | exact HA.out _ | exact B1.out)) (by omega) (by omega)).mono ?_
    rintro e w2 ⟨rfl, hb2⟩
    have B2 : Hid (Below w.heap.size w w2) := B1.out.trans (hb2.mono B1.out.size)
    clear hb2
    rw [show leftI y0 M1 = y1 from Y1.out.symm]
    go_wp2
    go_ret
    exact ⟨ret_intU EN.out.symm, B2.out⟩
  replace E : Hid (R = leftI y1 (M2 + 0)) := by
    obtain ⟨q1, q2, q3⟩ := leftI_pos (x := y0) (a := M1) (M2 + 0) (by rw [← hy1]; exact k1)
    show _ = _; rw [E.out, q1, ← hy1]
  have u1 : y1 ≤ y0 := by rw [hy1]; unfold leftI; split <;> omega
  clear hy1
  obtain ⟨y2, hy2⟩ : ∃ y, y = leftI y1 M2 := ⟨_, rfl⟩
  have Y2 := uhide hy2
  by_cases k2 : y2 < 0
  · have EN : Hid (R = -1) := by show _ = _; rw [E.out]; exact leftI_neg _ (by omega) (by rw [← hy2]; exact k2)
    clear E hy2
    go_enter Tryz.func10, Tryz.ntmps10
    go_wp2_with fail
    refine (HC0.out _ _ (HA.out _) (by omega) (by omega)).mono ?_
    rintro e w1 ⟨rfl, hb1⟩
    have b2 : w1.cell? ⟨w.heap.size, 2, none⟩ = some (.slice a2 n2 p2) := (hb1.cell (p := ⟨w.heap.size, 2, none⟩) (by simp <;> omega)).trans (by simp [go_sem])
    have b3 : w1.cell? ⟨w.heap.size, 3, none⟩ = some (.slice a3 n3 p3) := (hb1.cell (p := ⟨w.heap.size, 3, none⟩) (by simp <;> omega)).trans (by simp [go_sem])
    have B1 : Hid (Below w.heap.size w w1) := (HA.out _).trans (hb1.mono (by simp))
    clear hb1
    rw [show leftI left M0 = y0 from Y0.out.symm]
    go_wp2_with fail
    refine (HC1.out _ _ (by repeat (first | assumption | exact HA.out _ | exact B1.out)) (by omega) (by omega)).mono ?_
    rintro e w2 ⟨rfl, hb2⟩
    replace b3 : w2.cell? ⟨w.heap.size, 3, none⟩ = some (.slice a3 n3 p3) := (hb2.cell (p := ⟨w.heap.size, 3, none⟩) (World.block_lt_of_cell? _ _ b3)).trans b3
    have B2 : Hid (Below w.heap.size w w2) := B1.out.trans (hb2.mono B1.out.size)
    clear hb2
    rw [show leftI y0 M1 = y1 from Y1.out.symm]
    go_wp2_with fail
    refine (HC2.out _ _ (by repeat (first | assumption | exact HA.out _ | exact B2.out)) (by omega) (by omega)).mono ?_
    rintro e w3 ⟨rfl, hb3⟩
    have B3 : Hid (Below w.heap.size w w3) := B2.out.trans (hb3.mono B2.out.size)
    clear hb3
    rw [show leftI y1 M2 = y2 from Y2.out.symm]
    go_wp2
    go_ret
    exact ⟨ret_intU EN.out.symm, B3.out⟩
  replace E : Hid (R = leftI y2 (0)) := by
    obtain ⟨q1, q2, q3⟩ := leftI_pos (x := y1) (a := M2) (0) (by rw [← hy2]; exact k2)
    show _ = _; rw [E.out, q1, ← hy2]
  have u2 : y2 ≤ y1 := by rw [hy2]; unfold leftI; split <;> omega
  clear hy2
  replace E : Hid (R = y2) := E.out.trans (leftI_zero (by omega))
  go_enter Tryz.func10, Tryz.ntmps10
  go_wp2_with fail
  refine (HC0.out _ _ (HA.out _) (by omega) (by omega)).mono ?_
  rintro e w1 ⟨rfl, hb1⟩
  have b2 : w1.cell? ⟨w.heap.size, 2, none⟩ = some (.slice a2 n2 p2) := (hb1.cell (p := ⟨w.heap.size, 2, none⟩) (by simp <;> omega)).trans (by simp [go_sem])
  have b3 : w1.cell? ⟨w.heap.size, 3, none⟩ = some (.slice a3 n3 p3) := (hb1.cell (p := ⟨w.heap.size, 3, none⟩) (by simp <;> omega)).trans (by simp [go_sem])
  have B1 : Hid (Below w.heap.size w w1) := (HA.out _).trans (hb1.mono (by simp))
  clear hb1
  rw [show leftI left M0 = y0 from Y0.out.symm]
  go_wp2_with fail
  refine (HC1.out _ _ (by repeat (first | assumption | exact HA.out _ | exact B1.out)) (by omega) (by omega)).mono ?_
  rintro e w2 ⟨rfl, hb2⟩
  replace b3 : w2.cell? ⟨w.heap.size, 3, none⟩ = some (.slice a3 n3 p3) := (hb2.cell (p := ⟨w.heap.size, 3, none⟩) (World.block_lt_of_cell? _ _ b3)).trans b3
  have B2 : Hid (Below w.heap.size w w2) := B1.out.trans (hb2.mono B1.out.size)
  clear hb2
  rw [show leftI y0 M1 = y1 from Y1.out.symm]
  go_wp2_with fail
  refine (HC2.out _ _ (by repeat (first | assumption | exact HA.out _ | exact B2.out)) (by omega) (by omega)).mono ?_
  rintro e w3 ⟨rfl, hb3⟩
  have B3 : Hid (Below w.heap.size w w3) := B2.out.trans (hb3.mono B2.out.size)
  clear hb3
  rw [show leftI y1 M2 = y2 from Y2.out.symm]
  go_wp2
  go_ret
  exact ⟨ret_intU E.out.symm, B3.out⟩
set_option maxRecDepth 20000 in
set_option maxHeartbeats 800000 in
set_option maxRecDepth 20000 in
theorem uszWantS_any {lo hi : Nat} (n : Nat) (cs : UD) (c : Value) (left : Int) (w : World) (ht : tyS 4 n cs 16) (h0 : 0 ≤ left) (h1 : left ≤ 1048576) (hx : uS w lo hi 4 n cs c) :
    Calls Tryz.prog 24 #[c, .int .i64 left] w fun e w' => e = .returned (.int .i64 (leftI left (n + wt cs))) ∧ Below w.heap.size w w' := by
  obtain ⟨a, cap, rfl, hx2⟩ := hx
  have Hx : Hid (uS w lo hi 4 n cs (.slice a n cap)) := ⟨a, cap, rfl, hx2⟩
  have hmx := ht.2.2.1
  unfold maxLen at hmx
  have Ht := uhide ht
  clear hx2 ht
  by_cases c1 : left - (n : Int) < 0
  · have E : Hid (leftI left (n + wt cs) = -1) := by show _ = _; unfold leftI; rw [if_pos (by omega)]
    go_enter Tryz.func24, Tryz.ntmps24
    go_wp2
    go_ret
    exact ⟨ret_intU E.out.symm, Below.refl _ _⟩
  have E : Hid (leftI left (n + wt cs) = leftI (left - n) (wt (cs.dropN (0 * 4)))) := by
    show _ = _
    obtain ⟨g1, g2, g3⟩ := leftI_pos (x := left) (a := n) (wt cs) (by unfold leftI; split <;> omega)
    rw [g1, g2, Nat.zero_mul, UD.dropN_zero]
  go_enter Tryz.func24, Tryz.ntmps24
  go_wp2
  go_loopw [1, 5] (fun l i wr => ∃ (q : Nat) (x : Int), q ≤ n ∧ i = .int .i64 q ∧ l = .int .i64 x ∧ 0 ≤ x ∧ x ≤ 1048576 ∧ Hid (leftI left (n + wt cs) = leftI x (wt (cs.dropN (q * 4)))) ∧ Below w.heap.size w wr) (fun _ i _ => n - (intOf i).toNat)
  case atStart => exact ⟨0, _, Nat.zero_le _, rfl, rfl, by omega, by omega, E, Below.refl _ _⟩
  case round =>
    obtain ⟨q, x, hq, rfl, rfl, hx0, hx1, Hs, hbw⟩ := hrel
    by_cases hlt : q < n
    · obtain ⟨b, off, rfl, hbb, hm⟩ := (Hx.out.below hbw).cells (by omega)
      have htr := Ht.out.row hlt
      have hr := hm.row 4 q
      have hw : wt (cs.dropN (q * 4)) = wt (rowU cs 4 q) + wt (cs.dropN ((q + 1) * 4)) := by rw [UD.drop_row cs 4 q, wt_app]
      have hsz := uszD_row cs 4 q
      obtain ⟨xs, hh, hcl⟩ := hr.hand
      have Hcon : Hid (∀ wx, Below wr.heap.size wr wx → Calls Tryz.prog 10 #[.agg xs.toArray, .int .i64 x] wx fun e w' => e = .returned (.int .i64 (leftI x (wt (rowU cs 4 q)))) ∧ Below wx.heap.size wx w') := fun wx hb => uszWant_any (lo := lo) (hi := hi) _ _ x wx htr (hh.below hb) hx0 hx1
      obtain ⟨z0, n1, c1, n2, c2, n3, c3, hR, g0, g1, g2, g3⟩ := partsWant htr
      rw [hR] at hh
      obtain ⟨_, rfl, ⟨v1, _, rfl, s1, ⟨v2, _, rfl, s2, ⟨v3, _, rfl, s3, rfl⟩⟩⟩⟩ := hh
      obtain ⟨a1, p1, rfl, t1⟩ := s1
      obtain ⟨a2, p2, rfl, t2⟩ := s2
      obtain ⟨a3, p3, rfl, t3⟩ := s3
      have q0 : wr.cell? ⟨b, off + q * 4, none⟩ = some (.int .i64 z0) := hcl 0 _ rfl
      have q1 : wr.cell? ⟨b, off + q * 4 + 1, none⟩ = some (.slice a1 n1 p1) := hcl 1 _ rfl
      have q2 : wr.cell? ⟨b, off + q * 4 + 2, none⟩ = some (.slice a2 n2 p2) := hcl 2 _ rfl
      have q3 : wr.cell? ⟨b, off + q * 4 + 3, none⟩ = some (.slice a3 n3 p3) := hcl 3 _ rfl
      clear hR hcl hr hm htr hsz g0 g1 g2 g3 t1 t2 t3
      generalize wt (rowU cs 4 q) = m at *
      have hneg0 := fun h => leftI_neg (x := x) (a := m) (wt (cs.dropN ((q + 1) * 4))) hx0 h
      have hpos0 := fun h => leftI_pos (x := x) (a := m) (wt (cs.dropN ((q + 1) * 4))) h
      have hle0 : leftI x m ≤ x := by unfold leftI; split <;> omega
      generalize leftI x m = y at *
      by_cases hneg : y < 0
      · have hr : Hid (leftI left (n + wt cs) = -1) := by show _ = _; rw [Hs.out, hw]; exact hneg0 hneg
        clear hw Hs E hneg0 hpos0
        go_wp2_with fail
        refine (Hcon.out _ (by repeat (first | exact Below.refl _ _ | refine Below.alloc ?_ (by simp) _))).mono ?_
        rintro e w1 ⟨rfl, hb⟩
        go_wp2
        go_ret
        exact ⟨ret_intU hr.out.symm, hbw.trans (hb.mono hbw.size)⟩
      · have hr : Hid (leftI left (n + wt cs) = leftI y (wt (cs.dropN ((q + 1) * 4)))) := by
          show _ = _
          rw [Hs.out, hw]; exact (hpos0 hneg).1
        clear hw Hs E hneg0 hpos0
        go_wp2_with fail
        refine (Hcon.out _ (by repeat (first | exact Below.refl _ _ | refine Below.alloc ?_ (by simp) _))).mono ?_
        rintro e w1 ⟨rfl, hb⟩
        go_wp2
        go_roundw
        case rel => exact ⟨q + 1, _, by omega, by go_num, rfl, by omega, by omega, hr, hbw.trans (hb.mono hbw.size)⟩
        case measure => simp [intOf]; omega
    · have e : q = n := by omega
      subst e
      have hr : Hid (leftI left (q + wt cs) = x) := by
        show _ = _
        rw [Hs.out, ← Ht.out.2.2.2.1, UD.dropN_all]
        exact leftI_zero hx0
      clear Hs E
      go_wp2
      go_ret
      exact ⟨ret_intU hr.out.symm, hbw⟩
set_option maxRecDepth 20000 in
set_option maxHeartbeats 800000 in
theorem ueqWant_any {lo hi lo' hi' : Nat} (d : UD) (xs ys : List Value) (w : World) (ht : tyL d (uE 16)) (hx : uH w lo hi d xs) (hy : uH w lo' hi' d ys) :
    Calls Tryz.prog 18 #[.agg xs.toArray, .agg ys.toArray] w fun e w' => e = .returned (.bool true) ∧ Below w.heap.size w w' := by
  obtain ⟨z0, n1, c1, n2, c2, n3, c3, rfl, g0, g1, g2, g3⟩ := partsWant ht
  obtain ⟨_, rfl, ⟨v1l, _, rfl, s1l, ⟨v2l, _, rfl, s2l, ⟨v3l, _, rfl, s3l, rfl⟩⟩⟩⟩ := hx
  obtain ⟨a1l, p1l, rfl, t1l⟩ := s1l
  obtain ⟨a2l, p2l, rfl, t2l⟩ := s2l
  obtain ⟨a3l, p3l, rfl, t3l⟩ := s3l
  obtain ⟨_, rfl, ⟨v1r, _, rfl, s1r, ⟨v2r, _, rfl, s2r, ⟨v3r, _, rfl, s3r, rfl⟩⟩⟩⟩ := hy
  obtain ⟨a1r, p1r, rfl, t1r⟩ := s1r
  obtain ⟨a2r, p2r, rfl, t2r⟩ := s2r
  obtain ⟨a3r, p3r, rfl, t3r⟩ := s3r
  have HC0 : Hid (∀ wx : World, Below w.heap.size w wx → Calls Tryz.prog 79 #[.slice a1l n1 p1l, .slice a1r n1 p1r] wx fun e w' => e = .returned (.bool true) ∧ Below wx.heap.size wx w') := fun wx hb => ueqTermS_any (lo := lo) (hi := hi) (lo' := lo') (hi' := hi') n1 c1 _ _ wx g1 ((show uS w lo hi 3 n1 c1 (.slice a1l n1 p1l) from ⟨_, _, rfl, t1l⟩).below hb) ((show uS w lo' hi' 3 n1 c1 (.slice a1r n1 p1r) from ⟨_, _, rfl, t1r⟩).below hb)
  have HC1 : Hid (∀ wx : World, Below w.heap.size w wx → Calls Tryz.prog 54 #[.slice a2l n2 p2l, .slice a2r n2 p2r] wx fun e w' => e = .returned (.bool true) ∧ Below wx.heap.size wx w') := fun wx hb => ueqStringS_any (lo := lo) (hi := hi) (lo' := lo') (hi' := hi') n2 c2 _ _ wx g2 ((show uS w lo hi 1 n2 c2 (.slice a2l n2 p2l) from ⟨_, _, rfl, t2l⟩).below hb) ((show uS w lo' hi' 1 n2 c2 (.slice a2r n2 p2r) from ⟨_, _, rfl, t2r⟩).below hb)
  have HC2 : Hid (∀ wx : World, Below w.heap.size w wx → Calls Tryz.prog 80 #[.slice a3l n3 p3l, .slice a3r n3 p3r] wx fun e w' => e = .returned (.bool true) ∧ Below wx.heap.size wx w') := fun wx hb => ueqWeighS_any (lo := lo) (hi := hi) (lo' := lo') (hi' := hi') n3 c3 _ _ wx g3 ((show uS w lo hi 2 n3 c3 (.slice a3l n3 p3l) from ⟨_, _, rfl, t3l⟩).below hb) ((show uS w lo' hi' 2 n3 c3 (.slice a3r n3 p3r) from ⟨_, _, rfl, t3r⟩).below hb)
  have e0 : (z0 != z0) = false := by simp
  have HB : Hid (∀ o o', Below w.heap.size w ((w.alloc o).alloc o')) := fun o o' => ((Below.refl _ _).alloc (Nat.le_refl _) _).alloc (by simp) _
  clear g0 g1 g2 g3 t1l t1r t2l t2r t3l t3r
  go_enter Tryz.func18, Tryz.ntmps18
  go_wp2_with fail
  refine (HC0.out _ (HB.out _ _)).mono ?_
  rintro e w1 ⟨rfl, hb1⟩
  have b2 : w1.cell? ⟨w.heap.size, 2, none⟩ = some (.slice a2l n2 p2l) := (hb1.cell (p := ⟨w.heap.size, 2, none⟩) (by simp <;> omega)).trans (by simp [go_sem])
  have b3 : w1.cell? ⟨w.heap.size, 3, none⟩ = some (.slice a3l n3 p3l) := (hb1.cell (p := ⟨w.heap.size, 3, none⟩) (by simp <;> omega)).trans (by simp [go_sem])
  have d2 : w1.cell? ⟨w.heap.size + 1, 2, none⟩ = some (.slice a2r n2 p2r) := (hb1.cell (p := ⟨w.heap.size + 1, 2, none⟩) (by simp <;> omega)).trans (by simp [go_sem])
  have d3 : w1.cell? ⟨w.heap.size + 1, 3, none⟩ = some (.slice a3r n3 p3r) := (hb1.cell (p := ⟨w.heap.size + 1, 3, none⟩) (by simp <;> omega)).trans (by simp [go_sem])
  have B1 : Hid (Below w.heap.size w w1) := (HB.out _ _).trans (hb1.mono (by simp; omega))
  clear hb1
  go_wp2_with fail
  refine (HC1.out _ B1.out).mono ?_
  rintro e w2 ⟨rfl, hb2⟩
  replace b3 : w2.cell? ⟨w.heap.size, 3, none⟩ = some (.slice a3l n3 p3l) := (hb2.cell (p := ⟨w.heap.size, 3, none⟩) (World.block_lt_of_cell? _ _ b3)).trans b3
  replace d3 : w2.cell? ⟨w.heap.size + 1, 3, none⟩ = some (.slice a3r n3 p3r) := (hb2.cell (p := ⟨w.heap.size + 1, 3, none⟩) (World.block_lt_of_cell? _ _ d3)).trans d3
  have B2 : Hid (Below w.heap.size w w2) := B1.out.trans (hb2.mono B1.out.size)
  clear hb2
  go_wp2_with fail
  refine (HC2.out _ B2.out).mono ?_
  rintro e w3 ⟨rfl, hb3⟩
  have B3 : Hid (Below w.heap.size w w3) := B2.out.trans (hb3.mono B2.out.size)
  clear hb3
  go_wp2
  go_ret
  exact ⟨rfl, B3.out⟩
set_option maxRecDepth 20000 in
set_option maxHeartbeats 800000 in
theorem ueqWantS_any {lo hi lo' hi' : Nat} (n : Nat) (cs : UD) (c c' : Value) (w : World) (ht : tyS 4 n cs 16) (hx : uS w lo hi 4 n cs c) (hy : uS w lo' hi' 4 n cs c') :
    Calls Tryz.prog 29 #[c, c'] w fun e w' => e = .returned (.bool true) ∧ Below w.heap.size w w' := by
  obtain ⟨a, cap, rfl, hx2⟩ := hx
  obtain ⟨a', cap', rfl, hy2⟩ := hy
  have Hx : Hid (uS w lo hi 4 n cs (.slice a n cap)) := ⟨a, cap, rfl, hx2⟩
  have Hy : Hid (uS w lo' hi' 4 n cs (.slice a' n cap')) := ⟨a', cap', rfl, hy2⟩
  have hmx := ht.2.2.1
  unfold maxLen at hmx
  have Ht := uhide ht
  have hb0 : ((n : Int) != (n : Int)) = false := by simp
  clear hx2 hy2 ht
  go_enter Tryz.func29, Tryz.ntmps29
  go_wp2
  go_loopw [5] (fun i wr => ∃ (q : Nat), q ≤ n ∧ i = .int .i64 q ∧ Below w.heap.size w wr) (fun i _ => n - (intOf i).toNat)
  case atStart => exact ⟨0, Nat.zero_le _, rfl, Below.refl _ _⟩
  case round =>
    obtain ⟨q, hq, rfl, hbw⟩ := hrel
    by_cases hlt : q < n
    · obtain ⟨b, off, rfl, hbb, hm⟩ := (Hx.out.below hbw).cells (by omega)
      obtain ⟨b', off', rfl, hbb', hm'⟩ := (Hy.out.below hbw).cells (by omega)
      have htr := Ht.out.row hlt
      have hsz := uszD_row cs 4 q
      obtain ⟨xs, hh, hcl⟩ := (hm.row 4 q).hand
      obtain ⟨ys, hh', hcl'⟩ := (hm'.row 4 q).hand
      have Hcon : Hid (∀ wx, Below wr.heap.size wr wx → Calls Tryz.prog 18 #[.agg xs.toArray, .agg ys.toArray] wx fun e w' => e = .returned (.bool true) ∧ Hid (Below w.heap.size w w')) := fun wx hb => (ueqWant_any (lo := lo) (hi := hi) (lo' := lo') (hi' := hi') _ _ _ wx htr (hh.below hb) (hh'.below hb)).mono fun e w' h => ⟨h.1, (hbw.trans (hb.mono hbw.size)).trans (h.2.mono (Nat.le_trans hbw.size hb.size))⟩
      obtain ⟨z0, n1, c1, n2, c2, n3, c3, hR, g0, g1, g2, g3⟩ := partsWant htr
      rw [hR] at hh hh'
      obtain ⟨_, rfl, ⟨v1l, _, rfl, s1l, ⟨v2l, _, rfl, s2l, ⟨v3l, _, rfl, s3l, rfl⟩⟩⟩⟩ := hh
      obtain ⟨a1l, p1l, rfl, t1l⟩ := s1l
      obtain ⟨a2l, p2l, rfl, t2l⟩ := s2l
      obtain ⟨a3l, p3l, rfl, t3l⟩ := s3l
      obtain ⟨_, rfl, ⟨v1r, _, rfl, s1r, ⟨v2r, _, rfl, s2r, ⟨v3r, _, rfl, s3r, rfl⟩⟩⟩⟩ := hh'
      obtain ⟨a1r, p1r, rfl, t1r⟩ := s1r
      obtain ⟨a2r, p2r, rfl, t2r⟩ := s2r
      obtain ⟨a3r, p3r, rfl, t3r⟩ := s3r
      have q0 : wr.cell? ⟨b, off + q * 4, none⟩ = some (.int .i64 z0) := hcl 0 _ rfl
      have q1 : wr.cell? ⟨b, off + q * 4 + 1, none⟩ = some (.slice a1l n1 p1l) := hcl 1 _ rfl
      have q2 : wr.cell? ⟨b, off + q * 4 + 2, none⟩ = some (.slice a2l n2 p2l) := hcl 2 _ rfl
      have q3 : wr.cell? ⟨b, off + q * 4 + 3, none⟩ = some (.slice a3l n3 p3l) := hcl 3 _ rfl
      have r0 : wr.cell? ⟨b', off' + q * 4, none⟩ = some (.int .i64 z0) := hcl' 0 _ rfl
      have r1 : wr.cell? ⟨b', off' + q * 4 + 1, none⟩ = some (.slice a1r n1 p1r) := hcl' 1 _ rfl
      have r2 : wr.cell? ⟨b', off' + q * 4 + 2, none⟩ = some (.slice a2r n2 p2r) := hcl' 2 _ rfl
      have r3 : wr.cell? ⟨b', off' + q * 4 + 3, none⟩ = some (.slice a3r n3 p3r) := hcl' 3 _ rfl
      clear hR hcl hcl' hm hm' htr hsz g0 g1 g2 g3 t1l t1r t2l t2r t3l t3r
      clear Hx Hy Ht
      go_wp2
      go_region_with (go_at_call 18; refine (Hcon.out _ (by repeat (first | exact Below.refl _ _ | refine Below.drew ?_ | refine below_drewN ?_ _))).mono ?_; rintro e w2 ⟨rfl, hb2⟩)
      all_goals go_wp2
      all_goals (
        go_roundw
        case rel => exact ⟨q + 1, by omega, by go_num, by repeat (first | exact hb2.out | refine Below.drew ?_ | refine below_drewN ?_ _)⟩
        case measure => simp [intOf]; omega)
    · have e : q = n := by omega
      subst e
      go_wp2
      go_ret
      exact ⟨rfl, hbw⟩
set_option maxRecDepth 20000 in
set_option maxHeartbeats 800000 in
theorem umarkWant_any (d : UD) (k0 : Nat) (xs : List Value) (S : List Nat) (w : World) (ht : tyL d (uE 16)) (hnd : S.Nodup) (hk0 : 1 ≤ k0) (hk1 : k0 + cntT d ≤ 100000000) (hx : oH w d xs S) :
    Calls Tryz.prog 20 #[.agg xs.toArray, .int .i64 k0] w fun e w' => e = .returned (.int .i64 (k0 + cntT d : Nat)) ∧ oH w' (mkT d k0) xs S ∧ OutS S w w' := by
  obtain ⟨z0, n1, c1, n2, c2, n3, c3, rfl, g0, g1, g2, g3⟩ := partsWant ht
  have hx' := hx
  obtain ⟨_, rfl, ⟨v1, _, _, _, rfl, _, _, ⟨_, _, o1, _⟩, ⟨v2, _, _, _, rfl, _, _, ⟨_, _, o2, _⟩, ⟨v3, _, _, _, rfl, _, _, ⟨_, _, o3, _⟩, ⟨rfl, _⟩⟩⟩⟩⟩ := hx'
  obtain ⟨a1, p1, rfl⟩ := uowns_slice o1
  clear o1
  obtain ⟨a2, p2, rfl⟩ := uowns_slice o2
  clear o2
  obtain ⟨a3, p3, rfl⟩ := uowns_slice o3
  clear o3
  simp only [cntT] at hk1
  have hlt := hx.lt
  have HC0 : Hid (∀ (wx : World) (x : Int), oH wx (.p (.int .i64 z0) (.l 3 n1 c1 (.l 1 n2 c2 (.l 2 n3 c3 .nil)))) [.int .i64 z0, .slice a1 n1 p1, .slice a2 n2 p2, .slice a3 n3 p3] S → x = ((k0 : Nat) : Int) → Calls Tryz.prog 82 #[.slice a1 n1 p1, .int .i64 x] wx fun e w' => e = .returned (.int .i64 ((k0 + cnt c1) : Nat)) ∧ oH w' (.p (.int .i64 z0) (.l 3 n1 (mk c1 k0) (.l 1 n2 c2 (.l 2 n3 c3 .nil)))) [.int .i64 z0, .slice a1 n1 p1, .slice a2 n2 p2, .slice a3 n3 p3] S ∧ OutS S wx w') := by
    intro wx x h hxx
    rw [hxx]
    obtain ⟨c', T, q1, q2, q3, q4, q5⟩ := h.part hnd 1 3 n1 c1 rfl
    cases q1
    exact (umarkTermS_any n1 k0 c1 _ T wx g1 q3 (by omega) (by omega) q2).mono fun e w' h => ⟨h.1, q5 w' _ h.2.2 h.2.1, h.2.2.mono q4⟩
  have HC1 : Hid (∀ (wx : World) (x : Int), oH wx (.p (.int .i64 z0) (.l 3 n1 (mk c1 k0) (.l 1 n2 c2 (.l 2 n3 c3 .nil)))) [.int .i64 z0, .slice a1 n1 p1, .slice a2 n2 p2, .slice a3 n3 p3] S → x = (((k0 + cnt c1) : Nat) : Int) → Calls Tryz.prog 56 #[.slice a2 n2 p2, .int .i64 x] wx fun e w' => e = .returned (.int .i64 (((k0 + cnt c1) + cnt c2) : Nat)) ∧ oH w' (.p (.int .i64 z0) (.l 3 n1 (mk c1 k0) (.l 1 n2 (mk c2 (k0 + cnt c1)) (.l 2 n3 c3 .nil)))) [.int .i64 z0, .slice a1 n1 p1, .slice a2 n2 p2, .slice a3 n3 p3] S ∧ OutS S wx w') := by
    intro wx x h hxx
    rw [hxx]
    obtain ⟨c', T, q1, q2, q3, q4, q5⟩ := h.part hnd 2 1 n2 c2 rfl
    cases q1
    exact (umarkStringS_any n2 (k0 + cnt c1) c2 _ T wx g2 q3 (by omega) (by omega) q2).mono fun e w' h => ⟨h.1, q5 w' _ h.2.2 h.2.1, h.2.2.mono q4⟩
  have HC2 : Hid (∀ (wx : World) (x : Int), oH wx (.p (.int .i64 z0) (.l 3 n1 (mk c1 k0) (.l 1 n2 (mk c2 (k0 + cnt c1)) (.l 2 n3 c3 .nil)))) [.int .i64 z0, .slice a1 n1 p1, .slice a2 n2 p2, .slice a3 n3 p3] S → x = ((((k0 + cnt c1) + cnt c2) : Nat) : Int) → Calls Tryz.prog 83 #[.slice a3 n3 p3, .int .i64 x] wx fun e w' => e = .returned (.int .i64 ((((k0 + cnt c1) + cnt c2) + cnt c3) : Nat)) ∧ oH w' (.p (.int .i64 z0) (.l 3 n1 (mk c1 k0) (.l 1 n2 (mk c2 (k0 + cnt c1)) (.l 2 n3 (mk c3 ((k0 + cnt c1) + cnt c2)) .nil)))) [.int .i64 z0, .slice a1 n1 p1, .slice a2 n2 p2, .slice a3 n3 p3] S ∧ OutS S wx w') := by
    intro wx x h hxx
    rw [hxx]
    obtain ⟨c', T, q1, q2, q3, q4, q5⟩ := h.part hnd 3 2 n3 c3 rfl
    cases q1
    exact (umarkWeighS_any n3 ((k0 + cnt c1) + cnt c2) c3 _ T wx g3 q3 (by omega) (by omega) q2).mono fun e w' h => ⟨h.1, q5 w' _ h.2.2 h.2.1, h.2.2.mono q4⟩
  have HE : Hid (((((k0 + cnt c1) + cnt c2) + cnt c3) : Nat) = k0 + cntT (.p (.int .i64 z0) (.l 3 n1 c1 (.l 1 n2 c2 (.l 2 n3 c3 .nil))))) := by show _ = _; simp only [cntT]; omega
  have HF : Hid (∀ wx, oH wx (.p (.int .i64 z0) (.l 3 n1 (mk c1 k0) (.l 1 n2 (mk c2 (k0 + cnt c1)) (.l 2 n3 (mk c3 ((k0 + cnt c1) + cnt c2)) .nil)))) [.int .i64 z0, .slice a1 n1 p1, .slice a2 n2 p2, .slice a3 n3 p3] S → oH wx (mkT (.p (.int .i64 z0) (.l 3 n1 c1 (.l 1 n2 c2 (.l 2 n3 c3 .nil)))) k0) [.int .i64 z0, .slice a1 n1 p1, .slice a2 n2 p2, .slice a3 n3 p3] S) := fun wx h => h
  generalize k0 + cntT (.p (.int .i64 z0) (.l 3 n1 c1 (.l 1 n2 c2 (.l 2 n3 c3 .nil)))) = R at *
  have H0 : Hid (∀ o, oH (w.alloc o) (.p (.int .i64 z0) (.l 3 n1 c1 (.l 1 n2 c2 (.l 2 n3 c3 .nil)))) [.int .i64 z0, .slice a1 n1 p1, .slice a2 n2 p2, .slice a3 n3 p3] S) := fun o => hx.below ((Below.refl _ _).alloc (Nat.le_refl _) _)
  have HS : Hid (w.heap.size ∉ S) := fun h => by have := hlt _ h; omega
  have HO : Hid (∀ o w', OutS S (w.alloc o) w' → OutS S w w') := fun o w' h => (OutS.of_below ((Below.refl _ _).alloc (Nat.le_refl _) _)).trans h
  clear ht hx hlt hnd g0 g1 g2 g3
  go_enter Tryz.func20, Tryz.ntmps20
  go_wp2_with fail
  refine (HC0.out _ _ (H0.out _) (by omega)).mono ?_
  rintro e w1 ⟨rfl, h1, ho1⟩
  have b2 : w1.cell? ⟨w.heap.size, 2, none⟩ = some (.slice a2 n2 p2) := (ho1.cell (p := ⟨w.heap.size, 2, none⟩) (by simp) HS.out).trans (by simp [go_sem])
  have b3 : w1.cell? ⟨w.heap.size, 3, none⟩ = some (.slice a3 n3 p3) := (ho1.cell (p := ⟨w.heap.size, 3, none⟩) (by simp) HS.out).trans (by simp [go_sem])
  have I1 := uhide h1
  have B1 : Hid (OutS S w w1) := HO.out _ _ ho1
  clear h1 ho1
  go_wp2_with fail
  refine (HC1.out _ _ I1.out (by omega)).mono ?_
  rintro e w2 ⟨rfl, h2, ho2⟩
  replace b3 : w2.cell? ⟨w.heap.size, 3, none⟩ = some (.slice a3 n3 p3) := (ho2.cell (p := ⟨w.heap.size, 3, none⟩) (World.block_lt_of_cell? _ _ b3) HS.out).trans b3
  have I2 := uhide h2
  have B2 : Hid (OutS S w w2) := B1.out.trans ho2
  clear h2 ho2
  go_wp2_with fail
  refine (HC2.out _ _ I2.out (by omega)).mono ?_
  rintro e w3 ⟨rfl, h3, ho3⟩
  have I3 := uhide h3
  have B3 : Hid (OutS S w w3) := B2.out.trans ho3
  clear h3 ho3
  go_wp2
  go_ret
  exact ⟨ret_intU (by have := HE.out; omega), HF.out _ I3.out, B3.out⟩
set_option maxRecDepth 20000 in
set_option maxHeartbeats 1600000 in
theorem umarkWantS_any (n k0 : Nat) (cs : UD) (c : Value) (S : List Nat) (w : World) (ht : tyS 4 n cs 16) (hnd : S.Nodup) (hk0 : 1 ≤ k0) (hk1 : k0 + cnt cs ≤ 100000000) (hx : oS w 4 n cs c S) :
    Calls Tryz.prog 30 #[c, .int .i64 k0] w fun e w' => e = .returned (.int .i64 (k0 + cnt cs : Nat)) ∧ oS w' 4 n (mk cs k0) c S ∧ OutS S w w' := by
  obtain ⟨a, cap, rfl⟩ := hx.slice
  have hmx := ht.2.2.1
  unfold maxLen at hmx
  rcases Nat.eq_zero_or_pos n with h0 | hpos
  · subst h0
    obtain ⟨e1, e2⟩ := hx.empty rfl k0
    rw [e1, e2]
    have Hx := uhide hx
    clear hx ht hnd e1 e2
    go_enter Tryz.func30, Tryz.ntmps30
    go_wp2
    go_loopw [1, 5] (fun s i wr => i = .int .i64 0 ∧ s = .int .i64 k0 ∧ wr = w) (fun _ _ _ => 0)
    case atStart => exact ⟨rfl, rfl, rfl⟩
    case round =>
      obtain ⟨rfl, rfl, rfl⟩ := hrel
      go_wp2
      go_ret
      exact ⟨rfl, Hx.out, OutS.refl _ _⟩
  obtain ⟨e, g, S1, xs0, M0, rfl, hp0, hl0⟩ := MS.start hx hnd hpos k0
  obtain ⟨cap, h1, hgl⟩ := M0.own
  cases h1
  have M0 := uhide M0
  have Ht := uhide ht
  have Hp0 := uhide hp0
  have Hl0 := uhide hl0
  have Hkk : Hid (∀ q, k0 + cnt (cs.takeN (q * 4)) ≤ 100000000) := fun q => by have := cnt_le cs (q * 4); omega
  clear hx ht hnd hp0 hl0
  go_enter Tryz.func30, Tryz.ntmps30
  go_wp2
  go_loopw [1, 5] (fun s i wr => ∃ (q : Nat), q ≤ n ∧ i = .int .i64 q ∧ s = .int .i64 (k0 + cnt (cs.takeN (q * 4)) : Nat) ∧ Hid (MS w wr e 4 n (.slice (some ⟨g, 0, none⟩) n cap) g cs k0 S1 xs0 (q * 4))) (fun _ i _ => n - (intOf i).toNat)
  case atStart => exact ⟨0, Nat.zero_le _, rfl, by rw [Nat.zero_mul]; rfl, by rw [Nat.zero_mul]; exact M0⟩
  case round =>
    clear M0
    obtain ⟨q, hq, rfl, rfl, HM⟩ := hrel
    by_cases hlt : q < n
    · have htr := Ht.out.row hlt
      have hsz := uszD_row cs 4 q
      have hkn := cnt_row cs 4 q
      have hkb := Hkk.out (q + 1)
      obtain ⟨z0, n1, c1, n2, c2, n3, c3, hR, g0, g1, g2, g3⟩ := partsWant htr
      rw [hR] at hkn hsz
      simp only [cnt, Nat.add_zero] at hkn
      obtain ⟨kq, hkq⟩ : ∃ kq, k0 + cnt (cs.takeN (q * 4)) = kq := ⟨_, rfl⟩
      have hK0 : 1 ≤ kq := by omega
      have hend : k0 + cnt (cs.takeN ((q + 1) * 4)) = ((((kq + 1) + cnt c1) + cnt c2) + cnt c3) := by rw [hkn]; omega
      rw [hend] at hkb
      have at0 : cs.at? (q * 4) = some (.p (.int .i64 z0)) := by rw [show q * 4 = q * 4 + 0 from rfl]; rw [← rowU_at cs 4 q 0 (by omega), hR]; rfl
      have ct0 : k0 + cnt (cs.takeN (q * 4)) = kq := by exact hkq
      have x0 := Hp0.out _ _ at0
      have at1 : cs.at? (q * 4 + 1) = some (.l 3 n1 c1) := by rw [← rowU_at cs 4 q 1 (by omega), hR]; rfl
      have ct1 : k0 + cnt (cs.takeN (q * 4 + 1)) = (kq + 1) := by rw [cnt_at cs 4 q 1 (by omega), hR]; show k0 + (cnt (cs.takeN (q * 4)) + cnt (.p (.int .i64 z0) .nil)) = _; simp only [cnt]; omega
      obtain ⟨a1, p1, x1⟩ := Hl0.out _ _ _ _ at1
      have at2 : cs.at? (q * 4 + 2) = some (.l 1 n2 c2) := by rw [← rowU_at cs 4 q 2 (by omega), hR]; rfl
      have ct2 : k0 + cnt (cs.takeN (q * 4 + 2)) = ((kq + 1) + cnt c1) := by rw [cnt_at cs 4 q 2 (by omega), hR]; show k0 + (cnt (cs.takeN (q * 4)) + cnt (.p (.int .i64 z0) (.l 3 n1 c1 .nil))) = _; simp only [cnt]; omega
      obtain ⟨a2, p2, x2⟩ := Hl0.out _ _ _ _ at2
      have at3 : cs.at? (q * 4 + 3) = some (.l 2 n3 c3) := by rw [← rowU_at cs 4 q 3 (by omega), hR]; rfl
      have ct3 : k0 + cnt (cs.takeN (q * 4 + 3)) = (((kq + 1) + cnt c1) + cnt c2) := by rw [cnt_at cs 4 q 3 (by omega), hR]; show k0 + (cnt (cs.takeN (q * 4)) + cnt (.p (.int .i64 z0) (.l 3 n1 c1 (.l 1 n2 c2 .nil)))) = _; simp only [cnt]; omega
      obtain ⟨a3, p3, x3⟩ := Hl0.out _ _ _ _ at3
      have HP0 : Hid (∀ (wx : World) (u : Value), MS w wx e 4 n (.slice (some ⟨g, 0, none⟩) n cap) g cs k0 S1 xs0 (q * 4) → u = .int .i64 (kq : Nat) → MS w (wx.setCell ⟨g, q * 4, none⟩ u) e 4 n (.slice (some ⟨g, 0, none⟩) n cap) g cs k0 S1 xs0 (q * 4 + 1)) := fun wx u h hu => h.plain at0 (hu.trans (by rw [ct0, mkP_int _ _ (by omega)]))
      have HC1 : Hid (∀ (wx : World) (x : Int), MS w wx e 4 n (.slice (some ⟨g, 0, none⟩) n cap) g cs k0 S1 xs0 (q * 4 + 1) → x = (((kq + 1) : Nat) : Int) → Calls Tryz.prog 82 #[.slice a1 n1 p1, .int .i64 x] wx fun e1 w' => e1 = .returned (.int .i64 (((kq + 1) + cnt c1 : Nat))) ∧ Hid (MS w w' e 4 n (.slice (some ⟨g, 0, none⟩) n cap) g cs k0 S1 xs0 (q * 4 + 2))) := by
        intro wx x h hxx
        rw [hxx]
        obtain ⟨c', T, q1, q2, q3, q5⟩ := h.part at1
        rw [x1] at q1
        cases q1
        rw [ct1] at q5
        exact (umarkTermS_any n1 (kq + 1) c1 _ T wx g1 q3 (by omega) (by omega) q2).mono fun e1 w' h => ⟨h.1, q5 w' h.2.2 h.2.1⟩
      have HC2 : Hid (∀ (wx : World) (x : Int), MS w wx e 4 n (.slice (some ⟨g, 0, none⟩) n cap) g cs k0 S1 xs0 (q * 4 + 2) → x = ((((kq + 1) + cnt c1) : Nat) : Int) → Calls Tryz.prog 56 #[.slice a2 n2 p2, .int .i64 x] wx fun e1 w' => e1 = .returned (.int .i64 ((((kq + 1) + cnt c1) + cnt c2 : Nat))) ∧ Hid (MS w w' e 4 n (.slice (some ⟨g, 0, none⟩) n cap) g cs k0 S1 xs0 (q * 4 + 3))) := by
        intro wx x h hxx
        rw [hxx]
        obtain ⟨c', T, q1, q2, q3, q5⟩ := h.part at2
        rw [x2] at q1
        cases q1
        rw [ct2] at q5
        exact (umarkStringS_any n2 ((kq + 1) + cnt c1) c2 _ T wx g2 q3 (by omega) (by omega) q2).mono fun e1 w' h => ⟨h.1, q5 w' h.2.2 h.2.1⟩
      have HC3 : Hid (∀ (wx : World) (x : Int), MS w wx e 4 n (.slice (some ⟨g, 0, none⟩) n cap) g cs k0 S1 xs0 (q * 4 + 3) → x = (((((kq + 1) + cnt c1) + cnt c2) : Nat) : Int) → Calls Tryz.prog 83 #[.slice a3 n3 p3, .int .i64 x] wx fun e1 w' => e1 = .returned (.int .i64 (((((kq + 1) + cnt c1) + cnt c2) + cnt c3 : Nat))) ∧ Hid (MS w w' e 4 n (.slice (some ⟨g, 0, none⟩) n cap) g cs k0 S1 xs0 (q * 4 + 4))) := by
        intro wx x h hxx
        rw [hxx]
        obtain ⟨c', T, q1, q2, q3, q5⟩ := h.part at3
        rw [x3] at q1
        cases q1
        rw [ct3] at q5
        exact (umarkWeighS_any n3 (((kq + 1) + cnt c1) + cnt c2) c3 _ T wx g3 q3 (by omega) (by omega) q2).mono fun e1 w' h => ⟨h.1, q5 w' h.2.2 h.2.1⟩
      have HQ0 : Hid (∀ wx, MS w wx e 4 n (.slice (some ⟨g, 0, none⟩) n cap) g cs k0 S1 xs0 (q * 4) → wx.cell? ⟨g, q * 4, none⟩ = some (.int .i64 z0) ∧ wx.frozen? ⟨g, q * 4, none⟩ = false ∧ wx.cell? ⟨g, q * 4 + 1, none⟩ = some (.slice a1 n1 p1) ∧ wx.frozen? ⟨g, q * 4 + 1, none⟩ = false ∧ wx.cell? ⟨g, q * 4 + 2, none⟩ = some (.slice a2 n2 p2) ∧ wx.frozen? ⟨g, q * 4 + 2, none⟩ = false ∧ wx.cell? ⟨g, q * 4 + 3, none⟩ = some (.slice a3 n3 p3) ∧ wx.frozen? ⟨g, q * 4 + 3, none⟩ = false) := fun wx h => ⟨h.cellAt _ _ (by omega) x0 (by omega), h.fz _, h.cellAt _ _ (by omega) x1 (by omega), h.fz _, h.cellAt _ _ (by omega) x2 (by omega), h.fz _, h.cellAt _ _ (by omega) x3 (by omega), h.fz _⟩
      have HQ2 : Hid (∀ wx, MS w wx e 4 n (.slice (some ⟨g, 0, none⟩) n cap) g cs k0 S1 xs0 (q * 4 + 2) → wx.cell? ⟨g, q * 4 + 2, none⟩ = some (.slice a2 n2 p2) ∧ wx.frozen? ⟨g, q * 4 + 2, none⟩ = false ∧ wx.cell? ⟨g, q * 4 + 3, none⟩ = some (.slice a3 n3 p3) ∧ wx.frozen? ⟨g, q * 4 + 3, none⟩ = false) := fun wx h => ⟨h.cellAt _ _ (by omega) x2 (by omega), h.fz _, h.cellAt _ _ (by omega) x3 (by omega), h.fz _⟩
      have HQ3 : Hid (∀ wx, MS w wx e 4 n (.slice (some ⟨g, 0, none⟩) n cap) g cs k0 S1 xs0 (q * 4 + 3) → wx.cell? ⟨g, q * 4 + 3, none⟩ = some (.slice a3 n3 p3) ∧ wx.frozen? ⟨g, q * 4 + 3, none⟩ = false) := fun wx h => ⟨h.cellAt _ _ (by omega) x3 (by omega), h.fz _⟩
      have HN : Hid (∀ wx, MS w wx e 4 n (.slice (some ⟨g, 0, none⟩) n cap) g cs k0 S1 xs0 (q * 4 + 4) → MS w wx e 4 n (.slice (some ⟨g, 0, none⟩) n cap) g cs k0 S1 xs0 ((q + 1) * 4)) := fun wx h => by rw [show q * 4 + 4 = (q + 1) * 4 by omega] at h; exact h
      have HE := uhide hend
      rw [hkq]
      clear hR htr hsz hkn hend hkq Ht Hkk Hp0 Hl0 g0 g1 g2 g3 at0 at1 at2 at3 ct0 ct1 ct2 ct3 x0 x1 x2 x3
      generalize cnt c1 = m1 at *
      generalize cnt c2 = m2 at *
      generalize cnt c3 = m3 at *
      obtain ⟨q0, f0, q1, f1, q2, f2, q3, f3⟩ := HQ0.out _ HM.out
      go_wp2_with fail
      refine (HC1.out _ _ (HP0.out _ _ HM.out (congrArg (Value.int .i64) (by omega))) (by omega)).mono ?_
      rintro e1 w1 ⟨rfl, I1⟩
      clear q0 f0 q1 f1 q2 f2 q3 f3
      obtain ⟨q2, f2, q3, f3⟩ := HQ2.out _ I1.out
      go_wp2_with fail
      refine (HC2.out _ _ I1.out (by omega)).mono ?_
      rintro e1 w2 ⟨rfl, I2⟩
      clear q2 f2 q3 f3
      obtain ⟨q3, f3⟩ := HQ3.out _ I2.out
      go_wp2_with fail
      refine (HC3.out _ _ I2.out (by omega)).mono ?_
      rintro e1 w3 ⟨rfl, I3⟩
      clear q3 f3
      go_wp2
      go_roundw
      case rel => exact ⟨q + 1, by omega, by go_num, by rw [HE.out]; go_num, HN.out _ I3.out⟩
      case measure => (simp [intOf]; omega)
    · have e : q = n := by omega
      subst e
      obtain ⟨h1, h2⟩ := HM.out.done (by decide)
      have HD := uhide (And.intro h1 h2)
      have hl : cs.takeN (q * 4) = cs := by apply UD.ext; unfold UD.takeN; rw [UD.toL_ofL]; exact List.take_of_length_le (Nat.le_of_eq Ht.out.2.2.2.1)
      rw [hl]
      clear h1 h2 hl HM Ht Hp0 Hl0 Hkk
      go_wp2
      go_ret
      exact ⟨rfl, HD.out⟩
set_option maxRecDepth 20000 in
set_option maxHeartbeats 1600000 in
theorem utoWant_any {lo hi : Nat} (d : UD) (xs : List Value) (w : World) (ht : tyL d (uE 16)) (hn : wt d ≤ 1048576) (hx : uH w lo hi d xs) :
    Calls Tryz.prog 13 #[.agg xs.toArray] w fun e w' => ∃ ys S, e = .returned (.agg ys.toArray) ∧ oH w' d ys S ∧ S.Nodup ∧ (∀ s ∈ S, w.heap.size ≤ s) ∧ Below w.heap.size w w' := by
  obtain ⟨z0, n1, c1, n2, c2, n3, c3, rfl, g0, g1, g2, g3⟩ := partsWant ht
  obtain ⟨_, rfl, ⟨v1l, _, rfl, s1l, ⟨v2l, _, rfl, s2l, ⟨v3l, _, rfl, s3l, rfl⟩⟩⟩⟩ := hx
  obtain ⟨a1l, p1l, rfl, t1l⟩ := s1l
  obtain ⟨a2l, p2l, rfl, t2l⟩ := s2l
  obtain ⟨a3l, p3l, rfl, t3l⟩ := s3l
  simp only [wt, wtP] at hn
  have HC0 : Hid (∀ wx : World, Below w.heap.size w wx → Calls Tryz.prog 70 #[.slice a1l n1 p1l] wx fun e w' => ∃ a p S, e = .returned (.slice a n1 p) ∧ Hid (oS w' 3 n1 c1 (.slice a n1 p) S) ∧ Hid (own2 S wx.heap.size w'.heap.size) ∧ Below wx.heap.size wx w') := fun wx hb => (utoTermS_any (lo := lo) (hi := hi) n1 c1 _ wx g1 (by omega) ((show uS w lo hi 3 n1 c1 (.slice a1l n1 p1l) from ⟨_, _, rfl, t1l⟩).below hb)).mono fun e w' ⟨c', S, h1, h2, h3, h4, h5⟩ => by
    obtain ⟨a, p, rfl⟩ := h2.slice
    exact ⟨a, p, S, h1, h2, ⟨h3, fun s hs => ⟨h4 s hs, h2.lt s hs⟩⟩, h5⟩
  have HC1 : Hid (∀ wx : World, Below w.heap.size w wx → Calls Tryz.prog 51 #[.slice a2l n2 p2l] wx fun e w' => ∃ a p S, e = .returned (.slice a n2 p) ∧ Hid (oS w' 1 n2 c2 (.slice a n2 p) S) ∧ Hid (own2 S wx.heap.size w'.heap.size) ∧ Below wx.heap.size wx w') := fun wx hb => (utoStringS_any (lo := lo) (hi := hi) n2 c2 _ wx g2 (by omega) ((show uS w lo hi 1 n2 c2 (.slice a2l n2 p2l) from ⟨_, _, rfl, t2l⟩).below hb)).mono fun e w' ⟨c', S, h1, h2, h3, h4, h5⟩ => by
    obtain ⟨a, p, rfl⟩ := h2.slice
    exact ⟨a, p, S, h1, h2, ⟨h3, fun s hs => ⟨h4 s hs, h2.lt s hs⟩⟩, h5⟩
  have HC2 : Hid (∀ wx : World, Below w.heap.size w wx → Calls Tryz.prog 71 #[.slice a3l n3 p3l] wx fun e w' => ∃ a p S, e = .returned (.slice a n3 p) ∧ Hid (oS w' 2 n3 c3 (.slice a n3 p) S) ∧ Hid (own2 S wx.heap.size w'.heap.size) ∧ Below wx.heap.size wx w') := fun wx hb => (utoWeighS_any (lo := lo) (hi := hi) n3 c3 _ wx g3 (by omega) ((show uS w lo hi 2 n3 c3 (.slice a3l n3 p3l) from ⟨_, _, rfl, t3l⟩).below hb)).mono fun e w' ⟨c', S, h1, h2, h3, h4, h5⟩ => by
    obtain ⟨a, p, rfl⟩ := h2.slice
    exact ⟨a, p, S, h1, h2, ⟨h3, fun s hs => ⟨h4 s hs, h2.lt s hs⟩⟩, h5⟩
  have HA : Hid (∀ o1 o2 o3, Below w.heap.size w (((w.alloc o1).alloc o2).alloc o3)) := fun o1 o2 o3 => (((Below.refl _ _).alloc (Nat.le_refl _) _).alloc (by simp) _).alloc (by simp; omega) _
  clear hn ht g0 g1 g2 g3 t1l t2l t3l
  go_enter Tryz.func13, Tryz.ntmps13
  go_wp2_with fail
  refine (HC0.out _ (by repeat (first | with_reducible exact HA.out _ _ _ | with_reducible assumption | with_reducible refine Below.setCell ?_ (by simp <;> omega) _))).mono ?_
  rintro e w1 ⟨a1r, p1r, S1, rfl, O1, W1, hb1⟩
  have OA1 : Hid (objU w1 w.heap.size 26 [.int .i64 z0, .slice a1l n1 p1l, .slice a2l n2 p2l, .slice a3l n3 p3l]) := objU.below (by repeat (first | with_reducible exact objU.new2 _ _ rfl | with_reducible refine objU.other ?_ _ (by simp <;> omega) _ | with_reducible refine objU.old ?_ _)) hb1
  have OR1 : Hid (objU w1 (w.heap.size + 1) 35 [.int .i64 0, .slice none 0 0, .slice none 0 0, .slice none 0 0]) := objU.below (by repeat (first | with_reducible exact objU.new2 _ _ (by simp) | with_reducible refine objU.other ?_ _ (by simp <;> omega) _ | with_reducible refine objU.old ?_ _)) hb1
  have OO1 : Hid (objU w1 (w.heap.size + 1 + 1) 35 [.int .i64 z0, .slice none 0 0, .slice none 0 0, .slice none 0 0]) := objU.below (by repeat (first | with_reducible exact objU.new2 _ _ (by simp) | with_reducible refine objU.old ?_ _)) hb1
  have hsz1 : w.heap.size + 1 + 1 + 1 ≤ w1.heap.size := by have := hb1.size; simpa using this
  replace W1 := uhide (W1.out.mono (a' := w.heap.size + 1 + 1 + 1) (by simp <;> omega) (Nat.le_refl _))
  have HB1 : Hid (Below w.heap.size w w1) := Below.trans (by repeat (first | with_reducible exact HA.out _ _ _ | with_reducible refine Below.setCell ?_ (by simp <;> omega) _)) (hb1.mono (by simp <;> omega))
  clear hb1
  have co1_1 : w1.cell? ⟨w.heap.size + 1 + 1, 1, none⟩ = some (.slice none 0 0) := OO1.out.cell 1 _ rfl
  have fo1_1 : w1.frozen? ⟨w.heap.size + 1 + 1, 1, none⟩ = false := OO1.out.fz 1
  have ca2_1 : w1.cell? ⟨w.heap.size, 2, none⟩ = some (.slice a2l n2 p2l) := OA1.out.cell 2 _ rfl
  have co2_1 : w1.cell? ⟨w.heap.size + 1 + 1, 2, none⟩ = some (.slice none 0 0) := OO1.out.cell 2 _ rfl
  have fo2_1 : w1.frozen? ⟨w.heap.size + 1 + 1, 2, none⟩ = false := OO1.out.fz 2
  go_wp2_with fail
  refine (HC1.out _ (by repeat (first | with_reducible exact HA.out _ _ _ | with_reducible assumption | with_reducible refine Below.setCell ?_ (by simp <;> omega) _ | with_reducible exact HB1.out))).mono ?_
  rintro e w2 ⟨a2r, p2r, S2, rfl, O2, W2, hb2⟩
  have OA2 : Hid (objU w2 w.heap.size 26 [.int .i64 z0, .slice a1l n1 p1l, .slice a2l n2 p2l, .slice a3l n3 p3l]) := objU.below (by repeat (first | with_reducible exact OA1.out | with_reducible refine objU.other ?_ _ (by simp <;> omega) _ | with_reducible refine objU.old ?_ _)) hb2
  have OR2 : Hid (objU w2 (w.heap.size + 1) 35 [.int .i64 0, .slice none 0 0, .slice none 0 0, .slice none 0 0]) := objU.below (by repeat (first | with_reducible exact OR1.out | with_reducible refine objU.other ?_ _ (by simp <;> omega) _ | with_reducible refine objU.old ?_ _)) hb2
  have OO2 : Hid (objU w2 (w.heap.size + 1 + 1) 35 [.int .i64 z0, .slice a1r n1 p1r, .slice none 0 0, .slice none 0 0]) := objU.below (by refine objU.set (xs := [.int .i64 z0, .slice none 0 0, .slice none 0 0, .slice none 0 0]) ?_ 1 _; exact OO1.out) hb2
  replace O1 := uhide ((oS.outs O1.out (T := [w.heap.size + 1 + 1]) (by repeat (first | with_reducible exact OutS.refl _ _ | with_reducible refine OutS.setCell ?_ (show _ ∈ [w.heap.size + 1 + 1] by simp) _)) W1.out (fun x hx => by simp at hx; omega)).below hb2)
  have hsz2 : w1.heap.size ≤ w2.heap.size := Nat.le_trans (by simp) hb2.size
  replace W2 := uhide (W2.out.mono (a' := w1.heap.size) (by simp) (Nat.le_refl _))
  have HB2 : Hid (Below w.heap.size w w2) := Below.trans (by repeat (first | with_reducible exact HB1.out | with_reducible refine Below.setCell ?_ (by simp <;> omega) _)) (hb2.mono (by simp <;> omega))
  clear hb2
  clear OA1 OR1 OO1 HB1
  have co2_2 : w2.cell? ⟨w.heap.size + 1 + 1, 2, none⟩ = some (.slice none 0 0) := OO2.out.cell 2 _ rfl
  have fo2_2 : w2.frozen? ⟨w.heap.size + 1 + 1, 2, none⟩ = false := OO2.out.fz 2
  have ca3_2 : w2.cell? ⟨w.heap.size, 3, none⟩ = some (.slice a3l n3 p3l) := OA2.out.cell 3 _ rfl
  have co3_2 : w2.cell? ⟨w.heap.size + 1 + 1, 3, none⟩ = some (.slice none 0 0) := OO2.out.cell 3 _ rfl
  have fo3_2 : w2.frozen? ⟨w.heap.size + 1 + 1, 3, none⟩ = false := OO2.out.fz 3
  go_wp2_with fail
  refine (HC2.out _ (by repeat (first | with_reducible exact HA.out _ _ _ | with_reducible assumption | with_reducible refine Below.setCell ?_ (by simp <;> omega) _ | with_reducible exact HB2.out))).mono ?_
  rintro e w3 ⟨a3r, p3r, S3, rfl, O3, W3, hb3⟩
  have OA3 : Hid (objU w3 w.heap.size 26 [.int .i64 z0, .slice a1l n1 p1l, .slice a2l n2 p2l, .slice a3l n3 p3l]) := objU.below (by repeat (first | with_reducible exact OA2.out | with_reducible refine objU.other ?_ _ (by simp <;> omega) _ | with_reducible refine objU.old ?_ _)) hb3
  have OR3 : Hid (objU w3 (w.heap.size + 1) 35 [.int .i64 0, .slice none 0 0, .slice none 0 0, .slice none 0 0]) := objU.below (by repeat (first | with_reducible exact OR2.out | with_reducible refine objU.other ?_ _ (by simp <;> omega) _ | with_reducible refine objU.old ?_ _)) hb3
  have OO3 : Hid (objU w3 (w.heap.size + 1 + 1) 35 [.int .i64 z0, .slice a1r n1 p1r, .slice a2r n2 p2r, .slice none 0 0]) := objU.below (by refine objU.set (xs := [.int .i64 z0, .slice a1r n1 p1r, .slice none 0 0, .slice none 0 0]) ?_ 2 _; exact OO2.out) hb3
  replace O1 := uhide ((oS.outs O1.out (T := [w.heap.size + 1 + 1]) (by repeat (first | with_reducible exact OutS.refl _ _ | with_reducible refine OutS.setCell ?_ (show _ ∈ [w.heap.size + 1 + 1] by simp) _)) W1.out (fun x hx => by simp at hx; omega)).below hb3)
  replace O2 := uhide ((oS.outs O2.out (T := [w.heap.size + 1 + 1]) (by repeat (first | with_reducible exact OutS.refl _ _ | with_reducible refine OutS.setCell ?_ (show _ ∈ [w.heap.size + 1 + 1] by simp) _)) W2.out (fun x hx => by simp at hx; omega)).below hb3)
  have hsz3 : w2.heap.size ≤ w3.heap.size := Nat.le_trans (by simp) hb3.size
  replace W3 := uhide (W3.out.mono (a' := w2.heap.size) (by simp) (Nat.le_refl _))
  have HB3 : Hid (Below w.heap.size w w3) := Below.trans (by repeat (first | with_reducible exact HB2.out | with_reducible refine Below.setCell ?_ (by simp <;> omega) _)) (hb3.mono (by simp <;> omega))
  clear hb3
  clear OA2 OR2 OO2 HB2
  have co3_3 : w3.cell? ⟨w.heap.size + 1 + 1, 3, none⟩ = some (.slice none 0 0) := OO3.out.cell 3 _ rfl
  have fo3_3 : w3.frozen? ⟨w.heap.size + 1 + 1, 3, none⟩ = false := OO3.out.fz 3
  have co0_3 : w3.cell? ⟨w.heap.size + 1 + 1, 0, none⟩ = some (.int .i64 z0) := OO3.out.cell 0 _ rfl
  have cr0 : w3.cell? ⟨w.heap.size + 1, 0, none⟩ = some (.int .i64 0) := OR3.out.cell 0 _ rfl
  have fr0 : w3.frozen? ⟨w.heap.size + 1, 0, none⟩ = false := OR3.out.fz 0
  have co1_3 : w3.cell? ⟨w.heap.size + 1 + 1, 1, none⟩ = some (.slice a1r n1 p1r) := OO3.out.cell 1 _ rfl
  have cr1 : w3.cell? ⟨w.heap.size + 1, 1, none⟩ = some (.slice none 0 0) := OR3.out.cell 1 _ rfl
  have fr1 : w3.frozen? ⟨w.heap.size + 1, 1, none⟩ = false := OR3.out.fz 1
  have co2_3 : w3.cell? ⟨w.heap.size + 1 + 1, 2, none⟩ = some (.slice a2r n2 p2r) := OO3.out.cell 2 _ rfl
  have cr2 : w3.cell? ⟨w.heap.size + 1, 2, none⟩ = some (.slice none 0 0) := OR3.out.cell 2 _ rfl
  have fr2 : w3.frozen? ⟨w.heap.size + 1, 2, none⟩ = false := OR3.out.fz 2
  have cr3 : w3.cell? ⟨w.heap.size + 1, 3, none⟩ = some (.slice none 0 0) := OR3.out.cell 3 _ rfl
  have fr3 : w3.frozen? ⟨w.heap.size + 1, 3, none⟩ = false := OR3.out.fz 3
  go_wp2
  refine bodyPost_ret (v := .agg #[.int .i64 z0, .slice a1r n1 p1r, .slice a2r n2 p2r, .slice a3r n3 p3r]) ?_ rfl ⟨[.int .i64 z0, .slice a1r n1 p1r, .slice a2r n2 p2r, .slice a3r n3 p3r], (S1 ++ (S2 ++ (S3 ++ []))), rfl, ?_, ?_⟩
  · simp [results, Tryz.results13, go_sem, cr0, cr1, cr2, cr3]
  · exact oH.consP _ (oH.consS (oS.outs O1.out (T := [w.heap.size + 1, w.heap.size + 1 + 1]) (by repeat (first | with_reducible exact OutS.refl _ _ | with_reducible refine OutS.setCell ?_ (show _ ∈ [w.heap.size + 1, w.heap.size + 1 + 1] by simp) _)) W1.out (fun x hx => by simp at hx; omega)) (oH.consS (oS.outs O2.out (T := [w.heap.size + 1, w.heap.size + 1 + 1]) (by repeat (first | with_reducible exact OutS.refl _ _ | with_reducible refine OutS.setCell ?_ (show _ ∈ [w.heap.size + 1, w.heap.size + 1 + 1] by simp) _)) W2.out (fun x hx => by simp at hx; omega)) (oH.consS (oS.outs O3.out (T := [w.heap.size + 1, w.heap.size + 1 + 1]) (by repeat (first | with_reducible exact OutS.refl _ _ | with_reducible refine OutS.setCell ?_ (show _ ∈ [w.heap.size + 1, w.heap.size + 1 + 1] by simp) _)) W3.out (fun x hx => by simp at hx; omega)) (oH.nil _))))
  · have HW := own2.app W1.out (own2.app W2.out (own2.app W3.out (own2.nil w3.heap.size w3.heap.size) (by omega) (by omega) (by omega)) (by omega) (by omega) (by omega)) (by omega) (by omega) (by omega)
    refine ⟨HW.1, fun s hs => (by have := HW.2 s hs; omega), ?_⟩
    repeat (first | with_reducible exact HB3.out | with_reducible refine Below.setCell ?_ (by simp <;> omega) _)
theorem Tryz.infoUWant : (Tryz.prog.info? 35).map (fun i => (i.zero, i.size, decide (i.bytes ≤ 1000))) = some (some (.agg #[.int .i64 0, .slice none 0 0, .slice none 0 0, .slice none 0 0]), 4, true) := by kernel_rfl
set_option maxRecDepth 20000 in
set_option maxHeartbeats 1600000 in
theorem utoWantS_any {lo hi : Nat} (n : Nat) (cs : UD) (c : Value) (w : World) (ht : tyS 4 n cs 16) (hn : n + wt cs ≤ 1048576) (hx : uS w lo hi 4 n cs c) :
    Calls Tryz.prog 26 #[c] w fun e w' => ∃ c' S, e = .returned c' ∧ oS w' 4 n cs c' S ∧ S.Nodup ∧ (∀ s ∈ S, w.heap.size ≤ s) ∧ Below w.heap.size w w' := by
  obtain ⟨i0, hinf, hz0, hz1, hz2⟩ : ∃ i, Tryz.prog.info? 35 = some i ∧ i.zero = some (.agg #[.int .i64 0, .slice none 0 0, .slice none 0 0, .slice none 0 0]) ∧ i.size = 4 ∧ i.bytes ≤ 1000 := by
    have h := Tryz.infoUWant
    cases e : Tryz.prog.info? 35 with
    | none => rw [e] at h; cases h
    | some i => rw [e] at h; simp at h; exact ⟨i, rfl, h.1, h.2.1, h.2.2⟩
  obtain ⟨a, cap, rfl, hx2⟩ := hx
  have Hx : Hid (uS w lo hi 4 n cs (.slice a n cap)) := ⟨a, cap, rfl, hx2⟩
  have Ht := uhide ht
  have Hn : Hid (∀ q, q < n → wt (rowU cs 4 q) ≤ 1048576) := fun q hq => by have := wt_row cs 4 q; omega
  have hnn : n ≤ 1048576 := by omega
  have hbb : i0.bytes * n ≤ 281474976710656 := Nat.le_trans (Nat.mul_le_mul hz2 hnn) (by decide)
  clear hx2 ht hn
  go_enter Tryz.func26, Tryz.ntmps26
  go_wp2_with (at_make; refine wpList_make_full _ rfl _ _ 51 rfl w.heap.size 35 i0 _ 4 Tryz.underlying51 hinf hz0 hz1 _ _ _ _ n rfl rfl rfl rfl hbb (by unfold maxLen; omega) (Nat.le_refl _) ?_; intro w1 hown hgrow)
  have T0 := uhide (TS.start (cs := cs) hown (Below.grown (Below.refl _ _) hgrow (Nat.le_refl _) (fun k hk => by cases hk)))
  clear hown hgrow
  go_loopw [4] (fun i wr => ∃ (q : Nat), q ≤ n ∧ i = .int .i64 q ∧ Hid (TS w wr 35 4 n cs q)) (fun i _ => n - (intOf i).toNat)
  case atStart => exact ⟨0, Nat.zero_le _, rfl, T0⟩
  case round =>
    clear T0
    obtain ⟨q, hq, rfl, HT⟩ := hrel
    by_cases hlt : q < n
    · obtain ⟨b, off, rfl, hbk, hm⟩ := (Hx.out.below HT.out.bel).cells (by omega)
      have htr := Ht.out.row hlt
      have hwr := Hn.out q hlt
      have hsz := uszD_row cs 4 q
      obtain ⟨xs, hh, hcl⟩ := (hm.row 4 q).hand
      have Hcon : Hid (∀ wx, Below wr.heap.size wr wx → Calls Tryz.prog 13 #[.agg xs.toArray] wx fun e w' => ∃ ys S, e = .returned (.agg ys.toArray) ∧ oH w' (rowU cs 4 q) ys S ∧ S.Nodup ∧ (∀ s ∈ S, wx.heap.size ≤ s) ∧ Below wx.heap.size wx w') := fun wx hb => utoWant_any (lo := lo) (hi := hi) _ _ wx htr hwr (hh.below hb)
      obtain ⟨z0, n1, c1, n2, c2, n3, c3, hR, g0, g1, g2, g3⟩ := partsWant htr
      rw [hR] at hh
      obtain ⟨_, rfl, ⟨v1l, _, rfl, s1l, ⟨v2l, _, rfl, s2l, ⟨v3l, _, rfl, s3l, rfl⟩⟩⟩⟩ := hh
      obtain ⟨a1l, p1l, rfl, t1l⟩ := s1l
      obtain ⟨a2l, p2l, rfl, t2l⟩ := s2l
      obtain ⟨a3l, p3l, rfl, t3l⟩ := s3l
      have q0 : wr.cell? ⟨b, off + q * 4, none⟩ = some (.int .i64 z0) := hcl 0 _ rfl
      have q1 : wr.cell? ⟨b, off + q * 4 + 1, none⟩ = some (.slice a1l n1 p1l) := hcl 1 _ rfl
      have q2 : wr.cell? ⟨b, off + q * 4 + 2, none⟩ = some (.slice a2l n2 p2l) := hcl 2 _ rfl
      have q3 : wr.cell? ⟨b, off + q * 4 + 3, none⟩ = some (.slice a3l n3 p3l) := hcl 3 _ rfl
      have HR := uhide hR
      have HS : Hid (∀ (w2 : World) ys S, oH w2 (rowU cs 4 q) ys S → ∃ a1r p1r a2r p2r a3r p3r , ys = [.int .i64 z0, .slice a1r n1 p1r, .slice a2r n2 p2r, .slice a3r n3 p3r]) := by
        intro w2 ys S h
        rw [HR.out] at h
        obtain ⟨_, rfl, ⟨v1, _, _, _, rfl, _, _, ⟨_, _, o1, _⟩, ⟨v2, _, _, _, rfl, _, _, ⟨_, _, o2, _⟩, ⟨v3, _, _, _, rfl, _, _, ⟨_, _, o3, _⟩, ⟨rfl, _⟩⟩⟩⟩⟩ := h
        obtain ⟨a1, p1, rfl⟩ := uowns_slice o1
        obtain ⟨a2, p2, rfl⟩ := uowns_slice o2
        obtain ⟨a3, p3, rfl⟩ := uowns_slice o3
        exact ⟨a1, p1, a2, p2, a3, p3, rfl⟩
      have hKn : q * 4 + 4 ≤ n * 4 := by have := Nat.mul_le_mul_right 4 (show q + 1 ≤ n by omega); rw [Nat.succ_mul] at this; exact this
      clear hR hcl hm htr hsz hwr HR g0 g1 g2 g3 t1l t2l t3l
      go_wp2_with fail
      refine (Hcon.out _ (by repeat (first | exact Below.refl _ _ | refine Below.alloc ?_ (by simp) _))).mono ?_
      rintro e w2 ⟨ys, S, rfl, ho, hnd, hS, hb2⟩
      obtain ⟨a1r, p1r, a2r, p2r, a3r, p3r, rfl⟩ := HS.out _ _ _ ho
      have HT2 := uhide (HT.out.below hb2)
      have T1 := uhide (HT.out.step hb2 ho hnd hS Ht.out.2.2.2.1 hlt)
      obtain ⟨d0, p0x⟩ := HT2.out.cell (q * 4) (by omega)
      have f0 := HT2.out.fz (q * 4)
      obtain ⟨d1, p1x⟩ := HT2.out.cell (q * 4 + 1) (by omega)
      have f1 := HT2.out.fz (q * 4 + 1)
      obtain ⟨d2, p2x⟩ := HT2.out.cell (q * 4 + 2) (by omega)
      have f2 := HT2.out.fz (q * 4 + 2)
      obtain ⟨d3, p3x⟩ := HT2.out.cell (q * 4 + 3) (by omega)
      have f3 := HT2.out.fz (q * 4 + 3)
      clear ho hnd hS hb2 Hcon HS HT HT2 Hx Ht Hn
      go_wp2
      go_roundw
      case rel => exact ⟨q + 1, by omega, by go_num, T1⟩
      case measure => simp [intOf]; omega
    · have e : q = n := by omega
      subst e
      obtain ⟨S, h1, h2, h3, h4⟩ := HT.out.done (by decide) Ht.out.2.2.2.1
      have HS : Hid (oS wr 4 q cs (.slice (some ⟨w.heap.size, 0, none⟩) q q) S ∧ S.Nodup ∧ (∀ s ∈ S, w.heap.size ≤ s) ∧ Below w.heap.size w wr) := ⟨h1, h2, h3, h4⟩
      clear h1 h2 h3 h4
      go_wp2
      go_ret
      exact ⟨_, S, rfl, HS.out⟩
end Go.Proofs.YtdnodaoeflbfkaaGreat
/- Data as cells: the helpers of the laws over Label. -/
namespace Go.Proofs.YtdnodaoeflbfkaaGreat
open Go.RowKit Go.BigFrame
set_option linter.unusedVariables false

set_option maxHeartbeats 800000 in
theorem uszLabel_any {lo hi : Nat} (d : UD) (xs : List Value) (left : Int) (w : World) (ht : tyL d (uE 4)) (hx : uH w lo hi d xs) (h0 : 0 ≤ left) (h1 : left ≤ 1048576) :
    Calls Tryz.prog 193 #[.agg xs.toArray, .int .i64 left] w fun e w' => e = .returned (.int .i64 (leftI left (wt d))) ∧ Below w.heap.size w w' := by
  obtain ⟨z0, z1, rfl, g0, g1⟩ := partsLabel ht
  obtain ⟨_, rfl, ⟨_, rfl, rfl⟩⟩ := hx
  have E : Hid (leftI left (wt (.p (.string z0) (.p (.string z1) .nil))) = leftI left (z0.size + (z1.size + 0))) := by show _ = _; congr 1 <;> (simp only [wt, wtP] <;> omega)
  generalize leftI left (wt (.p (.string z0) (.p (.string z1) .nil))) = R at *
  have HA : Hid (∀ o, Below w.heap.size w (w.alloc o)) := fun o => (Below.refl _ _).alloc (Nat.le_refl _) _
  unfold maxLen at g0
  unfold maxLen at g1
  by_cases k0 : left - (z0.size : Int) < 0
  · have EN : Hid (R = -1) := by show _ = _; rw [E.out]; exact leftI_neg _ (by omega) (by unfold leftI; split <;> omega)
    clear E
    go_enter Tryz.func193, Tryz.ntmps193
    go_wp2
    go_ret
    exact ⟨ret_intU EN.out.symm, HA.out _⟩
  replace E : Hid (R = leftI (left - (z0.size : Int)) (z1.size + 0)) := by
    obtain ⟨q1, q2, q3⟩ := leftI_pos (x := left) (a := z0.size) (z1.size + 0) (by unfold leftI; split <;> omega)
    show _ = _; rw [E.out, q1, q2]
  by_cases k1 : (left - (z0.size : Int)) - (z1.size : Int) < 0
  · have EN : Hid (R = -1) := by show _ = _; rw [E.out]; exact leftI_neg _ (by omega) (by unfold leftI; split <;> omega)
    clear E
    go_enter Tryz.func193, Tryz.ntmps193
    go_wp2
    go_ret
    exact ⟨ret_intU EN.out.symm, HA.out _⟩
  replace E : Hid (R = leftI ((left - (z0.size : Int)) - (z1.size : Int)) (0)) := by
    obtain ⟨q1, q2, q3⟩ := leftI_pos (x := (left - (z0.size : Int))) (a := z1.size) (0) (by unfold leftI; split <;> omega)
    show _ = _; rw [E.out, q1, q2]
  replace E : Hid (R = ((left - (z0.size : Int)) - (z1.size : Int))) := E.out.trans (leftI_zero (by omega))
  go_enter Tryz.func193, Tryz.ntmps193
  go_wp2
  go_ret
  exact ⟨ret_intU E.out.symm, HA.out _⟩
set_option maxHeartbeats 800000 in
set_option maxRecDepth 20000 in
theorem uszLabelS_any {lo hi : Nat} (n : Nat) (cs : UD) (c : Value) (left : Int) (w : World) (ht : tyS 2 n cs 4) (h0 : 0 ≤ left) (h1 : left ≤ 1048576) (hx : uS w lo hi 2 n cs c) :
    Calls Tryz.prog 136 #[c, .int .i64 left] w fun e w' => e = .returned (.int .i64 (leftI left (n + wt cs))) ∧ Below w.heap.size w w' := by
  obtain ⟨a, cap, rfl, hx2⟩ := hx
  have Hx : Hid (uS w lo hi 2 n cs (.slice a n cap)) := ⟨a, cap, rfl, hx2⟩
  have hmx := ht.2.2.1
  unfold maxLen at hmx
  have Ht := uhide ht
  clear hx2 ht
  by_cases c1 : left - (n : Int) < 0
  · have E : Hid (leftI left (n + wt cs) = -1) := by show _ = _; unfold leftI; rw [if_pos (by omega)]
    go_enter Tryz.func136, Tryz.ntmps136
    go_wp2
    go_ret
    exact ⟨ret_intU E.out.symm, Below.refl _ _⟩
  have E : Hid (leftI left (n + wt cs) = leftI (left - n) (wt (cs.dropN (0 * 2)))) := by
    show _ = _
    obtain ⟨g1, g2, g3⟩ := leftI_pos (x := left) (a := n) (wt cs) (by unfold leftI; split <;> omega)
    rw [g1, g2, Nat.zero_mul, UD.dropN_zero]
  go_enter Tryz.func136, Tryz.ntmps136
  go_wp2
  go_loopw [1, 5] (fun l i wr => ∃ (q : Nat) (x : Int), q ≤ n ∧ i = .int .i64 q ∧ l = .int .i64 x ∧ 0 ≤ x ∧ x ≤ 1048576 ∧ Hid (leftI left (n + wt cs) = leftI x (wt (cs.dropN (q * 2)))) ∧ Below w.heap.size w wr) (fun _ i _ => n - (intOf i).toNat)
  case atStart => exact ⟨0, _, Nat.zero_le _, rfl, rfl, by omega, by omega, E, Below.refl _ _⟩
  case round =>
    obtain ⟨q, x, hq, rfl, rfl, hx0, hx1, Hs, hbw⟩ := hrel
    by_cases hlt : q < n
    · obtain ⟨b, off, rfl, hbb, hm⟩ := (Hx.out.below hbw).cells (by omega)
      have htr := Ht.out.row hlt
      have hr := hm.row 2 q
      have hw : wt (cs.dropN (q * 2)) = wt (rowU cs 2 q) + wt (cs.dropN ((q + 1) * 2)) := by rw [UD.drop_row cs 2 q, wt_app]
      have hsz := uszD_row cs 2 q
      obtain ⟨xs, hh, hcl⟩ := hr.hand
      have Hcon : Hid (∀ wx, Below wr.heap.size wr wx → Calls Tryz.prog 193 #[.agg xs.toArray, .int .i64 x] wx fun e w' => e = .returned (.int .i64 (leftI x (wt (rowU cs 2 q)))) ∧ Below wx.heap.size wx w') := fun wx hb => uszLabel_any (lo := lo) (hi := hi) _ _ x wx htr (hh.below hb) hx0 hx1
      obtain ⟨z0, z1, hR, g0, g1⟩ := partsLabel htr
      rw [hR] at hh
      obtain ⟨_, rfl, ⟨_, rfl, rfl⟩⟩ := hh
      have q0 : wr.cell? ⟨b, off + q * 2, none⟩ = some (.string z0) := hcl 0 _ rfl
      have q1 : wr.cell? ⟨b, off + q * 2 + 1, none⟩ = some (.string z1) := hcl 1 _ rfl
      clear hR hcl hr hm htr hsz g0 g1
      generalize wt (rowU cs 2 q) = m at *
      have hneg0 := fun h => leftI_neg (x := x) (a := m) (wt (cs.dropN ((q + 1) * 2))) hx0 h
      have hpos0 := fun h => leftI_pos (x := x) (a := m) (wt (cs.dropN ((q + 1) * 2))) h
      have hle0 : leftI x m ≤ x := by unfold leftI; split <;> omega
      generalize leftI x m = y at *
      by_cases hneg : y < 0
      · have hr : Hid (leftI left (n + wt cs) = -1) := by show _ = _; rw [Hs.out, hw]; exact hneg0 hneg
        clear hw Hs E hneg0 hpos0
        go_wp2_with fail
        refine (Hcon.out _ (by repeat (first | exact Below.refl _ _ | refine Below.alloc ?_ (by simp) _))).mono ?_
        rintro e w1 ⟨rfl, hb⟩
        go_wp2
        go_ret
        exact ⟨ret_intU hr.out.symm, hbw.trans (hb.mono hbw.size)⟩
      · have hr : Hid (leftI left (n + wt cs) = leftI y (wt (cs.dropN ((q + 1) * 2)))) := by
          show _ = _
          rw [Hs.out, hw]; exact (hpos0 hneg).1
        clear hw Hs E hneg0 hpos0
        go_wp2_with fail
        refine (Hcon.out _ (by repeat (first | exact Below.refl _ _ | refine Below.alloc ?_ (by simp) _))).mono ?_
        rintro e w1 ⟨rfl, hb⟩
        go_wp2
        go_roundw
        case rel => exact ⟨q + 1, _, by omega, by go_num, rfl, by omega, by omega, hr, hbw.trans (hb.mono hbw.size)⟩
        case measure => simp [intOf]; omega
    · have e : q = n := by omega
      subst e
      have hr : Hid (leftI left (q + wt cs) = x) := by
        show _ = _
        rw [Hs.out, ← Ht.out.2.2.2.1, UD.dropN_all]
        exact leftI_zero hx0
      clear Hs E
      go_wp2
      go_ret
      exact ⟨ret_intU hr.out.symm, hbw⟩
set_option maxHeartbeats 800000 in
theorem ueqLabel_any {lo hi lo' hi' : Nat} (d : UD) (xs ys : List Value) (w : World) (ht : tyL d (uE 4)) (hx : uH w lo hi d xs) (hy : uH w lo' hi' d ys) :
    Calls Tryz.prog 211 #[.agg xs.toArray, .agg ys.toArray] w fun e w' => e = .returned (.bool true) ∧ Below w.heap.size w w' := by
  obtain ⟨z0, z1, rfl, g0, g1⟩ := partsLabel ht
  obtain ⟨_, rfl, ⟨_, rfl, rfl⟩⟩ := hx
  obtain ⟨_, rfl, ⟨_, rfl, rfl⟩⟩ := hy
  have e0 : (z0.toList == z0.toList) = true := by simp
  have e1 : (z1.toList == z1.toList) = true := by simp
  have HB : Hid (∀ o o', Below w.heap.size w ((w.alloc o).alloc o')) := fun o o' => ((Below.refl _ _).alloc (Nat.le_refl _) _).alloc (by simp) _
  clear g0 g1
  go_enter Tryz.func211, Tryz.ntmps211
  go_wp2
  go_ret
  exact ⟨rfl, HB.out _ _⟩
set_option maxHeartbeats 800000 in
theorem ueqLabelS_any {lo hi lo' hi' : Nat} (n : Nat) (cs : UD) (c c' : Value) (w : World) (ht : tyS 2 n cs 4) (hx : uS w lo hi 2 n cs c) (hy : uS w lo' hi' 2 n cs c') :
    Calls Tryz.prog 162 #[c, c'] w fun e w' => e = .returned (.bool true) ∧ Below w.heap.size w w' := by
  obtain ⟨a, cap, rfl, hx2⟩ := hx
  obtain ⟨a', cap', rfl, hy2⟩ := hy
  have Hx : Hid (uS w lo hi 2 n cs (.slice a n cap)) := ⟨a, cap, rfl, hx2⟩
  have Hy : Hid (uS w lo' hi' 2 n cs (.slice a' n cap')) := ⟨a', cap', rfl, hy2⟩
  have hmx := ht.2.2.1
  unfold maxLen at hmx
  have Ht := uhide ht
  have hb0 : ((n : Int) != (n : Int)) = false := by simp
  clear hx2 hy2 ht
  go_enter Tryz.func162, Tryz.ntmps162
  go_wp2
  go_loopw [5] (fun i wr => ∃ (q : Nat), q ≤ n ∧ i = .int .i64 q ∧ Below w.heap.size w wr) (fun i _ => n - (intOf i).toNat)
  case atStart => exact ⟨0, Nat.zero_le _, rfl, Below.refl _ _⟩
  case round =>
    obtain ⟨q, hq, rfl, hbw⟩ := hrel
    by_cases hlt : q < n
    · obtain ⟨b, off, rfl, hbb, hm⟩ := (Hx.out.below hbw).cells (by omega)
      obtain ⟨b', off', rfl, hbb', hm'⟩ := (Hy.out.below hbw).cells (by omega)
      have htr := Ht.out.row hlt
      have hsz := uszD_row cs 2 q
      obtain ⟨xs, hh, hcl⟩ := (hm.row 2 q).hand
      obtain ⟨ys, hh', hcl'⟩ := (hm'.row 2 q).hand
      have Hcon : Hid (∀ wx, Below wr.heap.size wr wx → Calls Tryz.prog 211 #[.agg xs.toArray, .agg ys.toArray] wx fun e w' => e = .returned (.bool true) ∧ Hid (Below w.heap.size w w')) := fun wx hb => (ueqLabel_any (lo := lo) (hi := hi) (lo' := lo') (hi' := hi') _ _ _ wx htr (hh.below hb) (hh'.below hb)).mono fun e w' h => ⟨h.1, (hbw.trans (hb.mono hbw.size)).trans (h.2.mono (Nat.le_trans hbw.size hb.size))⟩
      obtain ⟨z0, z1, hR, g0, g1⟩ := partsLabel htr
      rw [hR] at hh hh'
      obtain ⟨_, rfl, ⟨_, rfl, rfl⟩⟩ := hh
      obtain ⟨_, rfl, ⟨_, rfl, rfl⟩⟩ := hh'
      have q0 : wr.cell? ⟨b, off + q * 2, none⟩ = some (.string z0) := hcl 0 _ rfl
      have q1 : wr.cell? ⟨b, off + q * 2 + 1, none⟩ = some (.string z1) := hcl 1 _ rfl
      have r0 : wr.cell? ⟨b', off' + q * 2, none⟩ = some (.string z0) := hcl' 0 _ rfl
      have r1 : wr.cell? ⟨b', off' + q * 2 + 1, none⟩ = some (.string z1) := hcl' 1 _ rfl
      clear hR hcl hcl' hm hm' htr hsz g0 g1
      clear Hx Hy Ht
      go_wp2
      go_region_with (go_at_call 211; refine (Hcon.out _ (by repeat (first | exact Below.refl _ _ | refine Below.drew ?_ | refine below_drewN ?_ _))).mono ?_; rintro e w2 ⟨rfl, hb2⟩)
      all_goals go_wp2
      all_goals (
        go_roundw
        case rel => exact ⟨q + 1, by omega, by go_num, by repeat (first | exact hb2.out | refine Below.drew ?_ | refine below_drewN ?_ _)⟩
        case measure => simp [intOf]; omega)
    · have e : q = n := by omega
      subst e
      go_wp2
      go_ret
      exact ⟨rfl, hbw⟩
set_option maxHeartbeats 1600000 in
theorem umarkLabelS_any (n k0 : Nat) (cs : UD) (c : Value) (S : List Nat) (w : World) (ht : tyS 2 n cs 4) (hnd : S.Nodup) (hk0 : 1 ≤ k0) (hk1 : k0 + cnt cs ≤ 100000000) (hx : oS w 2 n cs c S) :
    Calls Tryz.prog 85 #[c, .int .i64 k0] w fun e w' => e = .returned (.int .i64 (k0 + cnt cs : Nat)) ∧ oS w' 2 n (mk cs k0) c S ∧ OutS S w w' := by
  obtain ⟨a, cap, rfl⟩ := hx.slice
  have hmx := ht.2.2.1
  unfold maxLen at hmx
  rcases Nat.eq_zero_or_pos n with h0 | hpos
  · subst h0
    obtain ⟨e1, e2⟩ := hx.empty rfl k0
    rw [e1, e2]
    have Hx := uhide hx
    clear hx ht hnd e1 e2
    go_enter Tryz.func85, Tryz.ntmps85
    go_wp2
    go_loopw [1, 5] (fun s i wr => i = .int .i64 0 ∧ s = .int .i64 k0 ∧ wr = w) (fun _ _ _ => 0)
    case atStart => exact ⟨rfl, rfl, rfl⟩
    case round =>
      obtain ⟨rfl, rfl, rfl⟩ := hrel
      go_wp2
      go_ret
      exact ⟨rfl, Hx.out, OutS.refl _ _⟩
  obtain ⟨e, g, S1, xs0, M0, rfl, hp0, hl0⟩ := MS.start hx hnd hpos k0
  obtain ⟨cap, h1, hgl⟩ := M0.own
  cases h1
  have M0 := uhide M0
  have Ht := uhide ht
  have Hp0 := uhide hp0
  have Hl0 := uhide hl0
  have Hkk : Hid (∀ q, k0 + cnt (cs.takeN (q * 2)) ≤ 100000000) := fun q => by have := cnt_le cs (q * 2); omega
  clear hx ht hnd hp0 hl0
  go_enter Tryz.func85, Tryz.ntmps85
  go_wp2
  go_loopw [1, 5] (fun s i wr => ∃ (q : Nat), q ≤ n ∧ i = .int .i64 q ∧ s = .int .i64 (k0 + cnt (cs.takeN (q * 2)) : Nat) ∧ Hid (MS w wr e 2 n (.slice (some ⟨g, 0, none⟩) n cap) g cs k0 S1 xs0 (q * 2))) (fun _ i _ => n - (intOf i).toNat)
  case atStart => exact ⟨0, Nat.zero_le _, rfl, by rw [Nat.zero_mul]; rfl, by rw [Nat.zero_mul]; exact M0⟩
  case round =>
    clear M0
    obtain ⟨q, hq, rfl, rfl, HM⟩ := hrel
    by_cases hlt : q < n
    · have htr := Ht.out.row hlt
      have hsz := uszD_row cs 2 q
      have hkn := cnt_row cs 2 q
      have hkb := Hkk.out (q + 1)
      obtain ⟨z0, z1, hR, g0, g1⟩ := partsLabel htr
      rw [hR] at hkn hsz
      simp only [cnt, Nat.add_zero] at hkn
      obtain ⟨kq, hkq⟩ : ∃ kq, k0 + cnt (cs.takeN (q * 2)) = kq := ⟨_, rfl⟩
      have hK0 : 1 ≤ kq := by omega
      have hend : k0 + cnt (cs.takeN ((q + 1) * 2)) = ((kq + 1) + 1) := by rw [hkn]; omega
      rw [hend] at hkb
      have at0 : cs.at? (q * 2) = some (.p (.string z0)) := by rw [show q * 2 = q * 2 + 0 from rfl]; rw [← rowU_at cs 2 q 0 (by omega), hR]; rfl
      have ct0 : k0 + cnt (cs.takeN (q * 2)) = kq := by exact hkq
      have x0 := Hp0.out _ _ at0
      have at1 : cs.at? (q * 2 + 1) = some (.p (.string z1)) := by rw [← rowU_at cs 2 q 1 (by omega), hR]; rfl
      have ct1 : k0 + cnt (cs.takeN (q * 2 + 1)) = (kq + 1) := by rw [cnt_at cs 2 q 1 (by omega), hR]; show k0 + (cnt (cs.takeN (q * 2)) + cnt (.p (.string z0) .nil)) = _; simp only [cnt]; omega
      have x1 := Hp0.out _ _ at1
      have HP0 : Hid (∀ (wx : World) (u : Value), MS w wx e 2 n (.slice (some ⟨g, 0, none⟩) n cap) g cs k0 S1 xs0 (q * 2) → u = .string (umtx kq) → MS w (wx.setCell ⟨g, q * 2, none⟩ u) e 2 n (.slice (some ⟨g, 0, none⟩) n cap) g cs k0 S1 xs0 (q * 2 + 1)) := fun wx u h hu => h.plain at0 (hu.trans (by rw [ct0]; rfl))
      have HT0 : Hid (∀ (wx : World) (x : Int), x = ((kq : Nat) : Int) → Calls Tryz.prog 84 #[.int .i64 x] wx fun e1 w' => e1 = .returned (.string (umtx kq)) ∧ Below wx.heap.size wx w') := fun wx x hx => by rw [hx]; exact umarkText_any _ wx (by omega) (by omega)
      have HP1 : Hid (∀ (wx : World) (u : Value), MS w wx e 2 n (.slice (some ⟨g, 0, none⟩) n cap) g cs k0 S1 xs0 (q * 2 + 1) → u = .string (umtx (kq + 1)) → MS w (wx.setCell ⟨g, q * 2 + 1, none⟩ u) e 2 n (.slice (some ⟨g, 0, none⟩) n cap) g cs k0 S1 xs0 (q * 2 + 2)) := fun wx u h hu => h.plain at1 (hu.trans (by rw [ct1]; rfl))
      have HT1 : Hid (∀ (wx : World) (x : Int), x = (((kq + 1) : Nat) : Int) → Calls Tryz.prog 84 #[.int .i64 x] wx fun e1 w' => e1 = .returned (.string (umtx (kq + 1))) ∧ Below wx.heap.size wx w') := fun wx x hx => by rw [hx]; exact umarkText_any _ wx (by omega) (by omega)
      have HQ0 : Hid (∀ wx, MS w wx e 2 n (.slice (some ⟨g, 0, none⟩) n cap) g cs k0 S1 xs0 (q * 2) → wx.cell? ⟨g, q * 2, none⟩ = some (.string z0) ∧ wx.frozen? ⟨g, q * 2, none⟩ = false ∧ wx.cell? ⟨g, q * 2 + 1, none⟩ = some (.string z1) ∧ wx.frozen? ⟨g, q * 2 + 1, none⟩ = false) := fun wx h => ⟨h.cellAt _ _ (by omega) x0 (by omega), h.fz _, h.cellAt _ _ (by omega) x1 (by omega), h.fz _⟩
      have HQ1 : Hid (∀ wx, MS w wx e 2 n (.slice (some ⟨g, 0, none⟩) n cap) g cs k0 S1 xs0 (q * 2 + 1) → wx.cell? ⟨g, q * 2 + 1, none⟩ = some (.string z1) ∧ wx.frozen? ⟨g, q * 2 + 1, none⟩ = false) := fun wx h => ⟨h.cellAt _ _ (by omega) x1 (by omega), h.fz _⟩
      have HN : Hid (∀ wx, MS w wx e 2 n (.slice (some ⟨g, 0, none⟩) n cap) g cs k0 S1 xs0 (q * 2 + 2) → MS w wx e 2 n (.slice (some ⟨g, 0, none⟩) n cap) g cs k0 S1 xs0 ((q + 1) * 2)) := fun wx h => by rw [show q * 2 + 2 = (q + 1) * 2 by omega] at h; exact h
      have HE := uhide hend
      rw [hkq]
      clear hR htr hsz hkn hend hkq Ht Hkk Hp0 Hl0 g0 g1 at0 at1 ct0 ct1 x0 x1
      generalize umtx kq = M0 at *
      generalize umtx (kq + 1) = M1 at *
      obtain ⟨q0, f0, q1, f1⟩ := HQ0.out _ HM.out
      go_wp2_with fail
      refine (HT0.out _ _ (by omega)).mono ?_
      rintro e1 w1 ⟨rfl, hb1⟩
      have I1 : Hid (MS w w1 e 2 n (.slice (some ⟨g, 0, none⟩) n cap) g cs k0 S1 xs0 (q * 2)) := MS.below HM.out hb1
      clear hb1 q0 f0 q1 f1
      obtain ⟨q0, f0, q1, f1⟩ := HQ0.out _ I1.out
      go_wp2_with fail
      refine (HT1.out _ _ (by omega)).mono ?_
      rintro e1 w2 ⟨rfl, hb2⟩
      have I2 : Hid (MS w w2 e 2 n (.slice (some ⟨g, 0, none⟩) n cap) g cs k0 S1 xs0 (q * 2 + 1)) := MS.below (HP0.out _ _ I1.out rfl) hb2
      clear hb2 q0 f0 q1 f1
      obtain ⟨q1, f1⟩ := HQ1.out _ I2.out
      go_wp2
      go_roundw
      case rel => exact ⟨q + 1, by omega, by go_num, by rw [HE.out]; go_num, HN.out _ (HP1.out _ _ I2.out rfl)⟩
      case measure => (simp [intOf]; omega)
    · have e : q = n := by omega
      subst e
      obtain ⟨h1, h2⟩ := HM.out.done (by decide)
      have HD := uhide (And.intro h1 h2)
      have hl : cs.takeN (q * 2) = cs := by apply UD.ext; unfold UD.takeN; rw [UD.toL_ofL]; exact List.take_of_length_le (Nat.le_of_eq Ht.out.2.2.2.1)
      rw [hl]
      clear h1 h2 hl HM Ht Hp0 Hl0 Hkk
      go_wp2
      go_ret
      exact ⟨rfl, HD.out⟩
set_option maxHeartbeats 1600000 in
theorem utoLabel_any {lo hi : Nat} (d : UD) (xs : List Value) (w : World) (ht : tyL d (uE 4)) (hn : wt d ≤ 1048576) (hx : uH w lo hi d xs) :
    Calls Tryz.prog 197 #[.agg xs.toArray] w fun e w' => ∃ ys S, e = .returned (.agg ys.toArray) ∧ oH w' d ys S ∧ S.Nodup ∧ (∀ s ∈ S, w.heap.size ≤ s) ∧ Below w.heap.size w w' := by
  obtain ⟨z0, z1, rfl, g0, g1⟩ := partsLabel ht
  obtain ⟨_, rfl, ⟨_, rfl, rfl⟩⟩ := hx
  simp only [wt, wtP] at hn
  have HA : Hid (∀ o1 o2 o3, Below w.heap.size w (((w.alloc o1).alloc o2).alloc o3)) := fun o1 o2 o3 => (((Below.refl _ _).alloc (Nat.le_refl _) _).alloc (by simp) _).alloc (by simp; omega) _
  clear hn ht g0 g1
  go_enter Tryz.func197, Tryz.ntmps197
  go_wp2
  refine bodyPost_ret (v := .agg #[.string z0, .string z1]) ?_ rfl ⟨_, [], rfl, ?_, List.nodup_nil, fun s hs => (by cases hs), ?_⟩
  · simp [results, Tryz.results197, go_sem]
  · exact oH.consP _ (oH.consP _ (oH.nil _))
  · repeat (first | with_reducible exact HA.out _ _ _ | with_reducible refine Below.setCell ?_ (by simp <;> omega) _)
theorem Tryz.infoULabel : (Tryz.prog.info? 210).map (fun i => (i.zero, i.size, decide (i.bytes ≤ 1000))) = some (some (.agg #[.string ByteArray.empty, .string ByteArray.empty]), 2, true) := by kernel_rfl
set_option maxHeartbeats 1600000 in
theorem utoLabelS_any {lo hi : Nat} (n : Nat) (cs : UD) (c : Value) (w : World) (ht : tyS 2 n cs 4) (hn : n + wt cs ≤ 1048576) (hx : uS w lo hi 2 n cs c) :
    Calls Tryz.prog 145 #[c] w fun e w' => ∃ c' S, e = .returned c' ∧ oS w' 2 n cs c' S ∧ S.Nodup ∧ (∀ s ∈ S, w.heap.size ≤ s) ∧ Below w.heap.size w w' := by
  obtain ⟨i0, hinf, hz0, hz1, hz2⟩ : ∃ i, Tryz.prog.info? 210 = some i ∧ i.zero = some (.agg #[.string ByteArray.empty, .string ByteArray.empty]) ∧ i.size = 2 ∧ i.bytes ≤ 1000 := by
    have h := Tryz.infoULabel
    cases e : Tryz.prog.info? 210 with
    | none => rw [e] at h; cases h
    | some i => rw [e] at h; simp at h; exact ⟨i, rfl, h.1, h.2.1, h.2.2⟩
  obtain ⟨a, cap, rfl, hx2⟩ := hx
  have Hx : Hid (uS w lo hi 2 n cs (.slice a n cap)) := ⟨a, cap, rfl, hx2⟩
  have Ht := uhide ht
  have Hn : Hid (∀ q, q < n → wt (rowU cs 2 q) ≤ 1048576) := fun q hq => by have := wt_row cs 2 q; omega
  have hnn : n ≤ 1048576 := by omega
  have hbb : i0.bytes * n ≤ 281474976710656 := Nat.le_trans (Nat.mul_le_mul hz2 hnn) (by decide)
  clear hx2 ht hn
  go_enter Tryz.func145, Tryz.ntmps145
  go_wp2_with (at_make; refine wpList_make_full _ rfl _ _ 109 rfl w.heap.size 210 i0 _ 2 Tryz.underlying109 hinf hz0 hz1 _ _ _ _ n rfl rfl rfl rfl hbb (by unfold maxLen; omega) (Nat.le_refl _) ?_; intro w1 hown hgrow)
  have T0 := uhide (TS.start (cs := cs) hown (Below.grown (Below.refl _ _) hgrow (Nat.le_refl _) (fun k hk => by cases hk)))
  clear hown hgrow
  go_loopw [4] (fun i wr => ∃ (q : Nat), q ≤ n ∧ i = .int .i64 q ∧ Hid (TS w wr 210 2 n cs q)) (fun i _ => n - (intOf i).toNat)
  case atStart => exact ⟨0, Nat.zero_le _, rfl, T0⟩
  case round =>
    clear T0
    obtain ⟨q, hq, rfl, HT⟩ := hrel
    by_cases hlt : q < n
    · obtain ⟨b, off, rfl, hbk, hm⟩ := (Hx.out.below HT.out.bel).cells (by omega)
      have htr := Ht.out.row hlt
      have hwr := Hn.out q hlt
      have hsz := uszD_row cs 2 q
      obtain ⟨xs, hh, hcl⟩ := (hm.row 2 q).hand
      have Hcon : Hid (∀ wx, Below wr.heap.size wr wx → Calls Tryz.prog 197 #[.agg xs.toArray] wx fun e w' => ∃ ys S, e = .returned (.agg ys.toArray) ∧ oH w' (rowU cs 2 q) ys S ∧ S.Nodup ∧ (∀ s ∈ S, wx.heap.size ≤ s) ∧ Below wx.heap.size wx w') := fun wx hb => utoLabel_any (lo := lo) (hi := hi) _ _ wx htr hwr (hh.below hb)
      obtain ⟨z0, z1, hR, g0, g1⟩ := partsLabel htr
      rw [hR] at hh
      obtain ⟨_, rfl, ⟨_, rfl, rfl⟩⟩ := hh
      have q0 : wr.cell? ⟨b, off + q * 2, none⟩ = some (.string z0) := hcl 0 _ rfl
      have q1 : wr.cell? ⟨b, off + q * 2 + 1, none⟩ = some (.string z1) := hcl 1 _ rfl
      have HR := uhide hR
      have HS : Hid (∀ (w2 : World) ys S, oH w2 (rowU cs 2 q) ys S → ys = [.string z0, .string z1]) := by
        intro w2 ys S h
        rw [HR.out] at h
        obtain ⟨_, rfl, ⟨_, rfl, ⟨rfl, _⟩⟩⟩ := h
        exact rfl
      have hKn : q * 2 + 2 ≤ n * 2 := by have := Nat.mul_le_mul_right 2 (show q + 1 ≤ n by omega); rw [Nat.succ_mul] at this; exact this
      clear hR hcl hm htr hsz hwr HR g0 g1
      go_wp2_with fail
      refine (Hcon.out _ (by repeat (first | exact Below.refl _ _ | refine Below.alloc ?_ (by simp) _))).mono ?_
      rintro e w2 ⟨ys, S, rfl, ho, hnd, hS, hb2⟩
      obtain rfl := HS.out _ _ _ ho
      have HT2 := uhide (HT.out.below hb2)
      have T1 := uhide (HT.out.step hb2 ho hnd hS Ht.out.2.2.2.1 hlt)
      obtain ⟨d0, p0x⟩ := HT2.out.cell (q * 2) (by omega)
      have f0 := HT2.out.fz (q * 2)
      obtain ⟨d1, p1x⟩ := HT2.out.cell (q * 2 + 1) (by omega)
      have f1 := HT2.out.fz (q * 2 + 1)
      clear ho hnd hS hb2 Hcon HS HT HT2 Hx Ht Hn
      go_wp2
      go_roundw
      case rel => exact ⟨q + 1, by omega, by go_num, T1⟩
      case measure => simp [intOf]; omega
    · have e : q = n := by omega
      subst e
      obtain ⟨S, h1, h2, h3, h4⟩ := HT.out.done (by decide) Ht.out.2.2.2.1
      have HS : Hid (oS wr 2 q cs (.slice (some ⟨w.heap.size, 0, none⟩) q q) S ∧ S.Nodup ∧ (∀ s ∈ S, w.heap.size ≤ s) ∧ Below w.heap.size w wr) := ⟨h1, h2, h3, h4⟩
      clear h1 h2 h3 h4
      go_wp2
      go_ret
      exact ⟨_, S, rfl, HS.out⟩
end Go.Proofs.YtdnodaoeflbfkaaGreat
/- Data as cells: the helpers of the laws over Island. -/
namespace Go.Proofs.YtdnodaoeflbfkaaGreat
open Go.RowKit Go.BigFrame
set_option linter.unusedVariables false

set_option maxRecDepth 20000 in
set_option maxHeartbeats 800000 in
theorem uszIsland_any {lo hi : Nat} (d : UD) (xs : List Value) (left : Int) (w : World) (ht : tyL d (uE 14)) (hx : uH w lo hi d xs) (h0 : 0 ≤ left) (h1 : left ≤ 1048576) :
    Calls Tryz.prog 64 #[.agg xs.toArray, .int .i64 left] w fun e w' => e = .returned (.int .i64 (leftI left (wt d))) ∧ Below w.heap.size w w' := by
  obtain ⟨z0, n1, c1, n2, c2, z3, rfl, g0, g1, g2, g3⟩ := partsIsland ht
  obtain ⟨_, rfl, ⟨v1, _, rfl, s1, ⟨v2, _, rfl, s2, ⟨_, rfl, rfl⟩⟩⟩⟩ := hx
  obtain ⟨a1, p1, rfl, t1⟩ := s1
  obtain ⟨a2, p2, rfl, t2⟩ := s2
  obtain ⟨M1, hM1⟩ : ∃ M, M = (n1 + wt c1) := ⟨_, rfl⟩
  have HC1 : Hid (∀ (wx : World) (l : Int), Below w.heap.size w wx → 0 ≤ l → l ≤ 1048576 → Calls Tryz.prog 136 #[.slice a1 n1 p1, .int .i64 l] wx fun e w' => e = .returned (.int .i64 (leftI l M1)) ∧ Below wx.heap.size wx w') := fun wx l hb q0 q1 => hM1 ▸ uszLabelS_any (lo := lo) (hi := hi) n1 c1 _ l wx g1 q0 q1 ((show uS w lo hi 2 n1 c1 (.slice a1 n1 p1) from ⟨_, _, rfl, t1⟩).below hb)
  obtain ⟨M2, hM2⟩ : ∃ M, M = (n2 + wt c2) := ⟨_, rfl⟩
  have HC2 : Hid (∀ (wx : World) (l : Int), Below w.heap.size w wx → 0 ≤ l → l ≤ 1048576 → Calls Tryz.prog 48 #[.slice a2 n2 p2, .int .i64 l] wx fun e w' => e = .returned (.int .i64 (leftI l M2)) ∧ Below wx.heap.size wx w') := fun wx l hb q0 q1 => hM2 ▸ uszStringS_any (lo := lo) (hi := hi) n2 c2 _ l wx g2 q0 q1 ((show uS w lo hi 1 n2 c2 (.slice a2 n2 p2) from ⟨_, _, rfl, t2⟩).below hb)
  have E : Hid (leftI left (wt (.p (.string z0) (.l 2 n1 c1 (.l 1 n2 c2 (.p (.int .i64 z3) .nil))))) = leftI left (z0.size + (M1 + (M2 + 0)))) := by show _ = _; congr 1 <;> (simp only [wt, wtP, hM1, hM2] <;> omega)
  generalize leftI left (wt (.p (.string z0) (.l 2 n1 c1 (.l 1 n2 c2 (.p (.int .i64 z3) .nil))))) = R at *
  have HA : Hid (∀ o, Below w.heap.size w (w.alloc o)) := fun o => (Below.refl _ _).alloc (Nat.le_refl _) _
  unfold maxLen at g0
  clear t1 t2 hM1 hM2 g1 g2
  by_cases k0 : left - (z0.size : Int) < 0
  · have EN : Hid (R = -1) := by show _ = _; rw [E.out]; exact leftI_neg _ (by omega) (by unfold leftI; split <;> omega)
    clear E
    go_enter Tryz.func64, Tryz.ntmps64
    go_wp2
    go_ret
    exact ⟨ret_intU EN.out.symm, HA.out _⟩
  replace E : Hid (R = leftI (left - (z0.size : Int)) (M1 + (M2 + 0))) := by
    obtain ⟨q1, q2, q3⟩ := leftI_pos (x := left) (a := z0.size) (M1 + (M2 + 0)) (by unfold leftI; split <;> omega)
    show _ = _; rw [E.out, q1, q2]
  obtain ⟨y1, hy1⟩ : ∃ y, y = leftI (left - (z0.size : Int)) M1 := ⟨_, rfl⟩
  have Y1 := uhide hy1
  by_cases k1 : y1 < 0
  · have EN : Hid (R = -1) := by show _ = _; rw [E.out]; exact leftI_neg _ (by omega) (by rw [← hy1]; exact k1)
    clear E hy1
    go_enter Tryz.func64, Tryz.ntmps64
    go_wp2_with fail
    refine (HC1.out _ _ (HA.out _) (by omega) (by omega)).mono ?_
    rintro e w1 ⟨rfl, hb1⟩
    have B1 : Hid (Below w.heap.size w w1) := (HA.out _).trans (hb1.mono (by simp))
    clear hb1
    rw [show leftI (left - (z0.size : Int)) M1 = y1 from Y1.out.symm]
    go_wp2
    go_ret
    exact ⟨ret_intU EN.out.symm, B1.out⟩
  replace E : Hid (R = leftI y1 (M2 + 0)) := by
    obtain ⟨q1, q2, q3⟩ := leftI_pos (x := (left - (z0.size : Int))) (a := M1) (M2 + 0) (by rw [← hy1]; exact k1)
    show _ = _; rw [E.out, q1, ← hy1]
  have u1 : y1 ≤ (left - (z0.size : Int)) := by rw [hy1]; unfold leftI; split <;> omega
  clear hy1
  obtain ⟨y2, hy2⟩ : ∃ y, y = leftI y1 M2 := ⟨_, rfl⟩
  have Y2 := uhide hy2
  by_cases k2 : y2 < 0
  · have EN : Hid (R = -1) := by show _ = _; rw [E.out]; exact leftI_neg _ (by omega) (by rw [← hy2]; exact k2)
    clear E hy2
    go_enter Tryz.func64, Tryz.ntmps64
    go_wp2_with fail
    refine (HC1.out _ _ (HA.out _) (by omega) (by omega)).mono ?_
    rintro e w1 ⟨rfl, hb1⟩
    have b2 : w1.cell? ⟨w.heap.size, 2, none⟩ = some (.slice a2 n2 p2) := (hb1.cell (p := ⟨w.heap.size, 2, none⟩) (by simp <;> omega)).trans (by simp [go_sem])
    have B1 : Hid (Below w.heap.size w w1) := (HA.out _).trans (hb1.mono (by simp))
    clear hb1
    rw [show leftI (left - (z0.size : Int)) M1 = y1 from Y1.out.symm]
    go_wp2_with fail
    refine (HC2.out _ _ (by repeat (first | assumption | exact HA.out _ | exact B1.out)) (by omega) (by omega)).mono ?_
    rintro e w2 ⟨rfl, hb2⟩
    have B2 : Hid (Below w.heap.size w w2) := B1.out.trans (hb2.mono B1.out.size)
    clear hb2
    rw [show leftI y1 M2 = y2 from Y2.out.symm]
    go_wp2
    go_ret
    exact ⟨ret_intU EN.out.symm, B2.out⟩
  replace E : Hid (R = leftI y2 (0)) := by
    obtain ⟨q1, q2, q3⟩ := leftI_pos (x := y1) (a := M2) (0) (by rw [← hy2]; exact k2)
    show _ = _; rw [E.out, q1, ← hy2]
  have u2 : y2 ≤ y1 := by rw [hy2]; unfold leftI; split <;> omega
  clear hy2
  replace E : Hid (R = y2) := E.out.trans (leftI_zero (by omega))
  go_enter Tryz.func64, Tryz.ntmps64
  go_wp2_with fail
  refine (HC1.out _ _ (HA.out _) (by omega) (by omega)).mono ?_
  rintro e w1 ⟨rfl, hb1⟩
  have b2 : w1.cell? ⟨w.heap.size, 2, none⟩ = some (.slice a2 n2 p2) := (hb1.cell (p := ⟨w.heap.size, 2, none⟩) (by simp <;> omega)).trans (by simp [go_sem])
  have B1 : Hid (Below w.heap.size w w1) := (HA.out _).trans (hb1.mono (by simp))
  clear hb1
  rw [show leftI (left - (z0.size : Int)) M1 = y1 from Y1.out.symm]
  go_wp2_with fail
  refine (HC2.out _ _ (by repeat (first | assumption | exact HA.out _ | exact B1.out)) (by omega) (by omega)).mono ?_
  rintro e w2 ⟨rfl, hb2⟩
  have B2 : Hid (Below w.heap.size w w2) := B1.out.trans (hb2.mono B1.out.size)
  clear hb2
  rw [show leftI y1 M2 = y2 from Y2.out.symm]
  go_wp2
  go_ret
  exact ⟨ret_intU E.out.symm, B2.out⟩
set_option maxRecDepth 20000 in
set_option maxHeartbeats 800000 in
set_option maxRecDepth 20000 in
theorem uszIslandS_any {lo hi : Nat} (n : Nat) (cs : UD) (c : Value) (left : Int) (w : World) (ht : tyS 4 n cs 14) (h0 : 0 ≤ left) (h1 : left ≤ 1048576) (hx : uS w lo hi 4 n cs c) :
    Calls Tryz.prog 11 #[c, .int .i64 left] w fun e w' => e = .returned (.int .i64 (leftI left (n + wt cs))) ∧ Below w.heap.size w w' := by
  obtain ⟨a, cap, rfl, hx2⟩ := hx
  have Hx : Hid (uS w lo hi 4 n cs (.slice a n cap)) := ⟨a, cap, rfl, hx2⟩
  have hmx := ht.2.2.1
  unfold maxLen at hmx
  have Ht := uhide ht
  clear hx2 ht
  by_cases c1 : left - (n : Int) < 0
  · have E : Hid (leftI left (n + wt cs) = -1) := by show _ = _; unfold leftI; rw [if_pos (by omega)]
    go_enter Tryz.func11, Tryz.ntmps11
    go_wp2
    go_ret
    exact ⟨ret_intU E.out.symm, Below.refl _ _⟩
  have E : Hid (leftI left (n + wt cs) = leftI (left - n) (wt (cs.dropN (0 * 4)))) := by
    show _ = _
    obtain ⟨g1, g2, g3⟩ := leftI_pos (x := left) (a := n) (wt cs) (by unfold leftI; split <;> omega)
    rw [g1, g2, Nat.zero_mul, UD.dropN_zero]
  go_enter Tryz.func11, Tryz.ntmps11
  go_wp2
  go_loopw [1, 5] (fun l i wr => ∃ (q : Nat) (x : Int), q ≤ n ∧ i = .int .i64 q ∧ l = .int .i64 x ∧ 0 ≤ x ∧ x ≤ 1048576 ∧ Hid (leftI left (n + wt cs) = leftI x (wt (cs.dropN (q * 4)))) ∧ Below w.heap.size w wr) (fun _ i _ => n - (intOf i).toNat)
  case atStart => exact ⟨0, _, Nat.zero_le _, rfl, rfl, by omega, by omega, E, Below.refl _ _⟩
  case round =>
    obtain ⟨q, x, hq, rfl, rfl, hx0, hx1, Hs, hbw⟩ := hrel
    by_cases hlt : q < n
    · obtain ⟨b, off, rfl, hbb, hm⟩ := (Hx.out.below hbw).cells (by omega)
      have htr := Ht.out.row hlt
      have hr := hm.row 4 q
      have hw : wt (cs.dropN (q * 4)) = wt (rowU cs 4 q) + wt (cs.dropN ((q + 1) * 4)) := by rw [UD.drop_row cs 4 q, wt_app]
      have hsz := uszD_row cs 4 q
      obtain ⟨xs, hh, hcl⟩ := hr.hand
      have Hcon : Hid (∀ wx, Below wr.heap.size wr wx → Calls Tryz.prog 64 #[.agg xs.toArray, .int .i64 x] wx fun e w' => e = .returned (.int .i64 (leftI x (wt (rowU cs 4 q)))) ∧ Below wx.heap.size wx w') := fun wx hb => uszIsland_any (lo := lo) (hi := hi) _ _ x wx htr (hh.below hb) hx0 hx1
      obtain ⟨z0, n1, c1, n2, c2, z3, hR, g0, g1, g2, g3⟩ := partsIsland htr
      rw [hR] at hh
      obtain ⟨_, rfl, ⟨v1, _, rfl, s1, ⟨v2, _, rfl, s2, ⟨_, rfl, rfl⟩⟩⟩⟩ := hh
      obtain ⟨a1, p1, rfl, t1⟩ := s1
      obtain ⟨a2, p2, rfl, t2⟩ := s2
      have q0 : wr.cell? ⟨b, off + q * 4, none⟩ = some (.string z0) := hcl 0 _ rfl
      have q1 : wr.cell? ⟨b, off + q * 4 + 1, none⟩ = some (.slice a1 n1 p1) := hcl 1 _ rfl
      have q2 : wr.cell? ⟨b, off + q * 4 + 2, none⟩ = some (.slice a2 n2 p2) := hcl 2 _ rfl
      have q3 : wr.cell? ⟨b, off + q * 4 + 3, none⟩ = some (.int .i64 z3) := hcl 3 _ rfl
      clear hR hcl hr hm htr hsz g0 g1 g2 g3 t1 t2
      generalize wt (rowU cs 4 q) = m at *
      have hneg0 := fun h => leftI_neg (x := x) (a := m) (wt (cs.dropN ((q + 1) * 4))) hx0 h
      have hpos0 := fun h => leftI_pos (x := x) (a := m) (wt (cs.dropN ((q + 1) * 4))) h
      have hle0 : leftI x m ≤ x := by unfold leftI; split <;> omega
      generalize leftI x m = y at *
      by_cases hneg : y < 0
      · have hr : Hid (leftI left (n + wt cs) = -1) := by show _ = _; rw [Hs.out, hw]; exact hneg0 hneg
        clear hw Hs E hneg0 hpos0
        go_wp2_with fail
        refine (Hcon.out _ (by repeat (first | exact Below.refl _ _ | refine Below.alloc ?_ (by simp) _))).mono ?_
        rintro e w1 ⟨rfl, hb⟩
        go_wp2
        go_ret
        exact ⟨ret_intU hr.out.symm, hbw.trans (hb.mono hbw.size)⟩
      · have hr : Hid (leftI left (n + wt cs) = leftI y (wt (cs.dropN ((q + 1) * 4)))) := by
          show _ = _
          rw [Hs.out, hw]; exact (hpos0 hneg).1
        clear hw Hs E hneg0 hpos0
        go_wp2_with fail
        refine (Hcon.out _ (by repeat (first | exact Below.refl _ _ | refine Below.alloc ?_ (by simp) _))).mono ?_
        rintro e w1 ⟨rfl, hb⟩
        go_wp2
        go_roundw
        case rel => exact ⟨q + 1, _, by omega, by go_num, rfl, by omega, by omega, hr, hbw.trans (hb.mono hbw.size)⟩
        case measure => simp [intOf]; omega
    · have e : q = n := by omega
      subst e
      have hr : Hid (leftI left (q + wt cs) = x) := by
        show _ = _
        rw [Hs.out, ← Ht.out.2.2.2.1, UD.dropN_all]
        exact leftI_zero hx0
      clear Hs E
      go_wp2
      go_ret
      exact ⟨ret_intU hr.out.symm, hbw⟩
set_option maxRecDepth 20000 in
set_option maxHeartbeats 800000 in
theorem ueqIsland_any {lo hi lo' hi' : Nat} (d : UD) (xs ys : List Value) (w : World) (ht : tyL d (uE 14)) (hx : uH w lo hi d xs) (hy : uH w lo' hi' d ys) :
    Calls Tryz.prog 81 #[.agg xs.toArray, .agg ys.toArray] w fun e w' => e = .returned (.bool true) ∧ Below w.heap.size w w' := by
  obtain ⟨z0, n1, c1, n2, c2, z3, rfl, g0, g1, g2, g3⟩ := partsIsland ht
  obtain ⟨_, rfl, ⟨v1l, _, rfl, s1l, ⟨v2l, _, rfl, s2l, ⟨_, rfl, rfl⟩⟩⟩⟩ := hx
  obtain ⟨a1l, p1l, rfl, t1l⟩ := s1l
  obtain ⟨a2l, p2l, rfl, t2l⟩ := s2l
  obtain ⟨_, rfl, ⟨v1r, _, rfl, s1r, ⟨v2r, _, rfl, s2r, ⟨_, rfl, rfl⟩⟩⟩⟩ := hy
  obtain ⟨a1r, p1r, rfl, t1r⟩ := s1r
  obtain ⟨a2r, p2r, rfl, t2r⟩ := s2r
  have HC0 : Hid (∀ wx : World, Below w.heap.size w wx → Calls Tryz.prog 162 #[.slice a1l n1 p1l, .slice a1r n1 p1r] wx fun e w' => e = .returned (.bool true) ∧ Below wx.heap.size wx w') := fun wx hb => ueqLabelS_any (lo := lo) (hi := hi) (lo' := lo') (hi' := hi') n1 c1 _ _ wx g1 ((show uS w lo hi 2 n1 c1 (.slice a1l n1 p1l) from ⟨_, _, rfl, t1l⟩).below hb) ((show uS w lo' hi' 2 n1 c1 (.slice a1r n1 p1r) from ⟨_, _, rfl, t1r⟩).below hb)
  have HC1 : Hid (∀ wx : World, Below w.heap.size w wx → Calls Tryz.prog 54 #[.slice a2l n2 p2l, .slice a2r n2 p2r] wx fun e w' => e = .returned (.bool true) ∧ Below wx.heap.size wx w') := fun wx hb => ueqStringS_any (lo := lo) (hi := hi) (lo' := lo') (hi' := hi') n2 c2 _ _ wx g2 ((show uS w lo hi 1 n2 c2 (.slice a2l n2 p2l) from ⟨_, _, rfl, t2l⟩).below hb) ((show uS w lo' hi' 1 n2 c2 (.slice a2r n2 p2r) from ⟨_, _, rfl, t2r⟩).below hb)
  have e0 : (z0.toList == z0.toList) = true := by simp
  have e3 : (z3 != z3) = false := by simp
  have HB : Hid (∀ o o', Below w.heap.size w ((w.alloc o).alloc o')) := fun o o' => ((Below.refl _ _).alloc (Nat.le_refl _) _).alloc (by simp) _
  clear g0 g1 g2 g3 t1l t1r t2l t2r
  go_enter Tryz.func81, Tryz.ntmps81
  go_wp2_with fail
  refine (HC0.out _ (HB.out _ _)).mono ?_
  rintro e w1 ⟨rfl, hb1⟩
  have b2 : w1.cell? ⟨w.heap.size, 2, none⟩ = some (.slice a2l n2 p2l) := (hb1.cell (p := ⟨w.heap.size, 2, none⟩) (by simp <;> omega)).trans (by simp [go_sem])
  have b3 : w1.cell? ⟨w.heap.size, 3, none⟩ = some (.int .i64 z3) := (hb1.cell (p := ⟨w.heap.size, 3, none⟩) (by simp <;> omega)).trans (by simp [go_sem])
  have d2 : w1.cell? ⟨w.heap.size + 1, 2, none⟩ = some (.slice a2r n2 p2r) := (hb1.cell (p := ⟨w.heap.size + 1, 2, none⟩) (by simp <;> omega)).trans (by simp [go_sem])
  have d3 : w1.cell? ⟨w.heap.size + 1, 3, none⟩ = some (.int .i64 z3) := (hb1.cell (p := ⟨w.heap.size + 1, 3, none⟩) (by simp <;> omega)).trans (by simp [go_sem])
  have B1 : Hid (Below w.heap.size w w1) := (HB.out _ _).trans (hb1.mono (by simp; omega))
  clear hb1
  go_wp2_with fail
  refine (HC1.out _ B1.out).mono ?_
  rintro e w2 ⟨rfl, hb2⟩
  replace b3 : w2.cell? ⟨w.heap.size, 3, none⟩ = some (.int .i64 z3) := (hb2.cell (p := ⟨w.heap.size, 3, none⟩) (World.block_lt_of_cell? _ _ b3)).trans b3
  replace d3 : w2.cell? ⟨w.heap.size + 1, 3, none⟩ = some (.int .i64 z3) := (hb2.cell (p := ⟨w.heap.size + 1, 3, none⟩) (World.block_lt_of_cell? _ _ d3)).trans d3
  have B2 : Hid (Below w.heap.size w w2) := B1.out.trans (hb2.mono B1.out.size)
  clear hb2
  go_wp2
  go_ret
  exact ⟨rfl, B2.out⟩
set_option maxRecDepth 20000 in
set_option maxHeartbeats 800000 in
theorem ueqIslandS_any {lo hi lo' hi' : Nat} (n : Nat) (cs : UD) (c c' : Value) (w : World) (ht : tyS 4 n cs 14) (hx : uS w lo hi 4 n cs c) (hy : uS w lo' hi' 4 n cs c') :
    Calls Tryz.prog 19 #[c, c'] w fun e w' => e = .returned (.bool true) ∧ Below w.heap.size w w' := by
  obtain ⟨a, cap, rfl, hx2⟩ := hx
  obtain ⟨a', cap', rfl, hy2⟩ := hy
  have Hx : Hid (uS w lo hi 4 n cs (.slice a n cap)) := ⟨a, cap, rfl, hx2⟩
  have Hy : Hid (uS w lo' hi' 4 n cs (.slice a' n cap')) := ⟨a', cap', rfl, hy2⟩
  have hmx := ht.2.2.1
  unfold maxLen at hmx
  have Ht := uhide ht
  have hb0 : ((n : Int) != (n : Int)) = false := by simp
  clear hx2 hy2 ht
  go_enter Tryz.func19, Tryz.ntmps19
  go_wp2
  go_loopw [5] (fun i wr => ∃ (q : Nat), q ≤ n ∧ i = .int .i64 q ∧ Below w.heap.size w wr) (fun i _ => n - (intOf i).toNat)
  case atStart => exact ⟨0, Nat.zero_le _, rfl, Below.refl _ _⟩
  case round =>
    obtain ⟨q, hq, rfl, hbw⟩ := hrel
    by_cases hlt : q < n
    · obtain ⟨b, off, rfl, hbb, hm⟩ := (Hx.out.below hbw).cells (by omega)
      obtain ⟨b', off', rfl, hbb', hm'⟩ := (Hy.out.below hbw).cells (by omega)
      have htr := Ht.out.row hlt
      have hsz := uszD_row cs 4 q
      obtain ⟨xs, hh, hcl⟩ := (hm.row 4 q).hand
      obtain ⟨ys, hh', hcl'⟩ := (hm'.row 4 q).hand
      have Hcon : Hid (∀ wx, Below wr.heap.size wr wx → Calls Tryz.prog 81 #[.agg xs.toArray, .agg ys.toArray] wx fun e w' => e = .returned (.bool true) ∧ Hid (Below w.heap.size w w')) := fun wx hb => (ueqIsland_any (lo := lo) (hi := hi) (lo' := lo') (hi' := hi') _ _ _ wx htr (hh.below hb) (hh'.below hb)).mono fun e w' h => ⟨h.1, (hbw.trans (hb.mono hbw.size)).trans (h.2.mono (Nat.le_trans hbw.size hb.size))⟩
      obtain ⟨z0, n1, c1, n2, c2, z3, hR, g0, g1, g2, g3⟩ := partsIsland htr
      rw [hR] at hh hh'
      obtain ⟨_, rfl, ⟨v1l, _, rfl, s1l, ⟨v2l, _, rfl, s2l, ⟨_, rfl, rfl⟩⟩⟩⟩ := hh
      obtain ⟨a1l, p1l, rfl, t1l⟩ := s1l
      obtain ⟨a2l, p2l, rfl, t2l⟩ := s2l
      obtain ⟨_, rfl, ⟨v1r, _, rfl, s1r, ⟨v2r, _, rfl, s2r, ⟨_, rfl, rfl⟩⟩⟩⟩ := hh'
      obtain ⟨a1r, p1r, rfl, t1r⟩ := s1r
      obtain ⟨a2r, p2r, rfl, t2r⟩ := s2r
      have q0 : wr.cell? ⟨b, off + q * 4, none⟩ = some (.string z0) := hcl 0 _ rfl
      have q1 : wr.cell? ⟨b, off + q * 4 + 1, none⟩ = some (.slice a1l n1 p1l) := hcl 1 _ rfl
      have q2 : wr.cell? ⟨b, off + q * 4 + 2, none⟩ = some (.slice a2l n2 p2l) := hcl 2 _ rfl
      have q3 : wr.cell? ⟨b, off + q * 4 + 3, none⟩ = some (.int .i64 z3) := hcl 3 _ rfl
      have r0 : wr.cell? ⟨b', off' + q * 4, none⟩ = some (.string z0) := hcl' 0 _ rfl
      have r1 : wr.cell? ⟨b', off' + q * 4 + 1, none⟩ = some (.slice a1r n1 p1r) := hcl' 1 _ rfl
      have r2 : wr.cell? ⟨b', off' + q * 4 + 2, none⟩ = some (.slice a2r n2 p2r) := hcl' 2 _ rfl
      have r3 : wr.cell? ⟨b', off' + q * 4 + 3, none⟩ = some (.int .i64 z3) := hcl' 3 _ rfl
      clear hR hcl hcl' hm hm' htr hsz g0 g1 g2 g3 t1l t1r t2l t2r
      clear Hx Hy Ht
      go_wp2
      go_region_with (go_at_call 81; refine (Hcon.out _ (by repeat (first | exact Below.refl _ _ | refine Below.drew ?_ | refine below_drewN ?_ _))).mono ?_; rintro e w2 ⟨rfl, hb2⟩)
      all_goals go_wp2
      all_goals (
        go_roundw
        case rel => exact ⟨q + 1, by omega, by go_num, by repeat (first | exact hb2.out | refine Below.drew ?_ | refine below_drewN ?_ _)⟩
        case measure => simp [intOf]; omega)
    · have e : q = n := by omega
      subst e
      go_wp2
      go_ret
      exact ⟨rfl, hbw⟩
set_option maxRecDepth 20000 in
set_option maxHeartbeats 1600000 in
theorem umarkIslandS_any (n k0 : Nat) (cs : UD) (c : Value) (S : List Nat) (w : World) (ht : tyS 4 n cs 14) (hnd : S.Nodup) (hk0 : 1 ≤ k0) (hk1 : k0 + cnt cs ≤ 100000000) (hx : oS w 4 n cs c S) :
    Calls Tryz.prog 21 #[c, .int .i64 k0] w fun e w' => e = .returned (.int .i64 (k0 + cnt cs : Nat)) ∧ oS w' 4 n (mk cs k0) c S ∧ OutS S w w' := by
  obtain ⟨a, cap, rfl⟩ := hx.slice
  have hmx := ht.2.2.1
  unfold maxLen at hmx
  rcases Nat.eq_zero_or_pos n with h0 | hpos
  · subst h0
    obtain ⟨e1, e2⟩ := hx.empty rfl k0
    rw [e1, e2]
    have Hx := uhide hx
    clear hx ht hnd e1 e2
    go_enter Tryz.func21, Tryz.ntmps21
    go_wp2
    go_loopw [1, 5] (fun s i wr => i = .int .i64 0 ∧ s = .int .i64 k0 ∧ wr = w) (fun _ _ _ => 0)
    case atStart => exact ⟨rfl, rfl, rfl⟩
    case round =>
      obtain ⟨rfl, rfl, rfl⟩ := hrel
      go_wp2
      go_ret
      exact ⟨rfl, Hx.out, OutS.refl _ _⟩
  obtain ⟨e, g, S1, xs0, M0, rfl, hp0, hl0⟩ := MS.start hx hnd hpos k0
  obtain ⟨cap, h1, hgl⟩ := M0.own
  cases h1
  have M0 := uhide M0
  have Ht := uhide ht
  have Hp0 := uhide hp0
  have Hl0 := uhide hl0
  have Hkk : Hid (∀ q, k0 + cnt (cs.takeN (q * 4)) ≤ 100000000) := fun q => by have := cnt_le cs (q * 4); omega
  clear hx ht hnd hp0 hl0
  go_enter Tryz.func21, Tryz.ntmps21
  go_wp2
  go_loopw [1, 5] (fun s i wr => ∃ (q : Nat), q ≤ n ∧ i = .int .i64 q ∧ s = .int .i64 (k0 + cnt (cs.takeN (q * 4)) : Nat) ∧ Hid (MS w wr e 4 n (.slice (some ⟨g, 0, none⟩) n cap) g cs k0 S1 xs0 (q * 4))) (fun _ i _ => n - (intOf i).toNat)
  case atStart => exact ⟨0, Nat.zero_le _, rfl, by rw [Nat.zero_mul]; rfl, by rw [Nat.zero_mul]; exact M0⟩
  case round =>
    clear M0
    obtain ⟨q, hq, rfl, rfl, HM⟩ := hrel
    by_cases hlt : q < n
    · have htr := Ht.out.row hlt
      have hsz := uszD_row cs 4 q
      have hkn := cnt_row cs 4 q
      have hkb := Hkk.out (q + 1)
      obtain ⟨z0, n1, c1, n2, c2, z3, hR, g0, g1, g2, g3⟩ := partsIsland htr
      rw [hR] at hkn hsz
      simp only [cnt, Nat.add_zero] at hkn
      obtain ⟨kq, hkq⟩ : ∃ kq, k0 + cnt (cs.takeN (q * 4)) = kq := ⟨_, rfl⟩
      have hK0 : 1 ≤ kq := by omega
      have hend : k0 + cnt (cs.takeN ((q + 1) * 4)) = ((((kq + 1) + cnt c1) + cnt c2) + 1) := by rw [hkn]; omega
      rw [hend] at hkb
      have at0 : cs.at? (q * 4) = some (.p (.string z0)) := by rw [show q * 4 = q * 4 + 0 from rfl]; rw [← rowU_at cs 4 q 0 (by omega), hR]; rfl
      have ct0 : k0 + cnt (cs.takeN (q * 4)) = kq := by exact hkq
      have x0 := Hp0.out _ _ at0
      have at1 : cs.at? (q * 4 + 1) = some (.l 2 n1 c1) := by rw [← rowU_at cs 4 q 1 (by omega), hR]; rfl
      have ct1 : k0 + cnt (cs.takeN (q * 4 + 1)) = (kq + 1) := by rw [cnt_at cs 4 q 1 (by omega), hR]; show k0 + (cnt (cs.takeN (q * 4)) + cnt (.p (.string z0) .nil)) = _; simp only [cnt]; omega
      obtain ⟨a1, p1, x1⟩ := Hl0.out _ _ _ _ at1
      have at2 : cs.at? (q * 4 + 2) = some (.l 1 n2 c2) := by rw [← rowU_at cs 4 q 2 (by omega), hR]; rfl
      have ct2 : k0 + cnt (cs.takeN (q * 4 + 2)) = ((kq + 1) + cnt c1) := by rw [cnt_at cs 4 q 2 (by omega), hR]; show k0 + (cnt (cs.takeN (q * 4)) + cnt (.p (.string z0) (.l 2 n1 c1 .nil))) = _; simp only [cnt]; omega
      obtain ⟨a2, p2, x2⟩ := Hl0.out _ _ _ _ at2
      have at3 : cs.at? (q * 4 + 3) = some (.p (.int .i64 z3)) := by rw [← rowU_at cs 4 q 3 (by omega), hR]; rfl
      have ct3 : k0 + cnt (cs.takeN (q * 4 + 3)) = (((kq + 1) + cnt c1) + cnt c2) := by rw [cnt_at cs 4 q 3 (by omega), hR]; show k0 + (cnt (cs.takeN (q * 4)) + cnt (.p (.string z0) (.l 2 n1 c1 (.l 1 n2 c2 .nil)))) = _; simp only [cnt]; omega
      have x3 := Hp0.out _ _ at3
      have HP0 : Hid (∀ (wx : World) (u : Value), MS w wx e 4 n (.slice (some ⟨g, 0, none⟩) n cap) g cs k0 S1 xs0 (q * 4) → u = .string (umtx kq) → MS w (wx.setCell ⟨g, q * 4, none⟩ u) e 4 n (.slice (some ⟨g, 0, none⟩) n cap) g cs k0 S1 xs0 (q * 4 + 1)) := fun wx u h hu => h.plain at0 (hu.trans (by rw [ct0]; rfl))
      have HT0 : Hid (∀ (wx : World) (x : Int), x = ((kq : Nat) : Int) → Calls Tryz.prog 84 #[.int .i64 x] wx fun e1 w' => e1 = .returned (.string (umtx kq)) ∧ Below wx.heap.size wx w') := fun wx x hx => by rw [hx]; exact umarkText_any _ wx (by omega) (by omega)
      have HC1 : Hid (∀ (wx : World) (x : Int), MS w wx e 4 n (.slice (some ⟨g, 0, none⟩) n cap) g cs k0 S1 xs0 (q * 4 + 1) → x = (((kq + 1) : Nat) : Int) → Calls Tryz.prog 85 #[.slice a1 n1 p1, .int .i64 x] wx fun e1 w' => e1 = .returned (.int .i64 (((kq + 1) + cnt c1 : Nat))) ∧ Hid (MS w w' e 4 n (.slice (some ⟨g, 0, none⟩) n cap) g cs k0 S1 xs0 (q * 4 + 2))) := by
        intro wx x h hxx
        rw [hxx]
        obtain ⟨c', T, q1, q2, q3, q5⟩ := h.part at1
        rw [x1] at q1
        cases q1
        rw [ct1] at q5
        exact (umarkLabelS_any n1 (kq + 1) c1 _ T wx g1 q3 (by omega) (by omega) q2).mono fun e1 w' h => ⟨h.1, q5 w' h.2.2 h.2.1⟩
      have HC2 : Hid (∀ (wx : World) (x : Int), MS w wx e 4 n (.slice (some ⟨g, 0, none⟩) n cap) g cs k0 S1 xs0 (q * 4 + 2) → x = ((((kq + 1) + cnt c1) : Nat) : Int) → Calls Tryz.prog 56 #[.slice a2 n2 p2, .int .i64 x] wx fun e1 w' => e1 = .returned (.int .i64 ((((kq + 1) + cnt c1) + cnt c2 : Nat))) ∧ Hid (MS w w' e 4 n (.slice (some ⟨g, 0, none⟩) n cap) g cs k0 S1 xs0 (q * 4 + 3))) := by
        intro wx x h hxx
        rw [hxx]
        obtain ⟨c', T, q1, q2, q3, q5⟩ := h.part at2
        rw [x2] at q1
        cases q1
        rw [ct2] at q5
        exact (umarkStringS_any n2 ((kq + 1) + cnt c1) c2 _ T wx g2 q3 (by omega) (by omega) q2).mono fun e1 w' h => ⟨h.1, q5 w' h.2.2 h.2.1⟩
      have HP3 : Hid (∀ (wx : World) (u : Value), MS w wx e 4 n (.slice (some ⟨g, 0, none⟩) n cap) g cs k0 S1 xs0 (q * 4 + 3) → u = .int .i64 ((((kq + 1) + cnt c1) + cnt c2) : Nat) → MS w (wx.setCell ⟨g, q * 4 + 3, none⟩ u) e 4 n (.slice (some ⟨g, 0, none⟩) n cap) g cs k0 S1 xs0 (q * 4 + 4)) := fun wx u h hu => h.plain at3 (hu.trans (by rw [ct3, mkP_int _ _ (by omega)]))
      have HQ0 : Hid (∀ wx, MS w wx e 4 n (.slice (some ⟨g, 0, none⟩) n cap) g cs k0 S1 xs0 (q * 4) → wx.cell? ⟨g, q * 4, none⟩ = some (.string z0) ∧ wx.frozen? ⟨g, q * 4, none⟩ = false ∧ wx.cell? ⟨g, q * 4 + 1, none⟩ = some (.slice a1 n1 p1) ∧ wx.frozen? ⟨g, q * 4 + 1, none⟩ = false ∧ wx.cell? ⟨g, q * 4 + 2, none⟩ = some (.slice a2 n2 p2) ∧ wx.frozen? ⟨g, q * 4 + 2, none⟩ = false ∧ wx.cell? ⟨g, q * 4 + 3, none⟩ = some (.int .i64 z3) ∧ wx.frozen? ⟨g, q * 4 + 3, none⟩ = false) := fun wx h => ⟨h.cellAt _ _ (by omega) x0 (by omega), h.fz _, h.cellAt _ _ (by omega) x1 (by omega), h.fz _, h.cellAt _ _ (by omega) x2 (by omega), h.fz _, h.cellAt _ _ (by omega) x3 (by omega), h.fz _⟩
      have HQ2 : Hid (∀ wx, MS w wx e 4 n (.slice (some ⟨g, 0, none⟩) n cap) g cs k0 S1 xs0 (q * 4 + 2) → wx.cell? ⟨g, q * 4 + 2, none⟩ = some (.slice a2 n2 p2) ∧ wx.frozen? ⟨g, q * 4 + 2, none⟩ = false ∧ wx.cell? ⟨g, q * 4 + 3, none⟩ = some (.int .i64 z3) ∧ wx.frozen? ⟨g, q * 4 + 3, none⟩ = false) := fun wx h => ⟨h.cellAt _ _ (by omega) x2 (by omega), h.fz _, h.cellAt _ _ (by omega) x3 (by omega), h.fz _⟩
      have HQ3 : Hid (∀ wx, MS w wx e 4 n (.slice (some ⟨g, 0, none⟩) n cap) g cs k0 S1 xs0 (q * 4 + 3) → wx.cell? ⟨g, q * 4 + 3, none⟩ = some (.int .i64 z3) ∧ wx.frozen? ⟨g, q * 4 + 3, none⟩ = false) := fun wx h => ⟨h.cellAt _ _ (by omega) x3 (by omega), h.fz _⟩
      have HN : Hid (∀ wx, MS w wx e 4 n (.slice (some ⟨g, 0, none⟩) n cap) g cs k0 S1 xs0 (q * 4 + 4) → MS w wx e 4 n (.slice (some ⟨g, 0, none⟩) n cap) g cs k0 S1 xs0 ((q + 1) * 4)) := fun wx h => by rw [show q * 4 + 4 = (q + 1) * 4 by omega] at h; exact h
      have HE := uhide hend
      rw [hkq]
      clear hR htr hsz hkn hend hkq Ht Hkk Hp0 Hl0 g0 g1 g2 g3 at0 at1 at2 at3 ct0 ct1 ct2 ct3 x0 x1 x2 x3
      generalize umtx kq = M0 at *
      generalize cnt c1 = m1 at *
      generalize cnt c2 = m2 at *
      obtain ⟨q0, f0, q1, f1, q2, f2, q3, f3⟩ := HQ0.out _ HM.out
      go_wp2_with fail
      refine (HT0.out _ _ (by omega)).mono ?_
      rintro e1 w1 ⟨rfl, hb1⟩
      have I1 : Hid (MS w w1 e 4 n (.slice (some ⟨g, 0, none⟩) n cap) g cs k0 S1 xs0 (q * 4)) := MS.below HM.out hb1
      clear hb1 q0 f0 q1 f1 q2 f2 q3 f3
      obtain ⟨q0, f0, q1, f1, q2, f2, q3, f3⟩ := HQ0.out _ I1.out
      go_wp2_with fail
      refine (HC1.out _ _ (HP0.out _ _ I1.out rfl) (by omega)).mono ?_
      rintro e1 w2 ⟨rfl, I2⟩
      clear q0 f0 q1 f1 q2 f2 q3 f3
      obtain ⟨q2, f2, q3, f3⟩ := HQ2.out _ I2.out
      go_wp2_with fail
      refine (HC2.out _ _ I2.out (by omega)).mono ?_
      rintro e1 w3 ⟨rfl, I3⟩
      clear q2 f2 q3 f3
      obtain ⟨q3, f3⟩ := HQ3.out _ I3.out
      go_wp2
      go_roundw
      case rel => exact ⟨q + 1, by omega, by go_num, by rw [HE.out]; go_num, HN.out _ (HP3.out _ _ I3.out (congrArg (Value.int .i64) (by omega)))⟩
      case measure => (simp [intOf]; omega)
    · have e : q = n := by omega
      subst e
      obtain ⟨h1, h2⟩ := HM.out.done (by decide)
      have HD := uhide (And.intro h1 h2)
      have hl : cs.takeN (q * 4) = cs := by apply UD.ext; unfold UD.takeN; rw [UD.toL_ofL]; exact List.take_of_length_le (Nat.le_of_eq Ht.out.2.2.2.1)
      rw [hl]
      clear h1 h2 hl HM Ht Hp0 Hl0 Hkk
      go_wp2
      go_ret
      exact ⟨rfl, HD.out⟩
set_option maxRecDepth 20000 in
set_option maxHeartbeats 1600000 in
theorem utoIsland_any {lo hi : Nat} (d : UD) (xs : List Value) (w : World) (ht : tyL d (uE 14)) (hn : wt d ≤ 1048576) (hx : uH w lo hi d xs) :
    Calls Tryz.prog 72 #[.agg xs.toArray] w fun e w' => ∃ ys S, e = .returned (.agg ys.toArray) ∧ oH w' d ys S ∧ S.Nodup ∧ (∀ s ∈ S, w.heap.size ≤ s) ∧ Below w.heap.size w w' := by
  obtain ⟨z0, n1, c1, n2, c2, z3, rfl, g0, g1, g2, g3⟩ := partsIsland ht
  obtain ⟨_, rfl, ⟨v1l, _, rfl, s1l, ⟨v2l, _, rfl, s2l, ⟨_, rfl, rfl⟩⟩⟩⟩ := hx
  obtain ⟨a1l, p1l, rfl, t1l⟩ := s1l
  obtain ⟨a2l, p2l, rfl, t2l⟩ := s2l
  simp only [wt, wtP] at hn
  have HC0 : Hid (∀ wx : World, Below w.heap.size w wx → Calls Tryz.prog 145 #[.slice a1l n1 p1l] wx fun e w' => ∃ a p S, e = .returned (.slice a n1 p) ∧ Hid (oS w' 2 n1 c1 (.slice a n1 p) S) ∧ Hid (own2 S wx.heap.size w'.heap.size) ∧ Below wx.heap.size wx w') := fun wx hb => (utoLabelS_any (lo := lo) (hi := hi) n1 c1 _ wx g1 (by omega) ((show uS w lo hi 2 n1 c1 (.slice a1l n1 p1l) from ⟨_, _, rfl, t1l⟩).below hb)).mono fun e w' ⟨c', S, h1, h2, h3, h4, h5⟩ => by
    obtain ⟨a, p, rfl⟩ := h2.slice
    exact ⟨a, p, S, h1, h2, ⟨h3, fun s hs => ⟨h4 s hs, h2.lt s hs⟩⟩, h5⟩
  have HC1 : Hid (∀ wx : World, Below w.heap.size w wx → Calls Tryz.prog 51 #[.slice a2l n2 p2l] wx fun e w' => ∃ a p S, e = .returned (.slice a n2 p) ∧ Hid (oS w' 1 n2 c2 (.slice a n2 p) S) ∧ Hid (own2 S wx.heap.size w'.heap.size) ∧ Below wx.heap.size wx w') := fun wx hb => (utoStringS_any (lo := lo) (hi := hi) n2 c2 _ wx g2 (by omega) ((show uS w lo hi 1 n2 c2 (.slice a2l n2 p2l) from ⟨_, _, rfl, t2l⟩).below hb)).mono fun e w' ⟨c', S, h1, h2, h3, h4, h5⟩ => by
    obtain ⟨a, p, rfl⟩ := h2.slice
    exact ⟨a, p, S, h1, h2, ⟨h3, fun s hs => ⟨h4 s hs, h2.lt s hs⟩⟩, h5⟩
  have HA : Hid (∀ o1 o2 o3, Below w.heap.size w (((w.alloc o1).alloc o2).alloc o3)) := fun o1 o2 o3 => (((Below.refl _ _).alloc (Nat.le_refl _) _).alloc (by simp) _).alloc (by simp; omega) _
  clear hn ht g0 g1 g2 g3 t1l t2l
  go_enter Tryz.func72, Tryz.ntmps72
  go_wp2_with fail
  refine (HC0.out _ (by repeat (first | with_reducible exact HA.out _ _ _ | with_reducible assumption | with_reducible refine Below.setCell ?_ (by simp <;> omega) _))).mono ?_
  rintro e w1 ⟨a1r, p1r, S1, rfl, O1, W1, hb1⟩
  have OA1 : Hid (objU w1 w.heap.size 106 [.string z0, .slice a1l n1 p1l, .slice a2l n2 p2l, .int .i64 z3]) := objU.below (by repeat (first | with_reducible exact objU.new2 _ _ rfl | with_reducible refine objU.other ?_ _ (by simp <;> omega) _ | with_reducible refine objU.old ?_ _)) hb1
  have OR1 : Hid (objU w1 (w.heap.size + 1) 111 [.string ⟨#[]⟩, .slice none 0 0, .slice none 0 0, .int .i64 0]) := objU.below (by repeat (first | with_reducible exact objU.new2 _ _ (by simp) | with_reducible refine objU.other ?_ _ (by simp <;> omega) _ | with_reducible refine objU.old ?_ _)) hb1
  have OO1 : Hid (objU w1 (w.heap.size + 1 + 1) 111 [.string z0, .slice none 0 0, .slice none 0 0, .int .i64 0]) := objU.below (by repeat (first | with_reducible exact objU.new2 _ _ (by simp) | with_reducible refine objU.old ?_ _)) hb1
  have hsz1 : w.heap.size + 1 + 1 + 1 ≤ w1.heap.size := by have := hb1.size; simpa using this
  replace W1 := uhide (W1.out.mono (a' := w.heap.size + 1 + 1 + 1) (by simp <;> omega) (Nat.le_refl _))
  have HB1 : Hid (Below w.heap.size w w1) := Below.trans (by repeat (first | with_reducible exact HA.out _ _ _ | with_reducible refine Below.setCell ?_ (by simp <;> omega) _)) (hb1.mono (by simp <;> omega))
  clear hb1
  have co1_1 : w1.cell? ⟨w.heap.size + 1 + 1, 1, none⟩ = some (.slice none 0 0) := OO1.out.cell 1 _ rfl
  have fo1_1 : w1.frozen? ⟨w.heap.size + 1 + 1, 1, none⟩ = false := OO1.out.fz 1
  have ca2_1 : w1.cell? ⟨w.heap.size, 2, none⟩ = some (.slice a2l n2 p2l) := OA1.out.cell 2 _ rfl
  have co2_1 : w1.cell? ⟨w.heap.size + 1 + 1, 2, none⟩ = some (.slice none 0 0) := OO1.out.cell 2 _ rfl
  have fo2_1 : w1.frozen? ⟨w.heap.size + 1 + 1, 2, none⟩ = false := OO1.out.fz 2
  go_wp2_with fail
  refine (HC1.out _ (by repeat (first | with_reducible exact HA.out _ _ _ | with_reducible assumption | with_reducible refine Below.setCell ?_ (by simp <;> omega) _ | with_reducible exact HB1.out))).mono ?_
  rintro e w2 ⟨a2r, p2r, S2, rfl, O2, W2, hb2⟩
  have OA2 : Hid (objU w2 w.heap.size 106 [.string z0, .slice a1l n1 p1l, .slice a2l n2 p2l, .int .i64 z3]) := objU.below (by repeat (first | with_reducible exact OA1.out | with_reducible refine objU.other ?_ _ (by simp <;> omega) _ | with_reducible refine objU.old ?_ _)) hb2
  have OR2 : Hid (objU w2 (w.heap.size + 1) 111 [.string ⟨#[]⟩, .slice none 0 0, .slice none 0 0, .int .i64 0]) := objU.below (by repeat (first | with_reducible exact OR1.out | with_reducible refine objU.other ?_ _ (by simp <;> omega) _ | with_reducible refine objU.old ?_ _)) hb2
  have OO2 : Hid (objU w2 (w.heap.size + 1 + 1) 111 [.string z0, .slice a1r n1 p1r, .slice none 0 0, .int .i64 0]) := objU.below (by refine objU.set (xs := [.string z0, .slice none 0 0, .slice none 0 0, .int .i64 0]) ?_ 1 _; exact OO1.out) hb2
  replace O1 := uhide ((oS.outs O1.out (T := [w.heap.size + 1 + 1]) (by repeat (first | with_reducible exact OutS.refl _ _ | with_reducible refine OutS.setCell ?_ (show _ ∈ [w.heap.size + 1 + 1] by simp) _)) W1.out (fun x hx => by simp at hx; omega)).below hb2)
  have hsz2 : w1.heap.size ≤ w2.heap.size := Nat.le_trans (by simp) hb2.size
  replace W2 := uhide (W2.out.mono (a' := w1.heap.size) (by simp) (Nat.le_refl _))
  have HB2 : Hid (Below w.heap.size w w2) := Below.trans (by repeat (first | with_reducible exact HB1.out | with_reducible refine Below.setCell ?_ (by simp <;> omega) _)) (hb2.mono (by simp <;> omega))
  clear hb2
  clear OA1 OR1 OO1 HB1
  have co2_2 : w2.cell? ⟨w.heap.size + 1 + 1, 2, none⟩ = some (.slice none 0 0) := OO2.out.cell 2 _ rfl
  have fo2_2 : w2.frozen? ⟨w.heap.size + 1 + 1, 2, none⟩ = false := OO2.out.fz 2
  have ca3_2 : w2.cell? ⟨w.heap.size, 3, none⟩ = some (.int .i64 z3) := OA2.out.cell 3 _ rfl
  have co3_2 : w2.cell? ⟨w.heap.size + 1 + 1, 3, none⟩ = some (.int .i64 0) := OO2.out.cell 3 _ rfl
  have fo3_2 : w2.frozen? ⟨w.heap.size + 1 + 1, 3, none⟩ = false := OO2.out.fz 3
  have co0_2 : w2.cell? ⟨w.heap.size + 1 + 1, 0, none⟩ = some (.string z0) := OO2.out.cell 0 _ rfl
  have cr0 : w2.cell? ⟨w.heap.size + 1, 0, none⟩ = some (.string ⟨#[]⟩) := OR2.out.cell 0 _ rfl
  have fr0 : w2.frozen? ⟨w.heap.size + 1, 0, none⟩ = false := OR2.out.fz 0
  have co1_2 : w2.cell? ⟨w.heap.size + 1 + 1, 1, none⟩ = some (.slice a1r n1 p1r) := OO2.out.cell 1 _ rfl
  have cr1 : w2.cell? ⟨w.heap.size + 1, 1, none⟩ = some (.slice none 0 0) := OR2.out.cell 1 _ rfl
  have fr1 : w2.frozen? ⟨w.heap.size + 1, 1, none⟩ = false := OR2.out.fz 1
  have cr2 : w2.cell? ⟨w.heap.size + 1, 2, none⟩ = some (.slice none 0 0) := OR2.out.cell 2 _ rfl
  have fr2 : w2.frozen? ⟨w.heap.size + 1, 2, none⟩ = false := OR2.out.fz 2
  have cr3 : w2.cell? ⟨w.heap.size + 1, 3, none⟩ = some (.int .i64 0) := OR2.out.cell 3 _ rfl
  have fr3 : w2.frozen? ⟨w.heap.size + 1, 3, none⟩ = false := OR2.out.fz 3
  go_wp2
  refine bodyPost_ret (v := .agg #[.string z0, .slice a1r n1 p1r, .slice a2r n2 p2r, .int .i64 z3]) ?_ rfl ⟨[.string z0, .slice a1r n1 p1r, .slice a2r n2 p2r, .int .i64 z3], (S1 ++ (S2 ++ [])), rfl, ?_, ?_⟩
  · simp [results, Tryz.results72, go_sem, cr0, cr1, cr2, cr3]
  · exact oH.consP _ (oH.consS (oS.outs O1.out (T := [w.heap.size + 1, w.heap.size + 1 + 1]) (by repeat (first | with_reducible exact OutS.refl _ _ | with_reducible refine OutS.setCell ?_ (show _ ∈ [w.heap.size + 1, w.heap.size + 1 + 1] by simp) _)) W1.out (fun x hx => by simp at hx; omega)) (oH.consS (oS.outs O2.out (T := [w.heap.size + 1, w.heap.size + 1 + 1]) (by repeat (first | with_reducible exact OutS.refl _ _ | with_reducible refine OutS.setCell ?_ (show _ ∈ [w.heap.size + 1, w.heap.size + 1 + 1] by simp) _)) W2.out (fun x hx => by simp at hx; omega)) (oH.consP _ (oH.nil _))))
  · have HW := own2.app W1.out (own2.app W2.out (own2.nil w2.heap.size w2.heap.size) (by omega) (by omega) (by omega)) (by omega) (by omega) (by omega)
    refine ⟨HW.1, fun s hs => (by have := HW.2 s hs; omega), ?_⟩
    repeat (first | with_reducible exact HB2.out | with_reducible refine Below.setCell ?_ (by simp <;> omega) _)
theorem Tryz.infoUIsland : (Tryz.prog.info? 111).map (fun i => (i.zero, i.size, decide (i.bytes ≤ 1000))) = some (some (.agg #[.string ByteArray.empty, .slice none 0 0, .slice none 0 0, .int .i64 0]), 4, true) := by kernel_rfl
set_option maxRecDepth 20000 in
set_option maxHeartbeats 1600000 in
theorem utoIslandS_any {lo hi : Nat} (n : Nat) (cs : UD) (c : Value) (w : World) (ht : tyS 4 n cs 14) (hn : n + wt cs ≤ 1048576) (hx : uS w lo hi 4 n cs c) :
    Calls Tryz.prog 14 #[c] w fun e w' => ∃ c' S, e = .returned c' ∧ oS w' 4 n cs c' S ∧ S.Nodup ∧ (∀ s ∈ S, w.heap.size ≤ s) ∧ Below w.heap.size w w' := by
  obtain ⟨i0, hinf, hz0, hz1, hz2⟩ : ∃ i, Tryz.prog.info? 111 = some i ∧ i.zero = some (.agg #[.string ByteArray.empty, .slice none 0 0, .slice none 0 0, .int .i64 0]) ∧ i.size = 4 ∧ i.bytes ≤ 1000 := by
    have h := Tryz.infoUIsland
    cases e : Tryz.prog.info? 111 with
    | none => rw [e] at h; cases h
    | some i => rw [e] at h; simp at h; exact ⟨i, rfl, h.1, h.2.1, h.2.2⟩
  obtain ⟨a, cap, rfl, hx2⟩ := hx
  have Hx : Hid (uS w lo hi 4 n cs (.slice a n cap)) := ⟨a, cap, rfl, hx2⟩
  have Ht := uhide ht
  have Hn : Hid (∀ q, q < n → wt (rowU cs 4 q) ≤ 1048576) := fun q hq => by have := wt_row cs 4 q; omega
  have hnn : n ≤ 1048576 := by omega
  have hbb : i0.bytes * n ≤ 281474976710656 := Nat.le_trans (Nat.mul_le_mul hz2 hnn) (by decide)
  clear hx2 ht hn
  go_enter Tryz.func14, Tryz.ntmps14
  go_wp2_with (at_make; refine wpList_make_full _ rfl _ _ 37 rfl w.heap.size 111 i0 _ 4 Tryz.underlying37 hinf hz0 hz1 _ _ _ _ n rfl rfl rfl rfl hbb (by unfold maxLen; omega) (Nat.le_refl _) ?_; intro w1 hown hgrow)
  have T0 := uhide (TS.start (cs := cs) hown (Below.grown (Below.refl _ _) hgrow (Nat.le_refl _) (fun k hk => by cases hk)))
  clear hown hgrow
  go_loopw [4] (fun i wr => ∃ (q : Nat), q ≤ n ∧ i = .int .i64 q ∧ Hid (TS w wr 111 4 n cs q)) (fun i _ => n - (intOf i).toNat)
  case atStart => exact ⟨0, Nat.zero_le _, rfl, T0⟩
  case round =>
    clear T0
    obtain ⟨q, hq, rfl, HT⟩ := hrel
    by_cases hlt : q < n
    · obtain ⟨b, off, rfl, hbk, hm⟩ := (Hx.out.below HT.out.bel).cells (by omega)
      have htr := Ht.out.row hlt
      have hwr := Hn.out q hlt
      have hsz := uszD_row cs 4 q
      obtain ⟨xs, hh, hcl⟩ := (hm.row 4 q).hand
      have Hcon : Hid (∀ wx, Below wr.heap.size wr wx → Calls Tryz.prog 72 #[.agg xs.toArray] wx fun e w' => ∃ ys S, e = .returned (.agg ys.toArray) ∧ oH w' (rowU cs 4 q) ys S ∧ S.Nodup ∧ (∀ s ∈ S, wx.heap.size ≤ s) ∧ Below wx.heap.size wx w') := fun wx hb => utoIsland_any (lo := lo) (hi := hi) _ _ wx htr hwr (hh.below hb)
      obtain ⟨z0, n1, c1, n2, c2, z3, hR, g0, g1, g2, g3⟩ := partsIsland htr
      rw [hR] at hh
      obtain ⟨_, rfl, ⟨v1l, _, rfl, s1l, ⟨v2l, _, rfl, s2l, ⟨_, rfl, rfl⟩⟩⟩⟩ := hh
      obtain ⟨a1l, p1l, rfl, t1l⟩ := s1l
      obtain ⟨a2l, p2l, rfl, t2l⟩ := s2l
      have q0 : wr.cell? ⟨b, off + q * 4, none⟩ = some (.string z0) := hcl 0 _ rfl
      have q1 : wr.cell? ⟨b, off + q * 4 + 1, none⟩ = some (.slice a1l n1 p1l) := hcl 1 _ rfl
      have q2 : wr.cell? ⟨b, off + q * 4 + 2, none⟩ = some (.slice a2l n2 p2l) := hcl 2 _ rfl
      have q3 : wr.cell? ⟨b, off + q * 4 + 3, none⟩ = some (.int .i64 z3) := hcl 3 _ rfl
      have HR := uhide hR
      have HS : Hid (∀ (w2 : World) ys S, oH w2 (rowU cs 4 q) ys S → ∃ a1r p1r a2r p2r , ys = [.string z0, .slice a1r n1 p1r, .slice a2r n2 p2r, .int .i64 z3]) := by
        intro w2 ys S h
        rw [HR.out] at h
        obtain ⟨_, rfl, ⟨v1, _, _, _, rfl, _, _, ⟨_, _, o1, _⟩, ⟨v2, _, _, _, rfl, _, _, ⟨_, _, o2, _⟩, ⟨_, rfl, ⟨rfl, _⟩⟩⟩⟩⟩ := h
        obtain ⟨a1, p1, rfl⟩ := uowns_slice o1
        obtain ⟨a2, p2, rfl⟩ := uowns_slice o2
        exact ⟨a1, p1, a2, p2, rfl⟩
      have hKn : q * 4 + 4 ≤ n * 4 := by have := Nat.mul_le_mul_right 4 (show q + 1 ≤ n by omega); rw [Nat.succ_mul] at this; exact this
      clear hR hcl hm htr hsz hwr HR g0 g1 g2 g3 t1l t2l
      go_wp2_with fail
      refine (Hcon.out _ (by repeat (first | exact Below.refl _ _ | refine Below.alloc ?_ (by simp) _))).mono ?_
      rintro e w2 ⟨ys, S, rfl, ho, hnd, hS, hb2⟩
      obtain ⟨a1r, p1r, a2r, p2r, rfl⟩ := HS.out _ _ _ ho
      have HT2 := uhide (HT.out.below hb2)
      have T1 := uhide (HT.out.step hb2 ho hnd hS Ht.out.2.2.2.1 hlt)
      obtain ⟨d0, p0x⟩ := HT2.out.cell (q * 4) (by omega)
      have f0 := HT2.out.fz (q * 4)
      obtain ⟨d1, p1x⟩ := HT2.out.cell (q * 4 + 1) (by omega)
      have f1 := HT2.out.fz (q * 4 + 1)
      obtain ⟨d2, p2x⟩ := HT2.out.cell (q * 4 + 2) (by omega)
      have f2 := HT2.out.fz (q * 4 + 2)
      obtain ⟨d3, p3x⟩ := HT2.out.cell (q * 4 + 3) (by omega)
      have f3 := HT2.out.fz (q * 4 + 3)
      clear ho hnd hS hb2 Hcon HS HT HT2 Hx Ht Hn
      go_wp2
      go_roundw
      case rel => exact ⟨q + 1, by omega, by go_num, T1⟩
      case measure => simp [intOf]; omega
    · have e : q = n := by omega
      subst e
      obtain ⟨S, h1, h2, h3, h4⟩ := HT.out.done (by decide) Ht.out.2.2.2.1
      have HS : Hid (oS wr 4 q cs (.slice (some ⟨w.heap.size, 0, none⟩) q q) S ∧ S.Nodup ∧ (∀ s ∈ S, w.heap.size ≤ s) ∧ Below w.heap.size w wr) := ⟨h1, h2, h3, h4⟩
      clear h1 h2 h3 h4
      go_wp2
      go_ret
      exact ⟨_, S, rfl, HS.out⟩
end Go.Proofs.YtdnodaoeflbfkaaGreat

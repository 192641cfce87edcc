/- Data as cells: the helpers of the laws over Value. -/
import Derived.Test.YtkdiinjkpmkcpaaDoorULeaf
namespace Go.Proofs.YtkdiinjkpmkcpaaDoor
open Go.RowKit Go.BigFrame
set_option linter.unusedVariables false

set_option maxHeartbeats 800000 in
theorem uszValue_of {lo hi : Nat} (d : UD) (xs : List Value) (left : Int) (w : World) (ih : ∀ (n4 : Nat) (c4 : UD) (x4 : Value) (l : Int) (wx : World), uszD c4 < uszD d → tyS 5 n4 c4 6 → 0 ≤ l → l ≤ 1048576 → uS wx lo hi 5 n4 c4 x4 → Calls Tryd.prog 32 #[x4, .int .i64 l] wx fun e w' => e = .returned (.int .i64 (leftI l (n4 + wt c4))) ∧ Below wx.heap.size wx w') (ht : tyL d (uE 6)) (hx : uH w lo hi d xs) (h0 : 0 ≤ left) (h1 : left ≤ 1048576) :
    Calls Tryd.prog 17 #[.agg xs.toArray, .int .i64 left] w fun e w' => e = .returned (.int .i64 (leftI left (wt d))) ∧ Below w.heap.size w w' := by
  obtain ⟨z0, z1, z2, n3, c3, n4, c4, rfl, g0, g1, g2, g3, g4⟩ := partsValue ht
  obtain ⟨_, rfl, ⟨_, rfl, ⟨_, rfl, ⟨v3, _, rfl, s3, ⟨v4, _, rfl, s4, rfl⟩⟩⟩⟩⟩ := hx
  obtain ⟨a3, p3, rfl, t3⟩ := s3
  obtain ⟨a4, p4, rfl, t4⟩ := s4
  obtain ⟨M1, hM1⟩ : ∃ M, M = (n3 + wt c3) := ⟨_, rfl⟩
  have HC1 : Hid (∀ (wx : World) (l : Int), Below w.heap.size w wx → 0 ≤ l → l ≤ 1048576 → Calls Tryd.prog 16 #[.slice a3 n3 p3, .int .i64 l] wx fun e w' => e = .returned (.int .i64 (leftI l M1)) ∧ Below wx.heap.size wx w') := fun wx l hb q0 q1 => hM1 ▸ uszStringS_any (lo := lo) (hi := hi) n3 c3 _ l wx g3 q0 q1 ((show uS w lo hi 1 n3 c3 (.slice a3 n3 p3) from ⟨_, _, rfl, t3⟩).below hb)
  obtain ⟨M2, hM2⟩ : ∃ M, M = (n4 + wt c4) := ⟨_, rfl⟩
  have HC2 : Hid (∀ (wx : World) (l : Int), Below w.heap.size w wx → 0 ≤ l → l ≤ 1048576 → Calls Tryd.prog 32 #[.slice a4 n4 p4, .int .i64 l] wx fun e w' => e = .returned (.int .i64 (leftI l M2)) ∧ Below wx.heap.size wx w') := fun wx l hb q0 q1 => hM2 ▸ ih n4 c4 _ l wx (by simp only [uszD]; omega) g4 q0 q1 ((show uS w lo hi 5 n4 c4 (.slice a4 n4 p4) from ⟨_, _, rfl, t4⟩).below hb)
  have E : Hid (leftI left (wt (.p (.int .i64 z0) (.p (.string z1) (.p (.int .i64 z2) (.l 1 n3 c3 (.l 5 n4 c4 .nil)))))) = leftI left (z1.size + (M1 + (M2 + 0)))) := by show _ = _; congr 1; simp only [wt, wtP, hM1, hM2]; omega
  generalize leftI left (wt (.p (.int .i64 z0) (.p (.string z1) (.p (.int .i64 z2) (.l 1 n3 c3 (.l 5 n4 c4 .nil)))))) = R at *
  have HA : Hid (∀ o, Below w.heap.size w (w.alloc o)) := fun o => (Below.refl _ _).alloc (Nat.le_refl _) _
  unfold maxLen at g1
  clear t3 t4 hM1 hM2 g3 g4 ih
  by_cases k0 : left - (z1.size : Int) < 0
  · have EN : Hid (R = -1) := by show _ = _; rw [E.out]; exact leftI_neg _ (by omega) (by unfold leftI; split <;> omega)
    clear E
    go_enter Tryd.func17, Tryd.ntmps17
    go_wp2
    go_ret
    exact ⟨ret_intU EN.out.symm, HA.out _⟩
  replace E : Hid (R = leftI (left - (z1.size : Int)) (M1 + (M2 + 0))) := by
    obtain ⟨q1, q2, q3⟩ := leftI_pos (x := left) (a := z1.size) (M1 + (M2 + 0)) (by unfold leftI; split <;> omega)
    show _ = _; rw [E.out, q1, q2]
  obtain ⟨y1, hy1⟩ : ∃ y, y = leftI (left - (z1.size : Int)) M1 := ⟨_, rfl⟩
  have Y1 := uhide hy1
  by_cases k1 : y1 < 0
  · have EN : Hid (R = -1) := by show _ = _; rw [E.out]; exact leftI_neg _ (by omega) (by rw [← hy1]; exact k1)
    clear E hy1
    go_enter Tryd.func17, Tryd.ntmps17
    go_wp2_with fail
    refine (HC1.out _ _ (HA.out _) (by omega) (by omega)).mono ?_
    rintro e w1 ⟨rfl, hb1⟩
    have B1 : Hid (Below w.heap.size w w1) := (HA.out _).trans (hb1.mono (by simp))
    clear hb1
    rw [show leftI (left - (z1.size : Int)) M1 = y1 from Y1.out.symm]
    go_wp2
    go_ret
    exact ⟨ret_intU EN.out.symm, B1.out⟩
  replace E : Hid (R = leftI y1 (M2 + 0)) := by
    obtain ⟨q1, q2, q3⟩ := leftI_pos (x := (left - (z1.size : Int))) (a := M1) (M2 + 0) (by rw [← hy1]; exact k1)
    show _ = _; rw [E.out, q1, ← hy1]
  have u1 : y1 ≤ (left - (z1.size : Int)) := by rw [hy1]; unfold leftI; split <;> omega
  clear hy1
  obtain ⟨y2, hy2⟩ : ∃ y, y = leftI y1 M2 := ⟨_, rfl⟩
  have Y2 := uhide hy2
  by_cases k2 : y2 < 0
  · have EN : Hid (R = -1) := by show _ = _; rw [E.out]; exact leftI_neg _ (by omega) (by rw [← hy2]; exact k2)
    clear E hy2
    go_enter Tryd.func17, Tryd.ntmps17
    go_wp2_with fail
    refine (HC1.out _ _ (HA.out _) (by omega) (by omega)).mono ?_
    rintro e w1 ⟨rfl, hb1⟩
    have b4 : w1.cell? ⟨w.heap.size, 4, none⟩ = some (.slice a4 n4 p4) := (hb1.cell (p := ⟨w.heap.size, 4, none⟩) (by simp <;> omega)).trans (by simp [go_sem])
    have B1 : Hid (Below w.heap.size w w1) := (HA.out _).trans (hb1.mono (by simp))
    clear hb1
    rw [show leftI (left - (z1.size : Int)) M1 = y1 from Y1.out.symm]
    go_wp2_with fail
    refine (HC2.out _ _ (by repeat (first | assumption | exact HA.out _ | exact B1.out)) (by omega) (by omega)).mono ?_
    rintro e w2 ⟨rfl, hb2⟩
    have B2 : Hid (Below w.heap.size w w2) := B1.out.trans (hb2.mono B1.out.size)
    clear hb2
    rw [show leftI y1 M2 = y2 from Y2.out.symm]
    go_wp2
    go_ret
    exact ⟨ret_intU EN.out.symm, B2.out⟩
  replace E : Hid (R = leftI y2 (0)) := by
    obtain ⟨q1, q2, q3⟩ := leftI_pos (x := y1) (a := M2) (0) (by rw [← hy2]; exact k2)
    show _ = _; rw [E.out, q1, ← hy2]
  have u2 : y2 ≤ y1 := by rw [hy2]; unfold leftI; split <;> omega
  clear hy2
  replace E : Hid (R = y2) := E.out.trans (leftI_zero (by omega))
  go_enter Tryd.func17, Tryd.ntmps17
  go_wp2_with fail
  refine (HC1.out _ _ (HA.out _) (by omega) (by omega)).mono ?_
  rintro e w1 ⟨rfl, hb1⟩
  have b4 : w1.cell? ⟨w.heap.size, 4, none⟩ = some (.slice a4 n4 p4) := (hb1.cell (p := ⟨w.heap.size, 4, none⟩) (by simp <;> omega)).trans (by simp [go_sem])
  have B1 : Hid (Below w.heap.size w w1) := (HA.out _).trans (hb1.mono (by simp))
  clear hb1
  rw [show leftI (left - (z1.size : Int)) M1 = y1 from Y1.out.symm]
  go_wp2_with fail
  refine (HC2.out _ _ (by repeat (first | assumption | exact HA.out _ | exact B1.out)) (by omega) (by omega)).mono ?_
  rintro e w2 ⟨rfl, hb2⟩
  have B2 : Hid (Below w.heap.size w w2) := B1.out.trans (hb2.mono B1.out.size)
  clear hb2
  rw [show leftI y1 M2 = y2 from Y2.out.symm]
  go_wp2
  go_ret
  exact ⟨ret_intU E.out.symm, B2.out⟩
set_option maxHeartbeats 800000 in
theorem uszValueS_N {lo hi : Nat} : ∀ (N : Nat) (n : Nat) (cs : UD) (c : Value) (left : Int) (w : World), uszD cs < N → tyS 5 n cs 6 → 0 ≤ left → left ≤ 1048576 → uS w lo hi 5 n cs c →
    Calls Tryd.prog 32 #[c, .int .i64 left] w fun e w' => e = .returned (.int .i64 (leftI left (n + wt cs))) ∧ Below w.heap.size w w' := by
  intro N
  induction N with
  | zero => intro n cs c left w hN; omega
  | succ N ihN =>
  intro n cs c left w hN ht h0 h1 hx
  have HI := uhide ihN
  clear ihN
  obtain ⟨a, cap, rfl, hx2⟩ := hx
  have Hx : Hid (uS w lo hi 5 n cs (.slice a n cap)) := ⟨a, cap, rfl, hx2⟩
  have hmx := ht.2.2.1
  unfold maxLen at hmx
  have Ht := uhide ht
  clear hx2 ht
  by_cases c1 : left - (n : Int) < 0
  · have E : Hid (leftI left (n + wt cs) = -1) := by show _ = _; unfold leftI; rw [if_pos (by omega)]
    go_enter Tryd.func32, Tryd.ntmps32
    go_wp2
    go_ret
    exact ⟨ret_intU E.out.symm, Below.refl _ _⟩
  have E : Hid (leftI left (n + wt cs) = leftI (left - n) (wt (cs.dropN (0 * 5)))) := by
    show _ = _
    obtain ⟨g1, g2, g3⟩ := leftI_pos (x := left) (a := n) (wt cs) (by unfold leftI; split <;> omega)
    rw [g1, g2, Nat.zero_mul, UD.dropN_zero]
  go_enter Tryd.func32, Tryd.ntmps32
  go_wp2
  go_loopw [1, 5] (fun l i wr => ∃ (q : Nat) (x : Int), q ≤ n ∧ i = .int .i64 q ∧ l = .int .i64 x ∧ 0 ≤ x ∧ x ≤ 1048576 ∧ Hid (leftI left (n + wt cs) = leftI x (wt (cs.dropN (q * 5)))) ∧ Below w.heap.size w wr) (fun _ i _ => n - (intOf i).toNat)
  case atStart => exact ⟨0, _, Nat.zero_le _, rfl, rfl, by omega, by omega, E, Below.refl _ _⟩
  case round =>
    obtain ⟨q, x, hq, rfl, rfl, hx0, hx1, Hs, hbw⟩ := hrel
    by_cases hlt : q < n
    · obtain ⟨b, off, rfl, hbb, hm⟩ := (Hx.out.below hbw).cells (by omega)
      have htr := Ht.out.row hlt
      have hr := hm.row 5 q
      have hw : wt (cs.dropN (q * 5)) = wt (rowU cs 5 q) + wt (cs.dropN ((q + 1) * 5)) := by rw [UD.drop_row cs 5 q, wt_app]
      have hsz := uszD_row cs 5 q
      obtain ⟨xs, hh, hcl⟩ := hr.hand
      have Hcon : Hid (∀ wx, Below wr.heap.size wr wx → Calls Tryd.prog 17 #[.agg xs.toArray, .int .i64 x] wx fun e w' => e = .returned (.int .i64 (leftI x (wt (rowU cs 5 q)))) ∧ Below wx.heap.size wx w') := fun wx hb => uszValue_of (lo := lo) (hi := hi) _ _ x wx (fun n4 c4 x4 l wy hlt ht4 q0 q1 hs4 => HI.out n4 c4 x4 l wy (by omega) ht4 q0 q1 hs4) htr (hh.below hb) hx0 hx1
      obtain ⟨z0, z1, z2, n3, c3, n4, c4, hR, g0, g1, g2, g3, g4⟩ := partsValue htr
      rw [hR] at hh
      obtain ⟨_, rfl, ⟨_, rfl, ⟨_, rfl, ⟨v3, _, rfl, s3, ⟨v4, _, rfl, s4, rfl⟩⟩⟩⟩⟩ := hh
      obtain ⟨a3, p3, rfl, t3⟩ := s3
      obtain ⟨a4, p4, rfl, t4⟩ := s4
      have q0 : wr.cell? ⟨b, off + q * 5, none⟩ = some (.int .i64 z0) := hcl 0 _ rfl
      have q1 : wr.cell? ⟨b, off + q * 5 + 1, none⟩ = some (.string z1) := hcl 1 _ rfl
      have q2 : wr.cell? ⟨b, off + q * 5 + 2, none⟩ = some (.int .i64 z2) := hcl 2 _ rfl
      have q3 : wr.cell? ⟨b, off + q * 5 + 3, none⟩ = some (.slice a3 n3 p3) := hcl 3 _ rfl
      have q4 : wr.cell? ⟨b, off + q * 5 + 4, none⟩ = some (.slice a4 n4 p4) := hcl 4 _ rfl
      clear hR hcl hr hm htr hsz g0 g1 g2 g3 g4 t3 t4
      generalize wt (rowU cs 5 q) = m at *
      have hneg0 := fun h => leftI_neg (x := x) (a := m) (wt (cs.dropN ((q + 1) * 5))) hx0 h
      have hpos0 := fun h => leftI_pos (x := x) (a := m) (wt (cs.dropN ((q + 1) * 5))) h
      have hle0 : leftI x m ≤ x := by unfold leftI; split <;> omega
      generalize leftI x m = y at *
      by_cases hneg : y < 0
      · have hr : Hid (leftI left (n + wt cs) = -1) := by show _ = _; rw [Hs.out, hw]; exact hneg0 hneg
        clear hw Hs E hneg0 hpos0
        go_wp2_with fail
        refine (Hcon.out _ (by repeat (first | exact Below.refl _ _ | refine Below.alloc ?_ (by simp) _))).mono ?_
        rintro e w1 ⟨rfl, hb⟩
        go_wp2
        go_ret
        exact ⟨ret_intU hr.out.symm, hbw.trans (hb.mono hbw.size)⟩
      · have hr : Hid (leftI left (n + wt cs) = leftI y (wt (cs.dropN ((q + 1) * 5)))) := by
          show _ = _
          rw [Hs.out, hw]; exact (hpos0 hneg).1
        clear hw Hs E hneg0 hpos0
        go_wp2_with fail
        refine (Hcon.out _ (by repeat (first | exact Below.refl _ _ | refine Below.alloc ?_ (by simp) _))).mono ?_
        rintro e w1 ⟨rfl, hb⟩
        go_wp2
        go_roundw
        case rel => exact ⟨q + 1, _, by omega, by go_num, rfl, by omega, by omega, hr, hbw.trans (hb.mono hbw.size)⟩
        case measure => simp [intOf]; omega
    · have e : q = n := by omega
      subst e
      have hr : Hid (leftI left (q + wt cs) = x) := by
        show _ = _
        rw [Hs.out, ← Ht.out.2.2.2.1, UD.dropN_all]
        exact leftI_zero hx0
      clear Hs E
      go_wp2
      go_ret
      exact ⟨ret_intU hr.out.symm, hbw⟩
theorem uszValueS_any {lo hi : Nat} (n : Nat) (cs : UD) (c : Value) (left : Int) (w : World) (ht : tyS 5 n cs 6) (h0 : 0 ≤ left) (h1 : left ≤ 1048576) (hx : uS w lo hi 5 n cs c) :
    Calls Tryd.prog 32 #[c, .int .i64 left] w fun e w' => e = .returned (.int .i64 (leftI left (n + wt cs))) ∧ Below w.heap.size w w' := uszValueS_N (uszD cs + 1) n cs c left w (by omega) ht h0 h1 hx
theorem uszValue_any {lo hi : Nat} (d : UD) (xs : List Value) (left : Int) (w : World) (ht : tyL d (uE 6)) (hx : uH w lo hi d xs) (h0 : 0 ≤ left) (h1 : left ≤ 1048576) :
    Calls Tryd.prog 17 #[.agg xs.toArray, .int .i64 left] w fun e w' => e = .returned (.int .i64 (leftI left (wt d))) ∧ Below w.heap.size w w' := uszValue_of d xs left w (fun n4 c4 x4 l wx _ ht4 q0 q1 hs => uszValueS_any n4 c4 x4 l wx ht4 q0 q1 hs) ht hx h0 h1
set_option maxHeartbeats 800000 in
theorem ueqValue_of {lo hi lo' hi' : Nat} (d : UD) (xs ys : List Value) (w : World) (ih : ∀ (n4 : Nat) (c4 : UD) (x4 y4 : Value) (wx : World), uszD c4 < uszD d → tyS 5 n4 c4 6 → uS wx lo hi 5 n4 c4 x4 → uS wx lo' hi' 5 n4 c4 y4 → Calls Tryd.prog 49 #[x4, y4] wx fun e w' => e = .returned (.bool true) ∧ Below wx.heap.size wx w') (ht : tyL d (uE 6)) (hx : uH w lo hi d xs) (hy : uH w lo' hi' d ys) :
    Calls Tryd.prog 31 #[.agg xs.toArray, .agg ys.toArray] w fun e w' => e = .returned (.bool true) ∧ Below w.heap.size w w' := by
  obtain ⟨z0, z1, z2, n3, c3, n4, c4, rfl, g0, g1, g2, g3, g4⟩ := partsValue ht
  obtain ⟨_, rfl, ⟨_, rfl, ⟨_, rfl, ⟨v3l, _, rfl, s3l, ⟨v4l, _, rfl, s4l, rfl⟩⟩⟩⟩⟩ := hx
  obtain ⟨a3l, p3l, rfl, t3l⟩ := s3l
  obtain ⟨a4l, p4l, rfl, t4l⟩ := s4l
  obtain ⟨_, rfl, ⟨_, rfl, ⟨_, rfl, ⟨v3r, _, rfl, s3r, ⟨v4r, _, rfl, s4r, rfl⟩⟩⟩⟩⟩ := hy
  obtain ⟨a3r, p3r, rfl, t3r⟩ := s3r
  obtain ⟨a4r, p4r, rfl, t4r⟩ := s4r
  have HC0 : Hid (∀ wx : World, Below w.heap.size w wx → Calls Tryd.prog 30 #[.slice a3l n3 p3l, .slice a3r n3 p3r] wx fun e w' => e = .returned (.bool true) ∧ Below wx.heap.size wx w') := fun wx hb => ueqStringS_any (lo := lo) (hi := hi) (lo' := lo') (hi' := hi') n3 c3 _ _ wx g3 ((show uS w lo hi 1 n3 c3 (.slice a3l n3 p3l) from ⟨_, _, rfl, t3l⟩).below hb) ((show uS w lo' hi' 1 n3 c3 (.slice a3r n3 p3r) from ⟨_, _, rfl, t3r⟩).below hb)
  have HC1 : Hid (∀ wx : World, Below w.heap.size w wx → Calls Tryd.prog 49 #[.slice a4l n4 p4l, .slice a4r n4 p4r] wx fun e w' => e = .returned (.bool true) ∧ Below wx.heap.size wx w') := fun wx hb => ih n4 c4 _ _ wx (by simp only [uszD]; omega) g4 ((show uS w lo hi 5 n4 c4 (.slice a4l n4 p4l) from ⟨_, _, rfl, t4l⟩).below hb) ((show uS w lo' hi' 5 n4 c4 (.slice a4r n4 p4r) from ⟨_, _, rfl, t4r⟩).below hb)
  have e0 : (z0 != z0) = false := by simp
  have e1 : (z1.toList == z1.toList) = true := by simp
  have e2 : (z2 != z2) = false := by simp
  have HB : Hid (∀ o o', Below w.heap.size w ((w.alloc o).alloc o')) := fun o o' => ((Below.refl _ _).alloc (Nat.le_refl _) _).alloc (by simp) _
  clear g0 g1 g2 g3 g4 t3l t3r t4l t4r ih
  go_enter Tryd.func31, Tryd.ntmps31
  go_wp2_with fail
  refine (HC0.out _ (HB.out _ _)).mono ?_
  rintro e w1 ⟨rfl, hb1⟩
  have b4 : w1.cell? ⟨w.heap.size, 4, none⟩ = some (.slice a4l n4 p4l) := (hb1.cell (p := ⟨w.heap.size, 4, none⟩) (by simp <;> omega)).trans (by simp [go_sem])
  have d4 : w1.cell? ⟨w.heap.size + 1, 4, none⟩ = some (.slice a4r n4 p4r) := (hb1.cell (p := ⟨w.heap.size + 1, 4, none⟩) (by simp <;> omega)).trans (by simp [go_sem])
  have B1 : Hid (Below w.heap.size w w1) := (HB.out _ _).trans (hb1.mono (by simp; omega))
  clear hb1
  go_wp2_with fail
  refine (HC1.out _ B1.out).mono ?_
  rintro e w2 ⟨rfl, hb2⟩
  have B2 : Hid (Below w.heap.size w w2) := B1.out.trans (hb2.mono B1.out.size)
  clear hb2
  go_wp2
  go_ret
  exact ⟨rfl, B2.out⟩
set_option maxHeartbeats 800000 in
theorem ueqValueS_N {lo hi lo' hi' : Nat} : ∀ (N : Nat) (n : Nat) (cs : UD) (c c' : Value) (w : World), uszD cs < N → tyS 5 n cs 6 → uS w lo hi 5 n cs c → uS w lo' hi' 5 n cs c' →
    Calls Tryd.prog 49 #[c, c'] w fun e w' => e = .returned (.bool true) ∧ Below w.heap.size w w' := by
  intro N
  induction N with
  | zero => intro n cs c c' w hN; omega
  | succ N ihN =>
  intro n cs c c' w hN ht hx hy
  have HI := uhide ihN
  clear ihN
  obtain ⟨a, cap, rfl, hx2⟩ := hx
  obtain ⟨a', cap', rfl, hy2⟩ := hy
  have Hx : Hid (uS w lo hi 5 n cs (.slice a n cap)) := ⟨a, cap, rfl, hx2⟩
  have Hy : Hid (uS w lo' hi' 5 n cs (.slice a' n cap')) := ⟨a', cap', rfl, hy2⟩
  have hmx := ht.2.2.1
  unfold maxLen at hmx
  have Ht := uhide ht
  have hb0 : ((n : Int) != (n : Int)) = false := by simp
  clear hx2 hy2 ht
  go_enter Tryd.func49, Tryd.ntmps49
  go_wp2
  go_loopw [5] (fun i wr => ∃ (q : Nat), q ≤ n ∧ i = .int .i64 q ∧ Below w.heap.size w wr) (fun i _ => n - (intOf i).toNat)
  case atStart => exact ⟨0, Nat.zero_le _, rfl, Below.refl _ _⟩
  case round =>
    obtain ⟨q, hq, rfl, hbw⟩ := hrel
    by_cases hlt : q < n
    · obtain ⟨b, off, rfl, hbb, hm⟩ := (Hx.out.below hbw).cells (by omega)
      obtain ⟨b', off', rfl, hbb', hm'⟩ := (Hy.out.below hbw).cells (by omega)
      have htr := Ht.out.row hlt
      have hsz := uszD_row cs 5 q
      obtain ⟨xs, hh, hcl⟩ := (hm.row 5 q).hand
      obtain ⟨ys, hh', hcl'⟩ := (hm'.row 5 q).hand
      have Hcon : Hid (∀ wx, Below wr.heap.size wr wx → Calls Tryd.prog 31 #[.agg xs.toArray, .agg ys.toArray] wx fun e w' => e = .returned (.bool true) ∧ Hid (Below w.heap.size w w')) := fun wx hb => (ueqValue_of (lo := lo) (hi := hi) (lo' := lo') (hi' := hi') _ _ _ wx (fun n4 c4 x4 y4 wy hlt ht4 s1 s2 => HI.out n4 c4 x4 y4 wy (by omega) ht4 s1 s2) htr (hh.below hb) (hh'.below hb)).mono fun e w' h => ⟨h.1, (hbw.trans (hb.mono hbw.size)).trans (h.2.mono (Nat.le_trans hbw.size hb.size))⟩
      obtain ⟨z0, z1, z2, n3, c3, n4, c4, hR, g0, g1, g2, g3, g4⟩ := partsValue htr
      rw [hR] at hh hh'
      obtain ⟨_, rfl, ⟨_, rfl, ⟨_, rfl, ⟨v3l, _, rfl, s3l, ⟨v4l, _, rfl, s4l, rfl⟩⟩⟩⟩⟩ := hh
      obtain ⟨a3l, p3l, rfl, t3l⟩ := s3l
      obtain ⟨a4l, p4l, rfl, t4l⟩ := s4l
      obtain ⟨_, rfl, ⟨_, rfl, ⟨_, rfl, ⟨v3r, _, rfl, s3r, ⟨v4r, _, rfl, s4r, rfl⟩⟩⟩⟩⟩ := hh'
      obtain ⟨a3r, p3r, rfl, t3r⟩ := s3r
      obtain ⟨a4r, p4r, rfl, t4r⟩ := s4r
      have q0 : wr.cell? ⟨b, off + q * 5, none⟩ = some (.int .i64 z0) := hcl 0 _ rfl
      have q1 : wr.cell? ⟨b, off + q * 5 + 1, none⟩ = some (.string z1) := hcl 1 _ rfl
      have q2 : wr.cell? ⟨b, off + q * 5 + 2, none⟩ = some (.int .i64 z2) := hcl 2 _ rfl
      have q3 : wr.cell? ⟨b, off + q * 5 + 3, none⟩ = some (.slice a3l n3 p3l) := hcl 3 _ rfl
      have q4 : wr.cell? ⟨b, off + q * 5 + 4, none⟩ = some (.slice a4l n4 p4l) := hcl 4 _ rfl
      have r0 : wr.cell? ⟨b', off' + q * 5, none⟩ = some (.int .i64 z0) := hcl' 0 _ rfl
      have r1 : wr.cell? ⟨b', off' + q * 5 + 1, none⟩ = some (.string z1) := hcl' 1 _ rfl
      have r2 : wr.cell? ⟨b', off' + q * 5 + 2, none⟩ = some (.int .i64 z2) := hcl' 2 _ rfl
      have r3 : wr.cell? ⟨b', off' + q * 5 + 3, none⟩ = some (.slice a3r n3 p3r) := hcl' 3 _ rfl
      have r4 : wr.cell? ⟨b', off' + q * 5 + 4, none⟩ = some (.slice a4r n4 p4r) := hcl' 4 _ rfl
      clear hR hcl hcl' hm hm' htr hsz g0 g1 g2 g3 g4 t3l t3r t4l t4r
      clear Hx Hy Ht
      go_wp2
      go_region_with (go_at_call 31; refine (Hcon.out _ (by repeat (first | exact Below.refl _ _ | refine Below.drew ?_ | refine below_drewN ?_ _))).mono ?_; rintro e w2 ⟨rfl, hb2⟩)
      all_goals go_wp2
      all_goals (
        go_roundw
        case rel => exact ⟨q + 1, by omega, by go_num, by repeat (first | exact hb2.out | refine Below.drew ?_ | refine below_drewN ?_ _)⟩
        case measure => simp [intOf]; omega)
    · have e : q = n := by omega
      subst e
      go_wp2
      go_ret
      exact ⟨rfl, hbw⟩
theorem ueqValueS_any {lo hi lo' hi' : Nat} (n : Nat) (cs : UD) (c c' : Value) (w : World) (ht : tyS 5 n cs 6) (hx : uS w lo hi 5 n cs c) (hy : uS w lo' hi' 5 n cs c') :
    Calls Tryd.prog 49 #[c, c'] w fun e w' => e = .returned (.bool true) ∧ Below w.heap.size w w' := ueqValueS_N (uszD cs + 1) n cs c c' w (by omega) ht hx hy
theorem ueqValue_any {lo hi lo' hi' : Nat} (d : UD) (xs ys : List Value) (w : World) (ht : tyL d (uE 6)) (hx : uH w lo hi d xs) (hy : uH w lo' hi' d ys) :
    Calls Tryd.prog 31 #[.agg xs.toArray, .agg ys.toArray] w fun e w' => e = .returned (.bool true) ∧ Below w.heap.size w w' := ueqValue_of d xs ys w (fun n4 c4 x4 y4 wx _ ht4 s1 s2 => ueqValueS_any n4 c4 x4 y4 wx ht4 s1 s2) ht hx hy
set_option maxHeartbeats 1600000 in
theorem utoValue_of {lo hi : Nat} (d : UD) (xs : List Value) (w : World) (ih : ∀ (n4 : Nat) (c4 : UD) (x4 : Value) (wx : World), uszD c4 < uszD d → tyS 5 n4 c4 6 → n4 + wt c4 ≤ 1048576 → uS wx lo hi 5 n4 c4 x4 → Calls Tryd.prog 36 #[x4] wx fun e w' => ∃ c' S, e = .returned c' ∧ oS w' 5 n4 c4 c' S ∧ S.Nodup ∧ (∀ s ∈ S, wx.heap.size ≤ s) ∧ Below wx.heap.size wx w') (ht : tyL d (uE 6)) (hn : wt d ≤ 1048576) (hx : uH w lo hi d xs) :
    Calls Tryd.prog 25 #[.agg xs.toArray] w fun e w' => ∃ ys S, e = .returned (.agg ys.toArray) ∧ oH w' d ys S ∧ S.Nodup ∧ (∀ s ∈ S, w.heap.size ≤ s) ∧ Below w.heap.size w w' := by
  obtain ⟨z0, z1, z2, n3, c3, n4, c4, rfl, g0, g1, g2, g3, g4⟩ := partsValue ht
  obtain ⟨_, rfl, ⟨_, rfl, ⟨_, rfl, ⟨v3l, _, rfl, s3l, ⟨v4l, _, rfl, s4l, rfl⟩⟩⟩⟩⟩ := hx
  obtain ⟨a3l, p3l, rfl, t3l⟩ := s3l
  obtain ⟨a4l, p4l, rfl, t4l⟩ := s4l
  simp only [wt, wtP] at hn
  have HC0 : Hid (∀ wx : World, Below w.heap.size w wx → Calls Tryd.prog 24 #[.slice a3l n3 p3l] wx fun e w' => ∃ a p S, e = .returned (.slice a n3 p) ∧ Hid (oS w' 1 n3 c3 (.slice a n3 p) S) ∧ Hid (own2 S wx.heap.size w'.heap.size) ∧ Below wx.heap.size wx w') := fun wx hb => (utoStringS_any (lo := lo) (hi := hi) n3 c3 _ wx g3 (by omega) ((show uS w lo hi 1 n3 c3 (.slice a3l n3 p3l) from ⟨_, _, rfl, t3l⟩).below hb)).mono fun e w' ⟨c', S, h1, h2, h3, h4, h5⟩ => by
    obtain ⟨a, p, rfl⟩ := h2.slice
    exact ⟨a, p, S, h1, h2, ⟨h3, fun s hs => ⟨h4 s hs, h2.lt s hs⟩⟩, h5⟩
  have HC1 : Hid (∀ wx : World, Below w.heap.size w wx → Calls Tryd.prog 36 #[.slice a4l n4 p4l] wx fun e w' => ∃ a p S, e = .returned (.slice a n4 p) ∧ Hid (oS w' 5 n4 c4 (.slice a n4 p) S) ∧ Hid (own2 S wx.heap.size w'.heap.size) ∧ Below wx.heap.size wx w') := fun wx hb => (ih n4 c4 _ wx (by simp only [uszD]; omega) g4 (by omega) ((show uS w lo hi 5 n4 c4 (.slice a4l n4 p4l) from ⟨_, _, rfl, t4l⟩).below hb)).mono fun e w' ⟨c', S, h1, h2, h3, h4, h5⟩ => by
    obtain ⟨a, p, rfl⟩ := h2.slice
    exact ⟨a, p, S, h1, h2, ⟨h3, fun s hs => ⟨h4 s hs, h2.lt s hs⟩⟩, h5⟩
  have HA : Hid (∀ o1 o2 o3, Below w.heap.size w (((w.alloc o1).alloc o2).alloc o3)) := fun o1 o2 o3 => (((Below.refl _ _).alloc (Nat.le_refl _) _).alloc (by simp) _).alloc (by simp; omega) _
  clear hn ht g0 g1 g2 g3 g4 t3l t4l ih
  go_enter Tryd.func25, Tryd.ntmps25
  go_wp2_with fail
  refine (HC0.out _ (by repeat (first | with_reducible exact HA.out _ _ _ | with_reducible assumption | with_reducible refine Below.setCell ?_ (by simp <;> omega) _))).mono ?_
  rintro e w1 ⟨a3r, p3r, S1, rfl, O1, W1, hb1⟩
  have OA1 : Hid (objU w1 w.heap.size 33 [.int .i64 z0, .string z1, .int .i64 z2, .slice a3l n3 p3l, .slice a4l n4 p4l]) := objU.below (by repeat (first | with_reducible exact objU.new2 _ _ rfl | with_reducible refine objU.other ?_ _ (by simp <;> omega) _ | with_reducible refine objU.old ?_ _)) hb1
  have OR1 : Hid (objU w1 (w.heap.size + 1) 39 [.int .i64 0, .string ⟨#[]⟩, .int .i64 0, .slice none 0 0, .slice none 0 0]) := objU.below (by repeat (first | with_reducible exact objU.new2 _ _ (by simp) | with_reducible refine objU.other ?_ _ (by simp <;> omega) _ | with_reducible refine objU.old ?_ _)) hb1
  have OO1 : Hid (objU w1 (w.heap.size + 1 + 1) 39 [.int .i64 z0, .string z1, .int .i64 z2, .slice none 0 0, .slice none 0 0]) := objU.below (by repeat (first | with_reducible exact objU.new2 _ _ (by simp) | with_reducible refine objU.old ?_ _)) hb1
  have hsz1 : w.heap.size + 1 + 1 + 1 ≤ w1.heap.size := by have := hb1.size; simpa using this
  replace W1 := uhide (W1.out.mono (a' := w.heap.size + 1 + 1 + 1) (by simp <;> omega) (Nat.le_refl _))
  have HB1 : Hid (Below w.heap.size w w1) := Below.trans (by repeat (first | with_reducible exact HA.out _ _ _ | with_reducible refine Below.setCell ?_ (by simp <;> omega) _)) (hb1.mono (by simp <;> omega))
  clear hb1
  have co3_1 : w1.cell? ⟨w.heap.size + 1 + 1, 3, none⟩ = some (.slice none 0 0) := OO1.out.cell 3 _ rfl
  have fo3_1 : w1.frozen? ⟨w.heap.size + 1 + 1, 3, none⟩ = false := OO1.out.fz 3
  have ca4_1 : w1.cell? ⟨w.heap.size, 4, none⟩ = some (.slice a4l n4 p4l) := OA1.out.cell 4 _ rfl
  have co4_1 : w1.cell? ⟨w.heap.size + 1 + 1, 4, none⟩ = some (.slice none 0 0) := OO1.out.cell 4 _ rfl
  have fo4_1 : w1.frozen? ⟨w.heap.size + 1 + 1, 4, none⟩ = false := OO1.out.fz 4
  go_wp2_with fail
  refine (HC1.out _ (by repeat (first | with_reducible exact HA.out _ _ _ | with_reducible assumption | with_reducible refine Below.setCell ?_ (by simp <;> omega) _ | with_reducible exact HB1.out))).mono ?_
  rintro e w2 ⟨a4r, p4r, S2, rfl, O2, W2, hb2⟩
  have OA2 : Hid (objU w2 w.heap.size 33 [.int .i64 z0, .string z1, .int .i64 z2, .slice a3l n3 p3l, .slice a4l n4 p4l]) := objU.below (by repeat (first | with_reducible exact OA1.out | with_reducible refine objU.other ?_ _ (by simp <;> omega) _ | with_reducible refine objU.old ?_ _)) hb2
  have OR2 : Hid (objU w2 (w.heap.size + 1) 39 [.int .i64 0, .string ⟨#[]⟩, .int .i64 0, .slice none 0 0, .slice none 0 0]) := objU.below (by repeat (first | with_reducible exact OR1.out | with_reducible refine objU.other ?_ _ (by simp <;> omega) _ | with_reducible refine objU.old ?_ _)) hb2
  have OO2 : Hid (objU w2 (w.heap.size + 1 + 1) 39 [.int .i64 z0, .string z1, .int .i64 z2, .slice a3r n3 p3r, .slice none 0 0]) := objU.below (by refine objU.set (xs := [.int .i64 z0, .string z1, .int .i64 z2, .slice none 0 0, .slice none 0 0]) ?_ 3 _; exact OO1.out) hb2
  replace O1 := uhide ((oS.outs O1.out (T := [w.heap.size + 1 + 1]) (by repeat (first | with_reducible exact OutS.refl _ _ | with_reducible refine OutS.setCell ?_ (show _ ∈ [w.heap.size + 1 + 1] by simp) _)) W1.out (fun x hx => by simp at hx; omega)).below hb2)
  have hsz2 : w1.heap.size ≤ w2.heap.size := Nat.le_trans (by simp) hb2.size
  replace W2 := uhide (W2.out.mono (a' := w1.heap.size) (by simp) (Nat.le_refl _))
  have HB2 : Hid (Below w.heap.size w w2) := Below.trans (by repeat (first | with_reducible exact HB1.out | with_reducible refine Below.setCell ?_ (by simp <;> omega) _)) (hb2.mono (by simp <;> omega))
  clear hb2
  clear OA1 OR1 OO1 HB1
  have co4_2 : w2.cell? ⟨w.heap.size + 1 + 1, 4, none⟩ = some (.slice none 0 0) := OO2.out.cell 4 _ rfl
  have fo4_2 : w2.frozen? ⟨w.heap.size + 1 + 1, 4, none⟩ = false := OO2.out.fz 4
  have co0_2 : w2.cell? ⟨w.heap.size + 1 + 1, 0, none⟩ = some (.int .i64 z0) := OO2.out.cell 0 _ rfl
  have cr0 : w2.cell? ⟨w.heap.size + 1, 0, none⟩ = some (.int .i64 0) := OR2.out.cell 0 _ rfl
  have fr0 : w2.frozen? ⟨w.heap.size + 1, 0, none⟩ = false := OR2.out.fz 0
  have co1_2 : w2.cell? ⟨w.heap.size + 1 + 1, 1, none⟩ = some (.string z1) := OO2.out.cell 1 _ rfl
  have cr1 : w2.cell? ⟨w.heap.size + 1, 1, none⟩ = some (.string ⟨#[]⟩) := OR2.out.cell 1 _ rfl
  have fr1 : w2.frozen? ⟨w.heap.size + 1, 1, none⟩ = false := OR2.out.fz 1
  have co2_2 : w2.cell? ⟨w.heap.size + 1 + 1, 2, none⟩ = some (.int .i64 z2) := OO2.out.cell 2 _ rfl
  have cr2 : w2.cell? ⟨w.heap.size + 1, 2, none⟩ = some (.int .i64 0) := OR2.out.cell 2 _ rfl
  have fr2 : w2.frozen? ⟨w.heap.size + 1, 2, none⟩ = false := OR2.out.fz 2
  have co3_2 : w2.cell? ⟨w.heap.size + 1 + 1, 3, none⟩ = some (.slice a3r n3 p3r) := OO2.out.cell 3 _ rfl
  have cr3 : w2.cell? ⟨w.heap.size + 1, 3, none⟩ = some (.slice none 0 0) := OR2.out.cell 3 _ rfl
  have fr3 : w2.frozen? ⟨w.heap.size + 1, 3, none⟩ = false := OR2.out.fz 3
  have cr4 : w2.cell? ⟨w.heap.size + 1, 4, none⟩ = some (.slice none 0 0) := OR2.out.cell 4 _ rfl
  have fr4 : w2.frozen? ⟨w.heap.size + 1, 4, none⟩ = false := OR2.out.fz 4
  go_wp2
  refine bodyPost_ret (v := .agg #[.int .i64 z0, .string z1, .int .i64 z2, .slice a3r n3 p3r, .slice a4r n4 p4r]) ?_ rfl ⟨[.int .i64 z0, .string z1, .int .i64 z2, .slice a3r n3 p3r, .slice a4r n4 p4r], (S1 ++ (S2 ++ [])), rfl, ?_, ?_⟩
  · simp [results, Tryd.results25, go_sem, cr0, cr1, cr2, cr3, cr4]
  · exact oH.consP _ (oH.consP _ (oH.consP _ (oH.consS (oS.outs O1.out (T := [w.heap.size + 1, w.heap.size + 1 + 1]) (by repeat (first | with_reducible exact OutS.refl _ _ | with_reducible refine OutS.setCell ?_ (show _ ∈ [w.heap.size + 1, w.heap.size + 1 + 1] by simp) _)) W1.out (fun x hx => by simp at hx; omega)) (oH.consS (oS.outs O2.out (T := [w.heap.size + 1, w.heap.size + 1 + 1]) (by repeat (first | with_reducible exact OutS.refl _ _ | with_reducible refine OutS.setCell ?_ (show _ ∈ [w.heap.size + 1, w.heap.size + 1 + 1] by simp) _)) W2.out (fun x hx => by simp at hx; omega)) (oH.nil _)))))
  · have HW := own2.app W1.out (own2.app W2.out (own2.nil w2.heap.size w2.heap.size) (by omega) (by omega) (by omega)) (by omega) (by omega) (by omega)
    refine ⟨HW.1, fun s hs => (by have := HW.2 s hs; omega), ?_⟩
    repeat (first | with_reducible exact HB2.out | with_reducible refine Below.setCell ?_ (by simp <;> omega) _)
theorem Tryd.infoUValue : (Tryd.prog.info? 39).map (fun i => (i.zero, i.size, decide (i.bytes ≤ 1000))) = some (some (.agg #[.int .i64 0, .string ByteArray.empty, .int .i64 0, .slice none 0 0, .slice none 0 0]), 5, true) := by kernel_rfl
set_option maxHeartbeats 1600000 in
theorem utoValueS_N {lo hi : Nat} : ∀ (N : Nat) (n : Nat) (cs : UD) (c : Value) (w : World), uszD cs < N → tyS 5 n cs 6 → n + wt cs ≤ 1048576 → uS w lo hi 5 n cs c →
    Calls Tryd.prog 36 #[c] w fun e w' => ∃ c' S, e = .returned c' ∧ oS w' 5 n cs c' S ∧ S.Nodup ∧ (∀ s ∈ S, w.heap.size ≤ s) ∧ Below w.heap.size w w' := by
  intro N
  induction N with
  | zero => intro n cs c w hN; omega
  | succ N ihN =>
  intro n cs c w hN ht hn hx
  have HI := uhide ihN
  clear ihN
  obtain ⟨i0, hinf, hz0, hz1, hz2⟩ : ∃ i, Tryd.prog.info? 39 = some i ∧ i.zero = some (.agg #[.int .i64 0, .string ByteArray.empty, .int .i64 0, .slice none 0 0, .slice none 0 0]) ∧ i.size = 5 ∧ i.bytes ≤ 1000 := by
    have h := Tryd.infoUValue
    cases e : Tryd.prog.info? 39 with
    | none => rw [e] at h; cases h
    | some i => rw [e] at h; simp at h; exact ⟨i, rfl, h.1, h.2.1, h.2.2⟩
  obtain ⟨a, cap, rfl, hx2⟩ := hx
  have Hx : Hid (uS w lo hi 5 n cs (.slice a n cap)) := ⟨a, cap, rfl, hx2⟩
  have Ht := uhide ht
  have Hn : Hid (∀ q, q < n → wt (rowU cs 5 q) ≤ 1048576) := fun q hq => by have := wt_row cs 5 q; omega
  have hnn : n ≤ 1048576 := by omega
  have hbb : i0.bytes * n ≤ 281474976710656 := Nat.le_trans (Nat.mul_le_mul hz2 hnn) (by decide)
  clear hx2 ht hn
  go_enter Tryd.func36, Tryd.ntmps36
  go_wp2_with (at_make; refine wpList_make_full _ rfl _ _ 37 rfl w.heap.size 39 i0 _ 5 Tryd.underlying37 hinf hz0 hz1 _ _ _ _ n rfl rfl rfl rfl hbb (by unfold maxLen; omega) (Nat.le_refl _) ?_; intro w1 hown hgrow)
  have T0 := uhide (TS.start (cs := cs) hown (Below.grown (Below.refl _ _) hgrow (Nat.le_refl _) (fun k hk => by cases hk)))
  clear hown hgrow
  go_loopw [4] (fun i wr => ∃ (q : Nat), q ≤ n ∧ i = .int .i64 q ∧ Hid (TS w wr 39 5 n cs q)) (fun i _ => n - (intOf i).toNat)
  case atStart => exact ⟨0, Nat.zero_le _, rfl, T0⟩
  case round =>
    clear T0
    obtain ⟨q, hq, rfl, HT⟩ := hrel
    by_cases hlt : q < n
    · obtain ⟨b, off, rfl, hbk, hm⟩ := (Hx.out.below HT.out.bel).cells (by omega)
      have htr := Ht.out.row hlt
      have hwr := Hn.out q hlt
      have hsz := uszD_row cs 5 q
      obtain ⟨xs, hh, hcl⟩ := (hm.row 5 q).hand
      have Hcon : Hid (∀ wx, Below wr.heap.size wr wx → Calls Tryd.prog 25 #[.agg xs.toArray] wx fun e w' => ∃ ys S, e = .returned (.agg ys.toArray) ∧ oH w' (rowU cs 5 q) ys S ∧ S.Nodup ∧ (∀ s ∈ S, wx.heap.size ≤ s) ∧ Below wx.heap.size wx w') := fun wx hb => utoValue_of (lo := lo) (hi := hi) _ _ wx (fun n4 c4 x4 wy hlt ht4 q0 hs4 => HI.out n4 c4 x4 wy (by omega) ht4 q0 hs4) htr hwr (hh.below hb)
      obtain ⟨z0, z1, z2, n3, c3, n4, c4, hR, g0, g1, g2, g3, g4⟩ := partsValue htr
      rw [hR] at hh
      obtain ⟨_, rfl, ⟨_, rfl, ⟨_, rfl, ⟨v3l, _, rfl, s3l, ⟨v4l, _, rfl, s4l, rfl⟩⟩⟩⟩⟩ := hh
      obtain ⟨a3l, p3l, rfl, t3l⟩ := s3l
      obtain ⟨a4l, p4l, rfl, t4l⟩ := s4l
      have q0 : wr.cell? ⟨b, off + q * 5, none⟩ = some (.int .i64 z0) := hcl 0 _ rfl
      have q1 : wr.cell? ⟨b, off + q * 5 + 1, none⟩ = some (.string z1) := hcl 1 _ rfl
      have q2 : wr.cell? ⟨b, off + q * 5 + 2, none⟩ = some (.int .i64 z2) := hcl 2 _ rfl
      have q3 : wr.cell? ⟨b, off + q * 5 + 3, none⟩ = some (.slice a3l n3 p3l) := hcl 3 _ rfl
      have q4 : wr.cell? ⟨b, off + q * 5 + 4, none⟩ = some (.slice a4l n4 p4l) := hcl 4 _ rfl
      have HR := uhide hR
      have HS : Hid (∀ (w2 : World) ys S, oH w2 (rowU cs 5 q) ys S → ∃ a3r p3r a4r p4r , ys = [.int .i64 z0, .string z1, .int .i64 z2, .slice a3r n3 p3r, .slice a4r n4 p4r]) := by
        intro w2 ys S h
        rw [HR.out] at h
        obtain ⟨_, rfl, ⟨_, rfl, ⟨_, rfl, ⟨v3, _, _, _, rfl, _, _, ⟨_, _, o3, _⟩, ⟨v4, _, _, _, rfl, _, _, ⟨_, _, o4, _⟩, ⟨rfl, _⟩⟩⟩⟩⟩⟩ := h
        obtain ⟨a3, p3, rfl⟩ := uowns_slice o3
        obtain ⟨a4, p4, rfl⟩ := uowns_slice o4
        exact ⟨a3, p3, a4, p4, rfl⟩
      have hKn : q * 5 + 5 ≤ n * 5 := by have := Nat.mul_le_mul_right 5 (show q + 1 ≤ n by omega); rw [Nat.succ_mul] at this; exact this
      clear hR hcl hm htr hsz hwr HR g0 g1 g2 g3 g4 t3l t4l
      go_wp2_with fail
      refine (Hcon.out _ (by repeat (first | exact Below.refl _ _ | refine Below.alloc ?_ (by simp) _))).mono ?_
      rintro e w2 ⟨ys, S, rfl, ho, hnd, hS, hb2⟩
      obtain ⟨a3r, p3r, a4r, p4r, rfl⟩ := HS.out _ _ _ ho
      have HT2 := uhide (HT.out.below hb2)
      have T1 := uhide (HT.out.step hb2 ho hnd hS Ht.out.2.2.2.1 hlt)
      obtain ⟨d0, p0x⟩ := HT2.out.cell (q * 5) (by omega)
      have f0 := HT2.out.fz (q * 5)
      obtain ⟨d1, p1x⟩ := HT2.out.cell (q * 5 + 1) (by omega)
      have f1 := HT2.out.fz (q * 5 + 1)
      obtain ⟨d2, p2x⟩ := HT2.out.cell (q * 5 + 2) (by omega)
      have f2 := HT2.out.fz (q * 5 + 2)
      obtain ⟨d3, p3x⟩ := HT2.out.cell (q * 5 + 3) (by omega)
      have f3 := HT2.out.fz (q * 5 + 3)
      obtain ⟨d4, p4x⟩ := HT2.out.cell (q * 5 + 4) (by omega)
      have f4 := HT2.out.fz (q * 5 + 4)
      clear ho hnd hS hb2 Hcon HS HT HT2 Hx Ht Hn
      go_wp2
      go_roundw
      case rel => exact ⟨q + 1, by omega, by go_num, T1⟩
      case measure => simp [intOf]; omega
    · have e : q = n := by omega
      subst e
      obtain ⟨S, h1, h2, h3, h4⟩ := HT.out.done (by decide) Ht.out.2.2.2.1
      have HS : Hid (oS wr 5 q cs (.slice (some ⟨w.heap.size, 0, none⟩) q q) S ∧ S.Nodup ∧ (∀ s ∈ S, w.heap.size ≤ s) ∧ Below w.heap.size w wr) := ⟨h1, h2, h3, h4⟩
      clear h1 h2 h3 h4
      go_wp2
      go_ret
      exact ⟨_, S, rfl, HS.out⟩
theorem utoValueS_any {lo hi : Nat} (n : Nat) (cs : UD) (c : Value) (w : World) (ht : tyS 5 n cs 6) (hn : n + wt cs ≤ 1048576) (hx : uS w lo hi 5 n cs c) :
    Calls Tryd.prog 36 #[c] w fun e w' => ∃ c' S, e = .returned c' ∧ oS w' 5 n cs c' S ∧ S.Nodup ∧ (∀ s ∈ S, w.heap.size ≤ s) ∧ Below w.heap.size w w' := utoValueS_N (uszD cs + 1) n cs c w (by omega) ht hn hx
theorem utoValue_any {lo hi : Nat} (d : UD) (xs : List Value) (w : World) (ht : tyL d (uE 6)) (hn : wt d ≤ 1048576) (hx : uH w lo hi d xs) :
    Calls Tryd.prog 25 #[.agg xs.toArray] w fun e w' => ∃ ys S, e = .returned (.agg ys.toArray) ∧ oH w' d ys S ∧ S.Nodup ∧ (∀ s ∈ S, w.heap.size ≤ s) ∧ Below w.heap.size w w' := utoValue_of d xs w (fun n4 c4 x4 wx _ ht4 q0 hs => utoValueS_any n4 c4 x4 wx ht4 q0 hs) ht hn hx
end Go.Proofs.YtkdiinjkpmkcpaaDoor

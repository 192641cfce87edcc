/- Texts of one claim, joined: each in its own section, in build order. -/
import Derived.Test.YtdnodaoeflbfkaaGreatJ2
import Derived.Test.YtdnodaoeflbfkaaGreatChecked
import Derived.Deep.RegionHeld3
/- Data as cells: the helpers of the laws over Value. -/
namespace Go.Proofs.YtdnodaoeflbfkaaGreat
open Go.RowKit Go.BigFrame
set_option linter.unusedVariables false

set_option maxHeartbeats 800000 in
theorem uszValue_of {lo hi : Nat} (d : UD) (xs : List Value) (left : Int) (w : World) (ih : ∀ (n4 : Nat) (c4 : UD) (x4 : Value) (l : Int) (wx : World), uszD c4 < uszD d → tyS 5 n4 c4 6 → 0 ≤ l → l ≤ 1048576 → uS wx lo hi 5 n4 c4 x4 → Calls Tryz.prog 107 #[x4, .int .i64 l] wx fun e w' => e = .returned (.int .i64 (leftI l (n4 + wt c4))) ∧ Below wx.heap.size wx w') (ht : tyL d (uE 6)) (hx : uH w lo hi d xs) (h0 : 0 ≤ left) (h1 : left ≤ 1048576) :
    Calls Tryz.prog 47 #[.agg xs.toArray, .int .i64 left] w fun e w' => e = .returned (.int .i64 (leftI left (wt d))) ∧ Below w.heap.size w w' := by
  obtain ⟨z0, z1, z2, n3, c3, n4, c4, rfl, g0, g1, g2, g3, g4⟩ := partsValue ht
  obtain ⟨_, rfl, ⟨_, rfl, ⟨_, rfl, ⟨v3, _, rfl, s3, ⟨v4, _, rfl, s4, rfl⟩⟩⟩⟩⟩ := hx
  obtain ⟨a3, p3, rfl, t3⟩ := s3
  obtain ⟨a4, p4, rfl, t4⟩ := s4
  obtain ⟨M1, hM1⟩ : ∃ M, M = (n3 + wt c3) := ⟨_, rfl⟩
  have HC1 : Hid (∀ (wx : World) (l : Int), Below w.heap.size w wx → 0 ≤ l → l ≤ 1048576 → Calls Tryz.prog 48 #[.slice a3 n3 p3, .int .i64 l] wx fun e w' => e = .returned (.int .i64 (leftI l M1)) ∧ Below wx.heap.size wx w') := fun wx l hb q0 q1 => hM1 ▸ uszStringS_any (lo := lo) (hi := hi) n3 c3 _ l wx g3 q0 q1 ((show uS w lo hi 1 n3 c3 (.slice a3 n3 p3) from ⟨_, _, rfl, t3⟩).below hb)
  obtain ⟨M2, hM2⟩ : ∃ M, M = (n4 + wt c4) := ⟨_, rfl⟩
  have HC2 : Hid (∀ (wx : World) (l : Int), Below w.heap.size w wx → 0 ≤ l → l ≤ 1048576 → Calls Tryz.prog 107 #[.slice a4 n4 p4, .int .i64 l] wx fun e w' => e = .returned (.int .i64 (leftI l M2)) ∧ Below wx.heap.size wx w') := fun wx l hb q0 q1 => hM2 ▸ ih n4 c4 _ l wx (by simp only [uszD]; omega) g4 q0 q1 ((show uS w lo hi 5 n4 c4 (.slice a4 n4 p4) from ⟨_, _, rfl, t4⟩).below hb)
  have E : Hid (leftI left (wt (.p (.int .i64 z0) (.p (.string z1) (.p (.int .i64 z2) (.l 1 n3 c3 (.l 5 n4 c4 .nil)))))) = leftI left (z1.size + (M1 + (M2 + 0)))) := by show _ = _; congr 1; simp only [wt, wtP, hM1, hM2]; omega
  generalize leftI left (wt (.p (.int .i64 z0) (.p (.string z1) (.p (.int .i64 z2) (.l 1 n3 c3 (.l 5 n4 c4 .nil)))))) = R at *
  have HA : Hid (∀ o, Below w.heap.size w (w.alloc o)) := fun o => (Below.refl _ _).alloc (Nat.le_refl _) _
  unfold maxLen at g1
  clear t3 t4 hM1 hM2 g3 g4 ih
  by_cases k0 : left - (z1.size : Int) < 0
  · have EN : Hid (R = -1) := by show _ = _; rw [E.out]; exact leftI_neg _ (by omega) (by unfold leftI; split <;> omega)
    clear E
    go_enter Tryz.func47, Tryz.ntmps47
    go_wp2
    go_ret
    exact ⟨ret_intU EN.out.symm, HA.out _⟩
  replace E : Hid (R = leftI (left - (z1.size : Int)) (M1 + (M2 + 0))) := by
    obtain ⟨q1, q2, q3⟩ := leftI_pos (x := left) (a := z1.size) (M1 + (M2 + 0)) (by unfold leftI; split <;> omega)
    show _ = _; rw [E.out, q1, q2]
  obtain ⟨y1, hy1⟩ : ∃ y, y = leftI (left - (z1.size : Int)) M1 := ⟨_, rfl⟩
  have Y1 := uhide hy1
  by_cases k1 : y1 < 0
  · have EN : Hid (R = -1) := by show _ = _; rw [E.out]; exact leftI_neg _ (by omega) (by rw [← hy1]; exact k1)
    clear E hy1
    go_enter Tryz.func47, Tryz.ntmps47
    go_wp2_with fail
    refine (HC1.out _ _ (HA.out _) (by omega) (by omega)).mono ?_
    rintro e w1 ⟨rfl, hb1⟩
    have B1 : Hid (Below w.heap.size w w1) := (HA.out _).trans (hb1.mono (by simp))
    clear hb1
    rw [show leftI (left - (z1.size : Int)) M1 = y1 from Y1.out.symm]
    go_wp2
    go_ret
    exact ⟨ret_intU EN.out.symm, B1.out⟩
  replace E : Hid (R = leftI y1 (M2 + 0)) := by
    obtain ⟨q1, q2, q3⟩ := leftI_pos (x := (left - (z1.size : Int))) (a := M1) (M2 + 0) (by rw [← hy1]; exact k1)
    show _ = _; rw [E.out, q1, ← hy1]
  have u1 : y1 ≤ (left - (z1.size : Int)) := by rw [hy1]; unfold leftI; split <;> omega
  clear hy1
  obtain ⟨y2, hy2⟩ : ∃ y, y = leftI y1 M2 := ⟨_, rfl⟩
  have Y2 := uhide hy2
  by_cases k2 : y2 < 0
  · have EN : Hid (R = -1) := by show _ = _; rw [E.out]; exact leftI_neg _ (by omega) (by rw [← hy2]; exact k2)
    clear E hy2
    go_enter Tryz.func47, Tryz.ntmps47
    go_wp2_with fail
    refine (HC1.out _ _ (HA.out _) (by omega) (by omega)).mono ?_
    rintro e w1 ⟨rfl, hb1⟩
    have b4 : w1.cell? ⟨w.heap.size, 4, none⟩ = some (.slice a4 n4 p4) := (hb1.cell (p := ⟨w.heap.size, 4, none⟩) (by simp <;> omega)).trans (by simp [go_sem])
    have B1 : Hid (Below w.heap.size w w1) := (HA.out _).trans (hb1.mono (by simp))
    clear hb1
    rw [show leftI (left - (z1.size : Int)) M1 = y1 from Y1.out.symm]
    go_wp2_with fail
    refine (HC2.out _ _ (by repeat (first | assumption | exact HA.out _ | exact B1.out)) (by omega) (by omega)).mono ?_
    rintro e w2 ⟨rfl, hb2⟩
    have B2 : Hid (Below w.heap.size w w2) := B1.out.trans (hb2.mono B1.out.size)
    clear hb2
    rw [show leftI y1 M2 = y2 from Y2.out.symm]
    go_wp2
    go_ret
    exact ⟨ret_intU EN.out.symm, B2.out⟩
  replace E : Hid (R = leftI y2 (0)) := by
    obtain ⟨q1, q2, q3⟩ := leftI_pos (x := y1) (a := M2) (0) (by rw [← hy2]; exact k2)
    show _ = _; rw [E.out, q1, ← hy2]
  have u2 : y2 ≤ y1 := by rw [hy2]; unfold leftI; split <;> omega
  clear hy2
  replace E : Hid (R = y2) := E.out.trans (leftI_zero (by omega))
  go_enter Tryz.func47, Tryz.ntmps47
  go_wp2_with fail
  refine (HC1.out _ _ (HA.out _) (by omega) (by omega)).mono ?_
  rintro e w1 ⟨rfl, hb1⟩
  have b4 : w1.cell? ⟨w.heap.size, 4, none⟩ = some (.slice a4 n4 p4) := (hb1.cell (p := ⟨w.heap.size, 4, none⟩) (by simp <;> omega)).trans (by simp [go_sem])
  have B1 : Hid (Below w.heap.size w w1) := (HA.out _).trans (hb1.mono (by simp))
  clear hb1
  rw [show leftI (left - (z1.size : Int)) M1 = y1 from Y1.out.symm]
  go_wp2_with fail
  refine (HC2.out _ _ (by repeat (first | assumption | exact HA.out _ | exact B1.out)) (by omega) (by omega)).mono ?_
  rintro e w2 ⟨rfl, hb2⟩
  have B2 : Hid (Below w.heap.size w w2) := B1.out.trans (hb2.mono B1.out.size)
  clear hb2
  rw [show leftI y1 M2 = y2 from Y2.out.symm]
  go_wp2
  go_ret
  exact ⟨ret_intU E.out.symm, B2.out⟩
set_option maxHeartbeats 800000 in
theorem uszValueS_N {lo hi : Nat} : ∀ (N : Nat) (n : Nat) (cs : UD) (c : Value) (left : Int) (w : World), uszD cs < N → tyS 5 n cs 6 → 0 ≤ left → left ≤ 1048576 → uS w lo hi 5 n cs c →
    Calls Tryz.prog 107 #[c, .int .i64 left] w fun e w' => e = .returned (.int .i64 (leftI left (n + wt cs))) ∧ Below w.heap.size w w' := by
  intro N
  induction N with
  | zero => intro n cs c left w hN; omega
  | succ N ihN =>
  intro n cs c left w hN ht h0 h1 hx
  have HI := uhide ihN
  clear ihN
  obtain ⟨a, cap, rfl, hx2⟩ := hx
  have Hx : Hid (uS w lo hi 5 n cs (.slice a n cap)) := ⟨a, cap, rfl, hx2⟩
  have hmx := ht.2.2.1
  unfold maxLen at hmx
  have Ht := uhide ht
  clear hx2 ht
  by_cases c1 : left - (n : Int) < 0
  · have E : Hid (leftI left (n + wt cs) = -1) := by show _ = _; unfold leftI; rw [if_pos (by omega)]
    go_enter Tryz.func107, Tryz.ntmps107
    go_wp2
    go_ret
    exact ⟨ret_intU E.out.symm, Below.refl _ _⟩
  have E : Hid (leftI left (n + wt cs) = leftI (left - n) (wt (cs.dropN (0 * 5)))) := by
    show _ = _
    obtain ⟨g1, g2, g3⟩ := leftI_pos (x := left) (a := n) (wt cs) (by unfold leftI; split <;> omega)
    rw [g1, g2, Nat.zero_mul, UD.dropN_zero]
  go_enter Tryz.func107, Tryz.ntmps107
  go_wp2
  go_loopw [1, 5] (fun l i wr => ∃ (q : Nat) (x : Int), q ≤ n ∧ i = .int .i64 q ∧ l = .int .i64 x ∧ 0 ≤ x ∧ x ≤ 1048576 ∧ Hid (leftI left (n + wt cs) = leftI x (wt (cs.dropN (q * 5)))) ∧ Below w.heap.size w wr) (fun _ i _ => n - (intOf i).toNat)
  case atStart => exact ⟨0, _, Nat.zero_le _, rfl, rfl, by omega, by omega, E, Below.refl _ _⟩
  case round =>
    obtain ⟨q, x, hq, rfl, rfl, hx0, hx1, Hs, hbw⟩ := hrel
    by_cases hlt : q < n
    · obtain ⟨b, off, rfl, hbb, hm⟩ := (Hx.out.below hbw).cells (by omega)
      have htr := Ht.out.row hlt
      have hr := hm.row 5 q
      have hw : wt (cs.dropN (q * 5)) = wt (rowU cs 5 q) + wt (cs.dropN ((q + 1) * 5)) := by rw [UD.drop_row cs 5 q, wt_app]
      have hsz := uszD_row cs 5 q
      obtain ⟨xs, hh, hcl⟩ := hr.hand
      have Hcon : Hid (∀ wx, Below wr.heap.size wr wx → Calls Tryz.prog 47 #[.agg xs.toArray, .int .i64 x] wx fun e w' => e = .returned (.int .i64 (leftI x (wt (rowU cs 5 q)))) ∧ Below wx.heap.size wx w') := fun wx hb => uszValue_of (lo := lo) (hi := hi) _ _ x wx (fun n4 c4 x4 l wy hlt ht4 q0 q1 hs4 => HI.out n4 c4 x4 l wy (by omega) ht4 q0 q1 hs4) htr (hh.below hb) hx0 hx1
      obtain ⟨z0, z1, z2, n3, c3, n4, c4, hR, g0, g1, g2, g3, g4⟩ := partsValue htr
      rw [hR] at hh
      obtain ⟨_, rfl, ⟨_, rfl, ⟨_, rfl, ⟨v3, _, rfl, s3, ⟨v4, _, rfl, s4, rfl⟩⟩⟩⟩⟩ := hh
      obtain ⟨a3, p3, rfl, t3⟩ := s3
      obtain ⟨a4, p4, rfl, t4⟩ := s4
      have q0 : wr.cell? ⟨b, off + q * 5, none⟩ = some (.int .i64 z0) := hcl 0 _ rfl
      have q1 : wr.cell? ⟨b, off + q * 5 + 1, none⟩ = some (.string z1) := hcl 1 _ rfl
      have q2 : wr.cell? ⟨b, off + q * 5 + 2, none⟩ = some (.int .i64 z2) := hcl 2 _ rfl
      have q3 : wr.cell? ⟨b, off + q * 5 + 3, none⟩ = some (.slice a3 n3 p3) := hcl 3 _ rfl
      have q4 : wr.cell? ⟨b, off + q * 5 + 4, none⟩ = some (.slice a4 n4 p4) := hcl 4 _ rfl
      clear hR hcl hr hm htr hsz g0 g1 g2 g3 g4 t3 t4
      generalize wt (rowU cs 5 q) = m at *
      have hneg0 := fun h => leftI_neg (x := x) (a := m) (wt (cs.dropN ((q + 1) * 5))) hx0 h
      have hpos0 := fun h => leftI_pos (x := x) (a := m) (wt (cs.dropN ((q + 1) * 5))) h
      have hle0 : leftI x m ≤ x := by unfold leftI; split <;> omega
      generalize leftI x m = y at *
      by_cases hneg : y < 0
      · have hr : Hid (leftI left (n + wt cs) = -1) := by show _ = _; rw [Hs.out, hw]; exact hneg0 hneg
        clear hw Hs E hneg0 hpos0
        go_wp2_with fail
        refine (Hcon.out _ (by repeat (first | exact Below.refl _ _ | refine Below.alloc ?_ (by simp) _))).mono ?_
        rintro e w1 ⟨rfl, hb⟩
        go_wp2
        go_ret
        exact ⟨ret_intU hr.out.symm, hbw.trans (hb.mono hbw.size)⟩
      · have hr : Hid (leftI left (n + wt cs) = leftI y (wt (cs.dropN ((q + 1) * 5)))) := by
          show _ = _
          rw [Hs.out, hw]; exact (hpos0 hneg).1
        clear hw Hs E hneg0 hpos0
        go_wp2_with fail
        refine (Hcon.out _ (by repeat (first | exact Below.refl _ _ | refine Below.alloc ?_ (by simp) _))).mono ?_
        rintro e w1 ⟨rfl, hb⟩
        go_wp2
        go_roundw
        case rel => exact ⟨q + 1, _, by omega, by go_num, rfl, by omega, by omega, hr, hbw.trans (hb.mono hbw.size)⟩
        case measure => simp [intOf]; omega
    · have e : q = n := by omega
      subst e
      have hr : Hid (leftI left (q + wt cs) = x) := by
        show _ = _
        rw [Hs.out, ← Ht.out.2.2.2.1, UD.dropN_all]
        exact leftI_zero hx0
      clear Hs E
      go_wp2
      go_ret
      exact ⟨ret_intU hr.out.symm, hbw⟩
theorem uszValueS_any {lo hi : Nat} (n : Nat) (cs : UD) (c : Value) (left : Int) (w : World) (ht : tyS 5 n cs 6) (h0 : 0 ≤ left) (h1 : left ≤ 1048576) (hx : uS w lo hi 5 n cs c) :
    Calls Tryz.prog 107 #[c, .int .i64 left] w fun e w' => e = .returned (.int .i64 (leftI left (n + wt cs))) ∧ Below w.heap.size w w' := uszValueS_N (uszD cs + 1) n cs c left w (by omega) ht h0 h1 hx
theorem uszValue_any {lo hi : Nat} (d : UD) (xs : List Value) (left : Int) (w : World) (ht : tyL d (uE 6)) (hx : uH w lo hi d xs) (h0 : 0 ≤ left) (h1 : left ≤ 1048576) :
    Calls Tryz.prog 47 #[.agg xs.toArray, .int .i64 left] w fun e w' => e = .returned (.int .i64 (leftI left (wt d))) ∧ Below w.heap.size w w' := uszValue_of d xs left w (fun n4 c4 x4 l wx _ ht4 q0 q1 hs => uszValueS_any n4 c4 x4 l wx ht4 q0 q1 hs) ht hx h0 h1
set_option maxHeartbeats 800000 in
theorem ueqValue_of {lo hi lo' hi' : Nat} (d : UD) (xs ys : List Value) (w : World) (ih : ∀ (n4 : Nat) (c4 : UD) (x4 y4 : Value) (wx : World), uszD c4 < uszD d → tyS 5 n4 c4 6 → uS wx lo hi 5 n4 c4 x4 → uS wx lo' hi' 5 n4 c4 y4 → Calls Tryz.prog 123 #[x4, y4] wx fun e w' => e = .returned (.bool true) ∧ Below wx.heap.size wx w') (ht : tyL d (uE 6)) (hx : uH w lo hi d xs) (hy : uH w lo' hi' d ys) :
    Calls Tryz.prog 53 #[.agg xs.toArray, .agg ys.toArray] w fun e w' => e = .returned (.bool true) ∧ Below w.heap.size w w' := by
  obtain ⟨z0, z1, z2, n3, c3, n4, c4, rfl, g0, g1, g2, g3, g4⟩ := partsValue ht
  obtain ⟨_, rfl, ⟨_, rfl, ⟨_, rfl, ⟨v3l, _, rfl, s3l, ⟨v4l, _, rfl, s4l, rfl⟩⟩⟩⟩⟩ := hx
  obtain ⟨a3l, p3l, rfl, t3l⟩ := s3l
  obtain ⟨a4l, p4l, rfl, t4l⟩ := s4l
  obtain ⟨_, rfl, ⟨_, rfl, ⟨_, rfl, ⟨v3r, _, rfl, s3r, ⟨v4r, _, rfl, s4r, rfl⟩⟩⟩⟩⟩ := hy
  obtain ⟨a3r, p3r, rfl, t3r⟩ := s3r
  obtain ⟨a4r, p4r, rfl, t4r⟩ := s4r
  have HC0 : Hid (∀ wx : World, Below w.heap.size w wx → Calls Tryz.prog 54 #[.slice a3l n3 p3l, .slice a3r n3 p3r] wx fun e w' => e = .returned (.bool true) ∧ Below wx.heap.size wx w') := fun wx hb => ueqStringS_any (lo := lo) (hi := hi) (lo' := lo') (hi' := hi') n3 c3 _ _ wx g3 ((show uS w lo hi 1 n3 c3 (.slice a3l n3 p3l) from ⟨_, _, rfl, t3l⟩).below hb) ((show uS w lo' hi' 1 n3 c3 (.slice a3r n3 p3r) from ⟨_, _, rfl, t3r⟩).below hb)
  have HC1 : Hid (∀ wx : World, Below w.heap.size w wx → Calls Tryz.prog 123 #[.slice a4l n4 p4l, .slice a4r n4 p4r] wx fun e w' => e = .returned (.bool true) ∧ Below wx.heap.size wx w') := fun wx hb => ih n4 c4 _ _ wx (by simp only [uszD]; omega) g4 ((show uS w lo hi 5 n4 c4 (.slice a4l n4 p4l) from ⟨_, _, rfl, t4l⟩).below hb) ((show uS w lo' hi' 5 n4 c4 (.slice a4r n4 p4r) from ⟨_, _, rfl, t4r⟩).below hb)
  have e0 : (z0 != z0) = false := by simp
  have e1 : (z1.toList == z1.toList) = true := by simp
  have e2 : (z2 != z2) = false := by simp
  have HB : Hid (∀ o o', Below w.heap.size w ((w.alloc o).alloc o')) := fun o o' => ((Below.refl _ _).alloc (Nat.le_refl _) _).alloc (by simp) _
  clear g0 g1 g2 g3 g4 t3l t3r t4l t4r ih
  go_enter Tryz.func53, Tryz.ntmps53
  go_wp2_with fail
  refine (HC0.out _ (HB.out _ _)).mono ?_
  rintro e w1 ⟨rfl, hb1⟩
  have b4 : w1.cell? ⟨w.heap.size, 4, none⟩ = some (.slice a4l n4 p4l) := (hb1.cell (p := ⟨w.heap.size, 4, none⟩) (by simp <;> omega)).trans (by simp [go_sem])
  have d4 : w1.cell? ⟨w.heap.size + 1, 4, none⟩ = some (.slice a4r n4 p4r) := (hb1.cell (p := ⟨w.heap.size + 1, 4, none⟩) (by simp <;> omega)).trans (by simp [go_sem])
  have B1 : Hid (Below w.heap.size w w1) := (HB.out _ _).trans (hb1.mono (by simp; omega))
  clear hb1
  go_wp2_with fail
  refine (HC1.out _ B1.out).mono ?_
  rintro e w2 ⟨rfl, hb2⟩
  have B2 : Hid (Below w.heap.size w w2) := B1.out.trans (hb2.mono B1.out.size)
  clear hb2
  go_wp2
  go_ret
  exact ⟨rfl, B2.out⟩
set_option maxHeartbeats 800000 in
theorem ueqValueS_N {lo hi lo' hi' : Nat} : ∀ (N : Nat) (n : Nat) (cs : UD) (c c' : Value) (w : World), uszD cs < N → tyS 5 n cs 6 → uS w lo hi 5 n cs c → uS w lo' hi' 5 n cs c' →
    Calls Tryz.prog 123 #[c, c'] w fun e w' => e = .returned (.bool true) ∧ Below w.heap.size w w' := by
  intro N
  induction N with
  | zero => intro n cs c c' w hN; omega
  | succ N ihN =>
  intro n cs c c' w hN ht hx hy
  have HI := uhide ihN
  clear ihN
  obtain ⟨a, cap, rfl, hx2⟩ := hx
  obtain ⟨a', cap', rfl, hy2⟩ := hy
  have Hx : Hid (uS w lo hi 5 n cs (.slice a n cap)) := ⟨a, cap, rfl, hx2⟩
  have Hy : Hid (uS w lo' hi' 5 n cs (.slice a' n cap')) := ⟨a', cap', rfl, hy2⟩
  have hmx := ht.2.2.1
  unfold maxLen at hmx
  have Ht := uhide ht
  have hb0 : ((n : Int) != (n : Int)) = false := by simp
  clear hx2 hy2 ht
  go_enter Tryz.func123, Tryz.ntmps123
  go_wp2
  go_loopw [5] (fun i wr => ∃ (q : Nat), q ≤ n ∧ i = .int .i64 q ∧ Below w.heap.size w wr) (fun i _ => n - (intOf i).toNat)
  case atStart => exact ⟨0, Nat.zero_le _, rfl, Below.refl _ _⟩
  case round =>
    obtain ⟨q, hq, rfl, hbw⟩ := hrel
    by_cases hlt : q < n
    · obtain ⟨b, off, rfl, hbb, hm⟩ := (Hx.out.below hbw).cells (by omega)
      obtain ⟨b', off', rfl, hbb', hm'⟩ := (Hy.out.below hbw).cells (by omega)
      have htr := Ht.out.row hlt
      have hsz := uszD_row cs 5 q
      obtain ⟨xs, hh, hcl⟩ := (hm.row 5 q).hand
      obtain ⟨ys, hh', hcl'⟩ := (hm'.row 5 q).hand
      have Hcon : Hid (∀ wx, Below wr.heap.size wr wx → Calls Tryz.prog 53 #[.agg xs.toArray, .agg ys.toArray] wx fun e w' => e = .returned (.bool true) ∧ Hid (Below w.heap.size w w')) := fun wx hb => (ueqValue_of (lo := lo) (hi := hi) (lo' := lo') (hi' := hi') _ _ _ wx (fun n4 c4 x4 y4 wy hlt ht4 s1 s2 => HI.out n4 c4 x4 y4 wy (by omega) ht4 s1 s2) htr (hh.below hb) (hh'.below hb)).mono fun e w' h => ⟨h.1, (hbw.trans (hb.mono hbw.size)).trans (h.2.mono (Nat.le_trans hbw.size hb.size))⟩
      obtain ⟨z0, z1, z2, n3, c3, n4, c4, hR, g0, g1, g2, g3, g4⟩ := partsValue htr
      rw [hR] at hh hh'
      obtain ⟨_, rfl, ⟨_, rfl, ⟨_, rfl, ⟨v3l, _, rfl, s3l, ⟨v4l, _, rfl, s4l, rfl⟩⟩⟩⟩⟩ := hh
      obtain ⟨a3l, p3l, rfl, t3l⟩ := s3l
      obtain ⟨a4l, p4l, rfl, t4l⟩ := s4l
      obtain ⟨_, rfl, ⟨_, rfl, ⟨_, rfl, ⟨v3r, _, rfl, s3r, ⟨v4r, _, rfl, s4r, rfl⟩⟩⟩⟩⟩ := hh'
      obtain ⟨a3r, p3r, rfl, t3r⟩ := s3r
      obtain ⟨a4r, p4r, rfl, t4r⟩ := s4r
      have q0 : wr.cell? ⟨b, off + q * 5, none⟩ = some (.int .i64 z0) := hcl 0 _ rfl
      have q1 : wr.cell? ⟨b, off + q * 5 + 1, none⟩ = some (.string z1) := hcl 1 _ rfl
      have q2 : wr.cell? ⟨b, off + q * 5 + 2, none⟩ = some (.int .i64 z2) := hcl 2 _ rfl
      have q3 : wr.cell? ⟨b, off + q * 5 + 3, none⟩ = some (.slice a3l n3 p3l) := hcl 3 _ rfl
      have q4 : wr.cell? ⟨b, off + q * 5 + 4, none⟩ = some (.slice a4l n4 p4l) := hcl 4 _ rfl
      have r0 : wr.cell? ⟨b', off' + q * 5, none⟩ = some (.int .i64 z0) := hcl' 0 _ rfl
      have r1 : wr.cell? ⟨b', off' + q * 5 + 1, none⟩ = some (.string z1) := hcl' 1 _ rfl
      have r2 : wr.cell? ⟨b', off' + q * 5 + 2, none⟩ = some (.int .i64 z2) := hcl' 2 _ rfl
      have r3 : wr.cell? ⟨b', off' + q * 5 + 3, none⟩ = some (.slice a3r n3 p3r) := hcl' 3 _ rfl
      have r4 : wr.cell? ⟨b', off' + q * 5 + 4, none⟩ = some (.slice a4r n4 p4r) := hcl' 4 _ rfl
      clear hR hcl hcl' hm hm' htr hsz g0 g1 g2 g3 g4 t3l t3r t4l t4r
      clear Hx Hy Ht
      go_wp2
      go_region_with (go_at_call 53; refine (Hcon.out _ (by repeat (first | exact Below.refl _ _ | refine Below.drew ?_ | refine below_drewN ?_ _))).mono ?_; rintro e w2 ⟨rfl, hb2⟩)
      all_goals go_wp2
      all_goals (
        go_roundw
        case rel => exact ⟨q + 1, by omega, by go_num, by repeat (first | exact hb2.out | refine Below.drew ?_ | refine below_drewN ?_ _)⟩
        case measure => simp [intOf]; omega)
    · have e : q = n := by omega
      subst e
      go_wp2
      go_ret
      exact ⟨rfl, hbw⟩
theorem ueqValueS_any {lo hi lo' hi' : Nat} (n : Nat) (cs : UD) (c c' : Value) (w : World) (ht : tyS 5 n cs 6) (hx : uS w lo hi 5 n cs c) (hy : uS w lo' hi' 5 n cs c') :
    Calls Tryz.prog 123 #[c, c'] w fun e w' => e = .returned (.bool true) ∧ Below w.heap.size w w' := ueqValueS_N (uszD cs + 1) n cs c c' w (by omega) ht hx hy
theorem ueqValue_any {lo hi lo' hi' : Nat} (d : UD) (xs ys : List Value) (w : World) (ht : tyL d (uE 6)) (hx : uH w lo hi d xs) (hy : uH w lo' hi' d ys) :
    Calls Tryz.prog 53 #[.agg xs.toArray, .agg ys.toArray] w fun e w' => e = .returned (.bool true) ∧ Below w.heap.size w w' := ueqValue_of d xs ys w (fun n4 c4 x4 y4 wx _ ht4 s1 s2 => ueqValueS_any n4 c4 x4 y4 wx ht4 s1 s2) ht hx hy
set_option maxHeartbeats 1600000 in
theorem uheldValueS_N {lo hi : Nat} : ∀ (N : Nat) (n k0 : Nat) (cs : UD) (c : Value) (w : World), uszD cs < N → tyS 5 n cs 6 → 1 ≤ k0 → k0 + cnt cs ≤ 100000000 → uS w lo hi 5 n (mk cs k0) c →
    Calls Tryz.prog 106 #[c, .int .i64 k0] w fun e w' => e = .returned (.int .i64 (k0 + cnt cs : Nat)) ∧ Below w.heap.size w w' := by
  intro N
  induction N with
  | zero => intro n k0 cs c w hN; omega
  | succ N ihN =>
  intro n k0 cs c w hN ht hk0 hk1 hx
  have HI := uhide ihN
  clear ihN
  obtain ⟨a, cap, rfl, hx2⟩ := hx
  have Hx : Hid (uS w lo hi 5 n (mk cs k0) (.slice a n cap)) := ⟨a, cap, rfl, hx2⟩
  have hmx := ht.2.2.1
  unfold maxLen at hmx
  have Ht := uhide ht
  have Hkk : Hid (∀ q, k0 + cnt (cs.takeN (q * 5)) ≤ 100000000) := fun q => by have := cnt_le cs (q * 5); omega
  clear hx2 ht
  go_enter Tryz.func106, Tryz.ntmps106
  go_wp2
  go_loopw [1, 5] (fun s i wr => ∃ (q : Nat), q ≤ n ∧ i = .int .i64 q ∧ s = .int .i64 (k0 + cnt (cs.takeN (q * 5)) : Nat) ∧ Below w.heap.size w wr) (fun _ i _ => n - (intOf i).toNat)
  case atStart => exact ⟨0, Nat.zero_le _, rfl, by rw [Nat.zero_mul]; rfl, Below.refl _ _⟩
  case round =>
    obtain ⟨q, hq, rfl, rfl, hbw⟩ := hrel
    by_cases hlt : q < n
    · obtain ⟨b, off, rfl, hbb, hm⟩ := (Hx.out.below hbw).cells (by omega)
      have htr := Ht.out.row hlt
      have hsz := uszD_row cs 5 q
      have hkn := cnt_row cs 5 q
      have hkb := Hkk.out (q + 1)
      have hkr := hkn
      have hrow := hm.row 5 q
      rw [mk_row] at hrow
      obtain ⟨z0, z1, z2, n3, c3, n4, c4, hR, g0, g1, g2, g3, g4⟩ := partsValue htr
      rw [hR] at hrow hkn hsz
      simp only [cnt, Nat.add_zero] at hkn
      obtain ⟨xs, hh, hcl⟩ := hrow.hand
      obtain ⟨_, rfl, ⟨_, rfl, ⟨_, rfl, ⟨v3, _, rfl, s3, ⟨v4, _, rfl, s4, rfl⟩⟩⟩⟩⟩ := hh
      obtain ⟨a3, p3, rfl, t3⟩ := s3
      obtain ⟨a4, p4, rfl, t4⟩ := s4
      generalize hKd : k0 + cnt (cs.takeN (q * 5)) = kq at *
      have hK0 : 1 ≤ kq := by omega
      have hend : k0 + cnt (cs.takeN ((q + 1) * 5)) = (((((kq + 1) + 1) + 1) + cnt c3) + cnt c4) := by rw [hkn]; omega
      rw [hend] at hkb
      have q0 : wr.cell? ⟨b, off + q * 5, none⟩ = some (.int .i64 (kq : Nat)) := (show wr.cell? ⟨b, off + q * 5, none⟩ = _ from hcl 0 _ rfl).trans (congrArg some (mkP_int _ _ (by omega)))
      have q1 : wr.cell? ⟨b, off + q * 5 + 1, none⟩ = some (.string (umtx (kq + 1))) := hcl 1 _ rfl
      have q2 : wr.cell? ⟨b, off + q * 5 + 2, none⟩ = some (.int .i64 (((kq + 1) + 1) : Nat)) := (show wr.cell? ⟨b, off + q * 5 + 2, none⟩ = _ from hcl 2 _ rfl).trans (congrArg some (mkP_int _ _ (by omega)))
      have q3 : wr.cell? ⟨b, off + q * 5 + 3, none⟩ = some (.slice a3 n3 p3) := hcl 3 _ rfl
      have q4 : wr.cell? ⟨b, off + q * 5 + 4, none⟩ = some (.slice a4 n4 p4) := hcl 4 _ rfl
      have HQ : Hid (∀ wx, Below wr.heap.size wr wx → wx.cell? ⟨b, off + q * 5, none⟩ = some (.int .i64 (kq : Nat)) ∧ wx.cell? ⟨b, off + q * 5 + 1, none⟩ = some (.string (umtx (kq + 1))) ∧ wx.cell? ⟨b, off + q * 5 + 2, none⟩ = some (.int .i64 (((kq + 1) + 1) : Nat)) ∧ wx.cell? ⟨b, off + q * 5 + 3, none⟩ = some (.slice a3 n3 p3) ∧ wx.cell? ⟨b, off + q * 5 + 4, none⟩ = some (.slice a4 n4 p4)) := fun wx hb => ⟨(hb.cell (p := ⟨b, off + q * 5, none⟩) hbb).trans q0, (hb.cell (p := ⟨b, off + q * 5 + 1, none⟩) hbb).trans q1, (hb.cell (p := ⟨b, off + q * 5 + 2, none⟩) hbb).trans q2, (hb.cell (p := ⟨b, off + q * 5 + 3, none⟩) hbb).trans q3, (hb.cell (p := ⟨b, off + q * 5 + 4, none⟩) hbb).trans q4⟩
      have HC1 : Hid (∀ (wx : World) (x : Int), Below wr.heap.size wr wx → x = (((kq + 1) : Nat) : Int) → Calls Tryz.prog 84 #[.int .i64 x] wx fun e w' => e = .returned (.string (umtx (kq + 1))) ∧ Hid (Below wr.heap.size wr w')) := fun wx x hb hx => by rw [hx]; exact (umarkText_any _ wx (by omega) (by omega)).mono fun e w' h => ⟨h.1, hb.trans (h.2.mono hb.size)⟩
      have HC3 : Hid (∀ (wx : World) (x : Int), Below wr.heap.size wr wx → x = (((((kq + 1) + 1) + 1) : Nat) : Int) → Calls Tryz.prog 105 #[.slice a3 n3 p3, .int .i64 x] wx fun e w' => e = .returned (.int .i64 (((((kq + 1) + 1) + 1) + cnt c3 : Nat))) ∧ Hid (Below wr.heap.size wr w')) := fun wx x hb hx => by rw [hx]; exact (uheldStringS_any (lo := lo) (hi := hi) n3 (((kq + 1) + 1) + 1) c3 _ wx g3 (by omega) (by omega) ((show uS wr lo hi 1 n3 (mk c3 (((kq + 1) + 1) + 1)) (.slice a3 n3 p3) from ⟨_, _, rfl, t3⟩).below hb)).mono fun e w' h => ⟨h.1, hb.trans (h.2.mono hb.size)⟩
      have HC4 : Hid (∀ (wx : World) (x : Int), Below wr.heap.size wr wx → x = ((((((kq + 1) + 1) + 1) + cnt c3) : Nat) : Int) → Calls Tryz.prog 106 #[.slice a4 n4 p4, .int .i64 x] wx fun e w' => e = .returned (.int .i64 ((((((kq + 1) + 1) + 1) + cnt c3) + cnt c4 : Nat))) ∧ Hid (Below wr.heap.size wr w')) := fun wx x hb hx => by rw [hx]; exact (HI.out n4 ((((kq + 1) + 1) + 1) + cnt c3) c4 _ wx (by simp only [uszD] at hsz; omega) g4 (by omega) (by omega) ((show uS wr lo hi 5 n4 (mk c4 ((((kq + 1) + 1) + 1) + cnt c3)) (.slice a4 n4 p4) from ⟨_, _, rfl, t4⟩).below hb)).mono fun e w' h => ⟨h.1, hb.trans (h.2.mono hb.size)⟩
      have HN := uhide hend
      clear hR hcl hm htr hsz hkn hkr hrow hend hKd Hx Ht Hkk g0 g1 g2 g3 g4 t3 t4
      generalize umtx (kq + 1) = M1 at *
      have E1 : (M1.toList == M1.toList) = true := by simp
      generalize cnt c3 = m3 at *
      generalize cnt c4 = m4 at *
      have hbq : Hid (Below wr.heap.size wr wr) := Below.refl _ _
      go_wp2
      go_region_with (go_at_call 84; refine (HC1.out _ _ (by repeat (first | assumption | exact Below.refl _ _ | exact hbq.out | refine Below.drew ?_ | refine below_drewN ?_ _)) (by omega)).mono ?_; rintro e1 w2 ⟨rfl, hb2⟩; obtain ⟨q0, q1, q2, q3, q4⟩ := HQ.out _ hb2.out)
      all_goals (
        replace hbq := hb2
        go_wp2_with fail
        refine (HC3.out _ _ (by repeat (first | assumption | exact Below.refl _ _ | exact hbq.out | refine Below.drew ?_ | refine below_drewN ?_ _)) (by omega)).mono ?_
        rintro e1 w6 ⟨rfl, hbn3⟩
        obtain ⟨q0, q1, q2, q3, q4⟩ := HQ.out _ hbn3.out
        replace hbq := hbn3
        go_wp2_with fail
        refine (HC4.out _ _ (by repeat (first | assumption | exact Below.refl _ _ | exact hbq.out | refine Below.drew ?_ | refine below_drewN ?_ _)) (by omega)).mono ?_
        rintro e1 w7 ⟨rfl, hbn4⟩
        obtain ⟨q0, q1, q2, q3, q4⟩ := HQ.out _ hbn4.out
        replace hbq := hbn4
        go_wp2
        go_roundw
        case rel => exact ⟨q + 1, by omega, by go_num, by rw [HN.out]; go_num, hbw.trans ((show Below wr.heap.size wr _ from (by repeat (first | assumption | exact Below.refl _ _ | exact hbq.out | refine Below.drew ?_ | refine below_drewN ?_ _))).mono hbw.size)⟩
        case measure => (simp [intOf]; omega))
    · have e : q = n := by omega
      subst e
      have hl : cs.takeN (q * 5) = cs := by apply UD.ext; unfold UD.takeN; rw [UD.toL_ofL]; exact List.take_of_length_le (Nat.le_of_eq Ht.out.2.2.2.1)
      rw [hl]
      clear hl Ht Hkk Hx
      go_wp2
      go_ret
      exact ⟨rfl, hbw⟩
theorem uheldValueS_any {lo hi : Nat} (n k0 : Nat) (cs : UD) (c : Value) (w : World) (ht : tyS 5 n cs 6) (hk0 : 1 ≤ k0) (hk1 : k0 + cnt cs ≤ 100000000) (hx : uS w lo hi 5 n (mk cs k0) c) :
    Calls Tryz.prog 106 #[c, .int .i64 k0] w fun e w' => e = .returned (.int .i64 (k0 + cnt cs : Nat)) ∧ Below w.heap.size w w' := uheldValueS_N (uszD cs + 1) n k0 cs c w (by omega) ht hk0 hk1 hx
set_option maxHeartbeats 800000 in
theorem umarkValue_of (d : UD) (k0 : Nat) (xs : List Value) (S : List Nat) (w : World) (ih : ∀ (n4 j4 : Nat) (c4 : UD) (x4 : Value) (S4 : List Nat) (wx : World), uszD c4 < uszD d → tyS 5 n4 c4 6 → S4.Nodup → 1 ≤ j4 → j4 + cnt c4 ≤ 100000000 → oS wx 5 n4 c4 x4 S4 → Calls Tryz.prog 104 #[x4, .int .i64 j4] wx fun e w' => e = .returned (.int .i64 (j4 + cnt c4 : Nat)) ∧ oS w' 5 n4 (mk c4 j4) x4 S4 ∧ OutS S4 wx w') (ht : tyL d (uE 6)) (hnd : S.Nodup) (hk0 : 1 ≤ k0) (hk1 : k0 + cntT d ≤ 100000000) (hx : oH w d xs S) :
    Calls Tryz.prog 55 #[.agg xs.toArray, .int .i64 k0] w fun e w' => e = .returned (.int .i64 (k0 + cntT d : Nat)) ∧ oH w' (mkT d k0) xs S ∧ OutS S w w' := by
  obtain ⟨z0, z1, z2, n3, c3, n4, c4, rfl, g0, g1, g2, g3, g4⟩ := partsValue ht
  have hx' := hx
  obtain ⟨_, rfl, ⟨_, rfl, ⟨_, rfl, ⟨v3, _, _, _, rfl, _, _, ⟨_, _, o3, _⟩, ⟨v4, _, _, _, rfl, _, _, ⟨_, _, o4, _⟩, ⟨rfl, _⟩⟩⟩⟩⟩⟩ := hx'
  obtain ⟨a3, p3, rfl⟩ := uowns_slice o3
  clear o3
  obtain ⟨a4, p4, rfl⟩ := uowns_slice o4
  clear o4
  simp only [cntT] at hk1
  have hlt := hx.lt
  have HC0 : Hid (∀ (wx : World) (x : Int), oH wx (.p (.int .i64 z0) (.p (.string z1) (.p (.int .i64 z2) (.l 1 n3 c3 (.l 5 n4 c4 .nil))))) [.int .i64 z0, .string z1, .int .i64 z2, .slice a3 n3 p3, .slice a4 n4 p4] S → x = ((k0 : Nat) : Int) → Calls Tryz.prog 56 #[.slice a3 n3 p3, .int .i64 x] wx fun e w' => e = .returned (.int .i64 ((k0 + cnt c3) : Nat)) ∧ oH w' (.p (.int .i64 z0) (.p (.string z1) (.p (.int .i64 z2) (.l 1 n3 (mk c3 k0) (.l 5 n4 c4 .nil))))) [.int .i64 z0, .string z1, .int .i64 z2, .slice a3 n3 p3, .slice a4 n4 p4] S ∧ OutS S wx w') := by
    intro wx x h hxx
    rw [hxx]
    obtain ⟨c', T, q1, q2, q3, q4, q5⟩ := h.part hnd 3 1 n3 c3 rfl
    cases q1
    exact (umarkStringS_any n3 k0 c3 _ T wx g3 q3 (by omega) (by omega) q2).mono fun e w' h => ⟨h.1, q5 w' _ h.2.2 h.2.1, h.2.2.mono q4⟩
  have HC1 : Hid (∀ (wx : World) (x : Int), oH wx (.p (.int .i64 z0) (.p (.string z1) (.p (.int .i64 z2) (.l 1 n3 (mk c3 k0) (.l 5 n4 c4 .nil))))) [.int .i64 z0, .string z1, .int .i64 z2, .slice a3 n3 p3, .slice a4 n4 p4] S → x = (((k0 + cnt c3) : Nat) : Int) → Calls Tryz.prog 104 #[.slice a4 n4 p4, .int .i64 x] wx fun e w' => e = .returned (.int .i64 (((k0 + cnt c3) + cnt c4) : Nat)) ∧ oH w' (.p (.int .i64 z0) (.p (.string z1) (.p (.int .i64 z2) (.l 1 n3 (mk c3 k0) (.l 5 n4 (mk c4 (k0 + cnt c3)) .nil))))) [.int .i64 z0, .string z1, .int .i64 z2, .slice a3 n3 p3, .slice a4 n4 p4] S ∧ OutS S wx w') := by
    intro wx x h hxx
    rw [hxx]
    obtain ⟨c', T, q1, q2, q3, q4, q5⟩ := h.part hnd 4 5 n4 c4 rfl
    cases q1
    exact (ih n4 (k0 + cnt c3) c4 _ T wx (by simp only [uszD]; omega) g4 q3 (by omega) (by omega) q2).mono fun e w' h => ⟨h.1, q5 w' _ h.2.2 h.2.1, h.2.2.mono q4⟩
  have HE : Hid ((((k0 + cnt c3) + cnt c4) : Nat) = k0 + cntT (.p (.int .i64 z0) (.p (.string z1) (.p (.int .i64 z2) (.l 1 n3 c3 (.l 5 n4 c4 .nil)))))) := by show _ = _; simp only [cntT]; omega
  have HF : Hid (∀ wx, oH wx (.p (.int .i64 z0) (.p (.string z1) (.p (.int .i64 z2) (.l 1 n3 (mk c3 k0) (.l 5 n4 (mk c4 (k0 + cnt c3)) .nil))))) [.int .i64 z0, .string z1, .int .i64 z2, .slice a3 n3 p3, .slice a4 n4 p4] S → oH wx (mkT (.p (.int .i64 z0) (.p (.string z1) (.p (.int .i64 z2) (.l 1 n3 c3 (.l 5 n4 c4 .nil))))) k0) [.int .i64 z0, .string z1, .int .i64 z2, .slice a3 n3 p3, .slice a4 n4 p4] S) := fun wx h => h
  generalize k0 + cntT (.p (.int .i64 z0) (.p (.string z1) (.p (.int .i64 z2) (.l 1 n3 c3 (.l 5 n4 c4 .nil))))) = R at *
  have H0 : Hid (∀ o, oH (w.alloc o) (.p (.int .i64 z0) (.p (.string z1) (.p (.int .i64 z2) (.l 1 n3 c3 (.l 5 n4 c4 .nil))))) [.int .i64 z0, .string z1, .int .i64 z2, .slice a3 n3 p3, .slice a4 n4 p4] S) := fun o => hx.below ((Below.refl _ _).alloc (Nat.le_refl _) _)
  have HS : Hid (w.heap.size ∉ S) := fun h => by have := hlt _ h; omega
  have HO : Hid (∀ o w', OutS S (w.alloc o) w' → OutS S w w') := fun o w' h => (OutS.of_below ((Below.refl _ _).alloc (Nat.le_refl _) _)).trans h
  clear ht hx hlt hnd g0 g1 g2 g3 g4 ih
  go_enter Tryz.func55, Tryz.ntmps55
  go_wp2_with fail
  refine (HC0.out _ _ (H0.out _) (by omega)).mono ?_
  rintro e w1 ⟨rfl, h1, ho1⟩
  have b4 : w1.cell? ⟨w.heap.size, 4, none⟩ = some (.slice a4 n4 p4) := (ho1.cell (p := ⟨w.heap.size, 4, none⟩) (by simp) HS.out).trans (by simp [go_sem])
  have I1 := uhide h1
  have B1 : Hid (OutS S w w1) := HO.out _ _ ho1
  clear h1 ho1
  go_wp2_with fail
  refine (HC1.out _ _ I1.out (by omega)).mono ?_
  rintro e w2 ⟨rfl, h2, ho2⟩
  have I2 := uhide h2
  have B2 : Hid (OutS S w w2) := B1.out.trans ho2
  clear h2 ho2
  go_wp2
  go_ret
  exact ⟨ret_intU (by have := HE.out; omega), HF.out _ I2.out, B2.out⟩
set_option maxHeartbeats 1600000 in
theorem umarkValueS_N : ∀ (N : Nat) (n k0 : Nat) (cs : UD) (c : Value) (S : List Nat) (w : World), uszD cs < N → tyS 5 n cs 6 → S.Nodup → 1 ≤ k0 → k0 + cnt cs ≤ 100000000 → oS w 5 n cs c S →
    Calls Tryz.prog 104 #[c, .int .i64 k0] w fun e w' => e = .returned (.int .i64 (k0 + cnt cs : Nat)) ∧ oS w' 5 n (mk cs k0) c S ∧ OutS S w w' := by
  intro N
  induction N with
  | zero => intro n k0 cs c S w hN; omega
  | succ N ihN =>
  intro n k0 cs c S w hN ht hnd hk0 hk1 hx
  have HI := uhide ihN
  clear ihN
  obtain ⟨a, cap, rfl⟩ := hx.slice
  have hmx := ht.2.2.1
  unfold maxLen at hmx
  rcases Nat.eq_zero_or_pos n with h0 | hpos
  · subst h0
    obtain ⟨e1, e2⟩ := hx.empty rfl k0
    rw [e1, e2]
    have Hx := uhide hx
    clear hx ht hnd e1 e2
    go_enter Tryz.func104, Tryz.ntmps104
    go_wp2
    go_loopw [1, 5] (fun s i wr => i = .int .i64 0 ∧ s = .int .i64 k0 ∧ wr = w) (fun _ _ _ => 0)
    case atStart => exact ⟨rfl, rfl, rfl⟩
    case round =>
      obtain ⟨rfl, rfl, rfl⟩ := hrel
      go_wp2
      go_ret
      exact ⟨rfl, Hx.out, OutS.refl _ _⟩
  obtain ⟨e, g, S1, xs0, M0, rfl, hp0, hl0⟩ := MS.start hx hnd hpos k0
  obtain ⟨cap, h1, hgl⟩ := M0.own
  cases h1
  have M0 := uhide M0
  have Ht := uhide ht
  have Hp0 := uhide hp0
  have Hl0 := uhide hl0
  have Hkk : Hid (∀ q, k0 + cnt (cs.takeN (q * 5)) ≤ 100000000) := fun q => by have := cnt_le cs (q * 5); omega
  clear hx ht hnd hp0 hl0
  go_enter Tryz.func104, Tryz.ntmps104
  go_wp2
  go_loopw [1, 5] (fun s i wr => ∃ (q : Nat), q ≤ n ∧ i = .int .i64 q ∧ s = .int .i64 (k0 + cnt (cs.takeN (q * 5)) : Nat) ∧ Hid (MS w wr e 5 n (.slice (some ⟨g, 0, none⟩) n cap) g cs k0 S1 xs0 (q * 5))) (fun _ i _ => n - (intOf i).toNat)
  case atStart => exact ⟨0, Nat.zero_le _, rfl, by rw [Nat.zero_mul]; rfl, by rw [Nat.zero_mul]; exact M0⟩
  case round =>
    clear M0
    obtain ⟨q, hq, rfl, rfl, HM⟩ := hrel
    by_cases hlt : q < n
    · have htr := Ht.out.row hlt
      have hsz := uszD_row cs 5 q
      have hkn := cnt_row cs 5 q
      have hkb := Hkk.out (q + 1)
      obtain ⟨z0, z1, z2, n3, c3, n4, c4, hR, g0, g1, g2, g3, g4⟩ := partsValue htr
      rw [hR] at hkn hsz
      simp only [cnt, Nat.add_zero] at hkn
      obtain ⟨kq, hkq⟩ : ∃ kq, k0 + cnt (cs.takeN (q * 5)) = kq := ⟨_, rfl⟩
      have hK0 : 1 ≤ kq := by omega
      have hend : k0 + cnt (cs.takeN ((q + 1) * 5)) = (((((kq + 1) + 1) + 1) + cnt c3) + cnt c4) := by rw [hkn]; omega
      rw [hend] at hkb
      have at0 : cs.at? (q * 5) = some (.p (.int .i64 z0)) := by rw [show q * 5 = q * 5 + 0 from rfl]; rw [← rowU_at cs 5 q 0 (by omega), hR]; rfl
      have ct0 : k0 + cnt (cs.takeN (q * 5)) = kq := by exact hkq
      have x0 := Hp0.out _ _ at0
      have at1 : cs.at? (q * 5 + 1) = some (.p (.string z1)) := by rw [← rowU_at cs 5 q 1 (by omega), hR]; rfl
      have ct1 : k0 + cnt (cs.takeN (q * 5 + 1)) = (kq + 1) := by rw [cnt_at cs 5 q 1 (by omega), hR]; show k0 + (cnt (cs.takeN (q * 5)) + cnt (.p (.int .i64 z0) .nil)) = _; simp only [cnt]; omega
      have x1 := Hp0.out _ _ at1
      have at2 : cs.at? (q * 5 + 2) = some (.p (.int .i64 z2)) := by rw [← rowU_at cs 5 q 2 (by omega), hR]; rfl
      have ct2 : k0 + cnt (cs.takeN (q * 5 + 2)) = ((kq + 1) + 1) := by rw [cnt_at cs 5 q 2 (by omega), hR]; show k0 + (cnt (cs.takeN (q * 5)) + cnt (.p (.int .i64 z0) (.p (.string z1) .nil))) = _; simp only [cnt]; omega
      have x2 := Hp0.out _ _ at2
      have at3 : cs.at? (q * 5 + 3) = some (.l 1 n3 c3) := by rw [← rowU_at cs 5 q 3 (by omega), hR]; rfl
      have ct3 : k0 + cnt (cs.takeN (q * 5 + 3)) = (((kq + 1) + 1) + 1) := by rw [cnt_at cs 5 q 3 (by omega), hR]; show k0 + (cnt (cs.takeN (q * 5)) + cnt (.p (.int .i64 z0) (.p (.string z1) (.p (.int .i64 z2) .nil)))) = _; simp only [cnt]; omega
      obtain ⟨a3, p3, x3⟩ := Hl0.out _ _ _ _ at3
      have at4 : cs.at? (q * 5 + 4) = some (.l 5 n4 c4) := by rw [← rowU_at cs 5 q 4 (by omega), hR]; rfl
      have ct4 : k0 + cnt (cs.takeN (q * 5 + 4)) = ((((kq + 1) + 1) + 1) + cnt c3) := by rw [cnt_at cs 5 q 4 (by omega), hR]; show k0 + (cnt (cs.takeN (q * 5)) + cnt (.p (.int .i64 z0) (.p (.string z1) (.p (.int .i64 z2) (.l 1 n3 c3 .nil))))) = _; simp only [cnt]; omega
      obtain ⟨a4, p4, x4⟩ := Hl0.out _ _ _ _ at4
      have HP0 : Hid (∀ (wx : World) (u : Value), MS w wx e 5 n (.slice (some ⟨g, 0, none⟩) n cap) g cs k0 S1 xs0 (q * 5) → u = .int .i64 (kq : Nat) → MS w (wx.setCell ⟨g, q * 5, none⟩ u) e 5 n (.slice (some ⟨g, 0, none⟩) n cap) g cs k0 S1 xs0 (q * 5 + 1)) := fun wx u h hu => h.plain at0 (hu.trans (by rw [ct0, mkP_int _ _ (by omega)]))
      have HP1 : Hid (∀ (wx : World) (u : Value), MS w wx e 5 n (.slice (some ⟨g, 0, none⟩) n cap) g cs k0 S1 xs0 (q * 5 + 1) → u = .string (umtx (kq + 1)) → MS w (wx.setCell ⟨g, q * 5 + 1, none⟩ u) e 5 n (.slice (some ⟨g, 0, none⟩) n cap) g cs k0 S1 xs0 (q * 5 + 2)) := fun wx u h hu => h.plain at1 (hu.trans (by rw [ct1]; rfl))
      have HT1 : Hid (∀ (wx : World) (x : Int), x = (((kq + 1) : Nat) : Int) → Calls Tryz.prog 84 #[.int .i64 x] wx fun e1 w' => e1 = .returned (.string (umtx (kq + 1))) ∧ Below wx.heap.size wx w') := fun wx x hx => by rw [hx]; exact umarkText_any _ wx (by omega) (by omega)
      have HP2 : Hid (∀ (wx : World) (u : Value), MS w wx e 5 n (.slice (some ⟨g, 0, none⟩) n cap) g cs k0 S1 xs0 (q * 5 + 2) → u = .int .i64 (((kq + 1) + 1) : Nat) → MS w (wx.setCell ⟨g, q * 5 + 2, none⟩ u) e 5 n (.slice (some ⟨g, 0, none⟩) n cap) g cs k0 S1 xs0 (q * 5 + 3)) := fun wx u h hu => h.plain at2 (hu.trans (by rw [ct2, mkP_int _ _ (by omega)]))
      have HC3 : Hid (∀ (wx : World) (x : Int), MS w wx e 5 n (.slice (some ⟨g, 0, none⟩) n cap) g cs k0 S1 xs0 (q * 5 + 3) → x = (((((kq + 1) + 1) + 1) : Nat) : Int) → Calls Tryz.prog 56 #[.slice a3 n3 p3, .int .i64 x] wx fun e1 w' => e1 = .returned (.int .i64 (((((kq + 1) + 1) + 1) + cnt c3 : Nat))) ∧ Hid (MS w w' e 5 n (.slice (some ⟨g, 0, none⟩) n cap) g cs k0 S1 xs0 (q * 5 + 4))) := by
        intro wx x h hxx
        rw [hxx]
        obtain ⟨c', T, q1, q2, q3, q5⟩ := h.part at3
        rw [x3] at q1
        cases q1
        rw [ct3] at q5
        exact (umarkStringS_any n3 (((kq + 1) + 1) + 1) c3 _ T wx g3 q3 (by omega) (by omega) q2).mono fun e1 w' h => ⟨h.1, q5 w' h.2.2 h.2.1⟩
      have HC4 : Hid (∀ (wx : World) (x : Int), MS w wx e 5 n (.slice (some ⟨g, 0, none⟩) n cap) g cs k0 S1 xs0 (q * 5 + 4) → x = ((((((kq + 1) + 1) + 1) + cnt c3) : Nat) : Int) → Calls Tryz.prog 104 #[.slice a4 n4 p4, .int .i64 x] wx fun e1 w' => e1 = .returned (.int .i64 ((((((kq + 1) + 1) + 1) + cnt c3) + cnt c4 : Nat))) ∧ Hid (MS w w' e 5 n (.slice (some ⟨g, 0, none⟩) n cap) g cs k0 S1 xs0 (q * 5 + 5))) := by
        intro wx x h hxx
        rw [hxx]
        obtain ⟨c', T, q1, q2, q3, q5⟩ := h.part at4
        rw [x4] at q1
        cases q1
        rw [ct4] at q5
        exact (HI.out n4 ((((kq + 1) + 1) + 1) + cnt c3) c4 _ T wx (by simp only [uszD] at hsz; omega) g4 q3 (by omega) (by omega) q2).mono fun e1 w' h => ⟨h.1, q5 w' h.2.2 h.2.1⟩
      have HQ0 : Hid (∀ wx, MS w wx e 5 n (.slice (some ⟨g, 0, none⟩) n cap) g cs k0 S1 xs0 (q * 5) → wx.cell? ⟨g, q * 5, none⟩ = some (.int .i64 z0) ∧ wx.frozen? ⟨g, q * 5, none⟩ = false ∧ wx.cell? ⟨g, q * 5 + 1, none⟩ = some (.string z1) ∧ wx.frozen? ⟨g, q * 5 + 1, none⟩ = false ∧ wx.cell? ⟨g, q * 5 + 2, none⟩ = some (.int .i64 z2) ∧ wx.frozen? ⟨g, q * 5 + 2, none⟩ = false ∧ wx.cell? ⟨g, q * 5 + 3, none⟩ = some (.slice a3 n3 p3) ∧ wx.frozen? ⟨g, q * 5 + 3, none⟩ = false ∧ wx.cell? ⟨g, q * 5 + 4, none⟩ = some (.slice a4 n4 p4) ∧ wx.frozen? ⟨g, q * 5 + 4, none⟩ = false) := fun wx h => ⟨h.cellAt _ _ (by omega) x0 (by omega), h.fz _, h.cellAt _ _ (by omega) x1 (by omega), h.fz _, h.cellAt _ _ (by omega) x2 (by omega), h.fz _, h.cellAt _ _ (by omega) x3 (by omega), h.fz _, h.cellAt _ _ (by omega) x4 (by omega), h.fz _⟩
      have HQ1 : Hid (∀ wx, MS w wx e 5 n (.slice (some ⟨g, 0, none⟩) n cap) g cs k0 S1 xs0 (q * 5 + 1) → wx.cell? ⟨g, q * 5 + 1, none⟩ = some (.string z1) ∧ wx.frozen? ⟨g, q * 5 + 1, none⟩ = false ∧ wx.cell? ⟨g, q * 5 + 2, none⟩ = some (.int .i64 z2) ∧ wx.frozen? ⟨g, q * 5 + 2, none⟩ = false ∧ wx.cell? ⟨g, q * 5 + 3, none⟩ = some (.slice a3 n3 p3) ∧ wx.frozen? ⟨g, q * 5 + 3, none⟩ = false ∧ wx.cell? ⟨g, q * 5 + 4, none⟩ = some (.slice a4 n4 p4) ∧ wx.frozen? ⟨g, q * 5 + 4, none⟩ = false) := fun wx h => ⟨h.cellAt _ _ (by omega) x1 (by omega), h.fz _, h.cellAt _ _ (by omega) x2 (by omega), h.fz _, h.cellAt _ _ (by omega) x3 (by omega), h.fz _, h.cellAt _ _ (by omega) x4 (by omega), h.fz _⟩
      have HQ4 : Hid (∀ wx, MS w wx e 5 n (.slice (some ⟨g, 0, none⟩) n cap) g cs k0 S1 xs0 (q * 5 + 4) → wx.cell? ⟨g, q * 5 + 4, none⟩ = some (.slice a4 n4 p4) ∧ wx.frozen? ⟨g, q * 5 + 4, none⟩ = false) := fun wx h => ⟨h.cellAt _ _ (by omega) x4 (by omega), h.fz _⟩
      have HN : Hid (∀ wx, MS w wx e 5 n (.slice (some ⟨g, 0, none⟩) n cap) g cs k0 S1 xs0 (q * 5 + 5) → MS w wx e 5 n (.slice (some ⟨g, 0, none⟩) n cap) g cs k0 S1 xs0 ((q + 1) * 5)) := fun wx h => by rw [show q * 5 + 5 = (q + 1) * 5 by omega] at h; exact h
      have HE := uhide hend
      rw [hkq]
      clear hR htr hsz hkn hend hkq Ht Hkk Hp0 Hl0 g0 g1 g2 g3 g4 at0 at1 at2 at3 at4 ct0 ct1 ct2 ct3 ct4 x0 x1 x2 x3 x4
      generalize umtx (kq + 1) = M1 at *
      generalize cnt c3 = m3 at *
      generalize cnt c4 = m4 at *
      obtain ⟨q0, f0, q1, f1, q2, f2, q3, f3, q4, f4⟩ := HQ0.out _ HM.out
      go_wp2_with fail
      refine (HT1.out _ _ (by omega)).mono ?_
      rintro e1 w1 ⟨rfl, hb1⟩
      have I1 : Hid (MS w w1 e 5 n (.slice (some ⟨g, 0, none⟩) n cap) g cs k0 S1 xs0 (q * 5 + 1)) := MS.below (HP0.out _ _ HM.out (congrArg (Value.int .i64) (by omega))) hb1
      clear hb1 q0 f0 q1 f1 q2 f2 q3 f3 q4 f4
      obtain ⟨q1, f1, q2, f2, q3, f3, q4, f4⟩ := HQ1.out _ I1.out
      go_wp2_with fail
      refine (HC3.out _ _ (HP2.out _ _ (HP1.out _ _ I1.out rfl) (congrArg (Value.int .i64) (by omega))) (by omega)).mono ?_
      rintro e1 w2 ⟨rfl, I2⟩
      clear q1 f1 q2 f2 q3 f3 q4 f4
      obtain ⟨q4, f4⟩ := HQ4.out _ I2.out
      go_wp2_with fail
      refine (HC4.out _ _ I2.out (by omega)).mono ?_
      rintro e1 w3 ⟨rfl, I3⟩
      clear q4 f4
      go_wp2
      go_roundw
      case rel => exact ⟨q + 1, by omega, by go_num, by rw [HE.out]; go_num, HN.out _ I3.out⟩
      case measure => (simp [intOf]; omega)
    · have e : q = n := by omega
      subst e
      obtain ⟨h1, h2⟩ := HM.out.done (by decide)
      have HD := uhide (And.intro h1 h2)
      have hl : cs.takeN (q * 5) = cs := by apply UD.ext; unfold UD.takeN; rw [UD.toL_ofL]; exact List.take_of_length_le (Nat.le_of_eq Ht.out.2.2.2.1)
      rw [hl]
      clear h1 h2 hl HM Ht Hp0 Hl0 Hkk
      go_wp2
      go_ret
      exact ⟨rfl, HD.out⟩
theorem umarkValueS_any (n k0 : Nat) (cs : UD) (c : Value) (S : List Nat) (w : World) (ht : tyS 5 n cs 6) (hnd : S.Nodup) (hk0 : 1 ≤ k0) (hk1 : k0 + cnt cs ≤ 100000000) (hx : oS w 5 n cs c S) :
    Calls Tryz.prog 104 #[c, .int .i64 k0] w fun e w' => e = .returned (.int .i64 (k0 + cnt cs : Nat)) ∧ oS w' 5 n (mk cs k0) c S ∧ OutS S w w' := umarkValueS_N (uszD cs + 1) n k0 cs c S w (by omega) ht hnd hk0 hk1 hx
theorem umarkValue_any (d : UD) (k0 : Nat) (xs : List Value) (S : List Nat) (w : World) (ht : tyL d (uE 6)) (hnd : S.Nodup) (hk0 : 1 ≤ k0) (hk1 : k0 + cntT d ≤ 100000000) (hx : oH w d xs S) :
    Calls Tryz.prog 55 #[.agg xs.toArray, .int .i64 k0] w fun e w' => e = .returned (.int .i64 (k0 + cntT d : Nat)) ∧ oH w' (mkT d k0) xs S ∧ OutS S w w' := umarkValue_of d k0 xs S w (fun n4 j4 c4 x4 S4 wx _ ht4 s0 s1 s2 s3 => umarkValueS_any n4 j4 c4 x4 S4 wx ht4 s0 s1 s2 s3) ht hnd hk0 hk1 hx
set_option maxHeartbeats 1600000 in
theorem utoValue_of {lo hi : Nat} (d : UD) (xs : List Value) (w : World) (ih : ∀ (n4 : Nat) (c4 : UD) (x4 : Value) (wx : World), uszD c4 < uszD d → tyS 5 n4 c4 6 → n4 + wt c4 ≤ 1048576 → uS wx lo hi 5 n4 c4 x4 → Calls Tryz.prog 115 #[x4] wx fun e w' => ∃ c' S, e = .returned c' ∧ oS w' 5 n4 c4 c' S ∧ S.Nodup ∧ (∀ s ∈ S, wx.heap.size ≤ s) ∧ Below wx.heap.size wx w') (ht : tyL d (uE 6)) (hn : wt d ≤ 1048576) (hx : uH w lo hi d xs) :
    Calls Tryz.prog 50 #[.agg xs.toArray] w fun e w' => ∃ ys S, e = .returned (.agg ys.toArray) ∧ oH w' d ys S ∧ S.Nodup ∧ (∀ s ∈ S, w.heap.size ≤ s) ∧ Below w.heap.size w w' := by
  obtain ⟨z0, z1, z2, n3, c3, n4, c4, rfl, g0, g1, g2, g3, g4⟩ := partsValue ht
  obtain ⟨_, rfl, ⟨_, rfl, ⟨_, rfl, ⟨v3l, _, rfl, s3l, ⟨v4l, _, rfl, s4l, rfl⟩⟩⟩⟩⟩ := hx
  obtain ⟨a3l, p3l, rfl, t3l⟩ := s3l
  obtain ⟨a4l, p4l, rfl, t4l⟩ := s4l
  simp only [wt, wtP] at hn
  have HC0 : Hid (∀ wx : World, Below w.heap.size w wx → Calls Tryz.prog 51 #[.slice a3l n3 p3l] wx fun e w' => ∃ a p S, e = .returned (.slice a n3 p) ∧ Hid (oS w' 1 n3 c3 (.slice a n3 p) S) ∧ Hid (own2 S wx.heap.size w'.heap.size) ∧ Below wx.heap.size wx w') := fun wx hb => (utoStringS_any (lo := lo) (hi := hi) n3 c3 _ wx g3 (by omega) ((show uS w lo hi 1 n3 c3 (.slice a3l n3 p3l) from ⟨_, _, rfl, t3l⟩).below hb)).mono fun e w' ⟨c', S, h1, h2, h3, h4, h5⟩ => by
    obtain ⟨a, p, rfl⟩ := h2.slice
    exact ⟨a, p, S, h1, h2, ⟨h3, fun s hs => ⟨h4 s hs, h2.lt s hs⟩⟩, h5⟩
  have HC1 : Hid (∀ wx : World, Below w.heap.size w wx → Calls Tryz.prog 115 #[.slice a4l n4 p4l] wx fun e w' => ∃ a p S, e = .returned (.slice a n4 p) ∧ Hid (oS w' 5 n4 c4 (.slice a n4 p) S) ∧ Hid (own2 S wx.heap.size w'.heap.size) ∧ Below wx.heap.size wx w') := fun wx hb => (ih n4 c4 _ wx (by simp only [uszD]; omega) g4 (by omega) ((show uS w lo hi 5 n4 c4 (.slice a4l n4 p4l) from ⟨_, _, rfl, t4l⟩).below hb)).mono fun e w' ⟨c', S, h1, h2, h3, h4, h5⟩ => by
    obtain ⟨a, p, rfl⟩ := h2.slice
    exact ⟨a, p, S, h1, h2, ⟨h3, fun s hs => ⟨h4 s hs, h2.lt s hs⟩⟩, h5⟩
  have HA : Hid (∀ o1 o2 o3, Below w.heap.size w (((w.alloc o1).alloc o2).alloc o3)) := fun o1 o2 o3 => (((Below.refl _ _).alloc (Nat.le_refl _) _).alloc (by simp) _).alloc (by simp; omega) _
  clear hn ht g0 g1 g2 g3 g4 t3l t4l ih
  go_enter Tryz.func50, Tryz.ntmps50
  go_wp2_with fail
  refine (HC0.out _ (by repeat (first | with_reducible exact HA.out _ _ _ | with_reducible assumption | with_reducible refine Below.setCell ?_ (by simp <;> omega) _))).mono ?_
  rintro e w1 ⟨a3r, p3r, S1, rfl, O1, W1, hb1⟩
  have OA1 : Hid (objU w1 w.heap.size 83 [.int .i64 z0, .string z1, .int .i64 z2, .slice a3l n3 p3l, .slice a4l n4 p4l]) := objU.below (by repeat (first | with_reducible exact objU.new2 _ _ rfl | with_reducible refine objU.other ?_ _ (by simp <;> omega) _ | with_reducible refine objU.old ?_ _)) hb1
  have OR1 : Hid (objU w1 (w.heap.size + 1) 90 [.int .i64 0, .string ⟨#[]⟩, .int .i64 0, .slice none 0 0, .slice none 0 0]) := objU.below (by repeat (first | with_reducible exact objU.new2 _ _ (by simp) | with_reducible refine objU.other ?_ _ (by simp <;> omega) _ | with_reducible refine objU.old ?_ _)) hb1
  have OO1 : Hid (objU w1 (w.heap.size + 1 + 1) 90 [.int .i64 z0, .string z1, .int .i64 z2, .slice none 0 0, .slice none 0 0]) := objU.below (by repeat (first | with_reducible exact objU.new2 _ _ (by simp) | with_reducible refine objU.old ?_ _)) hb1
  have hsz1 : w.heap.size + 1 + 1 + 1 ≤ w1.heap.size := by have := hb1.size; simpa using this
  replace W1 := uhide (W1.out.mono (a' := w.heap.size + 1 + 1 + 1) (by simp <;> omega) (Nat.le_refl _))
  have HB1 : Hid (Below w.heap.size w w1) := Below.trans (by repeat (first | with_reducible exact HA.out _ _ _ | with_reducible refine Below.setCell ?_ (by simp <;> omega) _)) (hb1.mono (by simp <;> omega))
  clear hb1
  have co3_1 : w1.cell? ⟨w.heap.size + 1 + 1, 3, none⟩ = some (.slice none 0 0) := OO1.out.cell 3 _ rfl
  have fo3_1 : w1.frozen? ⟨w.heap.size + 1 + 1, 3, none⟩ = false := OO1.out.fz 3
  have ca4_1 : w1.cell? ⟨w.heap.size, 4, none⟩ = some (.slice a4l n4 p4l) := OA1.out.cell 4 _ rfl
  have co4_1 : w1.cell? ⟨w.heap.size + 1 + 1, 4, none⟩ = some (.slice none 0 0) := OO1.out.cell 4 _ rfl
  have fo4_1 : w1.frozen? ⟨w.heap.size + 1 + 1, 4, none⟩ = false := OO1.out.fz 4
  go_wp2_with fail
  refine (HC1.out _ (by repeat (first | with_reducible exact HA.out _ _ _ | with_reducible assumption | with_reducible refine Below.setCell ?_ (by simp <;> omega) _ | with_reducible exact HB1.out))).mono ?_
  rintro e w2 ⟨a4r, p4r, S2, rfl, O2, W2, hb2⟩
  have OA2 : Hid (objU w2 w.heap.size 83 [.int .i64 z0, .string z1, .int .i64 z2, .slice a3l n3 p3l, .slice a4l n4 p4l]) := objU.below (by repeat (first | with_reducible exact OA1.out | with_reducible refine objU.other ?_ _ (by simp <;> omega) _ | with_reducible refine objU.old ?_ _)) hb2
  have OR2 : Hid (objU w2 (w.heap.size + 1) 90 [.int .i64 0, .string ⟨#[]⟩, .int .i64 0, .slice none 0 0, .slice none 0 0]) := objU.below (by repeat (first | with_reducible exact OR1.out | with_reducible refine objU.other ?_ _ (by simp <;> omega) _ | with_reducible refine objU.old ?_ _)) hb2
  have OO2 : Hid (objU w2 (w.heap.size + 1 + 1) 90 [.int .i64 z0, .string z1, .int .i64 z2, .slice a3r n3 p3r, .slice none 0 0]) := objU.below (by refine objU.set (xs := [.int .i64 z0, .string z1, .int .i64 z2, .slice none 0 0, .slice none 0 0]) ?_ 3 _; exact OO1.out) hb2
  replace O1 := uhide ((oS.outs O1.out (T := [w.heap.size + 1 + 1]) (by repeat (first | with_reducible exact OutS.refl _ _ | with_reducible refine OutS.setCell ?_ (show _ ∈ [w.heap.size + 1 + 1] by simp) _)) W1.out (fun x hx => by simp at hx; omega)).below hb2)
  have hsz2 : w1.heap.size ≤ w2.heap.size := Nat.le_trans (by simp) hb2.size
  replace W2 := uhide (W2.out.mono (a' := w1.heap.size) (by simp) (Nat.le_refl _))
  have HB2 : Hid (Below w.heap.size w w2) := Below.trans (by repeat (first | with_reducible exact HB1.out | with_reducible refine Below.setCell ?_ (by simp <;> omega) _)) (hb2.mono (by simp <;> omega))
  clear hb2
  clear OA1 OR1 OO1 HB1
  have co4_2 : w2.cell? ⟨w.heap.size + 1 + 1, 4, none⟩ = some (.slice none 0 0) := OO2.out.cell 4 _ rfl
  have fo4_2 : w2.frozen? ⟨w.heap.size + 1 + 1, 4, none⟩ = false := OO2.out.fz 4
  have co0_2 : w2.cell? ⟨w.heap.size + 1 + 1, 0, none⟩ = some (.int .i64 z0) := OO2.out.cell 0 _ rfl
  have cr0 : w2.cell? ⟨w.heap.size + 1, 0, none⟩ = some (.int .i64 0) := OR2.out.cell 0 _ rfl
  have fr0 : w2.frozen? ⟨w.heap.size + 1, 0, none⟩ = false := OR2.out.fz 0
  have co1_2 : w2.cell? ⟨w.heap.size + 1 + 1, 1, none⟩ = some (.string z1) := OO2.out.cell 1 _ rfl
  have cr1 : w2.cell? ⟨w.heap.size + 1, 1, none⟩ = some (.string ⟨#[]⟩) := OR2.out.cell 1 _ rfl
  have fr1 : w2.frozen? ⟨w.heap.size + 1, 1, none⟩ = false := OR2.out.fz 1
  have co2_2 : w2.cell? ⟨w.heap.size + 1 + 1, 2, none⟩ = some (.int .i64 z2) := OO2.out.cell 2 _ rfl
  have cr2 : w2.cell? ⟨w.heap.size + 1, 2, none⟩ = some (.int .i64 0) := OR2.out.cell 2 _ rfl
  have fr2 : w2.frozen? ⟨w.heap.size + 1, 2, none⟩ = false := OR2.out.fz 2
  have co3_2 : w2.cell? ⟨w.heap.size + 1 + 1, 3, none⟩ = some (.slice a3r n3 p3r) := OO2.out.cell 3 _ rfl
  have cr3 : w2.cell? ⟨w.heap.size + 1, 3, none⟩ = some (.slice none 0 0) := OR2.out.cell 3 _ rfl
  have fr3 : w2.frozen? ⟨w.heap.size + 1, 3, none⟩ = false := OR2.out.fz 3
  have cr4 : w2.cell? ⟨w.heap.size + 1, 4, none⟩ = some (.slice none 0 0) := OR2.out.cell 4 _ rfl
  have fr4 : w2.frozen? ⟨w.heap.size + 1, 4, none⟩ = false := OR2.out.fz 4
  go_wp2
  refine bodyPost_ret (v := .agg #[.int .i64 z0, .string z1, .int .i64 z2, .slice a3r n3 p3r, .slice a4r n4 p4r]) ?_ rfl ⟨[.int .i64 z0, .string z1, .int .i64 z2, .slice a3r n3 p3r, .slice a4r n4 p4r], (S1 ++ (S2 ++ [])), rfl, ?_, ?_⟩
  · simp [results, Tryz.results50, go_sem, cr0, cr1, cr2, cr3, cr4]
  · exact oH.consP _ (oH.consP _ (oH.consP _ (oH.consS (oS.outs O1.out (T := [w.heap.size + 1, w.heap.size + 1 + 1]) (by repeat (first | with_reducible exact OutS.refl _ _ | with_reducible refine OutS.setCell ?_ (show _ ∈ [w.heap.size + 1, w.heap.size + 1 + 1] by simp) _)) W1.out (fun x hx => by simp at hx; omega)) (oH.consS (oS.outs O2.out (T := [w.heap.size + 1, w.heap.size + 1 + 1]) (by repeat (first | with_reducible exact OutS.refl _ _ | with_reducible refine OutS.setCell ?_ (show _ ∈ [w.heap.size + 1, w.heap.size + 1 + 1] by simp) _)) W2.out (fun x hx => by simp at hx; omega)) (oH.nil _)))))
  · have HW := own2.app W1.out (own2.app W2.out (own2.nil w2.heap.size w2.heap.size) (by omega) (by omega) (by omega)) (by omega) (by omega) (by omega)
    refine ⟨HW.1, fun s hs => (by have := HW.2 s hs; omega), ?_⟩
    repeat (first | with_reducible exact HB2.out | with_reducible refine Below.setCell ?_ (by simp <;> omega) _)
theorem Tryz.infoUValue : (Tryz.prog.info? 90).map (fun i => (i.zero, i.size, decide (i.bytes ≤ 1000))) = some (some (.agg #[.int .i64 0, .string ByteArray.empty, .int .i64 0, .slice none 0 0, .slice none 0 0]), 5, true) := by kernel_rfl
set_option maxHeartbeats 1600000 in
theorem utoValueS_N {lo hi : Nat} : ∀ (N : Nat) (n : Nat) (cs : UD) (c : Value) (w : World), uszD cs < N → tyS 5 n cs 6 → n + wt cs ≤ 1048576 → uS w lo hi 5 n cs c →
    Calls Tryz.prog 115 #[c] w fun e w' => ∃ c' S, e = .returned c' ∧ oS w' 5 n cs c' S ∧ S.Nodup ∧ (∀ s ∈ S, w.heap.size ≤ s) ∧ Below w.heap.size w w' := by
  intro N
  induction N with
  | zero => intro n cs c w hN; omega
  | succ N ihN =>
  intro n cs c w hN ht hn hx
  have HI := uhide ihN
  clear ihN
  obtain ⟨i0, hinf, hz0, hz1, hz2⟩ : ∃ i, Tryz.prog.info? 90 = some i ∧ i.zero = some (.agg #[.int .i64 0, .string ByteArray.empty, .int .i64 0, .slice none 0 0, .slice none 0 0]) ∧ i.size = 5 ∧ i.bytes ≤ 1000 := by
    have h := Tryz.infoUValue
    cases e : Tryz.prog.info? 90 with
    | none => rw [e] at h; cases h
    | some i => rw [e] at h; simp at h; exact ⟨i, rfl, h.1, h.2.1, h.2.2⟩
  obtain ⟨a, cap, rfl, hx2⟩ := hx
  have Hx : Hid (uS w lo hi 5 n cs (.slice a n cap)) := ⟨a, cap, rfl, hx2⟩
  have Ht := uhide ht
  have Hn : Hid (∀ q, q < n → wt (rowU cs 5 q) ≤ 1048576) := fun q hq => by have := wt_row cs 5 q; omega
  have hnn : n ≤ 1048576 := by omega
  have hbb : i0.bytes * n ≤ 281474976710656 := Nat.le_trans (Nat.mul_le_mul hz2 hnn) (by decide)
  clear hx2 ht hn
  go_enter Tryz.func115, Tryz.ntmps115
  go_wp2_with (at_make; refine wpList_make_full _ rfl _ _ 88 rfl w.heap.size 90 i0 _ 5 Tryz.underlying88 hinf hz0 hz1 _ _ _ _ n rfl rfl rfl rfl hbb (by unfold maxLen; omega) (Nat.le_refl _) ?_; intro w1 hown hgrow)
  have T0 := uhide (TS.start (cs := cs) hown (Below.grown (Below.refl _ _) hgrow (Nat.le_refl _) (fun k hk => by cases hk)))
  clear hown hgrow
  go_loopw [4] (fun i wr => ∃ (q : Nat), q ≤ n ∧ i = .int .i64 q ∧ Hid (TS w wr 90 5 n cs q)) (fun i _ => n - (intOf i).toNat)
  case atStart => exact ⟨0, Nat.zero_le _, rfl, T0⟩
  case round =>
    clear T0
    obtain ⟨q, hq, rfl, HT⟩ := hrel
    by_cases hlt : q < n
    · obtain ⟨b, off, rfl, hbk, hm⟩ := (Hx.out.below HT.out.bel).cells (by omega)
      have htr := Ht.out.row hlt
      have hwr := Hn.out q hlt
      have hsz := uszD_row cs 5 q
      obtain ⟨xs, hh, hcl⟩ := (hm.row 5 q).hand
      have Hcon : Hid (∀ wx, Below wr.heap.size wr wx → Calls Tryz.prog 50 #[.agg xs.toArray] wx fun e w' => ∃ ys S, e = .returned (.agg ys.toArray) ∧ oH w' (rowU cs 5 q) ys S ∧ S.Nodup ∧ (∀ s ∈ S, wx.heap.size ≤ s) ∧ Below wx.heap.size wx w') := fun wx hb => utoValue_of (lo := lo) (hi := hi) _ _ wx (fun n4 c4 x4 wy hlt ht4 q0 hs4 => HI.out n4 c4 x4 wy (by omega) ht4 q0 hs4) htr hwr (hh.below hb)
      obtain ⟨z0, z1, z2, n3, c3, n4, c4, hR, g0, g1, g2, g3, g4⟩ := partsValue htr
      rw [hR] at hh
      obtain ⟨_, rfl, ⟨_, rfl, ⟨_, rfl, ⟨v3l, _, rfl, s3l, ⟨v4l, _, rfl, s4l, rfl⟩⟩⟩⟩⟩ := hh
      obtain ⟨a3l, p3l, rfl, t3l⟩ := s3l
      obtain ⟨a4l, p4l, rfl, t4l⟩ := s4l
      have q0 : wr.cell? ⟨b, off + q * 5, none⟩ = some (.int .i64 z0) := hcl 0 _ rfl
      have q1 : wr.cell? ⟨b, off + q * 5 + 1, none⟩ = some (.string z1) := hcl 1 _ rfl
      have q2 : wr.cell? ⟨b, off + q * 5 + 2, none⟩ = some (.int .i64 z2) := hcl 2 _ rfl
      have q3 : wr.cell? ⟨b, off + q * 5 + 3, none⟩ = some (.slice a3l n3 p3l) := hcl 3 _ rfl
      have q4 : wr.cell? ⟨b, off + q * 5 + 4, none⟩ = some (.slice a4l n4 p4l) := hcl 4 _ rfl
      have HR := uhide hR
      have HS : Hid (∀ (w2 : World) ys S, oH w2 (rowU cs 5 q) ys S → ∃ a3r p3r a4r p4r , ys = [.int .i64 z0, .string z1, .int .i64 z2, .slice a3r n3 p3r, .slice a4r n4 p4r]) := by
        intro w2 ys S h
        rw [HR.out] at h
        obtain ⟨_, rfl, ⟨_, rfl, ⟨_, rfl, ⟨v3, _, _, _, rfl, _, _, ⟨_, _, o3, _⟩, ⟨v4, _, _, _, rfl, _, _, ⟨_, _, o4, _⟩, ⟨rfl, _⟩⟩⟩⟩⟩⟩ := h
        obtain ⟨a3, p3, rfl⟩ := uowns_slice o3
        obtain ⟨a4, p4, rfl⟩ := uowns_slice o4
        exact ⟨a3, p3, a4, p4, rfl⟩
      have hKn : q * 5 + 5 ≤ n * 5 := by have := Nat.mul_le_mul_right 5 (show q + 1 ≤ n by omega); rw [Nat.succ_mul] at this; exact this
      clear hR hcl hm htr hsz hwr HR g0 g1 g2 g3 g4 t3l t4l
      go_wp2_with fail
      refine (Hcon.out _ (by repeat (first | exact Below.refl _ _ | refine Below.alloc ?_ (by simp) _))).mono ?_
      rintro e w2 ⟨ys, S, rfl, ho, hnd, hS, hb2⟩
      obtain ⟨a3r, p3r, a4r, p4r, rfl⟩ := HS.out _ _ _ ho
      have HT2 := uhide (HT.out.below hb2)
      have T1 := uhide (HT.out.step hb2 ho hnd hS Ht.out.2.2.2.1 hlt)
      obtain ⟨d0, p0x⟩ := HT2.out.cell (q * 5) (by omega)
      have f0 := HT2.out.fz (q * 5)
      obtain ⟨d1, p1x⟩ := HT2.out.cell (q * 5 + 1) (by omega)
      have f1 := HT2.out.fz (q * 5 + 1)
      obtain ⟨d2, p2x⟩ := HT2.out.cell (q * 5 + 2) (by omega)
      have f2 := HT2.out.fz (q * 5 + 2)
      obtain ⟨d3, p3x⟩ := HT2.out.cell (q * 5 + 3) (by omega)
      have f3 := HT2.out.fz (q * 5 + 3)
      obtain ⟨d4, p4x⟩ := HT2.out.cell (q * 5 + 4) (by omega)
      have f4 := HT2.out.fz (q * 5 + 4)
      clear ho hnd hS hb2 Hcon HS HT HT2 Hx Ht Hn
      go_wp2
      go_roundw
      case rel => exact ⟨q + 1, by omega, by go_num, T1⟩
      case measure => simp [intOf]; omega
    · have e : q = n := by omega
      subst e
      obtain ⟨S, h1, h2, h3, h4⟩ := HT.out.done (by decide) Ht.out.2.2.2.1
      have HS : Hid (oS wr 5 q cs (.slice (some ⟨w.heap.size, 0, none⟩) q q) S ∧ S.Nodup ∧ (∀ s ∈ S, w.heap.size ≤ s) ∧ Below w.heap.size w wr) := ⟨h1, h2, h3, h4⟩
      clear h1 h2 h3 h4
      go_wp2
      go_ret
      exact ⟨_, S, rfl, HS.out⟩
theorem utoValueS_any {lo hi : Nat} (n : Nat) (cs : UD) (c : Value) (w : World) (ht : tyS 5 n cs 6) (hn : n + wt cs ≤ 1048576) (hx : uS w lo hi 5 n cs c) :
    Calls Tryz.prog 115 #[c] w fun e w' => ∃ c' S, e = .returned c' ∧ oS w' 5 n cs c' S ∧ S.Nodup ∧ (∀ s ∈ S, w.heap.size ≤ s) ∧ Below w.heap.size w w' := utoValueS_N (uszD cs + 1) n cs c w (by omega) ht hn hx
theorem utoValue_any {lo hi : Nat} (d : UD) (xs : List Value) (w : World) (ht : tyL d (uE 6)) (hn : wt d ≤ 1048576) (hx : uH w lo hi d xs) :
    Calls Tryz.prog 50 #[.agg xs.toArray] w fun e w' => ∃ ys S, e = .returned (.agg ys.toArray) ∧ oH w' d ys S ∧ S.Nodup ∧ (∀ s ∈ S, w.heap.size ≤ s) ∧ Below w.heap.size w w' := utoValue_of d xs w (fun n4 c4 x4 wx _ ht4 q0 hs => utoValueS_any n4 c4 x4 wx ht4 q0 hs) ht hn hx
end Go.Proofs.YtdnodaoeflbfkaaGreat
/- Copying any value: what the steps within a round leave. -/
namespace Go.Proofs.YtdnodaoeflbfkaaGreat
open Go.RowKit Go.BigFrame
set_option linter.unusedVariables false

def cpc (H N : Nat) : CpC := ⟨H, 90, 88, 309, 312, cpS1, cpV1, H + 1, H, N + 1, N⟩
theorem UD.nil_of {d : UD} (h : d.len = 0) : d = .nil := by
  cases d with
  | nil => rfl
  | p v r => rw [UD.len_p] at h; omega
  | l k n cs r => rw [UD.len_l] at h; omega
theorem tyS.one6 {d : UD} (h : tyL d (uE 6)) : tyS 5 1 d 6 := by
  refine ⟨by decide, rfl, by decide, by rw [h.len]; rfl, ?_⟩
  have := tyU.row (fs := uE 6) (by decide) (d := d) (rest := .nil) (i := 0) (j := 0) (by rw [List.drop_zero]; exact h) (Nat.zero_mod _) trivial
  have e : d.app .nil = d := by apply UD.ext; rw [UD.app_toL]; show d.toL ++ [] = _; rw [List.append_nil]
  rw [e] at this
  exact this
/-- the first row: a list of the value alone -/
theorem CpO.start {w0 w2 : World} {d : UD} {xs : List Value} {S : List Nat} {N : Nat} (ht : tyL d (uE 6)) (hx : oH w0 d xs S) (hS : S.Nodup) (hl : xs.length = 5) (hN : N = w0.heap.size + 2) (h2 : w2.heap.size = N + 2) (hb : Below w0.heap.size w0 w2)
    (hk : Cop w2 309 cpS1 (w0.heap.size + 1) w0.heap.size (fun _ => False)) (hd : Cop w2 312 cpV1 (N + 1) N (fun _ => False)) :
    CpO (cpc w0.heap.size N) w0 ((w2.alloc (.cells xs.toArray 90)).alloc (.cells #[.slice (some ⟨w2.heap.size, 0, none⟩) 1 1] 88)) d (.slice (some ⟨w2.heap.size, 0, none⟩) 1 1) (.slice (some ⟨w2.heap.size + 1, 0, none⟩) 1 1) (uszD d) [⟨w2.heap.size, 1, d, 1⟩] [] S (w2.heap.size + 1) 1 := by
  have b2 : Below w2.heap.size w2 ((w2.alloc (.cells xs.toArray 90)).alloc (.cells #[.slice (some ⟨w2.heap.size, 0, none⟩) 1 1] 88)) := ((Below.refl _ _).alloc (Nat.le_refl _) _).alloc (by simp) _
  have hxl : ∀ s ∈ S, s < w0.heap.size := fun s hs => hx.lt _ _ _ s hs
  refine ⟨rfl, ?_, ?_, ?_, by simp, ?_, hS, hxl, ?_, ?_, ?_, ?_, by simp [hWt], hb.trans (b2.mono hb.size)⟩
  · have := World.ownsRow_lit (base := w0.heap.size) (size := 1) (e := 88) (w2.alloc (.cells xs.toArray 90)) #[.slice (some ⟨w2.heap.size, 0, none⟩) 1 1] 1 (by simp; omega) (by decide) (by rfl)
    simpa [cpc, HL.v] using this
  · exact ⟨_, [], [], [], [⟨w2.heap.size, 1, d, 1⟩], [], rfl, rfl, rfl, by decide, .inr ⟨rfl, rfl, _, 1, rfl, rfl⟩, rfl, rfl, rfl⟩
  · refine ⟨xs, S, [], by simp, Nat.one_pos, tyS.one6 ht, ?_, ?_, rfl⟩
    · have := World.ownsRow_lit (base := w0.heap.size) (size := 5) (e := 90) w2 xs.toArray 1 (by omega) (by decide) (by simp [hl])
      have h3 : (w2.alloc (.cells xs.toArray 90)).ownsRow w0.heap.size 90 5 (.slice (some ⟨w2.heap.size, 0, none⟩) 1 1) 1 xs := by simpa using this
      exact uowns_frame h3 (fun x hx => ((Below.refl _ _).alloc (Nat.le_refl _) _).block x (ublk_lt h3 x hx).2)
    · exact (hx.below hb).below (b2.mono (Nat.le_refl _))
  · intro s hs
    simp only [List.map_cons, List.map_nil, List.nil_append, List.mem_cons, List.not_mem_nil, or_false] at hs
    subst hs
    simp only [cpc, CpC.fix, List.mem_cons, List.not_mem_nil, or_false]
    refine ⟨by omega, by simp; omega, by omega, by omega⟩
  · exact (hk.below b2).mono (fun c h => h.elim)
  · exact (hd.below b2).mono (fun c h => h.elim)
  · intro s hs
    simp only [cpc, CpC.fix, List.mem_cons, List.not_mem_nil, or_false] at hs ⊢
    simp
    omega
  · simp only [cpc, CpC.fix, List.nodup_cons, List.mem_cons, List.not_mem_nil, or_false, not_or, List.nodup_nil, and_true, not_false_eq_true]
    omega
/-- the keys that were copied -/
theorem cpy_keys {w w3 w' : World} {te tc : TypeId} {f1 : Field} {n3 : Nat} {c3 : UD} {zs : List Value} {bc bm : Nat} {ok : Addr → Prop} {a : Option Addr} {kv : Value} {fl : Bool} (h : CpyR w w3 te tc f1 1 n3 zs bc bm ok a kv fl) (ht : tyS 1 n3 c3 0) {Si : List Nat} (ho : oH w c3 zs Si)
    (hf : ∀ g ∈ blkOf kv, w'.heap[g]? = w3.heap[g]?) (hs : w3.heap.size ≤ w'.heap.size) : hH w' (.l 1 n3 c3 .nil) [kv] (blkOf kv) [] ∧ own2 (blkOf kv) w.heap.size w'.heap.size := by
  have hp : ∀ f ∈ uE 0, ∀ k t, f ≠ .l k t := by intro f hf k t e; subst e; simp [uE] at hf
  rcases h.res with ⟨h0, rfl, _⟩ | ⟨h0, _, g', cap, rfl, h1, h2⟩
  · subst h0
    have : c3 = .nil := UD.nil_of (by rw [ht.2.2.2.1])
    subst this
    exact ⟨⟨_, [], [], [], [], [], rfl, rfl, rfl, by decide, .inl ⟨te, [], [], rfl, World.ownsRow_nil _ _ _ _, rfl, rfl, rfl⟩, rfl, rfl, rfl⟩, own2.nil _ _⟩
  · have h3 := uowns_frame h2 hf
    have ho2 : oH w' c3 zs [] := plain_own hp ht.2.2.2.2 (ho.hand (lo := 0) (hi := w.heap.size) (fun g hg => ⟨Nat.zero_le _, ho.lt _ _ _ g hg⟩))
    refine ⟨⟨_, [], blkOf (.slice (some ⟨g', 0, none⟩) n3 cap), [], [], [], rfl, by simp, rfl, by decide, .inl ⟨te, zs, [], by simp, owns_base h3, ho2.hole _ _ _⟩, rfl, rfl, rfl⟩, ?_⟩
    exact ⟨by unfold blkOf; split <;> simp, fun s hs => ⟨(ublk_lt h3 s hs).1, (ublk_lt h3 s hs).2⟩⟩
theorem cpy_kids0 {w w3 w' : World} {te tc : TypeId} {f1 : Field} {c4 : UD} {zs : List Value} {bc bm : Nat} {ok : Addr → Prop} {a : Option Addr} {dv : Value} {fl : Bool} (h : CpyR w w3 te tc f1 5 0 zs bc bm ok a dv fl) (ht : tyS 5 0 c4 6) : dv = .slice none 0 0 ∧ fl = false ∧ hH w' (.l 5 0 c4 .nil) [dv] [] [] := by
  rcases h.res with ⟨h0, rfl, h1⟩ | ⟨h0, _⟩
  · have : c4 = .nil := UD.nil_of (by rw [ht.2.2.2.1])
    subst this
    exact ⟨rfl, h1, ⟨_, [], [], [], [], [], rfl, rfl, rfl, by decide, .inl ⟨te, [], [], rfl, World.ownsRow_nil _ _ _ _, rfl, rfl, rfl⟩, rfl, rfl, rfl⟩⟩
  · omega
theorem hH.open {w' : World} (g n cap : Nat) (c4 : UD) : hH w' (.l 5 n c4 .nil) [.slice (some ⟨g, 0, none⟩) n cap] [] [⟨g, n, c4, cap⟩] :=
  ⟨_, [], [], [], [⟨g, n, c4, cap⟩], [], rfl, rfl, rfl, by decide, .inr ⟨rfl, rfl, g, cap, rfl, rfl⟩, rfl, rfl, rfl⟩
end Go.Proofs.YtdnodaoeflbfkaaGreat
/- Copying any value: a step within a round, on worlds alone. -/
namespace Go.Proofs.YtdnodaoeflbfkaaGreat
open Go.RowKit Go.BigFrame
set_option linter.unusedVariables false

theorem CpyR.slice {w w' : World} {te tc : TypeId} {f1 : Field} {k n : Nat} {zs : List Value} {bc bm : Nat} {ok : Addr → Prop} {a : Option Addr} {kv : Value} {fl : Bool} (h : CpyR w w' te tc f1 k n zs bc bm ok a kv fl) : ∃ b c, kv = .slice b n c := by
  rcases h.res with ⟨rfl, rfl, _⟩ | ⟨_, _, g', cap, rfl, _⟩
  · exact ⟨_, _, rfl⟩
  · exact ⟨_, _, rfl⟩
/-- an element of the row at hand: its two lists, another's -/
structure ElV (wr : World) (h : HL) (q : Nat) (Sr : List Nat) (zs : List Value) (z0 : Int) (z1 : ByteArray) (z2 : Int) (n3 : Nat) (c3 : UD) (n4 : Nat) (c4 : UD) (a3 : Option Addr) (p3 : Nat) (a4 : Option Addr) (p4 : Nat) (e3 e4 : TypeId) (ys zs3 zs4 : List Value) (S3i S4i Sb : List Nat) : Prop where
  row : rowU h.cs 5 q = .p (.int .i64 z0) (.p (.string z1) (.p (.int .i64 z2) (.l 1 n3 c3 (.l 5 n4 c4 .nil))))
  cells : zs.drop (q * 5) = .int .i64 z0 :: .string z1 :: .int .i64 z2 :: .slice a3 n3 p3 :: .slice a4 n4 p4 :: ys
  src : Sr = ((blkOf (.slice a3 n3 p3) ++ S3i) ++ (blkOf (.slice a4 n4 p4) ++ S4i)) ++ Sb
  rest : oH wr (h.cs.dropN ((q + 1) * 5)) ys Sb
  t3 : tyS 1 n3 c3 0
  t4 : tyS 5 n4 c4 6
  o3 : wr.ownsRow 0 e3 1 (.slice a3 n3 p3) n3 zs3
  h3 : oH wr c3 zs3 S3i
  o4 : wr.ownsRow 0 e4 5 (.slice a4 n4 p4) n4 zs4
  h4 : oH wr c4 zs4 S4i
theorem CpI.elem {c : CpC} {w wr : World} {d : UD} {vw lv : Value} {m : Nat} {h : HL} {q : Nat} {L0 : List HL} {S0 Ss0 : List Nat} {Lq : List HL} {Sq Ssq Sr : List Nat} {zs : List Value} {gl capl : Nat} (i : CpI c w wr d vw lv m h q L0 S0 Ss0 Lq Sq Ssq Sr zs gl capl) (hq : q < h.n) :
    ∃ z0 z1 z2 n3 c3 n4 c4 a3 p3 a4 p4 e3 e4 ys zs3 zs4 S3i S4i Sb, ElV wr h q Sr zs z0 z1 z2 n3 c3 n4 c4 a3 p3 a4 p4 e3 e4 ys zs3 zs4 S3i S4i Sb := by
  obtain ⟨z0, z1, z2, n3, c3, n4, c4, hR, g0, g1, g2, g3, g4⟩ := partsValue (i.ty.row hq)
  have h2 := i.rest
  rw [UD.drop_row, hR] at h2
  obtain ⟨xs, ys, Sa, Sb, e1, rfl, h6, h7⟩ := oH.split h2
  obtain ⟨a3, p3, a4, p4, S3, S4, rfl, rfl, ⟨k3, e3, zs3, S3i, o3, m3, rfl⟩, ⟨k4, e4, zs4, S4i, o4, m4, rfl⟩⟩ := oH.value h6
  exact ⟨z0, z1, z2, n3, c3, n4, c4, a3, p3, a4, p4, e3, e4, ys, zs3, zs4, S3i, S4i, Sb, hR, e1, rfl, h7, g3, g4, o3, m3, o4, m4⟩
theorem CpI.lens {c : CpC} {w wr : World} {d : UD} {vw lv : Value} {m : Nat} {h : HL} {q : Nat} {L0 : List HL} {S0 Ss0 : List Nat} {Lq : List HL} {Sq Ssq Sr : List Nat} {zs : List Value} {gl capl : Nat} (i : CpI c w wr d vw lv m h q L0 S0 Ss0 Lq Sq Ssq Sr zs gl capl)
    {z0 : Int} {z1 : ByteArray} {z2 : Int} {n3 : Nat} {c3 : UD} {n4 : Nat} {c4 : UD} {a3 : Option Addr} {p3 : Nat} {a4 : Option Addr} {p4 : Nat} {e3 e4 : TypeId} {ys zs3 zs4 : List Value} {S3i S4i Sb : List Nat} (e : ElV wr h q Sr zs z0 z1 z2 n3 c3 n4 c4 a3 p3 a4 p4 e3 e4 ys zs3 zs4 S3i S4i Sb) : n3 ≤ m ∧ n4 ≤ m ∧ (L0 ++ Lq).length ≤ m := by
  have h1 := mWt_row5 h.cs q
  rw [e.row] at h1
  have e2 : uszD (UD.p (.int .i64 z0) (.p (.string z1) (.p (.int .i64 z2) (.l 1 n3 c3 (.l 5 n4 c4 .nil))))) = uszD c3 + uszD c4 + 5 := by simp only [uszD]; omega
  rw [e2] at h1
  have h3 := uszD_len c3
  have h4 := uszD_len c4
  rw [e.t3.2.2.2.1] at h3
  rw [e.t4.2.2.2.1] at h4
  have hm := i.mea
  have k1 := i.src0.count
  have k2 := i.srcq.count
  rw [List.length_append]
  omega
theorem okn {H n : Nat} {Ss0 Ssq S3 S4 S4' Sb : List Nat} {a : Option Addr} (hn : ((Ss0 ++ Ssq) ++ ((S3 ++ S4) ++ Sb)).Nodup) (ha : ∀ s ∈ (Ss0 ++ Ssq) ++ ((S3 ++ S4) ++ Sb), s < H) (hs : ∀ s ∈ S4', s ∈ S4) (hb : ∀ c, some c = a → c.block ∈ S3 ++ S4 ∧ c.block ∉ S4') :
    ∀ c, (okS H ((Ss0 ++ Ssq) ++ ((S3 ++ S4) ++ Sb)) c ∨ (0 < n ∧ some c = a)) → okS H ((Ss0 ++ (Ssq ++ S4')) ++ Sb) c := by
  intro c hc
  unfold okS at hc ⊢
  simp only [List.nodup_append, List.mem_append] at hn ha hb hc ⊢
  rcases hc with ⟨h1, h2⟩ | ⟨_, h1⟩
  · refine ⟨h1, ?_⟩
    grind
  · obtain ⟨h2, h3⟩ := hb c h1
    grind
theorem own_head {w : World} {e : TypeId} {k n p : Nat} {a : Option Addr} {zs : List Value} (h : w.ownsRow 0 e k (.slice a n p) n zs) : ∀ c, some c = a → c.block ∈ blkOf (.slice a n p) := by
  intro c hc
  rcases h.2 with ⟨h1, _⟩ | ⟨g, cap, cur, h1, _⟩
  · cases h1; cases hc
  · cases h1; cases hc; simp [blkOf, Value.ownBlock]
section
variable {H N : Nat} {w wr : World} {d : UD} {vw lv : Value} {m : Nat} {h : HL} {q : Nat} {L0 : List HL} {S0 Ss0 : List Nat} {Lq : List HL} {Sq Ssq Sr : List Nat} {zs : List Value} {gl capl : Nat}
  {z0 : Int} {z1 : ByteArray} {z2 : Int} {n3 : Nat} {c3 : UD} {n4 : Nat} {c4 : UD} {a3 : Option Addr} {p3 : Nat} {a4 : Option Addr} {p4 : Nat} {e3 e4 : TypeId} {ys zs3 zs4 : List Value} {S3i S4i Sb : List Nat} {wx w3 w5 w7 : World} {kv dv : Value} {fk fd : Bool}
/-- the copy of the keys is asked -/
theorem CpI.kcall (i : CpI (cpc H N) w wr d vw lv m h q L0 S0 Ss0 Lq Sq Ssq Sr zs gl capl) (e : ElV wr h q Sr zs z0 z1 z2 n3 c3 n4 c4 a3 p3 a4 p4 e3 e4 ys zs3 zs4 S3i S4i Sb) (hw : Below wr.heap.size wr wx) (hn : n3 ≤ 100000000) :
    Calls Tryz.prog 240 #[.pointer (some ⟨H + 1, 0, none⟩), .slice a3 n3 p3] wx fun e w' => cpyAns wx w' 9 309 cpS1 1 n3 zs3 (H + 1) H (okS H ((Ss0 ++ Ssq) ++ Sr)) a3 e := by
  obtain ⟨⟨z, hz⟩, hm⟩ := i.ck.below hw
  have hn2 := i.nsrc
  have ha := i.asrc
  rw [e.src] at hn2 ha
  refine cpyS_any n3 zs3 a3 p3 z (H + 1) H _ e3 wx (uowns_frame e.o3 (fun x hx => hw.block x (ublk_lt e.o3 x hx).2)) (oH.ones e.t3.2.2.2.2 e.h3) hz hm (by omega) (fun g hg => ?_) (fun c hc => ?_) hn
  · have h1 : g < H := ha g (by simp [hg])
    refine ⟨by omega, by omega, fun o hc => hc.2 ?_⟩
    rw [e.src]; simp [hg]
  · have : c.block < H := hc.1
    omega
/-- behind the copy of the keys: the world where the keys were stored -/
theorem CpI.mid (i : CpI (cpc H N) w wr d vw lv m h q L0 S0 Ss0 Lq Sq Ssq Sr zs gl capl) (hw : Below wr.heap.size wr wx) (R3 : CpyR wx w3 9 309 cpS1 1 n3 zs3 (H + 1) H (okS H ((Ss0 ++ Ssq) ++ Sr)) a3 kv fk) :
    OutS [H + 1, H] wr w3 ∧ w3.ownsRow H 90 5 h.v h.n zs ∧ OutS [H + 1, H, h.g] wr (w3.setCell ⟨h.g, q * 5 + 3, none⟩ kv) ∧ h.g < w3.heap.size := by
  have e1 : OutS [H + 1, H] wr w3 := (OutS.of_below hw).trans R3.out
  have hg := i.anew h.g (by simp)
  have hg2 : h.g ≠ H + 1 ∧ h.g ≠ H := by
    have := hg.2.2.1
    simp only [cpc, CpC.fix, List.mem_cons, List.not_mem_nil, or_false, not_or] at this
    exact ⟨this.1, this.2.1⟩
  refine ⟨e1, uowns_frame i.row (fun x hx => e1.block x (ublk_lt i.row x hx).2 ?_), (e1.mono (fun t ht => by simp at ht; simp; omega)).setCell (by simp) _, Nat.lt_of_lt_of_le hg.2.1 e1.size⟩
  have e : x = h.g := by simpa [HL.v, blkOf, Value.ownBlock] using hx
  subst e
  simp; omega
/-- the copy of the kids is asked -/
theorem CpI.dcall (i : CpI (cpc H N) w wr d vw lv m h q L0 S0 Ss0 Lq Sq Ssq Sr zs gl capl) (e : ElV wr h q Sr zs z0 z1 z2 n3 c3 n4 c4 a3 p3 a4 p4 e3 e4 ys zs3 zs4 S3i S4i Sb) (hw : Below wr.heap.size wr wx) (hn : n4 ≤ 100000000)
    (R3 : CpyR wx w3 9 309 cpS1 1 n3 zs3 (H + 1) H (okS H ((Ss0 ++ Ssq) ++ Sr)) a3 kv fk) :
    Calls Tryz.prog 241 #[.pointer (some ⟨N + 1, 0, none⟩), .slice a4 n4 p4] (w3.setCell ⟨h.g, q * 5 + 3, none⟩ kv) fun e w' => cpyAns (w3.setCell ⟨h.g, q * 5 + 3, none⟩ kv) w' 90 312 cpV1 5 n4 zs4 (N + 1) N (okS H ((Ss0 ++ Ssq) ++ Sr)) a4 e := by
  obtain ⟨e1, hrow, e2, hgl⟩ := i.mid (q := q) hw R3
  have hn2 := i.nsrc
  have ha : ∀ s ∈ (Ss0 ++ Ssq) ++ Sr, s < H := i.asrc
  have hfx := i.nfx
  have hg := i.anew h.g (by simp)
  simp only [cpc, CpC.fix, List.nodup_cons, List.mem_cons, List.not_mem_nil, or_false, not_or, List.nodup_nil, and_true, not_false_eq_true] at hfx hg
  have hNH : H ≤ N ∧ H ≤ N + 1 := ⟨(i.fx N (by simp [cpc, CpC.fix])).1, (i.fx (N + 1) (by simp [cpc, CpC.fix])).1⟩
  have hcd : Cop (w3.setCell ⟨h.g, q * 5 + 3, none⟩ kv) 312 cpV1 (N + 1) N (okS H ((Ss0 ++ Ssq) ++ Sr)) := i.cd.outS e2 (by show N + 1 ∉ _; simp; omega) (by show N ∉ _; simp; omega) (fun c hc => by have : c.block < H := hc.1; simp; omega)
  obtain ⟨⟨z, hz⟩, hm⟩ := hcd
  rw [e.src] at hn2
  have ha2 := ha
  rw [e.src] at ha2
  refine cpyV_any n4 zs4 a4 p4 z (N + 1) N _ e4 _ (uowns_frame e.o4 (fun x hx => e2.block x (ublk_lt e.o4 x hx).2 ?_)) (oH.ones e.t4.2.2.2.2 e.h4) hz hm (by omega) (fun g hg => ?_) (fun c hc => ?_) hn
  · have h1 : x < H := ha2 x (by simp only [List.mem_append]; grind)
    simp; omega
  · have h1 : g < H := ha2 g (by simp only [List.mem_append]; grind)
    refine ⟨by omega, by omega, fun o hc => hc.2 ?_⟩
    rw [e.src]
    simp only [List.mem_append]
    grind
  · have : c.block < H := hc.1
    omega
structure CpCore (H N : Nat) (w wr w7 : World) (h : HL) (q : Nat) (Ss0 Ssq : List Nat) (zs : List Value) (gl : Nat) (kv dv : Value) (n3 : Nat) (c3 : UD) (S4' Sb : List Nat) : Prop where
  out : OutS ((cpc H N).fix ++ [gl, h.g]) wr w7
  row : w7.ownsRow H 90 5 h.v h.n ((zs.set (q * 5 + 3) kv).set (q * 5 + 4) dv)
  keys : hH w7 (.l 1 n3 c3 .nil) [kv] (blkOf kv) []
  own : own2 (blkOf kv) wr.heap.size w7.heap.size
  ck : Cop w7 309 cpS1 (H + 1) H (okS H ((Ss0 ++ (Ssq ++ S4')) ++ Sb))
  cd : Cop w7 312 cpV1 (N + 1) N (okS H ((Ss0 ++ (Ssq ++ S4')) ++ Sb))
theorem CpI.core (i : CpI (cpc H N) w wr d vw lv m h q L0 S0 Ss0 Lq Sq Ssq Sr zs gl capl) (hq : q < h.n) (e : ElV wr h q Sr zs z0 z1 z2 n3 c3 n4 c4 a3 p3 a4 p4 e3 e4 ys zs3 zs4 S3i S4i Sb) (hw : Below wr.heap.size wr wx)
    (R3 : CpyR wx w3 9 309 cpS1 1 n3 zs3 (H + 1) H (okS H ((Ss0 ++ Ssq) ++ Sr)) a3 kv fk)
    (R4 : CpyR (w3.setCell ⟨h.g, q * 5 + 3, none⟩ kv) w5 90 312 cpV1 5 n4 zs4 (N + 1) N (okS H ((Ss0 ++ Ssq) ++ Sr)) a4 dv fd)
    (ho7 : OutS [gl] (w5.setCell ⟨h.g, q * 5 + 4, none⟩ dv) w7) {S4' : List Nat} (hS4 : ∀ s ∈ S4', s ∈ S4i) : CpCore H N w wr w7 h q Ss0 Ssq zs gl kv dv n3 c3 S4' Sb := by
  obtain ⟨e1, hrow, e2, hgl3⟩ := i.mid (q := q) hw R3
  have hn2 := i.nsrc
  have ha : ∀ s ∈ (Ss0 ++ Ssq) ++ Sr, s < H := i.asrc
  rw [e.src] at hn2 ha
  have hfx := i.nfx
  have hf2 := i.fx
  have hg := i.anew h.g (by simp)
  have hglx : H ≤ gl ∧ gl < wr.heap.size := ublk_lt i.left gl (by simp [blkOf, Value.ownBlock])
  have hx1 := hf2 (H + 1) (by simp [cpc, CpC.fix])
  have hx2 := hf2 H (by simp [cpc, CpC.fix])
  have hx3 := hf2 (N + 1) (by simp [cpc, CpC.fix])
  have hx4 := hf2 N (by simp [cpc, CpC.fix])
  simp only [cpc, CpC.fix, List.nodup_cons, List.mem_cons, List.not_mem_nil, or_false, not_or, List.nodup_nil, and_true, not_false_eq_true] at hfx hg
  change H ≤ _ ∧ _ at hx1 hx2 hx3 hx4 hg
  -- from the store of the keys to the end
  have o35 : OutS [N + 1, N, h.g] w3 (w5.setCell ⟨h.g, q * 5 + 4, none⟩ dv) := (((OutS.refl _ _).setCell (p := ⟨h.g, q * 5 + 3, none⟩) (by simp) kv).trans (R4.out.mono (fun t ht => by simp at ht; simp; omega))).setCell (by simp) _
  have o37 : OutS [N + 1, N, h.g, gl] w3 w7 := (o35.mono (fun t ht => by simp at ht; simp; omega)).trans (ho7.mono (fun t ht => by simp at ht; simp [ht]))
  have o57 : OutS [h.g, gl] w5 w7 := ((OutS.refl _ _).setCell (p := ⟨h.g, q * 5 + 4, none⟩) (by simp) dv).trans (ho7.mono (fun t ht => by simp at ht; simp [ht]))
  have hws := hw.size
  have hkv : ∀ g ∈ blkOf kv, wx.heap.size ≤ g ∧ g < w3.heap.size := by
    rcases R3.res with ⟨_, rfl, _⟩ | ⟨_, _, g', cap, rfl, h1, h2⟩
    · intro g hg; simp [blkOf, Value.ownBlock] at hg
    · exact fun g hg => ublk_lt h2 g hg
  obtain ⟨k1, k2⟩ := cpy_keys R3 e.t3 (Si := S3i) (e.h3.below hw) (w' := w7) (fun g hg => o37.block g (hkv g hg).2 (by have := (hkv g hg).1; simp; omega)) o37.size
  have hS4b : ∀ s ∈ S4', s ∈ blkOf (.slice a4 n4 p4) ++ S4i := fun s hs => List.mem_append_right _ (hS4 s hs)
  have hb3 : ∀ c, some c = a3 → c.block ∈ (blkOf (.slice a3 n3 p3) ++ S3i) ++ (blkOf (.slice a4 n4 p4) ++ S4i) ∧ c.block ∉ S4' := fun c hc => by
    have h1 := own_head e.o3 c hc
    refine ⟨by simp only [List.mem_append]; exact .inl (.inl h1), fun h2 => ?_⟩
    have h3 := hS4 _ h2
    simp only [List.nodup_append, List.mem_append] at hn2
    grind
  have hb4 : ∀ c, some c = a4 → c.block ∈ (blkOf (.slice a3 n3 p3) ++ S3i) ++ (blkOf (.slice a4 n4 p4) ++ S4i) ∧ c.block ∉ S4' := fun c hc => by
    have h1 := own_head e.o4 c hc
    refine ⟨by simp only [List.mem_append]; exact .inr (.inl h1), fun h2 => ?_⟩
    have h3 := hS4 _ h2
    simp only [List.nodup_append, List.mem_append] at hn2
    grind
  have hlt : ∀ c : Addr, c.block ∈ (blkOf (.slice a3 n3 p3) ++ S3i) ++ (blkOf (.slice a4 n4 p4) ++ S4i) → c.block < H := fun c hc => ha _ (by simp only [List.mem_append] at hc ⊢; grind)
  refine ⟨?_, ?_, k1, ⟨k2.1, fun s hs => ⟨Nat.le_trans hws (k2.2 s hs).1, (k2.2 s hs).2⟩⟩, ?_, ?_⟩
  · refine (e1.mono (fun t ht => ?_)).trans (o37.mono (fun t ht => ?_))
    · simp [cpc, CpC.fix] at ht ⊢; omega
    · simp [cpc, CpC.fix] at ht ⊢; omega
  · have r1 := (hrow.stored (q * 5 + 3) kv).1
    have r2 : w5.ownsRow H 90 5 h.v h.n (zs.set (q * 5 + 3) kv) := uowns_frame r1 (fun x hx => R4.out.block x (ublk_lt r1 x hx).2 (by
      have e : x = h.g := by simpa [HL.v, blkOf, Value.ownBlock] using hx
      subst e
      simp; omega))
    have r3 := (r2.stored (q * 5 + 4) dv).1
    exact uowns_frame r3 (fun x hx => ho7.block x (ublk_lt r3 x hx).2 (by
      have e : x = h.g := by simpa [HL.v, blkOf, Value.ownBlock] using hx
      subst e
      simp; omega))
  · rw [e.src] at R3
    refine (R3.cop.outS o37 (by simp; omega) (by simp; omega) (fun c hc => ?_)).mono (okn hn2 ha hS4b hb3)
    have : c.block < H := by
      rcases hc with hc | ⟨_, hc⟩
      · exact hc.1
      · exact hlt c (hb3 c hc).1
    simp; omega
  · rw [e.src] at R4
    refine (R4.cop.outS o57 (by simp; omega) (by simp; omega) (fun c hc => ?_)).mono (okn hn2 ha hS4b hb4)
    have : c.block < H := by
      rcases hc with hc | ⟨_, hc⟩
      · exact hc.1
      · exact hlt c (hb4 c hc).1
    simp; omega
/-- a step whose value has no kids -/
theorem CpI.after0 (i : CpI (cpc H N) w wr d vw (.slice (some ⟨gl, 0, none⟩) (L0 ++ Lq).length capl) m h q L0 S0 Ss0 Lq Sq Ssq Sr zs gl capl) (hq : q < h.n) (e : ElV wr h q Sr zs z0 z1 z2 n3 c3 n4 c4 a3 p3 a4 p4 e3 e4 ys zs3 zs4 S3i S4i Sb) (hw : Below wr.heap.size wr wx)
    (R3 : CpyR wx w3 9 309 cpS1 1 n3 zs3 (H + 1) H (okS H ((Ss0 ++ Ssq) ++ Sr)) a3 kv fk)
    (R4 : CpyR (w3.setCell ⟨h.g, q * 5 + 3, none⟩ kv) w5 90 312 cpV1 5 n4 zs4 (N + 1) N (okS H ((Ss0 ++ Ssq) ++ Sr)) a4 dv fd) (h0 : n4 = 0) :
    ∃ Sq' zs' Ssq', CpI (cpc H N) w (w5.setCell ⟨h.g, q * 5 + 4, none⟩ dv) d vw (.slice (some ⟨gl, 0, none⟩) (L0 ++ Lq).length capl) m h (q + 1) L0 S0 Ss0 Lq Sq' Ssq' Sb zs' gl capl := by
  have C := i.core hq e hw R3 R4 (OutS.refl _ _) (S4' := []) (fun s hs => by cases hs)
  subst h0
  obtain ⟨rfl, rfl, hd⟩ := cpy_kids0 (w' := w5.setCell ⟨h.g, q * 5 + 4, none⟩ dv) R4 e.t4
  have hgl : H ≤ gl ∧ gl < wr.heap.size := ublk_lt i.left gl (by simp [blkOf, Value.ownBlock])
  have hgg : gl ≠ h.g := fun e => (i.anew h.g (by simp)).2.2.2 e.symm
  have hfg : gl ∉ (cpc H N).fix := fun hh => (i.fx gl hh).2.2 rfl
  obtain ⟨e1, hrow, e2, hgl3⟩ := i.mid (q := q) hw R3
  have hl : (w5.setCell ⟨h.g, q * 5 + 4, none⟩ (.slice none 0 0)).ownsRow H 88 1 (.slice (some ⟨gl, 0, none⟩) (L0 ++ Lq).length capl) (L0 ++ Lq).length ((L0 ++ Lq).map HL.v) := uowns_frame i.left (fun x hx => by
    have e : x = gl := by simpa [blkOf, Value.ownBlock] using hx
    subst e
    simp only [cpc, CpC.fix, List.mem_cons, List.not_mem_nil, or_false, not_or] at hfg
    have o2 : OutS [N + 1, N, h.g] (w3.setCell ⟨h.g, q * 5 + 3, none⟩ kv) (w5.setCell ⟨h.g, q * 5 + 4, none⟩ (.slice none 0 0)) := (R4.out.mono (fun t ht => by simp at ht; simp; omega)).setCell (by simp) _
    exact (o2.block x (Nat.lt_of_lt_of_le hgl.2 e2.size) (by simp; omega)).trans (e2.block x hgl.2 (by simp; omega)))
  obtain ⟨Sq', zs', hI⟩ := i.step (M := []) (S4' := []) hq e.row e.cells e.src e.rest C.out C.row C.keys C.own hd rfl (by simp) (by simp) (by simp) (by simp) (gl' := gl) (capl' := capl) (by rw [List.append_nil]; exact hl) (.inl rfl) C.ck C.cd (by simp [hWt])
  simp only [List.append_nil] at hI
  exact ⟨Sq', zs', _, hI⟩
/-- a step whose value has kids: their copy is left to be filled -/
theorem CpI.after1 (i : CpI (cpc H N) w wr d vw (.slice (some ⟨gl, 0, none⟩) (L0 ++ Lq).length capl) m h q L0 S0 Ss0 Lq Sq Ssq Sr zs gl capl) (hq : q < h.n) (e : ElV wr h q Sr zs z0 z1 z2 n3 c3 n4 c4 a3 p3 a4 p4 e3 e4 ys zs3 zs4 S3i S4i Sb) (hw : Below wr.heap.size wr wx)
    (R3 : CpyR wx w3 9 309 cpS1 1 n3 zs3 (H + 1) H (okS H ((Ss0 ++ Ssq) ++ Sr)) a3 kv fk) {g4 cap4 : Nat}
    (R4 : CpyR (w3.setCell ⟨h.g, q * 5 + 3, none⟩ kv) w5 90 312 cpV1 5 n4 zs4 (N + 1) N (okS H ((Ss0 ++ Ssq) ++ Sr)) a4 (.slice (some ⟨g4, 0, none⟩) n4 cap4) fd) (h0 : 0 < n4)
    {gl' capl' : Nat} (ho7 : OutS [gl] (w5.setCell ⟨h.g, q * 5 + 4, none⟩ (.slice (some ⟨g4, 0, none⟩) n4 cap4)) w7) (hl7 : w7.ownsRow H 88 1 (.slice (some ⟨gl', 0, none⟩) ((L0 ++ Lq).length + 1) capl') ((L0 ++ Lq).length + 1) ((L0 ++ Lq).map HL.v ++ [.slice (some ⟨g4, 0, none⟩) n4 cap4]))
    (hat : gl' = gl ∨ w5.heap.size ≤ gl') :
    ∃ Lq' Sq' zs' Ssq', (L0 ++ Lq').length = (L0 ++ Lq).length + 1 ∧ CpI (cpc H N) w w7 d vw (.slice (some ⟨gl', 0, none⟩) (L0 ++ Lq').length capl') m h (q + 1) L0 S0 Ss0 Lq' Sq' Ssq' Sb zs' gl' capl' := by
  have hn2 := i.nsrc
  have ha : ∀ s ∈ (Ss0 ++ Ssq) ++ Sr, s < H := i.asrc
  rw [e.src] at hn2 ha
  have C := i.core hq e hw R3 R4 ho7 (S4' := S4i) (fun s hs => hs)
  obtain ⟨e1, hrow, e2, hgl3⟩ := i.mid (q := q) hw R3
  have hws := hw.size
  have hkv : ∀ g ∈ blkOf kv, wx.heap.size ≤ g ∧ g < w3.heap.size := by
    rcases R3.res with ⟨_, rfl, _⟩ | ⟨_, _, g', cap, rfl, h1, h2⟩
    · intro g hg; simp [blkOf, Value.ownBlock] at hg
    · exact fun g hg => ublk_lt h2 g hg
  obtain ⟨h4, ho4⟩ : w3.heap.size ≤ g4 ∧ w5.ownsRow w3.heap.size 90 5 (.slice (some ⟨g4, 0, none⟩) n4 cap4) n4 zs4 := by
    rcases R4.res with ⟨h1, _⟩ | ⟨_, _, g', cap, h2, h3, h5⟩
    · omega
    · cases h2
      have e : (w3.setCell ⟨h.g, q * 5 + 3, none⟩ kv).heap.size = w3.heap.size := by simp
      rw [e] at h3 h5
      exact ⟨h3, h5⟩
  have hg4 : g4 < w5.heap.size := (ublk_lt ho4 g4 (by simp [blkOf, Value.ownBlock])).2
  have hg := i.anew h.g (by simp)
  have hgl : H ≤ gl ∧ gl < wr.heap.size := ublk_lt i.left gl (by simp [blkOf, Value.ownBlock])
  have h3s := e1.size
  have o57 : OutS [h.g, gl] w5 w7 := ((OutS.refl _ _).setCell (p := ⟨h.g, q * 5 + 4, none⟩) (by simp) _).trans (ho7.mono (fun t ht => by simp at ht; simp [ht]))
  have o4 : w7.ownsRow H 90 5 (.slice (some ⟨g4, 0, none⟩) n4 cap4) n4 zs4 := by
    have h1 := uowns_frame ho4 (w' := w7) (fun x hx => o57.block x (ublk_lt ho4 x hx).2 (by
      have e : x = g4 := by simpa [blkOf, Value.ownBlock] using hx
      subst e
      simp; omega))
    refine ⟨h1.1, ?_⟩
    rcases h1.2 with hh | ⟨g, cap, cur, a1, a2, a3⟩
    · exact .inl hh
    · refine .inr ⟨g, cap, cur, a1, ?_, a3⟩
      have := hgl; omega
  have hlt : ∀ g ∈ S4i, g < H := fun g hg => ha g (by simp only [List.mem_append]; grind)
  have hsrc : Srcs w7 90 H [⟨g4, n4, c4, cap4⟩] S4i := by
    refine ⟨zs4, S4i, [], by simp, h0, e.t4, o4, e.h4.frame _ _ _ (fun g hg => C.out.block g (e.h4.lt _ _ _ g hg) (fun hx => ?_)), rfl⟩
    have h1 := hlt g hg
    simp only [List.mem_append, List.mem_cons, List.not_mem_nil, or_false] at hx
    rcases hx with hx | rfl | rfl
    · have := (i.fx g hx).1
      change H ≤ g at this
      omega
    · omega
    · have := (i.anew h.g (by simp)).1
      change H ≤ _ at this
      omega
  have hlen : (L0 ++ (Lq ++ [(⟨g4, n4, c4, cap4⟩ : HL)])).length = (L0 ++ Lq).length + 1 := by simp; omega
  obtain ⟨Sq', zs', hI⟩ := i.step (M := [⟨g4, n4, c4, cap4⟩]) (S4' := S4i) (S4 := blkOf (.slice a4 n4 p4) ++ S4i) hq e.row e.cells e.src e.rest C.out C.row C.keys C.own (hH.open g4 n4 cap4 c4) hsrc (by simp) (fun s hs => by
      simp only [List.map_cons, List.map_nil, List.mem_cons, List.not_mem_nil, or_false] at hs
      rw [hs]
      refine ⟨by omega, Nat.lt_of_lt_of_le hg4 o57.size, fun hk => ?_⟩
      have := (hkv _ hk).2
      omega) (by
      simp only [List.nodup_append] at hn2
      grind) (fun s hs => List.mem_append_right _ hs) (gl' := gl') (capl' := capl') (by
      rw [hlen]
      have e : (L0 ++ (Lq ++ [(⟨g4, n4, c4, cap4⟩ : HL)])).map HL.v = (L0 ++ Lq).map HL.v ++ [.slice (some ⟨g4, 0, none⟩) n4 cap4] := by simp [HL.v]
      rw [e]; exact hl7) (by
      rcases hat with h | h
      · exact .inl h
      · refine .inr ⟨?_, fun hk => ?_, fun hk => ?_⟩
        · have := R4.out.size; simp at this; omega
        · have := (hkv _ hk).2; have := R4.out.size; simp at this; omega
        · simp at hk; omega) C.ck C.cd (by rw [hWt_one]; exact Nat.le_refl _)
  exact ⟨_, Sq', zs', _, hlen, hI⟩
end
end Go.Proofs.YtdnodaoeflbfkaaGreat
/- Copying any value: impl.copyOfAny, row by row. -/
namespace Go.Proofs.YtdnodaoeflbfkaaGreat
open Go.RowKit Go.BigFrame Go.Maps
set_option linter.unusedVariables false

theorem uszD_wtC : ∀ (d : UD) (fs : List UF) (i : Nat), tyU d fs i → uszD d ≤ d.len + 40 * wt d
  | .nil, _, _, _ => Nat.zero_le _
  | .p v r, fs, i, h => by have := uszD_wtC r fs (i + 1) h.2; rw [uszD, UD.len_p, wt]; omega
  | .l k n cs r, fs, i, ⟨⟨t, h1, h2, h3, h4, h5, h6⟩, h7⟩ => by
    have e1 := uszD_wtC r fs (i + 1) h7
    have e2 := uszD_wtC cs (uE t) 0 h6
    have e3 : n * k ≤ n * 40 := Nat.mul_le_mul_left n (by rw [h3]; exact uE_len t)
    rw [uszD, UD.len_l, wt]; omega
structure NewC (w w' : World) (t : TypeId) (f1 : Field) : Prop where
  cop : Cop w' t f1 (w.heap.size + 1) w.heap.size (fun _ => False)
  size : w'.heap.size = w.heap.size + 2
  bel : Below w.heap.size w w'
theorem NewC.mk2 (w : World) (t : TypeId) (f1 : Field) : NewC w ((w.alloc (.map #[] 0)).alloc (.cells #[.int .i64 10000, .map (some w.heap.size)] t)) t f1 :=
  ⟨⟨⟨10000, objU.new2 _ _ (by simp)⟩, (PMap.made w [f1] _).below ((Below.refl _ _).alloc (Nat.le_refl _) _)⟩, by simp, ((Below.refl _ _).alloc (Nat.le_refl _) _).alloc (by simp) _⟩
set_option maxHeartbeats 1600000 in
theorem newS_any (w : World) : Calls Tryz.prog 238 #[] w fun e w' => e = .returned (.pointer (some ⟨w.heap.size + 1, 0, none⟩)) ∧ Hid (NewC w w' 309 cpS1) := by
  have hmm := @run_makeMap Tryz.prog
  have HN : Hid _ := NewC.mk2 w 309 cpS1
  go_enter Tryz.func238, Tryz.ntmps238
  go_wp2
  go_ret
  exact ⟨rfl, HN⟩
set_option maxHeartbeats 1600000 in
theorem newV_any (w : World) : Calls Tryz.prog 239 #[] w fun e w' => e = .returned (.pointer (some ⟨w.heap.size + 1, 0, none⟩)) ∧ Hid (NewC w w' 312 cpV1) := by
  have hmm := @run_makeMap Tryz.prog
  have HN : Hid _ := NewC.mk2 w 312 cpV1
  go_enter Tryz.func239, Tryz.ntmps239
  go_wp2
  go_ret
  exact ⟨rfl, HN⟩
/-- what a copy is -/
def copied (w w' : World) (d : UD) (e : Ending) : Prop := ∃ ys S, e = .returned (.agg ys.toArray) ∧ oH w' d ys S ∧ own2 S w.heap.size w'.heap.size ∧ Below w.heap.size w w'
theorem copied.mk' {w w' : World} {d : UD} {ys : List Value} {S : List Nat} (h : oH w' d ys S) (hS : own2 S w.heap.size w'.heap.size) (hb : Below w.heap.size w w') : copied w w' d (.returned (.agg ys.toArray)) := ⟨ys, S, rfl, h, hS, hb⟩
theorem OutS.grownC {w w' : World} {g : Nat} (h : w.grownBy w' (some g)) : OutS [g] w w' := ⟨h.os, h.tape, h.output, h.size, fun k hk hr => h.block k hk (fun e => hr (by simpa using e))⟩
theorem infoCpL : ∃ i, Tryz.prog.info? 88 = some i ∧ i.zero = some (.slice none 0 0) ∧ i.size = 1 ∧ i.bytes = 24 := by
  have h : (Tryz.prog.info? 88).map (fun i => (i.zero, i.size, i.bytes)) = some (some (.slice none 0 0), 1, 24) := by kernel_rfl
  cases e : Tryz.prog.info? 88 with
  | none => rw [e] at h; cases h
  | some i => rw [e] at h; simp at h; exact ⟨i, rfl, h.1, h.2.1, h.2.2⟩
set_option maxRecDepth 20000 in
set_option maxHeartbeats 3200000 in
theorem copyOfAny_N (d : UD) (xs : List Value) (S : List Nat) (w : World) (ht : tyL d (uE 6)) (hwt : wt d ≤ 1048576) (hx : oH w d xs S) (hS : S.Nodup) :
    Calls Tryz.prog 217 #[.agg xs.toArray] w fun e w' => copied w w' d e := by
  have ht0 := ht
  obtain ⟨z0, z1, z2, n3, c3, n4, c4, rfl, g0, g1, g2, g3, g4⟩ := partsValue ht
  have hx0 := hx
  obtain ⟨a3, p3, a4, p4, S3, S4, rfl, rfl, o3, o4⟩ := oH.value hx
  have Ht := uhide ht0
  have Hx := uhide hx0
  have HS := uhide hS
  have HM : Hid (uszD (.p (.int .i64 z0) (.p (.string z1) (.p (.int .i64 z2) (.l 1 n3 c3 (.l 5 n4 c4 .nil))))) ≤ 100000000) := by
    have e1 := uszD_wtC _ _ _ (tyS.one6 ht0).2.2.2.2
    have e2 := ht0.len
    have e3 : (uE 6).length = 5 := rfl
    show _ ≤ _
    omega
  clear ht ht0 hx hx0 hS o3 o4 g0 g1 g2 g3 g4 hwt
  go_enter Tryz.func217, Tryz.ntmps217
  go_wp2_with fail
  have B0 : Hid (Below w.heap.size w ((w.alloc (.cells #[.int .i64 z0, .string z1, .int .i64 z2, .slice a3 n3 p3, .slice a4 n4 p4] 90)).alloc (.cells #[.int .i64 0, .string ⟨#[]⟩, .int .i64 0, .slice none 0 0, .slice none 0 0] 90))) := ((Below.refl _ _).alloc (Nat.le_refl _) _).alloc (by simp) _
  have OB : Hid (objU ((w.alloc (.cells #[.int .i64 z0, .string z1, .int .i64 z2, .slice a3 n3 p3, .slice a4 n4 p4] 90)).alloc (.cells #[.int .i64 0, .string ⟨#[]⟩, .int .i64 0, .slice none 0 0, .slice none 0 0] 90)) w.heap.size 90 [.int .i64 z0, .string z1, .int .i64 z2, .slice a3 n3 p3, .slice a4 n4 p4]) := (objU.new _ _ _).old _
  have OZ : Hid (objU ((w.alloc (.cells #[.int .i64 z0, .string z1, .int .i64 z2, .slice a3 n3 p3, .slice a4 n4 p4] 90)).alloc (.cells #[.int .i64 0, .string ⟨#[]⟩, .int .i64 0, .slice none 0 0, .slice none 0 0] 90)) (w.heap.size + 1) 90 [.int .i64 0, .string ⟨#[]⟩, .int .i64 0, .slice none 0 0, .slice none 0 0]) := objU.new2 _ _ (by simp)
  have HZ : Hid (((w.alloc (.cells #[.int .i64 z0, .string z1, .int .i64 z2, .slice a3 n3 p3, .slice a4 n4 p4] 90)).alloc (.cells #[.int .i64 0, .string ⟨#[]⟩, .int .i64 0, .slice none 0 0, .slice none 0 0] 90)).heap.size = w.heap.size + 2) := by show _ = _; simp
  generalize (w.alloc (.cells #[.int .i64 z0, .string z1, .int .i64 z2, .slice a3 n3 p3, .slice a4 n4 p4] 90)).alloc (.cells #[.int .i64 0, .string ⟨#[]⟩, .int .i64 0, .slice none 0 0, .slice none 0 0] 90) = w0 at *
  have Hx0 := uhide (Hx.out.below B0.out)
  clear Hx
  refine (newS_any w0).mono ?_
  rintro e w1 ⟨rfl, N1⟩
  go_wp2_with fail
  refine (newV_any w1).mono ?_
  rintro e w2 ⟨rfl, N2⟩
  have B2 : Hid (Below w0.heap.size w0 w2) := N1.out.bel.trans (N2.out.bel.mono N1.out.bel.size)
  have K2 : Hid (Cop w2 309 cpS1 (w0.heap.size + 1) w0.heap.size (fun _ => False)) := N1.out.cop.below N2.out.bel
  have D2 : Hid (Cop w2 312 cpV1 (w1.heap.size + 1) w1.heap.size (fun _ => False)) := N2.out.cop
  have Z1 : Hid (w1.heap.size = w0.heap.size + 2) := N1.out.size
  have Z2 : Hid (w2.heap.size = w1.heap.size + 2) := N2.out.size
  have OB2 := uhide (OB.out.below B2.out)
  have HST := uhide (CpO.start Ht.out Hx0.out HS.out rfl Z1.out Z2.out B2.out K2.out D2.out)
  have x0 := OB2.out.cell 0 _ rfl
  have x1 := OB2.out.cell 1 _ rfl
  have x2 := OB2.out.cell 2 _ rfl
  have x3 := OB2.out.cell 3 _ rfl
  have x4 := OB2.out.cell 4 _ rfl
  clear N1 N2 K2 D2 OB OB2 Hx0 HS
  generalize w1.heap.size = N at *
  generalize hD : (UD.p (.int .i64 z0) (.p (.string z1) (.p (.int .i64 z2) (.l 1 n3 c3 (.l 5 n4 c4 .nil))))) = D at *
  have HD := uhide hD
  clear hD
  generalize hM : uszD D = M at *
  clear hM
  obtain ⟨μ, hμ⟩ := least_of (fun (x : Value × World) (m : Nat) => m ≤ M ∧ ∃ L S Ss gl capl, CpO (cpc w0.heap.size N) w0 x.2 D (.slice (some ⟨w2.heap.size, 0, none⟩) 1 1) x.1 m L S Ss gl capl)
  have Hμ := uhide hμ
  clear hμ
  go_wp2_with fail
  go_loopw [6] (fun v wr => Hid (∃ m, m ≤ M ∧ ∃ L S Ss gl capl, CpO (cpc w0.heap.size N) w0 wr D (.slice (some ⟨w2.heap.size, 0, none⟩) 1 1) v m L S Ss gl capl)) (fun v wr => μ (v, wr))
  case atStart => exact ⟨M, Nat.le_refl _, _, _, _, _, _, HST.out⟩
  case round =>
    clear HST x0 x1 x2 x3 x4
    obtain ⟨m0, hm0⟩ := hrel
    obtain ⟨⟨hle, hO⟩, -⟩ := Hμ.out (_, wr) _ hm0
    generalize hmu : μ (_, wr) = m at *
    obtain ⟨L, S, Ss, gl, capl, hO⟩ := hO
    have helv := hO.elv
    subst helv
    rcases List.eq_nil_or_concat L with rfl | ⟨L', h, rfl⟩
    · have hT := hO.tree.done _ _ _ _ rfl
      obtain ⟨c, ys, S1, S2, e1, e2, hk, ⟨t, zs, hown, hoh⟩, ⟨e3, e4⟩⟩ := hT
      cases e1
      subst e4
      subst e2
      rw [← HD.out] at hoh
      have hoh0 := hoh
      obtain ⟨b3, q3, b4, q4, R3, R4, rfl, rfl, o3, o4⟩ := oH.value hoh
      have y0 : wr.cell? ⟨w2.heap.size, 0, none⟩ = some (.int .i64 z0) := by rw [hown.cellAt 0 (by decide)]; rfl
      have y1 : wr.cell? ⟨w2.heap.size, 1, none⟩ = some (.string z1) := by rw [hown.cellAt 1 (by decide)]; rfl
      have y2 : wr.cell? ⟨w2.heap.size, 2, none⟩ = some (.int .i64 z2) := by rw [hown.cellAt 2 (by decide)]; rfl
      have y3 : wr.cell? ⟨w2.heap.size, 3, none⟩ = some (.slice b3 n3 q3) := by rw [hown.cellAt 3 (by decide)]; rfl
      have y4 : wr.cell? ⟨w2.heap.size, 4, none⟩ = some (.slice b4 n4 q4) := by rw [hown.cellAt 4 (by decide)]; rfl
      have hbel := hO.bel
      have OZr : Hid (objU wr (w.heap.size + 1) 90 [.int .i64 0, .string ⟨#[]⟩, .int .i64 0, .slice none 0 0, .slice none 0 0]) := (hbel.block _ OZ.out.lt).trans OZ.out
      have hSn : own2 (R3 ++ R4) (w.heap.size + 2) wr.heap.size := by
        have h1 := hO.nnew
        have h2 := hO.anew
        have h3 := HZ.out
        refine ⟨?_, fun s hs => ?_⟩
        · simp only [List.map_nil, List.append_nil] at h1
          exact (List.nodup_append.1 h1).2.1
        · obtain ⟨q1, q2, _⟩ := h2 s (by simp only [List.mem_append] at hs ⊢; grind)
          have q1' : w0.heap.size ≤ s := q1
          have q2' : s < wr.heap.size := q2
          exact ⟨by omega, q2'⟩
      have Hoh := uhide hoh0
      have HSn := uhide hSn
      have HBw : Hid (Below w.heap.size w wr) := B0.out.trans (hbel.mono B0.out.size)
      have t0 := OZr.out.cell 0 _ rfl
      have t1 := OZr.out.cell 1 _ rfl
      have t2 := OZr.out.cell 2 _ rfl
      have t3 := OZr.out.cell 3 _ rfl
      have t4 := OZr.out.cell 4 _ rfl
      have u0 := OZr.out.fz 0
      have u1 := OZr.out.fz 1
      have u2 := OZr.out.fz 2
      have u3 := OZr.out.fz 3
      have u4 := OZr.out.fz 4
      simp only [List.length_nil]
      clear hO hown hoh hoh0 o3 o4 hm0 hle hmu Hμ hbel hSn
      go_wp2
      have HO : Hid (OutS [w.heap.size + 1] wr (((((wr.setCell ⟨w.heap.size + 1, 0, none⟩ (.int .i64 z0)).setCell ⟨w.heap.size + 1, 1, none⟩ (.string z1)).setCell ⟨w.heap.size + 1, 2, none⟩ (.int .i64 z2)).setCell ⟨w.heap.size + 1, 3, none⟩ (.slice b3 n3 q3)).setCell ⟨w.heap.size + 1, 4, none⟩ (.slice b4 n4 q4))) := by
        show OutS _ _ _
        repeat (first | with_reducible exact OutS.refl _ _ | with_reducible refine OutS.setCell ?_ (show _ ∈ [w.heap.size + 1] by simp) _)
      refine bodyPost_ret (v := .agg #[.int .i64 z0, .string z1, .int .i64 z2, .slice b3 n3 q3, .slice b4 n4 q4]) ?_ rfl (copied.mk' (S := R3 ++ R4) (ys := [.int .i64 z0, .string z1, .int .i64 z2, .slice b3 n3 q3, .slice b4 n4 q4]) ?_ ?_ ?_)
      · simp [results, Tryz.results217, go_sem, t0, t1, t2, t3, t4]
      · exact Hoh.out.outS HO.out (fun x hx => by have := HSn.out.2 x hx; simp; omega)
      · exact ⟨HSn.out.1, fun s hs => by have := HSn.out.2 s hs; have := HO.out.size; omega⟩
      · exact HBw.out.trans (HO.out.below (fun t ht => by simp at ht; omega) HBw.out.size)
    · rw [List.concat_eq_append] at hO hmu hm0 ⊢
      obtain ⟨Ss0, Sr, zs, hI, hn⟩ := CpI.start hO
      obtain ⟨g, n, cs, cap⟩ := h
      change 0 < n at hn
      have hlen : (L' ++ [(⟨g, n, cs, cap⟩ : HL)]).length = L'.length + 1 := by simp
      rw [hlen] at hmu hm0 ⊢
      have hM := HM.out
      have hwt : hWt L' + uszD cs ≤ m := by have := hO.mea; rw [hWt_app, hWt_one] at this; exact this
      have hcnt := hO.src.count
      have hmea := hO.mea
      have hn5 : n * 5 ≤ uszD cs := by have := uszD_len cs; rw [hI.ty.2.2.2.1] at this; exact this
      have hn8 : n ≤ 100000000 := by omega
      have hk8 : L'.length ≤ 100000000 := by rw [hlen] at hcnt; omega
      have hl := hO.left
      rw [hlen] at hl
      have c0 : wr.cell? ⟨gl, L'.length, none⟩ = some (.slice (some ⟨g, 0, none⟩) n cap) := by
        rw [hl.cellAt _ (by omega), List.map_append, List.getElem?_append_right (by simp)]
        simp [HL.v]
      have hcap : L'.length + 1 ≤ capl := by
        rcases hl.2 with ⟨h, _⟩ | ⟨g', cap', cur, h, _, _, h2, _⟩
        · cases h
        · cases h; exact h2
      have hgw : gl < wr.heap.size := (ublk_lt hl gl (by simp [blkOf, Value.ownBlock])).2
      have HI := uhide hI
      have Hmu := uhide hmu
      have Hle := uhide hle
      clear hO hI hmu hm0 hle hwt hcnt hmea hn5 hl hlen hM
      generalize hk : L'.length = k at *
      have Hk := uhide hk
      clear hk
      go_wp2
      go_loopw [6, 34] (fun v i wr => ∃ q : Nat, q ≤ n ∧ i = .int .i64 q ∧ Hid (∃ L0 S0 Ss0 Lq Sq Ssq Sr zs gl capl, CpI (cpc w0.heap.size N) w0 wr D (.slice (some ⟨w2.heap.size, 0, none⟩) 1 1) v m ⟨g, n, cs, cap⟩ q L0 S0 Ss0 Lq Sq Ssq Sr zs gl capl)) (fun _ i _ => n - (intOf i).toNat)
      case atStart => exact ⟨0, Nat.zero_le _, rfl, ⟨_, _, _, _, _, _, _, _, _, _, HI.out⟩⟩
      case round =>
        clear HI c0 hcap hk8 hgw
        obtain ⟨q, hq, rfl, HS⟩ := hrel
        obtain ⟨L0, S0, Ss0, Lq, Sq, Ssq, Sr, zs, gl, capl, hI⟩ := HS.out
        have helv := hI.elv
        subst helv
        by_cases hlt : q < n
        · obtain ⟨y0, y1, y2, m3, f3, m4, f4, b3, r3, b4, r4, t3, t4, ys, zs3, zs4, S3i, S4i, Sb, hE⟩ := hI.elem hlt
          have hc : ∀ j v, [Value.int .i64 y0, .string y1, .int .i64 y2, .slice b3 m3 r3, .slice b4 m4 r4][j]? = some v → wr.cell? ⟨g, q * 5 + j, none⟩ = some v := fun j v hj => by
            have hj5 : j < 5 := (List.getElem?_eq_some_iff.1 hj).1
            have h1 := hI.row
            rw [show (HL.v ⟨g, n, cs, cap⟩) = .slice (some ⟨g, 0, none⟩) n cap from rfl] at h1
            have h9 : q * 5 + j < n * 5 := by omega
            rw [h1.cellAt (q * 5 + j) h9, ← List.getElem?_drop, hE.cells]
            rw [← hj]
            match j, hj5 with
            | 0, _ => rfl
            | 1, _ => rfl
            | 2, _ => rfl
            | 3, _ => rfl
            | 4, _ => rfl
          have x0 : wr.cell? ⟨g, q * 5, none⟩ = some (.int .i64 y0) := hc 0 _ rfl
          have x1 : wr.cell? ⟨g, q * 5 + 1, none⟩ = some (.string y1) := hc 1 _ rfl
          have x2 : wr.cell? ⟨g, q * 5 + 2, none⟩ = some (.int .i64 y2) := hc 2 _ rfl
          have x3 : wr.cell? ⟨g, q * 5 + 3, none⟩ = some (.slice b3 m3 r3) := hc 3 _ rfl
          have x4 : wr.cell? ⟨g, q * 5 + 4, none⟩ = some (.slice b4 m4 r4) := hc 4 _ rfl
          have hgl : g < wr.heap.size := (ublk_lt hI.row g (by simp [HL.v, blkOf, Value.ownBlock])).2
          have hM := HM.out
          have hle := Hle.out
          obtain ⟨hn3, hn4, hL8⟩ := hI.lens hE
          have hn3 : m3 ≤ 100000000 := by omega
          have hn4 : m4 ≤ 100000000 := by omega
          have hL8 : (L0 ++ Lq).length ≤ 100000000 := by omega
          clear hM hle
          have HK : Hid (∀ wx, Below wr.heap.size wr wx → Calls Tryz.prog 240 #[.pointer (some ⟨w0.heap.size + 1, 0, none⟩), .slice b3 m3 r3] wx fun e w' => cpyAns wx w' 9 309 cpS1 1 m3 zs3 (w0.heap.size + 1) w0.heap.size (okS w0.heap.size ((Ss0 ++ Ssq) ++ Sr)) b3 e) := fun wx hb => hI.kcall hE hb hn3
          have HI := uhide hI
          have HE := uhide hE
          clear hc hI hE HS
          obtain ⟨kl, hkl⟩ : ∃ k, k = (L0 ++ Lq).length := ⟨_, rfl⟩
          rw [← hkl] at hL8 ⊢
          have Hkl := uhide hkl
          clear hkl
          go_wp2_with fail
          refine (HK.out _ (by repeat (first | with_reducible exact Below.refl _ _ | with_reducible refine Below.drew ?_ | with_reducible refine below_drewN ?_ _ | with_reducible refine Below.alloc ?_ (by (try simp) <;> omega) _))).mono ?_
          rintro e w3 ⟨kv, fk, rfl, hR3⟩
          obtain ⟨ka, kc, rfl⟩ := hR3.slice
          have BX : Hid (Below wr.heap.size wr (wr.alloc (.cells #[.int .i64 y0, .string y1, .int .i64 y2, .slice b3 m3 r3, .slice b4 m4 r4] 90))) := (Below.refl _ _).alloc (Nat.le_refl _) _
          have OX : Hid (objU (wr.alloc (.cells #[.int .i64 y0, .string y1, .int .i64 y2, .slice b3 m3 r3, .slice b4 m4 r4] 90)) wr.heap.size 90 [.int .i64 y0, .string y1, .int .i64 y2, .slice b3 m3 r3, .slice b4 m4 r4]) := objU.new _ _ _
          generalize wr.alloc (.cells #[.int .i64 y0, .string y1, .int .i64 y2, .slice b3 m3 r3, .slice b4 m4 r4] 90) = wx at *
          have HR3 := uhide hR3
          have hfx := HI.out.fx
          have q1 : w0.heap.size + 1 < wr.heap.size := (hfx (w0.heap.size + 1) (by simp [cpc, CpC.fix])).2.1
          have q2 : N + 1 < wr.heap.size := (hfx (N + 1) (by simp [cpc, CpC.fix])).2.1
          have OX3 : Hid (objU w3 wr.heap.size 90 [.int .i64 y0, .string y1, .int .i64 y2, .slice b3 m3 r3, .slice b4 m4 r4]) := OX.out.outS hR3.out (by simp; omega)
          obtain ⟨e1, hrow, e2, hg3⟩ := HI.out.mid (q := q) BX.out hR3
          change w3.ownsRow _ _ 5 (.slice (some ⟨g, 0, none⟩) n cap) n zs at hrow
          have f3 : w3.frozen? ⟨g, q * 5 + 3, none⟩ = false := hrow.frozenAt _
          obtain ⟨zz3, g3⟩ : ∃ v, w3.cell? ⟨g, q * 5 + 3, none⟩ = some v := by
            rw [hrow.cellAt _ (by omega)]
            exact ⟨_, List.getElem?_eq_getElem (by rw [hrow.1]; omega)⟩
          have y4c := (OX3.out.other ⟨g, q * 5 + 3, none⟩ (by show wr.heap.size ≠ g; omega) (.slice ka m3 kc)).cell 4 _ rfl
          have HD4 : Hid (Calls Tryz.prog 241 #[.pointer (some ⟨N + 1, 0, none⟩), .slice b4 m4 r4] (w3.setCell ⟨g, q * 5 + 3, none⟩ (.slice ka m3 kc)) fun e w' => cpyAns (w3.setCell ⟨g, q * 5 + 3, none⟩ (.slice ka m3 kc)) w' 90 312 cpV1 5 m4 zs4 (N + 1) N (okS w0.heap.size ((Ss0 ++ Ssq) ++ Sr)) b4 e) := HI.out.dcall HE.out BX.out hn4 hR3
          clear HK hR3 hfx OX e1 e2 hrow x0 x1 x2 x3 x4
          go_wp2_with fail
          refine HD4.out.mono ?_
          rintro e w5 ⟨dv, fd, rfl, hR4⟩
          have HR4 := uhide hR4
          have hgN : g ≠ N + 1 ∧ g ≠ N := by
            have := (HI.out.anew g (by simp)).2.2.1
            simp only [cpc, CpC.fix, List.mem_cons, List.not_mem_nil, or_false, not_or] at this
            exact ⟨this.2.2.1, this.2.2.2⟩
          obtain ⟨e1, hrow, e2, hg3'⟩ := HI.out.mid (q := q) BX.out HR3.out
          change w3.ownsRow _ _ 5 (.slice (some ⟨g, 0, none⟩) n cap) n zs at hrow
          have hrow4 := (hrow.stored (q * 5 + 3) (.slice ka m3 kc)).1
          have hrow5 := uowns_frame hrow4 (w' := w5) (fun x hx => hR4.out.block x (ublk_lt hrow4 x hx).2 (by
            have e : x = g := by simpa [blkOf, Value.ownBlock] using hx
            subst e
            simp; omega))
          have f4' : w5.frozen? ⟨g, q * 5 + 4, none⟩ = false := hrow5.frozenAt _
          obtain ⟨zz4, g4'⟩ : ∃ v, w5.cell? ⟨g, q * 5 + 4, none⟩ = some v := by
            rw [hrow5.cellAt _ (by omega)]
            exact ⟨_, List.getElem?_eq_getElem (by rw [hrow5.1]; omega)⟩
          have hcw5 : g < w5.heap.size := World.block_lt_of_cell? _ _ g4'
          clear hrow hrow4 hrow5 e1 e2 f3 g3 y4c HD4 hg3 hg3'
          by_cases h4 : m4 = 0
          · have HF : Hid (∃ L0 S0 Ss0 Lq Sq Ssq Sr zs gl' capl', CpI (cpc w0.heap.size N) w0 (w5.setCell ⟨g, q * 5 + 4, none⟩ dv) D (.slice (some ⟨w2.heap.size, 0, none⟩) 1 1) (.slice (some ⟨gl, 0, none⟩) kl capl) m ⟨g, n, cs, cap⟩ (q + 1) L0 S0 Ss0 Lq Sq Ssq Sr zs gl' capl') := by
              obtain ⟨Sq', zs', Ssq', hN⟩ := HI.out.after0 hlt HE.out BX.out HR3.out HR4.out h4
              rw [← Hkl.out] at hN
              exact ⟨_, _, _, _, _, _, _, _, _, _, hN⟩
            subst h4
            obtain ⟨rfl, rfl, _⟩ := cpy_kids0 (w' := w5) hR4 HE.out.t4
            clear hR4 HR4 HR3 HE HI OX3 BX Hkl
            go_wp2
            go_roundw
            case rel => exact ⟨q + 1, by omega, by go_num, HF⟩
            case measure => simp [intOf]; omega
          · obtain ⟨g4, cap4, rfl, rfl⟩ : ∃ g' cap, dv = .slice (some ⟨g', 0, none⟩) m4 cap ∧ fd = true := by
              rcases hR4.res with ⟨h, _⟩ | ⟨_, h1, g', cap, h2, _⟩
              · exact (h4 h).elim
              · exact ⟨g', cap, h2, h1⟩
            have HG : Hid (∀ (w7 : World) (gl' capl' : Nat), OutS [gl] (w5.setCell ⟨g, q * 5 + 4, none⟩ (.slice (some ⟨g4, 0, none⟩) m4 cap4)) w7 → w7.ownsRow w0.heap.size 88 1 (.slice (some ⟨gl', 0, none⟩) (kl + 1) capl') (kl + 1) ((L0 ++ Lq).map HL.v ++ [(.slice (some ⟨g4, 0, none⟩) m4 cap4)]) → (gl' = gl ∨ w5.heap.size ≤ gl') →
                ∃ L0 S0 Ss0 Lq Sq Ssq Sr zs gl2 capl2, CpI (cpc w0.heap.size N) w0 w7 D (.slice (some ⟨w2.heap.size, 0, none⟩) 1 1) (.slice (some ⟨gl', 0, none⟩) (kl + 1) capl') m ⟨g, n, cs, cap⟩ (q + 1) L0 S0 Ss0 Lq Sq Ssq Sr zs gl2 capl2) := fun w7 gl' capl' a1 a2 a3 => by
              rw [Hkl.out] at a2 ⊢
              obtain ⟨Lq', Sq', zs', Ssq', hlen, hN⟩ := HI.out.after1 hlt HE.out BX.out HR3.out HR4.out (by omega) a1 a2 a3
              rw [hlen] at hN
              exact ⟨_, _, _, _, _, _, _, _, gl', capl', hN⟩
            have hll := HI.out.left
            have hglx := ublk_lt hll gl (by simp [blkOf, Value.ownBlock])
            have hgg : gl ≠ g := fun e => (HI.out.anew g (by simp)).2.2.2 e.symm
            have hfg : gl ∉ (cpc w0.heap.size N).fix := fun hh => (HI.out.fx gl hh).2.2 rfl
            simp only [cpc, CpC.fix, List.mem_cons, List.not_mem_nil, or_false, not_or] at hfg
            obtain ⟨_, _, e2, _⟩ := HI.out.mid (q := q) BX.out HR3.out
            change OutS [w0.heap.size + 1, w0.heap.size, g] _ _ at e2
            have o5 : OutS [w0.heap.size + 1, w0.heap.size, g, N + 1, N] wr (w5.setCell ⟨g, q * 5 + 4, none⟩ (.slice (some ⟨g4, 0, none⟩) m4 cap4)) := ((e2.mono (fun t ht => by simp at ht; simp; omega)).trans (HR4.out.out.mono (fun t ht => by simp at ht; simp; omega))).setCell (by simp) _
            have How : Hid ((w5.setCell ⟨g, q * 5 + 4, none⟩ (.slice (some ⟨g4, 0, none⟩) m4 cap4)).ownsRow w0.heap.size 88 1 (.slice (some ⟨gl, 0, none⟩) kl capl) kl ((L0 ++ Lq).map HL.v)) := by
              rw [← Hkl.out] at hll
              exact uowns_frame hll (fun x hx => o5.block x (ublk_lt hll x hx).2 (by
                have e : x = gl := by simpa [blkOf, Value.ownBlock] using hx
                subst e
                simp; omega))
            have hcn : ∀ j u, [(.slice (some ⟨g4, 0, none⟩) m4 cap4)][j]? = some u → ((w5.setCell ⟨g, q * 5 + 4, none⟩ (.slice (some ⟨g4, 0, none⟩) m4 cap4)).alloc (.cells #[(.slice (some ⟨g4, 0, none⟩) m4 cap4)] 88)).cell? ((⟨w5.heap.size, 0, none⟩ : Addr).add j) = some u := by
              have := cells_new (w5.setCell ⟨g, q * 5 + 4, none⟩ (.slice (some ⟨g4, 0, none⟩) m4 cap4)) [(.slice (some ⟨g4, 0, none⟩) m4 cap4)] 88
              have e : (w5.setCell ⟨g, q * 5 + 4, none⟩ (.slice (some ⟨g4, 0, none⟩) m4 cap4)).heap.size = w5.heap.size := by simp
              rw [e] at this
              exact this
            have Hcn := uhide hcn
            have hb5 : w0.heap.size ≤ w5.heap.size := by have := o5.size; simp at this; omega
            obtain ⟨i2, hi2, hi20, hi21, hi22⟩ := infoCpL
            clear hR4 HR4 HR3 HE HI OX3 BX e2 o5 hll hglx hcn hfg
            go_wp2_with (at_builtin; refine wpList_append_lies _ rfl _ _ 286 rfl w0.heap.size 88 i2 _ 1 24 Tryz.underlying286 hi2 hi20 hi21 hi22 rfl (by decide) (.slice (some ⟨gl, 0, none⟩) kl capl) kl _ rfl (How.out.alloc _) ⟨w5.heap.size, 0, none⟩ 1 1 [(.slice (some ⟨g4, 0, none⟩) m4 cap4)] rfl rfl Hcn.out (fun u hu => by simp at hu; rcases hu with rfl; rfl) (by decide) (by unfold maxLen; omega) (by omega) (by simp; omega) _ rfl ?_; intro g7 cap7 w7 hown7 hgrow7 hat7 hlt7)
            have HS7 := uhide (HG.out w7 g7 cap7 ((OutS.of_below ((Below.refl _ _).alloc (Nat.le_refl _) _)).trans (OutS.grownC hgrow7)) hown7 (by
              rcases hat7 with h | h
              · exact .inl (by cases h; rfl)
              · exact .inr (by simp at h; omega)))
            clear hown7 hgrow7 hat7 hlt7 HG How Hcn hi2 hi20 hi21 hi22
            go_wp2
            go_roundw
            case rel => exact ⟨q + 1, by omega, by go_num, HS7⟩
            case measure => simp [intOf]; omega
        · have e : q = n := by omega
          subst e
          obtain ⟨S', m', hlt', hO⟩ := hI.over hn
          have HS2 := uhide hO
          have Hlt := uhide hlt'
          clear hI HS hO hlt'
          go_wp2
          go_roundw
          case rel => exact ⟨m', by have := Hle.out; have := Hlt.out; omega, _, _, _, _, _, HS2.out⟩
          case measure =>
            have := (Hμ.out (_, wr) m' ⟨by have := Hle.out; have := Hlt.out; omega, _, _, _, _, _, HS2.out⟩).2
            have e := Hmu.out
            have h3 := Hlt.out
            rw [e]
            exact Nat.lt_of_le_of_lt this h3
end Go.Proofs.YtdnodaoeflbfkaaGreat
/- Data as cells: the helpers of the laws over Obj. -/
namespace Go.Proofs.YtdnodaoeflbfkaaGreat
open Go.RowKit Go.BigFrame
set_option linter.unusedVariables false

theorem Tryz.rObj_int : (Tryz.prog.underlying 3).map TypeDesc.isRow = some false := by kernel_rfl
theorem Tryz.zObj_int : (Tryz.prog.info? 3).map (·.size) = some 1 := by kernel_rfl
theorem Tryz.rObj_string : (Tryz.prog.underlying 9).map TypeDesc.isRow = some false := by kernel_rfl
theorem Tryz.zObj_string : (Tryz.prog.info? 9).map (·.size) = some 1 := by kernel_rfl
theorem Tryz.rObj_bool : (Tryz.prog.underlying 4).map TypeDesc.isRow = some false := by kernel_rfl
theorem Tryz.zObj_bool : (Tryz.prog.info? 4).map (·.size) = some 1 := by kernel_rfl
theorem Tryz.rObj_Lstring : (Tryz.prog.underlying 23).map TypeDesc.isRow = some false := by kernel_rfl
theorem Tryz.zObj_Lstring : (Tryz.prog.info? 23).map (·.size) = some 1 := by kernel_rfl
theorem Tryz.rObj_laws_Value : (Tryz.prog.underlying 83).map TypeDesc.isRow = some true := by kernel_rfl
theorem Tryz.zObj_laws_Value : (Tryz.prog.info? 83).map (·.size) = some 5 := by kernel_rfl
theorem Tryz.rObj_impl_Value : (Tryz.prog.underlying 90).map TypeDesc.isRow = some true := by kernel_rfl
theorem Tryz.zObj_impl_Value : (Tryz.prog.info? 90).map (·.size) = some 5 := by kernel_rfl
theorem Tryz.rObj_Limpl_Value : (Tryz.prog.underlying 88).map TypeDesc.isRow = some false := by kernel_rfl
theorem Tryz.zObj_Limpl_Value : (Tryz.prog.info? 88).map (·.size) = some 1 := by kernel_rfl
theorem Tryz.rObj_laws_Obj : (Tryz.prog.underlying 214).map TypeDesc.isRow = some true := by kernel_rfl
theorem Tryz.zObj_laws_Obj : (Tryz.prog.info? 214).map (·.size) = some 17 := by kernel_rfl
theorem Tryz.rObj_impl_Obj : (Tryz.prog.underlying 138).map TypeDesc.isRow = some true := by kernel_rfl
theorem Tryz.zObj_impl_Obj : (Tryz.prog.info? 138).map (·.size) = some 17 := by kernel_rfl
end Go.Proofs.YtdnodaoeflbfkaaGreat
/- Data as cells: the helpers of the laws over Obj. -/
namespace Go.Proofs.YtdnodaoeflbfkaaGreat
open Go.RowKit Go.BigFrame
set_option linter.unusedVariables false
set_option linter.unusedSimpArgs false

set_option maxRecDepth 20000 in
set_option maxHeartbeats 1600000 in
theorem uszObj_any {lo hi : Nat} (d : UD) (xs : List Value) (left : Int) (w : World) (ht : tyL d (uE 8)) (hx : uH w lo hi d xs) (h0 : 0 ≤ left) (h1 : left ≤ 1048576) :
    Calls Tryz.prog 165 #[.agg xs.toArray, .int .i64 left] w fun e w' => e = .returned (.int .i64 (leftI left (wt d))) ∧ Below w.heap.size w w' := by
  replace ht : tyL d [.i .i64, .s, .i .i64, .i .i64, .i .i64, .b, .l 1 0, .i .i64, .s, .i .i64, .l 1 0, .l 5 6, .i .i64, .s, .i .i64, .l 1 0, .l 5 6] := ht
  obtain ⟨z0, _, rfl, g0, h0⟩ := tyL.i ht
  obtain ⟨z1, _, rfl, g1, h1⟩ := tyL.s h0
  clear h0
  obtain ⟨z2, _, rfl, g2, h2⟩ := tyL.i h1
  clear h1
  obtain ⟨z3, _, rfl, g3, h3⟩ := tyL.i h2
  clear h2
  obtain ⟨z4, _, rfl, g4, h4⟩ := tyL.i h3
  clear h3
  obtain ⟨z5, _, rfl, h5⟩ := tyL.b h4
  clear h4
  obtain ⟨n6, c6, _, rfl, g6, h6⟩ := tyL.l h5
  clear h5
  obtain ⟨d7, _, rfl, g7, h7⟩ := tyL.split (f1 := uE 6) (f2 := [.i .i64, .s, .i .i64, .l 1 0, .l 5 6]) h6
  clear h6
  obtain ⟨d8, _, rfl, g8, h8⟩ := tyL.split (f1 := uE 6) (f2 := []) h7
  clear h7
  obtain rfl := tyL.nil h8
  clear h8
  obtain ⟨_, rfl, h0⟩ := hx
  obtain ⟨_, rfl, h1⟩ := h0
  obtain ⟨_, rfl, h2⟩ := h1
  obtain ⟨_, rfl, h3⟩ := h2
  obtain ⟨_, rfl, h4⟩ := h3
  obtain ⟨_, rfl, h5⟩ := h4
  obtain ⟨v6, _, rfl, s6, h6⟩ := h5
  obtain ⟨y7, _, rfl, l7, s7, h7⟩ := uH.split h6
  replace l7 : y7.length = 5 := l7.trans (tyL.len g7)
  clear h6
  obtain ⟨y8, _, rfl, l8, s8, h8⟩ := uH.split h7
  replace l8 : y8.length = 5 := l8.trans (tyL.len g8)
  clear h7
  obtain rfl := h8
  obtain ⟨M1, hM1⟩ : ∃ M, M = (n6 + wt c6) := ⟨_, rfl⟩
  have HC1 : Hid (∀ (wx : World) (l : Int), Below w.heap.size w wx → 0 ≤ l → l ≤ 1048576 → Calls Tryz.prog 48 #[v6, .int .i64 l] wx fun e w' => e = .returned (.int .i64 (leftI l M1)) ∧ Below wx.heap.size wx w') := fun wx l hb q0 q1 => hM1 ▸ uszStringS_any (lo := lo) (hi := hi) n6 c6 _ l wx g6 q0 q1 (s6.below hb)
  obtain ⟨M2, hM2⟩ : ∃ M, M = (wt d7) := ⟨_, rfl⟩
  have HC2 : Hid (∀ (wx : World) (l : Int), Below w.heap.size w wx → 0 ≤ l → l ≤ 1048576 → Calls Tryz.prog 47 #[.agg y7.toArray, .int .i64 l] wx fun e w' => e = .returned (.int .i64 (leftI l M2)) ∧ Below wx.heap.size wx w') := fun wx l hb q0 q1 => hM2 ▸ uszValue_any (lo := lo) (hi := hi) d7 _ l wx g7 (s7.below hb) q0 q1
  obtain ⟨M3, hM3⟩ : ∃ M, M = (wt d8) := ⟨_, rfl⟩
  have HC3 : Hid (∀ (wx : World) (l : Int), Below w.heap.size w wx → 0 ≤ l → l ≤ 1048576 → Calls Tryz.prog 47 #[.agg y8.toArray, .int .i64 l] wx fun e w' => e = .returned (.int .i64 (leftI l M3)) ∧ Below wx.heap.size wx w') := fun wx l hb q0 q1 => hM3 ▸ uszValue_any (lo := lo) (hi := hi) d8 _ l wx g8 (s8.below hb) q0 q1
  have E : Hid (leftI left (wt (UD.p (.int .i64 z0) (UD.p (.string z1) (UD.p (.int .i64 z2) (UD.p (.int .i64 z3) (UD.p (.int .i64 z4) (UD.p (.bool z5) (UD.l 1 n6 c6 (UD.app d7 (UD.app d8 UD.nil)))))))))) = leftI left (z1.size + (M1 + (M2 + (M3 + 0))))) := by show _ = _; congr 1 <;> (simp only [wt, wtP, wt_app, hM1, hM2, hM3] <;> omega)
  generalize leftI left (wt (UD.p (.int .i64 z0) (UD.p (.string z1) (UD.p (.int .i64 z2) (UD.p (.int .i64 z3) (UD.p (.int .i64 z4) (UD.p (.bool z5) (UD.l 1 n6 c6 (UD.app d7 (UD.app d8 UD.nil)))))))))) = R at *
  have HA : Hid (∀ o, Below w.heap.size w (w.alloc o)) := fun o => (Below.refl _ _).alloc (Nat.le_refl _) _
  unfold maxLen at g1
  obtain ⟨AX, hAX⟩ : ∃ AX : List Value, AX = (Value.int .i64 z0 :: (Value.string z1 :: (Value.int .i64 z2 :: (Value.int .i64 z3 :: (Value.int .i64 z4 :: (Value.bool z5 :: (v6 :: ((y7 ++ ((y8 ++ []))))))))))) := ⟨_, rfl⟩
  rw [← hAX]
  have hlen : AX.length = 17 := by rw [hAX]; simp [l7, l8]
  have e0 : AX[0]? = some (.int .i64 z0) := at_mid (i := 0) (pre := (([] : List Value))) (ys := [.int .i64 z0]) (post := (Value.string z1 :: (Value.int .i64 z2 :: (Value.int .i64 z3 :: (Value.int .i64 z4 :: (Value.bool z5 :: (v6 :: ((y7 ++ ((y8 ++ []))))))))))) (by rw [hAX]; simp) (by simp) rfl
  have e1 : AX[1]? = some (.string z1) := at_mid (i := 0) (pre := ([Value.int .i64 z0])) (ys := [.string z1]) (post := (Value.int .i64 z2 :: (Value.int .i64 z3 :: (Value.int .i64 z4 :: (Value.bool z5 :: (v6 :: ((y7 ++ ((y8 ++ [])))))))))) (by rw [hAX]; simp) (by simp) rfl
  have e2 : AX[2]? = some (.int .i64 z2) := at_mid (i := 0) (pre := ([Value.int .i64 z0, Value.string z1])) (ys := [.int .i64 z2]) (post := (Value.int .i64 z3 :: (Value.int .i64 z4 :: (Value.bool z5 :: (v6 :: ((y7 ++ ((y8 ++ []))))))))) (by rw [hAX]; simp) (by simp) rfl
  have e3 : AX[3]? = some (.int .i64 z3) := at_mid (i := 0) (pre := ([Value.int .i64 z0, Value.string z1, Value.int .i64 z2])) (ys := [.int .i64 z3]) (post := (Value.int .i64 z4 :: (Value.bool z5 :: (v6 :: ((y7 ++ ((y8 ++ [])))))))) (by rw [hAX]; simp) (by simp) rfl
  have e4 : AX[4]? = some (.int .i64 z4) := at_mid (i := 0) (pre := ([Value.int .i64 z0, Value.string z1, Value.int .i64 z2, Value.int .i64 z3])) (ys := [.int .i64 z4]) (post := (Value.bool z5 :: (v6 :: ((y7 ++ ((y8 ++ []))))))) (by rw [hAX]; simp) (by simp) rfl
  have e5 : AX[5]? = some (.bool z5) := at_mid (i := 0) (pre := ([Value.int .i64 z0, Value.string z1, Value.int .i64 z2, Value.int .i64 z3, Value.int .i64 z4])) (ys := [.bool z5]) (post := (v6 :: ((y7 ++ ((y8 ++ [])))))) (by rw [hAX]; simp) (by simp) rfl
  have e6 : AX[6]? = some (v6) := at_mid (i := 0) (pre := ([Value.int .i64 z0, Value.string z1, Value.int .i64 z2, Value.int .i64 z3, Value.int .i64 z4, Value.bool z5])) (ys := [v6]) (post := ((y7 ++ ((y8 ++ []))))) (by rw [hAX]; simp) (by simp) rfl
  have e7 : ∀ i v, y7[i]? = some v → AX[7 + i]? = some v := fun i v h => at_mid (pre := ([Value.int .i64 z0, Value.string z1, Value.int .i64 z2, Value.int .i64 z3, Value.int .i64 z4, Value.bool z5, v6])) (ys := y7) (post := ((y8 ++ []))) (by rw [hAX]; simp) (by simp) h
  have e8 : ∀ i v, y8[i]? = some v → AX[12 + i]? = some v := fun i v h => at_mid (pre := ([Value.int .i64 z0, Value.string z1, Value.int .i64 z2, Value.int .i64 z3, Value.int .i64 z4, Value.bool z5, v6] ++ y7)) (ys := y8) (post := []) (by rw [hAX]; simp) (by simp [l7]) h
  clear hAX
  have E0 := uhide e0
  clear e0
  have E1 := uhide e1
  clear e1
  have E2 := uhide e2
  clear e2
  have E3 := uhide e3
  clear e3
  have E4 := uhide e4
  clear e4
  have E5 := uhide e5
  clear e5
  have E6 := uhide e6
  clear e6
  have YZ7 : Hid ((Tryz.prog.info? 83).map (·.size) = some y7.length) := by show _ = _; rw [l7]; exact Tryz.zObj_laws_Value
  clear l7
  have E7 := uhide e7
  clear e7
  have YZ8 : Hid ((Tryz.prog.info? 83).map (·.size) = some y8.length) := by show _ = _; rw [l8]; exact Tryz.zObj_laws_Value
  clear l8
  have E8 := uhide e8
  clear e8
  have OA0 : Hid (objU (w.alloc (.cells AX.toArray 214)) w.heap.size 214 AX) := objU.new2 _ _ rfl
  clear ht g0 g2 g3 g4 g6 s6 g7 s7 g8 s8 hM1 hM2 hM3
  by_cases k0 : left - (z1.size : Int) < 0
  · have EN : Hid (R = -1) := by show _ = _; rw [E.out]; exact leftI_neg _ (by omega) (by unfold leftI; split <;> omega)
    clear E
    go_enter Tryz.func165, Tryz.ntmps165
    go_wp2_with (first
    | ((with_reducible refine wpList_load_one ?qqg100 9 ?qqx100 ?qqo100 w.heap.size 1 ?qqh100 (.string z1) Tryz.rObj_string (OA0.out.cell 1 _ E1.out) ?_); (case qqg100 => rfl); (case qqo100 => rfl); (case qqh100 => simp [Act.eval, Act.put]))
    | ((with_reducible refine wpList_load_one ?qqg101 23 ?qqx101 ?qqo101 w.heap.size 6 ?qqh101 (v6) Tryz.rObj_Lstring (OA0.out.cell 6 _ E6.out) ?_); (case qqg101 => rfl); (case qqo101 => rfl); (case qqh101 => simp [Act.eval, Act.put]))
    | ((with_reducible refine wpList_load_row2 ?qqg102 83 ?qqx102 ?qqo102 w.heap.size 7 ?qqh102 y7 Tryz.rObj_laws_Value YZ7.out (OA0.out.range 7 _ E7.out) ?_); (case qqg102 => rfl); (case qqo102 => rfl); (case qqh102 => simp [Act.eval, Act.put]))
    | ((with_reducible refine wpList_load_row2 ?qqg103 83 ?qqx103 ?qqo103 w.heap.size 12 ?qqh103 y8 Tryz.rObj_laws_Value YZ8.out (OA0.out.range 12 _ E8.out) ?_); (case qqg103 => rfl); (case qqo103 => rfl); (case qqh103 => simp [Act.eval, Act.put]))
    )
    go_ret
    exact ⟨ret_intU EN.out.symm, HA.out _⟩
  replace E : Hid (R = leftI (left - (z1.size : Int)) (M1 + (M2 + (M3 + 0)))) := by
    obtain ⟨q1, q2, q3⟩ := leftI_pos (x := left) (a := z1.size) (M1 + (M2 + (M3 + 0))) (by unfold leftI; split <;> omega)
    show _ = _; rw [E.out, q1, q2]
  obtain ⟨y1q, hy1⟩ : ∃ y, y = leftI (left - (z1.size : Int)) M1 := ⟨_, rfl⟩
  have Y1q := uhide hy1
  by_cases k1 : y1q < 0
  · have EN : Hid (R = -1) := by show _ = _; rw [E.out]; exact leftI_neg _ (by omega) (by rw [← hy1]; exact k1)
    clear E hy1
    go_enter Tryz.func165, Tryz.ntmps165
    go_wp2_with (first
    | ((with_reducible refine wpList_load_one ?qqg117 9 ?qqx117 ?qqo117 w.heap.size 1 ?qqh117 (.string z1) Tryz.rObj_string (OA0.out.cell 1 _ E1.out) ?_); (case qqg117 => rfl); (case qqo117 => rfl); (case qqh117 => simp [Act.eval, Act.put]))
    | ((with_reducible refine wpList_load_one ?qqg118 23 ?qqx118 ?qqo118 w.heap.size 6 ?qqh118 (v6) Tryz.rObj_Lstring (OA0.out.cell 6 _ E6.out) ?_); (case qqg118 => rfl); (case qqo118 => rfl); (case qqh118 => simp [Act.eval, Act.put]))
    | ((with_reducible refine wpList_load_row2 ?qqg119 83 ?qqx119 ?qqo119 w.heap.size 7 ?qqh119 y7 Tryz.rObj_laws_Value YZ7.out (OA0.out.range 7 _ E7.out) ?_); (case qqg119 => rfl); (case qqo119 => rfl); (case qqh119 => simp [Act.eval, Act.put]))
    | ((with_reducible refine wpList_load_row2 ?qqg120 83 ?qqx120 ?qqo120 w.heap.size 12 ?qqh120 y8 Tryz.rObj_laws_Value YZ8.out (OA0.out.range 12 _ E8.out) ?_); (case qqg120 => rfl); (case qqo120 => rfl); (case qqh120 => simp [Act.eval, Act.put]))
    )
    refine (HC1.out _ _ (HA.out _) (by omega) (by omega)).mono ?_
    rintro e w1 ⟨rfl, hb1⟩
    have OA1 := uhide (OA0.out.below hb1)
    have B1 : Hid (Below w.heap.size w w1) := (HA.out _).trans (hb1.mono (by simp))
    clear hb1
    rw [show leftI (left - (z1.size : Int)) M1 = y1q from Y1q.out.symm]
    go_wp2
    go_ret
    exact ⟨ret_intU EN.out.symm, B1.out⟩
  replace E : Hid (R = leftI y1q (M2 + (M3 + 0))) := by
    obtain ⟨q1, q2, q3⟩ := leftI_pos (x := (left - (z1.size : Int))) (a := M1) (M2 + (M3 + 0)) (by rw [← hy1]; exact k1)
    show _ = _; rw [E.out, q1, ← hy1]
  have u1 : y1q ≤ (left - (z1.size : Int)) := by rw [hy1]; unfold leftI; split <;> omega
  clear hy1
  obtain ⟨y2q, hy2⟩ : ∃ y, y = leftI y1q M2 := ⟨_, rfl⟩
  have Y2q := uhide hy2
  by_cases k2 : y2q < 0
  · have EN : Hid (R = -1) := by show _ = _; rw [E.out]; exact leftI_neg _ (by omega) (by rw [← hy2]; exact k2)
    clear E hy2
    go_enter Tryz.func165, Tryz.ntmps165
    go_wp2_with (first
    | ((with_reducible refine wpList_load_one ?qqg143 9 ?qqx143 ?qqo143 w.heap.size 1 ?qqh143 (.string z1) Tryz.rObj_string (OA0.out.cell 1 _ E1.out) ?_); (case qqg143 => rfl); (case qqo143 => rfl); (case qqh143 => simp [Act.eval, Act.put]))
    | ((with_reducible refine wpList_load_one ?qqg144 23 ?qqx144 ?qqo144 w.heap.size 6 ?qqh144 (v6) Tryz.rObj_Lstring (OA0.out.cell 6 _ E6.out) ?_); (case qqg144 => rfl); (case qqo144 => rfl); (case qqh144 => simp [Act.eval, Act.put]))
    | ((with_reducible refine wpList_load_row2 ?qqg145 83 ?qqx145 ?qqo145 w.heap.size 7 ?qqh145 y7 Tryz.rObj_laws_Value YZ7.out (OA0.out.range 7 _ E7.out) ?_); (case qqg145 => rfl); (case qqo145 => rfl); (case qqh145 => simp [Act.eval, Act.put]))
    | ((with_reducible refine wpList_load_row2 ?qqg146 83 ?qqx146 ?qqo146 w.heap.size 12 ?qqh146 y8 Tryz.rObj_laws_Value YZ8.out (OA0.out.range 12 _ E8.out) ?_); (case qqg146 => rfl); (case qqo146 => rfl); (case qqh146 => simp [Act.eval, Act.put]))
    )
    refine (HC1.out _ _ (HA.out _) (by omega) (by omega)).mono ?_
    rintro e w1 ⟨rfl, hb1⟩
    have OA1 := uhide (OA0.out.below hb1)
    have B1 : Hid (Below w.heap.size w w1) := (HA.out _).trans (hb1.mono (by simp))
    clear hb1
    rw [show leftI (left - (z1.size : Int)) M1 = y1q from Y1q.out.symm]
    go_wp2_with (first
    | ((with_reducible refine wpList_load_one ?qqg155 9 ?qqx155 ?qqo155 w.heap.size 1 ?qqh155 (.string z1) Tryz.rObj_string (OA1.out.cell 1 _ E1.out) ?_); (case qqg155 => rfl); (case qqo155 => rfl); (case qqh155 => simp [Act.eval, Act.put]))
    | ((with_reducible refine wpList_load_one ?qqg156 23 ?qqx156 ?qqo156 w.heap.size 6 ?qqh156 (v6) Tryz.rObj_Lstring (OA1.out.cell 6 _ E6.out) ?_); (case qqg156 => rfl); (case qqo156 => rfl); (case qqh156 => simp [Act.eval, Act.put]))
    | ((with_reducible refine wpList_load_row2 ?qqg157 83 ?qqx157 ?qqo157 w.heap.size 7 ?qqh157 y7 Tryz.rObj_laws_Value YZ7.out (OA1.out.range 7 _ E7.out) ?_); (case qqg157 => rfl); (case qqo157 => rfl); (case qqh157 => simp [Act.eval, Act.put]))
    | ((with_reducible refine wpList_load_row2 ?qqg158 83 ?qqx158 ?qqo158 w.heap.size 12 ?qqh158 y8 Tryz.rObj_laws_Value YZ8.out (OA1.out.range 12 _ E8.out) ?_); (case qqg158 => rfl); (case qqo158 => rfl); (case qqh158 => simp [Act.eval, Act.put]))
    )
    refine (HC2.out _ _ B1.out (by omega) (by omega)).mono ?_
    rintro e w2 ⟨rfl, hb2⟩
    have OA2 := uhide (OA1.out.below hb2)
    have B2 : Hid (Below w.heap.size w w2) := B1.out.trans (hb2.mono B1.out.size)
    clear hb2
    rw [show leftI y1q M2 = y2q from Y2q.out.symm]
    go_wp2
    go_ret
    exact ⟨ret_intU EN.out.symm, B2.out⟩
  replace E : Hid (R = leftI y2q (M3 + 0)) := by
    obtain ⟨q1, q2, q3⟩ := leftI_pos (x := y1q) (a := M2) (M3 + 0) (by rw [← hy2]; exact k2)
    show _ = _; rw [E.out, q1, ← hy2]
  have u2 : y2q ≤ y1q := by rw [hy2]; unfold leftI; split <;> omega
  clear hy2
  obtain ⟨y3q, hy3⟩ : ∃ y, y = leftI y2q M3 := ⟨_, rfl⟩
  have Y3q := uhide hy3
  by_cases k3 : y3q < 0
  · have EN : Hid (R = -1) := by show _ = _; rw [E.out]; exact leftI_neg _ (by omega) (by rw [← hy3]; exact k3)
    clear E hy3
    go_enter Tryz.func165, Tryz.ntmps165
    go_wp2_with (first
    | ((with_reducible refine wpList_load_one ?qqg181 9 ?qqx181 ?qqo181 w.heap.size 1 ?qqh181 (.string z1) Tryz.rObj_string (OA0.out.cell 1 _ E1.out) ?_); (case qqg181 => rfl); (case qqo181 => rfl); (case qqh181 => simp [Act.eval, Act.put]))
    | ((with_reducible refine wpList_load_one ?qqg182 23 ?qqx182 ?qqo182 w.heap.size 6 ?qqh182 (v6) Tryz.rObj_Lstring (OA0.out.cell 6 _ E6.out) ?_); (case qqg182 => rfl); (case qqo182 => rfl); (case qqh182 => simp [Act.eval, Act.put]))
    | ((with_reducible refine wpList_load_row2 ?qqg183 83 ?qqx183 ?qqo183 w.heap.size 7 ?qqh183 y7 Tryz.rObj_laws_Value YZ7.out (OA0.out.range 7 _ E7.out) ?_); (case qqg183 => rfl); (case qqo183 => rfl); (case qqh183 => simp [Act.eval, Act.put]))
    | ((with_reducible refine wpList_load_row2 ?qqg184 83 ?qqx184 ?qqo184 w.heap.size 12 ?qqh184 y8 Tryz.rObj_laws_Value YZ8.out (OA0.out.range 12 _ E8.out) ?_); (case qqg184 => rfl); (case qqo184 => rfl); (case qqh184 => simp [Act.eval, Act.put]))
    )
    refine (HC1.out _ _ (HA.out _) (by omega) (by omega)).mono ?_
    rintro e w1 ⟨rfl, hb1⟩
    have OA1 := uhide (OA0.out.below hb1)
    have B1 : Hid (Below w.heap.size w w1) := (HA.out _).trans (hb1.mono (by simp))
    clear hb1
    rw [show leftI (left - (z1.size : Int)) M1 = y1q from Y1q.out.symm]
    go_wp2_with (first
    | ((with_reducible refine wpList_load_one ?qqg193 9 ?qqx193 ?qqo193 w.heap.size 1 ?qqh193 (.string z1) Tryz.rObj_string (OA1.out.cell 1 _ E1.out) ?_); (case qqg193 => rfl); (case qqo193 => rfl); (case qqh193 => simp [Act.eval, Act.put]))
    | ((with_reducible refine wpList_load_one ?qqg194 23 ?qqx194 ?qqo194 w.heap.size 6 ?qqh194 (v6) Tryz.rObj_Lstring (OA1.out.cell 6 _ E6.out) ?_); (case qqg194 => rfl); (case qqo194 => rfl); (case qqh194 => simp [Act.eval, Act.put]))
    | ((with_reducible refine wpList_load_row2 ?qqg195 83 ?qqx195 ?qqo195 w.heap.size 7 ?qqh195 y7 Tryz.rObj_laws_Value YZ7.out (OA1.out.range 7 _ E7.out) ?_); (case qqg195 => rfl); (case qqo195 => rfl); (case qqh195 => simp [Act.eval, Act.put]))
    | ((with_reducible refine wpList_load_row2 ?qqg196 83 ?qqx196 ?qqo196 w.heap.size 12 ?qqh196 y8 Tryz.rObj_laws_Value YZ8.out (OA1.out.range 12 _ E8.out) ?_); (case qqg196 => rfl); (case qqo196 => rfl); (case qqh196 => simp [Act.eval, Act.put]))
    )
    refine (HC2.out _ _ B1.out (by omega) (by omega)).mono ?_
    rintro e w2 ⟨rfl, hb2⟩
    have OA2 := uhide (OA1.out.below hb2)
    have B2 : Hid (Below w.heap.size w w2) := B1.out.trans (hb2.mono B1.out.size)
    clear hb2
    rw [show leftI y1q M2 = y2q from Y2q.out.symm]
    go_wp2_with (first
    | ((with_reducible refine wpList_load_one ?qqg205 9 ?qqx205 ?qqo205 w.heap.size 1 ?qqh205 (.string z1) Tryz.rObj_string (OA2.out.cell 1 _ E1.out) ?_); (case qqg205 => rfl); (case qqo205 => rfl); (case qqh205 => simp [Act.eval, Act.put]))
    | ((with_reducible refine wpList_load_one ?qqg206 23 ?qqx206 ?qqo206 w.heap.size 6 ?qqh206 (v6) Tryz.rObj_Lstring (OA2.out.cell 6 _ E6.out) ?_); (case qqg206 => rfl); (case qqo206 => rfl); (case qqh206 => simp [Act.eval, Act.put]))
    | ((with_reducible refine wpList_load_row2 ?qqg207 83 ?qqx207 ?qqo207 w.heap.size 7 ?qqh207 y7 Tryz.rObj_laws_Value YZ7.out (OA2.out.range 7 _ E7.out) ?_); (case qqg207 => rfl); (case qqo207 => rfl); (case qqh207 => simp [Act.eval, Act.put]))
    | ((with_reducible refine wpList_load_row2 ?qqg208 83 ?qqx208 ?qqo208 w.heap.size 12 ?qqh208 y8 Tryz.rObj_laws_Value YZ8.out (OA2.out.range 12 _ E8.out) ?_); (case qqg208 => rfl); (case qqo208 => rfl); (case qqh208 => simp [Act.eval, Act.put]))
    )
    refine (HC3.out _ _ B2.out (by omega) (by omega)).mono ?_
    rintro e w3 ⟨rfl, hb3⟩
    have OA3 := uhide (OA2.out.below hb3)
    have B3 : Hid (Below w.heap.size w w3) := B2.out.trans (hb3.mono B2.out.size)
    clear hb3
    rw [show leftI y2q M3 = y3q from Y3q.out.symm]
    go_wp2
    go_ret
    exact ⟨ret_intU EN.out.symm, B3.out⟩
  replace E : Hid (R = leftI y3q (0)) := by
    obtain ⟨q1, q2, q3⟩ := leftI_pos (x := y2q) (a := M3) (0) (by rw [← hy3]; exact k3)
    show _ = _; rw [E.out, q1, ← hy3]
  have u3 : y3q ≤ y2q := by rw [hy3]; unfold leftI; split <;> omega
  clear hy3
  replace E : Hid (R = y3q) := E.out.trans (leftI_zero (by omega))
  go_enter Tryz.func165, Tryz.ntmps165
  go_wp2_with (first
    | ((with_reducible refine wpList_load_one ?qqg227 9 ?qqx227 ?qqo227 w.heap.size 1 ?qqh227 (.string z1) Tryz.rObj_string (OA0.out.cell 1 _ E1.out) ?_); (case qqg227 => rfl); (case qqo227 => rfl); (case qqh227 => simp [Act.eval, Act.put]))
    | ((with_reducible refine wpList_load_one ?qqg228 23 ?qqx228 ?qqo228 w.heap.size 6 ?qqh228 (v6) Tryz.rObj_Lstring (OA0.out.cell 6 _ E6.out) ?_); (case qqg228 => rfl); (case qqo228 => rfl); (case qqh228 => simp [Act.eval, Act.put]))
    | ((with_reducible refine wpList_load_row2 ?qqg229 83 ?qqx229 ?qqo229 w.heap.size 7 ?qqh229 y7 Tryz.rObj_laws_Value YZ7.out (OA0.out.range 7 _ E7.out) ?_); (case qqg229 => rfl); (case qqo229 => rfl); (case qqh229 => simp [Act.eval, Act.put]))
    | ((with_reducible refine wpList_load_row2 ?qqg230 83 ?qqx230 ?qqo230 w.heap.size 12 ?qqh230 y8 Tryz.rObj_laws_Value YZ8.out (OA0.out.range 12 _ E8.out) ?_); (case qqg230 => rfl); (case qqo230 => rfl); (case qqh230 => simp [Act.eval, Act.put]))
    )
  refine (HC1.out _ _ (HA.out _) (by omega) (by omega)).mono ?_
  rintro e w1 ⟨rfl, hb1⟩
  have OA1 := uhide (OA0.out.below hb1)
  have B1 : Hid (Below w.heap.size w w1) := (HA.out _).trans (hb1.mono (by simp))
  clear hb1
  rw [show leftI (left - (z1.size : Int)) M1 = y1q from Y1q.out.symm]
  go_wp2_with (first
    | ((with_reducible refine wpList_load_one ?qqg239 9 ?qqx239 ?qqo239 w.heap.size 1 ?qqh239 (.string z1) Tryz.rObj_string (OA1.out.cell 1 _ E1.out) ?_); (case qqg239 => rfl); (case qqo239 => rfl); (case qqh239 => simp [Act.eval, Act.put]))
    | ((with_reducible refine wpList_load_one ?qqg240 23 ?qqx240 ?qqo240 w.heap.size 6 ?qqh240 (v6) Tryz.rObj_Lstring (OA1.out.cell 6 _ E6.out) ?_); (case qqg240 => rfl); (case qqo240 => rfl); (case qqh240 => simp [Act.eval, Act.put]))
    | ((with_reducible refine wpList_load_row2 ?qqg241 83 ?qqx241 ?qqo241 w.heap.size 7 ?qqh241 y7 Tryz.rObj_laws_Value YZ7.out (OA1.out.range 7 _ E7.out) ?_); (case qqg241 => rfl); (case qqo241 => rfl); (case qqh241 => simp [Act.eval, Act.put]))
    | ((with_reducible refine wpList_load_row2 ?qqg242 83 ?qqx242 ?qqo242 w.heap.size 12 ?qqh242 y8 Tryz.rObj_laws_Value YZ8.out (OA1.out.range 12 _ E8.out) ?_); (case qqg242 => rfl); (case qqo242 => rfl); (case qqh242 => simp [Act.eval, Act.put]))
    )
  refine (HC2.out _ _ B1.out (by omega) (by omega)).mono ?_
  rintro e w2 ⟨rfl, hb2⟩
  have OA2 := uhide (OA1.out.below hb2)
  have B2 : Hid (Below w.heap.size w w2) := B1.out.trans (hb2.mono B1.out.size)
  clear hb2
  rw [show leftI y1q M2 = y2q from Y2q.out.symm]
  go_wp2_with (first
    | ((with_reducible refine wpList_load_one ?qqg251 9 ?qqx251 ?qqo251 w.heap.size 1 ?qqh251 (.string z1) Tryz.rObj_string (OA2.out.cell 1 _ E1.out) ?_); (case qqg251 => rfl); (case qqo251 => rfl); (case qqh251 => simp [Act.eval, Act.put]))
    | ((with_reducible refine wpList_load_one ?qqg252 23 ?qqx252 ?qqo252 w.heap.size 6 ?qqh252 (v6) Tryz.rObj_Lstring (OA2.out.cell 6 _ E6.out) ?_); (case qqg252 => rfl); (case qqo252 => rfl); (case qqh252 => simp [Act.eval, Act.put]))
    | ((with_reducible refine wpList_load_row2 ?qqg253 83 ?qqx253 ?qqo253 w.heap.size 7 ?qqh253 y7 Tryz.rObj_laws_Value YZ7.out (OA2.out.range 7 _ E7.out) ?_); (case qqg253 => rfl); (case qqo253 => rfl); (case qqh253 => simp [Act.eval, Act.put]))
    | ((with_reducible refine wpList_load_row2 ?qqg254 83 ?qqx254 ?qqo254 w.heap.size 12 ?qqh254 y8 Tryz.rObj_laws_Value YZ8.out (OA2.out.range 12 _ E8.out) ?_); (case qqg254 => rfl); (case qqo254 => rfl); (case qqh254 => simp [Act.eval, Act.put]))
    )
  refine (HC3.out _ _ B2.out (by omega) (by omega)).mono ?_
  rintro e w3 ⟨rfl, hb3⟩
  have OA3 := uhide (OA2.out.below hb3)
  have B3 : Hid (Below w.heap.size w w3) := B2.out.trans (hb3.mono B2.out.size)
  clear hb3
  rw [show leftI y2q M3 = y3q from Y3q.out.symm]
  go_wp2
  go_ret
  exact ⟨ret_intU E.out.symm, B3.out⟩
set_option maxRecDepth 20000 in
set_option maxHeartbeats 800000 in
set_option maxRecDepth 20000 in
theorem uszObjS_any {lo hi : Nat} (n : Nat) (cs : UD) (c : Value) (left : Int) (w : World) (ht : tyS 17 n cs 8) (h0 : 0 ≤ left) (h1 : left ≤ 1048576) (hx : uS w lo hi 17 n cs c) :
    Calls Tryz.prog 87 #[c, .int .i64 left] w fun e w' => e = .returned (.int .i64 (leftI left (n + wt cs))) ∧ Below w.heap.size w w' := by
  obtain ⟨a, cap, rfl, hx2⟩ := hx
  have Hx : Hid (uS w lo hi 17 n cs (.slice a n cap)) := ⟨a, cap, rfl, hx2⟩
  have hmx := ht.2.2.1
  unfold maxLen at hmx
  have Ht := uhide ht
  clear hx2 ht
  by_cases c1 : left - (n : Int) < 0
  · have E : Hid (leftI left (n + wt cs) = -1) := by show _ = _; unfold leftI; rw [if_pos (by omega)]
    go_enter Tryz.func87, Tryz.ntmps87
    go_wp2
    go_ret
    exact ⟨ret_intU E.out.symm, Below.refl _ _⟩
  have E : Hid (leftI left (n + wt cs) = leftI (left - n) (wt (cs.dropN (0 * 17)))) := by
    show _ = _
    obtain ⟨g1, g2, g3⟩ := leftI_pos (x := left) (a := n) (wt cs) (by unfold leftI; split <;> omega)
    rw [g1, g2, Nat.zero_mul, UD.dropN_zero]
  go_enter Tryz.func87, Tryz.ntmps87
  go_wp2
  go_loopw [1, 5] (fun l i wr => ∃ (q : Nat) (x : Int), q ≤ n ∧ i = .int .i64 q ∧ l = .int .i64 x ∧ 0 ≤ x ∧ x ≤ 1048576 ∧ Hid (leftI left (n + wt cs) = leftI x (wt (cs.dropN (q * 17)))) ∧ Below w.heap.size w wr) (fun _ i _ => n - (intOf i).toNat)
  case atStart => exact ⟨0, _, Nat.zero_le _, rfl, rfl, by omega, by omega, E, Below.refl _ _⟩
  case round =>
    obtain ⟨q, x, hq, rfl, rfl, hx0, hx1, Hs, hbw⟩ := hrel
    by_cases hlt : q < n
    · obtain ⟨b, off, rfl, hbb, hm⟩ := (Hx.out.below hbw).cells (by omega)
      have htr := Ht.out.row hlt
      have hr := hm.row 17 q
      have hw : wt (cs.dropN (q * 17)) = wt (rowU cs 17 q) + wt (cs.dropN ((q + 1) * 17)) := by rw [UD.drop_row cs 17 q, wt_app]
      have hsz := uszD_row cs 17 q
      obtain ⟨xs, hh, hcl⟩ := hr.hand
      have Hcon : Hid (∀ wx, Below wr.heap.size wr wx → Calls Tryz.prog 165 #[.agg xs.toArray, .int .i64 x] wx fun e w' => e = .returned (.int .i64 (leftI x (wt (rowU cs 17 q)))) ∧ Below wx.heap.size wx w') := fun wx hb => uszObj_any (lo := lo) (hi := hi) _ _ x wx htr (hh.below hb) hx0 hx1
      have hxl : xs.length = 17 := by rw [hh.len, tyL.len htr]; rfl
      have lld := load_whole (P := Tryz.prog) (t := 214) (k := 17) (ad := ⟨b, off + q * 17, none⟩) (w := wr) Tryz.isAgg214 Tryz.sizeOf214 hxl (fun j v h => by rw [Go.WideShapes.add_plain]; exact hcl j v h)
      clear hcl hr hm htr hsz hh
      generalize xs.toArray = XS at *
      have LLD := uhide lld
      clear lld hxl
      generalize wt (rowU cs 17 q) = m at *
      have hneg0 := fun h => leftI_neg (x := x) (a := m) (wt (cs.dropN ((q + 1) * 17))) hx0 h
      have hpos0 := fun h => leftI_pos (x := x) (a := m) (wt (cs.dropN ((q + 1) * 17))) h
      have hle0 : leftI x m ≤ x := by unfold leftI; split <;> omega
      generalize leftI x m = y at *
      by_cases hneg : y < 0
      · have hr : Hid (leftI left (n + wt cs) = -1) := by show _ = _; rw [Hs.out, hw]; exact hneg0 hneg
        clear hw Hs E hneg0 hpos0
        go_wp2_with (with_reducible refine wpList_load_eq rfl 214 _ rfl ⟨b, off + q * 17, none⟩ (by simp [Act.eval]) (.agg XS) LLD.out ?_)
        refine (Hcon.out _ (by repeat (first | exact Below.refl _ _ | refine Below.alloc ?_ (by simp) _))).mono ?_
        rintro e w1 ⟨rfl, hb⟩
        go_wp2
        go_ret
        exact ⟨ret_intU hr.out.symm, hbw.trans (hb.mono hbw.size)⟩
      · have hr : Hid (leftI left (n + wt cs) = leftI y (wt (cs.dropN ((q + 1) * 17)))) := by
          show _ = _
          rw [Hs.out, hw]; exact (hpos0 hneg).1
        clear hw Hs E hneg0 hpos0
        go_wp2_with (with_reducible refine wpList_load_eq rfl 214 _ rfl ⟨b, off + q * 17, none⟩ (by simp [Act.eval]) (.agg XS) LLD.out ?_)
        refine (Hcon.out _ (by repeat (first | exact Below.refl _ _ | refine Below.alloc ?_ (by simp) _))).mono ?_
        rintro e w1 ⟨rfl, hb⟩
        go_wp2
        go_roundw
        case rel => exact ⟨q + 1, _, by omega, by go_num, rfl, by omega, by omega, hr, hbw.trans (hb.mono hbw.size)⟩
        case measure => simp [intOf]; omega
    · have e : q = n := by omega
      subst e
      have hr : Hid (leftI left (q + wt cs) = x) := by
        show _ = _
        rw [Hs.out, ← Ht.out.2.2.2.1, UD.dropN_all]
        exact leftI_zero hx0
      clear Hs E
      go_wp2
      go_ret
      exact ⟨ret_intU hr.out.symm, hbw⟩
end Go.Proofs.YtdnodaoeflbfkaaGreat

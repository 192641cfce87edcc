/- Data as cells: the helpers of the laws over Value. -/
import Derived.Test.YtdnodaoeflbfkaaULeaf
namespace Go.Proofs.Ytdnodaoeflbfkaa
open Go.RowKit Go.BigFrame
set_option linter.unusedVariables false

set_option maxHeartbeats 800000 in
theorem uszValue_of {lo hi : Nat} (d : UD) (xs : List Value) (left : Int) (w : World) (ih : ∀ (n4 : Nat) (c4 : UD) (x4 : Value) (l : Int) (wx : World), uszD c4 < uszD d → tyS 5 n4 c4 6 → 0 ≤ l → l ≤ 1048576 → uS wx lo hi 5 n4 c4 x4 → Calls Try.prog 233 #[x4, .int .i64 l] wx fun e w' => e = .returned (.int .i64 (leftI l (n4 + wt c4))) ∧ Below wx.heap.size wx w') (ht : tyL d (uE 6)) (hx : uH w lo hi d xs) (h0 : 0 ≤ left) (h1 : left ≤ 1048576) :
    Calls Try.prog 206 #[.agg xs.toArray, .int .i64 left] w fun e w' => e = .returned (.int .i64 (leftI left (wt d))) ∧ Below w.heap.size w w' := by
  obtain ⟨z0, z1, z2, n3, c3, n4, c4, rfl, g0, g1, g2, g3, g4⟩ := partsValue ht
  obtain ⟨_, rfl, ⟨_, rfl, ⟨_, rfl, ⟨v3, _, rfl, s3, ⟨v4, _, rfl, s4, rfl⟩⟩⟩⟩⟩ := hx
  obtain ⟨a3, p3, rfl, t3⟩ := s3
  obtain ⟨a4, p4, rfl, t4⟩ := s4
  obtain ⟨M1, hM1⟩ : ∃ M, M = (n3 + wt c3) := ⟨_, rfl⟩
  have HC1 : Hid (∀ (wx : World) (l : Int), Below w.heap.size w wx → 0 ≤ l → l ≤ 1048576 → Calls Try.prog 62 #[.slice a3 n3 p3, .int .i64 l] wx fun e w' => e = .returned (.int .i64 (leftI l M1)) ∧ Below wx.heap.size wx w') := fun wx l hb q0 q1 => hM1 ▸ uszStringS_any (lo := lo) (hi := hi) n3 c3 _ l wx g3 q0 q1 ((show uS w lo hi 1 n3 c3 (.slice a3 n3 p3) from ⟨_, _, rfl, t3⟩).below hb)
  obtain ⟨M2, hM2⟩ : ∃ M, M = (n4 + wt c4) := ⟨_, rfl⟩
  have HC2 : Hid (∀ (wx : World) (l : Int), Below w.heap.size w wx → 0 ≤ l → l ≤ 1048576 → Calls Try.prog 233 #[.slice a4 n4 p4, .int .i64 l] wx fun e w' => e = .returned (.int .i64 (leftI l M2)) ∧ Below wx.heap.size wx w') := fun wx l hb q0 q1 => hM2 ▸ ih n4 c4 _ l wx (by simp only [uszD]; omega) g4 q0 q1 ((show uS w lo hi 5 n4 c4 (.slice a4 n4 p4) from ⟨_, _, rfl, t4⟩).below hb)
  have E : Hid (leftI left (wt (.p (.int .i64 z0) (.p (.string z1) (.p (.int .i64 z2) (.l 1 n3 c3 (.l 5 n4 c4 .nil)))))) = leftI left (z1.size + (M1 + (M2 + 0)))) := by show _ = _; congr 1; simp only [wt, wtP, hM1, hM2]; omega
  generalize leftI left (wt (.p (.int .i64 z0) (.p (.string z1) (.p (.int .i64 z2) (.l 1 n3 c3 (.l 5 n4 c4 .nil)))))) = R at *
  have HA : Hid (∀ o, Below w.heap.size w (w.alloc o)) := fun o => (Below.refl _ _).alloc (Nat.le_refl _) _
  unfold maxLen at g1
  clear t3 t4 hM1 hM2 g3 g4 ih
  by_cases k0 : left - (z1.size : Int) < 0
  · have EN : Hid (R = -1) := by show _ = _; rw [E.out]; exact leftI_neg _ (by omega) (by unfold leftI; split <;> omega)
    clear E
    go_enter Try.func206, Try.ntmps206
    go_wp2
    go_ret
    exact ⟨ret_intU EN.out.symm, HA.out _⟩
  replace E : Hid (R = leftI (left - (z1.size : Int)) (M1 + (M2 + 0))) := by
    obtain ⟨q1, q2, q3⟩ := leftI_pos (x := left) (a := z1.size) (M1 + (M2 + 0)) (by unfold leftI; split <;> omega)
    show _ = _; rw [E.out, q1, q2]
  obtain ⟨y1, hy1⟩ : ∃ y, y = leftI (left - (z1.size : Int)) M1 := ⟨_, rfl⟩
  have Y1 := uhide hy1
  by_cases k1 : y1 < 0
  · have EN : Hid (R = -1) := by show _ = _; rw [E.out]; exact leftI_neg _ (by omega) (by rw [← hy1]; exact k1)
    clear E hy1
    go_enter Try.func206, Try.ntmps206
    go_wp2_with fail
    refine (HC1.out _ _ (HA.out _) (by omega) (by omega)).mono ?_
    rintro e w1 ⟨rfl, hb1⟩
    have B1 : Hid (Below w.heap.size w w1) := (HA.out _).trans (hb1.mono (by simp))
    clear hb1
    rw [show leftI (left - (z1.size : Int)) M1 = y1 from Y1.out.symm]
    go_wp2
    go_ret
    exact ⟨ret_intU EN.out.symm, B1.out⟩
  replace E : Hid (R = leftI y1 (M2 + 0)) := by
    obtain ⟨q1, q2, q3⟩ := leftI_pos (x := (left - (z1.size : Int))) (a := M1) (M2 + 0) (by rw [← hy1]; exact k1)
    show _ = _; rw [E.out, q1, ← hy1]
  have u1 : y1 ≤ (left - (z1.size : Int)) := by rw [hy1]; unfold leftI; split <;> omega
  clear hy1
  obtain ⟨y2, hy2⟩ : ∃ y, y = leftI y1 M2 := ⟨_, rfl⟩
  have Y2 := uhide hy2
  by_cases k2 : y2 < 0
  · have EN : Hid (R = -1) := by show _ = _; rw [E.out]; exact leftI_neg _ (by omega) (by rw [← hy2]; exact k2)
    clear E hy2
    go_enter Try.func206, Try.ntmps206
    go_wp2_with fail
    refine (HC1.out _ _ (HA.out _) (by omega) (by omega)).mono ?_
    rintro e w1 ⟨rfl, hb1⟩
    have b4 : w1.cell? ⟨w.heap.size, 4, none⟩ = some (.slice a4 n4 p4) := (hb1.cell (p := ⟨w.heap.size, 4, none⟩) (by simp <;> omega)).trans (by simp [go_sem])
    have B1 : Hid (Below w.heap.size w w1) := (HA.out _).trans (hb1.mono (by simp))
    clear hb1
    rw [show leftI (left - (z1.size : Int)) M1 = y1 from Y1.out.symm]
    go_wp2_with fail
    refine (HC2.out _ _ (by repeat (first | assumption | exact HA.out _ | exact B1.out)) (by omega) (by omega)).mono ?_
    rintro e w2 ⟨rfl, hb2⟩
    have B2 : Hid (Below w.heap.size w w2) := B1.out.trans (hb2.mono B1.out.size)
    clear hb2
    rw [show leftI y1 M2 = y2 from Y2.out.symm]
    go_wp2
    go_ret
    exact ⟨ret_intU EN.out.symm, B2.out⟩
  replace E : Hid (R = leftI y2 (0)) := by
    obtain ⟨q1, q2, q3⟩ := leftI_pos (x := y1) (a := M2) (0) (by rw [← hy2]; exact k2)
    show _ = _; rw [E.out, q1, ← hy2]
  have u2 : y2 ≤ y1 := by rw [hy2]; unfold leftI; split <;> omega
  clear hy2
  replace E : Hid (R = y2) := E.out.trans (leftI_zero (by omega))
  go_enter Try.func206, Try.ntmps206
  go_wp2_with fail
  refine (HC1.out _ _ (HA.out _) (by omega) (by omega)).mono ?_
  rintro e w1 ⟨rfl, hb1⟩
  have b4 : w1.cell? ⟨w.heap.size, 4, none⟩ = some (.slice a4 n4 p4) := (hb1.cell (p := ⟨w.heap.size, 4, none⟩) (by simp <;> omega)).trans (by simp [go_sem])
  have B1 : Hid (Below w.heap.size w w1) := (HA.out _).trans (hb1.mono (by simp))
  clear hb1
  rw [show leftI (left - (z1.size : Int)) M1 = y1 from Y1.out.symm]
  go_wp2_with fail
  refine (HC2.out _ _ (by repeat (first | assumption | exact HA.out _ | exact B1.out)) (by omega) (by omega)).mono ?_
  rintro e w2 ⟨rfl, hb2⟩
  have B2 : Hid (Below w.heap.size w w2) := B1.out.trans (hb2.mono B1.out.size)
  clear hb2
  rw [show leftI y1 M2 = y2 from Y2.out.symm]
  go_wp2
  go_ret
  exact ⟨ret_intU E.out.symm, B2.out⟩
set_option maxHeartbeats 800000 in
theorem uszValueS_N {lo hi : Nat} : ∀ (N : Nat) (n : Nat) (cs : UD) (c : Value) (left : Int) (w : World), uszD cs < N → tyS 5 n cs 6 → 0 ≤ left → left ≤ 1048576 → uS w lo hi 5 n cs c →
    Calls Try.prog 233 #[c, .int .i64 left] w fun e w' => e = .returned (.int .i64 (leftI left (n + wt cs))) ∧ Below w.heap.size w w' := by
  intro N
  induction N with
  | zero => intro n cs c left w hN; omega
  | succ N ihN =>
  intro n cs c left w hN ht h0 h1 hx
  have HI := uhide ihN
  clear ihN
  obtain ⟨a, cap, rfl, hx2⟩ := hx
  have Hx : Hid (uS w lo hi 5 n cs (.slice a n cap)) := ⟨a, cap, rfl, hx2⟩
  have hmx := ht.2.2.1
  unfold maxLen at hmx
  have Ht := uhide ht
  clear hx2 ht
  by_cases c1 : left - (n : Int) < 0
  · have E : Hid (leftI left (n + wt cs) = -1) := by show _ = _; unfold leftI; rw [if_pos (by omega)]
    go_enter Try.func233, Try.ntmps233
    go_wp2
    go_ret
    exact ⟨ret_intU E.out.symm, Below.refl _ _⟩
  have E : Hid (leftI left (n + wt cs) = leftI (left - n) (wt (cs.dropN (0 * 5)))) := by
    show _ = _
    obtain ⟨g1, g2, g3⟩ := leftI_pos (x := left) (a := n) (wt cs) (by unfold leftI; split <;> omega)
    rw [g1, g2, Nat.zero_mul, UD.dropN_zero]
  go_enter Try.func233, Try.ntmps233
  go_wp2
  go_loopw [1, 5] (fun l i wr => ∃ (q : Nat) (x : Int), q ≤ n ∧ i = .int .i64 q ∧ l = .int .i64 x ∧ 0 ≤ x ∧ x ≤ 1048576 ∧ Hid (leftI left (n + wt cs) = leftI x (wt (cs.dropN (q * 5)))) ∧ Below w.heap.size w wr) (fun _ i _ => n - (intOf i).toNat)
  case atStart => exact ⟨0, _, Nat.zero_le _, rfl, rfl, by omega, by omega, E, Below.refl _ _⟩
  case round =>
    obtain ⟨q, x, hq, rfl, rfl, hx0, hx1, Hs, hbw⟩ := hrel
    by_cases hlt : q < n
    · obtain ⟨b, off, rfl, hbb, hm⟩ := (Hx.out.below hbw).cells (by omega)
      have htr := Ht.out.row hlt
      have hr := hm.row 5 q
      have hw : wt (cs.dropN (q * 5)) = wt (rowU cs 5 q) + wt (cs.dropN ((q + 1) * 5)) := by rw [UD.drop_row cs 5 q, wt_app]
      have hsz := uszD_row cs 5 q
      obtain ⟨xs, hh, hcl⟩ := hr.hand
      have Hcon : Hid (∀ wx, Below wr.heap.size wr wx → Calls Try.prog 206 #[.agg xs.toArray, .int .i64 x] wx fun e w' => e = .returned (.int .i64 (leftI x (wt (rowU cs 5 q)))) ∧ Below wx.heap.size wx w') := fun wx hb => uszValue_of (lo := lo) (hi := hi) _ _ x wx (fun n4 c4 x4 l wy hlt ht4 q0 q1 hs4 => HI.out n4 c4 x4 l wy (by omega) ht4 q0 q1 hs4) htr (hh.below hb) hx0 hx1
      obtain ⟨z0, z1, z2, n3, c3, n4, c4, hR, g0, g1, g2, g3, g4⟩ := partsValue htr
      rw [hR] at hh
      obtain ⟨_, rfl, ⟨_, rfl, ⟨_, rfl, ⟨v3, _, rfl, s3, ⟨v4, _, rfl, s4, rfl⟩⟩⟩⟩⟩ := hh
      obtain ⟨a3, p3, rfl, t3⟩ := s3
      obtain ⟨a4, p4, rfl, t4⟩ := s4
      have q0 : wr.cell? ⟨b, off + q * 5, none⟩ = some (.int .i64 z0) := hcl 0 _ rfl
      have q1 : wr.cell? ⟨b, off + q * 5 + 1, none⟩ = some (.string z1) := hcl 1 _ rfl
      have q2 : wr.cell? ⟨b, off + q * 5 + 2, none⟩ = some (.int .i64 z2) := hcl 2 _ rfl
      have q3 : wr.cell? ⟨b, off + q * 5 + 3, none⟩ = some (.slice a3 n3 p3) := hcl 3 _ rfl
      have q4 : wr.cell? ⟨b, off + q * 5 + 4, none⟩ = some (.slice a4 n4 p4) := hcl 4 _ rfl
      clear hR hcl hr hm htr hsz g0 g1 g2 g3 g4 t3 t4
      generalize wt (rowU cs 5 q) = m at *
      have hneg0 := fun h => leftI_neg (x := x) (a := m) (wt (cs.dropN ((q + 1) * 5))) hx0 h
      have hpos0 := fun h => leftI_pos (x := x) (a := m) (wt (cs.dropN ((q + 1) * 5))) h
      have hle0 : leftI x m ≤ x := by unfold leftI; split <;> omega
      generalize leftI x m = y at *
      by_cases hneg : y < 0
      · have hr : Hid (leftI left (n + wt cs) = -1) := by show _ = _; rw [Hs.out, hw]; exact hneg0 hneg
        clear hw Hs E hneg0 hpos0
        go_wp2_with fail
        refine (Hcon.out _ (by repeat (first | exact Below.refl _ _ | refine Below.alloc ?_ (by simp) _))).mono ?_
        rintro e w1 ⟨rfl, hb⟩
        go_wp2
        go_ret
        exact ⟨ret_intU hr.out.symm, hbw.trans (hb.mono hbw.size)⟩
      · have hr : Hid (leftI left (n + wt cs) = leftI y (wt (cs.dropN ((q + 1) * 5)))) := by
          show _ = _
          rw [Hs.out, hw]; exact (hpos0 hneg).1
        clear hw Hs E hneg0 hpos0
        go_wp2_with fail
        refine (Hcon.out _ (by repeat (first | exact Below.refl _ _ | refine Below.alloc ?_ (by simp) _))).mono ?_
        rintro e w1 ⟨rfl, hb⟩
        go_wp2
        go_roundw
        case rel => exact ⟨q + 1, _, by omega, by go_num, rfl, by omega, by omega, hr, hbw.trans (hb.mono hbw.size)⟩
        case measure => simp [intOf]; omega
    · have e : q = n := by omega
      subst e
      have hr : Hid (leftI left (q + wt cs) = x) := by
        show _ = _
        rw [Hs.out, ← Ht.out.2.2.2.1, UD.dropN_all]
        exact leftI_zero hx0
      clear Hs E
      go_wp2
      go_ret
      exact ⟨ret_intU hr.out.symm, hbw⟩
theorem uszValueS_any {lo hi : Nat} (n : Nat) (cs : UD) (c : Value) (left : Int) (w : World) (ht : tyS 5 n cs 6) (h0 : 0 ≤ left) (h1 : left ≤ 1048576) (hx : uS w lo hi 5 n cs c) :
    Calls Try.prog 233 #[c, .int .i64 left] w fun e w' => e = .returned (.int .i64 (leftI left (n + wt cs))) ∧ Below w.heap.size w w' := uszValueS_N (uszD cs + 1) n cs c left w (by omega) ht h0 h1 hx
theorem uszValue_any {lo hi : Nat} (d : UD) (xs : List Value) (left : Int) (w : World) (ht : tyL d (uE 6)) (hx : uH w lo hi d xs) (h0 : 0 ≤ left) (h1 : left ≤ 1048576) :
    Calls Try.prog 206 #[.agg xs.toArray, .int .i64 left] w fun e w' => e = .returned (.int .i64 (leftI left (wt d))) ∧ Below w.heap.size w w' := uszValue_of d xs left w (fun n4 c4 x4 l wx _ ht4 q0 q1 hs => uszValueS_any n4 c4 x4 l wx ht4 q0 q1 hs) ht hx h0 h1
set_option maxHeartbeats 800000 in
theorem ueqValue_of {lo hi lo' hi' : Nat} (d : UD) (xs ys : List Value) (w : World) (ih : ∀ (n4 : Nat) (c4 : UD) (x4 y4 : Value) (wx : World), uszD c4 < uszD d → tyS 5 n4 c4 6 → uS wx lo hi 5 n4 c4 x4 → uS wx lo' hi' 5 n4 c4 y4 → Calls Try.prog 230 #[x4, y4] wx fun e w' => e = .returned (.bool true) ∧ Below wx.heap.size wx w') (ht : tyL d (uE 6)) (hx : uH w lo hi d xs) (hy : uH w lo' hi' d ys) :
    Calls Try.prog 198 #[.agg xs.toArray, .agg ys.toArray] w fun e w' => e = .returned (.bool true) ∧ Below w.heap.size w w' := by
  obtain ⟨z0, z1, z2, n3, c3, n4, c4, rfl, g0, g1, g2, g3, g4⟩ := partsValue ht
  obtain ⟨_, rfl, ⟨_, rfl, ⟨_, rfl, ⟨v3l, _, rfl, s3l, ⟨v4l, _, rfl, s4l, rfl⟩⟩⟩⟩⟩ := hx
  obtain ⟨a3l, p3l, rfl, t3l⟩ := s3l
  obtain ⟨a4l, p4l, rfl, t4l⟩ := s4l
  obtain ⟨_, rfl, ⟨_, rfl, ⟨_, rfl, ⟨v3r, _, rfl, s3r, ⟨v4r, _, rfl, s4r, rfl⟩⟩⟩⟩⟩ := hy
  obtain ⟨a3r, p3r, rfl, t3r⟩ := s3r
  obtain ⟨a4r, p4r, rfl, t4r⟩ := s4r
  have HC0 : Hid (∀ wx : World, Below w.heap.size w wx → Calls Try.prog 52 #[.slice a3l n3 p3l, .slice a3r n3 p3r] wx fun e w' => e = .returned (.bool true) ∧ Below wx.heap.size wx w') := fun wx hb => ueqStringS_any (lo := lo) (hi := hi) (lo' := lo') (hi' := hi') n3 c3 _ _ wx g3 ((show uS w lo hi 1 n3 c3 (.slice a3l n3 p3l) from ⟨_, _, rfl, t3l⟩).below hb) ((show uS w lo' hi' 1 n3 c3 (.slice a3r n3 p3r) from ⟨_, _, rfl, t3r⟩).below hb)
  have HC1 : Hid (∀ wx : World, Below w.heap.size w wx → Calls Try.prog 230 #[.slice a4l n4 p4l, .slice a4r n4 p4r] wx fun e w' => e = .returned (.bool true) ∧ Below wx.heap.size wx w') := fun wx hb => ih n4 c4 _ _ wx (by simp only [uszD]; omega) g4 ((show uS w lo hi 5 n4 c4 (.slice a4l n4 p4l) from ⟨_, _, rfl, t4l⟩).below hb) ((show uS w lo' hi' 5 n4 c4 (.slice a4r n4 p4r) from ⟨_, _, rfl, t4r⟩).below hb)
  have e0 : (z0 != z0) = false := by simp
  have e1 : (z1.toList == z1.toList) = true := by simp
  have e2 : (z2 != z2) = false := by simp
  have HB : Hid (∀ o o', Below w.heap.size w ((w.alloc o).alloc o')) := fun o o' => ((Below.refl _ _).alloc (Nat.le_refl _) _).alloc (by simp) _
  clear g0 g1 g2 g3 g4 t3l t3r t4l t4r ih
  go_enter Try.func198, Try.ntmps198
  go_wp2_with fail
  refine (HC0.out _ (HB.out _ _)).mono ?_
  rintro e w1 ⟨rfl, hb1⟩
  have b4 : w1.cell? ⟨w.heap.size, 4, none⟩ = some (.slice a4l n4 p4l) := (hb1.cell (p := ⟨w.heap.size, 4, none⟩) (by simp <;> omega)).trans (by simp [go_sem])
  have d4 : w1.cell? ⟨w.heap.size + 1, 4, none⟩ = some (.slice a4r n4 p4r) := (hb1.cell (p := ⟨w.heap.size + 1, 4, none⟩) (by simp <;> omega)).trans (by simp [go_sem])
  have B1 : Hid (Below w.heap.size w w1) := (HB.out _ _).trans (hb1.mono (by simp; omega))
  clear hb1
  go_wp2_with fail
  refine (HC1.out _ B1.out).mono ?_
  rintro e w2 ⟨rfl, hb2⟩
  have B2 : Hid (Below w.heap.size w w2) := B1.out.trans (hb2.mono B1.out.size)
  clear hb2
  go_wp2
  go_ret
  exact ⟨rfl, B2.out⟩
set_option maxHeartbeats 800000 in
theorem ueqValueS_N {lo hi lo' hi' : Nat} : ∀ (N : Nat) (n : Nat) (cs : UD) (c c' : Value) (w : World), uszD cs < N → tyS 5 n cs 6 → uS w lo hi 5 n cs c → uS w lo' hi' 5 n cs c' →
    Calls Try.prog 230 #[c, c'] w fun e w' => e = .returned (.bool true) ∧ Below w.heap.size w w' := by
  intro N
  induction N with
  | zero => intro n cs c c' w hN; omega
  | succ N ihN =>
  intro n cs c c' w hN ht hx hy
  have HI := uhide ihN
  clear ihN
  obtain ⟨a, cap, rfl, hx2⟩ := hx
  obtain ⟨a', cap', rfl, hy2⟩ := hy
  have Hx : Hid (uS w lo hi 5 n cs (.slice a n cap)) := ⟨a, cap, rfl, hx2⟩
  have Hy : Hid (uS w lo' hi' 5 n cs (.slice a' n cap')) := ⟨a', cap', rfl, hy2⟩
  have hmx := ht.2.2.1
  unfold maxLen at hmx
  have Ht := uhide ht
  have hb0 : ((n : Int) != (n : Int)) = false := by simp
  clear hx2 hy2 ht
  go_enter Try.func230, Try.ntmps230
  go_wp2
  go_loopw [5] (fun i wr => ∃ (q : Nat), q ≤ n ∧ i = .int .i64 q ∧ Below w.heap.size w wr) (fun i _ => n - (intOf i).toNat)
  case atStart => exact ⟨0, Nat.zero_le _, rfl, Below.refl _ _⟩
  case round =>
    obtain ⟨q, hq, rfl, hbw⟩ := hrel
    by_cases hlt : q < n
    · obtain ⟨b, off, rfl, hbb, hm⟩ := (Hx.out.below hbw).cells (by omega)
      obtain ⟨b', off', rfl, hbb', hm'⟩ := (Hy.out.below hbw).cells (by omega)
      have htr := Ht.out.row hlt
      have hsz := uszD_row cs 5 q
      obtain ⟨xs, hh, hcl⟩ := (hm.row 5 q).hand
      obtain ⟨ys, hh', hcl'⟩ := (hm'.row 5 q).hand
      have Hcon : Hid (∀ wx, Below wr.heap.size wr wx → Calls Try.prog 198 #[.agg xs.toArray, .agg ys.toArray] wx fun e w' => e = .returned (.bool true) ∧ Hid (Below w.heap.size w w')) := fun wx hb => (ueqValue_of (lo := lo) (hi := hi) (lo' := lo') (hi' := hi') _ _ _ wx (fun n4 c4 x4 y4 wy hlt ht4 s1 s2 => HI.out n4 c4 x4 y4 wy (by omega) ht4 s1 s2) htr (hh.below hb) (hh'.below hb)).mono fun e w' h => ⟨h.1, (hbw.trans (hb.mono hbw.size)).trans (h.2.mono (Nat.le_trans hbw.size hb.size))⟩
      obtain ⟨z0, z1, z2, n3, c3, n4, c4, hR, g0, g1, g2, g3, g4⟩ := partsValue htr
      rw [hR] at hh hh'
      obtain ⟨_, rfl, ⟨_, rfl, ⟨_, rfl, ⟨v3l, _, rfl, s3l, ⟨v4l, _, rfl, s4l, rfl⟩⟩⟩⟩⟩ := hh
      obtain ⟨a3l, p3l, rfl, t3l⟩ := s3l
      obtain ⟨a4l, p4l, rfl, t4l⟩ := s4l
      obtain ⟨_, rfl, ⟨_, rfl, ⟨_, rfl, ⟨v3r, _, rfl, s3r, ⟨v4r, _, rfl, s4r, rfl⟩⟩⟩⟩⟩ := hh'
      obtain ⟨a3r, p3r, rfl, t3r⟩ := s3r
      obtain ⟨a4r, p4r, rfl, t4r⟩ := s4r
      have q0 : wr.cell? ⟨b, off + q * 5, none⟩ = some (.int .i64 z0) := hcl 0 _ rfl
      have q1 : wr.cell? ⟨b, off + q * 5 + 1, none⟩ = some (.string z1) := hcl 1 _ rfl
      have q2 : wr.cell? ⟨b, off + q * 5 + 2, none⟩ = some (.int .i64 z2) := hcl 2 _ rfl
      have q3 : wr.cell? ⟨b, off + q * 5 + 3, none⟩ = some (.slice a3l n3 p3l) := hcl 3 _ rfl
      have q4 : wr.cell? ⟨b, off + q * 5 + 4, none⟩ = some (.slice a4l n4 p4l) := hcl 4 _ rfl
      have r0 : wr.cell? ⟨b', off' + q * 5, none⟩ = some (.int .i64 z0) := hcl' 0 _ rfl
      have r1 : wr.cell? ⟨b', off' + q * 5 + 1, none⟩ = some (.string z1) := hcl' 1 _ rfl
      have r2 : wr.cell? ⟨b', off' + q * 5 + 2, none⟩ = some (.int .i64 z2) := hcl' 2 _ rfl
      have r3 : wr.cell? ⟨b', off' + q * 5 + 3, none⟩ = some (.slice a3r n3 p3r) := hcl' 3 _ rfl
      have r4 : wr.cell? ⟨b', off' + q * 5 + 4, none⟩ = some (.slice a4r n4 p4r) := hcl' 4 _ rfl
      clear hR hcl hcl' hm hm' htr hsz g0 g1 g2 g3 g4 t3l t3r t4l t4r
      clear Hx Hy Ht
      go_wp2
      go_region_with (go_at_call 198; refine (Hcon.out _ (by repeat (first | exact Below.refl _ _ | refine Below.drew ?_ | refine below_drewN ?_ _))).mono ?_; rintro e w2 ⟨rfl, hb2⟩)
      all_goals go_wp2
      all_goals (
        go_roundw
        case rel => exact ⟨q + 1, by omega, by go_num, by repeat (first | exact hb2.out | refine Below.drew ?_ | refine below_drewN ?_ _)⟩
        case measure => simp [intOf]; omega)
    · have e : q = n := by omega
      subst e
      go_wp2
      go_ret
      exact ⟨rfl, hbw⟩
theorem ueqValueS_any {lo hi lo' hi' : Nat} (n : Nat) (cs : UD) (c c' : Value) (w : World) (ht : tyS 5 n cs 6) (hx : uS w lo hi 5 n cs c) (hy : uS w lo' hi' 5 n cs c') :
    Calls Try.prog 230 #[c, c'] w fun e w' => e = .returned (.bool true) ∧ Below w.heap.size w w' := ueqValueS_N (uszD cs + 1) n cs c c' w (by omega) ht hx hy
theorem ueqValue_any {lo hi lo' hi' : Nat} (d : UD) (xs ys : List Value) (w : World) (ht : tyL d (uE 6)) (hx : uH w lo hi d xs) (hy : uH w lo' hi' d ys) :
    Calls Try.prog 198 #[.agg xs.toArray, .agg ys.toArray] w fun e w' => e = .returned (.bool true) ∧ Below w.heap.size w w' := ueqValue_of d xs ys w (fun n4 c4 x4 y4 wx _ ht4 s1 s2 => ueqValueS_any n4 c4 x4 y4 wx ht4 s1 s2) ht hx hy
set_option maxHeartbeats 1600000 in
theorem uheldValueS_N {lo hi : Nat} : ∀ (N : Nat) (n k0 : Nat) (cs : UD) (c : Value) (w : World), uszD cs < N → tyS 5 n cs 6 → 1 ≤ k0 → k0 + cnt cs ≤ 100000000 → uS w lo hi 5 n (mk cs k0) c →
    Calls Try.prog 137 #[c, .int .i64 k0] w fun e w' => e = .returned (.int .i64 (k0 + cnt cs : Nat)) ∧ Below w.heap.size w w' := by
  intro N
  induction N with
  | zero => intro n k0 cs c w hN; omega
  | succ N ihN =>
  intro n k0 cs c w hN ht hk0 hk1 hx
  have HI := uhide ihN
  clear ihN
  obtain ⟨a, cap, rfl, hx2⟩ := hx
  have Hx : Hid (uS w lo hi 5 n (mk cs k0) (.slice a n cap)) := ⟨a, cap, rfl, hx2⟩
  have hmx := ht.2.2.1
  unfold maxLen at hmx
  have Ht := uhide ht
  have Hkk : Hid (∀ q, k0 + cnt (cs.takeN (q * 5)) ≤ 100000000) := fun q => by have := cnt_le cs (q * 5); omega
  clear hx2 ht
  go_enter Try.func137, Try.ntmps137
  go_wp2
  go_loopw [1, 5] (fun s i wr => ∃ (q : Nat), q ≤ n ∧ i = .int .i64 q ∧ s = .int .i64 (k0 + cnt (cs.takeN (q * 5)) : Nat) ∧ Below w.heap.size w wr) (fun _ i _ => n - (intOf i).toNat)
  case atStart => exact ⟨0, Nat.zero_le _, rfl, by rw [Nat.zero_mul]; rfl, Below.refl _ _⟩
  case round =>
    obtain ⟨q, hq, rfl, rfl, hbw⟩ := hrel
    by_cases hlt : q < n
    · obtain ⟨b, off, rfl, hbb, hm⟩ := (Hx.out.below hbw).cells (by omega)
      have htr := Ht.out.row hlt
      have hsz := uszD_row cs 5 q
      have hkn := cnt_row cs 5 q
      have hkb := Hkk.out (q + 1)
      have hkr := hkn
      have hrow := hm.row 5 q
      rw [mk_row] at hrow
      obtain ⟨z0, z1, z2, n3, c3, n4, c4, hR, g0, g1, g2, g3, g4⟩ := partsValue htr
      rw [hR] at hrow hkn hsz
      simp only [cnt, Nat.add_zero] at hkn
      obtain ⟨xs, hh, hcl⟩ := hrow.hand
      obtain ⟨_, rfl, ⟨_, rfl, ⟨_, rfl, ⟨v3, _, rfl, s3, ⟨v4, _, rfl, s4, rfl⟩⟩⟩⟩⟩ := hh
      obtain ⟨a3, p3, rfl, t3⟩ := s3
      obtain ⟨a4, p4, rfl, t4⟩ := s4
      generalize hKd : k0 + cnt (cs.takeN (q * 5)) = kq at *
      have hK0 : 1 ≤ kq := by omega
      have hend : k0 + cnt (cs.takeN ((q + 1) * 5)) = (((((kq + 1) + 1) + 1) + cnt c3) + cnt c4) := by rw [hkn]; omega
      rw [hend] at hkb
      have q0 : wr.cell? ⟨b, off + q * 5, none⟩ = some (.int .i64 (kq : Nat)) := (show wr.cell? ⟨b, off + q * 5, none⟩ = _ from hcl 0 _ rfl).trans (congrArg some (mkP_int _ _ (by omega)))
      have q1 : wr.cell? ⟨b, off + q * 5 + 1, none⟩ = some (.string (umtx (kq + 1))) := hcl 1 _ rfl
      have q2 : wr.cell? ⟨b, off + q * 5 + 2, none⟩ = some (.int .i64 (((kq + 1) + 1) : Nat)) := (show wr.cell? ⟨b, off + q * 5 + 2, none⟩ = _ from hcl 2 _ rfl).trans (congrArg some (mkP_int _ _ (by omega)))
      have q3 : wr.cell? ⟨b, off + q * 5 + 3, none⟩ = some (.slice a3 n3 p3) := hcl 3 _ rfl
      have q4 : wr.cell? ⟨b, off + q * 5 + 4, none⟩ = some (.slice a4 n4 p4) := hcl 4 _ rfl
      have HQ : Hid (∀ wx, Below wr.heap.size wr wx → wx.cell? ⟨b, off + q * 5, none⟩ = some (.int .i64 (kq : Nat)) ∧ wx.cell? ⟨b, off + q * 5 + 1, none⟩ = some (.string (umtx (kq + 1))) ∧ wx.cell? ⟨b, off + q * 5 + 2, none⟩ = some (.int .i64 (((kq + 1) + 1) : Nat)) ∧ wx.cell? ⟨b, off + q * 5 + 3, none⟩ = some (.slice a3 n3 p3) ∧ wx.cell? ⟨b, off + q * 5 + 4, none⟩ = some (.slice a4 n4 p4)) := fun wx hb => ⟨(hb.cell (p := ⟨b, off + q * 5, none⟩) hbb).trans q0, (hb.cell (p := ⟨b, off + q * 5 + 1, none⟩) hbb).trans q1, (hb.cell (p := ⟨b, off + q * 5 + 2, none⟩) hbb).trans q2, (hb.cell (p := ⟨b, off + q * 5 + 3, none⟩) hbb).trans q3, (hb.cell (p := ⟨b, off + q * 5 + 4, none⟩) hbb).trans q4⟩
      have HC1 : Hid (∀ (wx : World) (x : Int), Below wr.heap.size wr wx → x = (((kq + 1) : Nat) : Int) → Calls Try.prog 129 #[.int .i64 x] wx fun e w' => e = .returned (.string (umtx (kq + 1))) ∧ Hid (Below wr.heap.size wr w')) := fun wx x hb hx => by rw [hx]; exact (umarkText_any _ wx (by omega) (by omega)).mono fun e w' h => ⟨h.1, hb.trans (h.2.mono hb.size)⟩
      have HC3 : Hid (∀ (wx : World) (x : Int), Below wr.heap.size wr wx → x = (((((kq + 1) + 1) + 1) : Nat) : Int) → Calls Try.prog 60 #[.slice a3 n3 p3, .int .i64 x] wx fun e w' => e = .returned (.int .i64 (((((kq + 1) + 1) + 1) + cnt c3 : Nat))) ∧ Hid (Below wr.heap.size wr w')) := fun wx x hb hx => by rw [hx]; exact (uheldStringS_any (lo := lo) (hi := hi) n3 (((kq + 1) + 1) + 1) c3 _ wx g3 (by omega) (by omega) ((show uS wr lo hi 1 n3 (mk c3 (((kq + 1) + 1) + 1)) (.slice a3 n3 p3) from ⟨_, _, rfl, t3⟩).below hb)).mono fun e w' h => ⟨h.1, hb.trans (h.2.mono hb.size)⟩
      have HC4 : Hid (∀ (wx : World) (x : Int), Below wr.heap.size wr wx → x = ((((((kq + 1) + 1) + 1) + cnt c3) : Nat) : Int) → Calls Try.prog 137 #[.slice a4 n4 p4, .int .i64 x] wx fun e w' => e = .returned (.int .i64 ((((((kq + 1) + 1) + 1) + cnt c3) + cnt c4 : Nat))) ∧ Hid (Below wr.heap.size wr w')) := fun wx x hb hx => by rw [hx]; exact (HI.out n4 ((((kq + 1) + 1) + 1) + cnt c3) c4 _ wx (by simp only [uszD] at hsz; omega) g4 (by omega) (by omega) ((show uS wr lo hi 5 n4 (mk c4 ((((kq + 1) + 1) + 1) + cnt c3)) (.slice a4 n4 p4) from ⟨_, _, rfl, t4⟩).below hb)).mono fun e w' h => ⟨h.1, hb.trans (h.2.mono hb.size)⟩
      have HN := uhide hend
      clear hR hcl hm htr hsz hkn hkr hrow hend hKd Hx Ht Hkk g0 g1 g2 g3 g4 t3 t4
      generalize umtx (kq + 1) = M1 at *
      have E1 : (M1.toList == M1.toList) = true := by simp
      generalize cnt c3 = m3 at *
      generalize cnt c4 = m4 at *
      have hbq : Hid (Below wr.heap.size wr wr) := Below.refl _ _
      go_wp2
      go_region_with (go_at_call 129; refine (HC1.out _ _ (by repeat (first | assumption | exact Below.refl _ _ | exact hbq.out | refine Below.drew ?_ | refine below_drewN ?_ _)) (by omega)).mono ?_; rintro e1 w2 ⟨rfl, hb2⟩; obtain ⟨q0, q1, q2, q3, q4⟩ := HQ.out _ hb2.out)
      all_goals (
        replace hbq := hb2
        go_wp2_with fail
        refine (HC3.out _ _ (by repeat (first | assumption | exact Below.refl _ _ | exact hbq.out | refine Below.drew ?_ | refine below_drewN ?_ _)) (by omega)).mono ?_
        rintro e1 w6 ⟨rfl, hbn3⟩
        obtain ⟨q0, q1, q2, q3, q4⟩ := HQ.out _ hbn3.out
        replace hbq := hbn3
        go_wp2_with fail
        refine (HC4.out _ _ (by repeat (first | assumption | exact Below.refl _ _ | exact hbq.out | refine Below.drew ?_ | refine below_drewN ?_ _)) (by omega)).mono ?_
        rintro e1 w7 ⟨rfl, hbn4⟩
        obtain ⟨q0, q1, q2, q3, q4⟩ := HQ.out _ hbn4.out
        replace hbq := hbn4
        go_wp2
        go_roundw
        case rel => exact ⟨q + 1, by omega, by go_num, by rw [HN.out]; go_num, hbw.trans ((show Below wr.heap.size wr _ from (by repeat (first | assumption | exact Below.refl _ _ | exact hbq.out | refine Below.drew ?_ | refine below_drewN ?_ _))).mono hbw.size)⟩
        case measure => (simp [intOf]; omega))
    · have e : q = n := by omega
      subst e
      have hl : cs.takeN (q * 5) = cs := by apply UD.ext; unfold UD.takeN; rw [UD.toL_ofL]; exact List.take_of_length_le (Nat.le_of_eq Ht.out.2.2.2.1)
      rw [hl]
      clear hl Ht Hkk Hx
      go_wp2
      go_ret
      exact ⟨rfl, hbw⟩
theorem uheldValueS_any {lo hi : Nat} (n k0 : Nat) (cs : UD) (c : Value) (w : World) (ht : tyS 5 n cs 6) (hk0 : 1 ≤ k0) (hk1 : k0 + cnt cs ≤ 100000000) (hx : uS w lo hi 5 n (mk cs k0) c) :
    Calls Try.prog 137 #[c, .int .i64 k0] w fun e w' => e = .returned (.int .i64 (k0 + cnt cs : Nat)) ∧ Below w.heap.size w w' := uheldValueS_N (uszD cs + 1) n k0 cs c w (by omega) ht hk0 hk1 hx
set_option maxHeartbeats 1600000 in
theorem umarkValueS_N : ∀ (N : Nat) (n k0 : Nat) (cs : UD) (c : Value) (S : List Nat) (w : World), uszD cs < N → tyS 5 n cs 6 → S.Nodup → 1 ≤ k0 → k0 + cnt cs ≤ 100000000 → oS w 5 n cs c S →
    Calls Try.prog 132 #[c, .int .i64 k0] w fun e w' => e = .returned (.int .i64 (k0 + cnt cs : Nat)) ∧ oS w' 5 n (mk cs k0) c S ∧ OutS S w w' := by
  intro N
  induction N with
  | zero => intro n k0 cs c S w hN; omega
  | succ N ihN =>
  intro n k0 cs c S w hN ht hnd hk0 hk1 hx
  have HI := uhide ihN
  clear ihN
  obtain ⟨a, cap, rfl⟩ := hx.slice
  have hmx := ht.2.2.1
  unfold maxLen at hmx
  rcases Nat.eq_zero_or_pos n with h0 | hpos
  · subst h0
    obtain ⟨e1, e2⟩ := hx.empty rfl k0
    rw [e1, e2]
    have Hx := uhide hx
    clear hx ht hnd e1 e2
    go_enter Try.func132, Try.ntmps132
    go_wp2
    go_loopw [1, 5] (fun s i wr => i = .int .i64 0 ∧ s = .int .i64 k0 ∧ wr = w) (fun _ _ _ => 0)
    case atStart => exact ⟨rfl, rfl, rfl⟩
    case round =>
      obtain ⟨rfl, rfl, rfl⟩ := hrel
      go_wp2
      go_ret
      exact ⟨rfl, Hx.out, OutS.refl _ _⟩
  obtain ⟨e, g, S1, xs0, M0, rfl, hp0, hl0⟩ := MS.start hx hnd hpos k0
  obtain ⟨cap, h1, hgl⟩ := M0.own
  cases h1
  have M0 := uhide M0
  have Ht := uhide ht
  have Hp0 := uhide hp0
  have Hl0 := uhide hl0
  have Hkk : Hid (∀ q, k0 + cnt (cs.takeN (q * 5)) ≤ 100000000) := fun q => by have := cnt_le cs (q * 5); omega
  clear hx ht hnd hp0 hl0
  go_enter Try.func132, Try.ntmps132
  go_wp2
  go_loopw [1, 5] (fun s i wr => ∃ (q : Nat), q ≤ n ∧ i = .int .i64 q ∧ s = .int .i64 (k0 + cnt (cs.takeN (q * 5)) : Nat) ∧ Hid (MS w wr e 5 n (.slice (some ⟨g, 0, none⟩) n cap) g cs k0 S1 xs0 (q * 5))) (fun _ i _ => n - (intOf i).toNat)
  case atStart => exact ⟨0, Nat.zero_le _, rfl, by rw [Nat.zero_mul]; rfl, by rw [Nat.zero_mul]; exact M0⟩
  case round =>
    clear M0
    obtain ⟨q, hq, rfl, rfl, HM⟩ := hrel
    by_cases hlt : q < n
    · have htr := Ht.out.row hlt
      have hsz := uszD_row cs 5 q
      have hkn := cnt_row cs 5 q
      have hkb := Hkk.out (q + 1)
      obtain ⟨z0, z1, z2, n3, c3, n4, c4, hR, g0, g1, g2, g3, g4⟩ := partsValue htr
      rw [hR] at hkn hsz
      simp only [cnt, Nat.add_zero] at hkn
      obtain ⟨kq, hkq⟩ : ∃ kq, k0 + cnt (cs.takeN (q * 5)) = kq := ⟨_, rfl⟩
      have hK0 : 1 ≤ kq := by omega
      have hend : k0 + cnt (cs.takeN ((q + 1) * 5)) = (((((kq + 1) + 1) + 1) + cnt c3) + cnt c4) := by rw [hkn]; omega
      rw [hend] at hkb
      have at0 : cs.at? (q * 5) = some (.p (.int .i64 z0)) := by rw [show q * 5 = q * 5 + 0 from rfl]; rw [← rowU_at cs 5 q 0 (by omega), hR]; rfl
      have ct0 : k0 + cnt (cs.takeN (q * 5)) = kq := by exact hkq
      have x0 := Hp0.out _ _ at0
      have at1 : cs.at? (q * 5 + 1) = some (.p (.string z1)) := by rw [← rowU_at cs 5 q 1 (by omega), hR]; rfl
      have ct1 : k0 + cnt (cs.takeN (q * 5 + 1)) = (kq + 1) := by rw [cnt_at cs 5 q 1 (by omega), hR]; show k0 + (cnt (cs.takeN (q * 5)) + cnt (.p (.int .i64 z0) .nil)) = _; simp only [cnt]; omega
      have x1 := Hp0.out _ _ at1
      have at2 : cs.at? (q * 5 + 2) = some (.p (.int .i64 z2)) := by rw [← rowU_at cs 5 q 2 (by omega), hR]; rfl
      have ct2 : k0 + cnt (cs.takeN (q * 5 + 2)) = ((kq + 1) + 1) := by rw [cnt_at cs 5 q 2 (by omega), hR]; show k0 + (cnt (cs.takeN (q * 5)) + cnt (.p (.int .i64 z0) (.p (.string z1) .nil))) = _; simp only [cnt]; omega
      have x2 := Hp0.out _ _ at2
      have at3 : cs.at? (q * 5 + 3) = some (.l 1 n3 c3) := by rw [← rowU_at cs 5 q 3 (by omega), hR]; rfl
      have ct3 : k0 + cnt (cs.takeN (q * 5 + 3)) = (((kq + 1) + 1) + 1) := by rw [cnt_at cs 5 q 3 (by omega), hR]; show k0 + (cnt (cs.takeN (q * 5)) + cnt (.p (.int .i64 z0) (.p (.string z1) (.p (.int .i64 z2) .nil)))) = _; simp only [cnt]; omega
      obtain ⟨a3, p3, x3⟩ := Hl0.out _ _ _ _ at3
      have at4 : cs.at? (q * 5 + 4) = some (.l 5 n4 c4) := by rw [← rowU_at cs 5 q 4 (by omega), hR]; rfl
      have ct4 : k0 + cnt (cs.takeN (q * 5 + 4)) = ((((kq + 1) + 1) + 1) + cnt c3) := by rw [cnt_at cs 5 q 4 (by omega), hR]; show k0 + (cnt (cs.takeN (q * 5)) + cnt (.p (.int .i64 z0) (.p (.string z1) (.p (.int .i64 z2) (.l 1 n3 c3 .nil))))) = _; simp only [cnt]; omega
      obtain ⟨a4, p4, x4⟩ := Hl0.out _ _ _ _ at4
      have HP0 : Hid (∀ (wx : World) (u : Value), MS w wx e 5 n (.slice (some ⟨g, 0, none⟩) n cap) g cs k0 S1 xs0 (q * 5) → u = .int .i64 (kq : Nat) → MS w (wx.setCell ⟨g, q * 5, none⟩ u) e 5 n (.slice (some ⟨g, 0, none⟩) n cap) g cs k0 S1 xs0 (q * 5 + 1)) := fun wx u h hu => h.plain at0 (hu.trans (by rw [ct0, mkP_int _ _ (by omega)]))
      have HP1 : Hid (∀ (wx : World) (u : Value), MS w wx e 5 n (.slice (some ⟨g, 0, none⟩) n cap) g cs k0 S1 xs0 (q * 5 + 1) → u = .string (umtx (kq + 1)) → MS w (wx.setCell ⟨g, q * 5 + 1, none⟩ u) e 5 n (.slice (some ⟨g, 0, none⟩) n cap) g cs k0 S1 xs0 (q * 5 + 2)) := fun wx u h hu => h.plain at1 (hu.trans (by rw [ct1]; rfl))
      have HT1 : Hid (∀ (wx : World) (x : Int), x = (((kq + 1) : Nat) : Int) → Calls Try.prog 129 #[.int .i64 x] wx fun e1 w' => e1 = .returned (.string (umtx (kq + 1))) ∧ Below wx.heap.size wx w') := fun wx x hx => by rw [hx]; exact umarkText_any _ wx (by omega) (by omega)
      have HP2 : Hid (∀ (wx : World) (u : Value), MS w wx e 5 n (.slice (some ⟨g, 0, none⟩) n cap) g cs k0 S1 xs0 (q * 5 + 2) → u = .int .i64 (((kq + 1) + 1) : Nat) → MS w (wx.setCell ⟨g, q * 5 + 2, none⟩ u) e 5 n (.slice (some ⟨g, 0, none⟩) n cap) g cs k0 S1 xs0 (q * 5 + 3)) := fun wx u h hu => h.plain at2 (hu.trans (by rw [ct2, mkP_int _ _ (by omega)]))
      have HC3 : Hid (∀ (wx : World) (x : Int), MS w wx e 5 n (.slice (some ⟨g, 0, none⟩) n cap) g cs k0 S1 xs0 (q * 5 + 3) → x = (((((kq + 1) + 1) + 1) : Nat) : Int) → Calls Try.prog 56 #[.slice a3 n3 p3, .int .i64 x] wx fun e1 w' => e1 = .returned (.int .i64 (((((kq + 1) + 1) + 1) + cnt c3 : Nat))) ∧ Hid (MS w w' e 5 n (.slice (some ⟨g, 0, none⟩) n cap) g cs k0 S1 xs0 (q * 5 + 4))) := by
        intro wx x h hxx
        rw [hxx]
        obtain ⟨c', T, q1, q2, q3, q5⟩ := h.part at3
        rw [x3] at q1
        cases q1
        rw [ct3] at q5
        exact (umarkStringS_any n3 (((kq + 1) + 1) + 1) c3 _ T wx g3 q3 (by omega) (by omega) q2).mono fun e1 w' h => ⟨h.1, q5 w' h.2.2 h.2.1⟩
      have HC4 : Hid (∀ (wx : World) (x : Int), MS w wx e 5 n (.slice (some ⟨g, 0, none⟩) n cap) g cs k0 S1 xs0 (q * 5 + 4) → x = ((((((kq + 1) + 1) + 1) + cnt c3) : Nat) : Int) → Calls Try.prog 132 #[.slice a4 n4 p4, .int .i64 x] wx fun e1 w' => e1 = .returned (.int .i64 ((((((kq + 1) + 1) + 1) + cnt c3) + cnt c4 : Nat))) ∧ Hid (MS w w' e 5 n (.slice (some ⟨g, 0, none⟩) n cap) g cs k0 S1 xs0 (q * 5 + 5))) := by
        intro wx x h hxx
        rw [hxx]
        obtain ⟨c', T, q1, q2, q3, q5⟩ := h.part at4
        rw [x4] at q1
        cases q1
        rw [ct4] at q5
        exact (HI.out n4 ((((kq + 1) + 1) + 1) + cnt c3) c4 _ T wx (by simp only [uszD] at hsz; omega) g4 q3 (by omega) (by omega) q2).mono fun e1 w' h => ⟨h.1, q5 w' h.2.2 h.2.1⟩
      have HQ0 : Hid (∀ wx, MS w wx e 5 n (.slice (some ⟨g, 0, none⟩) n cap) g cs k0 S1 xs0 (q * 5) → wx.cell? ⟨g, q * 5, none⟩ = some (.int .i64 z0) ∧ wx.frozen? ⟨g, q * 5, none⟩ = false ∧ wx.cell? ⟨g, q * 5 + 1, none⟩ = some (.string z1) ∧ wx.frozen? ⟨g, q * 5 + 1, none⟩ = false ∧ wx.cell? ⟨g, q * 5 + 2, none⟩ = some (.int .i64 z2) ∧ wx.frozen? ⟨g, q * 5 + 2, none⟩ = false ∧ wx.cell? ⟨g, q * 5 + 3, none⟩ = some (.slice a3 n3 p3) ∧ wx.frozen? ⟨g, q * 5 + 3, none⟩ = false ∧ wx.cell? ⟨g, q * 5 + 4, none⟩ = some (.slice a4 n4 p4) ∧ wx.frozen? ⟨g, q * 5 + 4, none⟩ = false) := fun wx h => ⟨h.cellAt _ _ (by omega) x0 (by omega), h.fz _, h.cellAt _ _ (by omega) x1 (by omega), h.fz _, h.cellAt _ _ (by omega) x2 (by omega), h.fz _, h.cellAt _ _ (by omega) x3 (by omega), h.fz _, h.cellAt _ _ (by omega) x4 (by omega), h.fz _⟩
      have HQ1 : Hid (∀ wx, MS w wx e 5 n (.slice (some ⟨g, 0, none⟩) n cap) g cs k0 S1 xs0 (q * 5 + 1) → wx.cell? ⟨g, q * 5 + 1, none⟩ = some (.string z1) ∧ wx.frozen? ⟨g, q * 5 + 1, none⟩ = false ∧ wx.cell? ⟨g, q * 5 + 2, none⟩ = some (.int .i64 z2) ∧ wx.frozen? ⟨g, q * 5 + 2, none⟩ = false ∧ wx.cell? ⟨g, q * 5 + 3, none⟩ = some (.slice a3 n3 p3) ∧ wx.frozen? ⟨g, q * 5 + 3, none⟩ = false ∧ wx.cell? ⟨g, q * 5 + 4, none⟩ = some (.slice a4 n4 p4) ∧ wx.frozen? ⟨g, q * 5 + 4, none⟩ = false) := fun wx h => ⟨h.cellAt _ _ (by omega) x1 (by omega), h.fz _, h.cellAt _ _ (by omega) x2 (by omega), h.fz _, h.cellAt _ _ (by omega) x3 (by omega), h.fz _, h.cellAt _ _ (by omega) x4 (by omega), h.fz _⟩
      have HQ4 : Hid (∀ wx, MS w wx e 5 n (.slice (some ⟨g, 0, none⟩) n cap) g cs k0 S1 xs0 (q * 5 + 4) → wx.cell? ⟨g, q * 5 + 4, none⟩ = some (.slice a4 n4 p4) ∧ wx.frozen? ⟨g, q * 5 + 4, none⟩ = false) := fun wx h => ⟨h.cellAt _ _ (by omega) x4 (by omega), h.fz _⟩
      have HN : Hid (∀ wx, MS w wx e 5 n (.slice (some ⟨g, 0, none⟩) n cap) g cs k0 S1 xs0 (q * 5 + 5) → MS w wx e 5 n (.slice (some ⟨g, 0, none⟩) n cap) g cs k0 S1 xs0 ((q + 1) * 5)) := fun wx h => by rw [show q * 5 + 5 = (q + 1) * 5 by omega] at h; exact h
      have HE := uhide hend
      rw [hkq]
      clear hR htr hsz hkn hend hkq Ht Hkk Hp0 Hl0 g0 g1 g2 g3 g4 at0 at1 at2 at3 at4 ct0 ct1 ct2 ct3 ct4 x0 x1 x2 x3 x4
      generalize umtx (kq + 1) = M1 at *
      generalize cnt c3 = m3 at *
      generalize cnt c4 = m4 at *
      obtain ⟨q0, f0, q1, f1, q2, f2, q3, f3, q4, f4⟩ := HQ0.out _ HM.out
      go_wp2_with fail
      refine (HT1.out _ _ (by omega)).mono ?_
      rintro e1 w1 ⟨rfl, hb1⟩
      have I1 : Hid (MS w w1 e 5 n (.slice (some ⟨g, 0, none⟩) n cap) g cs k0 S1 xs0 (q * 5 + 1)) := MS.below (HP0.out _ _ HM.out (congrArg (Value.int .i64) (by omega))) hb1
      clear hb1 q0 f0 q1 f1 q2 f2 q3 f3 q4 f4
      obtain ⟨q1, f1, q2, f2, q3, f3, q4, f4⟩ := HQ1.out _ I1.out
      go_wp2_with fail
      refine (HC3.out _ _ (HP2.out _ _ (HP1.out _ _ I1.out rfl) (congrArg (Value.int .i64) (by omega))) (by omega)).mono ?_
      rintro e1 w2 ⟨rfl, I2⟩
      clear q1 f1 q2 f2 q3 f3 q4 f4
      obtain ⟨q4, f4⟩ := HQ4.out _ I2.out
      go_wp2_with fail
      refine (HC4.out _ _ I2.out (by omega)).mono ?_
      rintro e1 w3 ⟨rfl, I3⟩
      clear q4 f4
      go_wp2
      go_roundw
      case rel => exact ⟨q + 1, by omega, by go_num, by rw [HE.out]; go_num, HN.out _ I3.out⟩
      case measure => (simp [intOf]; omega)
    · have e : q = n := by omega
      subst e
      obtain ⟨h1, h2⟩ := HM.out.done (by decide)
      have HD := uhide (And.intro h1 h2)
      have hl : cs.takeN (q * 5) = cs := by apply UD.ext; unfold UD.takeN; rw [UD.toL_ofL]; exact List.take_of_length_le (Nat.le_of_eq Ht.out.2.2.2.1)
      rw [hl]
      clear h1 h2 hl HM Ht Hp0 Hl0 Hkk
      go_wp2
      go_ret
      exact ⟨rfl, HD.out⟩
theorem umarkValueS_any (n k0 : Nat) (cs : UD) (c : Value) (S : List Nat) (w : World) (ht : tyS 5 n cs 6) (hnd : S.Nodup) (hk0 : 1 ≤ k0) (hk1 : k0 + cnt cs ≤ 100000000) (hx : oS w 5 n cs c S) :
    Calls Try.prog 132 #[c, .int .i64 k0] w fun e w' => e = .returned (.int .i64 (k0 + cnt cs : Nat)) ∧ oS w' 5 n (mk cs k0) c S ∧ OutS S w w' := umarkValueS_N (uszD cs + 1) n k0 cs c S w (by omega) ht hnd hk0 hk1 hx
set_option maxHeartbeats 1600000 in
theorem utoValue_of {lo hi : Nat} (d : UD) (xs : List Value) (w : World) (ih : ∀ (n4 : Nat) (c4 : UD) (x4 : Value) (wx : World), uszD c4 < uszD d → tyS 5 n4 c4 6 → n4 + wt c4 ≤ 1048576 → uS wx lo hi 5 n4 c4 x4 → Calls Try.prog 236 #[x4] wx fun e w' => ∃ c' S, e = .returned c' ∧ oS w' 5 n4 c4 c' S ∧ S.Nodup ∧ (∀ s ∈ S, wx.heap.size ≤ s) ∧ Below wx.heap.size wx w') (ht : tyL d (uE 6)) (hn : wt d ≤ 1048576) (hx : uH w lo hi d xs) :
    Calls Try.prog 208 #[.agg xs.toArray] w fun e w' => ∃ ys S, e = .returned (.agg ys.toArray) ∧ oH w' d ys S ∧ S.Nodup ∧ (∀ s ∈ S, w.heap.size ≤ s) ∧ Below w.heap.size w w' := by
  obtain ⟨z0, z1, z2, n3, c3, n4, c4, rfl, g0, g1, g2, g3, g4⟩ := partsValue ht
  obtain ⟨_, rfl, ⟨_, rfl, ⟨_, rfl, ⟨v3l, _, rfl, s3l, ⟨v4l, _, rfl, s4l, rfl⟩⟩⟩⟩⟩ := hx
  obtain ⟨a3l, p3l, rfl, t3l⟩ := s3l
  obtain ⟨a4l, p4l, rfl, t4l⟩ := s4l
  simp only [wt, wtP] at hn
  have HC0 : Hid (∀ wx : World, Below w.heap.size w wx → Calls Try.prog 69 #[.slice a3l n3 p3l] wx fun e w' => ∃ a p S, e = .returned (.slice a n3 p) ∧ Hid (oS w' 1 n3 c3 (.slice a n3 p) S) ∧ Hid (own2 S wx.heap.size w'.heap.size) ∧ Below wx.heap.size wx w') := fun wx hb => (utoStringS_any (lo := lo) (hi := hi) n3 c3 _ wx g3 (by omega) ((show uS w lo hi 1 n3 c3 (.slice a3l n3 p3l) from ⟨_, _, rfl, t3l⟩).below hb)).mono fun e w' ⟨c', S, h1, h2, h3, h4, h5⟩ => by
    obtain ⟨a, p, rfl⟩ := h2.slice
    exact ⟨a, p, S, h1, h2, ⟨h3, fun s hs => ⟨h4 s hs, h2.lt s hs⟩⟩, h5⟩
  have HC1 : Hid (∀ wx : World, Below w.heap.size w wx → Calls Try.prog 236 #[.slice a4l n4 p4l] wx fun e w' => ∃ a p S, e = .returned (.slice a n4 p) ∧ Hid (oS w' 5 n4 c4 (.slice a n4 p) S) ∧ Hid (own2 S wx.heap.size w'.heap.size) ∧ Below wx.heap.size wx w') := fun wx hb => (ih n4 c4 _ wx (by simp only [uszD]; omega) g4 (by omega) ((show uS w lo hi 5 n4 c4 (.slice a4l n4 p4l) from ⟨_, _, rfl, t4l⟩).below hb)).mono fun e w' ⟨c', S, h1, h2, h3, h4, h5⟩ => by
    obtain ⟨a, p, rfl⟩ := h2.slice
    exact ⟨a, p, S, h1, h2, ⟨h3, fun s hs => ⟨h4 s hs, h2.lt s hs⟩⟩, h5⟩
  have HA : Hid (∀ o1 o2 o3, Below w.heap.size w (((w.alloc o1).alloc o2).alloc o3)) := fun o1 o2 o3 => (((Below.refl _ _).alloc (Nat.le_refl _) _).alloc (by simp) _).alloc (by simp; omega) _
  clear hn ht g0 g1 g2 g3 g4 t3l t4l ih
  go_enter Try.func208, Try.ntmps208
  go_wp2_with fail
  refine (HC0.out _ (by repeat (first | with_reducible exact HA.out _ _ _ | with_reducible assumption | with_reducible refine Below.setCell ?_ (by simp <;> omega) _))).mono ?_
  rintro e w1 ⟨a3r, p3r, S1, rfl, O1, W1, hb1⟩
  have OA1 : Hid (objU w1 w.heap.size 219 [.int .i64 z0, .string z1, .int .i64 z2, .slice a3l n3 p3l, .slice a4l n4 p4l]) := objU.below (by repeat (first | with_reducible exact objU.new2 _ _ rfl | with_reducible refine objU.other ?_ _ (by simp <;> omega) _ | with_reducible refine objU.old ?_ _)) hb1
  have OR1 : Hid (objU w1 (w.heap.size + 1) 134 [.int .i64 0, .string ⟨#[]⟩, .int .i64 0, .slice none 0 0, .slice none 0 0]) := objU.below (by repeat (first | with_reducible exact objU.new2 _ _ (by simp) | with_reducible refine objU.other ?_ _ (by simp <;> omega) _ | with_reducible refine objU.old ?_ _)) hb1
  have OO1 : Hid (objU w1 (w.heap.size + 1 + 1) 134 [.int .i64 z0, .string z1, .int .i64 z2, .slice none 0 0, .slice none 0 0]) := objU.below (by repeat (first | with_reducible exact objU.new2 _ _ (by simp) | with_reducible refine objU.old ?_ _)) hb1
  have hsz1 : w.heap.size + 1 + 1 + 1 ≤ w1.heap.size := by have := hb1.size; simpa using this
  replace W1 := uhide (W1.out.mono (a' := w.heap.size + 1 + 1 + 1) (by simp <;> omega) (Nat.le_refl _))
  have HB1 : Hid (Below w.heap.size w w1) := Below.trans (by repeat (first | with_reducible exact HA.out _ _ _ | with_reducible refine Below.setCell ?_ (by simp <;> omega) _)) (hb1.mono (by simp <;> omega))
  clear hb1
  have co3_1 : w1.cell? ⟨w.heap.size + 1 + 1, 3, none⟩ = some (.slice none 0 0) := OO1.out.cell 3 _ rfl
  have fo3_1 : w1.frozen? ⟨w.heap.size + 1 + 1, 3, none⟩ = false := OO1.out.fz 3
  have ca4_1 : w1.cell? ⟨w.heap.size, 4, none⟩ = some (.slice a4l n4 p4l) := OA1.out.cell 4 _ rfl
  have co4_1 : w1.cell? ⟨w.heap.size + 1 + 1, 4, none⟩ = some (.slice none 0 0) := OO1.out.cell 4 _ rfl
  have fo4_1 : w1.frozen? ⟨w.heap.size + 1 + 1, 4, none⟩ = false := OO1.out.fz 4
  go_wp2_with fail
  refine (HC1.out _ (by repeat (first | with_reducible exact HA.out _ _ _ | with_reducible assumption | with_reducible refine Below.setCell ?_ (by simp <;> omega) _ | with_reducible exact HB1.out))).mono ?_
  rintro e w2 ⟨a4r, p4r, S2, rfl, O2, W2, hb2⟩
  have OA2 : Hid (objU w2 w.heap.size 219 [.int .i64 z0, .string z1, .int .i64 z2, .slice a3l n3 p3l, .slice a4l n4 p4l]) := objU.below (by repeat (first | with_reducible exact OA1.out | with_reducible refine objU.other ?_ _ (by simp <;> omega) _ | with_reducible refine objU.old ?_ _)) hb2
  have OR2 : Hid (objU w2 (w.heap.size + 1) 134 [.int .i64 0, .string ⟨#[]⟩, .int .i64 0, .slice none 0 0, .slice none 0 0]) := objU.below (by repeat (first | with_reducible exact OR1.out | with_reducible refine objU.other ?_ _ (by simp <;> omega) _ | with_reducible refine objU.old ?_ _)) hb2
  have OO2 : Hid (objU w2 (w.heap.size + 1 + 1) 134 [.int .i64 z0, .string z1, .int .i64 z2, .slice a3r n3 p3r, .slice none 0 0]) := objU.below (by refine objU.set (xs := [.int .i64 z0, .string z1, .int .i64 z2, .slice none 0 0, .slice none 0 0]) ?_ 3 _; exact OO1.out) hb2
  replace O1 := uhide ((oS.outs O1.out (T := [w.heap.size + 1 + 1]) (by repeat (first | with_reducible exact OutS.refl _ _ | with_reducible refine OutS.setCell ?_ (show _ ∈ [w.heap.size + 1 + 1] by simp) _)) W1.out (fun x hx => by simp at hx; omega)).below hb2)
  have hsz2 : w1.heap.size ≤ w2.heap.size := Nat.le_trans (by simp) hb2.size
  replace W2 := uhide (W2.out.mono (a' := w1.heap.size) (by simp) (Nat.le_refl _))
  have HB2 : Hid (Below w.heap.size w w2) := Below.trans (by repeat (first | with_reducible exact HB1.out | with_reducible refine Below.setCell ?_ (by simp <;> omega) _)) (hb2.mono (by simp <;> omega))
  clear hb2
  clear OA1 OR1 OO1 HB1
  have co4_2 : w2.cell? ⟨w.heap.size + 1 + 1, 4, none⟩ = some (.slice none 0 0) := OO2.out.cell 4 _ rfl
  have fo4_2 : w2.frozen? ⟨w.heap.size + 1 + 1, 4, none⟩ = false := OO2.out.fz 4
  have co0_2 : w2.cell? ⟨w.heap.size + 1 + 1, 0, none⟩ = some (.int .i64 z0) := OO2.out.cell 0 _ rfl
  have cr0 : w2.cell? ⟨w.heap.size + 1, 0, none⟩ = some (.int .i64 0) := OR2.out.cell 0 _ rfl
  have fr0 : w2.frozen? ⟨w.heap.size + 1, 0, none⟩ = false := OR2.out.fz 0
  have co1_2 : w2.cell? ⟨w.heap.size + 1 + 1, 1, none⟩ = some (.string z1) := OO2.out.cell 1 _ rfl
  have cr1 : w2.cell? ⟨w.heap.size + 1, 1, none⟩ = some (.string ⟨#[]⟩) := OR2.out.cell 1 _ rfl
  have fr1 : w2.frozen? ⟨w.heap.size + 1, 1, none⟩ = false := OR2.out.fz 1
  have co2_2 : w2.cell? ⟨w.heap.size + 1 + 1, 2, none⟩ = some (.int .i64 z2) := OO2.out.cell 2 _ rfl
  have cr2 : w2.cell? ⟨w.heap.size + 1, 2, none⟩ = some (.int .i64 0) := OR2.out.cell 2 _ rfl
  have fr2 : w2.frozen? ⟨w.heap.size + 1, 2, none⟩ = false := OR2.out.fz 2
  have co3_2 : w2.cell? ⟨w.heap.size + 1 + 1, 3, none⟩ = some (.slice a3r n3 p3r) := OO2.out.cell 3 _ rfl
  have cr3 : w2.cell? ⟨w.heap.size + 1, 3, none⟩ = some (.slice none 0 0) := OR2.out.cell 3 _ rfl
  have fr3 : w2.frozen? ⟨w.heap.size + 1, 3, none⟩ = false := OR2.out.fz 3
  have cr4 : w2.cell? ⟨w.heap.size + 1, 4, none⟩ = some (.slice none 0 0) := OR2.out.cell 4 _ rfl
  have fr4 : w2.frozen? ⟨w.heap.size + 1, 4, none⟩ = false := OR2.out.fz 4
  go_wp2
  refine bodyPost_ret (v := .agg #[.int .i64 z0, .string z1, .int .i64 z2, .slice a3r n3 p3r, .slice a4r n4 p4r]) ?_ rfl ⟨[.int .i64 z0, .string z1, .int .i64 z2, .slice a3r n3 p3r, .slice a4r n4 p4r], (S1 ++ (S2 ++ [])), rfl, ?_, ?_⟩
  · simp [results, Try.results208, go_sem, cr0, cr1, cr2, cr3, cr4]
  · exact oH.consP _ (oH.consP _ (oH.consP _ (oH.consS (oS.outs O1.out (T := [w.heap.size + 1, w.heap.size + 1 + 1]) (by repeat (first | with_reducible exact OutS.refl _ _ | with_reducible refine OutS.setCell ?_ (show _ ∈ [w.heap.size + 1, w.heap.size + 1 + 1] by simp) _)) W1.out (fun x hx => by simp at hx; omega)) (oH.consS (oS.outs O2.out (T := [w.heap.size + 1, w.heap.size + 1 + 1]) (by repeat (first | with_reducible exact OutS.refl _ _ | with_reducible refine OutS.setCell ?_ (show _ ∈ [w.heap.size + 1, w.heap.size + 1 + 1] by simp) _)) W2.out (fun x hx => by simp at hx; omega)) (oH.nil _)))))
  · have HW := own2.app W1.out (own2.app W2.out (own2.nil w2.heap.size w2.heap.size) (by omega) (by omega) (by omega)) (by omega) (by omega) (by omega)
    refine ⟨HW.1, fun s hs => (by have := HW.2 s hs; omega), ?_⟩
    repeat (first | with_reducible exact HB2.out | with_reducible refine Below.setCell ?_ (by simp <;> omega) _)
theorem Try.infoUValue : (Try.prog.info? 134).map (fun i => (i.zero, i.size, decide (i.bytes ≤ 1000))) = some (some (.agg #[.int .i64 0, .string ByteArray.empty, .int .i64 0, .slice none 0 0, .slice none 0 0]), 5, true) := by kernel_rfl
set_option maxHeartbeats 1600000 in
theorem utoValueS_N {lo hi : Nat} : ∀ (N : Nat) (n : Nat) (cs : UD) (c : Value) (w : World), uszD cs < N → tyS 5 n cs 6 → n + wt cs ≤ 1048576 → uS w lo hi 5 n cs c →
    Calls Try.prog 236 #[c] w fun e w' => ∃ c' S, e = .returned c' ∧ oS w' 5 n cs c' S ∧ S.Nodup ∧ (∀ s ∈ S, w.heap.size ≤ s) ∧ Below w.heap.size w w' := by
  intro N
  induction N with
  | zero => intro n cs c w hN; omega
  | succ N ihN =>
  intro n cs c w hN ht hn hx
  have HI := uhide ihN
  clear ihN
  obtain ⟨i0, hinf, hz0, hz1, hz2⟩ : ∃ i, Try.prog.info? 134 = some i ∧ i.zero = some (.agg #[.int .i64 0, .string ByteArray.empty, .int .i64 0, .slice none 0 0, .slice none 0 0]) ∧ i.size = 5 ∧ i.bytes ≤ 1000 := by
    have h := Try.infoUValue
    cases e : Try.prog.info? 134 with
    | none => rw [e] at h; cases h
    | some i => rw [e] at h; simp at h; exact ⟨i, rfl, h.1, h.2.1, h.2.2⟩
  obtain ⟨a, cap, rfl, hx2⟩ := hx
  have Hx : Hid (uS w lo hi 5 n cs (.slice a n cap)) := ⟨a, cap, rfl, hx2⟩
  have Ht := uhide ht
  have Hn : Hid (∀ q, q < n → wt (rowU cs 5 q) ≤ 1048576) := fun q hq => by have := wt_row cs 5 q; omega
  have hnn : n ≤ 1048576 := by omega
  have hbb : i0.bytes * n ≤ 281474976710656 := Nat.le_trans (Nat.mul_le_mul hz2 hnn) (by decide)
  clear hx2 ht hn
  go_enter Try.func236, Try.ntmps236
  go_wp2_with (at_make; refine wpList_make_full _ rfl _ _ 132 rfl w.heap.size 134 i0 _ 5 Try.underlying132 hinf hz0 hz1 _ _ _ _ n rfl rfl rfl rfl hbb (by unfold maxLen; omega) (Nat.le_refl _) ?_; intro w1 hown hgrow)
  have T0 := uhide (TS.start (cs := cs) hown (Below.grown (Below.refl _ _) hgrow (Nat.le_refl _) (fun k hk => by cases hk)))
  clear hown hgrow
  go_loopw [4] (fun i wr => ∃ (q : Nat), q ≤ n ∧ i = .int .i64 q ∧ Hid (TS w wr 134 5 n cs q)) (fun i _ => n - (intOf i).toNat)
  case atStart => exact ⟨0, Nat.zero_le _, rfl, T0⟩
  case round =>
    clear T0
    obtain ⟨q, hq, rfl, HT⟩ := hrel
    by_cases hlt : q < n
    · obtain ⟨b, off, rfl, hbk, hm⟩ := (Hx.out.below HT.out.bel).cells (by omega)
      have htr := Ht.out.row hlt
      have hwr := Hn.out q hlt
      have hsz := uszD_row cs 5 q
      obtain ⟨xs, hh, hcl⟩ := (hm.row 5 q).hand
      have Hcon : Hid (∀ wx, Below wr.heap.size wr wx → Calls Try.prog 208 #[.agg xs.toArray] wx fun e w' => ∃ ys S, e = .returned (.agg ys.toArray) ∧ oH w' (rowU cs 5 q) ys S ∧ S.Nodup ∧ (∀ s ∈ S, wx.heap.size ≤ s) ∧ Below wx.heap.size wx w') := fun wx hb => utoValue_of (lo := lo) (hi := hi) _ _ wx (fun n4 c4 x4 wy hlt ht4 q0 hs4 => HI.out n4 c4 x4 wy (by omega) ht4 q0 hs4) htr hwr (hh.below hb)
      obtain ⟨z0, z1, z2, n3, c3, n4, c4, hR, g0, g1, g2, g3, g4⟩ := partsValue htr
      rw [hR] at hh
      obtain ⟨_, rfl, ⟨_, rfl, ⟨_, rfl, ⟨v3l, _, rfl, s3l, ⟨v4l, _, rfl, s4l, rfl⟩⟩⟩⟩⟩ := hh
      obtain ⟨a3l, p3l, rfl, t3l⟩ := s3l
      obtain ⟨a4l, p4l, rfl, t4l⟩ := s4l
      have q0 : wr.cell? ⟨b, off + q * 5, none⟩ = some (.int .i64 z0) := hcl 0 _ rfl
      have q1 : wr.cell? ⟨b, off + q * 5 + 1, none⟩ = some (.string z1) := hcl 1 _ rfl
      have q2 : wr.cell? ⟨b, off + q * 5 + 2, none⟩ = some (.int .i64 z2) := hcl 2 _ rfl
      have q3 : wr.cell? ⟨b, off + q * 5 + 3, none⟩ = some (.slice a3l n3 p3l) := hcl 3 _ rfl
      have q4 : wr.cell? ⟨b, off + q * 5 + 4, none⟩ = some (.slice a4l n4 p4l) := hcl 4 _ rfl
      have HR := uhide hR
      have HS : Hid (∀ (w2 : World) ys S, oH w2 (rowU cs 5 q) ys S → ∃ a3r p3r a4r p4r , ys = [.int .i64 z0, .string z1, .int .i64 z2, .slice a3r n3 p3r, .slice a4r n4 p4r]) := by
        intro w2 ys S h
        rw [HR.out] at h
        obtain ⟨_, rfl, ⟨_, rfl, ⟨_, rfl, ⟨v3, _, _, _, rfl, _, _, ⟨_, _, o3, _⟩, ⟨v4, _, _, _, rfl, _, _, ⟨_, _, o4, _⟩, ⟨rfl, _⟩⟩⟩⟩⟩⟩ := h
        obtain ⟨a3, p3, rfl⟩ := uowns_slice o3
        obtain ⟨a4, p4, rfl⟩ := uowns_slice o4
        exact ⟨a3, p3, a4, p4, rfl⟩
      have hKn : q * 5 + 5 ≤ n * 5 := by have := Nat.mul_le_mul_right 5 (show q + 1 ≤ n by omega); rw [Nat.succ_mul] at this; exact this
      clear hR hcl hm htr hsz hwr HR g0 g1 g2 g3 g4 t3l t4l
      go_wp2_with fail
      refine (Hcon.out _ (by repeat (first | exact Below.refl _ _ | refine Below.alloc ?_ (by simp) _))).mono ?_
      rintro e w2 ⟨ys, S, rfl, ho, hnd, hS, hb2⟩
      obtain ⟨a3r, p3r, a4r, p4r, rfl⟩ := HS.out _ _ _ ho
      have HT2 := uhide (HT.out.below hb2)
      have T1 := uhide (HT.out.step hb2 ho hnd hS Ht.out.2.2.2.1 hlt)
      obtain ⟨d0, p0x⟩ := HT2.out.cell (q * 5) (by omega)
      have f0 := HT2.out.fz (q * 5)
      obtain ⟨d1, p1x⟩ := HT2.out.cell (q * 5 + 1) (by omega)
      have f1 := HT2.out.fz (q * 5 + 1)
      obtain ⟨d2, p2x⟩ := HT2.out.cell (q * 5 + 2) (by omega)
      have f2 := HT2.out.fz (q * 5 + 2)
      obtain ⟨d3, p3x⟩ := HT2.out.cell (q * 5 + 3) (by omega)
      have f3 := HT2.out.fz (q * 5 + 3)
      obtain ⟨d4, p4x⟩ := HT2.out.cell (q * 5 + 4) (by omega)
      have f4 := HT2.out.fz (q * 5 + 4)
      clear ho hnd hS hb2 Hcon HS HT HT2 Hx Ht Hn
      go_wp2
      go_roundw
      case rel => exact ⟨q + 1, by omega, by go_num, T1⟩
      case measure => simp [intOf]; omega
    · have e : q = n := by omega
      subst e
      obtain ⟨S, h1, h2, h3, h4⟩ := HT.out.done (by decide) Ht.out.2.2.2.1
      have HS : Hid (oS wr 5 q cs (.slice (some ⟨w.heap.size, 0, none⟩) q q) S ∧ S.Nodup ∧ (∀ s ∈ S, w.heap.size ≤ s) ∧ Below w.heap.size w wr) := ⟨h1, h2, h3, h4⟩
      clear h1 h2 h3 h4
      go_wp2
      go_ret
      exact ⟨_, S, rfl, HS.out⟩
theorem utoValueS_any {lo hi : Nat} (n : Nat) (cs : UD) (c : Value) (w : World) (ht : tyS 5 n cs 6) (hn : n + wt cs ≤ 1048576) (hx : uS w lo hi 5 n cs c) :
    Calls Try.prog 236 #[c] w fun e w' => ∃ c' S, e = .returned c' ∧ oS w' 5 n cs c' S ∧ S.Nodup ∧ (∀ s ∈ S, w.heap.size ≤ s) ∧ Below w.heap.size w w' := utoValueS_N (uszD cs + 1) n cs c w (by omega) ht hn hx
theorem utoValue_any {lo hi : Nat} (d : UD) (xs : List Value) (w : World) (ht : tyL d (uE 6)) (hn : wt d ≤ 1048576) (hx : uH w lo hi d xs) :
    Calls Try.prog 208 #[.agg xs.toArray] w fun e w' => ∃ ys S, e = .returned (.agg ys.toArray) ∧ oH w' d ys S ∧ S.Nodup ∧ (∀ s ∈ S, w.heap.size ≤ s) ∧ Below w.heap.size w w' := utoValue_of d xs w (fun n4 c4 x4 wx _ ht4 q0 hs => utoValueS_any n4 c4 x4 wx ht4 q0 hs) ht hn hx
end Go.Proofs.Ytdnodaoeflbfkaa

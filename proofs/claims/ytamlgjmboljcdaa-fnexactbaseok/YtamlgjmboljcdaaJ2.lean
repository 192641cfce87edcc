/- Texts of one claim, joined: each in its own section, in build order. -/
import Derived.Test.YtamlgjmboljcdaaJ1
import Derived.Test.YtamlgjmboljcdaaChecked
import Derived.WalkKit
import Derived.WalkSpells
import Derived.WalkLawsBesides
import Derived.Lib.OthersKept
import Derived.BigQuiet
import Derived.Deep.QuietTactic
import Derived.Lib.Strings
import Derived.Outline
import Derived.Deep.RegionWith
/- Data as cells: the helpers of the laws over Value. -/
namespace Go.Proofs.Ytamlgjmboljcdaa
open Go.RowKit Go.BigFrame
set_option linter.unusedVariables false

set_option maxHeartbeats 800000 in
theorem uszValue_of {lo hi : Nat} (d : UD) (xs : List Value) (left : Int) (w : World) (ih : ∀ (n4 : Nat) (c4 : UD) (x4 : Value) (l : Int) (wx : World), uszD c4 < uszD d → tyS 5 n4 c4 6 → 0 ≤ l → l ≤ 1048576 → uS wx lo hi 5 n4 c4 x4 → Calls Try.prog 89 #[x4, .int .i64 l] wx fun e w' => e = .returned (.int .i64 (leftI l (n4 + wt c4))) ∧ Below wx.heap.size wx w') (ht : tyL d (uE 6)) (hx : uH w lo hi d xs) (h0 : 0 ≤ left) (h1 : left ≤ 1048576) :
    Calls Try.prog 75 #[.agg xs.toArray, .int .i64 left] w fun e w' => e = .returned (.int .i64 (leftI left (wt d))) ∧ Below w.heap.size w w' := by
  obtain ⟨z0, z1, z2, n3, c3, n4, c4, rfl, g0, g1, g2, g3, g4⟩ := partsValue ht
  obtain ⟨_, rfl, ⟨_, rfl, ⟨_, rfl, ⟨v3, _, rfl, s3, ⟨v4, _, rfl, s4, rfl⟩⟩⟩⟩⟩ := hx
  obtain ⟨a3, p3, rfl, t3⟩ := s3
  obtain ⟨a4, p4, rfl, t4⟩ := s4
  obtain ⟨M1, hM1⟩ : ∃ M, M = (n3 + wt c3) := ⟨_, rfl⟩
  have HC1 : Hid (∀ (wx : World) (l : Int), Below w.heap.size w wx → 0 ≤ l → l ≤ 1048576 → Calls Try.prog 74 #[.slice a3 n3 p3, .int .i64 l] wx fun e w' => e = .returned (.int .i64 (leftI l M1)) ∧ Below wx.heap.size wx w') := fun wx l hb q0 q1 => hM1 ▸ uszStringS_any (lo := lo) (hi := hi) n3 c3 _ l wx g3 q0 q1 ((show uS w lo hi 1 n3 c3 (.slice a3 n3 p3) from ⟨_, _, rfl, t3⟩).below hb)
  obtain ⟨M2, hM2⟩ : ∃ M, M = (n4 + wt c4) := ⟨_, rfl⟩
  have HC2 : Hid (∀ (wx : World) (l : Int), Below w.heap.size w wx → 0 ≤ l → l ≤ 1048576 → Calls Try.prog 89 #[.slice a4 n4 p4, .int .i64 l] wx fun e w' => e = .returned (.int .i64 (leftI l M2)) ∧ Below wx.heap.size wx w') := fun wx l hb q0 q1 => hM2 ▸ ih n4 c4 _ l wx (by simp only [uszD]; omega) g4 q0 q1 ((show uS w lo hi 5 n4 c4 (.slice a4 n4 p4) from ⟨_, _, rfl, t4⟩).below hb)
  have E : Hid (leftI left (wt (.p (.int .i64 z0) (.p (.string z1) (.p (.int .i64 z2) (.l 1 n3 c3 (.l 5 n4 c4 .nil)))))) = leftI left (z1.size + (M1 + (M2 + 0)))) := by show _ = _; congr 1; simp only [wt, wtP, hM1, hM2]; omega
  generalize leftI left (wt (.p (.int .i64 z0) (.p (.string z1) (.p (.int .i64 z2) (.l 1 n3 c3 (.l 5 n4 c4 .nil)))))) = R at *
  have HA : Hid (∀ o, Below w.heap.size w (w.alloc o)) := fun o => (Below.refl _ _).alloc (Nat.le_refl _) _
  unfold maxLen at g1
  clear t3 t4 hM1 hM2 g3 g4 ih
  by_cases k0 : left - (z1.size : Int) < 0
  · have EN : Hid (R = -1) := by show _ = _; rw [E.out]; exact leftI_neg _ (by omega) (by unfold leftI; split <;> omega)
    clear E
    go_enter Try.func75, Try.ntmps75
    go_wp2
    go_ret
    exact ⟨ret_intU EN.out.symm, HA.out _⟩
  replace E : Hid (R = leftI (left - (z1.size : Int)) (M1 + (M2 + 0))) := by
    obtain ⟨q1, q2, q3⟩ := leftI_pos (x := left) (a := z1.size) (M1 + (M2 + 0)) (by unfold leftI; split <;> omega)
    show _ = _; rw [E.out, q1, q2]
  obtain ⟨y1, hy1⟩ : ∃ y, y = leftI (left - (z1.size : Int)) M1 := ⟨_, rfl⟩
  have Y1 := uhide hy1
  by_cases k1 : y1 < 0
  · have EN : Hid (R = -1) := by show _ = _; rw [E.out]; exact leftI_neg _ (by omega) (by rw [← hy1]; exact k1)
    clear E hy1
    go_enter Try.func75, Try.ntmps75
    go_wp2_with fail
    refine (HC1.out _ _ (HA.out _) (by omega) (by omega)).mono ?_
    rintro e w1 ⟨rfl, hb1⟩
    have B1 : Hid (Below w.heap.size w w1) := (HA.out _).trans (hb1.mono (by simp))
    clear hb1
    rw [show leftI (left - (z1.size : Int)) M1 = y1 from Y1.out.symm]
    go_wp2
    go_ret
    exact ⟨ret_intU EN.out.symm, B1.out⟩
  replace E : Hid (R = leftI y1 (M2 + 0)) := by
    obtain ⟨q1, q2, q3⟩ := leftI_pos (x := (left - (z1.size : Int))) (a := M1) (M2 + 0) (by rw [← hy1]; exact k1)
    show _ = _; rw [E.out, q1, ← hy1]
  have u1 : y1 ≤ (left - (z1.size : Int)) := by rw [hy1]; unfold leftI; split <;> omega
  clear hy1
  obtain ⟨y2, hy2⟩ : ∃ y, y = leftI y1 M2 := ⟨_, rfl⟩
  have Y2 := uhide hy2
  by_cases k2 : y2 < 0
  · have EN : Hid (R = -1) := by show _ = _; rw [E.out]; exact leftI_neg _ (by omega) (by rw [← hy2]; exact k2)
    clear E hy2
    go_enter Try.func75, Try.ntmps75
    go_wp2_with fail
    refine (HC1.out _ _ (HA.out _) (by omega) (by omega)).mono ?_
    rintro e w1 ⟨rfl, hb1⟩
    have b4 : w1.cell? ⟨w.heap.size, 4, none⟩ = some (.slice a4 n4 p4) := (hb1.cell (p := ⟨w.heap.size, 4, none⟩) (by simp <;> omega)).trans (by simp [go_sem])
    have B1 : Hid (Below w.heap.size w w1) := (HA.out _).trans (hb1.mono (by simp))
    clear hb1
    rw [show leftI (left - (z1.size : Int)) M1 = y1 from Y1.out.symm]
    go_wp2_with fail
    refine (HC2.out _ _ (by repeat (first | assumption | exact HA.out _ | exact B1.out)) (by omega) (by omega)).mono ?_
    rintro e w2 ⟨rfl, hb2⟩
    have B2 : Hid (Below w.heap.size w w2) := B1.out.trans (hb2.mono B1.out.size)
    clear hb2
    rw [show leftI y1 M2 = y2 from Y2.out.symm]
    go_wp2
    go_ret
    exact ⟨ret_intU EN.out.symm, B2.out⟩
  replace E : Hid (R = leftI y2 (0)) := by
    obtain ⟨q1, q2, q3⟩ := leftI_pos (x := y1) (a := M2) (0) (by rw [← hy2]; exact k2)
    show _ = _; rw [E.out, q1, ← hy2]
  have u2 : y2 ≤ y1 := by rw [hy2]; unfold leftI; split <;> omega
  clear hy2
  replace E : Hid (R = y2) := E.out.trans (leftI_zero (by omega))
  go_enter Try.func75, Try.ntmps75
  go_wp2_with fail
  refine (HC1.out _ _ (HA.out _) (by omega) (by omega)).mono ?_
  rintro e w1 ⟨rfl, hb1⟩
  have b4 : w1.cell? ⟨w.heap.size, 4, none⟩ = some (.slice a4 n4 p4) := (hb1.cell (p := ⟨w.heap.size, 4, none⟩) (by simp <;> omega)).trans (by simp [go_sem])
  have B1 : Hid (Below w.heap.size w w1) := (HA.out _).trans (hb1.mono (by simp))
  clear hb1
  rw [show leftI (left - (z1.size : Int)) M1 = y1 from Y1.out.symm]
  go_wp2_with fail
  refine (HC2.out _ _ (by repeat (first | assumption | exact HA.out _ | exact B1.out)) (by omega) (by omega)).mono ?_
  rintro e w2 ⟨rfl, hb2⟩
  have B2 : Hid (Below w.heap.size w w2) := B1.out.trans (hb2.mono B1.out.size)
  clear hb2
  rw [show leftI y1 M2 = y2 from Y2.out.symm]
  go_wp2
  go_ret
  exact ⟨ret_intU E.out.symm, B2.out⟩
set_option maxHeartbeats 800000 in
theorem uszValueS_N {lo hi : Nat} : ∀ (N : Nat) (n : Nat) (cs : UD) (c : Value) (left : Int) (w : World), uszD cs < N → tyS 5 n cs 6 → 0 ≤ left → left ≤ 1048576 → uS w lo hi 5 n cs c →
    Calls Try.prog 89 #[c, .int .i64 left] w fun e w' => e = .returned (.int .i64 (leftI left (n + wt cs))) ∧ Below w.heap.size w w' := by
  intro N
  induction N with
  | zero => intro n cs c left w hN; omega
  | succ N ihN =>
  intro n cs c left w hN ht h0 h1 hx
  have HI := uhide ihN
  clear ihN
  obtain ⟨a, cap, rfl, hx2⟩ := hx
  have Hx : Hid (uS w lo hi 5 n cs (.slice a n cap)) := ⟨a, cap, rfl, hx2⟩
  have hmx := ht.2.2.1
  unfold maxLen at hmx
  have Ht := uhide ht
  clear hx2 ht
  by_cases c1 : left - (n : Int) < 0
  · have E : Hid (leftI left (n + wt cs) = -1) := by show _ = _; unfold leftI; rw [if_pos (by omega)]
    go_enter Try.func89, Try.ntmps89
    go_wp2
    go_ret
    exact ⟨ret_intU E.out.symm, Below.refl _ _⟩
  have E : Hid (leftI left (n + wt cs) = leftI (left - n) (wt (cs.dropN (0 * 5)))) := by
    show _ = _
    obtain ⟨g1, g2, g3⟩ := leftI_pos (x := left) (a := n) (wt cs) (by unfold leftI; split <;> omega)
    rw [g1, g2, Nat.zero_mul, UD.dropN_zero]
  go_enter Try.func89, Try.ntmps89
  go_wp2
  go_loopw [1, 5] (fun l i wr => ∃ (q : Nat) (x : Int), q ≤ n ∧ i = .int .i64 q ∧ l = .int .i64 x ∧ 0 ≤ x ∧ x ≤ 1048576 ∧ Hid (leftI left (n + wt cs) = leftI x (wt (cs.dropN (q * 5)))) ∧ Below w.heap.size w wr) (fun _ i _ => n - (intOf i).toNat)
  case atStart => exact ⟨0, _, Nat.zero_le _, rfl, rfl, by omega, by omega, E, Below.refl _ _⟩
  case round =>
    obtain ⟨q, x, hq, rfl, rfl, hx0, hx1, Hs, hbw⟩ := hrel
    by_cases hlt : q < n
    · obtain ⟨b, off, rfl, hbb, hm⟩ := (Hx.out.below hbw).cells (by omega)
      have htr := Ht.out.row hlt
      have hr := hm.row 5 q
      have hw : wt (cs.dropN (q * 5)) = wt (rowU cs 5 q) + wt (cs.dropN ((q + 1) * 5)) := by rw [UD.drop_row cs 5 q, wt_app]
      have hsz := uszD_row cs 5 q
      obtain ⟨xs, hh, hcl⟩ := hr.hand
      have Hcon : Hid (∀ wx, Below wr.heap.size wr wx → Calls Try.prog 75 #[.agg xs.toArray, .int .i64 x] wx fun e w' => e = .returned (.int .i64 (leftI x (wt (rowU cs 5 q)))) ∧ Below wx.heap.size wx w') := fun wx hb => uszValue_of (lo := lo) (hi := hi) _ _ x wx (fun n4 c4 x4 l wy hlt ht4 q0 q1 hs4 => HI.out n4 c4 x4 l wy (by omega) ht4 q0 q1 hs4) htr (hh.below hb) hx0 hx1
      obtain ⟨z0, z1, z2, n3, c3, n4, c4, hR, g0, g1, g2, g3, g4⟩ := partsValue htr
      rw [hR] at hh
      obtain ⟨_, rfl, ⟨_, rfl, ⟨_, rfl, ⟨v3, _, rfl, s3, ⟨v4, _, rfl, s4, rfl⟩⟩⟩⟩⟩ := hh
      obtain ⟨a3, p3, rfl, t3⟩ := s3
      obtain ⟨a4, p4, rfl, t4⟩ := s4
      have q0 : wr.cell? ⟨b, off + q * 5, none⟩ = some (.int .i64 z0) := hcl 0 _ rfl
      have q1 : wr.cell? ⟨b, off + q * 5 + 1, none⟩ = some (.string z1) := hcl 1 _ rfl
      have q2 : wr.cell? ⟨b, off + q * 5 + 2, none⟩ = some (.int .i64 z2) := hcl 2 _ rfl
      have q3 : wr.cell? ⟨b, off + q * 5 + 3, none⟩ = some (.slice a3 n3 p3) := hcl 3 _ rfl
      have q4 : wr.cell? ⟨b, off + q * 5 + 4, none⟩ = some (.slice a4 n4 p4) := hcl 4 _ rfl
      clear hR hcl hr hm htr hsz g0 g1 g2 g3 g4 t3 t4
      generalize wt (rowU cs 5 q) = m at *
      have hneg0 := fun h => leftI_neg (x := x) (a := m) (wt (cs.dropN ((q + 1) * 5))) hx0 h
      have hpos0 := fun h => leftI_pos (x := x) (a := m) (wt (cs.dropN ((q + 1) * 5))) h
      have hle0 : leftI x m ≤ x := by unfold leftI; split <;> omega
      generalize leftI x m = y at *
      by_cases hneg : y < 0
      · have hr : Hid (leftI left (n + wt cs) = -1) := by show _ = _; rw [Hs.out, hw]; exact hneg0 hneg
        clear hw Hs E hneg0 hpos0
        go_wp2_with fail
        refine (Hcon.out _ (by repeat (first | exact Below.refl _ _ | refine Below.alloc ?_ (by simp) _))).mono ?_
        rintro e w1 ⟨rfl, hb⟩
        go_wp2
        go_ret
        exact ⟨ret_intU hr.out.symm, hbw.trans (hb.mono hbw.size)⟩
      · have hr : Hid (leftI left (n + wt cs) = leftI y (wt (cs.dropN ((q + 1) * 5)))) := by
          show _ = _
          rw [Hs.out, hw]; exact (hpos0 hneg).1
        clear hw Hs E hneg0 hpos0
        go_wp2_with fail
        refine (Hcon.out _ (by repeat (first | exact Below.refl _ _ | refine Below.alloc ?_ (by simp) _))).mono ?_
        rintro e w1 ⟨rfl, hb⟩
        go_wp2
        go_roundw
        case rel => exact ⟨q + 1, _, by omega, by go_num, rfl, by omega, by omega, hr, hbw.trans (hb.mono hbw.size)⟩
        case measure => simp [intOf]; omega
    · have e : q = n := by omega
      subst e
      have hr : Hid (leftI left (q + wt cs) = x) := by
        show _ = _
        rw [Hs.out, ← Ht.out.2.2.2.1, UD.dropN_all]
        exact leftI_zero hx0
      clear Hs E
      go_wp2
      go_ret
      exact ⟨ret_intU hr.out.symm, hbw⟩
theorem uszValueS_any {lo hi : Nat} (n : Nat) (cs : UD) (c : Value) (left : Int) (w : World) (ht : tyS 5 n cs 6) (h0 : 0 ≤ left) (h1 : left ≤ 1048576) (hx : uS w lo hi 5 n cs c) :
    Calls Try.prog 89 #[c, .int .i64 left] w fun e w' => e = .returned (.int .i64 (leftI left (n + wt cs))) ∧ Below w.heap.size w w' := uszValueS_N (uszD cs + 1) n cs c left w (by omega) ht h0 h1 hx
theorem uszValue_any {lo hi : Nat} (d : UD) (xs : List Value) (left : Int) (w : World) (ht : tyL d (uE 6)) (hx : uH w lo hi d xs) (h0 : 0 ≤ left) (h1 : left ≤ 1048576) :
    Calls Try.prog 75 #[.agg xs.toArray, .int .i64 left] w fun e w' => e = .returned (.int .i64 (leftI left (wt d))) ∧ Below w.heap.size w w' := uszValue_of d xs left w (fun n4 c4 x4 l wx _ ht4 q0 q1 hs => uszValueS_any n4 c4 x4 l wx ht4 q0 q1 hs) ht hx h0 h1
set_option maxHeartbeats 800000 in
theorem ueqValue_of {lo hi lo' hi' : Nat} (d : UD) (xs ys : List Value) (w : World) (ih : ∀ (n4 : Nat) (c4 : UD) (x4 y4 : Value) (wx : World), uszD c4 < uszD d → tyS 5 n4 c4 6 → uS wx lo hi 5 n4 c4 x4 → uS wx lo' hi' 5 n4 c4 y4 → Calls Try.prog 73 #[x4, y4] wx fun e w' => e = .returned (.bool true) ∧ Below wx.heap.size wx w') (ht : tyL d (uE 6)) (hx : uH w lo hi d xs) (hy : uH w lo' hi' d ys) :
    Calls Try.prog 50 #[.agg xs.toArray, .agg ys.toArray] w fun e w' => e = .returned (.bool true) ∧ Below w.heap.size w w' := by
  obtain ⟨z0, z1, z2, n3, c3, n4, c4, rfl, g0, g1, g2, g3, g4⟩ := partsValue ht
  obtain ⟨_, rfl, ⟨_, rfl, ⟨_, rfl, ⟨v3l, _, rfl, s3l, ⟨v4l, _, rfl, s4l, rfl⟩⟩⟩⟩⟩ := hx
  obtain ⟨a3l, p3l, rfl, t3l⟩ := s3l
  obtain ⟨a4l, p4l, rfl, t4l⟩ := s4l
  obtain ⟨_, rfl, ⟨_, rfl, ⟨_, rfl, ⟨v3r, _, rfl, s3r, ⟨v4r, _, rfl, s4r, rfl⟩⟩⟩⟩⟩ := hy
  obtain ⟨a3r, p3r, rfl, t3r⟩ := s3r
  obtain ⟨a4r, p4r, rfl, t4r⟩ := s4r
  have HC0 : Hid (∀ wx : World, Below w.heap.size w wx → Calls Try.prog 49 #[.slice a3l n3 p3l, .slice a3r n3 p3r] wx fun e w' => e = .returned (.bool true) ∧ Below wx.heap.size wx w') := fun wx hb => ueqStringS_any (lo := lo) (hi := hi) (lo' := lo') (hi' := hi') n3 c3 _ _ wx g3 ((show uS w lo hi 1 n3 c3 (.slice a3l n3 p3l) from ⟨_, _, rfl, t3l⟩).below hb) ((show uS w lo' hi' 1 n3 c3 (.slice a3r n3 p3r) from ⟨_, _, rfl, t3r⟩).below hb)
  have HC1 : Hid (∀ wx : World, Below w.heap.size w wx → Calls Try.prog 73 #[.slice a4l n4 p4l, .slice a4r n4 p4r] wx fun e w' => e = .returned (.bool true) ∧ Below wx.heap.size wx w') := fun wx hb => ih n4 c4 _ _ wx (by simp only [uszD]; omega) g4 ((show uS w lo hi 5 n4 c4 (.slice a4l n4 p4l) from ⟨_, _, rfl, t4l⟩).below hb) ((show uS w lo' hi' 5 n4 c4 (.slice a4r n4 p4r) from ⟨_, _, rfl, t4r⟩).below hb)
  have e0 : (z0 != z0) = false := by simp
  have e1 : (z1.toList == z1.toList) = true := by simp
  have e2 : (z2 != z2) = false := by simp
  have HB : Hid (∀ o o', Below w.heap.size w ((w.alloc o).alloc o')) := fun o o' => ((Below.refl _ _).alloc (Nat.le_refl _) _).alloc (by simp) _
  clear g0 g1 g2 g3 g4 t3l t3r t4l t4r ih
  go_enter Try.func50, Try.ntmps50
  go_wp2_with fail
  refine (HC0.out _ (HB.out _ _)).mono ?_
  rintro e w1 ⟨rfl, hb1⟩
  have b4 : w1.cell? ⟨w.heap.size, 4, none⟩ = some (.slice a4l n4 p4l) := (hb1.cell (p := ⟨w.heap.size, 4, none⟩) (by simp <;> omega)).trans (by simp [go_sem])
  have d4 : w1.cell? ⟨w.heap.size + 1, 4, none⟩ = some (.slice a4r n4 p4r) := (hb1.cell (p := ⟨w.heap.size + 1, 4, none⟩) (by simp <;> omega)).trans (by simp [go_sem])
  have B1 : Hid (Below w.heap.size w w1) := (HB.out _ _).trans (hb1.mono (by simp; omega))
  clear hb1
  go_wp2_with fail
  refine (HC1.out _ B1.out).mono ?_
  rintro e w2 ⟨rfl, hb2⟩
  have B2 : Hid (Below w.heap.size w w2) := B1.out.trans (hb2.mono B1.out.size)
  clear hb2
  go_wp2
  go_ret
  exact ⟨rfl, B2.out⟩
set_option maxHeartbeats 800000 in
theorem ueqValueS_N {lo hi lo' hi' : Nat} : ∀ (N : Nat) (n : Nat) (cs : UD) (c c' : Value) (w : World), uszD cs < N → tyS 5 n cs 6 → uS w lo hi 5 n cs c → uS w lo' hi' 5 n cs c' →
    Calls Try.prog 73 #[c, c'] w fun e w' => e = .returned (.bool true) ∧ Below w.heap.size w w' := by
  intro N
  induction N with
  | zero => intro n cs c c' w hN; omega
  | succ N ihN =>
  intro n cs c c' w hN ht hx hy
  have HI := uhide ihN
  clear ihN
  obtain ⟨a, cap, rfl, hx2⟩ := hx
  obtain ⟨a', cap', rfl, hy2⟩ := hy
  have Hx : Hid (uS w lo hi 5 n cs (.slice a n cap)) := ⟨a, cap, rfl, hx2⟩
  have Hy : Hid (uS w lo' hi' 5 n cs (.slice a' n cap')) := ⟨a', cap', rfl, hy2⟩
  have hmx := ht.2.2.1
  unfold maxLen at hmx
  have Ht := uhide ht
  have hb0 : ((n : Int) != (n : Int)) = false := by simp
  clear hx2 hy2 ht
  go_enter Try.func73, Try.ntmps73
  go_wp2
  go_loopw [5] (fun i wr => ∃ (q : Nat), q ≤ n ∧ i = .int .i64 q ∧ Below w.heap.size w wr) (fun i _ => n - (intOf i).toNat)
  case atStart => exact ⟨0, Nat.zero_le _, rfl, Below.refl _ _⟩
  case round =>
    obtain ⟨q, hq, rfl, hbw⟩ := hrel
    by_cases hlt : q < n
    · obtain ⟨b, off, rfl, hbb, hm⟩ := (Hx.out.below hbw).cells (by omega)
      obtain ⟨b', off', rfl, hbb', hm'⟩ := (Hy.out.below hbw).cells (by omega)
      have htr := Ht.out.row hlt
      have hsz := uszD_row cs 5 q
      obtain ⟨xs, hh, hcl⟩ := (hm.row 5 q).hand
      obtain ⟨ys, hh', hcl'⟩ := (hm'.row 5 q).hand
      have Hcon : Hid (∀ wx, Below wr.heap.size wr wx → Calls Try.prog 50 #[.agg xs.toArray, .agg ys.toArray] wx fun e w' => e = .returned (.bool true) ∧ Hid (Below w.heap.size w w')) := fun wx hb => (ueqValue_of (lo := lo) (hi := hi) (lo' := lo') (hi' := hi') _ _ _ wx (fun n4 c4 x4 y4 wy hlt ht4 s1 s2 => HI.out n4 c4 x4 y4 wy (by omega) ht4 s1 s2) htr (hh.below hb) (hh'.below hb)).mono fun e w' h => ⟨h.1, (hbw.trans (hb.mono hbw.size)).trans (h.2.mono (Nat.le_trans hbw.size hb.size))⟩
      obtain ⟨z0, z1, z2, n3, c3, n4, c4, hR, g0, g1, g2, g3, g4⟩ := partsValue htr
      rw [hR] at hh hh'
      obtain ⟨_, rfl, ⟨_, rfl, ⟨_, rfl, ⟨v3l, _, rfl, s3l, ⟨v4l, _, rfl, s4l, rfl⟩⟩⟩⟩⟩ := hh
      obtain ⟨a3l, p3l, rfl, t3l⟩ := s3l
      obtain ⟨a4l, p4l, rfl, t4l⟩ := s4l
      obtain ⟨_, rfl, ⟨_, rfl, ⟨_, rfl, ⟨v3r, _, rfl, s3r, ⟨v4r, _, rfl, s4r, rfl⟩⟩⟩⟩⟩ := hh'
      obtain ⟨a3r, p3r, rfl, t3r⟩ := s3r
      obtain ⟨a4r, p4r, rfl, t4r⟩ := s4r
      have q0 : wr.cell? ⟨b, off + q * 5, none⟩ = some (.int .i64 z0) := hcl 0 _ rfl
      have q1 : wr.cell? ⟨b, off + q * 5 + 1, none⟩ = some (.string z1) := hcl 1 _ rfl
      have q2 : wr.cell? ⟨b, off + q * 5 + 2, none⟩ = some (.int .i64 z2) := hcl 2 _ rfl
      have q3 : wr.cell? ⟨b, off + q * 5 + 3, none⟩ = some (.slice a3l n3 p3l) := hcl 3 _ rfl
      have q4 : wr.cell? ⟨b, off + q * 5 + 4, none⟩ = some (.slice a4l n4 p4l) := hcl 4 _ rfl
      have r0 : wr.cell? ⟨b', off' + q * 5, none⟩ = some (.int .i64 z0) := hcl' 0 _ rfl
      have r1 : wr.cell? ⟨b', off' + q * 5 + 1, none⟩ = some (.string z1) := hcl' 1 _ rfl
      have r2 : wr.cell? ⟨b', off' + q * 5 + 2, none⟩ = some (.int .i64 z2) := hcl' 2 _ rfl
      have r3 : wr.cell? ⟨b', off' + q * 5 + 3, none⟩ = some (.slice a3r n3 p3r) := hcl' 3 _ rfl
      have r4 : wr.cell? ⟨b', off' + q * 5 + 4, none⟩ = some (.slice a4r n4 p4r) := hcl' 4 _ rfl
      clear hR hcl hcl' hm hm' htr hsz g0 g1 g2 g3 g4 t3l t3r t4l t4r
      clear Hx Hy Ht
      go_wp2
      go_region_with (go_at_call 50; refine (Hcon.out _ (by repeat (first | exact Below.refl _ _ | refine Below.drew ?_ | refine below_drewN ?_ _))).mono ?_; rintro e w2 ⟨rfl, hb2⟩)
      all_goals go_wp2
      all_goals (
        go_roundw
        case rel => exact ⟨q + 1, by omega, by go_num, by repeat (first | exact hb2.out | refine Below.drew ?_ | refine below_drewN ?_ _)⟩
        case measure => simp [intOf]; omega)
    · have e : q = n := by omega
      subst e
      go_wp2
      go_ret
      exact ⟨rfl, hbw⟩
theorem ueqValueS_any {lo hi lo' hi' : Nat} (n : Nat) (cs : UD) (c c' : Value) (w : World) (ht : tyS 5 n cs 6) (hx : uS w lo hi 5 n cs c) (hy : uS w lo' hi' 5 n cs c') :
    Calls Try.prog 73 #[c, c'] w fun e w' => e = .returned (.bool true) ∧ Below w.heap.size w w' := ueqValueS_N (uszD cs + 1) n cs c c' w (by omega) ht hx hy
theorem ueqValue_any {lo hi lo' hi' : Nat} (d : UD) (xs ys : List Value) (w : World) (ht : tyL d (uE 6)) (hx : uH w lo hi d xs) (hy : uH w lo' hi' d ys) :
    Calls Try.prog 50 #[.agg xs.toArray, .agg ys.toArray] w fun e w' => e = .returned (.bool true) ∧ Below w.heap.size w w' := ueqValue_of d xs ys w (fun n4 c4 x4 y4 wx _ ht4 s1 s2 => ueqValueS_any n4 c4 x4 y4 wx ht4 s1 s2) ht hx hy
set_option maxHeartbeats 800000 in
theorem uheldValue_of {lo hi : Nat} (d : UD) (k0 : Nat) (xs : List Value) (w : World) (ih : ∀ (n4 j4 : Nat) (c4 : UD) (x4 : Value) (wx : World), uszD c4 < uszD d → tyS 5 n4 c4 6 → 1 ≤ j4 → j4 + cnt c4 ≤ 100000000 → uS wx lo hi 5 n4 (mk c4 j4) x4 → Calls Try.prog 57 #[x4, .int .i64 j4] wx fun e w' => e = .returned (.int .i64 (j4 + cnt c4 : Nat)) ∧ Below wx.heap.size wx w') (ht : tyL d (uE 6)) (hk0 : 1 ≤ k0) (hk1 : k0 + cntT d ≤ 100000000) (hx : uH w lo hi (mkT d k0) xs) :
    Calls Try.prog 54 #[.agg xs.toArray, .int .i64 k0] w fun e w' => e = .returned (.int .i64 (k0 + cntT d : Nat)) ∧ Below w.heap.size w w' := by
  obtain ⟨z0, z1, z2, n3, c3, n4, c4, rfl, g0, g1, g2, g3, g4⟩ := partsValue ht
  obtain ⟨_, rfl, ⟨_, rfl, ⟨_, rfl, ⟨v3, _, rfl, s3, ⟨v4, _, rfl, s4, rfl⟩⟩⟩⟩⟩ := hx
  obtain ⟨a3, p3, rfl, t3⟩ := s3
  obtain ⟨a4, p4, rfl, t4⟩ := s4
  simp only [cntT] at hk1
  have HC0 : Hid (∀ (wx : World) (x : Int), Below w.heap.size w wx → x = ((k0 : Nat) : Int) → Calls Try.prog 53 #[.slice a3 n3 p3, .int .i64 x] wx fun e w' => e = .returned (.int .i64 ((k0 + cnt c3) : Nat)) ∧ Below wx.heap.size wx w') := fun wx x hb hx => by rw [hx]; exact uheldStringS_any (lo := lo) (hi := hi) n3 k0 c3 _ wx g3 (by omega) (by omega) ((show uS w lo hi 1 n3 (mk c3 k0) (.slice a3 n3 p3) from ⟨_, _, rfl, t3⟩).below hb)
  have HC1 : Hid (∀ (wx : World) (x : Int), Below w.heap.size w wx → x = (((k0 + cnt c3) : Nat) : Int) → Calls Try.prog 57 #[.slice a4 n4 p4, .int .i64 x] wx fun e w' => e = .returned (.int .i64 (((k0 + cnt c3) + cnt c4) : Nat)) ∧ Below wx.heap.size wx w') := fun wx x hb hx => by rw [hx]; exact ih n4 (k0 + cnt c3) c4 _ wx (by simp only [uszD]; omega) g4 (by omega) (by omega) ((show uS w lo hi 5 n4 (mk c4 (k0 + cnt c3)) (.slice a4 n4 p4) from ⟨_, _, rfl, t4⟩).below hb)
  have HE : Hid ((((k0 + cnt c3) + cnt c4) : Nat) = k0 + cntT (.p (.int .i64 z0) (.p (.string z1) (.p (.int .i64 z2) (.l 1 n3 c3 (.l 5 n4 c4 .nil)))))) := by show _ = _; simp only [cntT]; omega
  generalize k0 + cntT (.p (.int .i64 z0) (.p (.string z1) (.p (.int .i64 z2) (.l 1 n3 c3 (.l 5 n4 c4 .nil))))) = R at *
  have HA : Hid (∀ o, Below w.heap.size w (w.alloc o)) := fun o => (Below.refl _ _).alloc (Nat.le_refl _) _
  clear g0 g1 g2 g3 g4 t3 t4 ih
  generalize cnt c3 = m3 at *
  generalize cnt c4 = m4 at *
  go_enter Try.func54, Try.ntmps54
  go_wp2_with fail
  refine (HC0.out _ _ (HA.out _) (by omega)).mono ?_
  rintro e w1 ⟨rfl, hb1⟩
  have b4 : w1.cell? ⟨w.heap.size, 4, none⟩ = some (.slice a4 n4 p4) := (hb1.cell (p := ⟨w.heap.size, 4, none⟩) (by simp <;> omega)).trans (by simp [go_sem])
  have B1 : Hid (Below w.heap.size w w1) := (HA.out _).trans (hb1.mono (by simp <;> omega))
  clear hb1
  go_wp2_with fail
  refine (HC1.out _ _ B1.out (by omega)).mono ?_
  rintro e w2 ⟨rfl, hb2⟩
  have B2 : Hid (Below w.heap.size w w2) := B1.out.trans (hb2.mono B1.out.size)
  clear hb2
  go_wp2
  go_ret
  exact ⟨ret_intU (by have := HE.out; omega), B2.out⟩
set_option maxHeartbeats 1600000 in
theorem uheldValueS_N {lo hi : Nat} : ∀ (N : Nat) (n k0 : Nat) (cs : UD) (c : Value) (w : World), uszD cs < N → tyS 5 n cs 6 → 1 ≤ k0 → k0 + cnt cs ≤ 100000000 → uS w lo hi 5 n (mk cs k0) c →
    Calls Try.prog 57 #[c, .int .i64 k0] w fun e w' => e = .returned (.int .i64 (k0 + cnt cs : Nat)) ∧ Below w.heap.size w w' := by
  intro N
  induction N with
  | zero => intro n k0 cs c w hN; omega
  | succ N ihN =>
  intro n k0 cs c w hN ht hk0 hk1 hx
  have HI := uhide ihN
  clear ihN
  obtain ⟨a, cap, rfl, hx2⟩ := hx
  have Hx : Hid (uS w lo hi 5 n (mk cs k0) (.slice a n cap)) := ⟨a, cap, rfl, hx2⟩
  have hmx := ht.2.2.1
  unfold maxLen at hmx
  have Ht := uhide ht
  have Hkk : Hid (∀ q, k0 + cnt (cs.takeN (q * 5)) ≤ 100000000) := fun q => by have := cnt_le cs (q * 5); omega
  clear hx2 ht
  go_enter Try.func57, Try.ntmps57
  go_wp2
  go_loopw [1, 5] (fun s i wr => ∃ (q : Nat), q ≤ n ∧ i = .int .i64 q ∧ s = .int .i64 (k0 + cnt (cs.takeN (q * 5)) : Nat) ∧ Below w.heap.size w wr) (fun _ i _ => n - (intOf i).toNat)
  case atStart => exact ⟨0, Nat.zero_le _, rfl, by rw [Nat.zero_mul]; rfl, Below.refl _ _⟩
  case round =>
    obtain ⟨q, hq, rfl, rfl, hbw⟩ := hrel
    by_cases hlt : q < n
    · obtain ⟨b, off, rfl, hbb, hm⟩ := (Hx.out.below hbw).cells (by omega)
      have htr := Ht.out.row hlt
      have hsz := uszD_row cs 5 q
      have hkn := cnt_row cs 5 q
      have hkb := Hkk.out (q + 1)
      have hkr := hkn
      have hrow := hm.row 5 q
      rw [mk_row] at hrow
      obtain ⟨z0, z1, z2, n3, c3, n4, c4, hR, g0, g1, g2, g3, g4⟩ := partsValue htr
      rw [hR] at hrow hkn hsz
      simp only [cnt, Nat.add_zero] at hkn
      obtain ⟨xs, hh, hcl⟩ := hrow.hand
      obtain ⟨_, rfl, ⟨_, rfl, ⟨_, rfl, ⟨v3, _, rfl, s3, ⟨v4, _, rfl, s4, rfl⟩⟩⟩⟩⟩ := hh
      obtain ⟨a3, p3, rfl, t3⟩ := s3
      obtain ⟨a4, p4, rfl, t4⟩ := s4
      generalize hKd : k0 + cnt (cs.takeN (q * 5)) = kq at *
      have hK0 : 1 ≤ kq := by omega
      have hend : k0 + cnt (cs.takeN ((q + 1) * 5)) = (((((kq + 1) + 1) + 1) + cnt c3) + cnt c4) := by rw [hkn]; omega
      rw [hend] at hkb
      have q0 : wr.cell? ⟨b, off + q * 5, none⟩ = some (.int .i64 (kq : Nat)) := (show wr.cell? ⟨b, off + q * 5, none⟩ = _ from hcl 0 _ rfl).trans (congrArg some (mkP_int _ _ (by omega)))
      have q1 : wr.cell? ⟨b, off + q * 5 + 1, none⟩ = some (.string (umtx (kq + 1))) := hcl 1 _ rfl
      have q2 : wr.cell? ⟨b, off + q * 5 + 2, none⟩ = some (.int .i64 (((kq + 1) + 1) : Nat)) := (show wr.cell? ⟨b, off + q * 5 + 2, none⟩ = _ from hcl 2 _ rfl).trans (congrArg some (mkP_int _ _ (by omega)))
      have q3 : wr.cell? ⟨b, off + q * 5 + 3, none⟩ = some (.slice a3 n3 p3) := hcl 3 _ rfl
      have q4 : wr.cell? ⟨b, off + q * 5 + 4, none⟩ = some (.slice a4 n4 p4) := hcl 4 _ rfl
      have HQ : Hid (∀ wx, Below wr.heap.size wr wx → wx.cell? ⟨b, off + q * 5, none⟩ = some (.int .i64 (kq : Nat)) ∧ wx.cell? ⟨b, off + q * 5 + 1, none⟩ = some (.string (umtx (kq + 1))) ∧ wx.cell? ⟨b, off + q * 5 + 2, none⟩ = some (.int .i64 (((kq + 1) + 1) : Nat)) ∧ wx.cell? ⟨b, off + q * 5 + 3, none⟩ = some (.slice a3 n3 p3) ∧ wx.cell? ⟨b, off + q * 5 + 4, none⟩ = some (.slice a4 n4 p4)) := fun wx hb => ⟨(hb.cell (p := ⟨b, off + q * 5, none⟩) hbb).trans q0, (hb.cell (p := ⟨b, off + q * 5 + 1, none⟩) hbb).trans q1, (hb.cell (p := ⟨b, off + q * 5 + 2, none⟩) hbb).trans q2, (hb.cell (p := ⟨b, off + q * 5 + 3, none⟩) hbb).trans q3, (hb.cell (p := ⟨b, off + q * 5 + 4, none⟩) hbb).trans q4⟩
      have HC1 : Hid (∀ (wx : World) (x : Int), Below wr.heap.size wr wx → x = (((kq + 1) : Nat) : Int) → Calls Try.prog 55 #[.int .i64 x] wx fun e w' => e = .returned (.string (umtx (kq + 1))) ∧ Hid (Below wr.heap.size wr w')) := fun wx x hb hx => by rw [hx]; exact (umarkText_any _ wx (by omega) (by omega)).mono fun e w' h => ⟨h.1, hb.trans (h.2.mono hb.size)⟩
      have HC3 : Hid (∀ (wx : World) (x : Int), Below wr.heap.size wr wx → x = (((((kq + 1) + 1) + 1) : Nat) : Int) → Calls Try.prog 53 #[.slice a3 n3 p3, .int .i64 x] wx fun e w' => e = .returned (.int .i64 (((((kq + 1) + 1) + 1) + cnt c3 : Nat))) ∧ Hid (Below wr.heap.size wr w')) := fun wx x hb hx => by rw [hx]; exact (uheldStringS_any (lo := lo) (hi := hi) n3 (((kq + 1) + 1) + 1) c3 _ wx g3 (by omega) (by omega) ((show uS wr lo hi 1 n3 (mk c3 (((kq + 1) + 1) + 1)) (.slice a3 n3 p3) from ⟨_, _, rfl, t3⟩).below hb)).mono fun e w' h => ⟨h.1, hb.trans (h.2.mono hb.size)⟩
      have HC4 : Hid (∀ (wx : World) (x : Int), Below wr.heap.size wr wx → x = ((((((kq + 1) + 1) + 1) + cnt c3) : Nat) : Int) → Calls Try.prog 57 #[.slice a4 n4 p4, .int .i64 x] wx fun e w' => e = .returned (.int .i64 ((((((kq + 1) + 1) + 1) + cnt c3) + cnt c4 : Nat))) ∧ Hid (Below wr.heap.size wr w')) := fun wx x hb hx => by rw [hx]; exact (HI.out n4 ((((kq + 1) + 1) + 1) + cnt c3) c4 _ wx (by simp only [uszD] at hsz; omega) g4 (by omega) (by omega) ((show uS wr lo hi 5 n4 (mk c4 ((((kq + 1) + 1) + 1) + cnt c3)) (.slice a4 n4 p4) from ⟨_, _, rfl, t4⟩).below hb)).mono fun e w' h => ⟨h.1, hb.trans (h.2.mono hb.size)⟩
      have HN := uhide hend
      clear hR hcl hm htr hsz hkn hkr hrow hend hKd Hx Ht Hkk g0 g1 g2 g3 g4 t3 t4
      generalize umtx (kq + 1) = M1 at *
      have E1 : (M1.toList == M1.toList) = true := by simp
      generalize cnt c3 = m3 at *
      generalize cnt c4 = m4 at *
      have hbq : Hid (Below wr.heap.size wr wr) := Below.refl _ _
      go_wp2
      go_region_with (go_at_call 55; refine (HC1.out _ _ (by repeat (first | assumption | exact Below.refl _ _ | exact hbq.out | refine Below.drew ?_ | refine below_drewN ?_ _)) (by omega)).mono ?_; rintro e1 w2 ⟨rfl, hb2⟩; obtain ⟨q0, q1, q2, q3, q4⟩ := HQ.out _ hb2.out)
      all_goals (
        replace hbq := hb2
        go_wp2_with fail
        refine (HC3.out _ _ (by repeat (first | assumption | exact Below.refl _ _ | exact hbq.out | refine Below.drew ?_ | refine below_drewN ?_ _)) (by omega)).mono ?_
        rintro e1 w6 ⟨rfl, hbn3⟩
        obtain ⟨q0, q1, q2, q3, q4⟩ := HQ.out _ hbn3.out
        replace hbq := hbn3
        go_wp2_with fail
        refine (HC4.out _ _ (by repeat (first | assumption | exact Below.refl _ _ | exact hbq.out | refine Below.drew ?_ | refine below_drewN ?_ _)) (by omega)).mono ?_
        rintro e1 w7 ⟨rfl, hbn4⟩
        obtain ⟨q0, q1, q2, q3, q4⟩ := HQ.out _ hbn4.out
        replace hbq := hbn4
        go_wp2
        go_roundw
        case rel => exact ⟨q + 1, by omega, by go_num, by rw [HN.out]; go_num, hbw.trans ((show Below wr.heap.size wr _ from (by repeat (first | assumption | exact Below.refl _ _ | exact hbq.out | refine Below.drew ?_ | refine below_drewN ?_ _))).mono hbw.size)⟩
        case measure => (simp [intOf]; omega))
    · have e : q = n := by omega
      subst e
      have hl : cs.takeN (q * 5) = cs := by apply UD.ext; unfold UD.takeN; rw [UD.toL_ofL]; exact List.take_of_length_le (Nat.le_of_eq Ht.out.2.2.2.1)
      rw [hl]
      clear hl Ht Hkk Hx
      go_wp2
      go_ret
      exact ⟨rfl, hbw⟩
theorem uheldValueS_any {lo hi : Nat} (n k0 : Nat) (cs : UD) (c : Value) (w : World) (ht : tyS 5 n cs 6) (hk0 : 1 ≤ k0) (hk1 : k0 + cnt cs ≤ 100000000) (hx : uS w lo hi 5 n (mk cs k0) c) :
    Calls Try.prog 57 #[c, .int .i64 k0] w fun e w' => e = .returned (.int .i64 (k0 + cnt cs : Nat)) ∧ Below w.heap.size w w' := uheldValueS_N (uszD cs + 1) n k0 cs c w (by omega) ht hk0 hk1 hx
theorem uheldValue_any {lo hi : Nat} (d : UD) (k0 : Nat) (xs : List Value) (w : World) (ht : tyL d (uE 6)) (hk0 : 1 ≤ k0) (hk1 : k0 + cntT d ≤ 100000000) (hx : uH w lo hi (mkT d k0) xs) :
    Calls Try.prog 54 #[.agg xs.toArray, .int .i64 k0] w fun e w' => e = .returned (.int .i64 (k0 + cntT d : Nat)) ∧ Below w.heap.size w w' := uheldValue_of d k0 xs w (fun n4 j4 c4 x4 wx _ ht4 s1 s2 s3 => uheldValueS_any n4 j4 c4 x4 wx ht4 s1 s2 s3) ht hk0 hk1 hx
set_option maxHeartbeats 800000 in
theorem umarkValue_of (d : UD) (k0 : Nat) (xs : List Value) (S : List Nat) (w : World) (ih : ∀ (n4 j4 : Nat) (c4 : UD) (x4 : Value) (S4 : List Nat) (wx : World), uszD c4 < uszD d → tyS 5 n4 c4 6 → S4.Nodup → 1 ≤ j4 → j4 + cnt c4 ≤ 100000000 → oS wx 5 n4 c4 x4 S4 → Calls Try.prog 56 #[x4, .int .i64 j4] wx fun e w' => e = .returned (.int .i64 (j4 + cnt c4 : Nat)) ∧ oS w' 5 n4 (mk c4 j4) x4 S4 ∧ OutS S4 wx w') (ht : tyL d (uE 6)) (hnd : S.Nodup) (hk0 : 1 ≤ k0) (hk1 : k0 + cntT d ≤ 100000000) (hx : oH w d xs S) :
    Calls Try.prog 52 #[.agg xs.toArray, .int .i64 k0] w fun e w' => e = .returned (.int .i64 (k0 + cntT d : Nat)) ∧ oH w' (mkT d k0) xs S ∧ OutS S w w' := by
  obtain ⟨z0, z1, z2, n3, c3, n4, c4, rfl, g0, g1, g2, g3, g4⟩ := partsValue ht
  have hx' := hx
  obtain ⟨_, rfl, ⟨_, rfl, ⟨_, rfl, ⟨v3, _, _, _, rfl, _, _, ⟨_, _, o3, _⟩, ⟨v4, _, _, _, rfl, _, _, ⟨_, _, o4, _⟩, ⟨rfl, _⟩⟩⟩⟩⟩⟩ := hx'
  obtain ⟨a3, p3, rfl⟩ := uowns_slice o3
  clear o3
  obtain ⟨a4, p4, rfl⟩ := uowns_slice o4
  clear o4
  simp only [cntT] at hk1
  have hlt := hx.lt
  have HC0 : Hid (∀ (wx : World) (x : Int), oH wx (.p (.int .i64 z0) (.p (.string z1) (.p (.int .i64 z2) (.l 1 n3 c3 (.l 5 n4 c4 .nil))))) [.int .i64 z0, .string z1, .int .i64 z2, .slice a3 n3 p3, .slice a4 n4 p4] S → x = ((k0 : Nat) : Int) → Calls Try.prog 51 #[.slice a3 n3 p3, .int .i64 x] wx fun e w' => e = .returned (.int .i64 ((k0 + cnt c3) : Nat)) ∧ oH w' (.p (.int .i64 z0) (.p (.string z1) (.p (.int .i64 z2) (.l 1 n3 (mk c3 k0) (.l 5 n4 c4 .nil))))) [.int .i64 z0, .string z1, .int .i64 z2, .slice a3 n3 p3, .slice a4 n4 p4] S ∧ OutS S wx w') := by
    intro wx x h hxx
    rw [hxx]
    obtain ⟨c', T, q1, q2, q3, q4, q5⟩ := h.part hnd 3 1 n3 c3 rfl
    cases q1
    exact (umarkStringS_any n3 k0 c3 _ T wx g3 q3 (by omega) (by omega) q2).mono fun e w' h => ⟨h.1, q5 w' _ h.2.2 h.2.1, h.2.2.mono q4⟩
  have HC1 : Hid (∀ (wx : World) (x : Int), oH wx (.p (.int .i64 z0) (.p (.string z1) (.p (.int .i64 z2) (.l 1 n3 (mk c3 k0) (.l 5 n4 c4 .nil))))) [.int .i64 z0, .string z1, .int .i64 z2, .slice a3 n3 p3, .slice a4 n4 p4] S → x = (((k0 + cnt c3) : Nat) : Int) → Calls Try.prog 56 #[.slice a4 n4 p4, .int .i64 x] wx fun e w' => e = .returned (.int .i64 (((k0 + cnt c3) + cnt c4) : Nat)) ∧ oH w' (.p (.int .i64 z0) (.p (.string z1) (.p (.int .i64 z2) (.l 1 n3 (mk c3 k0) (.l 5 n4 (mk c4 (k0 + cnt c3)) .nil))))) [.int .i64 z0, .string z1, .int .i64 z2, .slice a3 n3 p3, .slice a4 n4 p4] S ∧ OutS S wx w') := by
    intro wx x h hxx
    rw [hxx]
    obtain ⟨c', T, q1, q2, q3, q4, q5⟩ := h.part hnd 4 5 n4 c4 rfl
    cases q1
    exact (ih n4 (k0 + cnt c3) c4 _ T wx (by simp only [uszD]; omega) g4 q3 (by omega) (by omega) q2).mono fun e w' h => ⟨h.1, q5 w' _ h.2.2 h.2.1, h.2.2.mono q4⟩
  have HE : Hid ((((k0 + cnt c3) + cnt c4) : Nat) = k0 + cntT (.p (.int .i64 z0) (.p (.string z1) (.p (.int .i64 z2) (.l 1 n3 c3 (.l 5 n4 c4 .nil)))))) := by show _ = _; simp only [cntT]; omega
  have HF : Hid (∀ wx, oH wx (.p (.int .i64 z0) (.p (.string z1) (.p (.int .i64 z2) (.l 1 n3 (mk c3 k0) (.l 5 n4 (mk c4 (k0 + cnt c3)) .nil))))) [.int .i64 z0, .string z1, .int .i64 z2, .slice a3 n3 p3, .slice a4 n4 p4] S → oH wx (mkT (.p (.int .i64 z0) (.p (.string z1) (.p (.int .i64 z2) (.l 1 n3 c3 (.l 5 n4 c4 .nil))))) k0) [.int .i64 z0, .string z1, .int .i64 z2, .slice a3 n3 p3, .slice a4 n4 p4] S) := fun wx h => h
  generalize k0 + cntT (.p (.int .i64 z0) (.p (.string z1) (.p (.int .i64 z2) (.l 1 n3 c3 (.l 5 n4 c4 .nil))))) = R at *
  have H0 : Hid (∀ o, oH (w.alloc o) (.p (.int .i64 z0) (.p (.string z1) (.p (.int .i64 z2) (.l 1 n3 c3 (.l 5 n4 c4 .nil))))) [.int .i64 z0, .string z1, .int .i64 z2, .slice a3 n3 p3, .slice a4 n4 p4] S) := fun o => hx.below ((Below.refl _ _).alloc (Nat.le_refl _) _)
  have HS : Hid (w.heap.size ∉ S) := fun h => by have := hlt _ h; omega
  have HO : Hid (∀ o w', OutS S (w.alloc o) w' → OutS S w w') := fun o w' h => (OutS.of_below ((Below.refl _ _).alloc (Nat.le_refl _) _)).trans h
  clear ht hx hlt hnd g0 g1 g2 g3 g4 ih
  go_enter Try.func52, Try.ntmps52
  go_wp2_with fail
  refine (HC0.out _ _ (H0.out _) (by omega)).mono ?_
  rintro e w1 ⟨rfl, h1, ho1⟩
  have b4 : w1.cell? ⟨w.heap.size, 4, none⟩ = some (.slice a4 n4 p4) := (ho1.cell (p := ⟨w.heap.size, 4, none⟩) (by simp) HS.out).trans (by simp [go_sem])
  have I1 := uhide h1
  have B1 : Hid (OutS S w w1) := HO.out _ _ ho1
  clear h1 ho1
  go_wp2_with fail
  refine (HC1.out _ _ I1.out (by omega)).mono ?_
  rintro e w2 ⟨rfl, h2, ho2⟩
  have I2 := uhide h2
  have B2 : Hid (OutS S w w2) := B1.out.trans ho2
  clear h2 ho2
  go_wp2
  go_ret
  exact ⟨ret_intU (by have := HE.out; omega), HF.out _ I2.out, B2.out⟩
set_option maxHeartbeats 1600000 in
theorem umarkValueS_N : ∀ (N : Nat) (n k0 : Nat) (cs : UD) (c : Value) (S : List Nat) (w : World), uszD cs < N → tyS 5 n cs 6 → S.Nodup → 1 ≤ k0 → k0 + cnt cs ≤ 100000000 → oS w 5 n cs c S →
    Calls Try.prog 56 #[c, .int .i64 k0] w fun e w' => e = .returned (.int .i64 (k0 + cnt cs : Nat)) ∧ oS w' 5 n (mk cs k0) c S ∧ OutS S w w' := by
  intro N
  induction N with
  | zero => intro n k0 cs c S w hN; omega
  | succ N ihN =>
  intro n k0 cs c S w hN ht hnd hk0 hk1 hx
  have HI := uhide ihN
  clear ihN
  obtain ⟨a, cap, rfl⟩ := hx.slice
  have hmx := ht.2.2.1
  unfold maxLen at hmx
  rcases Nat.eq_zero_or_pos n with h0 | hpos
  · subst h0
    obtain ⟨e1, e2⟩ := hx.empty rfl k0
    rw [e1, e2]
    have Hx := uhide hx
    clear hx ht hnd e1 e2
    go_enter Try.func56, Try.ntmps56
    go_wp2
    go_loopw [1, 5] (fun s i wr => i = .int .i64 0 ∧ s = .int .i64 k0 ∧ wr = w) (fun _ _ _ => 0)
    case atStart => exact ⟨rfl, rfl, rfl⟩
    case round =>
      obtain ⟨rfl, rfl, rfl⟩ := hrel
      go_wp2
      go_ret
      exact ⟨rfl, Hx.out, OutS.refl _ _⟩
  obtain ⟨e, g, S1, xs0, M0, rfl, hp0, hl0⟩ := MS.start hx hnd hpos k0
  obtain ⟨cap, h1, hgl⟩ := M0.own
  cases h1
  have M0 := uhide M0
  have Ht := uhide ht
  have Hp0 := uhide hp0
  have Hl0 := uhide hl0
  have Hkk : Hid (∀ q, k0 + cnt (cs.takeN (q * 5)) ≤ 100000000) := fun q => by have := cnt_le cs (q * 5); omega
  clear hx ht hnd hp0 hl0
  go_enter Try.func56, Try.ntmps56
  go_wp2
  go_loopw [1, 5] (fun s i wr => ∃ (q : Nat), q ≤ n ∧ i = .int .i64 q ∧ s = .int .i64 (k0 + cnt (cs.takeN (q * 5)) : Nat) ∧ Hid (MS w wr e 5 n (.slice (some ⟨g, 0, none⟩) n cap) g cs k0 S1 xs0 (q * 5))) (fun _ i _ => n - (intOf i).toNat)
  case atStart => exact ⟨0, Nat.zero_le _, rfl, by rw [Nat.zero_mul]; rfl, by rw [Nat.zero_mul]; exact M0⟩
  case round =>
    clear M0
    obtain ⟨q, hq, rfl, rfl, HM⟩ := hrel
    by_cases hlt : q < n
    · have htr := Ht.out.row hlt
      have hsz := uszD_row cs 5 q
      have hkn := cnt_row cs 5 q
      have hkb := Hkk.out (q + 1)
      obtain ⟨z0, z1, z2, n3, c3, n4, c4, hR, g0, g1, g2, g3, g4⟩ := partsValue htr
      rw [hR] at hkn hsz
      simp only [cnt, Nat.add_zero] at hkn
      obtain ⟨kq, hkq⟩ : ∃ kq, k0 + cnt (cs.takeN (q * 5)) = kq := ⟨_, rfl⟩
      have hK0 : 1 ≤ kq := by omega
      have hend : k0 + cnt (cs.takeN ((q + 1) * 5)) = (((((kq + 1) + 1) + 1) + cnt c3) + cnt c4) := by rw [hkn]; omega
      rw [hend] at hkb
      have at0 : cs.at? (q * 5) = some (.p (.int .i64 z0)) := by rw [show q * 5 = q * 5 + 0 from rfl]; rw [← rowU_at cs 5 q 0 (by omega), hR]; rfl
      have ct0 : k0 + cnt (cs.takeN (q * 5)) = kq := by exact hkq
      have x0 := Hp0.out _ _ at0
      have at1 : cs.at? (q * 5 + 1) = some (.p (.string z1)) := by rw [← rowU_at cs 5 q 1 (by omega), hR]; rfl
      have ct1 : k0 + cnt (cs.takeN (q * 5 + 1)) = (kq + 1) := by rw [cnt_at cs 5 q 1 (by omega), hR]; show k0 + (cnt (cs.takeN (q * 5)) + cnt (.p (.int .i64 z0) .nil)) = _; simp only [cnt]; omega
      have x1 := Hp0.out _ _ at1
      have at2 : cs.at? (q * 5 + 2) = some (.p (.int .i64 z2)) := by rw [← rowU_at cs 5 q 2 (by omega), hR]; rfl
      have ct2 : k0 + cnt (cs.takeN (q * 5 + 2)) = ((kq + 1) + 1) := by rw [cnt_at cs 5 q 2 (by omega), hR]; show k0 + (cnt (cs.takeN (q * 5)) + cnt (.p (.int .i64 z0) (.p (.string z1) .nil))) = _; simp only [cnt]; omega
      have x2 := Hp0.out _ _ at2
      have at3 : cs.at? (q * 5 + 3) = some (.l 1 n3 c3) := by rw [← rowU_at cs 5 q 3 (by omega), hR]; rfl
      have ct3 : k0 + cnt (cs.takeN (q * 5 + 3)) = (((kq + 1) + 1) + 1) := by rw [cnt_at cs 5 q 3 (by omega), hR]; show k0 + (cnt (cs.takeN (q * 5)) + cnt (.p (.int .i64 z0) (.p (.string z1) (.p (.int .i64 z2) .nil)))) = _; simp only [cnt]; omega
      obtain ⟨a3, p3, x3⟩ := Hl0.out _ _ _ _ at3
      have at4 : cs.at? (q * 5 + 4) = some (.l 5 n4 c4) := by rw [← rowU_at cs 5 q 4 (by omega), hR]; rfl
      have ct4 : k0 + cnt (cs.takeN (q * 5 + 4)) = ((((kq + 1) + 1) + 1) + cnt c3) := by rw [cnt_at cs 5 q 4 (by omega), hR]; show k0 + (cnt (cs.takeN (q * 5)) + cnt (.p (.int .i64 z0) (.p (.string z1) (.p (.int .i64 z2) (.l 1 n3 c3 .nil))))) = _; simp only [cnt]; omega
      obtain ⟨a4, p4, x4⟩ := Hl0.out _ _ _ _ at4
      have HP0 : Hid (∀ (wx : World) (u : Value), MS w wx e 5 n (.slice (some ⟨g, 0, none⟩) n cap) g cs k0 S1 xs0 (q * 5) → u = .int .i64 (kq : Nat) → MS w (wx.setCell ⟨g, q * 5, none⟩ u) e 5 n (.slice (some ⟨g, 0, none⟩) n cap) g cs k0 S1 xs0 (q * 5 + 1)) := fun wx u h hu => h.plain at0 (hu.trans (by rw [ct0, mkP_int _ _ (by omega)]))
      have HP1 : Hid (∀ (wx : World) (u : Value), MS w wx e 5 n (.slice (some ⟨g, 0, none⟩) n cap) g cs k0 S1 xs0 (q * 5 + 1) → u = .string (umtx (kq + 1)) → MS w (wx.setCell ⟨g, q * 5 + 1, none⟩ u) e 5 n (.slice (some ⟨g, 0, none⟩) n cap) g cs k0 S1 xs0 (q * 5 + 2)) := fun wx u h hu => h.plain at1 (hu.trans (by rw [ct1]; rfl))
      have HT1 : Hid (∀ (wx : World) (x : Int), x = (((kq + 1) : Nat) : Int) → Calls Try.prog 55 #[.int .i64 x] wx fun e1 w' => e1 = .returned (.string (umtx (kq + 1))) ∧ Below wx.heap.size wx w') := fun wx x hx => by rw [hx]; exact umarkText_any _ wx (by omega) (by omega)
      have HP2 : Hid (∀ (wx : World) (u : Value), MS w wx e 5 n (.slice (some ⟨g, 0, none⟩) n cap) g cs k0 S1 xs0 (q * 5 + 2) → u = .int .i64 (((kq + 1) + 1) : Nat) → MS w (wx.setCell ⟨g, q * 5 + 2, none⟩ u) e 5 n (.slice (some ⟨g, 0, none⟩) n cap) g cs k0 S1 xs0 (q * 5 + 3)) := fun wx u h hu => h.plain at2 (hu.trans (by rw [ct2, mkP_int _ _ (by omega)]))
      have HC3 : Hid (∀ (wx : World) (x : Int), MS w wx e 5 n (.slice (some ⟨g, 0, none⟩) n cap) g cs k0 S1 xs0 (q * 5 + 3) → x = (((((kq + 1) + 1) + 1) : Nat) : Int) → Calls Try.prog 51 #[.slice a3 n3 p3, .int .i64 x] wx fun e1 w' => e1 = .returned (.int .i64 (((((kq + 1) + 1) + 1) + cnt c3 : Nat))) ∧ Hid (MS w w' e 5 n (.slice (some ⟨g, 0, none⟩) n cap) g cs k0 S1 xs0 (q * 5 + 4))) := by
        intro wx x h hxx
        rw [hxx]
        obtain ⟨c', T, q1, q2, q3, q5⟩ := h.part at3
        rw [x3] at q1
        cases q1
        rw [ct3] at q5
        exact (umarkStringS_any n3 (((kq + 1) + 1) + 1) c3 _ T wx g3 q3 (by omega) (by omega) q2).mono fun e1 w' h => ⟨h.1, q5 w' h.2.2 h.2.1⟩
      have HC4 : Hid (∀ (wx : World) (x : Int), MS w wx e 5 n (.slice (some ⟨g, 0, none⟩) n cap) g cs k0 S1 xs0 (q * 5 + 4) → x = ((((((kq + 1) + 1) + 1) + cnt c3) : Nat) : Int) → Calls Try.prog 56 #[.slice a4 n4 p4, .int .i64 x] wx fun e1 w' => e1 = .returned (.int .i64 ((((((kq + 1) + 1) + 1) + cnt c3) + cnt c4 : Nat))) ∧ Hid (MS w w' e 5 n (.slice (some ⟨g, 0, none⟩) n cap) g cs k0 S1 xs0 (q * 5 + 5))) := by
        intro wx x h hxx
        rw [hxx]
        obtain ⟨c', T, q1, q2, q3, q5⟩ := h.part at4
        rw [x4] at q1
        cases q1
        rw [ct4] at q5
        exact (HI.out n4 ((((kq + 1) + 1) + 1) + cnt c3) c4 _ T wx (by simp only [uszD] at hsz; omega) g4 q3 (by omega) (by omega) q2).mono fun e1 w' h => ⟨h.1, q5 w' h.2.2 h.2.1⟩
      have HQ0 : Hid (∀ wx, MS w wx e 5 n (.slice (some ⟨g, 0, none⟩) n cap) g cs k0 S1 xs0 (q * 5) → wx.cell? ⟨g, q * 5, none⟩ = some (.int .i64 z0) ∧ wx.frozen? ⟨g, q * 5, none⟩ = false ∧ wx.cell? ⟨g, q * 5 + 1, none⟩ = some (.string z1) ∧ wx.frozen? ⟨g, q * 5 + 1, none⟩ = false ∧ wx.cell? ⟨g, q * 5 + 2, none⟩ = some (.int .i64 z2) ∧ wx.frozen? ⟨g, q * 5 + 2, none⟩ = false ∧ wx.cell? ⟨g, q * 5 + 3, none⟩ = some (.slice a3 n3 p3) ∧ wx.frozen? ⟨g, q * 5 + 3, none⟩ = false ∧ wx.cell? ⟨g, q * 5 + 4, none⟩ = some (.slice a4 n4 p4) ∧ wx.frozen? ⟨g, q * 5 + 4, none⟩ = false) := fun wx h => ⟨h.cellAt _ _ (by omega) x0 (by omega), h.fz _, h.cellAt _ _ (by omega) x1 (by omega), h.fz _, h.cellAt _ _ (by omega) x2 (by omega), h.fz _, h.cellAt _ _ (by omega) x3 (by omega), h.fz _, h.cellAt _ _ (by omega) x4 (by omega), h.fz _⟩
      have HQ1 : Hid (∀ wx, MS w wx e 5 n (.slice (some ⟨g, 0, none⟩) n cap) g cs k0 S1 xs0 (q * 5 + 1) → wx.cell? ⟨g, q * 5 + 1, none⟩ = some (.string z1) ∧ wx.frozen? ⟨g, q * 5 + 1, none⟩ = false ∧ wx.cell? ⟨g, q * 5 + 2, none⟩ = some (.int .i64 z2) ∧ wx.frozen? ⟨g, q * 5 + 2, none⟩ = false ∧ wx.cell? ⟨g, q * 5 + 3, none⟩ = some (.slice a3 n3 p3) ∧ wx.frozen? ⟨g, q * 5 + 3, none⟩ = false ∧ wx.cell? ⟨g, q * 5 + 4, none⟩ = some (.slice a4 n4 p4) ∧ wx.frozen? ⟨g, q * 5 + 4, none⟩ = false) := fun wx h => ⟨h.cellAt _ _ (by omega) x1 (by omega), h.fz _, h.cellAt _ _ (by omega) x2 (by omega), h.fz _, h.cellAt _ _ (by omega) x3 (by omega), h.fz _, h.cellAt _ _ (by omega) x4 (by omega), h.fz _⟩
      have HQ4 : Hid (∀ wx, MS w wx e 5 n (.slice (some ⟨g, 0, none⟩) n cap) g cs k0 S1 xs0 (q * 5 + 4) → wx.cell? ⟨g, q * 5 + 4, none⟩ = some (.slice a4 n4 p4) ∧ wx.frozen? ⟨g, q * 5 + 4, none⟩ = false) := fun wx h => ⟨h.cellAt _ _ (by omega) x4 (by omega), h.fz _⟩
      have HN : Hid (∀ wx, MS w wx e 5 n (.slice (some ⟨g, 0, none⟩) n cap) g cs k0 S1 xs0 (q * 5 + 5) → MS w wx e 5 n (.slice (some ⟨g, 0, none⟩) n cap) g cs k0 S1 xs0 ((q + 1) * 5)) := fun wx h => by rw [show q * 5 + 5 = (q + 1) * 5 by omega] at h; exact h
      have HE := uhide hend
      rw [hkq]
      clear hR htr hsz hkn hend hkq Ht Hkk Hp0 Hl0 g0 g1 g2 g3 g4 at0 at1 at2 at3 at4 ct0 ct1 ct2 ct3 ct4 x0 x1 x2 x3 x4
      generalize umtx (kq + 1) = M1 at *
      generalize cnt c3 = m3 at *
      generalize cnt c4 = m4 at *
      obtain ⟨q0, f0, q1, f1, q2, f2, q3, f3, q4, f4⟩ := HQ0.out _ HM.out
      go_wp2_with fail
      refine (HT1.out _ _ (by omega)).mono ?_
      rintro e1 w1 ⟨rfl, hb1⟩
      have I1 : Hid (MS w w1 e 5 n (.slice (some ⟨g, 0, none⟩) n cap) g cs k0 S1 xs0 (q * 5 + 1)) := MS.below (HP0.out _ _ HM.out (congrArg (Value.int .i64) (by omega))) hb1
      clear hb1 q0 f0 q1 f1 q2 f2 q3 f3 q4 f4
      obtain ⟨q1, f1, q2, f2, q3, f3, q4, f4⟩ := HQ1.out _ I1.out
      go_wp2_with fail
      refine (HC3.out _ _ (HP2.out _ _ (HP1.out _ _ I1.out rfl) (congrArg (Value.int .i64) (by omega))) (by omega)).mono ?_
      rintro e1 w2 ⟨rfl, I2⟩
      clear q1 f1 q2 f2 q3 f3 q4 f4
      obtain ⟨q4, f4⟩ := HQ4.out _ I2.out
      go_wp2_with fail
      refine (HC4.out _ _ I2.out (by omega)).mono ?_
      rintro e1 w3 ⟨rfl, I3⟩
      clear q4 f4
      go_wp2
      go_roundw
      case rel => exact ⟨q + 1, by omega, by go_num, by rw [HE.out]; go_num, HN.out _ I3.out⟩
      case measure => (simp [intOf]; omega)
    · have e : q = n := by omega
      subst e
      obtain ⟨h1, h2⟩ := HM.out.done (by decide)
      have HD := uhide (And.intro h1 h2)
      have hl : cs.takeN (q * 5) = cs := by apply UD.ext; unfold UD.takeN; rw [UD.toL_ofL]; exact List.take_of_length_le (Nat.le_of_eq Ht.out.2.2.2.1)
      rw [hl]
      clear h1 h2 hl HM Ht Hp0 Hl0 Hkk
      go_wp2
      go_ret
      exact ⟨rfl, HD.out⟩
theorem umarkValueS_any (n k0 : Nat) (cs : UD) (c : Value) (S : List Nat) (w : World) (ht : tyS 5 n cs 6) (hnd : S.Nodup) (hk0 : 1 ≤ k0) (hk1 : k0 + cnt cs ≤ 100000000) (hx : oS w 5 n cs c S) :
    Calls Try.prog 56 #[c, .int .i64 k0] w fun e w' => e = .returned (.int .i64 (k0 + cnt cs : Nat)) ∧ oS w' 5 n (mk cs k0) c S ∧ OutS S w w' := umarkValueS_N (uszD cs + 1) n k0 cs c S w (by omega) ht hnd hk0 hk1 hx
theorem umarkValue_any (d : UD) (k0 : Nat) (xs : List Value) (S : List Nat) (w : World) (ht : tyL d (uE 6)) (hnd : S.Nodup) (hk0 : 1 ≤ k0) (hk1 : k0 + cntT d ≤ 100000000) (hx : oH w d xs S) :
    Calls Try.prog 52 #[.agg xs.toArray, .int .i64 k0] w fun e w' => e = .returned (.int .i64 (k0 + cntT d : Nat)) ∧ oH w' (mkT d k0) xs S ∧ OutS S w w' := umarkValue_of d k0 xs S w (fun n4 j4 c4 x4 S4 wx _ ht4 s0 s1 s2 s3 => umarkValueS_any n4 j4 c4 x4 S4 wx ht4 s0 s1 s2 s3) ht hnd hk0 hk1 hx
set_option maxHeartbeats 1600000 in
theorem utoValue_of {lo hi : Nat} (d : UD) (xs : List Value) (w : World) (ih : ∀ (n4 : Nat) (c4 : UD) (x4 : Value) (wx : World), uszD c4 < uszD d → tyS 5 n4 c4 6 → n4 + wt c4 ≤ 1048576 → uS wx lo hi 5 n4 c4 x4 → Calls Try.prog 92 #[x4] wx fun e w' => ∃ c' S, e = .returned c' ∧ oS w' 5 n4 c4 c' S ∧ S.Nodup ∧ (∀ s ∈ S, wx.heap.size ≤ s) ∧ Below wx.heap.size wx w') (ht : tyL d (uE 6)) (hn : wt d ≤ 1048576) (hx : uH w lo hi d xs) :
    Calls Try.prog 78 #[.agg xs.toArray] w fun e w' => ∃ ys S, e = .returned (.agg ys.toArray) ∧ oH w' d ys S ∧ S.Nodup ∧ (∀ s ∈ S, w.heap.size ≤ s) ∧ Below w.heap.size w w' := by
  obtain ⟨z0, z1, z2, n3, c3, n4, c4, rfl, g0, g1, g2, g3, g4⟩ := partsValue ht
  obtain ⟨_, rfl, ⟨_, rfl, ⟨_, rfl, ⟨v3l, _, rfl, s3l, ⟨v4l, _, rfl, s4l, rfl⟩⟩⟩⟩⟩ := hx
  obtain ⟨a3l, p3l, rfl, t3l⟩ := s3l
  obtain ⟨a4l, p4l, rfl, t4l⟩ := s4l
  simp only [wt, wtP] at hn
  have HC0 : Hid (∀ wx : World, Below w.heap.size w wx → Calls Try.prog 77 #[.slice a3l n3 p3l] wx fun e w' => ∃ a p S, e = .returned (.slice a n3 p) ∧ Hid (oS w' 1 n3 c3 (.slice a n3 p) S) ∧ Hid (own2 S wx.heap.size w'.heap.size) ∧ Below wx.heap.size wx w') := fun wx hb => (utoStringS_any (lo := lo) (hi := hi) n3 c3 _ wx g3 (by omega) ((show uS w lo hi 1 n3 c3 (.slice a3l n3 p3l) from ⟨_, _, rfl, t3l⟩).below hb)).mono fun e w' ⟨c', S, h1, h2, h3, h4, h5⟩ => by
    obtain ⟨a, p, rfl⟩ := h2.slice
    exact ⟨a, p, S, h1, h2, ⟨h3, fun s hs => ⟨h4 s hs, h2.lt s hs⟩⟩, h5⟩
  have HC1 : Hid (∀ wx : World, Below w.heap.size w wx → Calls Try.prog 92 #[.slice a4l n4 p4l] wx fun e w' => ∃ a p S, e = .returned (.slice a n4 p) ∧ Hid (oS w' 5 n4 c4 (.slice a n4 p) S) ∧ Hid (own2 S wx.heap.size w'.heap.size) ∧ Below wx.heap.size wx w') := fun wx hb => (ih n4 c4 _ wx (by simp only [uszD]; omega) g4 (by omega) ((show uS w lo hi 5 n4 c4 (.slice a4l n4 p4l) from ⟨_, _, rfl, t4l⟩).below hb)).mono fun e w' ⟨c', S, h1, h2, h3, h4, h5⟩ => by
    obtain ⟨a, p, rfl⟩ := h2.slice
    exact ⟨a, p, S, h1, h2, ⟨h3, fun s hs => ⟨h4 s hs, h2.lt s hs⟩⟩, h5⟩
  have HA : Hid (∀ o1 o2 o3, Below w.heap.size w (((w.alloc o1).alloc o2).alloc o3)) := fun o1 o2 o3 => (((Below.refl _ _).alloc (Nat.le_refl _) _).alloc (by simp) _).alloc (by simp; omega) _
  clear hn ht g0 g1 g2 g3 g4 t3l t4l ih
  go_enter Try.func78, Try.ntmps78
  go_wp2_with fail
  refine (HC0.out _ (by repeat (first | with_reducible exact HA.out _ _ _ | with_reducible assumption | with_reducible refine Below.setCell ?_ (by simp <;> omega) _))).mono ?_
  rintro e w1 ⟨a3r, p3r, S1, rfl, O1, W1, hb1⟩
  have OA1 : Hid (objU w1 w.heap.size 86 [.int .i64 z0, .string z1, .int .i64 z2, .slice a3l n3 p3l, .slice a4l n4 p4l]) := objU.below (by repeat (first | with_reducible exact objU.new2 _ _ rfl | with_reducible refine objU.other ?_ _ (by simp <;> omega) _ | with_reducible refine objU.old ?_ _)) hb1
  have OR1 : Hid (objU w1 (w.heap.size + 1) 41 [.int .i64 0, .string ⟨#[]⟩, .int .i64 0, .slice none 0 0, .slice none 0 0]) := objU.below (by repeat (first | with_reducible exact objU.new2 _ _ (by simp) | with_reducible refine objU.other ?_ _ (by simp <;> omega) _ | with_reducible refine objU.old ?_ _)) hb1
  have OO1 : Hid (objU w1 (w.heap.size + 1 + 1) 41 [.int .i64 z0, .string z1, .int .i64 z2, .slice none 0 0, .slice none 0 0]) := objU.below (by repeat (first | with_reducible exact objU.new2 _ _ (by simp) | with_reducible refine objU.old ?_ _)) hb1
  have hsz1 : w.heap.size + 1 + 1 + 1 ≤ w1.heap.size := by have := hb1.size; simpa using this
  replace W1 := uhide (W1.out.mono (a' := w.heap.size + 1 + 1 + 1) (by simp <;> omega) (Nat.le_refl _))
  have HB1 : Hid (Below w.heap.size w w1) := Below.trans (by repeat (first | with_reducible exact HA.out _ _ _ | with_reducible refine Below.setCell ?_ (by simp <;> omega) _)) (hb1.mono (by simp <;> omega))
  clear hb1
  have co3_1 : w1.cell? ⟨w.heap.size + 1 + 1, 3, none⟩ = some (.slice none 0 0) := OO1.out.cell 3 _ rfl
  have fo3_1 : w1.frozen? ⟨w.heap.size + 1 + 1, 3, none⟩ = false := OO1.out.fz 3
  have ca4_1 : w1.cell? ⟨w.heap.size, 4, none⟩ = some (.slice a4l n4 p4l) := OA1.out.cell 4 _ rfl
  have co4_1 : w1.cell? ⟨w.heap.size + 1 + 1, 4, none⟩ = some (.slice none 0 0) := OO1.out.cell 4 _ rfl
  have fo4_1 : w1.frozen? ⟨w.heap.size + 1 + 1, 4, none⟩ = false := OO1.out.fz 4
  go_wp2_with fail
  refine (HC1.out _ (by repeat (first | with_reducible exact HA.out _ _ _ | with_reducible assumption | with_reducible refine Below.setCell ?_ (by simp <;> omega) _ | with_reducible exact HB1.out))).mono ?_
  rintro e w2 ⟨a4r, p4r, S2, rfl, O2, W2, hb2⟩
  have OA2 : Hid (objU w2 w.heap.size 86 [.int .i64 z0, .string z1, .int .i64 z2, .slice a3l n3 p3l, .slice a4l n4 p4l]) := objU.below (by repeat (first | with_reducible exact OA1.out | with_reducible refine objU.other ?_ _ (by simp <;> omega) _ | with_reducible refine objU.old ?_ _)) hb2
  have OR2 : Hid (objU w2 (w.heap.size + 1) 41 [.int .i64 0, .string ⟨#[]⟩, .int .i64 0, .slice none 0 0, .slice none 0 0]) := objU.below (by repeat (first | with_reducible exact OR1.out | with_reducible refine objU.other ?_ _ (by simp <;> omega) _ | with_reducible refine objU.old ?_ _)) hb2
  have OO2 : Hid (objU w2 (w.heap.size + 1 + 1) 41 [.int .i64 z0, .string z1, .int .i64 z2, .slice a3r n3 p3r, .slice none 0 0]) := objU.below (by refine objU.set (xs := [.int .i64 z0, .string z1, .int .i64 z2, .slice none 0 0, .slice none 0 0]) ?_ 3 _; exact OO1.out) hb2
  replace O1 := uhide ((oS.outs O1.out (T := [w.heap.size + 1 + 1]) (by repeat (first | with_reducible exact OutS.refl _ _ | with_reducible refine OutS.setCell ?_ (show _ ∈ [w.heap.size + 1 + 1] by simp) _)) W1.out (fun x hx => by simp at hx; omega)).below hb2)
  have hsz2 : w1.heap.size ≤ w2.heap.size := Nat.le_trans (by simp) hb2.size
  replace W2 := uhide (W2.out.mono (a' := w1.heap.size) (by simp) (Nat.le_refl _))
  have HB2 : Hid (Below w.heap.size w w2) := Below.trans (by repeat (first | with_reducible exact HB1.out | with_reducible refine Below.setCell ?_ (by simp <;> omega) _)) (hb2.mono (by simp <;> omega))
  clear hb2
  clear OA1 OR1 OO1 HB1
  have co4_2 : w2.cell? ⟨w.heap.size + 1 + 1, 4, none⟩ = some (.slice none 0 0) := OO2.out.cell 4 _ rfl
  have fo4_2 : w2.frozen? ⟨w.heap.size + 1 + 1, 4, none⟩ = false := OO2.out.fz 4
  have co0_2 : w2.cell? ⟨w.heap.size + 1 + 1, 0, none⟩ = some (.int .i64 z0) := OO2.out.cell 0 _ rfl
  have cr0 : w2.cell? ⟨w.heap.size + 1, 0, none⟩ = some (.int .i64 0) := OR2.out.cell 0 _ rfl
  have fr0 : w2.frozen? ⟨w.heap.size + 1, 0, none⟩ = false := OR2.out.fz 0
  have co1_2 : w2.cell? ⟨w.heap.size + 1 + 1, 1, none⟩ = some (.string z1) := OO2.out.cell 1 _ rfl
  have cr1 : w2.cell? ⟨w.heap.size + 1, 1, none⟩ = some (.string ⟨#[]⟩) := OR2.out.cell 1 _ rfl
  have fr1 : w2.frozen? ⟨w.heap.size + 1, 1, none⟩ = false := OR2.out.fz 1
  have co2_2 : w2.cell? ⟨w.heap.size + 1 + 1, 2, none⟩ = some (.int .i64 z2) := OO2.out.cell 2 _ rfl
  have cr2 : w2.cell? ⟨w.heap.size + 1, 2, none⟩ = some (.int .i64 0) := OR2.out.cell 2 _ rfl
  have fr2 : w2.frozen? ⟨w.heap.size + 1, 2, none⟩ = false := OR2.out.fz 2
  have co3_2 : w2.cell? ⟨w.heap.size + 1 + 1, 3, none⟩ = some (.slice a3r n3 p3r) := OO2.out.cell 3 _ rfl
  have cr3 : w2.cell? ⟨w.heap.size + 1, 3, none⟩ = some (.slice none 0 0) := OR2.out.cell 3 _ rfl
  have fr3 : w2.frozen? ⟨w.heap.size + 1, 3, none⟩ = false := OR2.out.fz 3
  have cr4 : w2.cell? ⟨w.heap.size + 1, 4, none⟩ = some (.slice none 0 0) := OR2.out.cell 4 _ rfl
  have fr4 : w2.frozen? ⟨w.heap.size + 1, 4, none⟩ = false := OR2.out.fz 4
  go_wp2
  refine bodyPost_ret (v := .agg #[.int .i64 z0, .string z1, .int .i64 z2, .slice a3r n3 p3r, .slice a4r n4 p4r]) ?_ rfl ⟨[.int .i64 z0, .string z1, .int .i64 z2, .slice a3r n3 p3r, .slice a4r n4 p4r], (S1 ++ (S2 ++ [])), rfl, ?_, ?_⟩
  · simp [results, Try.results78, go_sem, cr0, cr1, cr2, cr3, cr4]
  · exact oH.consP _ (oH.consP _ (oH.consP _ (oH.consS (oS.outs O1.out (T := [w.heap.size + 1, w.heap.size + 1 + 1]) (by repeat (first | with_reducible exact OutS.refl _ _ | with_reducible refine OutS.setCell ?_ (show _ ∈ [w.heap.size + 1, w.heap.size + 1 + 1] by simp) _)) W1.out (fun x hx => by simp at hx; omega)) (oH.consS (oS.outs O2.out (T := [w.heap.size + 1, w.heap.size + 1 + 1]) (by repeat (first | with_reducible exact OutS.refl _ _ | with_reducible refine OutS.setCell ?_ (show _ ∈ [w.heap.size + 1, w.heap.size + 1 + 1] by simp) _)) W2.out (fun x hx => by simp at hx; omega)) (oH.nil _)))))
  · have HW := own2.app W1.out (own2.app W2.out (own2.nil w2.heap.size w2.heap.size) (by omega) (by omega) (by omega)) (by omega) (by omega) (by omega)
    refine ⟨HW.1, fun s hs => (by have := HW.2 s hs; omega), ?_⟩
    repeat (first | with_reducible exact HB2.out | with_reducible refine Below.setCell ?_ (by simp <;> omega) _)
theorem Try.infoUValue : (Try.prog.info? 41).map (fun i => (i.zero, i.size, decide (i.bytes ≤ 1000))) = some (some (.agg #[.int .i64 0, .string ByteArray.empty, .int .i64 0, .slice none 0 0, .slice none 0 0]), 5, true) := by kernel_rfl
set_option maxHeartbeats 1600000 in
theorem utoValueS_N {lo hi : Nat} : ∀ (N : Nat) (n : Nat) (cs : UD) (c : Value) (w : World), uszD cs < N → tyS 5 n cs 6 → n + wt cs ≤ 1048576 → uS w lo hi 5 n cs c →
    Calls Try.prog 92 #[c] w fun e w' => ∃ c' S, e = .returned c' ∧ oS w' 5 n cs c' S ∧ S.Nodup ∧ (∀ s ∈ S, w.heap.size ≤ s) ∧ Below w.heap.size w w' := by
  intro N
  induction N with
  | zero => intro n cs c w hN; omega
  | succ N ihN =>
  intro n cs c w hN ht hn hx
  have HI := uhide ihN
  clear ihN
  obtain ⟨i0, hinf, hz0, hz1, hz2⟩ : ∃ i, Try.prog.info? 41 = some i ∧ i.zero = some (.agg #[.int .i64 0, .string ByteArray.empty, .int .i64 0, .slice none 0 0, .slice none 0 0]) ∧ i.size = 5 ∧ i.bytes ≤ 1000 := by
    have h := Try.infoUValue
    cases e : Try.prog.info? 41 with
    | none => rw [e] at h; cases h
    | some i => rw [e] at h; simp at h; exact ⟨i, rfl, h.1, h.2.1, h.2.2⟩
  obtain ⟨a, cap, rfl, hx2⟩ := hx
  have Hx : Hid (uS w lo hi 5 n cs (.slice a n cap)) := ⟨a, cap, rfl, hx2⟩
  have Ht := uhide ht
  have Hn : Hid (∀ q, q < n → wt (rowU cs 5 q) ≤ 1048576) := fun q hq => by have := wt_row cs 5 q; omega
  have hnn : n ≤ 1048576 := by omega
  have hbb : i0.bytes * n ≤ 281474976710656 := Nat.le_trans (Nat.mul_le_mul hz2 hnn) (by decide)
  clear hx2 ht hn
  go_enter Try.func92, Try.ntmps92
  go_wp2_with (at_make; refine wpList_make_full _ rfl _ _ 39 rfl w.heap.size 41 i0 _ 5 Try.underlying39 hinf hz0 hz1 _ _ _ _ n rfl rfl rfl rfl hbb (by unfold maxLen; omega) (Nat.le_refl _) ?_; intro w1 hown hgrow)
  have T0 := uhide (TS.start (cs := cs) hown (Below.grown (Below.refl _ _) hgrow (Nat.le_refl _) (fun k hk => by cases hk)))
  clear hown hgrow
  go_loopw [4] (fun i wr => ∃ (q : Nat), q ≤ n ∧ i = .int .i64 q ∧ Hid (TS w wr 41 5 n cs q)) (fun i _ => n - (intOf i).toNat)
  case atStart => exact ⟨0, Nat.zero_le _, rfl, T0⟩
  case round =>
    clear T0
    obtain ⟨q, hq, rfl, HT⟩ := hrel
    by_cases hlt : q < n
    · obtain ⟨b, off, rfl, hbk, hm⟩ := (Hx.out.below HT.out.bel).cells (by omega)
      have htr := Ht.out.row hlt
      have hwr := Hn.out q hlt
      have hsz := uszD_row cs 5 q
      obtain ⟨xs, hh, hcl⟩ := (hm.row 5 q).hand
      have Hcon : Hid (∀ wx, Below wr.heap.size wr wx → Calls Try.prog 78 #[.agg xs.toArray] wx fun e w' => ∃ ys S, e = .returned (.agg ys.toArray) ∧ oH w' (rowU cs 5 q) ys S ∧ S.Nodup ∧ (∀ s ∈ S, wx.heap.size ≤ s) ∧ Below wx.heap.size wx w') := fun wx hb => utoValue_of (lo := lo) (hi := hi) _ _ wx (fun n4 c4 x4 wy hlt ht4 q0 hs4 => HI.out n4 c4 x4 wy (by omega) ht4 q0 hs4) htr hwr (hh.below hb)
      obtain ⟨z0, z1, z2, n3, c3, n4, c4, hR, g0, g1, g2, g3, g4⟩ := partsValue htr
      rw [hR] at hh
      obtain ⟨_, rfl, ⟨_, rfl, ⟨_, rfl, ⟨v3l, _, rfl, s3l, ⟨v4l, _, rfl, s4l, rfl⟩⟩⟩⟩⟩ := hh
      obtain ⟨a3l, p3l, rfl, t3l⟩ := s3l
      obtain ⟨a4l, p4l, rfl, t4l⟩ := s4l
      have q0 : wr.cell? ⟨b, off + q * 5, none⟩ = some (.int .i64 z0) := hcl 0 _ rfl
      have q1 : wr.cell? ⟨b, off + q * 5 + 1, none⟩ = some (.string z1) := hcl 1 _ rfl
      have q2 : wr.cell? ⟨b, off + q * 5 + 2, none⟩ = some (.int .i64 z2) := hcl 2 _ rfl
      have q3 : wr.cell? ⟨b, off + q * 5 + 3, none⟩ = some (.slice a3l n3 p3l) := hcl 3 _ rfl
      have q4 : wr.cell? ⟨b, off + q * 5 + 4, none⟩ = some (.slice a4l n4 p4l) := hcl 4 _ rfl
      have HR := uhide hR
      have HS : Hid (∀ (w2 : World) ys S, oH w2 (rowU cs 5 q) ys S → ∃ a3r p3r a4r p4r , ys = [.int .i64 z0, .string z1, .int .i64 z2, .slice a3r n3 p3r, .slice a4r n4 p4r]) := by
        intro w2 ys S h
        rw [HR.out] at h
        obtain ⟨_, rfl, ⟨_, rfl, ⟨_, rfl, ⟨v3, _, _, _, rfl, _, _, ⟨_, _, o3, _⟩, ⟨v4, _, _, _, rfl, _, _, ⟨_, _, o4, _⟩, ⟨rfl, _⟩⟩⟩⟩⟩⟩ := h
        obtain ⟨a3, p3, rfl⟩ := uowns_slice o3
        obtain ⟨a4, p4, rfl⟩ := uowns_slice o4
        exact ⟨a3, p3, a4, p4, rfl⟩
      have hKn : q * 5 + 5 ≤ n * 5 := by have := Nat.mul_le_mul_right 5 (show q + 1 ≤ n by omega); rw [Nat.succ_mul] at this; exact this
      clear hR hcl hm htr hsz hwr HR g0 g1 g2 g3 g4 t3l t4l
      go_wp2_with fail
      refine (Hcon.out _ (by repeat (first | exact Below.refl _ _ | refine Below.alloc ?_ (by simp) _))).mono ?_
      rintro e w2 ⟨ys, S, rfl, ho, hnd, hS, hb2⟩
      obtain ⟨a3r, p3r, a4r, p4r, rfl⟩ := HS.out _ _ _ ho
      have HT2 := uhide (HT.out.below hb2)
      have T1 := uhide (HT.out.step hb2 ho hnd hS Ht.out.2.2.2.1 hlt)
      obtain ⟨d0, p0x⟩ := HT2.out.cell (q * 5) (by omega)
      have f0 := HT2.out.fz (q * 5)
      obtain ⟨d1, p1x⟩ := HT2.out.cell (q * 5 + 1) (by omega)
      have f1 := HT2.out.fz (q * 5 + 1)
      obtain ⟨d2, p2x⟩ := HT2.out.cell (q * 5 + 2) (by omega)
      have f2 := HT2.out.fz (q * 5 + 2)
      obtain ⟨d3, p3x⟩ := HT2.out.cell (q * 5 + 3) (by omega)
      have f3 := HT2.out.fz (q * 5 + 3)
      obtain ⟨d4, p4x⟩ := HT2.out.cell (q * 5 + 4) (by omega)
      have f4 := HT2.out.fz (q * 5 + 4)
      clear ho hnd hS hb2 Hcon HS HT HT2 Hx Ht Hn
      go_wp2
      go_roundw
      case rel => exact ⟨q + 1, by omega, by go_num, T1⟩
      case measure => simp [intOf]; omega
    · have e : q = n := by omega
      subst e
      obtain ⟨S, h1, h2, h3, h4⟩ := HT.out.done (by decide) Ht.out.2.2.2.1
      have HS : Hid (oS wr 5 q cs (.slice (some ⟨w.heap.size, 0, none⟩) q q) S ∧ S.Nodup ∧ (∀ s ∈ S, w.heap.size ≤ s) ∧ Below w.heap.size w wr) := ⟨h1, h2, h3, h4⟩
      clear h1 h2 h3 h4
      go_wp2
      go_ret
      exact ⟨_, S, rfl, HS.out⟩
theorem utoValueS_any {lo hi : Nat} (n : Nat) (cs : UD) (c : Value) (w : World) (ht : tyS 5 n cs 6) (hn : n + wt cs ≤ 1048576) (hx : uS w lo hi 5 n cs c) :
    Calls Try.prog 92 #[c] w fun e w' => ∃ c' S, e = .returned c' ∧ oS w' 5 n cs c' S ∧ S.Nodup ∧ (∀ s ∈ S, w.heap.size ≤ s) ∧ Below w.heap.size w w' := utoValueS_N (uszD cs + 1) n cs c w (by omega) ht hn hx
theorem utoValue_any {lo hi : Nat} (d : UD) (xs : List Value) (w : World) (ht : tyL d (uE 6)) (hn : wt d ≤ 1048576) (hx : uH w lo hi d xs) :
    Calls Try.prog 78 #[.agg xs.toArray] w fun e w' => ∃ ys S, e = .returned (.agg ys.toArray) ∧ oH w' d ys S ∧ S.Nodup ∧ (∀ s ∈ S, w.heap.size ≤ s) ∧ Below w.heap.size w w' := utoValue_of d xs w (fun n4 c4 x4 wx _ ht4 q0 hs => utoValueS_any n4 c4 x4 wx ht4 q0 hs) ht hn hx
end Go.Proofs.Ytamlgjmboljcdaa
/- Contracts of the two NameOk and what they call: both answer 'nameB', for every string. -/
namespace Go.Proofs.Ytamlgjmboljcdaa
open Go.RowKit

theorem hide {p : Prop} (h : p) : Hid p := h
def inB (x a b : Int) : Bool := decide (a ≤ x ∧ x ≤ b)
def nbI (x : Int) : Bool := decide ((97 ≤ x ∧ x ≤ 122) ∨ (48 ≤ x ∧ x ≤ 57) ∨ x = 45)
/-- the byte at a place, as a number -/
def byt (s : ByteArray) (i : Nat) : Int := ((s.data.toList[i]?.getD 0).toNat : Int)
def okTo (s : ByteArray) (k : Nat) : Prop := ∀ j, j < k → nbI (byt s j) = true
def nameB (s : ByteArray) : Bool := decide ((∀ j, j < s.size → nbI (byt s j) = true) ∧ 1 ≤ s.size ∧ s.size ≤ 20 ∧ byt s 0 ≠ 45 ∧ byt s (s.size - 1) ≠ 45)

theorem byt_get (s : ByteArray) (i : Nat) (h : i < s.size) : byt s i = ((s[i]'h).toNat : Int) := by
  unfold byt
  have h' : i < s.data.toList.length := by simpa using h
  rw [List.getElem?_eq_getElem h']
  rfl
theorem byt_bd (s : ByteArray) (i : Nat) : 0 ≤ byt s i ∧ byt s i < 256 := by
  unfold byt
  have := (s.data.toList[i]?.getD 0).toNat_lt
  omega
theorem okTo_succ {s : ByteArray} {k : Nat} (h : okTo s k) (hk : nbI (byt s k) = true) : okTo s (k + 1) := by
  intro j hj
  by_cases e : j = k
  · rw [e]; exact hk
  · exact h j (by omega)
theorem nameB_bad {s : ByteArray} {k : Nat} (hk : k < s.size) (h : nbI (byt s k) = false) : nameB s = false := by
  unfold nameB
  rw [decide_eq_false_iff_not]
  rintro ⟨h1, -⟩
  have := h1 k hk
  rw [h] at this
  cases this

theorem ret_bool {a b : Bool} (h : a = b) : Ending.returned (.bool a) = .returned (.bool b) := by rw [h]

theorem l1In_any (x a b : Int) (w : World) : Calls Try.prog 37 #[.int .i64 x, .int .i64 a, .int .i64 b] w fun e w' => e = .returned (.bool (inB x a b)) ∧ w' = w := by
  go_enter Try.func37, Try.ntmps37
  go_wp2
  all_goals go_ret
  all_goals exact ⟨ret_bool (by rw [Bool.eq_iff_iff]; simp [inB]; omega), rfl⟩
theorem nameRune_any (x : Int) (w : World) : Calls Try.prog 98 #[.int .i32 x] w fun e w' => e = .returned (.bool (nbI x)) ∧ w' = w := by
  go_enter Try.func98, Try.ntmps98
  go_wp2
  all_goals go_ret
  all_goals exact ⟨ret_bool (by rw [Bool.eq_iff_iff]; simp [nbI]; omega), rfl⟩

theorem cls (c : Int) : (inB c 97 122 = true ∧ Hid (nbI c = true)) ∨ (inB c 97 122 = false ∧ inB c 48 57 = true ∧ Hid (nbI c = true)) ∨
    (inB c 97 122 = false ∧ inB c 48 57 = false ∧ (c != 45) = false ∧ Hid (nbI c = true)) ∨ (inB c 97 122 = false ∧ inB c 48 57 = false ∧ (c != 45) = true ∧ Hid (nbI c = false)) := by
  unfold Hid inB nbI
  simp only [decide_eq_true_eq, decide_eq_false_iff_not, bne_iff_ne, bne_eq_false_iff_eq]
  omega
/-- the last row of both, the bytes being right -/
theorem nameB_end {s : ByteArray} (hok : okTo s s.size) : (inB s.size 1 20 = false ∧ Hid (nameB s = false)) ∨
    ∃ (h0 : 0 < s.size) (h1 : s.size - 1 < s.size), inB s.size 1 20 = true ∧ s.size ≤ 20 ∧ ((((s[0]'h0).toNat : Int) != 45) = false ∧ Hid (nameB s = false) ∨ (((s[0]'h0).toNat : Int) != 45) = true ∧
      ((((s[s.size - 1]'h1).toNat : Int) != 45) = false ∧ Hid (nameB s = false) ∨ (((s[s.size - 1]'h1).toNat : Int) != 45) = true ∧ Hid (nameB s = true))) := by
  by_cases hz : inB s.size 1 20 = true
  · right
    have hz' := hz
    unfold inB at hz'
    simp only [decide_eq_true_eq] at hz'
    have h0 : 0 < s.size := by omega
    have h1 : s.size - 1 < s.size := by omega
    refine ⟨h0, h1, hz, by omega, ?_⟩
    have e0 := byt_get s 0 h0
    have e1 := byt_get s (s.size - 1) h1
    simp only [← e0, ← e1, Hid, nameB, bne_iff_ne, bne_eq_false_iff_eq, decide_eq_true_eq, decide_eq_false_iff_not, ne_eq]
    by_cases a : byt s 0 = 45
    · left; exact ⟨a, fun h => h.2.2.2.1 a⟩
    · right
      refine ⟨a, ?_⟩
      by_cases b : byt s (s.size - 1) = 45
      · left; exact ⟨b, fun h => h.2.2.2.2 b⟩
      · right; exact ⟨b, hok, by omega, by omega, a, b⟩
  · left
    have hz' : inB s.size 1 20 = false := by simpa using hz
    refine ⟨hz', ?_⟩
    unfold inB at hz
    simp only [decide_eq_true_eq] at hz
    unfold Hid nameB
    rw [decide_eq_false_iff_not]
    rintro ⟨-, a, b, -⟩
    omega

theorem sname_any (s : ByteArray) (w : World) (hs : s.size ≤ maxLen) : Calls Try.prog 62 #[.string s] w fun e w' => e = .returned (.bool (nameB s)) ∧ w' = w := by
  unfold maxLen at hs
  go_enter Try.func62, Try.ntmps62
  go_wp2
  go_loop [3] (fun i => ∃ k : Nat, k ≤ s.size ∧ i = .int .i64 k ∧ okTo s k) (fun i => s.size - (intOf i).toNat)
  case atStart => exact ⟨0, Nat.zero_le _, rfl, fun j hj => by omega⟩
  case round =>
    obtain ⟨k, hk, rfl, hok⟩ := hrel
    by_cases hlt : k < s.size
    · have hb := byt_bd s k
      rw [byt_get s k hlt] at hb
      have hsucc := fun h => okTo_succ hok (k := k) h
      have hbad := fun h => nameB_bad (s := s) hlt h
      have hc := cls (byt s k)
      rw [byt_get s k hlt] at hsucc hbad hc
      clear hok
      have Hs : Hid (nbI (s[k]'hlt).toNat = true → okTo s (k + 1)) := hsucc
      have Hb : Hid (nbI (s[k]'hlt).toNat = false → nameB s = false) := hbad
      clear hsucc hbad
      rcases hc with ⟨h1, hn⟩ | ⟨h1, h2, hn⟩ | ⟨h1, h2, h3, hn⟩ | ⟨h1, h2, h3, hn⟩
      all_goals
        go_wp2_with (go_at_call 37; refine (l1In_any _ _ _ _).mono ?_; rintro e w' ⟨rfl, rfl⟩)
      · go_round
        case rel => exact ⟨k + 1, by omega, by go_num, Hs.out hn.out⟩
        case measure => simp [intOf]; omega
      · go_round
        case rel => exact ⟨k + 1, by omega, by go_num, Hs.out hn.out⟩
        case measure => simp [intOf]; omega
      · go_round
        case rel => exact ⟨k + 1, by omega, by go_num, Hs.out hn.out⟩
        case measure => simp [intOf]; omega
      · go_ret
        exact ⟨ret_bool (Hb.out hn.out).symm, rfl⟩
    · have e : k = s.size := by omega
      subst e
      rcases nameB_end hok with ⟨h1, hn⟩ | ⟨h0, h01, h1, h20, ⟨h2, hn⟩ | ⟨h2, ⟨h3, hn⟩ | ⟨h3, hn⟩⟩⟩
      all_goals clear hok
      all_goals
        go_wp2_with (go_at_call 37; refine (l1In_any _ _ _ _).mono ?_; rintro e w' ⟨rfl, rfl⟩)
      all_goals (go_ret; exact ⟨ret_bool hn.out.symm, rfl⟩)

theorem width_pos (s : ByteArray) (pos : Nat) (h : pos < s.size) : 1 ≤ (Utf8.decode s pos).2 := by
  by_cases ha : (s[pos]'h).toNat < 128
  · rw [decode_ascii s pos h ha]
    exact Nat.le_refl _
  · exact (decode_high s pos h (by omega)).2
theorem rune_is (s : ByteArray) (pos : Nat) (h : pos < s.size) : (nbI ((Utf8.decode s pos).1 : Int) = true ∧ Hid (nbI (byt s pos) = true ∧ (Utf8.decode s pos).2 = 1)) ∨ (nbI ((Utf8.decode s pos).1 : Int) = false ∧ Hid (nbI (byt s pos) = false)) := by
  by_cases ha : (s[pos]'h).toNat < 128
  · rw [decode_ascii s pos h ha, byt_get s pos h]
    by_cases hn : nbI ((s[pos]'h).toNat : Int) = true
    · exact .inl ⟨hn, hn, rfl⟩
    · have hn' : nbI ((s[pos]'h).toNat : Int) = false := by simpa using hn
      exact .inr ⟨hn', hn'⟩
  · have hd := (decode_high s pos h (by omega)).1
    right
    rw [byt_get s pos h]
    unfold Hid nbI
    simp only [decide_eq_false_iff_not]
    omega
theorem nameB_long {s : ByteArray} (h : 20 < s.size) : nameB s = false := by
  unfold nameB; rw [decide_eq_false_iff_not]; omega
theorem nameB_none {s : ByteArray} (h : s.size = 0) : nameB s = false := by
  unfold nameB; rw [decide_eq_false_iff_not]; omega

theorem empty_iff (s : ByteArray) : s.toList.isEmpty = decide (s.size = 0) := by
  rw [Lib.toList_data, Bool.eq_iff_iff, List.isEmpty_iff, decide_eq_true_eq]
  constructor
  · intro h; have := congrArg List.length h; simpa using this
  · intro h; exact List.eq_nil_of_length_eq_zero (by simpa using h)

set_option maxRecDepth 1000000 in
theorem iname_any (s : ByteArray) (w : World) : Calls Try.prog 82 #[.string s] w fun e w' => e = .returned (.bool (nameB s)) ∧ Below w.heap.size w w' := by
  by_cases hz : s.size = 0
  · have he : s.toList.isEmpty = true := by rw [empty_iff, decide_eq_true hz]
    have hn : Hid (nameB s = false) := nameB_none hz
    clear hz
    go_enter Try.func82, Try.ntmps82
    go_wp2
    go_ret
    exact ⟨ret_bool hn.out.symm, Below.refl _ _⟩
  have he : s.toList.isEmpty = false := by rw [empty_iff, decide_eq_false hz]
  by_cases hl : 20 < s.size
  · have hn : Hid (nameB s = false) := nameB_long hl
    have hl' : (20 : Int) < (s.size : Int) := by omega
    clear hz hl
    go_enter Try.func82, Try.ntmps82
    go_wp2
    go_ret
    exact ⟨ret_bool hn.out.symm, Below.refl _ _⟩
  have hl' : ¬ (20 : Int) < (s.size : Int) := by omega
  go_enter Try.func82, Try.ntmps82
  go_wp2
  go_loopw [] (fun wr => ∃ pos : Nat, pos ≤ s.size ∧ wr.heap[w.heap.size]? = some (.stringIter s pos) ∧ Below w.heap.size w wr ∧ okTo s pos) (fun wr => s.size - wr.iterPos w.heap.size)
  case atStart => exact ⟨0, Nat.zero_le _, World.iter_heap w s 0, (Below.refl _ _).alloc (Nat.le_refl _) _, fun j hj => by omega⟩
  case round =>
    obtain ⟨pos, hpos, hit, hbw, hok⟩ := hrel
    have hpos0 : wr.iterPos w.heap.size = pos := by simp [World.iterPos, hit]
    by_cases hp : pos < s.size
    · have hnx : ∀ ty, (Instr.next (.pointer (some ⟨w.heap.size, 0, none⟩)) true ty).run Try.prog wr = _ := fun ty => Lib.run_next_any_at wr w.heap.size s pos ty hit hp
      have hit2 := Lib.iterAt_heap wr w.heap.size s pos (pos + (Utf8.decode s pos).2) hit
      have hbw2 := Lib.below_iterAt hbw (k := w.heap.size) (Nat.le_refl _) s (pos + (Utf8.decode s pos).2)
      have hpos2 : (wr.iterAt w.heap.size s (pos + (Utf8.decode s pos).2)).iterPos w.heap.size = pos + (Utf8.decode s pos).2 := by simp [World.iterPos, hit2]
      obtain ⟨W1, hW1⟩ : ∃ W1, W1 = wr.iterAt w.heap.size s (pos + (Utf8.decode s pos).2) := ⟨_, rfl⟩
      rw [← hW1] at hnx hit2 hbw2 hpos2
      have Hp : Hid (W1.iterPos w.heap.size = pos + (Utf8.decode s pos).2) := hpos2
      have Hp0 : Hid (wr.iterPos w.heap.size = pos) := hpos0
      have Hi : Hid (W1.heap[w.heap.size]? = some (.stringIter s (pos + (Utf8.decode s pos).2))) := hit2
      have Hs : Hid (nbI (byt s pos) = true → okTo s (pos + 1)) := fun h => okTo_succ hok (k := pos) h
      have Hb : Hid (nbI (byt s pos) = false → nameB s = false) := fun h => nameB_bad (s := s) hp h
      clear hW1 hit hbw hpos2 hit2 hok hpos0
      rcases rune_is s pos hp with ⟨h1, hn⟩ | ⟨h1, hn⟩
      all_goals
        go_wp2_with (go_at_call 98; refine (nameRune_any _ _).mono ?_; rintro e w' ⟨rfl, rfl⟩)
      · go_roundw
        case rel => exact ⟨pos + (Utf8.decode s pos).2, by rw [hn.out.2]; omega, Hi.out, hbw2, by rw [hn.out.2]; exact Hs.out hn.out.1⟩
        case measure => rw [Hp.out, Hp0.out, hn.out.2]; omega
      · go_ret
        exact ⟨ret_bool (Hb.out hn.out).symm, hbw2⟩
    · have e : pos = s.size := by omega
      subst e
      have hnx : ∀ ty, (Instr.next (.pointer (some ⟨w.heap.size, 0, none⟩)) true ty).run Try.prog wr = _ := fun ty => Lib.run_next_end_at wr w.heap.size s s.size ty hit hp
      rcases nameB_end hok with ⟨h1, hn⟩ | ⟨h0, h01, h1, h20, ⟨h2, hn⟩ | ⟨h2, ⟨h3, hn⟩ | ⟨h3, hn⟩⟩⟩
      · exfalso; unfold inB at h1; simp only [decide_eq_false_iff_not] at h1; omega
      all_goals clear hok hpos0 hit
      all_goals go_wp2
      all_goals (go_ret; exact ⟨ret_bool hn.out.symm, hbw⟩)
end Go.Proofs.Ytamlgjmboljcdaa
/- Small facts that many texts want. -/
namespace Go.Proofs.Ytamlgjmboljcdaa
open Go.RowKit Go.BigFrame
set_option linter.unusedVariables false
theorem ret_int {k : IntKind} {a b : Int} (h : a = b) : Ending.returned (.int k a) = .returned (.int k b) := by rw [h]

theorem beq_str (s t : ByteArray) : (s.toList == t.toList) = decide (s = t) := by
  rw [Lib.toList_data, Lib.toList_data, Bool.eq_iff_iff, beq_iff_eq, decide_eq_true_eq]
  constructor
  · intro h
    apply ByteArray.ext
    exact Array.ext' h
  · intro h; rw [h]

theorem below_drewN {B : Nat} {a w : World} (h : Below B a w) (n : Nat) : Below B a (w.drewN n) := h.trans ⟨rfl, rfl, rfl, Nat.le_refl _, fun _ _ => rfl⟩
def ltS (a b : ByteArray) : Bool := Op.bytesLess a.toList b.toList
end Go.Proofs.Ytamlgjmboljcdaa
/- Rows of strings: where a slice of strings leads; the three helpers of the laws over them. -/
namespace Go.Proofs.Ytamlgjmboljcdaa
open Go.RowKit
set_option linter.unusedVariables false

/-- rows of strings: one cell each -/
def strAt (w : World) (b off : Nat) (ss : List ByteArray) : Prop := ∀ i (h : i < ss.length), w.cell? ⟨b, off + i, none⟩ = some (.string (ss[i]'h))
def strOf (w : World) (a : Option Addr) (ss : List ByteArray) : Prop := 0 < ss.length → ∃ b off, a = some ⟨b, off, none⟩ ∧ strAt w b off ss
theorem strAt.below {w w' : World} {b off : Nat} {ss : List ByteArray} (h : strAt w b off ss) (hb : Below w.heap.size w w') : strAt w' b off ss := fun i hi => by
  have h0 := h i hi
  exact (hb.cell (p := ⟨b, off + i, none⟩) (World.block_lt_of_cell? _ _ h0)).trans h0
theorem strOf.below {w w' : World} {a : Option Addr} {ss : List ByteArray} (h : strOf w a ss) (hb : Below w.heap.size w w') : strOf w' a ss := by
  intro hl
  obtain ⟨b, off, e, h⟩ := h hl
  exact ⟨b, off, e, h.below hb⟩
theorem strOf.below' {w w1 w' : World} {a : Option Addr} {ss : List ByteArray} (h : strOf w a ss) (hb : Below w.heap.size w1 w') (h1 : Below w.heap.size w w1) : strOf w' a ss := h.below (h1.trans hb)

def szStrs : List ByteArray → Int → Int
  | [], l => l
  | s :: r, l => if l - s.size < 0 then -1 else szStrs r (l - s.size)
def szSS (ss : List ByteArray) (left : Int) : Int := if left - ss.length < 0 then -1 else szStrs ss (left - ss.length)
theorem szStrs_drop (ss : List ByteArray) (k : Nat) (h : k < ss.length) (l : Int) : szStrs (ss.drop k) l = if l - (ss[k]'h).size < 0 then -1 else szStrs (ss.drop (k + 1)) (l - (ss[k]'h).size) := by
  rw [List.drop_eq_getElem_cons h]; rfl
def okStrs (ss : List ByteArray) : Prop := ∀ s ∈ ss, s.size ≤ maxLen

theorem szStringS_any (a : Option Addr) (cap : Nat) (ss : List ByteArray) (left : Int) (w : World) (hl : ss.length ≤ maxLen) (hz : okStrs ss) (h0 : 0 ≤ left) (h1 : left ≤ 1048576) (hrow : strOf w a ss) :
    Calls Try.prog 74 #[.slice a ss.length cap, .int .i64 left] w fun e w' => e = .returned (.int .i64 (szSS ss left)) ∧ Below w.heap.size w w' := by
  unfold maxLen at hl
  by_cases c1 : left - (ss.length : Int) < 0
  · have E : Hid (szSS ss left = -1) := by unfold Hid szSS; rw [if_pos c1]
    clear hrow hz
    go_enter Try.func74, Try.ntmps74
    go_wp2
    go_ret
    exact ⟨ret_int E.out.symm, Below.refl _ _⟩
  have E : Hid (szSS ss left = szStrs ss (left - ss.length)) := by unfold Hid szSS; rw [if_neg c1]
  have Hr := hide hrow
  have Hz := hide hz
  clear hrow hz
  go_enter Try.func74, Try.ntmps74
  go_wp2
  go_loopw [1, 5] (fun l i wr => ∃ (k : Nat) (x : Int), k ≤ ss.length ∧ i = .int .i64 k ∧ l = .int .i64 x ∧ 0 ≤ x ∧ x ≤ 1048576 ∧ Hid (szStrs (ss.drop k) x = szStrs ss (left - ss.length)) ∧ Below w.heap.size w wr) (fun _ i _ => ss.length - (intOf i).toNat)
  case atStart => exact ⟨0, _, Nat.zero_le _, rfl, rfl, by omega, by omega, rfl, Below.refl _ _⟩
  case round =>
    obtain ⟨k, x, hk, rfl, rfl, hx0, hx1, hsz, hbw⟩ := hrel
    by_cases hlt : k < ss.length
    · obtain ⟨b, off, rfl, hat⟩ := Hr.out (by omega)
      have hbb : b < w.heap.size := World.block_lt_of_cell? _ _ (hat k hlt)
      have c0 := (hbw.cell (p := ⟨b, off + k, none⟩) hbb).trans (hat k hlt)
      have hz := (Hz.out _ (List.getElem_mem hlt))
      have hn := szStrs_drop ss k hlt x
      generalize ss[k]'hlt = S at *
      unfold maxLen at hz
      by_cases hneg : x - (S.size : Int) < 0
      · have hr : Hid (szStrs ss (left - ss.length) = -1) := by rw [← hsz.out, hn, if_pos hneg]; rfl
        clear hn hat hsz
        go_wp2
        go_ret
        exact ⟨ret_int (by rw [E.out, hr.out]), hbw⟩
      · have hr : Hid (szStrs (ss.drop (k + 1)) (x - S.size) = szStrs ss (left - ss.length)) := by rw [← hsz.out, hn, if_neg hneg]; rfl
        clear hn hat hsz
        go_wp2
        go_roundw
        case rel => exact ⟨k + 1, _, by omega, by go_num, rfl, by omega, by omega, hr, hbw⟩
        case measure => simp [intOf]; omega
    · have e : k = ss.length := by omega
      subst e
      have hr : Hid (szStrs ss (left - ss.length) = x) := by rw [← hsz.out, List.drop_length]; rfl
      clear hsz
      go_wp2
      go_ret
      exact ⟨ret_int (by rw [E.out, hr.out]), hbw⟩

theorem Try.infoStr : (Try.prog.info? 9).map (fun i => (i.zero, i.size, i.bytes)) = some (some (.string ByteArray.empty), 1, 16) := by kernel_rfl
def strVs (ss : List ByteArray) : List Value := ss.map fun s => .string s
theorem strVs_length (ss : List ByteArray) : (strVs ss).length = ss.length := by simp [strVs]
theorem strVs_get {ss : List ByteArray} {k : Nat} (h : k < ss.length) : (strVs ss)[k]? = some (.string ss[k]) := by
  unfold strVs; rw [List.getElem?_map, List.getElem?_eq_getElem h]; rfl
theorem strOf_owns {w : World} {base g n cap : Nat} {e : TypeId} {ss : List ByteArray} (h : w.ownsRow base e 1 (.slice (some ⟨g, 0, none⟩) n cap) n (strVs ss)) : strOf w (some ⟨g, 0, none⟩) ss := by
  intro _
  refine ⟨g, 0, rfl, fun i hi => ?_⟩
  have hn : n * 1 = ss.length := by rw [← strVs_length, h.1]
  rw [← strVs_get hi, Nat.zero_add]
  exact h.cellAt _ (by omega)

theorem toStringS_any (a : Option Addr) (cap : Nat) (ss : List ByteArray) (w : World) (hl : ss.length ≤ 1048576) (hrow : strOf w a ss) :
    Calls Try.prog 77 #[.slice a ss.length cap] w fun e w' => e = .returned (.slice (some ⟨w.heap.size, 0, none⟩) ss.length ss.length) ∧
      w'.ownsRow w.heap.size 9 1 (.slice (some ⟨w.heap.size, 0, none⟩) ss.length ss.length) ss.length (strVs ss) ∧ Below w.heap.size w w' := by
  obtain ⟨i0, hi, hz0, hz1, hz2⟩ := info_parts Try.infoStr
  have Hr := hide hrow
  clear hrow
  go_enter Try.func77, Try.ntmps77
  go_wp2_with (at_make; refine wpList_make_full _ rfl _ _ 38 rfl w.heap.size 9 i0 _ 1 Try.underlying38 hi hz0 hz1 _ _ _ _ ss.length rfl rfl rfl rfl (by rw [hz2]; omega) (by unfold maxLen; omega) (Nat.le_refl _) ?_; intro w1 hown hgrow)
  go_loopw [4] (fun i wr => ∃ (k : Nat) (xs : List Value), k ≤ ss.length ∧ i = .int .i64 k ∧ wr.ownsRow w.heap.size 9 1 (.slice (some ⟨w.heap.size, 0, none⟩) ss.length ss.length) ss.length xs ∧
      Hid (∀ j, j < k → xs[j]? = (strVs ss)[j]?) ∧ Below w.heap.size w wr) (fun i _ => ss.length - (intOf i).toNat)
  case atStart => exact ⟨0, _, Nat.zero_le _, rfl, hown, fun j hj => by omega, Below.grown (Below.refl _ _) hgrow (Nat.le_refl _) (fun k hk => by cases hk)⟩
  case round =>
    obtain ⟨k, xs, hk, rfl, how, Hx, hbw⟩ := hrel
    clear hown hgrow
    by_cases hlt : k < ss.length
    · obtain ⟨b, off, rfl, hat⟩ := Hr.out (by omega)
      have hbb : b < w.heap.size := World.block_lt_of_cell? _ _ (hat k hlt)
      have c0 := (hbw.cell (p := ⟨b, off + k, none⟩) hbb).trans (hat k hlt)
      have Hf : Hid ((strVs ss)[k]? = some (.string ss[k])) := strVs_get hlt
      have hxl : xs.length = ss.length * 1 := how.1
      have Hxl : Hid (xs.length = ss.length * 1) := hxl
      obtain ⟨o0, g0⟩ : ∃ o, xs[k]? = some o := ⟨_, List.getElem?_eq_getElem (by omega)⟩
      have q0 : wr.cell? ⟨w.heap.size, k, none⟩ = some o0 := (how.cellAt _ (by omega)).trans g0
      have f0 := how.frozenAt k
      have How := hide how
      clear how g0 hat hxl
      generalize ss[k]'hlt = S at *
      go_wp2
      have s1 := How.out.stored k (.string S)
      go_roundw
      case rel => exact ⟨k + 1, _, by omega, by go_num, s1.1, (by
          intro j hj
          have hl := Hxl.out
          by_cases e0 : j = k
          · subst e0; rw [List.getElem?_set_self (by omega)]; exact Hf.out.symm
          · rw [List.getElem?_set_ne (by omega)]; exact Hx.out j (by omega)), hbw.setCell (Nat.le_refl _) _⟩
      case measure => simp [intOf]; omega
    · have e : k = ss.length := by omega
      subst e
      have hx : xs = strVs ss := by
        apply List.ext_getElem?
        intro j
        by_cases hj : j < ss.length
        · exact Hx.out j hj
        · rw [List.getElem?_eq_none (by have := how.1; omega), List.getElem?_eq_none (by rw [strVs_length]; omega)]
      subst hx
      go_wp2
      go_ret
      exact ⟨rfl, how, hbw⟩

theorem eqStringS_any (a a' : Option Addr) (cap cap' : Nat) (ls ls' : List ByteArray) (w : World) (hl : ls.length ≤ maxLen) (hl' : ls'.length ≤ maxLen) (hrow : strOf w a ls) (hrow' : strOf w a' ls') :
    Calls Try.prog 49 #[.slice a ls.length cap, .slice a' ls'.length cap'] w fun e w' => e = .returned (.bool (decide (ls = ls'))) ∧ Below w.heap.size w w' := by
  unfold maxLen at hl hl'
  have Hr := hide hrow
  have Hr' := hide hrow'
  clear hrow hrow'
  by_cases hll : ls.length = ls'.length
  · have hb0 : ((ls.length : Int) != (ls'.length : Int)) = false := by rw [bne_eq_false_iff_eq]; omega
    have Hl := hide hll
    have hle : ls.length ≤ ls'.length := by omega
    have hge : ls'.length ≤ ls.length := by omega
    clear hll
    go_enter Try.func49, Try.ntmps49
    go_wp2
    go_loopw [5] (fun i wr => ∃ (k : Nat), k ≤ ls.length ∧ i = .int .i64 k ∧ Hid (∀ j, j < k → ls[j]? = ls'[j]?) ∧ Below w.heap.size w wr) (fun i _ => ls.length - (intOf i).toNat)
    case atStart => exact ⟨0, Nat.zero_le _, rfl, fun j hj => by omega, Below.refl _ _⟩
    case round =>
      obtain ⟨k, hk, rfl, Hx, hbw⟩ := hrel
      by_cases hlt : k < ls.length
      · have hlt' : k < ls'.length := by omega
        obtain ⟨b, off, rfl, hat⟩ := Hr.out (by omega)
        obtain ⟨b', off', rfl, hat'⟩ := Hr'.out (by omega)
        have hbb : b < w.heap.size := World.block_lt_of_cell? _ _ (hat k hlt)
        have hbb' : b' < w.heap.size := World.block_lt_of_cell? _ _ (hat' k hlt')
        have c0 := (hbw.cell (p := ⟨b, off + k, none⟩) hbb).trans (hat k hlt)
        have c0' := (hbw.cell (p := ⟨b', off' + k, none⟩) hbb').trans (hat' k hlt')
        have Hg : Hid (ls[k]? = some ls[k] ∧ ls'[k]? = some ls'[k]) := ⟨List.getElem?_eq_getElem _, List.getElem?_eq_getElem _⟩
        have he := beq_str ls[k] ls'[k]
        generalize ls[k]'hlt = K at *
        generalize ls'[k]'hlt' = K' at *
        clear hat hat'
        by_cases hq : K = K'
        · rw [decide_eq_true hq] at he
          have Hn : Hid (∀ j, j < k + 1 → ls[j]? = ls'[j]?) := by
            intro j hj
            by_cases e : j = k
            · rw [e, Hg.out.1, Hg.out.2, hq]
            · exact Hx.out j (by omega)
          clear hq Hg Hx
          go_wp2
          go_quiet (fail)
          go_wp2
          go_roundw
          case rel => exact ⟨k + 1, by omega, by go_num, Hn, below_drewN hbw _⟩
          case measure => simp [intOf]; omega
        · rw [decide_eq_false hq] at he
          have Hn : Hid (decide (ls = ls') = false) := by
            show _ = _
            rw [decide_eq_false_iff_not]
            rintro rfl
            exact hq (by rw [Hg.out.1] at Hg; exact Option.some.inj Hg.out.2)
          clear hq Hg Hx
          go_wp2
          go_quiet (fail)
          go_wp2
          go_ret
          exact ⟨ret_bool Hn.out.symm, below_drewN hbw _⟩
      · have Hn : Hid (decide (ls = ls') = true) := by
          show _ = _
          rw [decide_eq_true_eq]
          apply List.ext_getElem?
          intro j
          by_cases hj : j < k
          · exact Hx.out j hj
          · rw [List.getElem?_eq_none (by omega), List.getElem?_eq_none (by omega)]
        have e : k = ls.length := by omega
        subst e
        clear Hx
        go_wp2
        go_ret
        exact ⟨ret_bool Hn.out.symm, hbw⟩
  · have hb0 : ((ls.length : Int) != (ls'.length : Int)) = true := by rw [bne_iff_ne]; omega
    have Hn : Hid (decide (ls = ls') = false) := by
      show _ = _
      rw [decide_eq_false_iff_not]
      rintro rfl
      exact hll rfl
    clear hll
    go_enter Try.func49, Try.ntmps49
    go_wp2
    go_ret
    exact ⟨ret_bool Hn.out.symm, Below.refl _ _⟩
end Go.Proofs.Ytamlgjmboljcdaa
/- Values: trees of a head and kids, by their depth; plain facts of them, no walk. -/
namespace Go.Proofs.Ytamlgjmboljcdaa
open Go.RowKit
set_option linter.unusedVariables false

structure VH where
  kd : Int
  tx : ByteArray
  nm : Int
  ks : List ByteArray
/-- a value's tree, at most n deep -/
def VT : Nat → Type
  | 0 => Empty
  | n + 1 => VH × List (VT n)
def VT.hd {n : Nat} (v : VT (n + 1)) : VH := Prod.fst v
def VT.kids {n : Nat} (v : VT (n + 1)) : List (VT n) := Prod.snd v
def VT.mk {n : Nat} (h : VH) (l : List (VT n)) : VT (n + 1) := (Prod.mk h l : VH × List (VT n))
theorem VT.parts {n : Nat} (v : VT (n + 1)) : ∃ kd tx nm ks kids, v = VT.mk ⟨kd, tx, nm, ks⟩ kids := by
  obtain ⟨⟨a, b, c, d⟩, l⟩ := v
  exact ⟨a, b, c, d, l, rfl⟩
theorem VT.hd_mk {n : Nat} (h : VH) (l : List (VT n)) : (VT.mk h l).hd = h := rfl
theorem VT.kids_mk {n : Nat} (h : VH) (l : List (VT n)) : (VT.mk h l).kids = l := rfl

/-- rows of things of five cells, and of strings, in blocks from B on -/
def row5 {α : Type} (B : Nat) (P : Nat → Nat → α → Prop) (a : Option Addr) (vs : List α) : Prop := 0 < vs.length → ∃ b off, a = some ⟨b, off, none⟩ ∧ B ≤ b ∧ ∀ i (h : i < vs.length), P b (off + i * 5) (vs[i]'h)
def strB (w : World) (B : Nat) (a : Option Addr) (ss : List ByteArray) : Prop := 0 < ss.length → ∃ b off, a = some ⟨b, off, none⟩ ∧ B ≤ b ∧ strAt w b off ss
theorem strB.of {w : World} {B : Nat} {a : Option Addr} {ss : List ByteArray} (h : strB w B a ss) : strOf w a ss := fun hl => by
  obtain ⟨b, off, e, _, hr⟩ := h hl
  exact ⟨b, off, e, hr⟩
theorem strB.zero {w : World} {a : Option Addr} {ss : List ByteArray} (h : strOf w a ss) : strB w 0 a ss := fun hl => by
  obtain ⟨b, off, e, hr⟩ := h hl
  exact ⟨b, off, e, Nat.zero_le _, hr⟩
/-- what a slice is told by beside its cells -/
def fits (a : Option Addr) (n cap : Nat) : Prop := n ≤ cap ∧ (a = none → cap = 0)
def vatAt (w : World) (B : Nat) : (n : Nat) → Nat → Nat → VT n → Prop
  | 0, _, _, _ => False
  | n + 1, b, o, v => w.cell? ⟨b, o, none⟩ = some (.int .i64 v.hd.kd) ∧ w.cell? ⟨b, o + 1, none⟩ = some (.string v.hd.tx) ∧ w.cell? ⟨b, o + 2, none⟩ = some (.int .i64 v.hd.nm) ∧
    (∃ a cap, w.cell? ⟨b, o + 3, none⟩ = some (.slice a v.hd.ks.length cap) ∧ strB w B a v.hd.ks ∧ fits a v.hd.ks.length cap) ∧
    ∃ a cap, w.cell? ⟨b, o + 4, none⟩ = some (.slice a v.kids.length cap) ∧ row5 B (vatAt w B n) a v.kids ∧ fits a v.kids.length cap
def valsOf (w : World) (B n : Nat) (a : Option Addr) (vs : List (VT n)) : Prop := row5 B (vatAt w B n) a vs
/-- a value in hand -/
def valArg (w : World) (B : Nat) : (n : Nat) → Value → VT n → Prop
  | 0, _, _ => False
  | n + 1, x, v => ∃ a cap a' cap', x = .agg #[.int .i64 v.hd.kd, .string v.hd.tx, .int .i64 v.hd.nm, .slice a v.hd.ks.length cap, .slice a' v.kids.length cap'] ∧
    (strB w B a v.hd.ks ∧ fits a v.hd.ks.length cap) ∧ valsOf w B n a' v.kids ∧ fits a' v.kids.length cap'
/-- what two worlds have in common -/
def Keeps (B : Nat) (w w' : World) : Prop := ∀ (b o : Nat) v, B ≤ b → w.cell? ⟨b, o, none⟩ = some v → w'.cell? ⟨b, o, none⟩ = some v
theorem Keeps.below {w w' : World} {B : Nat} (hb : Below w.heap.size w w') : Keeps B w w' := fun b o v _ h => (hb.cell (p := ⟨b, o, none⟩) (World.block_lt_of_cell? _ _ h)).trans h
theorem Keeps.set {w : World} {B : Nat} {p : Addr} (u : Value) (hp : p.block < B) : Keeps B w (w.setCell p u) := fun b o v hB h => by
  rw [← h]; apply World.cell?_setCell_other; rintro rfl; simp only at hp; omega
theorem Keeps.refl (B : Nat) (w : World) : Keeps B w w := fun _ _ _ _ h => h
theorem Keeps.trans {w w' w2 : World} {B : Nat} (h : Keeps B w w') (k : Keeps B w' w2) : Keeps B w w2 := fun b o v hB e => k b o v hB (h b o v hB e)
theorem Keeps.setR {w w' : World} {B : Nat} {p : Addr} {u : Value} (h : Keeps B w w') (hp : p.block < B) : Keeps B w (w'.setCell p u) := h.trans (Keeps.set u hp)
theorem strB.keeps {w w' : World} {B : Nat} {a : Option Addr} {ss : List ByteArray} (h : strB w B a ss) (hk : Keeps B w w') : strB w' B a ss := fun hl => by
  obtain ⟨b, off, e, hB, hr⟩ := h hl
  exact ⟨b, off, e, hB, fun i hi => hk _ _ _ hB (hr i hi)⟩
theorem vatAt.keeps {w w' : World} {B : Nat} (hk : Keeps B w w') : ∀ (n b o : Nat) (v : VT n), B ≤ b → vatAt w B n b o v → vatAt w' B n b o v
  | 0, _, _, _, _, h => h.elim
  | n + 1, b, o, v, hB, ⟨h0, h1, h2, ⟨a, cap, h3, h4, h5⟩, a', cap', h6, h7, h8⟩ =>
    ⟨hk _ _ _ hB h0, hk _ _ _ hB h1, hk _ _ _ hB h2, ⟨a, cap, hk _ _ _ hB h3, h4.keeps hk, h5⟩,
      a', cap', hk _ _ _ hB h6, fun hl => by
        obtain ⟨b', off, e, hB', hr⟩ := h7 hl
        exact ⟨b', off, e, hB', fun i hi => vatAt.keeps hk n _ _ _ hB' (hr i hi)⟩, h8⟩
theorem valsOf.keeps {w w' : World} {B n : Nat} {a : Option Addr} {vs : List (VT n)} (h : valsOf w B n a vs) (hk : Keeps B w w') : valsOf w' B n a vs := by
  intro hl
  obtain ⟨b, off, e, hB, hr⟩ := h hl
  exact ⟨b, off, e, hB, fun i hi => vatAt.keeps hk n _ _ _ hB (hr i hi)⟩
theorem valArg.keeps {w w' : World} {B : Nat} (hk : Keeps B w w') : ∀ {n : Nat} {x : Value} {v : VT n}, valArg w B n x v → valArg w' B n x v
  | 0, _, _, h => h.elim
  | n + 1, x, v, ⟨a, cap, a', cap', e, ⟨h1, h2⟩, h3, h4⟩ => ⟨a, cap, a', cap', e, ⟨h1.keeps hk, h2⟩, h3.keeps hk, h4⟩
theorem vatAt.below {w w' : World} (hb : Below w.heap.size w w') {n b o : Nat} {v : VT n} (h : vatAt w 0 n b o v) : vatAt w' 0 n b o v := vatAt.keeps (Keeps.below hb) n b o v (Nat.zero_le _) h
theorem valsOf.below {w w' : World} {B n : Nat} {a : Option Addr} {vs : List (VT n)} (h : valsOf w B n a vs) (hb : Below w.heap.size w w') : valsOf w' B n a vs := h.keeps (Keeps.below hb)
theorem valArg.below {w w' : World} {B n : Nat} {x : Value} {v : VT n} (h : valArg w B n x v) (hb : Below w.heap.size w w') : valArg w' B n x v := h.keeps (Keeps.below hb)
theorem strB.mono {w : World} {B B' : Nat} {a : Option Addr} {ss : List ByteArray} (h : strB w B a ss) (hB : B' ≤ B) : strB w B' a ss := fun hl => by
  obtain ⟨b, off, e, hb, hr⟩ := h hl
  exact ⟨b, off, e, by omega, hr⟩
theorem vatAt.mono {w : World} {B B' : Nat} (hB : B' ≤ B) : ∀ (n b o : Nat) (v : VT n), vatAt w B n b o v → vatAt w B' n b o v
  | 0, _, _, _, h => h.elim
  | n + 1, b, o, v, ⟨h0, h1, h2, ⟨a, cap, h3, h4, h5⟩, a', cap', h6, h7, h8⟩ =>
    ⟨h0, h1, h2, ⟨a, cap, h3, h4.mono hB, h5⟩, a', cap', h6, fun hl => by
        obtain ⟨b', off, e, hB', hr⟩ := h7 hl
        exact ⟨b', off, e, by omega, fun i hi => vatAt.mono hB n _ _ _ (hr i hi)⟩, h8⟩
theorem valsOf.mono {w : World} {B B' n : Nat} {a : Option Addr} {vs : List (VT n)} (h : valsOf w B n a vs) (hB : B' ≤ B) : valsOf w B' n a vs := by
  intro hl
  obtain ⟨b, off, e, hB', hr⟩ := h hl
  exact ⟨b, off, e, by omega, fun i hi => vatAt.mono hB n _ _ _ (hr i hi)⟩
theorem valArg.mono {w : World} {B B' : Nat} (hB : B' ≤ B) : ∀ {n : Nat} {x : Value} {v : VT n}, valArg w B n x v → valArg w B' n x v
  | 0, _, _, h => h.elim
  | n + 1, x, v, ⟨a, cap, a', cap', e, ⟨h1, h2⟩, h3, h4⟩ => ⟨a, cap, a', cap', e, ⟨h1.mono hB, h2⟩, h3.mono hB, h4⟩

/-- sizes that a machine has -/
def okVT : (n : Nat) → VT n → Prop
  | 0, _ => True
  | n + 1, v => v.hd.tx.size ≤ maxLen ∧ v.hd.ks.length ≤ maxLen ∧ okStrs v.hd.ks ∧ v.kids.length ≤ maxLen ∧ ∀ x ∈ v.kids, okVT n x
def okVTs (n : Nat) (vs : List (VT n)) : Prop := ∀ x ∈ vs, okVT n x
/-- sizes that a law's measure lets -/
def smVT : (n : Nat) → VT n → Prop
  | 0, _ => True
  | n + 1, v => v.hd.tx.size ≤ 1048576 ∧ v.hd.ks.length ≤ 1048576 ∧ (∀ s ∈ v.hd.ks, s.size ≤ 1048576) ∧ v.kids.length ≤ 1048576 ∧ ∀ x ∈ v.kids, smVT n x
def smVTs (n : Nat) (vs : List (VT n)) : Prop := ∀ x ∈ vs, smVT n x
theorem smVT.ok : ∀ (n : Nat) (v : VT n), smVT n v → okVT n v
  | 0, _, _ => trivial
  | n + 1, v, ⟨h0, h1, h2, h3, h4⟩ => ⟨by unfold maxLen; omega, by unfold maxLen; omega, fun s hs => by have := h2 s hs; unfold maxLen; omega, by unfold maxLen; omega, fun x hx => smVT.ok n x (h4 x hx)⟩

/-- what a law measures -/
def szL {α : Type} (f : α → Int → Int) : List α → Int → Int
  | [], l => l
  | t :: r, l => if f t l < 0 then -1 else szL f r (f t l)
def szRow {α : Type} (f : α → Int → Int) (ts : List α) (left : Int) : Int := if left - ts.length < 0 then -1 else szL f ts (left - ts.length)
def szV : (n : Nat) → VT n → Int → Int
  | 0, _, l => l
  | n + 1, v, l => if l - v.hd.tx.size < 0 then -1 else if szSS v.hd.ks (l - v.hd.tx.size) < 0 then -1 else if szRow (szV n) v.kids (szSS v.hd.ks (l - v.hd.tx.size)) < 0 then -1 else szRow (szV n) v.kids (szSS v.hd.ks (l - v.hd.tx.size))
theorem szL_le {α : Type} {f : α → Int → Int} (hf : ∀ x l, f x l ≤ l ∨ f x l = -1) : ∀ (ts : List α) (l : Int), szL f ts l ≤ l ∨ szL f ts l = -1
  | [], l => .inl (Int.le_refl _)
  | t :: r, l => by
    unfold szL
    split
    · exact .inr rfl
    · rcases szL_le hf r (f t l) with h | h
      · rcases hf t l with h' | h'
        · left; omega
        · left; omega
      · exact .inr h
theorem szRow_le {α : Type} {f : α → Int → Int} (hf : ∀ x l, f x l ≤ l ∨ f x l = -1) (ts : List α) (l : Int) : szRow f ts l ≤ l ∨ szRow f ts l = -1 := by
  unfold szRow
  split
  · exact .inr rfl
  · rcases szL_le hf ts (l - ts.length) with h | h
    · left; omega
    · exact .inr h
theorem vszStrs_le : ∀ (ss : List ByteArray) (l : Int), szStrs ss l ≤ l ∨ szStrs ss l = -1
  | [], l => .inl (Int.le_refl _)
  | s :: r, l => by
    unfold szStrs
    split
    · exact .inr rfl
    · rcases vszStrs_le r (l - s.size) with h | h
      · left; omega
      · exact .inr h
theorem vszSS_le (ss : List ByteArray) (l : Int) : szSS ss l ≤ l ∨ szSS ss l = -1 := by
  unfold szSS
  split
  · exact .inr rfl
  · rcases vszStrs_le ss (l - ss.length) with h | h
    · left; omega
    · exact .inr h
theorem szV_le : ∀ (n : Nat) (v : VT n) (l : Int), szV n v l ≤ l ∨ szV n v l = -1
  | 0, v, _ => nomatch v
  | n + 1, v, l => by
    unfold szV
    have h1 := vszSS_le v.hd.ks (l - v.hd.tx.size)
    have h2 := szRow_le (szV_le n) v.kids (szSS v.hd.ks (l - v.hd.tx.size))
    split
    · exact .inr rfl
    · split
      · exact .inr rfl
      · split
        · exact .inr rfl
        · left; omega
theorem szL_drop {α : Type} (f : α → Int → Int) (ts : List α) (k : Nat) (h : k < ts.length) (l : Int) : szL f (ts.drop k) l = if f (ts[k]'h) l < 0 then -1 else szL f (ts.drop (k + 1)) (f (ts[k]'h) l) := by
  rw [List.drop_eq_getElem_cons h]; rfl
theorem vszStrs_ok : ∀ (ss : List ByteArray) (l : Int), 0 ≤ l → ¬ szStrs ss l < 0 → ∀ s ∈ ss, (s.size : Int) ≤ l
  | [], l, _, _, s, hs => by simp at hs
  | x :: r, l, h0, h, s, hs => by
    unfold szStrs at h
    split at h
    · omega
    · rcases List.mem_cons.1 hs with rfl | hs
      · omega
      · have := vszStrs_ok r (l - x.size) (by omega) h s hs; omega
theorem vszSS_ok {ss : List ByteArray} {l : Int} (h : ¬ szSS ss l < 0) : (ss.length : Int) ≤ l ∧ ∀ s ∈ ss, (s.size : Int) ≤ l := by
  unfold szSS at h
  split at h
  · omega
  · exact ⟨by omega, fun s hs => by have := vszStrs_ok ss (l - ss.length) (by omega) h s hs; omega⟩
theorem szL_ok {α : Type} {f : α → Int → Int} {Q : α → Prop} (hle : ∀ x l, f x l ≤ l ∨ f x l = -1) (hf : ∀ x l, l ≤ 1048576 → ¬ f x l < 0 → Q x) : ∀ (ts : List α) (l : Int), l ≤ 1048576 → ¬ szL f ts l < 0 → ∀ x ∈ ts, Q x
  | [], l, _, _, x, hx => by simp at hx
  | t :: r, l, hl, h, x, hx => by
    unfold szL at h
    split at h
    · omega
    · rename_i ht
      rcases List.mem_cons.1 hx with rfl | hx
      · exact hf _ _ hl ht
      · have := hle t l
        exact szL_ok hle hf r _ (by omega) h x hx
theorem szRow_ok {α : Type} {f : α → Int → Int} {Q : α → Prop} (hle : ∀ x l, f x l ≤ l ∨ f x l = -1) (hf : ∀ x l, l ≤ 1048576 → ¬ f x l < 0 → Q x) {ts : List α} {l : Int} (hl : l ≤ 1048576) (h : ¬ szRow f ts l < 0) : ts.length ≤ 1048576 ∧ ∀ x ∈ ts, Q x := by
  unfold szRow at h
  split at h
  · omega
  · exact ⟨by omega, szL_ok hle hf ts _ (by omega) h⟩
theorem szV_ok : ∀ (n : Nat) (v : VT n) (l : Int), l ≤ 1048576 → ¬ szV n v l < 0 → smVT n v
  | 0, v, _, _, _ => nomatch v
  | n + 1, v, l, hl, h => by
    have hle := vszSS_le v.hd.ks (l - v.hd.tx.size)
    unfold szV at h
    split at h
    · omega
    · split at h
      · omega
      · rename_i h1
        have h2 := vszSS_ok h1
        split at h
        · omega
        · have h3 := szRow_ok (szV_le n) (szV_ok n) (by omega) h
          exact ⟨by omega, by omega, fun s hs => by have := h2.2 s hs; omega, h3.1, h3.2⟩
/-- alike, all through -/
def eqL {α : Type} (f : α → α → Bool) : List α → List α → Bool
  | [], [] => true
  | x :: r, y :: s => f x y && eqL f r s
  | _, _ => false
def eqVT : (n : Nat) → VT n → VT n → Bool
  | 0, _, _ => true
  | n + 1, u, v => decide (u.hd.kd = v.hd.kd) && decide (u.hd.tx = v.hd.tx) && decide (u.hd.nm = v.hd.nm) && decide (u.hd.ks = v.hd.ks) && eqL (eqVT n) u.kids v.kids
theorem eqL_refl {α : Type} {f : α → α → Bool} (h : ∀ x, f x x = true) : ∀ l : List α, eqL f l l = true
  | [] => rfl
  | x :: r => by unfold eqL; rw [h x, eqL_refl h r]; rfl
theorem eqVT_refl : ∀ (n : Nat) (v : VT n), eqVT n v v = true
  | 0, v => nomatch v
  | n + 1, v => by unfold eqVT; simp [eqL_refl (eqVT_refl n)]
theorem eqL_len {α : Type} {f : α → α → Bool} : ∀ {l m : List α}, l.length ≠ m.length → eqL f l m = false
  | [], [], h => (h rfl).elim
  | [], _ :: _, _ => rfl
  | _ :: _, [], _ => rfl
  | x :: r, y :: s, h => by unfold eqL; rw [eqL_len (l := r) (m := s) (by simpa using h), Bool.and_false]
theorem eqL_drop {α : Type} {f : α → α → Bool} {l m : List α} {k : Nat} (h : k < l.length) (h' : k < m.length) : eqL f (l.drop k) (m.drop k) = (f (l[k]'h) (m[k]'h') && eqL f (l.drop (k + 1)) (m.drop (k + 1))) := by
  rw [List.drop_eq_getElem_cons h, List.drop_eq_getElem_cons h']; rfl
end Go.Proofs.Ytamlgjmboljcdaa
/- Names in order: what is asked of a term's values and of a value's keys; impl.ascendingNames. -/
namespace Go.Proofs.Ytamlgjmboljcdaa
open Go.RowKit Go.BigFrame
set_option linter.unusedVariables false

def ssAt (ss : List ByteArray) (i : Nat) : ByteArray := ss[i]?.getD ByteArray.empty
def okV (ss : List ByteArray) (i : Nat) : Prop := nameB (ssAt ss i) = true ∧ (0 < i → ltS (ssAt ss (i - 1)) (ssAt ss i) = true)
def valsB (ss : List ByteArray) : Bool := decide (∀ i, i < ss.length → nameB (ssAt ss i) = true ∧ (0 < i → ltS (ssAt ss (i - 1)) (ssAt ss i) = true))
theorem valsB_bad {ss : List ByteArray} {k : Nat} (hk : k < ss.length) (h : ¬ okV ss k) : valsB ss = false := by
  unfold valsB; rw [decide_eq_false_iff_not]; exact fun g => h (g k hk)
theorem valsB_end {ss : List ByteArray} (h : ∀ i, i < ss.length → okV ss i) : valsB ss = true := by
  unfold valsB; rw [decide_eq_true_eq]; exact h
theorem okV_succ {ss : List ByteArray} {k : Nat} (h : ∀ i, i < k → okV ss i) (hk : okV ss k) : ∀ i, i < k + 1 → okV ss i := by
  intro i hi
  by_cases e : i = k
  · rw [e]; exact hk
  · exact h i (by omega)
theorem ssAt_get {ss : List ByteArray} {k : Nat} (h : k < ss.length) : ssAt ss k = ss[k] := by unfold ssAt; rw [List.getElem?_eq_getElem h]; rfl
theorem strAt_cells {w : World} {b off : Nat} {ss : List ByteArray} (h : strAt w b off ss) : ∀ i, i < ss.length → w.cell? ⟨b, off + i, none⟩ = some (.string (ssAt ss i)) := fun i hi => by rw [ssAt_get hi]; exact h i hi
theorem okV_cases (ss : List ByteArray) (k : Nat) :
    (nameB (ssAt ss k) = false ∧ Hid (¬ okV ss k)) ∨ (nameB (ssAt ss k) = true ∧ Hid (k = 0) ∧ Hid (okV ss k)) ∨
    (nameB (ssAt ss k) = true ∧ 0 < k ∧ Op.bytesLess (ssAt ss (k - 1)).toList (ssAt ss k).toList = true ∧ Hid (okV ss k)) ∨
    (nameB (ssAt ss k) = true ∧ 0 < k ∧ Op.bytesLess (ssAt ss (k - 1)).toList (ssAt ss k).toList = false ∧ Hid (¬ okV ss k)) := by
  have hd : okV ss k ↔ nameB (ssAt ss k) = true ∧ (0 < k → Op.bytesLess (ssAt ss (k - 1)).toList (ssAt ss k).toList = true) := Iff.rfl
  unfold Hid
  rw [hd]
  rcases Bool.eq_false_or_eq_true (nameB (ssAt ss k)) with h1 | h1
  · by_cases h3 : 0 < k
    · rcases Bool.eq_false_or_eq_true (Op.bytesLess (ssAt ss (k - 1)).toList (ssAt ss k).toList) with h4 | h4
      · exact .inr (.inr (.inl ⟨h1, h3, h4, h1, fun _ => h4⟩))
      · refine .inr (.inr (.inr ⟨h1, h3, h4, fun g => ?_⟩))
        have := g.2 h3
        rw [h4] at this; cases this
    · exact .inr (.inl ⟨h1, by omega, h1, fun h => absurd h h3⟩)
  · refine .inl ⟨h1, fun g => ?_⟩
    rw [h1] at g; cases g.1

set_option maxHeartbeats 800000 in
theorem iasc_any (a : Option Addr) (cap : Nat) (ss : List ByteArray) (w : World) (hl : ss.length ≤ maxLen) (hrow : strOf w a ss) :
    Calls Try.prog 99 #[.slice a ss.length cap] w fun e w' => e = .returned (.bool (valsB ss)) ∧ Below w.heap.size w w' := by
  unfold maxLen at hl
  have Hr := hide hrow
  clear hrow
  go_enter Try.func99, Try.ntmps99
  go_wp2
  go_loopw [7] (fun i wr => ∃ (k : Nat), k ≤ ss.length ∧ i = .int .i64 k ∧ Hid (∀ j, j < k → okV ss j) ∧ Below w.heap.size w wr) (fun i _ => ss.length - (intOf i).toNat)
  case atStart => exact ⟨0, Nat.zero_le _, rfl, fun j hj => by omega, Below.refl _ _⟩
  case round =>
    obtain ⟨k, hk, rfl, Hx, hbw⟩ := hrel
    by_cases hlt : k < ss.length
    · obtain ⟨b, off, rfl, hat⟩ := Hr.out (by omega)
      have hc := strAt_cells hat
      have hbb : b < w.heap.size := World.block_lt_of_cell? _ _ (hat k hlt)
      have c0 := (hbw.cell (p := ⟨b, off + k, none⟩) hbb).trans (hc k hlt)
      have Hcp : Hid (0 < k → ∀ wx, Below w.heap.size w wx → wx.cell? ⟨b, off + (k - 1), none⟩ = some (.string (ssAt ss (k - 1)))) := fun h wx hx => (hx.cell (p := ⟨b, off + (k - 1), none⟩) hbb).trans (hc (k - 1) (by omega))
      have Hs : Hid (okV ss k → ∀ j, j < k + 1 → okV ss j) := fun h => okV_succ Hx.out h
      have Hb : Hid (¬ okV ss k → valsB ss = false) := fun h => valsB_bad hlt h
      have hcs := okV_cases ss k
      clear hat hc Hx
      generalize ssAt ss k = K at *
      generalize ssAt ss (k - 1) = P at *
      have hK := (iname_any K wr)
      rcases hcs with ⟨h1, hok⟩ | ⟨h1, h3, hok⟩ | ⟨h1, h3, h4, hok⟩ | ⟨h1, h3, h4, hok⟩
      · rw [h1] at hK
        have HK := hide hK
        have Hn := hide (Hb.out hok.out)
        clear hK h1 Hcp Hs Hb Hr
        go_wp2_with fail
        refine (HK.out).mono ?_
        rintro e w1 ⟨rfl, hb1⟩
        go_wp2
        go_ret
        exact ⟨ret_bool (Hn.out.symm), hbw.trans (hb1.mono hbw.size)⟩
      · rw [h1] at hK
        have HK := hide hK
        have hk0 : k = 0 := h3.out
        have h3' : decide ((0 : Int) < (k : Int)) = false := by rw [decide_eq_false_iff_not]; omega
        have h3'' : decide (0 < k) = false := by rw [decide_eq_false_iff_not]; omega
        have h3a : (k : Int) ≤ 0 := by omega
        have Hn := hide (Hs.out hok.out)
        clear hK h1 Hcp h3 hk0 Hs Hb Hr
        go_wp2_with fail
        refine (HK.out).mono ?_
        rintro e w1 ⟨rfl, hb1⟩
        go_wp2
        go_roundw
        case rel => exact ⟨k + 1, by omega, by go_num, Hn, hbw.trans (hb1.mono hbw.size)⟩
        case measure => simp [intOf]; omega
      · rw [h1] at hK
        have HK := hide hK
        have h3' : (0 : Int) < (k : Int) := by omega
        have Hn := hide (Hs.out hok.out)
        clear hK h1 Hs Hb Hr
        go_wp2_with fail
        refine (HK.out).mono ?_
        rintro e w1 ⟨rfl, hb1⟩
        have cp := Hcp.out h3 w1 (hbw.trans (hb1.mono hbw.size))
        go_wp2
        go_roundw
        case rel => exact ⟨k + 1, by omega, by go_num, Hn, hbw.trans (hb1.mono hbw.size)⟩
        case measure => simp [intOf]; omega
      · rw [h1] at hK
        have HK := hide hK
        have h3' : (0 : Int) < (k : Int) := by omega
        have Hn := hide (Hb.out hok.out)
        clear hK h1 Hs Hb Hr
        go_wp2_with fail
        refine (HK.out).mono ?_
        rintro e w1 ⟨rfl, hb1⟩
        have cp := Hcp.out h3 w1 (hbw.trans (hb1.mono hbw.size))
        go_wp2
        go_ret
        exact ⟨ret_bool (Hn.out.symm), hbw.trans (hb1.mono hbw.size)⟩
    · have e : k = ss.length := by omega
      subst e
      have Hn : Hid (valsB ss = true) := valsB_end Hx.out
      clear Hx Hr
      go_wp2
      go_ret
      exact ⟨ret_bool (Hn.out.symm), hbw⟩

end Go.Proofs.Ytamlgjmboljcdaa
/- Right values and their sizes, as plain functions. -/
namespace Go.Proofs.Ytamlgjmboljcdaa
open Go.RowKit
set_option linter.unusedVariables false

/-- what kids have in all, added to n; 0 where one has nothing -/
def addL {α : Type} (f : α → Nat) : List α → Nat → Nat
  | [], n => n
  | x :: r, n => if f x = 0 then 0 else addL f r (n + f x)
theorem addL_ge {α : Type} {f : α → Nat} : ∀ (l : List α) (n : Nat), addL f l n = 0 ∨ n + l.length ≤ addL f l n
  | [], n => .inr (Nat.le_refl _)
  | x :: r, n => by
    unfold addL
    split
    · exact .inl rfl
    · rename_i h
      rcases addL_ge (f := f) r (n + f x) with h' | h'
      · exact .inl h'
      · right; simp only [List.length_cons]; omega
theorem addL_drop {α : Type} (f : α → Nat) (ts : List α) (k : Nat) (h : k < ts.length) (n : Nat) : addL f (ts.drop k) n = if f (ts[k]'h) = 0 then 0 else addL f (ts.drop (k + 1)) (n + f (ts[k]'h)) := by
  rw [List.drop_eq_getElem_cons h]; rfl
def ascB (x : Int) : Bool := decide (32 ≤ x ∧ x ≤ 126)
def txTo (s : ByteArray) (k : Nat) : Prop := ∀ j, j < k → ascB (byt s j) = true
def txB (s : ByteArray) : Bool := decide ((∀ j, j < s.size → ascB (byt s j) = true) ∧ s.size ≤ 100)
theorem txTo_succ {s : ByteArray} {k : Nat} (h : txTo s k) (hk : ascB (byt s k) = true) : txTo s (k + 1) := by
  intro j hj
  by_cases e : j = k
  · rw [e]; exact hk
  · exact h j (by omega)
theorem txB_bad {s : ByteArray} {k : Nat} (hk : k < s.size) (h : ascB (byt s k) = false) : txB s = false := by
  unfold txB; rw [decide_eq_false_iff_not]; rintro ⟨h1, -⟩
  have := h1 k hk; rw [h] at this; cases this
theorem txB_end {s : ByteArray} (h : txTo s s.size) : txB s = decide (s.size ≤ 100) := by
  unfold txB; rw [decide_eq_decide]; exact ⟨fun g => g.2, fun g => ⟨h, g⟩⟩
theorem txB_long {s : ByteArray} (h : 100 < s.size) : txB s = false := by unfold txB; rw [decide_eq_false_iff_not]; omega
/-- all but the kids -/
def hdB (kd : Int) (tx : ByteArray) (nm : Int) (ks : List ByteArray) (m : Nat) : Bool :=
  if kd = 1 then txB tx && decide (nm = 0) && decide (ks.length = 0) && decide (m = 0)
  else if kd = 2 then decide (tx.size = 0) && decide (ks.length = 0) && decide (m = 0)
  else if kd = 3 then decide (tx.size = 0) && decide (nm = 0 ∨ nm = 1) && decide (ks.length = 0) && decide (m = 0)
  else if kd = 4 then decide (tx.size = 0) && decide (nm = 0) && decide (ks.length = 0)
  else if kd = 5 then decide (tx.size = 0) && decide (nm = 0) && decide (ks.length = m) && valsB ks
  else false
/-- a value's true size, if it is right and not deeper than d; else 0 -/
def tsz : (n : Nat) → Nat → VT n → Nat
  | 0, _, _ => 0
  | _ + 1, 0, _ => 0
  | n + 1, d + 1, v => if hdB v.hd.kd v.hd.tx v.hd.nm v.hd.ks v.kids.length then addL (tsz n d) v.kids 1 else 0
/-- the same, 0 where it is above m -/
def upTo (s m : Nat) : Nat := if s ≤ m then s else 0
theorem tsz_pos (n d : Nat) (v : VT (n + 1)) : tsz (n + 1) (d + 1) v = if hdB v.hd.kd v.hd.tx v.hd.nm v.hd.ks v.kids.length then addL (tsz n d) v.kids 1 else 0 := rfl
end Go.Proofs.Ytamlgjmboljcdaa
/- Values: the helpers of the laws that measure, copy and compare them. -/
namespace Go.Proofs.Ytamlgjmboljcdaa
open Go.RowKit
set_option linter.unusedVariables false

def szC (n : Nat) : Prop := ∀ (v : VT n) (x : Value) (left : Int) (w : World), okVT n v → valArg w 0 n x v → 0 ≤ left → left ≤ 1048576 →
  Calls Try.prog 75 #[x, .int .i64 left] w fun e w' => e = .returned (.int .i64 (szV n v left)) ∧ Below w.heap.size w w'
theorem szValueS_of {n : Nat} (ih : szC n) (a : Option Addr) (cap : Nat) (ts : List (VT n)) (left : Int) (w : World) (hl : ts.length ≤ maxLen) (hz : okVTs n ts) (h0 : 0 ≤ left) (h1 : left ≤ 1048576) (hrow : valsOf w 0 n a ts) :
    Calls Try.prog 89 #[.slice a ts.length cap, .int .i64 left] w fun e w' => e = .returned (.int .i64 (szRow (szV n) ts left)) ∧ Below w.heap.size w w' := by
  unfold maxLen at hl
  by_cases c1 : left - (ts.length : Int) < 0
  · have E : Hid (szRow (szV n) ts left = -1) := by unfold Hid szRow; rw [if_pos c1]
    clear hrow hz ih
    go_enter Try.func89, Try.ntmps89
    go_wp2
    go_ret
    exact ⟨ret_int E.out.symm, Below.refl _ _⟩
  have E : Hid (szRow (szV n) ts left = szL (szV n) ts (left - ts.length)) := by unfold Hid szRow; rw [if_neg c1]
  have Hr := hide hrow
  have Hz := hide hz
  have Hi := hide ih
  clear hrow hz ih
  go_enter Try.func89, Try.ntmps89
  go_wp2
  go_loopw [1, 5] (fun l i wr => ∃ (k : Nat) (x : Int), k ≤ ts.length ∧ i = .int .i64 k ∧ l = .int .i64 x ∧ 0 ≤ x ∧ x ≤ 1048576 ∧ Hid (szL (szV n) (ts.drop k) x = szL (szV n) ts (left - ts.length)) ∧ Below w.heap.size w wr) (fun _ i _ => ts.length - (intOf i).toNat)
  case atStart => exact ⟨0, _, Nat.zero_le _, rfl, rfl, by omega, by omega, rfl, Below.refl _ _⟩
  case round =>
    obtain ⟨k, x, hk, rfl, rfl, hx0, hx1, hsz, hbw⟩ := hrel
    by_cases hlt : k < ts.length
    · obtain ⟨b, off, rfl, _, hat⟩ := Hr.out (by omega)
      have hv := (hat k hlt).below hbw
      have hz := (Hz.out _ (List.getElem_mem hlt))
      have hn := szL_drop (szV n) ts k hlt x
      have hs := szV_le n ts[k] x
      cases n with
      | zero => exact hv.elim
      | succ n =>
      obtain ⟨KD, TX, NM, KS, KIDS, hkv⟩ := VT.parts (ts[k]'hlt)
      rw [hkv] at hv hz hn hs
      clear hkv hat
      have hcon := fun (X : Value) (wx : World) (hx : valArg wx 0 (n + 1) X (VT.mk ⟨KD, TX, NM, KS⟩ KIDS)) => Hi.out (VT.mk ⟨KD, TX, NM, KS⟩ KIDS) X x wx hz hx hx0 hx1
      generalize szV (n + 1) (VT.mk ⟨KD, TX, NM, KS⟩ KIDS) x = y at *
      have Hcon := hide hcon
      obtain ⟨h0c, h1c, h2c, ⟨av, capv, h3c, h3d⟩, al, capl, h4c, h4d⟩ := hv
      have Hd := hide (And.intro h3d h4d)
      simp only [VT.hd_mk, VT.kids_mk] at h0c h1c h2c h3c h4c
      clear hcon h3d h4d hz
      by_cases hneg : y < 0
      · have hr : Hid (szL (szV (n + 1)) ts (left - ts.length) = -1) := by rw [← hsz.out, hn, if_pos hneg]; rfl
        clear hn hsz
        go_wp2_with fail
        refine (Hcon.out _ _ ⟨_, _, _, _, rfl, Hd.out.1, Hd.out.2⟩).mono ?_
        rintro e w1 ⟨rfl, hb⟩
        go_wp2
        go_ret
        exact ⟨ret_int (by rw [E.out, hr.out]), hbw.trans (hb.mono hbw.size)⟩
      · have hr : Hid (szL (szV (n + 1)) (ts.drop (k + 1)) y = szL (szV (n + 1)) ts (left - ts.length)) := by rw [← hsz.out, hn, if_neg hneg]; rfl
        clear hn hsz
        go_wp2_with fail
        refine (Hcon.out _ _ ⟨_, _, _, _, rfl, Hd.out.1, Hd.out.2⟩).mono ?_
        rintro e w1 ⟨rfl, hb⟩
        go_wp2
        go_roundw
        case rel => exact ⟨k + 1, _, by omega, by go_num, rfl, by omega, by omega, hr, hbw.trans (hb.mono hbw.size)⟩
        case measure => simp [intOf]; omega
    · have e : k = ts.length := by omega
      subst e
      have hr : Hid (szL (szV n) ts (left - ts.length) = x) := by rw [← hsz.out, List.drop_length]; rfl
      clear hsz
      go_wp2
      go_ret
      exact ⟨ret_int (by rw [E.out, hr.out]), hbw⟩
theorem szValue_of {n : Nat} (ih : szC n) : szC (n + 1) := by
  intro v X left w hok harg h0 h1
  obtain ⟨kd, key, nm, ss, kids, rfl⟩ := VT.parts v
  obtain ⟨a, cap, a', cap', rfl, ⟨hrow, hf⟩, hkids, hf'⟩ := harg
  obtain ⟨hk, hl, hz, hkl, hkz⟩ := hok
  simp only [VT.hd_mk, VT.kids_mk] at *
  unfold maxLen at hk
  have Hr := hide hrow.of
  have Hz := hide hz
  have Hl := hide hl
  have Hk := hide hkids
  have Hkz := hide hkz
  have Hkl := hide hkl
  have Hi := hide ih
  clear hrow hz hl hkids hkz hkl ih hf hf'
  have hcon : ∀ wx, Below w.heap.size w wx → 0 ≤ left - key.size → Calls Try.prog 74 #[.slice a ss.length cap, .int .i64 (left - key.size)] wx fun e w' => e = .returned (.int .i64 (szSS ss (left - key.size))) ∧ Below wx.heap.size wx w' :=
    fun wx hx hc => szStringS_any a cap ss _ wx Hl.out Hz.out hc (by omega) (Hr.out.below hx)
  have Hcon := hide hcon
  have hs1 := vszSS_le ss (left - key.size)
  have hcon2 : ∀ (y : Int) wx, Below w.heap.size w wx → 0 ≤ y → y ≤ 1048576 → Calls Try.prog 89 #[.slice a' kids.length cap', .int .i64 y] wx fun e w' => e = .returned (.int .i64 (szRow (szV n) kids y)) ∧ Below wx.heap.size wx w' :=
    fun y wx hx hc hc' => szValueS_of Hi.out a' cap' kids _ wx Hkl.out Hkz.out hc hc' (Hk.out.below hx)
  have Hcon2 := hide hcon2
  have E : Hid (szV (n + 1) (VT.mk ⟨kd, key, nm, ss⟩ kids) left = if left - key.size < 0 then -1 else if szSS ss (left - key.size) < 0 then -1 else if szRow (szV n) kids (szSS ss (left - key.size)) < 0 then -1 else szRow (szV n) kids (szSS ss (left - key.size))) := rfl
  clear hcon hcon2 Hi Hk Hkz Hkl Hr Hz Hl
  generalize szV (n + 1) (VT.mk ⟨kd, key, nm, ss⟩ kids) left = R at *
  by_cases c1 : left - (key.size : Int) < 0
  · have E' : Hid (R = -1) := by show _ = _; rw [E.out, if_pos c1]
    go_enter Try.func75, Try.ntmps75
    go_wp2
    go_ret
    exact ⟨ret_int E'.out.symm, (Below.refl _ _).alloc (Nat.le_refl _) _⟩
  have E1 := hide (E.out.trans (if_neg c1))
  have HC := hide (fun wx hx => Hcon.out wx hx (by omega))
  clear E Hcon
  generalize szSS ss (left - key.size) = x at *
  by_cases c2 : x < 0
  · have E' : Hid (R = -1) := by show _ = _; rw [E1.out, if_pos c2]
    clear E1
    go_enter Try.func75, Try.ntmps75
    go_wp2_with fail
    refine (HC.out _ ((Below.refl _ _).alloc (Nat.le_refl _) _)).mono ?_
    rintro e w1 ⟨rfl, hb1⟩
    go_wp2
    go_ret
    exact ⟨ret_int E'.out.symm, ((Below.refl _ _).alloc (Nat.le_refl _) _).trans (hb1.mono (by simp))⟩
  have E2 := hide (E1.out.trans (if_neg c2))
  have HC2 := hide (fun wx hx => Hcon2.out x wx hx (by omega) (by omega))
  clear E1 Hcon2
  generalize szRow (szV n) kids x = y at *
  by_cases c3 : y < 0
  · have E' : Hid (R = -1) := by show _ = _; rw [E2.out, if_pos c3]
    clear E2
    go_enter Try.func75, Try.ntmps75
    go_wp2_with fail
    refine (HC.out _ ((Below.refl _ _).alloc (Nat.le_refl _) _)).mono ?_
    rintro e w1 ⟨rfl, hb1⟩
    have d0 : w1.cell? ⟨w.heap.size, 4, none⟩ = some (.slice a' kids.length cap') := (hb1.cell (p := ⟨w.heap.size, 4, none⟩) (by simp)).trans (by simp [go_sem])
    have hB : Below w.heap.size w w1 := ((Below.refl _ _).alloc (Nat.le_refl _) _).trans (hb1.mono (by simp))
    go_wp2_with fail
    refine (HC2.out _ hB).mono ?_
    rintro e w2 ⟨rfl, hb2⟩
    go_wp2
    go_ret
    exact ⟨ret_int E'.out.symm, hB.trans (hb2.mono hB.size)⟩
  · have E' : Hid (R = y) := by show _ = _; rw [E2.out, if_neg c3]
    clear E2
    go_enter Try.func75, Try.ntmps75
    go_wp2_with fail
    refine (HC.out _ ((Below.refl _ _).alloc (Nat.le_refl _) _)).mono ?_
    rintro e w1 ⟨rfl, hb1⟩
    have d0 : w1.cell? ⟨w.heap.size, 4, none⟩ = some (.slice a' kids.length cap') := (hb1.cell (p := ⟨w.heap.size, 4, none⟩) (by simp)).trans (by simp [go_sem])
    have hB : Below w.heap.size w w1 := ((Below.refl _ _).alloc (Nat.le_refl _) _).trans (hb1.mono (by simp))
    go_wp2_with fail
    refine (HC2.out _ hB).mono ?_
    rintro e w2 ⟨rfl, hb2⟩
    go_wp2
    go_ret
    exact ⟨ret_int E'.out.symm, hB.trans (hb2.mono hB.size)⟩
theorem szValue_any : ∀ n, szC n
  | 0 => fun v => nomatch v
  | n + 1 => szValue_of (szValue_any n)
end Go.Proofs.Ytamlgjmboljcdaa
/- Right values: the spec's reading of them. -/
namespace Go.Proofs.Ytamlgjmboljcdaa
open Go.RowKit Go.BigFrame
set_option linter.unusedVariables false

theorem ascIn (x : Int) : inB x 32 126 = ascB x := rfl
theorem l4Text_any (s : ByteArray) (w : World) (hs : s.size ≤ maxLen) : Calls Try.prog 90 #[.string s] w fun e w' => e = .returned (.bool (txB s)) ∧ w' = w := by
  unfold maxLen at hs
  go_enter Try.func90, Try.ntmps90
  go_wp2
  go_loop [3] (fun i => ∃ k : Nat, k ≤ s.size ∧ i = .int .i64 k ∧ Hid (txTo s k)) (fun i => s.size - (intOf i).toNat)
  case atStart => exact ⟨0, Nat.zero_le _, rfl, fun j hj => by omega⟩
  case round =>
    obtain ⟨k, hk, rfl, Hok⟩ := hrel
    by_cases hlt : k < s.size
    · have hb := byt_bd s k
      rw [byt_get s k hlt] at hb
      have hsucc := fun h => txTo_succ Hok.out (k := k) h
      have hbad := fun h => txB_bad (s := s) hlt h
      rw [byt_get s k hlt] at hsucc hbad
      clear Hok
      have Hs : Hid (ascB (s[k]'hlt).toNat = true → txTo s (k + 1)) := hsucc
      have Hb : Hid (ascB (s[k]'hlt).toNat = false → txB s = false) := hbad
      have hcon := fun wx => l1In_any ((s[k]'hlt).toNat) 32 126 wx
      rw [ascIn] at hcon
      clear hsucc hbad
      cases hc : ascB ((s[k]'hlt).toNat)
      · rw [hc] at hcon
        have Hn := hide (Hb.out hc)
        have Hcon := hide hcon
        clear hcon Hs Hb hc
        go_wp2_with (go_at_call 37; refine (Hcon.out _).mono ?_; rintro e w' ⟨rfl, rfl⟩)
        go_ret
        exact ⟨ret_bool Hn.out.symm, rfl⟩
      · rw [hc] at hcon
        have Hn := hide (Hs.out hc)
        have Hcon := hide hcon
        clear hcon Hs Hb hc
        go_wp2_with (go_at_call 37; refine (Hcon.out _).mono ?_; rintro e w' ⟨rfl, rfl⟩)
        go_round
        case rel => exact ⟨k + 1, by omega, by go_num, Hn⟩
        case measure => simp [intOf]; omega
    · have e : k = s.size := by omega
      subst e
      have Hn := hide (txB_end Hok.out)
      clear Hok
      go_wp2
      all_goals go_ret
      all_goals exact ⟨ret_bool (by rw [Hn.out, Bool.eq_iff_iff]; simp; omega), rfl⟩
def keysB (ss : List ByteArray) (m : Nat) : Bool := decide (ss.length = m) && valsB ss
set_option maxHeartbeats 800000 in
theorem l4Keys_any (kd : Int) (tx : ByteArray) (nm : Int) (ss : List ByteArray) (m : Nat) (a a' : Option Addr) (cap cap' : Nat) (w : World) (hl : ss.length ≤ maxLen) (hm : m ≤ maxLen) (hz : okStrs ss) (hrow : strOf w a ss) :
    Calls Try.prog 91 #[.agg #[.int .i64 kd, .string tx, .int .i64 nm, .slice a ss.length cap, .slice a' m cap']] w fun e w' => e = .returned (.bool (keysB ss m)) ∧ Below w.heap.size w w' := by
  unfold maxLen at hl hm
  have Hr := hide hrow
  have Hz : Hid (∀ i, (ssAt ss i).size ≤ maxLen) := fun i => by
    unfold ssAt
    by_cases hi : i < ss.length
    · rw [List.getElem?_eq_getElem hi]; exact hz _ (List.getElem_mem hi)
    · rw [List.getElem?_eq_none (by omega)]; exact Nat.zero_le _
  clear hrow hz
  go_enter Try.func91, Try.ntmps91
  go_wp2
  go_loopw [3] (fun i wr => ∃ (k : Nat), k ≤ ss.length ∧ i = .int .i64 k ∧ Hid (∀ j, j < k → okV ss j) ∧ wr.cell? ⟨w.heap.size, 3, none⟩ = some (.slice a ss.length cap) ∧ wr.cell? ⟨w.heap.size, 4, none⟩ = some (.slice a' m cap') ∧ Below w.heap.size w wr) (fun i _ => ss.length - (intOf i).toNat)
  case atStart => exact ⟨0, Nat.zero_le _, rfl, fun j hj => by omega, by simp, by simp, (Below.refl _ _).alloc (by simp) _⟩
  case round =>
    obtain ⟨k, hk, rfl, Hx, b3, b4, hbw⟩ := hrel
    by_cases hlt : k < ss.length
    · obtain ⟨b, off, rfl, hat⟩ := Hr.out (by omega)
      have hc := strAt_cells hat
      have hbb : b < w.heap.size := World.block_lt_of_cell? _ _ (hat k hlt)
      have c0 := (hbw.cell (p := ⟨b, off + k, none⟩) hbb).trans (hc k hlt)
      have cp : 0 < k → wr.cell? ⟨b, off + (k - 1), none⟩ = some (.string (ssAt ss (k - 1))) := fun h => (hbw.cell (p := ⟨b, off + (k - 1), none⟩) hbb).trans (hc (k - 1) (by omega))
      have hzK := Hz.out k
      have Hs : Hid (okV ss k → ∀ j, j < k + 1 → okV ss j) := fun h => okV_succ Hx.out h
      have Hb : Hid (¬ okV ss k → keysB ss m = false) := fun h => by unfold keysB; rw [valsB_bad hlt h, Bool.and_false]
      have hcs := okV_cases ss k
      clear hat hc Hx
      generalize ssAt ss k = K at *
      generalize ssAt ss (k - 1) = P at *
      have hK := fun wx => (sname_any K wx hzK)
      clear hzK
      rcases hcs with ⟨h1, hok⟩ | ⟨h1, h3, hok⟩ | ⟨h1, h3, h4, hok⟩ | ⟨h1, h3, h4, hok⟩
      · rw [h1] at hK
        have HK := hide hK
        have Hn := hide (Hb.out hok.out)
        clear hK h1 cp Hs Hb Hz Hr
        go_wp2
        go_quiet ((go_at_call 62; exact Calls.quiet_of_same (HK.out _)))
        go_wp2
        go_ret
        exact ⟨ret_bool Hn.out.symm, below_drewN hbw _⟩
      · rw [h1] at hK
        have HK := hide hK
        have hk0 : k = 0 := h3.out
        have h3' : decide ((0 : Int) < (k : Int)) = false := by rw [decide_eq_false_iff_not]; omega
        have h3'' : decide (0 < k) = false := by rw [decide_eq_false_iff_not]; omega
        have h3a : (k : Int) ≤ 0 := by omega
        have Hn := hide (Hs.out hok.out)
        clear hK h1 cp h3 hk0 Hs Hb Hz Hr
        go_wp2
        go_quiet ((go_at_call 62; exact Calls.quiet_of_same (HK.out _)))
        go_wp2
        go_roundw
        case rel => exact ⟨k + 1, by omega, by go_num, Hn, b3, b4, below_drewN hbw _⟩
        case measure => simp [intOf]; omega
      · rw [h1] at hK
        have HK := hide hK
        have cp := cp h3
        have h3' : (0 : Int) < (k : Int) := by omega
        have Hn := hide (Hs.out hok.out)
        clear hK h1 Hs Hb Hz Hr
        go_wp2
        go_quiet ((go_at_call 62; exact Calls.quiet_of_same (HK.out _)))
        go_wp2
        go_roundw
        case rel => exact ⟨k + 1, by omega, by go_num, Hn, b3, b4, below_drewN hbw _⟩
        case measure => simp [intOf]; omega
      · rw [h1] at hK
        have HK := hide hK
        have cp := cp h3
        have h3' : (0 : Int) < (k : Int) := by omega
        have Hn := hide (Hb.out hok.out)
        clear hK h1 Hs Hb Hz Hr
        go_wp2
        go_quiet ((go_at_call 62; exact Calls.quiet_of_same (HK.out _)))
        go_wp2
        go_ret
        exact ⟨ret_bool Hn.out.symm, below_drewN hbw _⟩
    · have e : k = ss.length := by omega
      subst e
      have Hv : Hid (keysB ss m = decide (ss.length = m)) := by show _ = _; unfold keysB; rw [valsB_end Hx.out, Bool.and_true]
      clear Hx Hr Hz
      go_wp2
      go_ret
      exact ⟨ret_bool (by rw [Hv.out, Bool.eq_iff_iff]; simp; omega), hbw⟩
end Go.Proofs.Ytamlgjmboljcdaa

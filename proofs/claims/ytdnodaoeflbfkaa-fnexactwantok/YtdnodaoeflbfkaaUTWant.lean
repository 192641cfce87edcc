/- Data as cells: the helpers of the laws over Want. -/
import Derived.Test.YtdnodaoeflbfkaaULeaf
import Derived.Test.YtdnodaoeflbfkaaULd
import Derived.Test.YtdnodaoeflbfkaaUTTerm
import Derived.Test.YtdnodaoeflbfkaaUTWeigh
namespace Go.Proofs.Ytdnodaoeflbfkaa
open Go.RowKit Go.BigFrame
set_option linter.unusedVariables false

set_option maxRecDepth 20000 in
set_option maxHeartbeats 800000 in
theorem uszWant_any {lo hi : Nat} (d : UD) (xs : List Value) (left : Int) (w : World) (ht : tyL d (uE 16)) (hx : uH w lo hi d xs) (h0 : 0 ≤ left) (h1 : left ≤ 1048576) :
    Calls Try.prog 16 #[.agg xs.toArray, .int .i64 left] w fun e w' => e = .returned (.int .i64 (leftI left (wt d))) ∧ Below w.heap.size w w' := by
  obtain ⟨z0, n1, c1, n2, c2, n3, c3, rfl, g0, g1, g2, g3⟩ := partsWant ht
  obtain ⟨_, rfl, ⟨v1, _, rfl, s1, ⟨v2, _, rfl, s2, ⟨v3, _, rfl, s3, rfl⟩⟩⟩⟩ := hx
  obtain ⟨a1, p1, rfl, t1⟩ := s1
  obtain ⟨a2, p2, rfl, t2⟩ := s2
  obtain ⟨a3, p3, rfl, t3⟩ := s3
  obtain ⟨M0, hM0⟩ : ∃ M, M = (n1 + wt c1) := ⟨_, rfl⟩
  have HC0 : Hid (∀ (wx : World) (l : Int), Below w.heap.size w wx → 0 ≤ l → l ≤ 1048576 → Calls Try.prog 61 #[.slice a1 n1 p1, .int .i64 l] wx fun e w' => e = .returned (.int .i64 (leftI l M0)) ∧ Below wx.heap.size wx w') := fun wx l hb q0 q1 => hM0 ▸ uszTermS_any (lo := lo) (hi := hi) n1 c1 _ l wx g1 q0 q1 ((show uS w lo hi 3 n1 c1 (.slice a1 n1 p1) from ⟨_, _, rfl, t1⟩).below hb)
  obtain ⟨M1, hM1⟩ : ∃ M, M = (n2 + wt c2) := ⟨_, rfl⟩
  have HC1 : Hid (∀ (wx : World) (l : Int), Below w.heap.size w wx → 0 ≤ l → l ≤ 1048576 → Calls Try.prog 62 #[.slice a2 n2 p2, .int .i64 l] wx fun e w' => e = .returned (.int .i64 (leftI l M1)) ∧ Below wx.heap.size wx w') := fun wx l hb q0 q1 => hM1 ▸ uszStringS_any (lo := lo) (hi := hi) n2 c2 _ l wx g2 q0 q1 ((show uS w lo hi 1 n2 c2 (.slice a2 n2 p2) from ⟨_, _, rfl, t2⟩).below hb)
  obtain ⟨M2, hM2⟩ : ∃ M, M = (n3 + wt c3) := ⟨_, rfl⟩
  have HC2 : Hid (∀ (wx : World) (l : Int), Below w.heap.size w wx → 0 ≤ l → l ≤ 1048576 → Calls Try.prog 63 #[.slice a3 n3 p3, .int .i64 l] wx fun e w' => e = .returned (.int .i64 (leftI l M2)) ∧ Below wx.heap.size wx w') := fun wx l hb q0 q1 => hM2 ▸ uszWeighS_any (lo := lo) (hi := hi) n3 c3 _ l wx g3 q0 q1 ((show uS w lo hi 2 n3 c3 (.slice a3 n3 p3) from ⟨_, _, rfl, t3⟩).below hb)
  have E : Hid (leftI left (wt (.p (.int .i64 z0) (.l 3 n1 c1 (.l 1 n2 c2 (.l 2 n3 c3 .nil))))) = leftI left (M0 + (M1 + (M2 + 0)))) := by show _ = _; congr 1 <;> (simp only [wt, wtP, hM0, hM1, hM2] <;> omega)
  generalize leftI left (wt (.p (.int .i64 z0) (.l 3 n1 c1 (.l 1 n2 c2 (.l 2 n3 c3 .nil))))) = R at *
  have HA : Hid (∀ o, Below w.heap.size w (w.alloc o)) := fun o => (Below.refl _ _).alloc (Nat.le_refl _) _
  clear t1 t2 t3 hM0 hM1 hM2 g1 g2 g3
  obtain ⟨y0, hy0⟩ : ∃ y, y = leftI left M0 := ⟨_, rfl⟩
  have Y0 := uhide hy0
  by_cases k0 : y0 < 0
  · have EN : Hid (R = -1) := by show _ = _; rw [E.out]; exact leftI_neg _ (by omega) (by rw [← hy0]; exact k0)
    clear E hy0
    go_enter Try.func16, Try.ntmps16
    go_wp2_with fail
    refine (HC0.out _ _ (HA.out _) (by omega) (by omega)).mono ?_
    rintro e w1 ⟨rfl, hb1⟩
    have B1 : Hid (Below w.heap.size w w1) := (HA.out _).trans (hb1.mono (by simp))
    clear hb1
    rw [show leftI left M0 = y0 from Y0.out.symm]
    go_wp2
    go_ret
    exact ⟨ret_intU EN.out.symm, B1.out⟩
  replace E : Hid (R = leftI y0 (M1 + (M2 + 0))) := by
    obtain ⟨q1, q2, q3⟩ := leftI_pos (x := left) (a := M0) (M1 + (M2 + 0)) (by rw [← hy0]; exact k0)
    show _ = _; rw [E.out, q1, ← hy0]
  have u0 : y0 ≤ left := by rw [hy0]; unfold leftI; split <;> omega
  clear hy0
  obtain ⟨y1, hy1⟩ : ∃ y, y = leftI y0 M1 := ⟨_, rfl⟩
  have Y1 := uhide hy1
  by_cases k1 : y1 < 0
  · have EN : Hid (R = -1) := by show _ = _; rw [E.out]; exact leftI_neg _ (by omega) (by rw [← hy1]; exact k1)
    clear E hy1
    go_enter Try.func16, Try.ntmps16
    go_wp2_with fail
    refine (HC0.out _ _ (HA.out _) (by omega) (by omega)).mono ?_
    rintro e w1 ⟨rfl, hb1⟩
    have b2 : w1.cell? ⟨w.heap.size, 2, none⟩ = some (.slice a2 n2 p2) := (hb1.cell (p := ⟨w.heap.size, 2, none⟩) (by simp <;> omega)).trans (by simp [go_sem])
    have B1 : Hid (Below w.heap.size w w1) := (HA.out _).trans (hb1.mono (by simp))
    clear hb1
    rw [show leftI left M0 = y0 from Y0.out.symm]
    go_wp2_with fail
    refine (HC1.out _ _ (by repeat (first | assumption | exact HA.out _ | exact B1.out)) (by omega) (by omega)).mono ?_
    rintro e w2 ⟨rfl, hb2⟩
    have B2 : Hid (Below w.heap.size w w2) := B1.out.trans (hb2.mono B1.out.size)
    clear hb2
    rw [show leftI y0 M1 = y1 from Y1.out.symm]
    go_wp2
    go_ret
    exact ⟨ret_intU EN.out.symm, B2.out⟩
  replace E : Hid (R = leftI y1 (M2 + 0)) := by
    obtain ⟨q1, q2, q3⟩ := leftI_pos (x := y0) (a := M1) (M2 + 0) (by rw [← hy1]; exact k1)
    show _ = _; rw [E.out, q1, ← hy1]
  have u1 : y1 ≤ y0 := by rw [hy1]; unfold leftI; split <;> omega
  clear hy1
  obtain ⟨y2, hy2⟩ : ∃ y, y = leftI y1 M2 := ⟨_, rfl⟩
  have Y2 := uhide hy2
  by_cases k2 : y2 < 0
  · have EN : Hid (R = -1) := by show _ = _; rw [E.out]; exact leftI_neg _ (by omega) (by rw [← hy2]; exact k2)
    clear E hy2
    go_enter Try.func16, Try.ntmps16
    go_wp2_with fail
    refine (HC0.out _ _ (HA.out _) (by omega) (by omega)).mono ?_
    rintro e w1 ⟨rfl, hb1⟩
    have b2 : w1.cell? ⟨w.heap.size, 2, none⟩ = some (.slice a2 n2 p2) := (hb1.cell (p := ⟨w.heap.size, 2, none⟩) (by simp <;> omega)).trans (by simp [go_sem])
    have b3 : w1.cell? ⟨w.heap.size, 3, none⟩ = some (.slice a3 n3 p3) := (hb1.cell (p := ⟨w.heap.size, 3, none⟩) (by simp <;> omega)).trans (by simp [go_sem])
    have B1 : Hid (Below w.heap.size w w1) := (HA.out _).trans (hb1.mono (by simp))
    clear hb1
    rw [show leftI left M0 = y0 from Y0.out.symm]
    go_wp2_with fail
    refine (HC1.out _ _ (by repeat (first | assumption | exact HA.out _ | exact B1.out)) (by omega) (by omega)).mono ?_
    rintro e w2 ⟨rfl, hb2⟩
    replace b3 : w2.cell? ⟨w.heap.size, 3, none⟩ = some (.slice a3 n3 p3) := (hb2.cell (p := ⟨w.heap.size, 3, none⟩) (World.block_lt_of_cell? _ _ b3)).trans b3
    have B2 : Hid (Below w.heap.size w w2) := B1.out.trans (hb2.mono B1.out.size)
    clear hb2
    rw [show leftI y0 M1 = y1 from Y1.out.symm]
    go_wp2_with fail
    refine (HC2.out _ _ (by repeat (first | assumption | exact HA.out _ | exact B2.out)) (by omega) (by omega)).mono ?_
    rintro e w3 ⟨rfl, hb3⟩
    have B3 : Hid (Below w.heap.size w w3) := B2.out.trans (hb3.mono B2.out.size)
    clear hb3
    rw [show leftI y1 M2 = y2 from Y2.out.symm]
    go_wp2
    go_ret
    exact ⟨ret_intU EN.out.symm, B3.out⟩
  replace E : Hid (R = leftI y2 (0)) := by
    obtain ⟨q1, q2, q3⟩ := leftI_pos (x := y1) (a := M2) (0) (by rw [← hy2]; exact k2)
    show _ = _; rw [E.out, q1, ← hy2]
  have u2 : y2 ≤ y1 := by rw [hy2]; unfold leftI; split <;> omega
  clear hy2
  replace E : Hid (R = y2) := E.out.trans (leftI_zero (by omega))
  go_enter Try.func16, Try.ntmps16
  go_wp2_with fail
  refine (HC0.out _ _ (HA.out _) (by omega) (by omega)).mono ?_
  rintro e w1 ⟨rfl, hb1⟩
  have b2 : w1.cell? ⟨w.heap.size, 2, none⟩ = some (.slice a2 n2 p2) := (hb1.cell (p := ⟨w.heap.size, 2, none⟩) (by simp <;> omega)).trans (by simp [go_sem])
  have b3 : w1.cell? ⟨w.heap.size, 3, none⟩ = some (.slice a3 n3 p3) := (hb1.cell (p := ⟨w.heap.size, 3, none⟩) (by simp <;> omega)).trans (by simp [go_sem])
  have B1 : Hid (Below w.heap.size w w1) := (HA.out _).trans (hb1.mono (by simp))
  clear hb1
  rw [show leftI left M0 = y0 from Y0.out.symm]
  go_wp2_with fail
  refine (HC1.out _ _ (by repeat (first | assumption | exact HA.out _ | exact B1.out)) (by omega) (by omega)).mono ?_
  rintro e w2 ⟨rfl, hb2⟩
  replace b3 : w2.cell? ⟨w.heap.size, 3, none⟩ = some (.slice a3 n3 p3) := (hb2.cell (p := ⟨w.heap.size, 3, none⟩) (World.block_lt_of_cell? _ _ b3)).trans b3
  have B2 : Hid (Below w.heap.size w w2) := B1.out.trans (hb2.mono B1.out.size)
  clear hb2
  rw [show leftI y0 M1 = y1 from Y1.out.symm]
  go_wp2_with fail
  refine (HC2.out _ _ (by repeat (first | assumption | exact HA.out _ | exact B2.out)) (by omega) (by omega)).mono ?_
  rintro e w3 ⟨rfl, hb3⟩
  have B3 : Hid (Below w.heap.size w w3) := B2.out.trans (hb3.mono B2.out.size)
  clear hb3
  rw [show leftI y1 M2 = y2 from Y2.out.symm]
  go_wp2
  go_ret
  exact ⟨ret_intU E.out.symm, B3.out⟩
set_option maxRecDepth 20000 in
set_option maxHeartbeats 800000 in
theorem ueqWant_any {lo hi lo' hi' : Nat} (d : UD) (xs ys : List Value) (w : World) (ht : tyL d (uE 16)) (hx : uH w lo hi d xs) (hy : uH w lo' hi' d ys) :
    Calls Try.prog 20 #[.agg xs.toArray, .agg ys.toArray] w fun e w' => e = .returned (.bool true) ∧ Below w.heap.size w w' := by
  obtain ⟨z0, n1, c1, n2, c2, n3, c3, rfl, g0, g1, g2, g3⟩ := partsWant ht
  obtain ⟨_, rfl, ⟨v1l, _, rfl, s1l, ⟨v2l, _, rfl, s2l, ⟨v3l, _, rfl, s3l, rfl⟩⟩⟩⟩ := hx
  obtain ⟨a1l, p1l, rfl, t1l⟩ := s1l
  obtain ⟨a2l, p2l, rfl, t2l⟩ := s2l
  obtain ⟨a3l, p3l, rfl, t3l⟩ := s3l
  obtain ⟨_, rfl, ⟨v1r, _, rfl, s1r, ⟨v2r, _, rfl, s2r, ⟨v3r, _, rfl, s3r, rfl⟩⟩⟩⟩ := hy
  obtain ⟨a1r, p1r, rfl, t1r⟩ := s1r
  obtain ⟨a2r, p2r, rfl, t2r⟩ := s2r
  obtain ⟨a3r, p3r, rfl, t3r⟩ := s3r
  have HC0 : Hid (∀ wx : World, Below w.heap.size w wx → Calls Try.prog 75 #[.slice a1l n1 p1l, .slice a1r n1 p1r] wx fun e w' => e = .returned (.bool true) ∧ Below wx.heap.size wx w') := fun wx hb => ueqTermS_any (lo := lo) (hi := hi) (lo' := lo') (hi' := hi') n1 c1 _ _ wx g1 ((show uS w lo hi 3 n1 c1 (.slice a1l n1 p1l) from ⟨_, _, rfl, t1l⟩).below hb) ((show uS w lo' hi' 3 n1 c1 (.slice a1r n1 p1r) from ⟨_, _, rfl, t1r⟩).below hb)
  have HC1 : Hid (∀ wx : World, Below w.heap.size w wx → Calls Try.prog 52 #[.slice a2l n2 p2l, .slice a2r n2 p2r] wx fun e w' => e = .returned (.bool true) ∧ Below wx.heap.size wx w') := fun wx hb => ueqStringS_any (lo := lo) (hi := hi) (lo' := lo') (hi' := hi') n2 c2 _ _ wx g2 ((show uS w lo hi 1 n2 c2 (.slice a2l n2 p2l) from ⟨_, _, rfl, t2l⟩).below hb) ((show uS w lo' hi' 1 n2 c2 (.slice a2r n2 p2r) from ⟨_, _, rfl, t2r⟩).below hb)
  have HC2 : Hid (∀ wx : World, Below w.heap.size w wx → Calls Try.prog 76 #[.slice a3l n3 p3l, .slice a3r n3 p3r] wx fun e w' => e = .returned (.bool true) ∧ Below wx.heap.size wx w') := fun wx hb => ueqWeighS_any (lo := lo) (hi := hi) (lo' := lo') (hi' := hi') n3 c3 _ _ wx g3 ((show uS w lo hi 2 n3 c3 (.slice a3l n3 p3l) from ⟨_, _, rfl, t3l⟩).below hb) ((show uS w lo' hi' 2 n3 c3 (.slice a3r n3 p3r) from ⟨_, _, rfl, t3r⟩).below hb)
  have e0 : (z0 != z0) = false := by simp
  have HB : Hid (∀ o o', Below w.heap.size w ((w.alloc o).alloc o')) := fun o o' => ((Below.refl _ _).alloc (Nat.le_refl _) _).alloc (by simp) _
  clear g0 g1 g2 g3 t1l t1r t2l t2r t3l t3r
  go_enter Try.func20, Try.ntmps20
  go_wp2_with fail
  refine (HC0.out _ (HB.out _ _)).mono ?_
  rintro e w1 ⟨rfl, hb1⟩
  have b2 : w1.cell? ⟨w.heap.size, 2, none⟩ = some (.slice a2l n2 p2l) := (hb1.cell (p := ⟨w.heap.size, 2, none⟩) (by simp <;> omega)).trans (by simp [go_sem])
  have b3 : w1.cell? ⟨w.heap.size, 3, none⟩ = some (.slice a3l n3 p3l) := (hb1.cell (p := ⟨w.heap.size, 3, none⟩) (by simp <;> omega)).trans (by simp [go_sem])
  have d2 : w1.cell? ⟨w.heap.size + 1, 2, none⟩ = some (.slice a2r n2 p2r) := (hb1.cell (p := ⟨w.heap.size + 1, 2, none⟩) (by simp <;> omega)).trans (by simp [go_sem])
  have d3 : w1.cell? ⟨w.heap.size + 1, 3, none⟩ = some (.slice a3r n3 p3r) := (hb1.cell (p := ⟨w.heap.size + 1, 3, none⟩) (by simp <;> omega)).trans (by simp [go_sem])
  have B1 : Hid (Below w.heap.size w w1) := (HB.out _ _).trans (hb1.mono (by simp; omega))
  clear hb1
  go_wp2_with fail
  refine (HC1.out _ B1.out).mono ?_
  rintro e w2 ⟨rfl, hb2⟩
  replace b3 : w2.cell? ⟨w.heap.size, 3, none⟩ = some (.slice a3l n3 p3l) := (hb2.cell (p := ⟨w.heap.size, 3, none⟩) (World.block_lt_of_cell? _ _ b3)).trans b3
  replace d3 : w2.cell? ⟨w.heap.size + 1, 3, none⟩ = some (.slice a3r n3 p3r) := (hb2.cell (p := ⟨w.heap.size + 1, 3, none⟩) (World.block_lt_of_cell? _ _ d3)).trans d3
  have B2 : Hid (Below w.heap.size w w2) := B1.out.trans (hb2.mono B1.out.size)
  clear hb2
  go_wp2_with fail
  refine (HC2.out _ B2.out).mono ?_
  rintro e w3 ⟨rfl, hb3⟩
  have B3 : Hid (Below w.heap.size w w3) := B2.out.trans (hb3.mono B2.out.size)
  clear hb3
  go_wp2
  go_ret
  exact ⟨rfl, B3.out⟩
set_option maxRecDepth 20000 in
set_option maxHeartbeats 1600000 in
theorem utoWant_any {lo hi : Nat} (d : UD) (xs : List Value) (w : World) (ht : tyL d (uE 16)) (hn : wt d ≤ 1048576) (hx : uH w lo hi d xs) :
    Calls Try.prog 18 #[.agg xs.toArray] w fun e w' => ∃ ys S, e = .returned (.agg ys.toArray) ∧ oH w' d ys S ∧ S.Nodup ∧ (∀ s ∈ S, w.heap.size ≤ s) ∧ Below w.heap.size w w' := by
  obtain ⟨z0, n1, c1, n2, c2, n3, c3, rfl, g0, g1, g2, g3⟩ := partsWant ht
  obtain ⟨_, rfl, ⟨v1l, _, rfl, s1l, ⟨v2l, _, rfl, s2l, ⟨v3l, _, rfl, s3l, rfl⟩⟩⟩⟩ := hx
  obtain ⟨a1l, p1l, rfl, t1l⟩ := s1l
  obtain ⟨a2l, p2l, rfl, t2l⟩ := s2l
  obtain ⟨a3l, p3l, rfl, t3l⟩ := s3l
  simp only [wt, wtP] at hn
  have HC0 : Hid (∀ wx : World, Below w.heap.size w wx → Calls Try.prog 68 #[.slice a1l n1 p1l] wx fun e w' => ∃ a p S, e = .returned (.slice a n1 p) ∧ Hid (oS w' 3 n1 c1 (.slice a n1 p) S) ∧ Hid (own2 S wx.heap.size w'.heap.size) ∧ Below wx.heap.size wx w') := fun wx hb => (utoTermS_any (lo := lo) (hi := hi) n1 c1 _ wx g1 (by omega) ((show uS w lo hi 3 n1 c1 (.slice a1l n1 p1l) from ⟨_, _, rfl, t1l⟩).below hb)).mono fun e w' ⟨c', S, h1, h2, h3, h4, h5⟩ => by
    obtain ⟨a, p, rfl⟩ := h2.slice
    exact ⟨a, p, S, h1, h2, ⟨h3, fun s hs => ⟨h4 s hs, h2.lt s hs⟩⟩, h5⟩
  have HC1 : Hid (∀ wx : World, Below w.heap.size w wx → Calls Try.prog 69 #[.slice a2l n2 p2l] wx fun e w' => ∃ a p S, e = .returned (.slice a n2 p) ∧ Hid (oS w' 1 n2 c2 (.slice a n2 p) S) ∧ Hid (own2 S wx.heap.size w'.heap.size) ∧ Below wx.heap.size wx w') := fun wx hb => (utoStringS_any (lo := lo) (hi := hi) n2 c2 _ wx g2 (by omega) ((show uS w lo hi 1 n2 c2 (.slice a2l n2 p2l) from ⟨_, _, rfl, t2l⟩).below hb)).mono fun e w' ⟨c', S, h1, h2, h3, h4, h5⟩ => by
    obtain ⟨a, p, rfl⟩ := h2.slice
    exact ⟨a, p, S, h1, h2, ⟨h3, fun s hs => ⟨h4 s hs, h2.lt s hs⟩⟩, h5⟩
  have HC2 : Hid (∀ wx : World, Below w.heap.size w wx → Calls Try.prog 70 #[.slice a3l n3 p3l] wx fun e w' => ∃ a p S, e = .returned (.slice a n3 p) ∧ Hid (oS w' 2 n3 c3 (.slice a n3 p) S) ∧ Hid (own2 S wx.heap.size w'.heap.size) ∧ Below wx.heap.size wx w') := fun wx hb => (utoWeighS_any (lo := lo) (hi := hi) n3 c3 _ wx g3 (by omega) ((show uS w lo hi 2 n3 c3 (.slice a3l n3 p3l) from ⟨_, _, rfl, t3l⟩).below hb)).mono fun e w' ⟨c', S, h1, h2, h3, h4, h5⟩ => by
    obtain ⟨a, p, rfl⟩ := h2.slice
    exact ⟨a, p, S, h1, h2, ⟨h3, fun s hs => ⟨h4 s hs, h2.lt s hs⟩⟩, h5⟩
  have HA : Hid (∀ o1 o2 o3, Below w.heap.size w (((w.alloc o1).alloc o2).alloc o3)) := fun o1 o2 o3 => (((Below.refl _ _).alloc (Nat.le_refl _) _).alloc (by simp) _).alloc (by simp; omega) _
  clear hn ht g0 g1 g2 g3 t1l t2l t3l
  go_enter Try.func18, Try.ntmps18
  go_wp2_with fail
  refine (HC0.out _ (by repeat (first | with_reducible exact HA.out _ _ _ | with_reducible assumption | with_reducible refine Below.setCell ?_ (by simp <;> omega) _))).mono ?_
  rintro e w1 ⟨a1r, p1r, S1, rfl, O1, W1, hb1⟩
  have OA1 : Hid (objU w1 w.heap.size 35 [.int .i64 z0, .slice a1l n1 p1l, .slice a2l n2 p2l, .slice a3l n3 p3l]) := objU.below (by repeat (first | with_reducible exact objU.new2 _ _ rfl | with_reducible refine objU.other ?_ _ (by simp <;> omega) _ | with_reducible refine objU.old ?_ _)) hb1
  have OR1 : Hid (objU w1 (w.heap.size + 1) 41 [.int .i64 0, .slice none 0 0, .slice none 0 0, .slice none 0 0]) := objU.below (by repeat (first | with_reducible exact objU.new2 _ _ (by simp) | with_reducible refine objU.other ?_ _ (by simp <;> omega) _ | with_reducible refine objU.old ?_ _)) hb1
  have OO1 : Hid (objU w1 (w.heap.size + 1 + 1) 41 [.int .i64 z0, .slice none 0 0, .slice none 0 0, .slice none 0 0]) := objU.below (by repeat (first | with_reducible exact objU.new2 _ _ (by simp) | with_reducible refine objU.old ?_ _)) hb1
  have hsz1 : w.heap.size + 1 + 1 + 1 ≤ w1.heap.size := by have := hb1.size; simpa using this
  replace W1 := uhide (W1.out.mono (a' := w.heap.size + 1 + 1 + 1) (by simp <;> omega) (Nat.le_refl _))
  have HB1 : Hid (Below w.heap.size w w1) := Below.trans (by repeat (first | with_reducible exact HA.out _ _ _ | with_reducible refine Below.setCell ?_ (by simp <;> omega) _)) (hb1.mono (by simp <;> omega))
  clear hb1
  have co1_1 : w1.cell? ⟨w.heap.size + 1 + 1, 1, none⟩ = some (.slice none 0 0) := OO1.out.cell 1 _ rfl
  have fo1_1 : w1.frozen? ⟨w.heap.size + 1 + 1, 1, none⟩ = false := OO1.out.fz 1
  have ca2_1 : w1.cell? ⟨w.heap.size, 2, none⟩ = some (.slice a2l n2 p2l) := OA1.out.cell 2 _ rfl
  have co2_1 : w1.cell? ⟨w.heap.size + 1 + 1, 2, none⟩ = some (.slice none 0 0) := OO1.out.cell 2 _ rfl
  have fo2_1 : w1.frozen? ⟨w.heap.size + 1 + 1, 2, none⟩ = false := OO1.out.fz 2
  go_wp2_with fail
  refine (HC1.out _ (by repeat (first | with_reducible exact HA.out _ _ _ | with_reducible assumption | with_reducible refine Below.setCell ?_ (by simp <;> omega) _ | with_reducible exact HB1.out))).mono ?_
  rintro e w2 ⟨a2r, p2r, S2, rfl, O2, W2, hb2⟩
  have OA2 : Hid (objU w2 w.heap.size 35 [.int .i64 z0, .slice a1l n1 p1l, .slice a2l n2 p2l, .slice a3l n3 p3l]) := objU.below (by repeat (first | with_reducible exact OA1.out | with_reducible refine objU.other ?_ _ (by simp <;> omega) _ | with_reducible refine objU.old ?_ _)) hb2
  have OR2 : Hid (objU w2 (w.heap.size + 1) 41 [.int .i64 0, .slice none 0 0, .slice none 0 0, .slice none 0 0]) := objU.below (by repeat (first | with_reducible exact OR1.out | with_reducible refine objU.other ?_ _ (by simp <;> omega) _ | with_reducible refine objU.old ?_ _)) hb2
  have OO2 : Hid (objU w2 (w.heap.size + 1 + 1) 41 [.int .i64 z0, .slice a1r n1 p1r, .slice none 0 0, .slice none 0 0]) := objU.below (by refine objU.set (xs := [.int .i64 z0, .slice none 0 0, .slice none 0 0, .slice none 0 0]) ?_ 1 _; exact OO1.out) hb2
  replace O1 := uhide ((oS.outs O1.out (T := [w.heap.size + 1 + 1]) (by repeat (first | with_reducible exact OutS.refl _ _ | with_reducible refine OutS.setCell ?_ (show _ ∈ [w.heap.size + 1 + 1] by simp) _)) W1.out (fun x hx => by simp at hx; omega)).below hb2)
  have hsz2 : w1.heap.size ≤ w2.heap.size := Nat.le_trans (by simp) hb2.size
  replace W2 := uhide (W2.out.mono (a' := w1.heap.size) (by simp) (Nat.le_refl _))
  have HB2 : Hid (Below w.heap.size w w2) := Below.trans (by repeat (first | with_reducible exact HB1.out | with_reducible refine Below.setCell ?_ (by simp <;> omega) _)) (hb2.mono (by simp <;> omega))
  clear hb2
  clear OA1 OR1 OO1 HB1
  have co2_2 : w2.cell? ⟨w.heap.size + 1 + 1, 2, none⟩ = some (.slice none 0 0) := OO2.out.cell 2 _ rfl
  have fo2_2 : w2.frozen? ⟨w.heap.size + 1 + 1, 2, none⟩ = false := OO2.out.fz 2
  have ca3_2 : w2.cell? ⟨w.heap.size, 3, none⟩ = some (.slice a3l n3 p3l) := OA2.out.cell 3 _ rfl
  have co3_2 : w2.cell? ⟨w.heap.size + 1 + 1, 3, none⟩ = some (.slice none 0 0) := OO2.out.cell 3 _ rfl
  have fo3_2 : w2.frozen? ⟨w.heap.size + 1 + 1, 3, none⟩ = false := OO2.out.fz 3
  go_wp2_with fail
  refine (HC2.out _ (by repeat (first | with_reducible exact HA.out _ _ _ | with_reducible assumption | with_reducible refine Below.setCell ?_ (by simp <;> omega) _ | with_reducible exact HB2.out))).mono ?_
  rintro e w3 ⟨a3r, p3r, S3, rfl, O3, W3, hb3⟩
  have OA3 : Hid (objU w3 w.heap.size 35 [.int .i64 z0, .slice a1l n1 p1l, .slice a2l n2 p2l, .slice a3l n3 p3l]) := objU.below (by repeat (first | with_reducible exact OA2.out | with_reducible refine objU.other ?_ _ (by simp <;> omega) _ | with_reducible refine objU.old ?_ _)) hb3
  have OR3 : Hid (objU w3 (w.heap.size + 1) 41 [.int .i64 0, .slice none 0 0, .slice none 0 0, .slice none 0 0]) := objU.below (by repeat (first | with_reducible exact OR2.out | with_reducible refine objU.other ?_ _ (by simp <;> omega) _ | with_reducible refine objU.old ?_ _)) hb3
  have OO3 : Hid (objU w3 (w.heap.size + 1 + 1) 41 [.int .i64 z0, .slice a1r n1 p1r, .slice a2r n2 p2r, .slice none 0 0]) := objU.below (by refine objU.set (xs := [.int .i64 z0, .slice a1r n1 p1r, .slice none 0 0, .slice none 0 0]) ?_ 2 _; exact OO2.out) hb3
  replace O1 := uhide ((oS.outs O1.out (T := [w.heap.size + 1 + 1]) (by repeat (first | with_reducible exact OutS.refl _ _ | with_reducible refine OutS.setCell ?_ (show _ ∈ [w.heap.size + 1 + 1] by simp) _)) W1.out (fun x hx => by simp at hx; omega)).below hb3)
  replace O2 := uhide ((oS.outs O2.out (T := [w.heap.size + 1 + 1]) (by repeat (first | with_reducible exact OutS.refl _ _ | with_reducible refine OutS.setCell ?_ (show _ ∈ [w.heap.size + 1 + 1] by simp) _)) W2.out (fun x hx => by simp at hx; omega)).below hb3)
  have hsz3 : w2.heap.size ≤ w3.heap.size := Nat.le_trans (by simp) hb3.size
  replace W3 := uhide (W3.out.mono (a' := w2.heap.size) (by simp) (Nat.le_refl _))
  have HB3 : Hid (Below w.heap.size w w3) := Below.trans (by repeat (first | with_reducible exact HB2.out | with_reducible refine Below.setCell ?_ (by simp <;> omega) _)) (hb3.mono (by simp <;> omega))
  clear hb3
  clear OA2 OR2 OO2 HB2
  have co3_3 : w3.cell? ⟨w.heap.size + 1 + 1, 3, none⟩ = some (.slice none 0 0) := OO3.out.cell 3 _ rfl
  have fo3_3 : w3.frozen? ⟨w.heap.size + 1 + 1, 3, none⟩ = false := OO3.out.fz 3
  have co0_3 : w3.cell? ⟨w.heap.size + 1 + 1, 0, none⟩ = some (.int .i64 z0) := OO3.out.cell 0 _ rfl
  have cr0 : w3.cell? ⟨w.heap.size + 1, 0, none⟩ = some (.int .i64 0) := OR3.out.cell 0 _ rfl
  have fr0 : w3.frozen? ⟨w.heap.size + 1, 0, none⟩ = false := OR3.out.fz 0
  have co1_3 : w3.cell? ⟨w.heap.size + 1 + 1, 1, none⟩ = some (.slice a1r n1 p1r) := OO3.out.cell 1 _ rfl
  have cr1 : w3.cell? ⟨w.heap.size + 1, 1, none⟩ = some (.slice none 0 0) := OR3.out.cell 1 _ rfl
  have fr1 : w3.frozen? ⟨w.heap.size + 1, 1, none⟩ = false := OR3.out.fz 1
  have co2_3 : w3.cell? ⟨w.heap.size + 1 + 1, 2, none⟩ = some (.slice a2r n2 p2r) := OO3.out.cell 2 _ rfl
  have cr2 : w3.cell? ⟨w.heap.size + 1, 2, none⟩ = some (.slice none 0 0) := OR3.out.cell 2 _ rfl
  have fr2 : w3.frozen? ⟨w.heap.size + 1, 2, none⟩ = false := OR3.out.fz 2
  have cr3 : w3.cell? ⟨w.heap.size + 1, 3, none⟩ = some (.slice none 0 0) := OR3.out.cell 3 _ rfl
  have fr3 : w3.frozen? ⟨w.heap.size + 1, 3, none⟩ = false := OR3.out.fz 3
  go_wp2
  refine bodyPost_ret (v := .agg #[.int .i64 z0, .slice a1r n1 p1r, .slice a2r n2 p2r, .slice a3r n3 p3r]) ?_ rfl ⟨[.int .i64 z0, .slice a1r n1 p1r, .slice a2r n2 p2r, .slice a3r n3 p3r], (S1 ++ (S2 ++ (S3 ++ []))), rfl, ?_, ?_⟩
  · simp [results, Try.results18, go_sem, cr0, cr1, cr2, cr3]
  · exact oH.consP _ (oH.consS (oS.outs O1.out (T := [w.heap.size + 1, w.heap.size + 1 + 1]) (by repeat (first | with_reducible exact OutS.refl _ _ | with_reducible refine OutS.setCell ?_ (show _ ∈ [w.heap.size + 1, w.heap.size + 1 + 1] by simp) _)) W1.out (fun x hx => by simp at hx; omega)) (oH.consS (oS.outs O2.out (T := [w.heap.size + 1, w.heap.size + 1 + 1]) (by repeat (first | with_reducible exact OutS.refl _ _ | with_reducible refine OutS.setCell ?_ (show _ ∈ [w.heap.size + 1, w.heap.size + 1 + 1] by simp) _)) W2.out (fun x hx => by simp at hx; omega)) (oH.consS (oS.outs O3.out (T := [w.heap.size + 1, w.heap.size + 1 + 1]) (by repeat (first | with_reducible exact OutS.refl _ _ | with_reducible refine OutS.setCell ?_ (show _ ∈ [w.heap.size + 1, w.heap.size + 1 + 1] by simp) _)) W3.out (fun x hx => by simp at hx; omega)) (oH.nil _))))
  · have HW := own2.app W1.out (own2.app W2.out (own2.app W3.out (own2.nil w3.heap.size w3.heap.size) (by omega) (by omega) (by omega)) (by omega) (by omega) (by omega)) (by omega) (by omega) (by omega)
    refine ⟨HW.1, fun s hs => (by have := HW.2 s hs; omega), ?_⟩
    repeat (first | with_reducible exact HB3.out | with_reducible refine Below.setCell ?_ (by simp <;> omega) _)
end Go.Proofs.Ytdnodaoeflbfkaa

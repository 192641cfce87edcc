/- Data as cells: the helpers of the laws over Queue. -/
import Derived.Test.YtldabidmacghgaaULeaf
import Derived.Test.YtldabidmacghgaaULd
import Derived.Test.YtldabidmacghgaaUFQueue
import Derived.Test.YtldabidmacghgaaUTItem
namespace Go.Proofs.Ytldabidmacghgaa
open Go.RowKit Go.BigFrame
set_option linter.unusedVariables false
set_option linter.unusedSimpArgs false

set_option maxRecDepth 20000 in
set_option maxHeartbeats 1600000 in
theorem uszQueue_any {lo hi : Nat} (d : UD) (xs : List Value) (left : Int) (w : World) (ht : tyL d (uE 13)) (hx : uH w lo hi d xs) (h0 : 0 ≤ left) (h1 : left ≤ 1048576) :
    Calls Try.prog 23 #[.agg xs.toArray, .int .i64 left] w fun e w' => e = .returned (.int .i64 (leftI left (wt d))) ∧ Below w.heap.size w w' := by
  replace ht : tyL d [.l 3 12, .l 3 12, .l 1 0, .i .i64] := ht
  obtain ⟨n0, c0, _, rfl, g0, h0⟩ := tyL.l ht
  obtain ⟨n1, c1, _, rfl, g1, h1⟩ := tyL.l h0
  clear h0
  obtain ⟨n2, c2, _, rfl, g2, h2⟩ := tyL.l h1
  clear h1
  obtain ⟨z3, _, rfl, g3, h3⟩ := tyL.i h2
  clear h2
  obtain rfl := tyL.nil h3
  clear h3
  obtain ⟨v0, _, rfl, s0, h0⟩ := hx
  obtain ⟨v1, _, rfl, s1, h1⟩ := h0
  obtain ⟨v2, _, rfl, s2, h2⟩ := h1
  obtain ⟨_, rfl, h3⟩ := h2
  obtain rfl := h3
  obtain ⟨M0, hM0⟩ : ∃ M, M = (n0 + wt c0) := ⟨_, rfl⟩
  have HC0 : Hid (∀ (wx : World) (l : Int), Below w.heap.size w wx → 0 ≤ l → l ≤ 1048576 → Calls Try.prog 50 #[v0, .int .i64 l] wx fun e w' => e = .returned (.int .i64 (leftI l M0)) ∧ Below wx.heap.size wx w') := fun wx l hb q0 q1 => hM0 ▸ uszItemS_any (lo := lo) (hi := hi) n0 c0 _ l wx g0 q0 q1 (s0.below hb)
  obtain ⟨M1, hM1⟩ : ∃ M, M = (n1 + wt c1) := ⟨_, rfl⟩
  have HC1 : Hid (∀ (wx : World) (l : Int), Below w.heap.size w wx → 0 ≤ l → l ≤ 1048576 → Calls Try.prog 50 #[v1, .int .i64 l] wx fun e w' => e = .returned (.int .i64 (leftI l M1)) ∧ Below wx.heap.size wx w') := fun wx l hb q0 q1 => hM1 ▸ uszItemS_any (lo := lo) (hi := hi) n1 c1 _ l wx g1 q0 q1 (s1.below hb)
  obtain ⟨M2, hM2⟩ : ∃ M, M = (n2 + wt c2) := ⟨_, rfl⟩
  have HC2 : Hid (∀ (wx : World) (l : Int), Below w.heap.size w wx → 0 ≤ l → l ≤ 1048576 → Calls Try.prog 51 #[v2, .int .i64 l] wx fun e w' => e = .returned (.int .i64 (leftI l M2)) ∧ Below wx.heap.size wx w') := fun wx l hb q0 q1 => hM2 ▸ uszStringS_any (lo := lo) (hi := hi) n2 c2 _ l wx g2 q0 q1 (s2.below hb)
  have E : Hid (leftI left (wt (UD.l 3 n0 c0 (UD.l 3 n1 c1 (UD.l 1 n2 c2 (UD.p (.int .i64 z3) UD.nil))))) = leftI left (M0 + (M1 + (M2 + 0)))) := by show _ = _; congr 1 <;> (simp only [wt, wtP, wt_app, hM0, hM1, hM2] <;> omega)
  generalize leftI left (wt (UD.l 3 n0 c0 (UD.l 3 n1 c1 (UD.l 1 n2 c2 (UD.p (.int .i64 z3) UD.nil))))) = R at *
  have HA : Hid (∀ o, Below w.heap.size w (w.alloc o)) := fun o => (Below.refl _ _).alloc (Nat.le_refl _) _
  obtain ⟨AX, hAX⟩ : ∃ AX : List Value, AX = (v0 :: (v1 :: (v2 :: (Value.int .i64 z3 :: [])))) := ⟨_, rfl⟩
  rw [← hAX]
  have hlen : AX.length = 4 := by rw [hAX]; simp
  have e0 : AX[0]? = some (v0) := at_mid (i := 0) (pre := (([] : List Value))) (ys := [v0]) (post := (v1 :: (v2 :: (Value.int .i64 z3 :: [])))) (by rw [hAX]; simp) (by simp) rfl
  have e1 : AX[1]? = some (v1) := at_mid (i := 0) (pre := ([v0])) (ys := [v1]) (post := (v2 :: (Value.int .i64 z3 :: []))) (by rw [hAX]; simp) (by simp) rfl
  have e2 : AX[2]? = some (v2) := at_mid (i := 0) (pre := ([v0, v1])) (ys := [v2]) (post := (Value.int .i64 z3 :: [])) (by rw [hAX]; simp) (by simp) rfl
  have e3 : AX[3]? = some (.int .i64 z3) := at_mid (i := 0) (pre := ([v0, v1, v2])) (ys := [.int .i64 z3]) (post := []) (by rw [hAX]; simp) (by simp) rfl
  clear hAX
  have E0 := uhide e0
  clear e0
  have E1 := uhide e1
  clear e1
  have E2 := uhide e2
  clear e2
  have E3 := uhide e3
  clear e3
  have OA0 : Hid (objU (w.alloc (.cells AX.toArray 43)) w.heap.size 43 AX) := objU.new2 _ _ rfl
  clear ht g0 s0 g1 s1 g2 s2 g3 hM0 hM1 hM2
  obtain ⟨y0q, hy0⟩ : ∃ y, y = leftI left M0 := ⟨_, rfl⟩
  have Y0q := uhide hy0
  by_cases k0 : y0q < 0
  · have EN : Hid (R = -1) := by show _ = _; rw [E.out]; exact leftI_neg _ (by omega) (by rw [← hy0]; exact k0)
    clear E hy0
    go_enter Try.func23, Try.ntmps23
    go_wp2_with (first
    | ((with_reducible refine wpList_load_one ?qqg63 41 ?qqx63 ?qqo63 w.heap.size 0 ?qqh63 (v0) Try.rQueue_Llaws_Item (OA0.out.cell 0 _ E0.out) ?_); (case qqg63 => rfl); (case qqo63 => rfl); (case qqh63 => first | (simp; done) | (simp [Act.eval]; done) | (simp only [Act.put]; simp; done) | (simp only [Act.put]; simp [Act.eval]; done)))
    | ((with_reducible refine wpList_load_one ?qqg64 41 ?qqx64 ?qqo64 w.heap.size 1 ?qqh64 (v1) Try.rQueue_Llaws_Item (OA0.out.cell 1 _ E1.out) ?_); (case qqg64 => rfl); (case qqo64 => rfl); (case qqh64 => first | (simp; done) | (simp [Act.eval]; done) | (simp only [Act.put]; simp; done) | (simp only [Act.put]; simp [Act.eval]; done)))
    | ((with_reducible refine wpList_load_one ?qqg65 25 ?qqx65 ?qqo65 w.heap.size 2 ?qqh65 (v2) Try.rQueue_Lstring (OA0.out.cell 2 _ E2.out) ?_); (case qqg65 => rfl); (case qqo65 => rfl); (case qqh65 => first | (simp; done) | (simp [Act.eval]; done) | (simp only [Act.put]; simp; done) | (simp only [Act.put]; simp [Act.eval]; done)))
    )
    refine (HC0.out _ _ (HA.out _) (by omega) (by omega)).mono ?_
    rintro e w1 ⟨rfl, hb1⟩
    have OA1 := uhide (OA0.out.below hb1)
    have B1 : Hid (Below w.heap.size w w1) := (HA.out _).trans (hb1.mono (by simp))
    clear hb1
    rw [show leftI left M0 = y0q from Y0q.out.symm]
    go_wp2
    go_ret
    exact ⟨ret_intU EN.out.symm, B1.out⟩
  replace E : Hid (R = leftI y0q (M1 + (M2 + 0))) := by
    obtain ⟨q1, q2, q3⟩ := leftI_pos (x := left) (a := M0) (M1 + (M2 + 0)) (by rw [← hy0]; exact k0)
    show _ = _; rw [E.out, q1, ← hy0]
  have u0 : y0q ≤ left := by rw [hy0]; unfold leftI; split <;> omega
  clear hy0
  obtain ⟨y1q, hy1⟩ : ∃ y, y = leftI y0q M1 := ⟨_, rfl⟩
  have Y1q := uhide hy1
  by_cases k1 : y1q < 0
  · have EN : Hid (R = -1) := by show _ = _; rw [E.out]; exact leftI_neg _ (by omega) (by rw [← hy1]; exact k1)
    clear E hy1
    go_enter Try.func23, Try.ntmps23
    go_wp2_with (first
    | ((with_reducible refine wpList_load_one ?qqg88 41 ?qqx88 ?qqo88 w.heap.size 0 ?qqh88 (v0) Try.rQueue_Llaws_Item (OA0.out.cell 0 _ E0.out) ?_); (case qqg88 => rfl); (case qqo88 => rfl); (case qqh88 => first | (simp; done) | (simp [Act.eval]; done) | (simp only [Act.put]; simp; done) | (simp only [Act.put]; simp [Act.eval]; done)))
    | ((with_reducible refine wpList_load_one ?qqg89 41 ?qqx89 ?qqo89 w.heap.size 1 ?qqh89 (v1) Try.rQueue_Llaws_Item (OA0.out.cell 1 _ E1.out) ?_); (case qqg89 => rfl); (case qqo89 => rfl); (case qqh89 => first | (simp; done) | (simp [Act.eval]; done) | (simp only [Act.put]; simp; done) | (simp only [Act.put]; simp [Act.eval]; done)))
    | ((with_reducible refine wpList_load_one ?qqg90 25 ?qqx90 ?qqo90 w.heap.size 2 ?qqh90 (v2) Try.rQueue_Lstring (OA0.out.cell 2 _ E2.out) ?_); (case qqg90 => rfl); (case qqo90 => rfl); (case qqh90 => first | (simp; done) | (simp [Act.eval]; done) | (simp only [Act.put]; simp; done) | (simp only [Act.put]; simp [Act.eval]; done)))
    )
    refine (HC0.out _ _ (HA.out _) (by omega) (by omega)).mono ?_
    rintro e w1 ⟨rfl, hb1⟩
    have OA1 := uhide (OA0.out.below hb1)
    have B1 : Hid (Below w.heap.size w w1) := (HA.out _).trans (hb1.mono (by simp))
    clear hb1
    rw [show leftI left M0 = y0q from Y0q.out.symm]
    go_wp2_with (first
    | ((with_reducible refine wpList_load_one ?qqg99 41 ?qqx99 ?qqo99 w.heap.size 0 ?qqh99 (v0) Try.rQueue_Llaws_Item (OA1.out.cell 0 _ E0.out) ?_); (case qqg99 => rfl); (case qqo99 => rfl); (case qqh99 => first | (simp; done) | (simp [Act.eval]; done) | (simp only [Act.put]; simp; done) | (simp only [Act.put]; simp [Act.eval]; done)))
    | ((with_reducible refine wpList_load_one ?qqg100 41 ?qqx100 ?qqo100 w.heap.size 1 ?qqh100 (v1) Try.rQueue_Llaws_Item (OA1.out.cell 1 _ E1.out) ?_); (case qqg100 => rfl); (case qqo100 => rfl); (case qqh100 => first | (simp; done) | (simp [Act.eval]; done) | (simp only [Act.put]; simp; done) | (simp only [Act.put]; simp [Act.eval]; done)))
    | ((with_reducible refine wpList_load_one ?qqg101 25 ?qqx101 ?qqo101 w.heap.size 2 ?qqh101 (v2) Try.rQueue_Lstring (OA1.out.cell 2 _ E2.out) ?_); (case qqg101 => rfl); (case qqo101 => rfl); (case qqh101 => first | (simp; done) | (simp [Act.eval]; done) | (simp only [Act.put]; simp; done) | (simp only [Act.put]; simp [Act.eval]; done)))
    )
    refine (HC1.out _ _ B1.out (by omega) (by omega)).mono ?_
    rintro e w2 ⟨rfl, hb2⟩
    have OA2 := uhide (OA1.out.below hb2)
    have B2 : Hid (Below w.heap.size w w2) := B1.out.trans (hb2.mono B1.out.size)
    clear hb2
    rw [show leftI y0q M1 = y1q from Y1q.out.symm]
    go_wp2
    go_ret
    exact ⟨ret_intU EN.out.symm, B2.out⟩
  replace E : Hid (R = leftI y1q (M2 + 0)) := by
    obtain ⟨q1, q2, q3⟩ := leftI_pos (x := y0q) (a := M1) (M2 + 0) (by rw [← hy1]; exact k1)
    show _ = _; rw [E.out, q1, ← hy1]
  have u1 : y1q ≤ y0q := by rw [hy1]; unfold leftI; split <;> omega
  clear hy1
  obtain ⟨y2q, hy2⟩ : ∃ y, y = leftI y1q M2 := ⟨_, rfl⟩
  have Y2q := uhide hy2
  by_cases k2 : y2q < 0
  · have EN : Hid (R = -1) := by show _ = _; rw [E.out]; exact leftI_neg _ (by omega) (by rw [← hy2]; exact k2)
    clear E hy2
    go_enter Try.func23, Try.ntmps23
    go_wp2_with (first
    | ((with_reducible refine wpList_load_one ?qqg124 41 ?qqx124 ?qqo124 w.heap.size 0 ?qqh124 (v0) Try.rQueue_Llaws_Item (OA0.out.cell 0 _ E0.out) ?_); (case qqg124 => rfl); (case qqo124 => rfl); (case qqh124 => first | (simp; done) | (simp [Act.eval]; done) | (simp only [Act.put]; simp; done) | (simp only [Act.put]; simp [Act.eval]; done)))
    | ((with_reducible refine wpList_load_one ?qqg125 41 ?qqx125 ?qqo125 w.heap.size 1 ?qqh125 (v1) Try.rQueue_Llaws_Item (OA0.out.cell 1 _ E1.out) ?_); (case qqg125 => rfl); (case qqo125 => rfl); (case qqh125 => first | (simp; done) | (simp [Act.eval]; done) | (simp only [Act.put]; simp; done) | (simp only [Act.put]; simp [Act.eval]; done)))
    | ((with_reducible refine wpList_load_one ?qqg126 25 ?qqx126 ?qqo126 w.heap.size 2 ?qqh126 (v2) Try.rQueue_Lstring (OA0.out.cell 2 _ E2.out) ?_); (case qqg126 => rfl); (case qqo126 => rfl); (case qqh126 => first | (simp; done) | (simp [Act.eval]; done) | (simp only [Act.put]; simp; done) | (simp only [Act.put]; simp [Act.eval]; done)))
    )
    refine (HC0.out _ _ (HA.out _) (by omega) (by omega)).mono ?_
    rintro e w1 ⟨rfl, hb1⟩
    have OA1 := uhide (OA0.out.below hb1)
    have B1 : Hid (Below w.heap.size w w1) := (HA.out _).trans (hb1.mono (by simp))
    clear hb1
    rw [show leftI left M0 = y0q from Y0q.out.symm]
    go_wp2_with (first
    | ((with_reducible refine wpList_load_one ?qqg135 41 ?qqx135 ?qqo135 w.heap.size 0 ?qqh135 (v0) Try.rQueue_Llaws_Item (OA1.out.cell 0 _ E0.out) ?_); (case qqg135 => rfl); (case qqo135 => rfl); (case qqh135 => first | (simp; done) | (simp [Act.eval]; done) | (simp only [Act.put]; simp; done) | (simp only [Act.put]; simp [Act.eval]; done)))
    | ((with_reducible refine wpList_load_one ?qqg136 41 ?qqx136 ?qqo136 w.heap.size 1 ?qqh136 (v1) Try.rQueue_Llaws_Item (OA1.out.cell 1 _ E1.out) ?_); (case qqg136 => rfl); (case qqo136 => rfl); (case qqh136 => first | (simp; done) | (simp [Act.eval]; done) | (simp only [Act.put]; simp; done) | (simp only [Act.put]; simp [Act.eval]; done)))
    | ((with_reducible refine wpList_load_one ?qqg137 25 ?qqx137 ?qqo137 w.heap.size 2 ?qqh137 (v2) Try.rQueue_Lstring (OA1.out.cell 2 _ E2.out) ?_); (case qqg137 => rfl); (case qqo137 => rfl); (case qqh137 => first | (simp; done) | (simp [Act.eval]; done) | (simp only [Act.put]; simp; done) | (simp only [Act.put]; simp [Act.eval]; done)))
    )
    refine (HC1.out _ _ B1.out (by omega) (by omega)).mono ?_
    rintro e w2 ⟨rfl, hb2⟩
    have OA2 := uhide (OA1.out.below hb2)
    have B2 : Hid (Below w.heap.size w w2) := B1.out.trans (hb2.mono B1.out.size)
    clear hb2
    rw [show leftI y0q M1 = y1q from Y1q.out.symm]
    go_wp2_with (first
    | ((with_reducible refine wpList_load_one ?qqg146 41 ?qqx146 ?qqo146 w.heap.size 0 ?qqh146 (v0) Try.rQueue_Llaws_Item (OA2.out.cell 0 _ E0.out) ?_); (case qqg146 => rfl); (case qqo146 => rfl); (case qqh146 => first | (simp; done) | (simp [Act.eval]; done) | (simp only [Act.put]; simp; done) | (simp only [Act.put]; simp [Act.eval]; done)))
    | ((with_reducible refine wpList_load_one ?qqg147 41 ?qqx147 ?qqo147 w.heap.size 1 ?qqh147 (v1) Try.rQueue_Llaws_Item (OA2.out.cell 1 _ E1.out) ?_); (case qqg147 => rfl); (case qqo147 => rfl); (case qqh147 => first | (simp; done) | (simp [Act.eval]; done) | (simp only [Act.put]; simp; done) | (simp only [Act.put]; simp [Act.eval]; done)))
    | ((with_reducible refine wpList_load_one ?qqg148 25 ?qqx148 ?qqo148 w.heap.size 2 ?qqh148 (v2) Try.rQueue_Lstring (OA2.out.cell 2 _ E2.out) ?_); (case qqg148 => rfl); (case qqo148 => rfl); (case qqh148 => first | (simp; done) | (simp [Act.eval]; done) | (simp only [Act.put]; simp; done) | (simp only [Act.put]; simp [Act.eval]; done)))
    )
    refine (HC2.out _ _ B2.out (by omega) (by omega)).mono ?_
    rintro e w3 ⟨rfl, hb3⟩
    have OA3 := uhide (OA2.out.below hb3)
    have B3 : Hid (Below w.heap.size w w3) := B2.out.trans (hb3.mono B2.out.size)
    clear hb3
    rw [show leftI y1q M2 = y2q from Y2q.out.symm]
    go_wp2
    go_ret
    exact ⟨ret_intU EN.out.symm, B3.out⟩
  replace E : Hid (R = leftI y2q (0)) := by
    obtain ⟨q1, q2, q3⟩ := leftI_pos (x := y1q) (a := M2) (0) (by rw [← hy2]; exact k2)
    show _ = _; rw [E.out, q1, ← hy2]
  have u2 : y2q ≤ y1q := by rw [hy2]; unfold leftI; split <;> omega
  clear hy2
  replace E : Hid (R = y2q) := E.out.trans (leftI_zero (by omega))
  go_enter Try.func23, Try.ntmps23
  go_wp2_with (first
    | ((with_reducible refine wpList_load_one ?qqg167 41 ?qqx167 ?qqo167 w.heap.size 0 ?qqh167 (v0) Try.rQueue_Llaws_Item (OA0.out.cell 0 _ E0.out) ?_); (case qqg167 => rfl); (case qqo167 => rfl); (case qqh167 => first | (simp; done) | (simp [Act.eval]; done) | (simp only [Act.put]; simp; done) | (simp only [Act.put]; simp [Act.eval]; done)))
    | ((with_reducible refine wpList_load_one ?qqg168 41 ?qqx168 ?qqo168 w.heap.size 1 ?qqh168 (v1) Try.rQueue_Llaws_Item (OA0.out.cell 1 _ E1.out) ?_); (case qqg168 => rfl); (case qqo168 => rfl); (case qqh168 => first | (simp; done) | (simp [Act.eval]; done) | (simp only [Act.put]; simp; done) | (simp only [Act.put]; simp [Act.eval]; done)))
    | ((with_reducible refine wpList_load_one ?qqg169 25 ?qqx169 ?qqo169 w.heap.size 2 ?qqh169 (v2) Try.rQueue_Lstring (OA0.out.cell 2 _ E2.out) ?_); (case qqg169 => rfl); (case qqo169 => rfl); (case qqh169 => first | (simp; done) | (simp [Act.eval]; done) | (simp only [Act.put]; simp; done) | (simp only [Act.put]; simp [Act.eval]; done)))
    )
  refine (HC0.out _ _ (HA.out _) (by omega) (by omega)).mono ?_
  rintro e w1 ⟨rfl, hb1⟩
  have OA1 := uhide (OA0.out.below hb1)
  have B1 : Hid (Below w.heap.size w w1) := (HA.out _).trans (hb1.mono (by simp))
  clear hb1
  rw [show leftI left M0 = y0q from Y0q.out.symm]
  go_wp2_with (first
    | ((with_reducible refine wpList_load_one ?qqg178 41 ?qqx178 ?qqo178 w.heap.size 0 ?qqh178 (v0) Try.rQueue_Llaws_Item (OA1.out.cell 0 _ E0.out) ?_); (case qqg178 => rfl); (case qqo178 => rfl); (case qqh178 => first | (simp; done) | (simp [Act.eval]; done) | (simp only [Act.put]; simp; done) | (simp only [Act.put]; simp [Act.eval]; done)))
    | ((with_reducible refine wpList_load_one ?qqg179 41 ?qqx179 ?qqo179 w.heap.size 1 ?qqh179 (v1) Try.rQueue_Llaws_Item (OA1.out.cell 1 _ E1.out) ?_); (case qqg179 => rfl); (case qqo179 => rfl); (case qqh179 => first | (simp; done) | (simp [Act.eval]; done) | (simp only [Act.put]; simp; done) | (simp only [Act.put]; simp [Act.eval]; done)))
    | ((with_reducible refine wpList_load_one ?qqg180 25 ?qqx180 ?qqo180 w.heap.size 2 ?qqh180 (v2) Try.rQueue_Lstring (OA1.out.cell 2 _ E2.out) ?_); (case qqg180 => rfl); (case qqo180 => rfl); (case qqh180 => first | (simp; done) | (simp [Act.eval]; done) | (simp only [Act.put]; simp; done) | (simp only [Act.put]; simp [Act.eval]; done)))
    )
  refine (HC1.out _ _ B1.out (by omega) (by omega)).mono ?_
  rintro e w2 ⟨rfl, hb2⟩
  have OA2 := uhide (OA1.out.below hb2)
  have B2 : Hid (Below w.heap.size w w2) := B1.out.trans (hb2.mono B1.out.size)
  clear hb2
  rw [show leftI y0q M1 = y1q from Y1q.out.symm]
  go_wp2_with (first
    | ((with_reducible refine wpList_load_one ?qqg189 41 ?qqx189 ?qqo189 w.heap.size 0 ?qqh189 (v0) Try.rQueue_Llaws_Item (OA2.out.cell 0 _ E0.out) ?_); (case qqg189 => rfl); (case qqo189 => rfl); (case qqh189 => first | (simp; done) | (simp [Act.eval]; done) | (simp only [Act.put]; simp; done) | (simp only [Act.put]; simp [Act.eval]; done)))
    | ((with_reducible refine wpList_load_one ?qqg190 41 ?qqx190 ?qqo190 w.heap.size 1 ?qqh190 (v1) Try.rQueue_Llaws_Item (OA2.out.cell 1 _ E1.out) ?_); (case qqg190 => rfl); (case qqo190 => rfl); (case qqh190 => first | (simp; done) | (simp [Act.eval]; done) | (simp only [Act.put]; simp; done) | (simp only [Act.put]; simp [Act.eval]; done)))
    | ((with_reducible refine wpList_load_one ?qqg191 25 ?qqx191 ?qqo191 w.heap.size 2 ?qqh191 (v2) Try.rQueue_Lstring (OA2.out.cell 2 _ E2.out) ?_); (case qqg191 => rfl); (case qqo191 => rfl); (case qqh191 => first | (simp; done) | (simp [Act.eval]; done) | (simp only [Act.put]; simp; done) | (simp only [Act.put]; simp [Act.eval]; done)))
    )
  refine (HC2.out _ _ B2.out (by omega) (by omega)).mono ?_
  rintro e w3 ⟨rfl, hb3⟩
  have OA3 := uhide (OA2.out.below hb3)
  have B3 : Hid (Below w.heap.size w w3) := B2.out.trans (hb3.mono B2.out.size)
  clear hb3
  rw [show leftI y1q M2 = y2q from Y2q.out.symm]
  go_wp2
  go_ret
  exact ⟨ret_intU E.out.symm, B3.out⟩
end Go.Proofs.Ytldabidmacghgaa

/- Data as cells: the helpers of the laws over Obj. -/
import Derived.Test.YtdnodaoeflbfkaaULeaf
import Derived.Test.YtdnodaoeflbfkaaULd
import Derived.Test.YtdnodaoeflbfkaaUFObj
import Derived.Test.YtdnodaoeflbfkaaUTValue
namespace Go.Proofs.Ytdnodaoeflbfkaa
open Go.RowKit Go.BigFrame
set_option linter.unusedVariables false
set_option linter.unusedSimpArgs false

set_option maxRecDepth 20000 in
set_option maxHeartbeats 1600000 in
theorem uszObj_any {lo hi : Nat} (d : UD) (xs : List Value) (left : Int) (w : World) (ht : tyL d (uE 8)) (hx : uH w lo hi d xs) (h0 : 0 ≤ left) (h1 : left ≤ 1048576) :
    Calls Try.prog 159 #[.agg xs.toArray, .int .i64 left] w fun e w' => e = .returned (.int .i64 (leftI left (wt d))) ∧ Below w.heap.size w w' := by
  replace ht : tyL d [.i .i64, .s, .i .i64, .i .i64, .i .i64, .b, .l 1 0, .i .i64, .s, .i .i64, .l 1 0, .l 5 6, .i .i64, .s, .i .i64, .l 1 0, .l 5 6] := ht
  obtain ⟨z0, _, rfl, g0, h0⟩ := tyL.i ht
  obtain ⟨z1, _, rfl, g1, h1⟩ := tyL.s h0
  clear h0
  obtain ⟨z2, _, rfl, g2, h2⟩ := tyL.i h1
  clear h1
  obtain ⟨z3, _, rfl, g3, h3⟩ := tyL.i h2
  clear h2
  obtain ⟨z4, _, rfl, g4, h4⟩ := tyL.i h3
  clear h3
  obtain ⟨z5, _, rfl, h5⟩ := tyL.b h4
  clear h4
  obtain ⟨n6, c6, _, rfl, g6, h6⟩ := tyL.l h5
  clear h5
  obtain ⟨d7, _, rfl, g7, h7⟩ := tyL.split (f1 := uE 6) (f2 := [.i .i64, .s, .i .i64, .l 1 0, .l 5 6]) h6
  clear h6
  obtain ⟨d8, _, rfl, g8, h8⟩ := tyL.split (f1 := uE 6) (f2 := []) h7
  clear h7
  obtain rfl := tyL.nil h8
  clear h8
  obtain ⟨_, rfl, h0⟩ := hx
  obtain ⟨_, rfl, h1⟩ := h0
  obtain ⟨_, rfl, h2⟩ := h1
  obtain ⟨_, rfl, h3⟩ := h2
  obtain ⟨_, rfl, h4⟩ := h3
  obtain ⟨_, rfl, h5⟩ := h4
  obtain ⟨v6, _, rfl, s6, h6⟩ := h5
  obtain ⟨y7, _, rfl, l7, s7, h7⟩ := uH.split h6
  replace l7 : y7.length = 5 := l7.trans (tyL.len g7)
  clear h6
  obtain ⟨y8, _, rfl, l8, s8, h8⟩ := uH.split h7
  replace l8 : y8.length = 5 := l8.trans (tyL.len g8)
  clear h7
  obtain rfl := h8
  obtain ⟨M1, hM1⟩ : ∃ M, M = (n6 + wt c6) := ⟨_, rfl⟩
  have HC1 : Hid (∀ (wx : World) (l : Int), Below w.heap.size w wx → 0 ≤ l → l ≤ 1048576 → Calls Try.prog 62 #[v6, .int .i64 l] wx fun e w' => e = .returned (.int .i64 (leftI l M1)) ∧ Below wx.heap.size wx w') := fun wx l hb q0 q1 => hM1 ▸ uszStringS_any (lo := lo) (hi := hi) n6 c6 _ l wx g6 q0 q1 (s6.below hb)
  obtain ⟨M2, hM2⟩ : ∃ M, M = (wt d7) := ⟨_, rfl⟩
  have HC2 : Hid (∀ (wx : World) (l : Int), Below w.heap.size w wx → 0 ≤ l → l ≤ 1048576 → Calls Try.prog 206 #[.agg y7.toArray, .int .i64 l] wx fun e w' => e = .returned (.int .i64 (leftI l M2)) ∧ Below wx.heap.size wx w') := fun wx l hb q0 q1 => hM2 ▸ uszValue_any (lo := lo) (hi := hi) d7 _ l wx g7 (s7.below hb) q0 q1
  obtain ⟨M3, hM3⟩ : ∃ M, M = (wt d8) := ⟨_, rfl⟩
  have HC3 : Hid (∀ (wx : World) (l : Int), Below w.heap.size w wx → 0 ≤ l → l ≤ 1048576 → Calls Try.prog 206 #[.agg y8.toArray, .int .i64 l] wx fun e w' => e = .returned (.int .i64 (leftI l M3)) ∧ Below wx.heap.size wx w') := fun wx l hb q0 q1 => hM3 ▸ uszValue_any (lo := lo) (hi := hi) d8 _ l wx g8 (s8.below hb) q0 q1
  have E : Hid (leftI left (wt (UD.p (.int .i64 z0) (UD.p (.string z1) (UD.p (.int .i64 z2) (UD.p (.int .i64 z3) (UD.p (.int .i64 z4) (UD.p (.bool z5) (UD.l 1 n6 c6 (UD.app d7 (UD.app d8 UD.nil)))))))))) = leftI left (z1.size + (M1 + (M2 + (M3 + 0))))) := by show _ = _; congr 1 <;> (simp only [wt, wtP, wt_app, hM1, hM2, hM3] <;> omega)
  generalize leftI left (wt (UD.p (.int .i64 z0) (UD.p (.string z1) (UD.p (.int .i64 z2) (UD.p (.int .i64 z3) (UD.p (.int .i64 z4) (UD.p (.bool z5) (UD.l 1 n6 c6 (UD.app d7 (UD.app d8 UD.nil)))))))))) = R at *
  have HA : Hid (∀ o, Below w.heap.size w (w.alloc o)) := fun o => (Below.refl _ _).alloc (Nat.le_refl _) _
  unfold maxLen at g1
  obtain ⟨AX, hAX⟩ : ∃ AX : List Value, AX = (Value.int .i64 z0 :: (Value.string z1 :: (Value.int .i64 z2 :: (Value.int .i64 z3 :: (Value.int .i64 z4 :: (Value.bool z5 :: (v6 :: ((y7 ++ ((y8 ++ []))))))))))) := ⟨_, rfl⟩
  rw [← hAX]
  have hlen : AX.length = 17 := by rw [hAX]; simp [l7, l8]
  have e0 : AX[0]? = some (.int .i64 z0) := at_mid (i := 0) (pre := (([] : List Value))) (ys := [.int .i64 z0]) (post := (Value.string z1 :: (Value.int .i64 z2 :: (Value.int .i64 z3 :: (Value.int .i64 z4 :: (Value.bool z5 :: (v6 :: ((y7 ++ ((y8 ++ []))))))))))) (by rw [hAX]; simp) (by simp) rfl
  have e1 : AX[1]? = some (.string z1) := at_mid (i := 0) (pre := ([Value.int .i64 z0])) (ys := [.string z1]) (post := (Value.int .i64 z2 :: (Value.int .i64 z3 :: (Value.int .i64 z4 :: (Value.bool z5 :: (v6 :: ((y7 ++ ((y8 ++ [])))))))))) (by rw [hAX]; simp) (by simp) rfl
  have e2 : AX[2]? = some (.int .i64 z2) := at_mid (i := 0) (pre := ([Value.int .i64 z0, Value.string z1])) (ys := [.int .i64 z2]) (post := (Value.int .i64 z3 :: (Value.int .i64 z4 :: (Value.bool z5 :: (v6 :: ((y7 ++ ((y8 ++ []))))))))) (by rw [hAX]; simp) (by simp) rfl
  have e3 : AX[3]? = some (.int .i64 z3) := at_mid (i := 0) (pre := ([Value.int .i64 z0, Value.string z1, Value.int .i64 z2])) (ys := [.int .i64 z3]) (post := (Value.int .i64 z4 :: (Value.bool z5 :: (v6 :: ((y7 ++ ((y8 ++ [])))))))) (by rw [hAX]; simp) (by simp) rfl
  have e4 : AX[4]? = some (.int .i64 z4) := at_mid (i := 0) (pre := ([Value.int .i64 z0, Value.string z1, Value.int .i64 z2, Value.int .i64 z3])) (ys := [.int .i64 z4]) (post := (Value.bool z5 :: (v6 :: ((y7 ++ ((y8 ++ []))))))) (by rw [hAX]; simp) (by simp) rfl
  have e5 : AX[5]? = some (.bool z5) := at_mid (i := 0) (pre := ([Value.int .i64 z0, Value.string z1, Value.int .i64 z2, Value.int .i64 z3, Value.int .i64 z4])) (ys := [.bool z5]) (post := (v6 :: ((y7 ++ ((y8 ++ [])))))) (by rw [hAX]; simp) (by simp) rfl
  have e6 : AX[6]? = some (v6) := at_mid (i := 0) (pre := ([Value.int .i64 z0, Value.string z1, Value.int .i64 z2, Value.int .i64 z3, Value.int .i64 z4, Value.bool z5])) (ys := [v6]) (post := ((y7 ++ ((y8 ++ []))))) (by rw [hAX]; simp) (by simp) rfl
  have e7 : ∀ i v, y7[i]? = some v → AX[7 + i]? = some v := fun i v h => at_mid (pre := ([Value.int .i64 z0, Value.string z1, Value.int .i64 z2, Value.int .i64 z3, Value.int .i64 z4, Value.bool z5, v6])) (ys := y7) (post := ((y8 ++ []))) (by rw [hAX]; simp) (by simp) h
  have e8 : ∀ i v, y8[i]? = some v → AX[12 + i]? = some v := fun i v h => at_mid (pre := ([Value.int .i64 z0, Value.string z1, Value.int .i64 z2, Value.int .i64 z3, Value.int .i64 z4, Value.bool z5, v6] ++ y7)) (ys := y8) (post := []) (by rw [hAX]; simp) (by simp [l7]) h
  clear hAX
  have E0 := uhide e0
  clear e0
  have E1 := uhide e1
  clear e1
  have E2 := uhide e2
  clear e2
  have E3 := uhide e3
  clear e3
  have E4 := uhide e4
  clear e4
  have E5 := uhide e5
  clear e5
  have E6 := uhide e6
  clear e6
  have YZ7 : Hid ((Try.prog.info? 219).map (·.size) = some y7.length) := by show _ = _; rw [l7]; exact Try.zObj_laws_Value
  clear l7
  have E7 := uhide e7
  clear e7
  have YZ8 : Hid ((Try.prog.info? 219).map (·.size) = some y8.length) := by show _ = _; rw [l8]; exact Try.zObj_laws_Value
  clear l8
  have E8 := uhide e8
  clear e8
  have OA0 : Hid (objU (w.alloc (.cells AX.toArray 221)) w.heap.size 221 AX) := objU.new2 _ _ rfl
  clear ht g0 g2 g3 g4 g6 s6 g7 s7 g8 s8 hM1 hM2 hM3
  by_cases k0 : left - (z1.size : Int) < 0
  · have EN : Hid (R = -1) := by show _ = _; rw [E.out]; exact leftI_neg _ (by omega) (by unfold leftI; split <;> omega)
    clear E
    go_enter Try.func159, Try.ntmps159
    go_wp2_with (first
    | ((with_reducible refine wpList_load_one ?qqg100 9 ?qqx100 ?qqo100 w.heap.size 1 ?qqh100 (.string z1) Try.rObj_string (OA0.out.cell 1 _ E1.out) ?_); (case qqg100 => rfl); (case qqo100 => rfl); (case qqh100 => simp [Act.eval, Act.put]))
    | ((with_reducible refine wpList_load_one ?qqg101 25 ?qqx101 ?qqo101 w.heap.size 6 ?qqh101 (v6) Try.rObj_Lstring (OA0.out.cell 6 _ E6.out) ?_); (case qqg101 => rfl); (case qqo101 => rfl); (case qqh101 => simp [Act.eval, Act.put]))
    | ((with_reducible refine wpList_load_row2 ?qqg102 219 ?qqx102 ?qqo102 w.heap.size 7 ?qqh102 y7 Try.rObj_laws_Value YZ7.out (OA0.out.range 7 _ E7.out) ?_); (case qqg102 => rfl); (case qqo102 => rfl); (case qqh102 => simp [Act.eval, Act.put]))
    | ((with_reducible refine wpList_load_row2 ?qqg103 219 ?qqx103 ?qqo103 w.heap.size 12 ?qqh103 y8 Try.rObj_laws_Value YZ8.out (OA0.out.range 12 _ E8.out) ?_); (case qqg103 => rfl); (case qqo103 => rfl); (case qqh103 => simp [Act.eval, Act.put]))
    )
    go_ret
    exact ⟨ret_intU EN.out.symm, HA.out _⟩
  replace E : Hid (R = leftI (left - (z1.size : Int)) (M1 + (M2 + (M3 + 0)))) := by
    obtain ⟨q1, q2, q3⟩ := leftI_pos (x := left) (a := z1.size) (M1 + (M2 + (M3 + 0))) (by unfold leftI; split <;> omega)
    show _ = _; rw [E.out, q1, q2]
  obtain ⟨y1q, hy1⟩ : ∃ y, y = leftI (left - (z1.size : Int)) M1 := ⟨_, rfl⟩
  have Y1q := uhide hy1
  by_cases k1 : y1q < 0
  · have EN : Hid (R = -1) := by show _ = _; rw [E.out]; exact leftI_neg _ (by omega) (by rw [← hy1]; exact k1)
    clear E hy1
    go_enter Try.func159, Try.ntmps159
    go_wp2_with (first
    | ((with_reducible refine wpList_load_one ?qqg117 9 ?qqx117 ?qqo117 w.heap.size 1 ?qqh117 (.string z1) Try.rObj_string (OA0.out.cell 1 _ E1.out) ?_); (case qqg117 => rfl); (case qqo117 => rfl); (case qqh117 => simp [Act.eval, Act.put]))
    | ((with_reducible refine wpList_load_one ?qqg118 25 ?qqx118 ?qqo118 w.heap.size 6 ?qqh118 (v6) Try.rObj_Lstring (OA0.out.cell 6 _ E6.out) ?_); (case qqg118 => rfl); (case qqo118 => rfl); (case qqh118 => simp [Act.eval, Act.put]))
    | ((with_reducible refine wpList_load_row2 ?qqg119 219 ?qqx119 ?qqo119 w.heap.size 7 ?qqh119 y7 Try.rObj_laws_Value YZ7.out (OA0.out.range 7 _ E7.out) ?_); (case qqg119 => rfl); (case qqo119 => rfl); (case qqh119 => simp [Act.eval, Act.put]))
    | ((with_reducible refine wpList_load_row2 ?qqg120 219 ?qqx120 ?qqo120 w.heap.size 12 ?qqh120 y8 Try.rObj_laws_Value YZ8.out (OA0.out.range 12 _ E8.out) ?_); (case qqg120 => rfl); (case qqo120 => rfl); (case qqh120 => simp [Act.eval, Act.put]))
    )
    refine (HC1.out _ _ (HA.out _) (by omega) (by omega)).mono ?_
    rintro e w1 ⟨rfl, hb1⟩
    have OA1 := uhide (OA0.out.below hb1)
    have B1 : Hid (Below w.heap.size w w1) := (HA.out _).trans (hb1.mono (by simp))
    clear hb1
    rw [show leftI (left - (z1.size : Int)) M1 = y1q from Y1q.out.symm]
    go_wp2
    go_ret
    exact ⟨ret_intU EN.out.symm, B1.out⟩
  replace E : Hid (R = leftI y1q (M2 + (M3 + 0))) := by
    obtain ⟨q1, q2, q3⟩ := leftI_pos (x := (left - (z1.size : Int))) (a := M1) (M2 + (M3 + 0)) (by rw [← hy1]; exact k1)
    show _ = _; rw [E.out, q1, ← hy1]
  have u1 : y1q ≤ (left - (z1.size : Int)) := by rw [hy1]; unfold leftI; split <;> omega
  clear hy1
  obtain ⟨y2q, hy2⟩ : ∃ y, y = leftI y1q M2 := ⟨_, rfl⟩
  have Y2q := uhide hy2
  by_cases k2 : y2q < 0
  · have EN : Hid (R = -1) := by show _ = _; rw [E.out]; exact leftI_neg _ (by omega) (by rw [← hy2]; exact k2)
    clear E hy2
    go_enter Try.func159, Try.ntmps159
    go_wp2_with (first
    | ((with_reducible refine wpList_load_one ?qqg143 9 ?qqx143 ?qqo143 w.heap.size 1 ?qqh143 (.string z1) Try.rObj_string (OA0.out.cell 1 _ E1.out) ?_); (case qqg143 => rfl); (case qqo143 => rfl); (case qqh143 => simp [Act.eval, Act.put]))
    | ((with_reducible refine wpList_load_one ?qqg144 25 ?qqx144 ?qqo144 w.heap.size 6 ?qqh144 (v6) Try.rObj_Lstring (OA0.out.cell 6 _ E6.out) ?_); (case qqg144 => rfl); (case qqo144 => rfl); (case qqh144 => simp [Act.eval, Act.put]))
    | ((with_reducible refine wpList_load_row2 ?qqg145 219 ?qqx145 ?qqo145 w.heap.size 7 ?qqh145 y7 Try.rObj_laws_Value YZ7.out (OA0.out.range 7 _ E7.out) ?_); (case qqg145 => rfl); (case qqo145 => rfl); (case qqh145 => simp [Act.eval, Act.put]))
    | ((with_reducible refine wpList_load_row2 ?qqg146 219 ?qqx146 ?qqo146 w.heap.size 12 ?qqh146 y8 Try.rObj_laws_Value YZ8.out (OA0.out.range 12 _ E8.out) ?_); (case qqg146 => rfl); (case qqo146 => rfl); (case qqh146 => simp [Act.eval, Act.put]))
    )
    refine (HC1.out _ _ (HA.out _) (by omega) (by omega)).mono ?_
    rintro e w1 ⟨rfl, hb1⟩
    have OA1 := uhide (OA0.out.below hb1)
    have B1 : Hid (Below w.heap.size w w1) := (HA.out _).trans (hb1.mono (by simp))
    clear hb1
    rw [show leftI (left - (z1.size : Int)) M1 = y1q from Y1q.out.symm]
    go_wp2_with (first
    | ((with_reducible refine wpList_load_one ?qqg155 9 ?qqx155 ?qqo155 w.heap.size 1 ?qqh155 (.string z1) Try.rObj_string (OA1.out.cell 1 _ E1.out) ?_); (case qqg155 => rfl); (case qqo155 => rfl); (case qqh155 => simp [Act.eval, Act.put]))
    | ((with_reducible refine wpList_load_one ?qqg156 25 ?qqx156 ?qqo156 w.heap.size 6 ?qqh156 (v6) Try.rObj_Lstring (OA1.out.cell 6 _ E6.out) ?_); (case qqg156 => rfl); (case qqo156 => rfl); (case qqh156 => simp [Act.eval, Act.put]))
    | ((with_reducible refine wpList_load_row2 ?qqg157 219 ?qqx157 ?qqo157 w.heap.size 7 ?qqh157 y7 Try.rObj_laws_Value YZ7.out (OA1.out.range 7 _ E7.out) ?_); (case qqg157 => rfl); (case qqo157 => rfl); (case qqh157 => simp [Act.eval, Act.put]))
    | ((with_reducible refine wpList_load_row2 ?qqg158 219 ?qqx158 ?qqo158 w.heap.size 12 ?qqh158 y8 Try.rObj_laws_Value YZ8.out (OA1.out.range 12 _ E8.out) ?_); (case qqg158 => rfl); (case qqo158 => rfl); (case qqh158 => simp [Act.eval, Act.put]))
    )
    refine (HC2.out _ _ B1.out (by omega) (by omega)).mono ?_
    rintro e w2 ⟨rfl, hb2⟩
    have OA2 := uhide (OA1.out.below hb2)
    have B2 : Hid (Below w.heap.size w w2) := B1.out.trans (hb2.mono B1.out.size)
    clear hb2
    rw [show leftI y1q M2 = y2q from Y2q.out.symm]
    go_wp2
    go_ret
    exact ⟨ret_intU EN.out.symm, B2.out⟩
  replace E : Hid (R = leftI y2q (M3 + 0)) := by
    obtain ⟨q1, q2, q3⟩ := leftI_pos (x := y1q) (a := M2) (M3 + 0) (by rw [← hy2]; exact k2)
    show _ = _; rw [E.out, q1, ← hy2]
  have u2 : y2q ≤ y1q := by rw [hy2]; unfold leftI; split <;> omega
  clear hy2
  obtain ⟨y3q, hy3⟩ : ∃ y, y = leftI y2q M3 := ⟨_, rfl⟩
  have Y3q := uhide hy3
  by_cases k3 : y3q < 0
  · have EN : Hid (R = -1) := by show _ = _; rw [E.out]; exact leftI_neg _ (by omega) (by rw [← hy3]; exact k3)
    clear E hy3
    go_enter Try.func159, Try.ntmps159
    go_wp2_with (first
    | ((with_reducible refine wpList_load_one ?qqg181 9 ?qqx181 ?qqo181 w.heap.size 1 ?qqh181 (.string z1) Try.rObj_string (OA0.out.cell 1 _ E1.out) ?_); (case qqg181 => rfl); (case qqo181 => rfl); (case qqh181 => simp [Act.eval, Act.put]))
    | ((with_reducible refine wpList_load_one ?qqg182 25 ?qqx182 ?qqo182 w.heap.size 6 ?qqh182 (v6) Try.rObj_Lstring (OA0.out.cell 6 _ E6.out) ?_); (case qqg182 => rfl); (case qqo182 => rfl); (case qqh182 => simp [Act.eval, Act.put]))
    | ((with_reducible refine wpList_load_row2 ?qqg183 219 ?qqx183 ?qqo183 w.heap.size 7 ?qqh183 y7 Try.rObj_laws_Value YZ7.out (OA0.out.range 7 _ E7.out) ?_); (case qqg183 => rfl); (case qqo183 => rfl); (case qqh183 => simp [Act.eval, Act.put]))
    | ((with_reducible refine wpList_load_row2 ?qqg184 219 ?qqx184 ?qqo184 w.heap.size 12 ?qqh184 y8 Try.rObj_laws_Value YZ8.out (OA0.out.range 12 _ E8.out) ?_); (case qqg184 => rfl); (case qqo184 => rfl); (case qqh184 => simp [Act.eval, Act.put]))
    )
    refine (HC1.out _ _ (HA.out _) (by omega) (by omega)).mono ?_
    rintro e w1 ⟨rfl, hb1⟩
    have OA1 := uhide (OA0.out.below hb1)
    have B1 : Hid (Below w.heap.size w w1) := (HA.out _).trans (hb1.mono (by simp))
    clear hb1
    rw [show leftI (left - (z1.size : Int)) M1 = y1q from Y1q.out.symm]
    go_wp2_with (first
    | ((with_reducible refine wpList_load_one ?qqg193 9 ?qqx193 ?qqo193 w.heap.size 1 ?qqh193 (.string z1) Try.rObj_string (OA1.out.cell 1 _ E1.out) ?_); (case qqg193 => rfl); (case qqo193 => rfl); (case qqh193 => simp [Act.eval, Act.put]))
    | ((with_reducible refine wpList_load_one ?qqg194 25 ?qqx194 ?qqo194 w.heap.size 6 ?qqh194 (v6) Try.rObj_Lstring (OA1.out.cell 6 _ E6.out) ?_); (case qqg194 => rfl); (case qqo194 => rfl); (case qqh194 => simp [Act.eval, Act.put]))
    | ((with_reducible refine wpList_load_row2 ?qqg195 219 ?qqx195 ?qqo195 w.heap.size 7 ?qqh195 y7 Try.rObj_laws_Value YZ7.out (OA1.out.range 7 _ E7.out) ?_); (case qqg195 => rfl); (case qqo195 => rfl); (case qqh195 => simp [Act.eval, Act.put]))
    | ((with_reducible refine wpList_load_row2 ?qqg196 219 ?qqx196 ?qqo196 w.heap.size 12 ?qqh196 y8 Try.rObj_laws_Value YZ8.out (OA1.out.range 12 _ E8.out) ?_); (case qqg196 => rfl); (case qqo196 => rfl); (case qqh196 => simp [Act.eval, Act.put]))
    )
    refine (HC2.out _ _ B1.out (by omega) (by omega)).mono ?_
    rintro e w2 ⟨rfl, hb2⟩
    have OA2 := uhide (OA1.out.below hb2)
    have B2 : Hid (Below w.heap.size w w2) := B1.out.trans (hb2.mono B1.out.size)
    clear hb2
    rw [show leftI y1q M2 = y2q from Y2q.out.symm]
    go_wp2_with (first
    | ((with_reducible refine wpList_load_one ?qqg205 9 ?qqx205 ?qqo205 w.heap.size 1 ?qqh205 (.string z1) Try.rObj_string (OA2.out.cell 1 _ E1.out) ?_); (case qqg205 => rfl); (case qqo205 => rfl); (case qqh205 => simp [Act.eval, Act.put]))
    | ((with_reducible refine wpList_load_one ?qqg206 25 ?qqx206 ?qqo206 w.heap.size 6 ?qqh206 (v6) Try.rObj_Lstring (OA2.out.cell 6 _ E6.out) ?_); (case qqg206 => rfl); (case qqo206 => rfl); (case qqh206 => simp [Act.eval, Act.put]))
    | ((with_reducible refine wpList_load_row2 ?qqg207 219 ?qqx207 ?qqo207 w.heap.size 7 ?qqh207 y7 Try.rObj_laws_Value YZ7.out (OA2.out.range 7 _ E7.out) ?_); (case qqg207 => rfl); (case qqo207 => rfl); (case qqh207 => simp [Act.eval, Act.put]))
    | ((with_reducible refine wpList_load_row2 ?qqg208 219 ?qqx208 ?qqo208 w.heap.size 12 ?qqh208 y8 Try.rObj_laws_Value YZ8.out (OA2.out.range 12 _ E8.out) ?_); (case qqg208 => rfl); (case qqo208 => rfl); (case qqh208 => simp [Act.eval, Act.put]))
    )
    refine (HC3.out _ _ B2.out (by omega) (by omega)).mono ?_
    rintro e w3 ⟨rfl, hb3⟩
    have OA3 := uhide (OA2.out.below hb3)
    have B3 : Hid (Below w.heap.size w w3) := B2.out.trans (hb3.mono B2.out.size)
    clear hb3
    rw [show leftI y2q M3 = y3q from Y3q.out.symm]
    go_wp2
    go_ret
    exact ⟨ret_intU EN.out.symm, B3.out⟩
  replace E : Hid (R = leftI y3q (0)) := by
    obtain ⟨q1, q2, q3⟩ := leftI_pos (x := y2q) (a := M3) (0) (by rw [← hy3]; exact k3)
    show _ = _; rw [E.out, q1, ← hy3]
  have u3 : y3q ≤ y2q := by rw [hy3]; unfold leftI; split <;> omega
  clear hy3
  replace E : Hid (R = y3q) := E.out.trans (leftI_zero (by omega))
  go_enter Try.func159, Try.ntmps159
  go_wp2_with (first
    | ((with_reducible refine wpList_load_one ?qqg227 9 ?qqx227 ?qqo227 w.heap.size 1 ?qqh227 (.string z1) Try.rObj_string (OA0.out.cell 1 _ E1.out) ?_); (case qqg227 => rfl); (case qqo227 => rfl); (case qqh227 => simp [Act.eval, Act.put]))
    | ((with_reducible refine wpList_load_one ?qqg228 25 ?qqx228 ?qqo228 w.heap.size 6 ?qqh228 (v6) Try.rObj_Lstring (OA0.out.cell 6 _ E6.out) ?_); (case qqg228 => rfl); (case qqo228 => rfl); (case qqh228 => simp [Act.eval, Act.put]))
    | ((with_reducible refine wpList_load_row2 ?qqg229 219 ?qqx229 ?qqo229 w.heap.size 7 ?qqh229 y7 Try.rObj_laws_Value YZ7.out (OA0.out.range 7 _ E7.out) ?_); (case qqg229 => rfl); (case qqo229 => rfl); (case qqh229 => simp [Act.eval, Act.put]))
    | ((with_reducible refine wpList_load_row2 ?qqg230 219 ?qqx230 ?qqo230 w.heap.size 12 ?qqh230 y8 Try.rObj_laws_Value YZ8.out (OA0.out.range 12 _ E8.out) ?_); (case qqg230 => rfl); (case qqo230 => rfl); (case qqh230 => simp [Act.eval, Act.put]))
    )
  refine (HC1.out _ _ (HA.out _) (by omega) (by omega)).mono ?_
  rintro e w1 ⟨rfl, hb1⟩
  have OA1 := uhide (OA0.out.below hb1)
  have B1 : Hid (Below w.heap.size w w1) := (HA.out _).trans (hb1.mono (by simp))
  clear hb1
  rw [show leftI (left - (z1.size : Int)) M1 = y1q from Y1q.out.symm]
  go_wp2_with (first
    | ((with_reducible refine wpList_load_one ?qqg239 9 ?qqx239 ?qqo239 w.heap.size 1 ?qqh239 (.string z1) Try.rObj_string (OA1.out.cell 1 _ E1.out) ?_); (case qqg239 => rfl); (case qqo239 => rfl); (case qqh239 => simp [Act.eval, Act.put]))
    | ((with_reducible refine wpList_load_one ?qqg240 25 ?qqx240 ?qqo240 w.heap.size 6 ?qqh240 (v6) Try.rObj_Lstring (OA1.out.cell 6 _ E6.out) ?_); (case qqg240 => rfl); (case qqo240 => rfl); (case qqh240 => simp [Act.eval, Act.put]))
    | ((with_reducible refine wpList_load_row2 ?qqg241 219 ?qqx241 ?qqo241 w.heap.size 7 ?qqh241 y7 Try.rObj_laws_Value YZ7.out (OA1.out.range 7 _ E7.out) ?_); (case qqg241 => rfl); (case qqo241 => rfl); (case qqh241 => simp [Act.eval, Act.put]))
    | ((with_reducible refine wpList_load_row2 ?qqg242 219 ?qqx242 ?qqo242 w.heap.size 12 ?qqh242 y8 Try.rObj_laws_Value YZ8.out (OA1.out.range 12 _ E8.out) ?_); (case qqg242 => rfl); (case qqo242 => rfl); (case qqh242 => simp [Act.eval, Act.put]))
    )
  refine (HC2.out _ _ B1.out (by omega) (by omega)).mono ?_
  rintro e w2 ⟨rfl, hb2⟩
  have OA2 := uhide (OA1.out.below hb2)
  have B2 : Hid (Below w.heap.size w w2) := B1.out.trans (hb2.mono B1.out.size)
  clear hb2
  rw [show leftI y1q M2 = y2q from Y2q.out.symm]
  go_wp2_with (first
    | ((with_reducible refine wpList_load_one ?qqg251 9 ?qqx251 ?qqo251 w.heap.size 1 ?qqh251 (.string z1) Try.rObj_string (OA2.out.cell 1 _ E1.out) ?_); (case qqg251 => rfl); (case qqo251 => rfl); (case qqh251 => simp [Act.eval, Act.put]))
    | ((with_reducible refine wpList_load_one ?qqg252 25 ?qqx252 ?qqo252 w.heap.size 6 ?qqh252 (v6) Try.rObj_Lstring (OA2.out.cell 6 _ E6.out) ?_); (case qqg252 => rfl); (case qqo252 => rfl); (case qqh252 => simp [Act.eval, Act.put]))
    | ((with_reducible refine wpList_load_row2 ?qqg253 219 ?qqx253 ?qqo253 w.heap.size 7 ?qqh253 y7 Try.rObj_laws_Value YZ7.out (OA2.out.range 7 _ E7.out) ?_); (case qqg253 => rfl); (case qqo253 => rfl); (case qqh253 => simp [Act.eval, Act.put]))
    | ((with_reducible refine wpList_load_row2 ?qqg254 219 ?qqx254 ?qqo254 w.heap.size 12 ?qqh254 y8 Try.rObj_laws_Value YZ8.out (OA2.out.range 12 _ E8.out) ?_); (case qqg254 => rfl); (case qqo254 => rfl); (case qqh254 => simp [Act.eval, Act.put]))
    )
  refine (HC3.out _ _ B2.out (by omega) (by omega)).mono ?_
  rintro e w3 ⟨rfl, hb3⟩
  have OA3 := uhide (OA2.out.below hb3)
  have B3 : Hid (Below w.heap.size w w3) := B2.out.trans (hb3.mono B2.out.size)
  clear hb3
  rw [show leftI y2q M3 = y3q from Y3q.out.symm]
  go_wp2
  go_ret
  exact ⟨ret_intU E.out.symm, B3.out⟩
set_option maxRecDepth 20000 in
set_option maxHeartbeats 800000 in
set_option maxRecDepth 20000 in
theorem uszObjS_any {lo hi : Nat} (n : Nat) (cs : UD) (c : Value) (left : Int) (w : World) (ht : tyS 17 n cs 8) (h0 : 0 ≤ left) (h1 : left ≤ 1048576) (hx : uS w lo hi 17 n cs c) :
    Calls Try.prog 85 #[c, .int .i64 left] w fun e w' => e = .returned (.int .i64 (leftI left (n + wt cs))) ∧ Below w.heap.size w w' := by
  obtain ⟨a, cap, rfl, hx2⟩ := hx
  have Hx : Hid (uS w lo hi 17 n cs (.slice a n cap)) := ⟨a, cap, rfl, hx2⟩
  have hmx := ht.2.2.1
  unfold maxLen at hmx
  have Ht := uhide ht
  clear hx2 ht
  by_cases c1 : left - (n : Int) < 0
  · have E : Hid (leftI left (n + wt cs) = -1) := by show _ = _; unfold leftI; rw [if_pos (by omega)]
    go_enter Try.func85, Try.ntmps85
    go_wp2
    go_ret
    exact ⟨ret_intU E.out.symm, Below.refl _ _⟩
  have E : Hid (leftI left (n + wt cs) = leftI (left - n) (wt (cs.dropN (0 * 17)))) := by
    show _ = _
    obtain ⟨g1, g2, g3⟩ := leftI_pos (x := left) (a := n) (wt cs) (by unfold leftI; split <;> omega)
    rw [g1, g2, Nat.zero_mul, UD.dropN_zero]
  go_enter Try.func85, Try.ntmps85
  go_wp2
  go_loopw [1, 5] (fun l i wr => ∃ (q : Nat) (x : Int), q ≤ n ∧ i = .int .i64 q ∧ l = .int .i64 x ∧ 0 ≤ x ∧ x ≤ 1048576 ∧ Hid (leftI left (n + wt cs) = leftI x (wt (cs.dropN (q * 17)))) ∧ Below w.heap.size w wr) (fun _ i _ => n - (intOf i).toNat)
  case atStart => exact ⟨0, _, Nat.zero_le _, rfl, rfl, by omega, by omega, E, Below.refl _ _⟩
  case round =>
    obtain ⟨q, x, hq, rfl, rfl, hx0, hx1, Hs, hbw⟩ := hrel
    by_cases hlt : q < n
    · obtain ⟨b, off, rfl, hbb, hm⟩ := (Hx.out.below hbw).cells (by omega)
      have htr := Ht.out.row hlt
      have hr := hm.row 17 q
      have hw : wt (cs.dropN (q * 17)) = wt (rowU cs 17 q) + wt (cs.dropN ((q + 1) * 17)) := by rw [UD.drop_row cs 17 q, wt_app]
      have hsz := uszD_row cs 17 q
      obtain ⟨xs, hh, hcl⟩ := hr.hand
      have Hcon : Hid (∀ wx, Below wr.heap.size wr wx → Calls Try.prog 159 #[.agg xs.toArray, .int .i64 x] wx fun e w' => e = .returned (.int .i64 (leftI x (wt (rowU cs 17 q)))) ∧ Below wx.heap.size wx w') := fun wx hb => uszObj_any (lo := lo) (hi := hi) _ _ x wx htr (hh.below hb) hx0 hx1
      have hxl : xs.length = 17 := by rw [hh.len, tyL.len htr]; rfl
      have lld := load_whole (P := Try.prog) (t := 221) (k := 17) (ad := ⟨b, off + q * 17, none⟩) (w := wr) Try.isAgg221 Try.sizeOf221 hxl (fun j v h => by rw [Go.WideShapes.add_plain]; exact hcl j v h)
      clear hcl hr hm htr hsz hh
      generalize xs.toArray = XS at *
      have LLD := uhide lld
      clear lld hxl
      generalize wt (rowU cs 17 q) = m at *
      have hneg0 := fun h => leftI_neg (x := x) (a := m) (wt (cs.dropN ((q + 1) * 17))) hx0 h
      have hpos0 := fun h => leftI_pos (x := x) (a := m) (wt (cs.dropN ((q + 1) * 17))) h
      have hle0 : leftI x m ≤ x := by unfold leftI; split <;> omega
      generalize leftI x m = y at *
      by_cases hneg : y < 0
      · have hr : Hid (leftI left (n + wt cs) = -1) := by show _ = _; rw [Hs.out, hw]; exact hneg0 hneg
        clear hw Hs E hneg0 hpos0
        go_wp2_with (with_reducible refine wpList_load_eq rfl 221 _ rfl ⟨b, off + q * 17, none⟩ (by simp [Act.eval]) (.agg XS) LLD.out ?_)
        refine (Hcon.out _ (by repeat (first | exact Below.refl _ _ | refine Below.alloc ?_ (by simp) _))).mono ?_
        rintro e w1 ⟨rfl, hb⟩
        go_wp2
        go_ret
        exact ⟨ret_intU hr.out.symm, hbw.trans (hb.mono hbw.size)⟩
      · have hr : Hid (leftI left (n + wt cs) = leftI y (wt (cs.dropN ((q + 1) * 17)))) := by
          show _ = _
          rw [Hs.out, hw]; exact (hpos0 hneg).1
        clear hw Hs E hneg0 hpos0
        go_wp2_with (with_reducible refine wpList_load_eq rfl 221 _ rfl ⟨b, off + q * 17, none⟩ (by simp [Act.eval]) (.agg XS) LLD.out ?_)
        refine (Hcon.out _ (by repeat (first | exact Below.refl _ _ | refine Below.alloc ?_ (by simp) _))).mono ?_
        rintro e w1 ⟨rfl, hb⟩
        go_wp2
        go_roundw
        case rel => exact ⟨q + 1, _, by omega, by go_num, rfl, by omega, by omega, hr, hbw.trans (hb.mono hbw.size)⟩
        case measure => simp [intOf]; omega
    · have e : q = n := by omega
      subst e
      have hr : Hid (leftI left (q + wt cs) = x) := by
        show _ = _
        rw [Hs.out, ← Ht.out.2.2.2.1, UD.dropN_all]
        exact leftI_zero hx0
      clear Hs E
      go_wp2
      go_ret
      exact ⟨ret_intU hr.out.symm, hbw⟩
end Go.Proofs.Ytdnodaoeflbfkaa

/- Data as cells: the helpers of the laws over Obj. -/
import Derived.Test.YtdnodaoeflbfkaaULeaf
import Derived.Test.YtdnodaoeflbfkaaULd
import Derived.Test.YtdnodaoeflbfkaaUFObj
import Derived.Test.YtdnodaoeflbfkaaUTValue
namespace Go.Proofs.Ytdnodaoeflbfkaa
open Go.RowKit Go.BigFrame
set_option linter.unusedVariables false
set_option linter.unusedSimpArgs false

set_option maxRecDepth 20000 in
set_option maxHeartbeats 1600000 in
theorem ueqObj_any {lo hi lo' hi' : Nat} (d : UD) (xs ys : List Value) (w : World) (ht : tyL d (uE 8)) (hx : uH w lo hi d xs) (hy : uH w lo' hi' d ys) :
    Calls Try.prog 170 #[.agg xs.toArray, .agg ys.toArray] w fun e w' => e = .returned (.bool true) ∧ Below w.heap.size w w' := by
  replace ht : tyL d [.i .i64, .s, .i .i64, .i .i64, .i .i64, .b, .l 1 0, .i .i64, .s, .i .i64, .l 1 0, .l 5 6, .i .i64, .s, .i .i64, .l 1 0, .l 5 6] := ht
  obtain ⟨z0, _, rfl, g0, h0⟩ := tyL.i ht
  obtain ⟨z1, _, rfl, g1, h1⟩ := tyL.s h0
  clear h0
  obtain ⟨z2, _, rfl, g2, h2⟩ := tyL.i h1
  clear h1
  obtain ⟨z3, _, rfl, g3, h3⟩ := tyL.i h2
  clear h2
  obtain ⟨z4, _, rfl, g4, h4⟩ := tyL.i h3
  clear h3
  obtain ⟨z5, _, rfl, h5⟩ := tyL.b h4
  clear h4
  obtain ⟨n6, c6, _, rfl, g6, h6⟩ := tyL.l h5
  clear h5
  obtain ⟨d7, _, rfl, g7, h7⟩ := tyL.split (f1 := uE 6) (f2 := [.i .i64, .s, .i .i64, .l 1 0, .l 5 6]) h6
  clear h6
  obtain ⟨d8, _, rfl, g8, h8⟩ := tyL.split (f1 := uE 6) (f2 := []) h7
  clear h7
  obtain rfl := tyL.nil h8
  clear h8
  obtain ⟨_, rfl, h0⟩ := hx
  obtain ⟨_, rfl, h1⟩ := h0
  obtain ⟨_, rfl, h2⟩ := h1
  obtain ⟨_, rfl, h3⟩ := h2
  obtain ⟨_, rfl, h4⟩ := h3
  obtain ⟨_, rfl, h5⟩ := h4
  obtain ⟨v6, _, rfl, s6, h6⟩ := h5
  obtain ⟨y7, _, rfl, l7, s7, h7⟩ := uH.split h6
  replace l7 : y7.length = 5 := l7.trans (tyL.len g7)
  clear h6
  obtain ⟨y8, _, rfl, l8, s8, h8⟩ := uH.split h7
  replace l8 : y8.length = 5 := l8.trans (tyL.len g8)
  clear h7
  obtain rfl := h8
  obtain ⟨_, rfl, h0r⟩ := hy
  obtain ⟨_, rfl, h1r⟩ := h0r
  obtain ⟨_, rfl, h2r⟩ := h1r
  obtain ⟨_, rfl, h3r⟩ := h2r
  obtain ⟨_, rfl, h4r⟩ := h3r
  obtain ⟨_, rfl, h5r⟩ := h4r
  obtain ⟨v6r, _, rfl, s6r, h6r⟩ := h5r
  obtain ⟨y7r, _, rfl, l7r, s7r, h7r⟩ := uH.split h6r
  replace l7r : y7r.length = 5 := l7r.trans (tyL.len g7)
  clear h6r
  obtain ⟨y8r, _, rfl, l8r, s8r, h8r⟩ := uH.split h7r
  replace l8r : y8r.length = 5 := l8r.trans (tyL.len g8)
  clear h7r
  obtain rfl := h8r
  have HC0 : Hid (∀ wx : World, Below w.heap.size w wx → Calls Try.prog 52 #[v6, v6r] wx fun e w' => e = .returned (.bool true) ∧ Below wx.heap.size wx w') := fun wx hb => ueqStringS_any (lo := lo) (hi := hi) (lo' := lo') (hi' := hi') n6 c6 _ _ wx g6 (s6.below hb) (s6r.below hb)
  have HC1 : Hid (∀ wx : World, Below w.heap.size w wx → Calls Try.prog 198 #[.agg y7.toArray, .agg y7r.toArray] wx fun e w' => e = .returned (.bool true) ∧ Below wx.heap.size wx w') := fun wx hb => ueqValue_any (lo := lo) (hi := hi) (lo' := lo') (hi' := hi') d7 _ _ wx g7 (s7.below hb) (s7r.below hb)
  have HC2 : Hid (∀ wx : World, Below w.heap.size w wx → Calls Try.prog 198 #[.agg y8.toArray, .agg y8r.toArray] wx fun e w' => e = .returned (.bool true) ∧ Below wx.heap.size wx w') := fun wx hb => ueqValue_any (lo := lo) (hi := hi) (lo' := lo') (hi' := hi') d8 _ _ wx g8 (s8.below hb) (s8r.below hb)
  have q0 : (z0 != z0) = false := by simp
  have q1 : (z1.toList == z1.toList) = true := by simp
  have q2 : (z2 != z2) = false := by simp
  have q3 : (z3 != z3) = false := by simp
  have q4 : (z4 != z4) = false := by simp
  have q5 : (z5 != z5) = false := by simp
  have HB : Hid (∀ o o', Below w.heap.size w ((w.alloc o).alloc o')) := fun o o' => ((Below.refl _ _).alloc (Nat.le_refl _) _).alloc (by simp) _
  obtain ⟨AX, hAX⟩ : ∃ AX : List Value, AX = (Value.int .i64 z0 :: (Value.string z1 :: (Value.int .i64 z2 :: (Value.int .i64 z3 :: (Value.int .i64 z4 :: (Value.bool z5 :: (v6 :: ((y7 ++ ((y8 ++ []))))))))))) := ⟨_, rfl⟩
  rw [← hAX]
  have hlen : AX.length = 17 := by rw [hAX]; simp [l7, l8]
  have e0 : AX[0]? = some (.int .i64 z0) := at_mid (i := 0) (pre := (([] : List Value))) (ys := [.int .i64 z0]) (post := (Value.string z1 :: (Value.int .i64 z2 :: (Value.int .i64 z3 :: (Value.int .i64 z4 :: (Value.bool z5 :: (v6 :: ((y7 ++ ((y8 ++ []))))))))))) (by rw [hAX]; simp) (by simp) rfl
  have e1 : AX[1]? = some (.string z1) := at_mid (i := 0) (pre := ([Value.int .i64 z0])) (ys := [.string z1]) (post := (Value.int .i64 z2 :: (Value.int .i64 z3 :: (Value.int .i64 z4 :: (Value.bool z5 :: (v6 :: ((y7 ++ ((y8 ++ [])))))))))) (by rw [hAX]; simp) (by simp) rfl
  have e2 : AX[2]? = some (.int .i64 z2) := at_mid (i := 0) (pre := ([Value.int .i64 z0, Value.string z1])) (ys := [.int .i64 z2]) (post := (Value.int .i64 z3 :: (Value.int .i64 z4 :: (Value.bool z5 :: (v6 :: ((y7 ++ ((y8 ++ []))))))))) (by rw [hAX]; simp) (by simp) rfl
  have e3 : AX[3]? = some (.int .i64 z3) := at_mid (i := 0) (pre := ([Value.int .i64 z0, Value.string z1, Value.int .i64 z2])) (ys := [.int .i64 z3]) (post := (Value.int .i64 z4 :: (Value.bool z5 :: (v6 :: ((y7 ++ ((y8 ++ [])))))))) (by rw [hAX]; simp) (by simp) rfl
  have e4 : AX[4]? = some (.int .i64 z4) := at_mid (i := 0) (pre := ([Value.int .i64 z0, Value.string z1, Value.int .i64 z2, Value.int .i64 z3])) (ys := [.int .i64 z4]) (post := (Value.bool z5 :: (v6 :: ((y7 ++ ((y8 ++ []))))))) (by rw [hAX]; simp) (by simp) rfl
  have e5 : AX[5]? = some (.bool z5) := at_mid (i := 0) (pre := ([Value.int .i64 z0, Value.string z1, Value.int .i64 z2, Value.int .i64 z3, Value.int .i64 z4])) (ys := [.bool z5]) (post := (v6 :: ((y7 ++ ((y8 ++ [])))))) (by rw [hAX]; simp) (by simp) rfl
  have e6 : AX[6]? = some (v6) := at_mid (i := 0) (pre := ([Value.int .i64 z0, Value.string z1, Value.int .i64 z2, Value.int .i64 z3, Value.int .i64 z4, Value.bool z5])) (ys := [v6]) (post := ((y7 ++ ((y8 ++ []))))) (by rw [hAX]; simp) (by simp) rfl
  have e7 : ∀ i v, y7[i]? = some v → AX[7 + i]? = some v := fun i v h => at_mid (pre := ([Value.int .i64 z0, Value.string z1, Value.int .i64 z2, Value.int .i64 z3, Value.int .i64 z4, Value.bool z5, v6])) (ys := y7) (post := ((y8 ++ []))) (by rw [hAX]; simp) (by simp) h
  have e8 : ∀ i v, y8[i]? = some v → AX[12 + i]? = some v := fun i v h => at_mid (pre := ([Value.int .i64 z0, Value.string z1, Value.int .i64 z2, Value.int .i64 z3, Value.int .i64 z4, Value.bool z5, v6] ++ y7)) (ys := y8) (post := []) (by rw [hAX]; simp) (by simp [l7]) h
  clear hAX
  have E0 := uhide e0
  clear e0
  have E1 := uhide e1
  clear e1
  have E2 := uhide e2
  clear e2
  have E3 := uhide e3
  clear e3
  have E4 := uhide e4
  clear e4
  have E5 := uhide e5
  clear e5
  have E6 := uhide e6
  clear e6
  have YZ7 : Hid ((Try.prog.info? 134).map (·.size) = some y7.length) := by show _ = _; rw [l7]; exact Try.zObj_impl_Value
  have E7 := uhide e7
  clear e7
  have YZ8 : Hid ((Try.prog.info? 134).map (·.size) = some y8.length) := by show _ = _; rw [l8]; exact Try.zObj_impl_Value
  have E8 := uhide e8
  clear e8
  obtain ⟨AY, hAY⟩ : ∃ AY : List Value, AY = (Value.int .i64 z0 :: (Value.string z1 :: (Value.int .i64 z2 :: (Value.int .i64 z3 :: (Value.int .i64 z4 :: (Value.bool z5 :: (v6r :: ((y7r ++ ((y8r ++ []))))))))))) := ⟨_, rfl⟩
  rw [← hAY]
  have hlenr : AY.length = 17 := by rw [hAY]; simp [l7r, l8r]
  have e0r : AY[0]? = some (.int .i64 z0) := at_mid (i := 0) (pre := (([] : List Value))) (ys := [.int .i64 z0]) (post := (Value.string z1 :: (Value.int .i64 z2 :: (Value.int .i64 z3 :: (Value.int .i64 z4 :: (Value.bool z5 :: (v6r :: ((y7r ++ ((y8r ++ []))))))))))) (by rw [hAY]; simp) (by simp) rfl
  have e1r : AY[1]? = some (.string z1) := at_mid (i := 0) (pre := ([Value.int .i64 z0])) (ys := [.string z1]) (post := (Value.int .i64 z2 :: (Value.int .i64 z3 :: (Value.int .i64 z4 :: (Value.bool z5 :: (v6r :: ((y7r ++ ((y8r ++ [])))))))))) (by rw [hAY]; simp) (by simp) rfl
  have e2r : AY[2]? = some (.int .i64 z2) := at_mid (i := 0) (pre := ([Value.int .i64 z0, Value.string z1])) (ys := [.int .i64 z2]) (post := (Value.int .i64 z3 :: (Value.int .i64 z4 :: (Value.bool z5 :: (v6r :: ((y7r ++ ((y8r ++ []))))))))) (by rw [hAY]; simp) (by simp) rfl
  have e3r : AY[3]? = some (.int .i64 z3) := at_mid (i := 0) (pre := ([Value.int .i64 z0, Value.string z1, Value.int .i64 z2])) (ys := [.int .i64 z3]) (post := (Value.int .i64 z4 :: (Value.bool z5 :: (v6r :: ((y7r ++ ((y8r ++ [])))))))) (by rw [hAY]; simp) (by simp) rfl
  have e4r : AY[4]? = some (.int .i64 z4) := at_mid (i := 0) (pre := ([Value.int .i64 z0, Value.string z1, Value.int .i64 z2, Value.int .i64 z3])) (ys := [.int .i64 z4]) (post := (Value.bool z5 :: (v6r :: ((y7r ++ ((y8r ++ []))))))) (by rw [hAY]; simp) (by simp) rfl
  have e5r : AY[5]? = some (.bool z5) := at_mid (i := 0) (pre := ([Value.int .i64 z0, Value.string z1, Value.int .i64 z2, Value.int .i64 z3, Value.int .i64 z4])) (ys := [.bool z5]) (post := (v6r :: ((y7r ++ ((y8r ++ [])))))) (by rw [hAY]; simp) (by simp) rfl
  have e6r : AY[6]? = some (v6r) := at_mid (i := 0) (pre := ([Value.int .i64 z0, Value.string z1, Value.int .i64 z2, Value.int .i64 z3, Value.int .i64 z4, Value.bool z5])) (ys := [v6r]) (post := ((y7r ++ ((y8r ++ []))))) (by rw [hAY]; simp) (by simp) rfl
  have e7r : ∀ i v, y7r[i]? = some v → AY[7 + i]? = some v := fun i v h => at_mid (pre := ([Value.int .i64 z0, Value.string z1, Value.int .i64 z2, Value.int .i64 z3, Value.int .i64 z4, Value.bool z5, v6r])) (ys := y7r) (post := ((y8r ++ []))) (by rw [hAY]; simp) (by simp) h
  have e8r : ∀ i v, y8r[i]? = some v → AY[12 + i]? = some v := fun i v h => at_mid (pre := ([Value.int .i64 z0, Value.string z1, Value.int .i64 z2, Value.int .i64 z3, Value.int .i64 z4, Value.bool z5, v6r] ++ y7r)) (ys := y8r) (post := []) (by rw [hAY]; simp) (by simp [l7r]) h
  clear hAY
  have Er0 := uhide e0r
  clear e0r
  have Er1 := uhide e1r
  clear e1r
  have Er2 := uhide e2r
  clear e2r
  have Er3 := uhide e3r
  clear e3r
  have Er4 := uhide e4r
  clear e4r
  have Er5 := uhide e5r
  clear e5r
  have Er6 := uhide e6r
  clear e6r
  have YrZ7 : Hid ((Try.prog.info? 134).map (·.size) = some y7r.length) := by show _ = _; rw [l7r]; exact Try.zObj_impl_Value
  clear l7 l7r
  have Er7 := uhide e7r
  clear e7r
  have YrZ8 : Hid ((Try.prog.info? 134).map (·.size) = some y8r.length) := by show _ = _; rw [l8r]; exact Try.zObj_impl_Value
  clear l8 l8r
  have Er8 := uhide e8r
  clear e8r
  have OA0 : Hid (objU ((w.alloc (.cells AX.toArray 136)).alloc (.cells AY.toArray 136)) w.heap.size 136 AX) := (objU.new2 _ _ rfl).old _
  have OB0 : Hid (objU ((w.alloc (.cells AX.toArray 136)).alloc (.cells AY.toArray 136)) (w.heap.size + 1) 136 AY) := objU.new2 _ _ (by simp)
  clear ht g0 g1 g2 g3 g4 g6 s6 s6r g7 s7 s7r g8 s8 s8r
  go_enter Try.func170, Try.ntmps170
  go_wp2_with (first
    | ((with_reducible refine wpList_load_one ?qqg145 3 ?qqx145 ?qqo145 w.heap.size 0 ?qqh145 (.int .i64 z0) Try.rObj_int (OA0.out.cell 0 _ E0.out) ?_); (case qqg145 => rfl); (case qqo145 => rfl); (case qqh145 => simp [Act.eval, Act.put]))
    | ((with_reducible refine wpList_load_one ?qqg146 9 ?qqx146 ?qqo146 w.heap.size 1 ?qqh146 (.string z1) Try.rObj_string (OA0.out.cell 1 _ E1.out) ?_); (case qqg146 => rfl); (case qqo146 => rfl); (case qqh146 => simp [Act.eval, Act.put]))
    | ((with_reducible refine wpList_load_one ?qqg147 3 ?qqx147 ?qqo147 w.heap.size 2 ?qqh147 (.int .i64 z2) Try.rObj_int (OA0.out.cell 2 _ E2.out) ?_); (case qqg147 => rfl); (case qqo147 => rfl); (case qqh147 => simp [Act.eval, Act.put]))
    | ((with_reducible refine wpList_load_one ?qqg148 3 ?qqx148 ?qqo148 w.heap.size 3 ?qqh148 (.int .i64 z3) Try.rObj_int (OA0.out.cell 3 _ E3.out) ?_); (case qqg148 => rfl); (case qqo148 => rfl); (case qqh148 => simp [Act.eval, Act.put]))
    | ((with_reducible refine wpList_load_one ?qqg149 3 ?qqx149 ?qqo149 w.heap.size 4 ?qqh149 (.int .i64 z4) Try.rObj_int (OA0.out.cell 4 _ E4.out) ?_); (case qqg149 => rfl); (case qqo149 => rfl); (case qqh149 => simp [Act.eval, Act.put]))
    | ((with_reducible refine wpList_load_one ?qqg150 4 ?qqx150 ?qqo150 w.heap.size 5 ?qqh150 (.bool z5) Try.rObj_bool (OA0.out.cell 5 _ E5.out) ?_); (case qqg150 => rfl); (case qqo150 => rfl); (case qqh150 => simp [Act.eval, Act.put]))
    | ((with_reducible refine wpList_load_one ?qqg151 25 ?qqx151 ?qqo151 w.heap.size 6 ?qqh151 (v6) Try.rObj_Lstring (OA0.out.cell 6 _ E6.out) ?_); (case qqg151 => rfl); (case qqo151 => rfl); (case qqh151 => simp [Act.eval, Act.put]))
    | ((with_reducible refine wpList_load_row2 ?qqg152 134 ?qqx152 ?qqo152 w.heap.size 7 ?qqh152 y7 Try.rObj_impl_Value YZ7.out (OA0.out.range 7 _ E7.out) ?_); (case qqg152 => rfl); (case qqo152 => rfl); (case qqh152 => simp [Act.eval, Act.put]))
    | ((with_reducible refine wpList_load_row2 ?qqg153 134 ?qqx153 ?qqo153 w.heap.size 12 ?qqh153 y8 Try.rObj_impl_Value YZ8.out (OA0.out.range 12 _ E8.out) ?_); (case qqg153 => rfl); (case qqo153 => rfl); (case qqh153 => simp [Act.eval, Act.put]))
    | ((with_reducible refine wpList_load_one ?qqg154 3 ?qqx154 ?qqo154 (w.heap.size + 1) 0 ?qqh154 (.int .i64 z0) Try.rObj_int (OB0.out.cell 0 _ Er0.out) ?_); (case qqg154 => rfl); (case qqo154 => rfl); (case qqh154 => simp [Act.eval, Act.put]))
    | ((with_reducible refine wpList_load_one ?qqg155 9 ?qqx155 ?qqo155 (w.heap.size + 1) 1 ?qqh155 (.string z1) Try.rObj_string (OB0.out.cell 1 _ Er1.out) ?_); (case qqg155 => rfl); (case qqo155 => rfl); (case qqh155 => simp [Act.eval, Act.put]))
    | ((with_reducible refine wpList_load_one ?qqg156 3 ?qqx156 ?qqo156 (w.heap.size + 1) 2 ?qqh156 (.int .i64 z2) Try.rObj_int (OB0.out.cell 2 _ Er2.out) ?_); (case qqg156 => rfl); (case qqo156 => rfl); (case qqh156 => simp [Act.eval, Act.put]))
    | ((with_reducible refine wpList_load_one ?qqg157 3 ?qqx157 ?qqo157 (w.heap.size + 1) 3 ?qqh157 (.int .i64 z3) Try.rObj_int (OB0.out.cell 3 _ Er3.out) ?_); (case qqg157 => rfl); (case qqo157 => rfl); (case qqh157 => simp [Act.eval, Act.put]))
    | ((with_reducible refine wpList_load_one ?qqg158 3 ?qqx158 ?qqo158 (w.heap.size + 1) 4 ?qqh158 (.int .i64 z4) Try.rObj_int (OB0.out.cell 4 _ Er4.out) ?_); (case qqg158 => rfl); (case qqo158 => rfl); (case qqh158 => simp [Act.eval, Act.put]))
    | ((with_reducible refine wpList_load_one ?qqg159 4 ?qqx159 ?qqo159 (w.heap.size + 1) 5 ?qqh159 (.bool z5) Try.rObj_bool (OB0.out.cell 5 _ Er5.out) ?_); (case qqg159 => rfl); (case qqo159 => rfl); (case qqh159 => simp [Act.eval, Act.put]))
    | ((with_reducible refine wpList_load_one ?qqg160 25 ?qqx160 ?qqo160 (w.heap.size + 1) 6 ?qqh160 (v6r) Try.rObj_Lstring (OB0.out.cell 6 _ Er6.out) ?_); (case qqg160 => rfl); (case qqo160 => rfl); (case qqh160 => simp [Act.eval, Act.put]))
    | ((with_reducible refine wpList_load_row2 ?qqg161 134 ?qqx161 ?qqo161 (w.heap.size + 1) 7 ?qqh161 y7r Try.rObj_impl_Value YrZ7.out (OB0.out.range 7 _ Er7.out) ?_); (case qqg161 => rfl); (case qqo161 => rfl); (case qqh161 => simp [Act.eval, Act.put]))
    | ((with_reducible refine wpList_load_row2 ?qqg162 134 ?qqx162 ?qqo162 (w.heap.size + 1) 12 ?qqh162 y8r Try.rObj_impl_Value YrZ8.out (OB0.out.range 12 _ Er8.out) ?_); (case qqg162 => rfl); (case qqo162 => rfl); (case qqh162 => simp [Act.eval, Act.put]))
    )
  refine (HC0.out _ (HB.out _ _)).mono ?_
  rintro e w1 ⟨rfl, hb1⟩
  have OA1 := uhide (OA0.out.below hb1)
  have OB1 := uhide (OB0.out.below hb1)
  have B1 : Hid (Below w.heap.size w w1) := (HB.out _ _).trans (hb1.mono (by simp; omega))
  clear hb1 OA0 OB0
  go_wp2_with (first
    | ((with_reducible refine wpList_load_one ?qqg171 3 ?qqx171 ?qqo171 w.heap.size 0 ?qqh171 (.int .i64 z0) Try.rObj_int (OA1.out.cell 0 _ E0.out) ?_); (case qqg171 => rfl); (case qqo171 => rfl); (case qqh171 => simp [Act.eval, Act.put]))
    | ((with_reducible refine wpList_load_one ?qqg172 9 ?qqx172 ?qqo172 w.heap.size 1 ?qqh172 (.string z1) Try.rObj_string (OA1.out.cell 1 _ E1.out) ?_); (case qqg172 => rfl); (case qqo172 => rfl); (case qqh172 => simp [Act.eval, Act.put]))
    | ((with_reducible refine wpList_load_one ?qqg173 3 ?qqx173 ?qqo173 w.heap.size 2 ?qqh173 (.int .i64 z2) Try.rObj_int (OA1.out.cell 2 _ E2.out) ?_); (case qqg173 => rfl); (case qqo173 => rfl); (case qqh173 => simp [Act.eval, Act.put]))
    | ((with_reducible refine wpList_load_one ?qqg174 3 ?qqx174 ?qqo174 w.heap.size 3 ?qqh174 (.int .i64 z3) Try.rObj_int (OA1.out.cell 3 _ E3.out) ?_); (case qqg174 => rfl); (case qqo174 => rfl); (case qqh174 => simp [Act.eval, Act.put]))
    | ((with_reducible refine wpList_load_one ?qqg175 3 ?qqx175 ?qqo175 w.heap.size 4 ?qqh175 (.int .i64 z4) Try.rObj_int (OA1.out.cell 4 _ E4.out) ?_); (case qqg175 => rfl); (case qqo175 => rfl); (case qqh175 => simp [Act.eval, Act.put]))
    | ((with_reducible refine wpList_load_one ?qqg176 4 ?qqx176 ?qqo176 w.heap.size 5 ?qqh176 (.bool z5) Try.rObj_bool (OA1.out.cell 5 _ E5.out) ?_); (case qqg176 => rfl); (case qqo176 => rfl); (case qqh176 => simp [Act.eval, Act.put]))
    | ((with_reducible refine wpList_load_one ?qqg177 25 ?qqx177 ?qqo177 w.heap.size 6 ?qqh177 (v6) Try.rObj_Lstring (OA1.out.cell 6 _ E6.out) ?_); (case qqg177 => rfl); (case qqo177 => rfl); (case qqh177 => simp [Act.eval, Act.put]))
    | ((with_reducible refine wpList_load_row2 ?qqg178 134 ?qqx178 ?qqo178 w.heap.size 7 ?qqh178 y7 Try.rObj_impl_Value YZ7.out (OA1.out.range 7 _ E7.out) ?_); (case qqg178 => rfl); (case qqo178 => rfl); (case qqh178 => simp [Act.eval, Act.put]))
    | ((with_reducible refine wpList_load_row2 ?qqg179 134 ?qqx179 ?qqo179 w.heap.size 12 ?qqh179 y8 Try.rObj_impl_Value YZ8.out (OA1.out.range 12 _ E8.out) ?_); (case qqg179 => rfl); (case qqo179 => rfl); (case qqh179 => simp [Act.eval, Act.put]))
    | ((with_reducible refine wpList_load_one ?qqg180 3 ?qqx180 ?qqo180 (w.heap.size + 1) 0 ?qqh180 (.int .i64 z0) Try.rObj_int (OB1.out.cell 0 _ Er0.out) ?_); (case qqg180 => rfl); (case qqo180 => rfl); (case qqh180 => simp [Act.eval, Act.put]))
    | ((with_reducible refine wpList_load_one ?qqg181 9 ?qqx181 ?qqo181 (w.heap.size + 1) 1 ?qqh181 (.string z1) Try.rObj_string (OB1.out.cell 1 _ Er1.out) ?_); (case qqg181 => rfl); (case qqo181 => rfl); (case qqh181 => simp [Act.eval, Act.put]))
    | ((with_reducible refine wpList_load_one ?qqg182 3 ?qqx182 ?qqo182 (w.heap.size + 1) 2 ?qqh182 (.int .i64 z2) Try.rObj_int (OB1.out.cell 2 _ Er2.out) ?_); (case qqg182 => rfl); (case qqo182 => rfl); (case qqh182 => simp [Act.eval, Act.put]))
    | ((with_reducible refine wpList_load_one ?qqg183 3 ?qqx183 ?qqo183 (w.heap.size + 1) 3 ?qqh183 (.int .i64 z3) Try.rObj_int (OB1.out.cell 3 _ Er3.out) ?_); (case qqg183 => rfl); (case qqo183 => rfl); (case qqh183 => simp [Act.eval, Act.put]))
    | ((with_reducible refine wpList_load_one ?qqg184 3 ?qqx184 ?qqo184 (w.heap.size + 1) 4 ?qqh184 (.int .i64 z4) Try.rObj_int (OB1.out.cell 4 _ Er4.out) ?_); (case qqg184 => rfl); (case qqo184 => rfl); (case qqh184 => simp [Act.eval, Act.put]))
    | ((with_reducible refine wpList_load_one ?qqg185 4 ?qqx185 ?qqo185 (w.heap.size + 1) 5 ?qqh185 (.bool z5) Try.rObj_bool (OB1.out.cell 5 _ Er5.out) ?_); (case qqg185 => rfl); (case qqo185 => rfl); (case qqh185 => simp [Act.eval, Act.put]))
    | ((with_reducible refine wpList_load_one ?qqg186 25 ?qqx186 ?qqo186 (w.heap.size + 1) 6 ?qqh186 (v6r) Try.rObj_Lstring (OB1.out.cell 6 _ Er6.out) ?_); (case qqg186 => rfl); (case qqo186 => rfl); (case qqh186 => simp [Act.eval, Act.put]))
    | ((with_reducible refine wpList_load_row2 ?qqg187 134 ?qqx187 ?qqo187 (w.heap.size + 1) 7 ?qqh187 y7r Try.rObj_impl_Value YrZ7.out (OB1.out.range 7 _ Er7.out) ?_); (case qqg187 => rfl); (case qqo187 => rfl); (case qqh187 => simp [Act.eval, Act.put]))
    | ((with_reducible refine wpList_load_row2 ?qqg188 134 ?qqx188 ?qqo188 (w.heap.size + 1) 12 ?qqh188 y8r Try.rObj_impl_Value YrZ8.out (OB1.out.range 12 _ Er8.out) ?_); (case qqg188 => rfl); (case qqo188 => rfl); (case qqh188 => simp [Act.eval, Act.put]))
    )
  refine (HC1.out _ B1.out).mono ?_
  rintro e w2 ⟨rfl, hb2⟩
  have OA2 := uhide (OA1.out.below hb2)
  have OB2 := uhide (OB1.out.below hb2)
  have B2 : Hid (Below w.heap.size w w2) := B1.out.trans (hb2.mono B1.out.size)
  clear hb2 OA1 OB1
  go_wp2_with (first
    | ((with_reducible refine wpList_load_one ?qqg197 3 ?qqx197 ?qqo197 w.heap.size 0 ?qqh197 (.int .i64 z0) Try.rObj_int (OA2.out.cell 0 _ E0.out) ?_); (case qqg197 => rfl); (case qqo197 => rfl); (case qqh197 => simp [Act.eval, Act.put]))
    | ((with_reducible refine wpList_load_one ?qqg198 9 ?qqx198 ?qqo198 w.heap.size 1 ?qqh198 (.string z1) Try.rObj_string (OA2.out.cell 1 _ E1.out) ?_); (case qqg198 => rfl); (case qqo198 => rfl); (case qqh198 => simp [Act.eval, Act.put]))
    | ((with_reducible refine wpList_load_one ?qqg199 3 ?qqx199 ?qqo199 w.heap.size 2 ?qqh199 (.int .i64 z2) Try.rObj_int (OA2.out.cell 2 _ E2.out) ?_); (case qqg199 => rfl); (case qqo199 => rfl); (case qqh199 => simp [Act.eval, Act.put]))
    | ((with_reducible refine wpList_load_one ?qqg200 3 ?qqx200 ?qqo200 w.heap.size 3 ?qqh200 (.int .i64 z3) Try.rObj_int (OA2.out.cell 3 _ E3.out) ?_); (case qqg200 => rfl); (case qqo200 => rfl); (case qqh200 => simp [Act.eval, Act.put]))
    | ((with_reducible refine wpList_load_one ?qqg201 3 ?qqx201 ?qqo201 w.heap.size 4 ?qqh201 (.int .i64 z4) Try.rObj_int (OA2.out.cell 4 _ E4.out) ?_); (case qqg201 => rfl); (case qqo201 => rfl); (case qqh201 => simp [Act.eval, Act.put]))
    | ((with_reducible refine wpList_load_one ?qqg202 4 ?qqx202 ?qqo202 w.heap.size 5 ?qqh202 (.bool z5) Try.rObj_bool (OA2.out.cell 5 _ E5.out) ?_); (case qqg202 => rfl); (case qqo202 => rfl); (case qqh202 => simp [Act.eval, Act.put]))
    | ((with_reducible refine wpList_load_one ?qqg203 25 ?qqx203 ?qqo203 w.heap.size 6 ?qqh203 (v6) Try.rObj_Lstring (OA2.out.cell 6 _ E6.out) ?_); (case qqg203 => rfl); (case qqo203 => rfl); (case qqh203 => simp [Act.eval, Act.put]))
    | ((with_reducible refine wpList_load_row2 ?qqg204 134 ?qqx204 ?qqo204 w.heap.size 7 ?qqh204 y7 Try.rObj_impl_Value YZ7.out (OA2.out.range 7 _ E7.out) ?_); (case qqg204 => rfl); (case qqo204 => rfl); (case qqh204 => simp [Act.eval, Act.put]))
    | ((with_reducible refine wpList_load_row2 ?qqg205 134 ?qqx205 ?qqo205 w.heap.size 12 ?qqh205 y8 Try.rObj_impl_Value YZ8.out (OA2.out.range 12 _ E8.out) ?_); (case qqg205 => rfl); (case qqo205 => rfl); (case qqh205 => simp [Act.eval, Act.put]))
    | ((with_reducible refine wpList_load_one ?qqg206 3 ?qqx206 ?qqo206 (w.heap.size + 1) 0 ?qqh206 (.int .i64 z0) Try.rObj_int (OB2.out.cell 0 _ Er0.out) ?_); (case qqg206 => rfl); (case qqo206 => rfl); (case qqh206 => simp [Act.eval, Act.put]))
    | ((with_reducible refine wpList_load_one ?qqg207 9 ?qqx207 ?qqo207 (w.heap.size + 1) 1 ?qqh207 (.string z1) Try.rObj_string (OB2.out.cell 1 _ Er1.out) ?_); (case qqg207 => rfl); (case qqo207 => rfl); (case qqh207 => simp [Act.eval, Act.put]))
    | ((with_reducible refine wpList_load_one ?qqg208 3 ?qqx208 ?qqo208 (w.heap.size + 1) 2 ?qqh208 (.int .i64 z2) Try.rObj_int (OB2.out.cell 2 _ Er2.out) ?_); (case qqg208 => rfl); (case qqo208 => rfl); (case qqh208 => simp [Act.eval, Act.put]))
    | ((with_reducible refine wpList_load_one ?qqg209 3 ?qqx209 ?qqo209 (w.heap.size + 1) 3 ?qqh209 (.int .i64 z3) Try.rObj_int (OB2.out.cell 3 _ Er3.out) ?_); (case qqg209 => rfl); (case qqo209 => rfl); (case qqh209 => simp [Act.eval, Act.put]))
    | ((with_reducible refine wpList_load_one ?qqg210 3 ?qqx210 ?qqo210 (w.heap.size + 1) 4 ?qqh210 (.int .i64 z4) Try.rObj_int (OB2.out.cell 4 _ Er4.out) ?_); (case qqg210 => rfl); (case qqo210 => rfl); (case qqh210 => simp [Act.eval, Act.put]))
    | ((with_reducible refine wpList_load_one ?qqg211 4 ?qqx211 ?qqo211 (w.heap.size + 1) 5 ?qqh211 (.bool z5) Try.rObj_bool (OB2.out.cell 5 _ Er5.out) ?_); (case qqg211 => rfl); (case qqo211 => rfl); (case qqh211 => simp [Act.eval, Act.put]))
    | ((with_reducible refine wpList_load_one ?qqg212 25 ?qqx212 ?qqo212 (w.heap.size + 1) 6 ?qqh212 (v6r) Try.rObj_Lstring (OB2.out.cell 6 _ Er6.out) ?_); (case qqg212 => rfl); (case qqo212 => rfl); (case qqh212 => simp [Act.eval, Act.put]))
    | ((with_reducible refine wpList_load_row2 ?qqg213 134 ?qqx213 ?qqo213 (w.heap.size + 1) 7 ?qqh213 y7r Try.rObj_impl_Value YrZ7.out (OB2.out.range 7 _ Er7.out) ?_); (case qqg213 => rfl); (case qqo213 => rfl); (case qqh213 => simp [Act.eval, Act.put]))
    | ((with_reducible refine wpList_load_row2 ?qqg214 134 ?qqx214 ?qqo214 (w.heap.size + 1) 12 ?qqh214 y8r Try.rObj_impl_Value YrZ8.out (OB2.out.range 12 _ Er8.out) ?_); (case qqg214 => rfl); (case qqo214 => rfl); (case qqh214 => simp [Act.eval, Act.put]))
    )
  refine (HC2.out _ B2.out).mono ?_
  rintro e w3 ⟨rfl, hb3⟩
  have OA3 := uhide (OA2.out.below hb3)
  have OB3 := uhide (OB2.out.below hb3)
  have B3 : Hid (Below w.heap.size w w3) := B2.out.trans (hb3.mono B2.out.size)
  clear hb3 OA2 OB2
  go_wp2
  go_ret
  exact ⟨rfl, B3.out⟩
set_option maxRecDepth 20000 in
set_option maxHeartbeats 1600000 in
theorem ueqObjS_any {lo hi lo' hi' : Nat} (n : Nat) (cs : UD) (c c' : Value) (w : World) (ht : tyS 17 n cs 8) (hx : uS w lo hi 17 n cs c) (hy : uS w lo' hi' 17 n cs c') :
    Calls Try.prog 94 #[c, c'] w fun e w' => e = .returned (.bool true) ∧ Below w.heap.size w w' := by
  obtain ⟨a, cap, rfl, hx2⟩ := hx
  obtain ⟨a', cap', rfl, hy2⟩ := hy
  have Hx : Hid (uS w lo hi 17 n cs (.slice a n cap)) := ⟨a, cap, rfl, hx2⟩
  have Hy : Hid (uS w lo' hi' 17 n cs (.slice a' n cap')) := ⟨a', cap', rfl, hy2⟩
  have hmx := ht.2.2.1
  unfold maxLen at hmx
  have Ht := uhide ht
  have hb0 : ((n : Int) != (n : Int)) = false := by simp
  clear hx2 hy2 ht
  go_enter Try.func94, Try.ntmps94
  go_wp2
  go_loopw [5] (fun i wr => ∃ (q : Nat), q ≤ n ∧ i = .int .i64 q ∧ Hid (Below w.heap.size w wr)) (fun i _ => n - (intOf i).toNat)
  case atStart => exact ⟨0, Nat.zero_le _, rfl, Below.refl _ _⟩
  case round =>
    obtain ⟨q, hq, rfl, hbw⟩ := hrel
    by_cases hlt : q < n
    · obtain ⟨b, off, rfl, hbb, hm⟩ := (Hx.out.below hbw.out).cells (by omega)
      obtain ⟨b', off', rfl, hbb', hm'⟩ := (Hy.out.below hbw.out).cells (by omega)
      have htr := Ht.out.row hlt
      obtain ⟨xs, hh, hcl⟩ := (hm.row 17 q).hand
      obtain ⟨ys, hh', hcl'⟩ := (hm'.row 17 q).hand
      have hi1 : (Try.prog.info? 136).map (·.size) = some xs.length := by rw [hh.len, tyL.len htr]; exact Try.zObj_impl_Obj
      have hi2 : (Try.prog.info? 136).map (·.size) = some ys.length := by rw [hh'.len, tyL.len htr]; exact Try.zObj_impl_Obj
      have Hcon : Hid (∀ wx, Below wr.heap.size wr wx → Calls Try.prog 170 #[.agg xs.toArray, .agg ys.toArray] wx fun e w' => e = .returned (.bool true) ∧ Hid (Below wr.heap.size wr w')) := fun wx hb => (ueqObj_any (lo := lo) (hi := hi) (lo' := lo') (hi' := hi') _ _ _ wx htr (hh.below hb) (hh'.below hb)).mono fun e w' h => ⟨h.1, hb.trans (h.2.mono hb.size)⟩
      have r1 : wr.rangeAt b (off + q * 17) xs := hcl
      have r2 : wr.rangeAt b' (off' + q * 17) ys := hcl'
      have R1 := uhide r1
      have R2 := uhide r2
      clear hcl hcl' hm hm' htr hh hh' Hx Hy Ht
      go_wp2
      refine wp_region_held_drew (S := fun w' => w'.rangeAt b (off + q * 17) xs ∧ w'.rangeAt b' (off' + q * 17) ys) (by kernel_rfl) ⟨(World.rangeAt_drew _ _ _ _).2 R1.out, (World.rangeAt_drew _ _ _ _).2 R2.out⟩ (fun hHeld => ?_)
      refine wpAnyH_take (i := 0) (oi := ⟨some 17, .move (.tmp 0), _, _, _, _⟩) (v := .slice (some ⟨b, off, none⟩) n cap) rfl (by kernel_rfl) (by kernel_rfl) (by kernel_rfl) (fun _ _ _ h => h) (Or.inl ⟨by rfl, by intro w hSw; go_simp⟩) hHeld ?_
      simp only [Act.put, List.setIfInBounds_toArray, List.set_cons_zero, List.set_cons_succ]
      refine wpAnyH_take (i := 1) (oi := ⟨some 18, .move (.tmp 5), _, _, _, _⟩) (v := .int .i64 q) rfl (by kernel_rfl) (by kernel_rfl) (by kernel_rfl) (fun _ _ _ h => h) (Or.inl ⟨by rfl, by intro w hSw; go_simp⟩) hHeld ?_
      simp only [Act.put, List.setIfInBounds_toArray, List.set_cons_zero, List.set_cons_succ]
      refine wpAnyH_take (i := 2) (oi := ⟨some 19, .indexAddr 64 (.tmp 17) (.tmp 18), _, _, _, _⟩) (v := .pointer (some ⟨b, off + q * 17, none⟩)) rfl (by kernel_rfl) (by kernel_rfl) (by kernel_rfl) (fun _ _ _ h => h) (Or.inl ⟨by rfl, by intro w hSw; go_simp⟩) hHeld ?_
      simp only [Act.put, List.setIfInBounds_toArray, List.set_cons_zero, List.set_cons_succ]
      refine wpAnyH_take (i := 3) (oi := ⟨some 20, .load 136 (.tmp 19), _, _, _, _⟩) (v := .agg xs.toArray) rfl (by kernel_rfl) (by kernel_rfl) (by kernel_rfl) (fun _ _ _ h => h) (yieldsIf_load_row (by rfl) 136 _ rfl b (off + q * 17) rfl xs (fun w hS => hS.1) Try.rObj_impl_Obj hi1) hHeld ?_
      simp only [Act.put, List.setIfInBounds_toArray, List.set_cons_zero, List.set_cons_succ]
      refine wpAnyH_take (i := 4) (oi := ⟨some 21, .move (.tmp 1), _, _, _, _⟩) (v := .slice (some ⟨b', off', none⟩) n cap') rfl (by kernel_rfl) (by kernel_rfl) (by kernel_rfl) (fun _ _ _ h => h) (Or.inl ⟨by rfl, by intro w hSw; go_simp⟩) hHeld ?_
      simp only [Act.put, List.setIfInBounds_toArray, List.set_cons_zero, List.set_cons_succ]
      refine wpAnyH_take (i := 5) (oi := ⟨some 22, .move (.tmp 5), _, _, _, _⟩) (v := .int .i64 q) rfl (by kernel_rfl) (by kernel_rfl) (by kernel_rfl) (fun _ _ _ h => h) (Or.inl ⟨by rfl, by intro w hSw; go_simp⟩) hHeld ?_
      simp only [Act.put, List.setIfInBounds_toArray, List.set_cons_zero, List.set_cons_succ]
      refine wpAnyH_take (i := 6) (oi := ⟨some 23, .indexAddr 64 (.tmp 21) (.tmp 22), _, _, _, _⟩) (v := .pointer (some ⟨b', off' + q * 17, none⟩)) rfl (by kernel_rfl) (by kernel_rfl) (by kernel_rfl) (fun _ _ _ h => h) (Or.inl ⟨by rfl, by intro w hSw; go_simp⟩) hHeld ?_
      simp only [Act.put, List.setIfInBounds_toArray, List.set_cons_zero, List.set_cons_succ]
      refine wpAnyH_take (i := 7) (oi := ⟨some 24, .load 136 (.tmp 23), _, _, _, _⟩) (v := .agg ys.toArray) rfl (by kernel_rfl) (by kernel_rfl) (by kernel_rfl) (fun _ _ _ h => h) (yieldsIf_load_row (by rfl) 136 _ rfl b' (off' + q * 17) rfl ys (fun w hS => hS.2) Try.rObj_impl_Obj hi2) hHeld ?_
      simp only [Act.put, List.setIfInBounds_toArray, List.set_cons_zero, List.set_cons_succ]
      refine wpAnyH_ready (rs := [8]) (by kernel_rfl) (by simp) (AllReadyH.cons (o := ⟨some 25, .call { callee := .value (.func 170), args := #[.tmp 20, .tmp 24], argTypes := #[136, 136] }, _, _, _, _⟩) rfl (fun K hK => ?_) AllReadyH.nil)
      refine step_call_of rfl 170 #[.tmp 20, .tmp 24] #[136, 136] rfl (callFunc_enter Try.func170 (by kernel_rfl) (by kernel_rfl)) #[.agg xs.toArray, .agg ys.toArray] (by simp [Act.eval]) (Hcon.out _ (Below.drew (Below.refl _ _))) ?_
      rintro e w2 ⟨rfl, hb2⟩
      refine ⟨.bool true, rfl, hK.out _ _ ⟨range_below R1.out hb2.out, range_below R2.out hb2.out⟩ (fun hHeld => ?_)⟩
      clear hK K
      simp only [Act.put, List.setIfInBounds_toArray, List.set_cons_zero, List.set_cons_succ]
      refine wpAnyH_take (i := 9) (oi := ⟨some 26, .unOp .not 4 (.tmp 25), _, _, _, _⟩) (v := .bool false) rfl (by kernel_rfl) (by kernel_rfl) (by kernel_rfl) (fun _ _ _ h => h) (Or.inl ⟨by rfl, by intro w hSw; go_simp⟩) hHeld ?_
      simp only [Act.put, List.setIfInBounds_toArray, List.set_cons_zero, List.set_cons_succ]
      refine wpAnyH_done (by kernel_rfl) ?_ _
      clear hHeld
      go_wp2
      go_roundw
      case rel => exact ⟨q + 1, by omega, by go_num, hbw.out.trans (hb2.out.mono hbw.out.size)⟩
      case measure => simp [intOf]; omega
    · have e : q = n := by omega
      subst e
      go_wp2
      go_ret
      exact ⟨rfl, hbw.out⟩
end Go.Proofs.Ytdnodaoeflbfkaa

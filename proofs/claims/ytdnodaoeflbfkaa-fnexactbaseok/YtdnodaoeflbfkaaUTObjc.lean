/- Data as cells: the helpers of the laws over Obj. -/
import Derived.Test.YtdnodaoeflbfkaaULeaf
import Derived.Test.YtdnodaoeflbfkaaULd
import Derived.Test.YtdnodaoeflbfkaaUFObj
import Derived.Test.YtdnodaoeflbfkaaUTValue
namespace Go.Proofs.Ytdnodaoeflbfkaa
open Go.RowKit Go.BigFrame
set_option linter.unusedVariables false
set_option linter.unusedSimpArgs false

set_option maxRecDepth 20000 in
set_option maxHeartbeats 3200000 in
theorem utoObj_any {lo hi : Nat} (d : UD) (xs : List Value) (w : World) (ht : tyL d (uE 8)) (hn : wt d ≤ 1048576) (hx : uH w lo hi d xs) :
    Calls Try.prog 164 #[.agg xs.toArray] w fun e w' => ∃ ys S, e = .returned (.agg ys.toArray) ∧ oH w' d ys S ∧ S.Nodup ∧ (∀ s ∈ S, w.heap.size ≤ s) ∧ Below w.heap.size w w' := by
  have hty := ht
  replace ht : tyL d [.i .i64, .s, .i .i64, .i .i64, .i .i64, .b, .l 1 0, .i .i64, .s, .i .i64, .l 1 0, .l 5 6, .i .i64, .s, .i .i64, .l 1 0, .l 5 6] := ht
  obtain ⟨z0, _, rfl, g0, h0⟩ := tyL.i ht
  obtain ⟨z1, _, rfl, g1, h1⟩ := tyL.s h0
  clear h0
  obtain ⟨z2, _, rfl, g2, h2⟩ := tyL.i h1
  clear h1
  obtain ⟨z3, _, rfl, g3, h3⟩ := tyL.i h2
  clear h2
  obtain ⟨z4, _, rfl, g4, h4⟩ := tyL.i h3
  clear h3
  obtain ⟨z5, _, rfl, h5⟩ := tyL.b h4
  clear h4
  obtain ⟨n6, c6, _, rfl, g6, h6⟩ := tyL.l h5
  clear h5
  obtain ⟨d7, _, rfl, g7, h7⟩ := tyL.split (f1 := uE 6) (f2 := [.i .i64, .s, .i .i64, .l 1 0, .l 5 6]) h6
  clear h6
  obtain ⟨d8, _, rfl, g8, h8⟩ := tyL.split (f1 := uE 6) (f2 := []) h7
  clear h7
  obtain rfl := tyL.nil h8
  clear h8
  obtain ⟨_, rfl, h0⟩ := hx
  obtain ⟨_, rfl, h1⟩ := h0
  obtain ⟨_, rfl, h2⟩ := h1
  obtain ⟨_, rfl, h3⟩ := h2
  obtain ⟨_, rfl, h4⟩ := h3
  obtain ⟨_, rfl, h5⟩ := h4
  obtain ⟨v6, _, rfl, s6, h6⟩ := h5
  obtain ⟨y7, _, rfl, l7, s7, h7⟩ := uH.split h6
  replace l7 : y7.length = 5 := l7.trans (tyL.len g7)
  clear h6
  obtain ⟨y8, _, rfl, l8, s8, h8⟩ := uH.split h7
  replace l8 : y8.length = 5 := l8.trans (tyL.len g8)
  clear h7
  obtain rfl := h8
  simp only [wt, wtP, wt_app] at hn
  generalize hD : (UD.p (.int .i64 z0) (UD.p (.string z1) (UD.p (.int .i64 z2) (UD.p (.int .i64 z3) (UD.p (.int .i64 z4) (UD.p (.bool z5) (UD.l 1 n6 c6 (UD.app d7 (UD.app d8 UD.nil))))))))) = D at hty ⊢
  have HD := uhide hD
  clear hD
  have HC6 : Hid (∀ wx : World, Below w.heap.size w wx → Calls Try.prog 69 #[v6] wx fun e w' => ∃ a p T, e = .returned (.slice a n6 p) ∧ Hid (oS w' 1 n6 c6 (.slice a n6 p) T) ∧ Hid (own2 T wx.heap.size w'.heap.size) ∧ Below wx.heap.size wx w') := fun wx hb => (utoStringS_any (lo := lo) (hi := hi) n6 c6 _ wx g6 (by omega) (s6.below hb)).mono fun e w' ⟨c', T, h1, h2, h3, h4, h5⟩ => by
    obtain ⟨a, p, rfl⟩ := h2.slice
    exact ⟨a, p, T, h1, h2, ⟨h3, fun s hs => ⟨h4 s hs, h2.lt s hs⟩⟩, h5⟩
  have HC7 : Hid (∀ wx : World, Below w.heap.size w wx → Calls Try.prog 208 #[.agg y7.toArray] wx fun e w' => ∃ ys T, e = .returned (.agg ys.toArray) ∧ ys.length = 5 ∧ Hid (oH w' d7 ys T) ∧ Hid (own2 T wx.heap.size w'.heap.size) ∧ Hid (∀ u ∈ ys, u.oneCell' = true) ∧ Below wx.heap.size wx w') := fun wx hb => (utoValue_any (lo := lo) (hi := hi) d7 _ wx g7 (by omega) (s7.below hb)).mono fun e w' ⟨ys, T, h1, h2, h3, h4, h5⟩ => ⟨ys, T, h1, h2.len.trans (tyL.len g7), h2, ⟨h3, fun s hs => ⟨h4 s hs, h2.lt _ _ _ s hs⟩⟩, ones_own g7 h2, h5⟩
  have HC8 : Hid (∀ wx : World, Below w.heap.size w wx → Calls Try.prog 208 #[.agg y8.toArray] wx fun e w' => ∃ ys T, e = .returned (.agg ys.toArray) ∧ ys.length = 5 ∧ Hid (oH w' d8 ys T) ∧ Hid (own2 T wx.heap.size w'.heap.size) ∧ Hid (∀ u ∈ ys, u.oneCell' = true) ∧ Below wx.heap.size wx w') := fun wx hb => (utoValue_any (lo := lo) (hi := hi) d8 _ wx g8 (by omega) (s8.below hb)).mono fun e w' ⟨ys, T, h1, h2, h3, h4, h5⟩ => ⟨ys, T, h1, h2.len.trans (tyL.len g8), h2, ⟨h3, fun s hs => ⟨h4 s hs, h2.lt _ _ _ s hs⟩⟩, ones_own g8 h2, h5⟩
  obtain ⟨AX, hAX⟩ : ∃ AX : List Value, AX = (Value.int .i64 z0 :: (Value.string z1 :: (Value.int .i64 z2 :: (Value.int .i64 z3 :: (Value.int .i64 z4 :: (Value.bool z5 :: (v6 :: ((y7 ++ ((y8 ++ []))))))))))) := ⟨_, rfl⟩
  rw [← hAX]
  have hlen : AX.length = 17 := by rw [hAX]; simp [l7, l8]
  have e0 : AX[0]? = some (.int .i64 z0) := at_mid (i := 0) (pre := (([] : List Value))) (ys := [.int .i64 z0]) (post := (Value.string z1 :: (Value.int .i64 z2 :: (Value.int .i64 z3 :: (Value.int .i64 z4 :: (Value.bool z5 :: (v6 :: ((y7 ++ ((y8 ++ []))))))))))) (by rw [hAX]; simp) (by simp) rfl
  have e1 : AX[1]? = some (.string z1) := at_mid (i := 0) (pre := ([Value.int .i64 z0])) (ys := [.string z1]) (post := (Value.int .i64 z2 :: (Value.int .i64 z3 :: (Value.int .i64 z4 :: (Value.bool z5 :: (v6 :: ((y7 ++ ((y8 ++ [])))))))))) (by rw [hAX]; simp) (by simp) rfl
  have e2 : AX[2]? = some (.int .i64 z2) := at_mid (i := 0) (pre := ([Value.int .i64 z0, Value.string z1])) (ys := [.int .i64 z2]) (post := (Value.int .i64 z3 :: (Value.int .i64 z4 :: (Value.bool z5 :: (v6 :: ((y7 ++ ((y8 ++ []))))))))) (by rw [hAX]; simp) (by simp) rfl
  have e3 : AX[3]? = some (.int .i64 z3) := at_mid (i := 0) (pre := ([Value.int .i64 z0, Value.string z1, Value.int .i64 z2])) (ys := [.int .i64 z3]) (post := (Value.int .i64 z4 :: (Value.bool z5 :: (v6 :: ((y7 ++ ((y8 ++ [])))))))) (by rw [hAX]; simp) (by simp) rfl
  have e4 : AX[4]? = some (.int .i64 z4) := at_mid (i := 0) (pre := ([Value.int .i64 z0, Value.string z1, Value.int .i64 z2, Value.int .i64 z3])) (ys := [.int .i64 z4]) (post := (Value.bool z5 :: (v6 :: ((y7 ++ ((y8 ++ []))))))) (by rw [hAX]; simp) (by simp) rfl
  have e5 : AX[5]? = some (.bool z5) := at_mid (i := 0) (pre := ([Value.int .i64 z0, Value.string z1, Value.int .i64 z2, Value.int .i64 z3, Value.int .i64 z4])) (ys := [.bool z5]) (post := (v6 :: ((y7 ++ ((y8 ++ [])))))) (by rw [hAX]; simp) (by simp) rfl
  have e6 : AX[6]? = some (v6) := at_mid (i := 0) (pre := ([Value.int .i64 z0, Value.string z1, Value.int .i64 z2, Value.int .i64 z3, Value.int .i64 z4, Value.bool z5])) (ys := [v6]) (post := ((y7 ++ ((y8 ++ []))))) (by rw [hAX]; simp) (by simp) rfl
  have e7 : ∀ i v, y7[i]? = some v → AX[7 + i]? = some v := fun i v h => at_mid (pre := ([Value.int .i64 z0, Value.string z1, Value.int .i64 z2, Value.int .i64 z3, Value.int .i64 z4, Value.bool z5, v6])) (ys := y7) (post := ((y8 ++ []))) (by rw [hAX]; simp) (by simp) h
  have e8 : ∀ i v, y8[i]? = some v → AX[12 + i]? = some v := fun i v h => at_mid (pre := ([Value.int .i64 z0, Value.string z1, Value.int .i64 z2, Value.int .i64 z3, Value.int .i64 z4, Value.bool z5, v6] ++ y7)) (ys := y8) (post := []) (by rw [hAX]; simp) (by simp [l7]) h
  clear hAX
  have HTY := uhide hty
  clear hty
  clear hn g0 g1 g2 g3 g4 g6 s6 g7 s7 g8 s8
  have E0 := uhide e0
  have E1 := uhide e1
  have E2 := uhide e2
  have E3 := uhide e3
  have E4 := uhide e4
  have E5 := uhide e5
  have E6 := uhide e6
  have E7 := uhide e7
  have E8 := uhide e8
  clear e0 e1 e2 e3 e4 e5 e6 e7 e8
  have BZ0 : Hid (0 + 1 ≤ ([.int .i64 0, .string ⟨#[]⟩, .int .i64 0, .int .i64 0, .int .i64 0, .bool false, .slice none 0 0, .int .i64 0, .string ⟨#[]⟩, .int .i64 0, .slice none 0 0, .slice none 0 0, .int .i64 0, .string ⟨#[]⟩, .int .i64 0, .slice none 0 0, .slice none 0 0] : List Value).length) := by show _ ≤ _; decide
  have BZ1 : Hid (1 + 1 ≤ ([.int .i64 0, .string ⟨#[]⟩, .int .i64 0, .int .i64 0, .int .i64 0, .bool false, .slice none 0 0, .int .i64 0, .string ⟨#[]⟩, .int .i64 0, .slice none 0 0, .slice none 0 0, .int .i64 0, .string ⟨#[]⟩, .int .i64 0, .slice none 0 0, .slice none 0 0] : List Value).length) := by show _ ≤ _; decide
  have BZ2 : Hid (2 + 1 ≤ ([.int .i64 0, .string ⟨#[]⟩, .int .i64 0, .int .i64 0, .int .i64 0, .bool false, .slice none 0 0, .int .i64 0, .string ⟨#[]⟩, .int .i64 0, .slice none 0 0, .slice none 0 0, .int .i64 0, .string ⟨#[]⟩, .int .i64 0, .slice none 0 0, .slice none 0 0] : List Value).length) := by show _ ≤ _; decide
  have BZ3 : Hid (3 + 1 ≤ ([.int .i64 0, .string ⟨#[]⟩, .int .i64 0, .int .i64 0, .int .i64 0, .bool false, .slice none 0 0, .int .i64 0, .string ⟨#[]⟩, .int .i64 0, .slice none 0 0, .slice none 0 0, .int .i64 0, .string ⟨#[]⟩, .int .i64 0, .slice none 0 0, .slice none 0 0] : List Value).length) := by show _ ≤ _; decide
  have BZ4 : Hid (4 + 1 ≤ ([.int .i64 0, .string ⟨#[]⟩, .int .i64 0, .int .i64 0, .int .i64 0, .bool false, .slice none 0 0, .int .i64 0, .string ⟨#[]⟩, .int .i64 0, .slice none 0 0, .slice none 0 0, .int .i64 0, .string ⟨#[]⟩, .int .i64 0, .slice none 0 0, .slice none 0 0] : List Value).length) := by show _ ≤ _; decide
  have BZ5 : Hid (5 + 1 ≤ ([.int .i64 0, .string ⟨#[]⟩, .int .i64 0, .int .i64 0, .int .i64 0, .bool false, .slice none 0 0, .int .i64 0, .string ⟨#[]⟩, .int .i64 0, .slice none 0 0, .slice none 0 0, .int .i64 0, .string ⟨#[]⟩, .int .i64 0, .slice none 0 0, .slice none 0 0] : List Value).length) := by show _ ≤ _; decide
  have BZ6 : Hid (6 + 1 ≤ ([.int .i64 0, .string ⟨#[]⟩, .int .i64 0, .int .i64 0, .int .i64 0, .bool false, .slice none 0 0, .int .i64 0, .string ⟨#[]⟩, .int .i64 0, .slice none 0 0, .slice none 0 0, .int .i64 0, .string ⟨#[]⟩, .int .i64 0, .slice none 0 0, .slice none 0 0] : List Value).length) := by show _ ≤ _; decide
  have BZ7 : Hid (7 + 5 ≤ ([.int .i64 0, .string ⟨#[]⟩, .int .i64 0, .int .i64 0, .int .i64 0, .bool false, .slice none 0 0, .int .i64 0, .string ⟨#[]⟩, .int .i64 0, .slice none 0 0, .slice none 0 0, .int .i64 0, .string ⟨#[]⟩, .int .i64 0, .slice none 0 0, .slice none 0 0] : List Value).length) := by show _ ≤ _; decide
  have BZ8 : Hid (12 + 5 ≤ ([.int .i64 0, .string ⟨#[]⟩, .int .i64 0, .int .i64 0, .int .i64 0, .bool false, .slice none 0 0, .int .i64 0, .string ⟨#[]⟩, .int .i64 0, .slice none 0 0, .slice none 0 0, .int .i64 0, .string ⟨#[]⟩, .int .i64 0, .slice none 0 0, .slice none 0 0] : List Value).length) := by show _ ≤ _; decide
  have YZ7 : Hid ((Try.prog.info? 219).map (·.size) = some y7.length) := by show _ = _; rw [l7]; exact Try.zObj_laws_Value
  clear l7
  have YZ8 : Hid ((Try.prog.info? 219).map (·.size) = some y8.length) := by show _ = _; rw [l8]; exact Try.zObj_laws_Value
  clear l8
  have C := uhide (CP.start (w := w) (TA := 221) (TO := 136) (AX := AX) (Z := [.int .i64 0, .string ⟨#[]⟩, .int .i64 0, .int .i64 0, .int .i64 0, .bool false, .slice none 0 0, .int .i64 0, .string ⟨#[]⟩, .int .i64 0, .slice none 0 0, .slice none 0 0, .int .i64 0, .string ⟨#[]⟩, .int .i64 0, .slice none 0 0, .slice none 0 0]))
  go_enter Try.func164, Try.ntmps164
  go_wp2_with (first
    | ((with_reducible refine wpList_load_one ?qqg100 3 ?qqx100 ?qqo100 w.heap.size 0 ?qqh100 (.int .i64 z0) Try.rObj_int (C.out.cell E0.out) ?_); (case qqg100 => rfl); (case qqo100 => rfl); (case qqh100 => simp [Act.eval, Act.put]))
    | ((with_reducible refine wpList_store_v ?qqg101 3 ?qqx101 ?qqy101 ?qqo101 ?qqd101 (w.heap.size + 1 + 1) 0 ?qqh101 (.int .i64 z0) ?qqv101 one_int Try.zObj_int (C.out.there 1 BZ0.out) ?_); (case qqg101 => rfl); (case qqo101 => rfl); (case qqd101 => rfl); (case qqh101 => simp [Act.eval, Act.put]); (case qqv101 => simp [Act.eval, Act.put]); intro wy ey; replace C := uhide (C.out.plain ey (j' := 1) rfl (by decide)); clear ey)
    | ((with_reducible refine wpList_load_one ?qqg102 9 ?qqx102 ?qqo102 w.heap.size 1 ?qqh102 (.string z1) Try.rObj_string (C.out.cell E1.out) ?_); (case qqg102 => rfl); (case qqo102 => rfl); (case qqh102 => simp [Act.eval, Act.put]))
    | ((with_reducible refine wpList_store_v ?qqg103 9 ?qqx103 ?qqy103 ?qqo103 ?qqd103 (w.heap.size + 1 + 1) 1 ?qqh103 (.string z1) ?qqv103 one_string Try.zObj_string (C.out.there 1 BZ1.out) ?_); (case qqg103 => rfl); (case qqo103 => rfl); (case qqd103 => rfl); (case qqh103 => simp [Act.eval, Act.put]); (case qqv103 => simp [Act.eval, Act.put]); intro wy ey; replace C := uhide (C.out.plain ey (j' := 2) rfl (by decide)); clear ey)
    | ((with_reducible refine wpList_load_one ?qqg104 3 ?qqx104 ?qqo104 w.heap.size 2 ?qqh104 (.int .i64 z2) Try.rObj_int (C.out.cell E2.out) ?_); (case qqg104 => rfl); (case qqo104 => rfl); (case qqh104 => simp [Act.eval, Act.put]))
    | ((with_reducible refine wpList_store_v ?qqg105 3 ?qqx105 ?qqy105 ?qqo105 ?qqd105 (w.heap.size + 1 + 1) 2 ?qqh105 (.int .i64 z2) ?qqv105 one_int Try.zObj_int (C.out.there 1 BZ2.out) ?_); (case qqg105 => rfl); (case qqo105 => rfl); (case qqd105 => rfl); (case qqh105 => simp [Act.eval, Act.put]); (case qqv105 => simp [Act.eval, Act.put]); intro wy ey; replace C := uhide (C.out.plain ey (j' := 3) rfl (by decide)); clear ey)
    | ((with_reducible refine wpList_load_one ?qqg106 3 ?qqx106 ?qqo106 w.heap.size 3 ?qqh106 (.int .i64 z3) Try.rObj_int (C.out.cell E3.out) ?_); (case qqg106 => rfl); (case qqo106 => rfl); (case qqh106 => simp [Act.eval, Act.put]))
    | ((with_reducible refine wpList_store_v ?qqg107 3 ?qqx107 ?qqy107 ?qqo107 ?qqd107 (w.heap.size + 1 + 1) 3 ?qqh107 (.int .i64 z3) ?qqv107 one_int Try.zObj_int (C.out.there 1 BZ3.out) ?_); (case qqg107 => rfl); (case qqo107 => rfl); (case qqd107 => rfl); (case qqh107 => simp [Act.eval, Act.put]); (case qqv107 => simp [Act.eval, Act.put]); intro wy ey; replace C := uhide (C.out.plain ey (j' := 4) rfl (by decide)); clear ey)
    | ((with_reducible refine wpList_load_one ?qqg108 3 ?qqx108 ?qqo108 w.heap.size 4 ?qqh108 (.int .i64 z4) Try.rObj_int (C.out.cell E4.out) ?_); (case qqg108 => rfl); (case qqo108 => rfl); (case qqh108 => simp [Act.eval, Act.put]))
    | ((with_reducible refine wpList_store_v ?qqg109 3 ?qqx109 ?qqy109 ?qqo109 ?qqd109 (w.heap.size + 1 + 1) 4 ?qqh109 (.int .i64 z4) ?qqv109 one_int Try.zObj_int (C.out.there 1 BZ4.out) ?_); (case qqg109 => rfl); (case qqo109 => rfl); (case qqd109 => rfl); (case qqh109 => simp [Act.eval, Act.put]); (case qqv109 => simp [Act.eval, Act.put]); intro wy ey; replace C := uhide (C.out.plain ey (j' := 5) rfl (by decide)); clear ey)
    | ((with_reducible refine wpList_load_one ?qqg110 4 ?qqx110 ?qqo110 w.heap.size 5 ?qqh110 (.bool z5) Try.rObj_bool (C.out.cell E5.out) ?_); (case qqg110 => rfl); (case qqo110 => rfl); (case qqh110 => simp [Act.eval, Act.put]))
    | ((with_reducible refine wpList_store_v ?qqg111 4 ?qqx111 ?qqy111 ?qqo111 ?qqd111 (w.heap.size + 1 + 1) 5 ?qqh111 (.bool z5) ?qqv111 one_bool Try.zObj_bool (C.out.there 1 BZ5.out) ?_); (case qqg111 => rfl); (case qqo111 => rfl); (case qqd111 => rfl); (case qqh111 => simp [Act.eval, Act.put]); (case qqv111 => simp [Act.eval, Act.put]); intro wy ey; replace C := uhide (C.out.plain ey (j' := 6) rfl (by decide)); clear ey)
    | ((with_reducible refine wpList_load_one ?qqg112 25 ?qqx112 ?qqo112 w.heap.size 6 ?qqh112 (v6) Try.rObj_Lstring (C.out.cell E6.out) ?_); (case qqg112 => rfl); (case qqo112 => rfl); (case qqh112 => simp [Act.eval, Act.put]))
    )
  refine (HC6.out _ C.out.bel).mono ?_
  rintro e w1 ⟨a6r, p6r, T6, rfl, O6, W6, hb6⟩
  have D := uhide (C.out.below hb6)
  have HB6 := uhide hb6
  clear hb6
  go_wp2_with (first
    | ((with_reducible refine wpList_store_v ?qqg120 25 ?qqx120 ?qqy120 ?qqo120 ?qqd120 (w.heap.size + 1 + 1) 6 ?qqh120 (.slice a6r n6 p6r) ?qqv120 one_slice Try.zObj_Lstring (D.out.there 1 BZ6.out) ?_); (case qqg120 => rfl); (case qqo120 => rfl); (case qqd120 => rfl); (case qqh120 => simp [Act.eval, Act.put]); (case qqv120 => simp [Act.eval, Act.put]); intro wy ey; replace C := uhide (C.out.list HB6.out O6.out W6.out ey (j' := 7) rfl (by decide)); clear ey D HB6 O6 W6)
    | ((with_reducible refine wpList_load_row2 ?qqg121 219 ?qqx121 ?qqo121 w.heap.size 7 ?qqh121 y7 Try.rObj_laws_Value YZ7.out (C.out.range E7.out) ?_); (case qqg121 => rfl); (case qqo121 => rfl); (case qqh121 => simp [Act.eval, Act.put]))
    )
  refine (HC7.out _ C.out.bel).mono ?_
  rintro e w2 ⟨y7r, T7, rfl, L7r, O7, W7, U7, hb7⟩
  have D := uhide (C.out.below hb7)
  have SZ : Hid ((Try.prog.info? 134).map (·.size) = some y7r.length) := by show _ = _; rw [L7r]; exact Try.zObj_impl_Value
  have TH : Hid (w2.there (w.heap.size + 1 + 1) 7 y7r.length) := by rw [L7r]; exact D.out.there 5 BZ7.out
  have HB7 := uhide hb7
  clear hb7
  go_wp2_with (first
    | ((with_reducible refine wpList_store_cells ?qqg131 134 ?qqx131 ?qqy131 ?qqo131 ?qqd131 (w.heap.size + 1 + 1) 7 ?qqh131 (.agg y7r.toArray) ?qqv131 y7r cells_agg U7.out SZ.out TH.out ?_); (case qqg131 => rfl); (case qqo131 => rfl); (case qqd131 => rfl); (case qqh131 => simp [Act.eval, Act.put]); (case qqv131 => simp [Act.eval, Act.put]); intro wy ey; replace C := uhide (C.out.step HB7.out O7.out W7.out ey (j' := 12) (by rw [L7r]) (by decide)); clear ey D SZ TH HB7 O7 W7)
    | ((with_reducible refine wpList_load_row2 ?qqg132 219 ?qqx132 ?qqo132 w.heap.size 12 ?qqh132 y8 Try.rObj_laws_Value YZ8.out (C.out.range E8.out) ?_); (case qqg132 => rfl); (case qqo132 => rfl); (case qqh132 => simp [Act.eval, Act.put]))
    )
  refine (HC8.out _ C.out.bel).mono ?_
  rintro e w3 ⟨y8r, T8, rfl, L8r, O8, W8, U8, hb8⟩
  have D := uhide (C.out.below hb8)
  have SZ : Hid ((Try.prog.info? 134).map (·.size) = some y8r.length) := by show _ = _; rw [L8r]; exact Try.zObj_impl_Value
  have TH : Hid (w3.there (w.heap.size + 1 + 1) 12 y8r.length) := by rw [L8r]; exact D.out.there 5 BZ8.out
  have HB8 := uhide hb8
  clear hb8
  have FZ0 : Hid (∀ l : List Value, l.length = 17 → Hid ((Try.prog.info? 136).map (·.size) = some l.length)) := fun l h => by show _ = _; rw [h]; exact Try.zObj_impl_Obj
  have HZL : Hid (17 = ([.int .i64 0, .string ⟨#[]⟩, .int .i64 0, .int .i64 0, .int .i64 0, .bool false, .slice none 0 0, .int .i64 0, .string ⟨#[]⟩, .int .i64 0, .slice none 0 0, .slice none 0 0, .int .i64 0, .string ⟨#[]⟩, .int .i64 0, .slice none 0 0, .slice none 0 0] : List Value).length) := by show _ = _; decide
  go_wp2_with (first
    | ((with_reducible refine wpList_store_cells ?qqg144 134 ?qqx144 ?qqy144 ?qqo144 ?qqd144 (w.heap.size + 1 + 1) 12 ?qqh144 (.agg y8r.toArray) ?qqv144 y8r cells_agg U8.out SZ.out TH.out ?_); (case qqg144 => rfl); (case qqo144 => rfl); (case qqd144 => rfl); (case qqh144 => simp [Act.eval, Act.put]); (case qqv144 => simp [Act.eval, Act.put]); intro wy ey; replace C := uhide (C.out.step HB8.out O8.out W8.out ey (j' := 17) (by rw [L8r]) (by decide)); clear ey D SZ TH HB8 O8 W8; obtain ⟨dn, S, RG, hl, TH, hod, HF⟩ := C.out.fin (D := D) (by rw [← HD.out]; apply UD.ext; simp only [UD.app_toL, UD.toL, List.cons_append, List.nil_append, List.append_nil]) HZL.out; have FZ := FZ0.out dn hl; have ON := uhide (ones_own HTY.out hod); have HFF := uhide HF; clear C hod HF)
    | ((with_reducible refine wpList_load_row2 ?qqg145 136 ?qqx145 ?qqo145 (w.heap.size + 1 + 1) 0 ?qqh145 dn Try.rObj_impl_Obj FZ.out RG.out ?_); (case qqg145 => rfl); (case qqo145 => rfl); (case qqh145 => simp [Act.eval, Act.put]))
    | ((with_reducible refine wpList_store_cells ?qqg146 136 ?qqx146 ?qqy146 ?qqo146 ?qqd146 (w.heap.size + 1) 0 ?qqh146 (.agg dn.toArray) ?qqv146 dn cells_agg ON.out FZ.out TH.out ?_); (case qqg146 => rfl); (case qqo146 => rfl); (case qqd146 => rfl); (case qqh146 => simp [Act.eval, Act.put]); (case qqv146 => simp [Act.eval, Act.put]); intro wy ey; have HG := uhide (HFF.out wy ey); clear ey HFF)
    )
  obtain ⟨HO, h1, h2, h3, h4⟩ := HG.out
  refine bodyPost_ret (v := .agg dn.toArray) ?_ rfl ⟨dn, S, rfl, ?_, h2, h3, h4⟩
  · exact results_row rfl _ _ (w.heap.size + 1) _ _ (by simp [Act.put]) HO Try.rObj_impl_Obj (by rw [hl]; exact Try.zObj_impl_Obj)
  · exact h1
theorem Try.infoUObj : (Try.prog.info? 136).map (fun i => (i.zero, i.size, decide (i.bytes ≤ 1000))) = some (some (.agg #[.int .i64 0, .string ByteArray.empty, .int .i64 0, .int .i64 0, .int .i64 0, .bool false, .slice none 0 0, .int .i64 0, .string ByteArray.empty, .int .i64 0, .slice none 0 0, .slice none 0 0, .int .i64 0, .string ByteArray.empty, .int .i64 0, .slice none 0 0, .slice none 0 0]), 17, true) := by kernel_rfl
set_option maxRecDepth 20000 in
set_option maxHeartbeats 1600000 in
theorem utoObjS_any {lo hi : Nat} (n : Nat) (cs : UD) (c : Value) (w : World) (ht : tyS 17 n cs 8) (hn : n + wt cs ≤ 1048576) (hx : uS w lo hi 17 n cs c) :
    Calls Try.prog 89 #[c] w fun e w' => ∃ c' S, e = .returned c' ∧ oS w' 17 n cs c' S ∧ S.Nodup ∧ (∀ s ∈ S, w.heap.size ≤ s) ∧ Below w.heap.size w w' := by
  obtain ⟨i0, hinf, hz0, hz1, hz2⟩ : ∃ i, Try.prog.info? 136 = some i ∧ i.zero = some (.agg #[.int .i64 0, .string ByteArray.empty, .int .i64 0, .int .i64 0, .int .i64 0, .bool false, .slice none 0 0, .int .i64 0, .string ByteArray.empty, .int .i64 0, .slice none 0 0, .slice none 0 0, .int .i64 0, .string ByteArray.empty, .int .i64 0, .slice none 0 0, .slice none 0 0]) ∧ i.size = 17 ∧ i.bytes ≤ 1000 := by
    have h := Try.infoUObj
    cases e : Try.prog.info? 136 with
    | none => rw [e] at h; cases h
    | some i => rw [e] at h; simp at h; exact ⟨i, rfl, h.1, h.2.1, h.2.2⟩
  obtain ⟨a, cap, rfl, hx2⟩ := hx
  have Hx : Hid (uS w lo hi 17 n cs (.slice a n cap)) := ⟨a, cap, rfl, hx2⟩
  have Ht := uhide ht
  have Hn : Hid (∀ q, q < n → wt (rowU cs 17 q) ≤ 1048576) := fun q hq => by have := wt_row cs 17 q; omega
  have hnn : n ≤ 1048576 := by omega
  have hbb : i0.bytes * n ≤ 281474976710656 := Nat.le_trans (Nat.mul_le_mul hz2 hnn) (by decide)
  clear hx2 ht hn
  go_enter Try.func89, Try.ntmps89
  go_wp2_with (at_make; refine wpList_make_full _ rfl _ _ 64 rfl w.heap.size 136 i0 _ 17 Try.underlying64 hinf hz0 hz1 _ _ _ _ n rfl rfl rfl rfl hbb (by unfold maxLen; omega) (Nat.le_refl _) ?_; intro w1 hown hgrow)
  have T0 := uhide (TS.start (cs := cs) hown (Below.grown (Below.refl _ _) hgrow (Nat.le_refl _) (fun k hk => by cases hk)))
  clear hown hgrow
  go_loopw [4] (fun i wr => ∃ (q : Nat), q ≤ n ∧ i = .int .i64 q ∧ Hid (TS w wr 136 17 n cs q)) (fun i _ => n - (intOf i).toNat)
  case atStart => exact ⟨0, Nat.zero_le _, rfl, T0⟩
  case round =>
    clear T0
    obtain ⟨q, hq, rfl, HT⟩ := hrel
    by_cases hlt : q < n
    · obtain ⟨b, off, rfl, hbk, hm⟩ := (Hx.out.below HT.out.bel).cells (by omega)
      have htr := Ht.out.row hlt
      have hwr := Hn.out q hlt
      obtain ⟨xs, hh, hcl⟩ := (hm.row 17 q).hand
      have hxl : xs.length = 17 := by rw [hh.len, tyL.len htr]; rfl
      have Hcon : Hid (∀ wx, Below wr.heap.size wr wx → Calls Try.prog 164 #[.agg xs.toArray] wx fun e w' => ∃ ys S, e = .returned (.agg ys.toArray) ∧ Hid (oH w' (rowU cs 17 q) ys S) ∧ Hid S.Nodup ∧ Hid (∀ s ∈ S, wx.heap.size ≤ s) ∧ Hid (ys.length = 17) ∧ Hid (∀ u ∈ ys, u.oneCell' = true) ∧ Hid (Below wx.heap.size wx w')) := fun wx hb => (utoObj_any (lo := lo) (hi := hi) _ _ wx htr hwr (hh.below hb)).mono fun e w' ⟨ys, S, h1, h2, h3, h4, h5⟩ => ⟨ys, S, h1, h2, h3, h4, h2.len.trans (tyL.len htr), ones_own htr h2, h5⟩
      have RG : Hid (wr.rangeAt b (off + q * 17) xs) := hcl
      have FZ : Hid ((Try.prog.info? 221).map (·.size) = some xs.length) := by show _ = _; rw [hxl]; exact Try.zObj_laws_Obj
      have hKn : q * 17 + 17 ≤ n * 17 := by have := Nat.mul_le_mul_right 17 (show q + 1 ≤ n by omega); rw [Nat.succ_mul] at this; exact this
      clear hcl hm htr hwr hh hxl
      go_wp2_with (first
        | ((with_reducible refine wpList_load_row2 ?qqg192 221 ?qqx192 ?qqo192 b (off + q * 17) ?qqh192 xs Try.rObj_laws_Obj FZ.out RG.out ?_); (case qqg192 => rfl); (case qqo192 => rfl); (case qqh192 => simp [Act.eval, Act.put]))
        )
      refine (Hcon.out _ (Below.refl _ _)).mono ?_
      rintro e w2 ⟨ys, S, rfl, ho, hnd, hS, hyl, hone, hb2⟩
      have TH : Hid (w2.there w.heap.size (q * 17) ys.length) := by rw [hyl.out]; exact (HT.out.below hb2.out).there _ _ hKn
      have FY : Hid ((Try.prog.info? 136).map (·.size) = some ys.length) := by show _ = _; rw [hyl.out]; exact Try.zObj_impl_Obj
      go_wp2_with (first
        | ((with_reducible refine wpList_store_cells ?qqg199 136 ?qqx199 ?qqy199 ?qqo199 ?qqd199 w.heap.size (q * 17) ?qqh199 (.agg ys.toArray) ?qqv199 ys cells_agg hone.out FY.out TH.out ?_); (case qqg199 => rfl); (case qqo199 => rfl); (case qqd199 => rfl); (case qqh199 => simp [Act.eval, Act.put]); (case qqv199 => simp [Act.eval, Act.put]); intro wy ey; have T1 := uhide (HT.out.row hb2.out ho.out hnd.out hS.out Ht.out.2.2.2.1 hlt ey); clear ey)
        )
      go_roundw
      case rel => exact ⟨q + 1, by omega, by go_num, T1⟩
      case measure => simp [intOf]; omega
    · have e : q = n := by omega
      subst e
      obtain ⟨S, h1, h2, h3, h4⟩ := HT.out.done (by decide) Ht.out.2.2.2.1
      have HS : Hid (oS wr 17 q cs (.slice (some ⟨w.heap.size, 0, none⟩) q q) S ∧ S.Nodup ∧ (∀ s ∈ S, w.heap.size ≤ s) ∧ Below w.heap.size w wr) := ⟨h1, h2, h3, h4⟩
      clear h1 h2 h3 h4
      go_wp2
      go_ret
      exact ⟨_, S, rfl, HS.out⟩
end Go.Proofs.Ytdnodaoeflbfkaa

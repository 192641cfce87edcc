/- Texts of one claim, joined: each in its own section, in build order. -/
import Derived.Test.YtamlgjmboljcdaaJ2
import Derived.Test.YtamlgjmboljcdaaJ1
import Derived.Test.YtamlgjmboljcdaaJ3
import Derived.Test.YtamlgjmboljcdaaJ4
import Derived.Laws.ResultCell
import Derived.Test.YtamlgjmboljcdaaChecked
import Derived.Deep.RegionHeld3
/- Data as cells: the helpers of the laws over Obj. -/
namespace Go.Proofs.Ytamlgjmboljcdaa
open Go.RowKit Go.BigFrame
set_option linter.unusedVariables false
set_option linter.unusedSimpArgs false

set_option maxRecDepth 20000 in
set_option maxHeartbeats 3200000 in
theorem utoObj_any {lo hi : Nat} (d : UD) (xs : List Value) (w : World) (ht : tyL d (uE 8)) (hn : wt d ≤ 1048576) (hx : uH w lo hi d xs) :
    Calls Try.prog 65 #[.agg xs.toArray] w fun e w' => ∃ ys S, e = .returned (.agg ys.toArray) ∧ oH w' d ys S ∧ S.Nodup ∧ (∀ s ∈ S, w.heap.size ≤ s) ∧ Below w.heap.size w w' := by
  have hty := ht
  replace ht : tyL d [.i .i64, .s, .i .i64, .i .i64, .i .i64, .b, .l 1 0, .i .i64, .s, .i .i64, .l 1 0, .l 5 6, .i .i64, .s, .i .i64, .l 1 0, .l 5 6] := ht
  obtain ⟨z0, _, rfl, g0, h0⟩ := tyL.i ht
  obtain ⟨z1, _, rfl, g1, h1⟩ := tyL.s h0
  clear h0
  obtain ⟨z2, _, rfl, g2, h2⟩ := tyL.i h1
  clear h1
  obtain ⟨z3, _, rfl, g3, h3⟩ := tyL.i h2
  clear h2
  obtain ⟨z4, _, rfl, g4, h4⟩ := tyL.i h3
  clear h3
  obtain ⟨z5, _, rfl, h5⟩ := tyL.b h4
  clear h4
  obtain ⟨n6, c6, _, rfl, g6, h6⟩ := tyL.l h5
  clear h5
  obtain ⟨d7, _, rfl, g7, h7⟩ := tyL.split (f1 := uE 6) (f2 := [.i .i64, .s, .i .i64, .l 1 0, .l 5 6]) h6
  clear h6
  obtain ⟨d8, _, rfl, g8, h8⟩ := tyL.split (f1 := uE 6) (f2 := []) h7
  clear h7
  obtain rfl := tyL.nil h8
  clear h8
  obtain ⟨_, rfl, h0⟩ := hx
  obtain ⟨_, rfl, h1⟩ := h0
  obtain ⟨_, rfl, h2⟩ := h1
  obtain ⟨_, rfl, h3⟩ := h2
  obtain ⟨_, rfl, h4⟩ := h3
  obtain ⟨_, rfl, h5⟩ := h4
  obtain ⟨v6, _, rfl, s6, h6⟩ := h5
  obtain ⟨y7, _, rfl, l7, s7, h7⟩ := uH.split h6
  replace l7 : y7.length = 5 := l7.trans (tyL.len g7)
  clear h6
  obtain ⟨y8, _, rfl, l8, s8, h8⟩ := uH.split h7
  replace l8 : y8.length = 5 := l8.trans (tyL.len g8)
  clear h7
  obtain rfl := h8
  simp only [wt, wtP, wt_app] at hn
  generalize hD : (UD.p (.int .i64 z0) (UD.p (.string z1) (UD.p (.int .i64 z2) (UD.p (.int .i64 z3) (UD.p (.int .i64 z4) (UD.p (.bool z5) (UD.l 1 n6 c6 (UD.app d7 (UD.app d8 UD.nil))))))))) = D at hty ⊢
  have HD := uhide hD
  clear hD
  have HC6 : Hid (∀ wx : World, Below w.heap.size w wx → Calls Try.prog 77 #[v6] wx fun e w' => ∃ a p T, e = .returned (.slice a n6 p) ∧ Hid (oS w' 1 n6 c6 (.slice a n6 p) T) ∧ Hid (own2 T wx.heap.size w'.heap.size) ∧ Below wx.heap.size wx w') := fun wx hb => (utoStringS_any (lo := lo) (hi := hi) n6 c6 _ wx g6 (by omega) (s6.below hb)).mono fun e w' ⟨c', T, h1, h2, h3, h4, h5⟩ => by
    obtain ⟨a, p, rfl⟩ := h2.slice
    exact ⟨a, p, T, h1, h2, ⟨h3, fun s hs => ⟨h4 s hs, h2.lt s hs⟩⟩, h5⟩
  have HC7 : Hid (∀ wx : World, Below w.heap.size w wx → Calls Try.prog 78 #[.agg y7.toArray] wx fun e w' => ∃ ys T, e = .returned (.agg ys.toArray) ∧ ys.length = 5 ∧ Hid (oH w' d7 ys T) ∧ Hid (own2 T wx.heap.size w'.heap.size) ∧ Hid (∀ u ∈ ys, u.oneCell' = true) ∧ Below wx.heap.size wx w') := fun wx hb => (utoValue_any (lo := lo) (hi := hi) d7 _ wx g7 (by omega) (s7.below hb)).mono fun e w' ⟨ys, T, h1, h2, h3, h4, h5⟩ => ⟨ys, T, h1, h2.len.trans (tyL.len g7), h2, ⟨h3, fun s hs => ⟨h4 s hs, h2.lt _ _ _ s hs⟩⟩, ones_own g7 h2, h5⟩
  have HC8 : Hid (∀ wx : World, Below w.heap.size w wx → Calls Try.prog 78 #[.agg y8.toArray] wx fun e w' => ∃ ys T, e = .returned (.agg ys.toArray) ∧ ys.length = 5 ∧ Hid (oH w' d8 ys T) ∧ Hid (own2 T wx.heap.size w'.heap.size) ∧ Hid (∀ u ∈ ys, u.oneCell' = true) ∧ Below wx.heap.size wx w') := fun wx hb => (utoValue_any (lo := lo) (hi := hi) d8 _ wx g8 (by omega) (s8.below hb)).mono fun e w' ⟨ys, T, h1, h2, h3, h4, h5⟩ => ⟨ys, T, h1, h2.len.trans (tyL.len g8), h2, ⟨h3, fun s hs => ⟨h4 s hs, h2.lt _ _ _ s hs⟩⟩, ones_own g8 h2, h5⟩
  obtain ⟨AX, hAX⟩ : ∃ AX : List Value, AX = (Value.int .i64 z0 :: (Value.string z1 :: (Value.int .i64 z2 :: (Value.int .i64 z3 :: (Value.int .i64 z4 :: (Value.bool z5 :: (v6 :: ((y7 ++ ((y8 ++ []))))))))))) := ⟨_, rfl⟩
  rw [← hAX]
  have hlen : AX.length = 17 := by rw [hAX]; simp [l7, l8]
  have e0 : AX[0]? = some (.int .i64 z0) := at_mid (i := 0) (pre := (([] : List Value))) (ys := [.int .i64 z0]) (post := (Value.string z1 :: (Value.int .i64 z2 :: (Value.int .i64 z3 :: (Value.int .i64 z4 :: (Value.bool z5 :: (v6 :: ((y7 ++ ((y8 ++ []))))))))))) (by rw [hAX]; simp) (by simp) rfl
  have e1 : AX[1]? = some (.string z1) := at_mid (i := 0) (pre := ([Value.int .i64 z0])) (ys := [.string z1]) (post := (Value.int .i64 z2 :: (Value.int .i64 z3 :: (Value.int .i64 z4 :: (Value.bool z5 :: (v6 :: ((y7 ++ ((y8 ++ [])))))))))) (by rw [hAX]; simp) (by simp) rfl
  have e2 : AX[2]? = some (.int .i64 z2) := at_mid (i := 0) (pre := ([Value.int .i64 z0, Value.string z1])) (ys := [.int .i64 z2]) (post := (Value.int .i64 z3 :: (Value.int .i64 z4 :: (Value.bool z5 :: (v6 :: ((y7 ++ ((y8 ++ []))))))))) (by rw [hAX]; simp) (by simp) rfl
  have e3 : AX[3]? = some (.int .i64 z3) := at_mid (i := 0) (pre := ([Value.int .i64 z0, Value.string z1, Value.int .i64 z2])) (ys := [.int .i64 z3]) (post := (Value.int .i64 z4 :: (Value.bool z5 :: (v6 :: ((y7 ++ ((y8 ++ [])))))))) (by rw [hAX]; simp) (by simp) rfl
  have e4 : AX[4]? = some (.int .i64 z4) := at_mid (i := 0) (pre := ([Value.int .i64 z0, Value.string z1, Value.int .i64 z2, Value.int .i64 z3])) (ys := [.int .i64 z4]) (post := (Value.bool z5 :: (v6 :: ((y7 ++ ((y8 ++ []))))))) (by rw [hAX]; simp) (by simp) rfl
  have e5 : AX[5]? = some (.bool z5) := at_mid (i := 0) (pre := ([Value.int .i64 z0, Value.string z1, Value.int .i64 z2, Value.int .i64 z3, Value.int .i64 z4])) (ys := [.bool z5]) (post := (v6 :: ((y7 ++ ((y8 ++ [])))))) (by rw [hAX]; simp) (by simp) rfl
  have e6 : AX[6]? = some (v6) := at_mid (i := 0) (pre := ([Value.int .i64 z0, Value.string z1, Value.int .i64 z2, Value.int .i64 z3, Value.int .i64 z4, Value.bool z5])) (ys := [v6]) (post := ((y7 ++ ((y8 ++ []))))) (by rw [hAX]; simp) (by simp) rfl
  have e7 : ∀ i v, y7[i]? = some v → AX[7 + i]? = some v := fun i v h => at_mid (pre := ([Value.int .i64 z0, Value.string z1, Value.int .i64 z2, Value.int .i64 z3, Value.int .i64 z4, Value.bool z5, v6])) (ys := y7) (post := ((y8 ++ []))) (by rw [hAX]; simp) (by simp) h
  have e8 : ∀ i v, y8[i]? = some v → AX[12 + i]? = some v := fun i v h => at_mid (pre := ([Value.int .i64 z0, Value.string z1, Value.int .i64 z2, Value.int .i64 z3, Value.int .i64 z4, Value.bool z5, v6] ++ y7)) (ys := y8) (post := []) (by rw [hAX]; simp) (by simp [l7]) h
  clear hAX
  have HTY := uhide hty
  clear hty
  clear hn g0 g1 g2 g3 g4 g6 s6 g7 s7 g8 s8
  have E0 := uhide e0
  have E1 := uhide e1
  have E2 := uhide e2
  have E3 := uhide e3
  have E4 := uhide e4
  have E5 := uhide e5
  have E6 := uhide e6
  have E7 := uhide e7
  have E8 := uhide e8
  clear e0 e1 e2 e3 e4 e5 e6 e7 e8
  have BZ0 : Hid (0 + 1 ≤ ([.int .i64 0, .string ⟨#[]⟩, .int .i64 0, .int .i64 0, .int .i64 0, .bool false, .slice none 0 0, .int .i64 0, .string ⟨#[]⟩, .int .i64 0, .slice none 0 0, .slice none 0 0, .int .i64 0, .string ⟨#[]⟩, .int .i64 0, .slice none 0 0, .slice none 0 0] : List Value).length) := by show _ ≤ _; decide
  have BZ1 : Hid (1 + 1 ≤ ([.int .i64 0, .string ⟨#[]⟩, .int .i64 0, .int .i64 0, .int .i64 0, .bool false, .slice none 0 0, .int .i64 0, .string ⟨#[]⟩, .int .i64 0, .slice none 0 0, .slice none 0 0, .int .i64 0, .string ⟨#[]⟩, .int .i64 0, .slice none 0 0, .slice none 0 0] : List Value).length) := by show _ ≤ _; decide
  have BZ2 : Hid (2 + 1 ≤ ([.int .i64 0, .string ⟨#[]⟩, .int .i64 0, .int .i64 0, .int .i64 0, .bool false, .slice none 0 0, .int .i64 0, .string ⟨#[]⟩, .int .i64 0, .slice none 0 0, .slice none 0 0, .int .i64 0, .string ⟨#[]⟩, .int .i64 0, .slice none 0 0, .slice none 0 0] : List Value).length) := by show _ ≤ _; decide
  have BZ3 : Hid (3 + 1 ≤ ([.int .i64 0, .string ⟨#[]⟩, .int .i64 0, .int .i64 0, .int .i64 0, .bool false, .slice none 0 0, .int .i64 0, .string ⟨#[]⟩, .int .i64 0, .slice none 0 0, .slice none 0 0, .int .i64 0, .string ⟨#[]⟩, .int .i64 0, .slice none 0 0, .slice none 0 0] : List Value).length) := by show _ ≤ _; decide
  have BZ4 : Hid (4 + 1 ≤ ([.int .i64 0, .string ⟨#[]⟩, .int .i64 0, .int .i64 0, .int .i64 0, .bool false, .slice none 0 0, .int .i64 0, .string ⟨#[]⟩, .int .i64 0, .slice none 0 0, .slice none 0 0, .int .i64 0, .string ⟨#[]⟩, .int .i64 0, .slice none 0 0, .slice none 0 0] : List Value).length) := by show _ ≤ _; decide
  have BZ5 : Hid (5 + 1 ≤ ([.int .i64 0, .string ⟨#[]⟩, .int .i64 0, .int .i64 0, .int .i64 0, .bool false, .slice none 0 0, .int .i64 0, .string ⟨#[]⟩, .int .i64 0, .slice none 0 0, .slice none 0 0, .int .i64 0, .string ⟨#[]⟩, .int .i64 0, .slice none 0 0, .slice none 0 0] : List Value).length) := by show _ ≤ _; decide
  have BZ6 : Hid (6 + 1 ≤ ([.int .i64 0, .string ⟨#[]⟩, .int .i64 0, .int .i64 0, .int .i64 0, .bool false, .slice none 0 0, .int .i64 0, .string ⟨#[]⟩, .int .i64 0, .slice none 0 0, .slice none 0 0, .int .i64 0, .string ⟨#[]⟩, .int .i64 0, .slice none 0 0, .slice none 0 0] : List Value).length) := by show _ ≤ _; decide
  have BZ7 : Hid (7 + 5 ≤ ([.int .i64 0, .string ⟨#[]⟩, .int .i64 0, .int .i64 0, .int .i64 0, .bool false, .slice none 0 0, .int .i64 0, .string ⟨#[]⟩, .int .i64 0, .slice none 0 0, .slice none 0 0, .int .i64 0, .string ⟨#[]⟩, .int .i64 0, .slice none 0 0, .slice none 0 0] : List Value).length) := by show _ ≤ _; decide
  have BZ8 : Hid (12 + 5 ≤ ([.int .i64 0, .string ⟨#[]⟩, .int .i64 0, .int .i64 0, .int .i64 0, .bool false, .slice none 0 0, .int .i64 0, .string ⟨#[]⟩, .int .i64 0, .slice none 0 0, .slice none 0 0, .int .i64 0, .string ⟨#[]⟩, .int .i64 0, .slice none 0 0, .slice none 0 0] : List Value).length) := by show _ ≤ _; decide
  have YZ7 : Hid ((Try.prog.info? 86).map (·.size) = some y7.length) := by show _ = _; rw [l7]; exact Try.zObj_laws_Value
  clear l7
  have YZ8 : Hid ((Try.prog.info? 86).map (·.size) = some y8.length) := by show _ = _; rw [l8]; exact Try.zObj_laws_Value
  clear l8
  have C := uhide (CP.start (w := w) (TA := 88) (TO := 43) (AX := AX) (Z := [.int .i64 0, .string ⟨#[]⟩, .int .i64 0, .int .i64 0, .int .i64 0, .bool false, .slice none 0 0, .int .i64 0, .string ⟨#[]⟩, .int .i64 0, .slice none 0 0, .slice none 0 0, .int .i64 0, .string ⟨#[]⟩, .int .i64 0, .slice none 0 0, .slice none 0 0]))
  go_enter Try.func65, Try.ntmps65
  go_wp2_with (first
    | ((with_reducible refine wpList_load_one ?qqg100 3 ?qqx100 ?qqo100 w.heap.size 0 ?qqh100 (.int .i64 z0) Try.rObj_int (C.out.cell E0.out) ?_); (case qqg100 => rfl); (case qqo100 => rfl); (case qqh100 => simp [Act.eval, Act.put]))
    | ((with_reducible refine wpList_store_v ?qqg101 3 ?qqx101 ?qqy101 ?qqo101 ?qqd101 (w.heap.size + 1 + 1) 0 ?qqh101 (.int .i64 z0) ?qqv101 one_int Try.zObj_int (C.out.there 1 BZ0.out) ?_); (case qqg101 => rfl); (case qqo101 => rfl); (case qqd101 => rfl); (case qqh101 => simp [Act.eval, Act.put]); (case qqv101 => simp [Act.eval, Act.put]); intro wy ey; replace C := uhide (C.out.plain ey (j' := 1) rfl (by decide)); clear ey)
    | ((with_reducible refine wpList_load_one ?qqg102 9 ?qqx102 ?qqo102 w.heap.size 1 ?qqh102 (.string z1) Try.rObj_string (C.out.cell E1.out) ?_); (case qqg102 => rfl); (case qqo102 => rfl); (case qqh102 => simp [Act.eval, Act.put]))
    | ((with_reducible refine wpList_store_v ?qqg103 9 ?qqx103 ?qqy103 ?qqo103 ?qqd103 (w.heap.size + 1 + 1) 1 ?qqh103 (.string z1) ?qqv103 one_string Try.zObj_string (C.out.there 1 BZ1.out) ?_); (case qqg103 => rfl); (case qqo103 => rfl); (case qqd103 => rfl); (case qqh103 => simp [Act.eval, Act.put]); (case qqv103 => simp [Act.eval, Act.put]); intro wy ey; replace C := uhide (C.out.plain ey (j' := 2) rfl (by decide)); clear ey)
    | ((with_reducible refine wpList_load_one ?qqg104 3 ?qqx104 ?qqo104 w.heap.size 2 ?qqh104 (.int .i64 z2) Try.rObj_int (C.out.cell E2.out) ?_); (case qqg104 => rfl); (case qqo104 => rfl); (case qqh104 => simp [Act.eval, Act.put]))
    | ((with_reducible refine wpList_store_v ?qqg105 3 ?qqx105 ?qqy105 ?qqo105 ?qqd105 (w.heap.size + 1 + 1) 2 ?qqh105 (.int .i64 z2) ?qqv105 one_int Try.zObj_int (C.out.there 1 BZ2.out) ?_); (case qqg105 => rfl); (case qqo105 => rfl); (case qqd105 => rfl); (case qqh105 => simp [Act.eval, Act.put]); (case qqv105 => simp [Act.eval, Act.put]); intro wy ey; replace C := uhide (C.out.plain ey (j' := 3) rfl (by decide)); clear ey)
    | ((with_reducible refine wpList_load_one ?qqg106 3 ?qqx106 ?qqo106 w.heap.size 3 ?qqh106 (.int .i64 z3) Try.rObj_int (C.out.cell E3.out) ?_); (case qqg106 => rfl); (case qqo106 => rfl); (case qqh106 => simp [Act.eval, Act.put]))
    | ((with_reducible refine wpList_store_v ?qqg107 3 ?qqx107 ?qqy107 ?qqo107 ?qqd107 (w.heap.size + 1 + 1) 3 ?qqh107 (.int .i64 z3) ?qqv107 one_int Try.zObj_int (C.out.there 1 BZ3.out) ?_); (case qqg107 => rfl); (case qqo107 => rfl); (case qqd107 => rfl); (case qqh107 => simp [Act.eval, Act.put]); (case qqv107 => simp [Act.eval, Act.put]); intro wy ey; replace C := uhide (C.out.plain ey (j' := 4) rfl (by decide)); clear ey)
    | ((with_reducible refine wpList_load_one ?qqg108 3 ?qqx108 ?qqo108 w.heap.size 4 ?qqh108 (.int .i64 z4) Try.rObj_int (C.out.cell E4.out) ?_); (case qqg108 => rfl); (case qqo108 => rfl); (case qqh108 => simp [Act.eval, Act.put]))
    | ((with_reducible refine wpList_store_v ?qqg109 3 ?qqx109 ?qqy109 ?qqo109 ?qqd109 (w.heap.size + 1 + 1) 4 ?qqh109 (.int .i64 z4) ?qqv109 one_int Try.zObj_int (C.out.there 1 BZ4.out) ?_); (case qqg109 => rfl); (case qqo109 => rfl); (case qqd109 => rfl); (case qqh109 => simp [Act.eval, Act.put]); (case qqv109 => simp [Act.eval, Act.put]); intro wy ey; replace C := uhide (C.out.plain ey (j' := 5) rfl (by decide)); clear ey)
    | ((with_reducible refine wpList_load_one ?qqg110 4 ?qqx110 ?qqo110 w.heap.size 5 ?qqh110 (.bool z5) Try.rObj_bool (C.out.cell E5.out) ?_); (case qqg110 => rfl); (case qqo110 => rfl); (case qqh110 => simp [Act.eval, Act.put]))
    | ((with_reducible refine wpList_store_v ?qqg111 4 ?qqx111 ?qqy111 ?qqo111 ?qqd111 (w.heap.size + 1 + 1) 5 ?qqh111 (.bool z5) ?qqv111 one_bool Try.zObj_bool (C.out.there 1 BZ5.out) ?_); (case qqg111 => rfl); (case qqo111 => rfl); (case qqd111 => rfl); (case qqh111 => simp [Act.eval, Act.put]); (case qqv111 => simp [Act.eval, Act.put]); intro wy ey; replace C := uhide (C.out.plain ey (j' := 6) rfl (by decide)); clear ey)
    | ((with_reducible refine wpList_load_one ?qqg112 38 ?qqx112 ?qqo112 w.heap.size 6 ?qqh112 (v6) Try.rObj_Lstring (C.out.cell E6.out) ?_); (case qqg112 => rfl); (case qqo112 => rfl); (case qqh112 => simp [Act.eval, Act.put]))
    )
  refine (HC6.out _ C.out.bel).mono ?_
  rintro e w1 ⟨a6r, p6r, T6, rfl, O6, W6, hb6⟩
  have D := uhide (C.out.below hb6)
  have HB6 := uhide hb6
  clear hb6
  go_wp2_with (first
    | ((with_reducible refine wpList_store_v ?qqg120 38 ?qqx120 ?qqy120 ?qqo120 ?qqd120 (w.heap.size + 1 + 1) 6 ?qqh120 (.slice a6r n6 p6r) ?qqv120 one_slice Try.zObj_Lstring (D.out.there 1 BZ6.out) ?_); (case qqg120 => rfl); (case qqo120 => rfl); (case qqd120 => rfl); (case qqh120 => simp [Act.eval, Act.put]); (case qqv120 => simp [Act.eval, Act.put]); intro wy ey; replace C := uhide (C.out.list HB6.out O6.out W6.out ey (j' := 7) rfl (by decide)); clear ey D HB6 O6 W6)
    | ((with_reducible refine wpList_load_row2 ?qqg121 86 ?qqx121 ?qqo121 w.heap.size 7 ?qqh121 y7 Try.rObj_laws_Value YZ7.out (C.out.range E7.out) ?_); (case qqg121 => rfl); (case qqo121 => rfl); (case qqh121 => simp [Act.eval, Act.put]))
    )
  refine (HC7.out _ C.out.bel).mono ?_
  rintro e w2 ⟨y7r, T7, rfl, L7r, O7, W7, U7, hb7⟩
  have D := uhide (C.out.below hb7)
  have SZ : Hid ((Try.prog.info? 41).map (·.size) = some y7r.length) := by show _ = _; rw [L7r]; exact Try.zObj_impl_Value
  have TH : Hid (w2.there (w.heap.size + 1 + 1) 7 y7r.length) := by rw [L7r]; exact D.out.there 5 BZ7.out
  have HB7 := uhide hb7
  clear hb7
  go_wp2_with (first
    | ((with_reducible refine wpList_store_cells ?qqg131 41 ?qqx131 ?qqy131 ?qqo131 ?qqd131 (w.heap.size + 1 + 1) 7 ?qqh131 (.agg y7r.toArray) ?qqv131 y7r cells_agg U7.out SZ.out TH.out ?_); (case qqg131 => rfl); (case qqo131 => rfl); (case qqd131 => rfl); (case qqh131 => simp [Act.eval, Act.put]); (case qqv131 => simp [Act.eval, Act.put]); intro wy ey; replace C := uhide (C.out.step HB7.out O7.out W7.out ey (j' := 12) (by rw [L7r]) (by decide)); clear ey D SZ TH HB7 O7 W7)
    | ((with_reducible refine wpList_load_row2 ?qqg132 86 ?qqx132 ?qqo132 w.heap.size 12 ?qqh132 y8 Try.rObj_laws_Value YZ8.out (C.out.range E8.out) ?_); (case qqg132 => rfl); (case qqo132 => rfl); (case qqh132 => simp [Act.eval, Act.put]))
    )
  refine (HC8.out _ C.out.bel).mono ?_
  rintro e w3 ⟨y8r, T8, rfl, L8r, O8, W8, U8, hb8⟩
  have D := uhide (C.out.below hb8)
  have SZ : Hid ((Try.prog.info? 41).map (·.size) = some y8r.length) := by show _ = _; rw [L8r]; exact Try.zObj_impl_Value
  have TH : Hid (w3.there (w.heap.size + 1 + 1) 12 y8r.length) := by rw [L8r]; exact D.out.there 5 BZ8.out
  have HB8 := uhide hb8
  clear hb8
  have FZ0 : Hid (∀ l : List Value, l.length = 17 → Hid ((Try.prog.info? 43).map (·.size) = some l.length)) := fun l h => by show _ = _; rw [h]; exact Try.zObj_impl_Obj
  have HZL : Hid (17 = ([.int .i64 0, .string ⟨#[]⟩, .int .i64 0, .int .i64 0, .int .i64 0, .bool false, .slice none 0 0, .int .i64 0, .string ⟨#[]⟩, .int .i64 0, .slice none 0 0, .slice none 0 0, .int .i64 0, .string ⟨#[]⟩, .int .i64 0, .slice none 0 0, .slice none 0 0] : List Value).length) := by show _ = _; decide
  go_wp2_with (first
    | ((with_reducible refine wpList_store_cells ?qqg144 41 ?qqx144 ?qqy144 ?qqo144 ?qqd144 (w.heap.size + 1 + 1) 12 ?qqh144 (.agg y8r.toArray) ?qqv144 y8r cells_agg U8.out SZ.out TH.out ?_); (case qqg144 => rfl); (case qqo144 => rfl); (case qqd144 => rfl); (case qqh144 => simp [Act.eval, Act.put]); (case qqv144 => simp [Act.eval, Act.put]); intro wy ey; replace C := uhide (C.out.step HB8.out O8.out W8.out ey (j' := 17) (by rw [L8r]) (by decide)); clear ey D SZ TH HB8 O8 W8; obtain ⟨dn, S, RG, hl, TH, hod, HF⟩ := C.out.fin (D := D) (by rw [← HD.out]; apply UD.ext; simp only [UD.app_toL, UD.toL, List.cons_append, List.nil_append, List.append_nil]) HZL.out; have FZ := FZ0.out dn hl; have ON := uhide (ones_own HTY.out hod); have HFF := uhide HF; clear C hod HF)
    | ((with_reducible refine wpList_load_row2 ?qqg145 43 ?qqx145 ?qqo145 (w.heap.size + 1 + 1) 0 ?qqh145 dn Try.rObj_impl_Obj FZ.out RG.out ?_); (case qqg145 => rfl); (case qqo145 => rfl); (case qqh145 => simp [Act.eval, Act.put]))
    | ((with_reducible refine wpList_store_cells ?qqg146 43 ?qqx146 ?qqy146 ?qqo146 ?qqd146 (w.heap.size + 1) 0 ?qqh146 (.agg dn.toArray) ?qqv146 dn cells_agg ON.out FZ.out TH.out ?_); (case qqg146 => rfl); (case qqo146 => rfl); (case qqd146 => rfl); (case qqh146 => simp [Act.eval, Act.put]); (case qqv146 => simp [Act.eval, Act.put]); intro wy ey; have HG := uhide (HFF.out wy ey); clear ey HFF)
    )
  obtain ⟨HO, h1, h2, h3, h4⟩ := HG.out
  refine bodyPost_ret (v := .agg dn.toArray) ?_ rfl ⟨dn, S, rfl, ?_, h2, h3, h4⟩
  · exact results_row rfl _ _ (w.heap.size + 1) _ _ (by simp [Act.put]) HO Try.rObj_impl_Obj (by rw [hl]; exact Try.zObj_impl_Obj)
  · exact h1
theorem Try.infoUObj : (Try.prog.info? 43).map (fun i => (i.zero, i.size, decide (i.bytes ≤ 1000))) = some (some (.agg #[.int .i64 0, .string ByteArray.empty, .int .i64 0, .int .i64 0, .int .i64 0, .bool false, .slice none 0 0, .int .i64 0, .string ByteArray.empty, .int .i64 0, .slice none 0 0, .slice none 0 0, .int .i64 0, .string ByteArray.empty, .int .i64 0, .slice none 0 0, .slice none 0 0]), 17, true) := by kernel_rfl
set_option maxRecDepth 20000 in
set_option maxHeartbeats 1600000 in
theorem utoObjS_any {lo hi : Nat} (n : Nat) (cs : UD) (c : Value) (w : World) (ht : tyS 17 n cs 8) (hn : n + wt cs ≤ 1048576) (hx : uS w lo hi 17 n cs c) :
    Calls Try.prog 40 #[c] w fun e w' => ∃ c' S, e = .returned c' ∧ oS w' 17 n cs c' S ∧ S.Nodup ∧ (∀ s ∈ S, w.heap.size ≤ s) ∧ Below w.heap.size w w' := by
  obtain ⟨i0, hinf, hz0, hz1, hz2⟩ : ∃ i, Try.prog.info? 43 = some i ∧ i.zero = some (.agg #[.int .i64 0, .string ByteArray.empty, .int .i64 0, .int .i64 0, .int .i64 0, .bool false, .slice none 0 0, .int .i64 0, .string ByteArray.empty, .int .i64 0, .slice none 0 0, .slice none 0 0, .int .i64 0, .string ByteArray.empty, .int .i64 0, .slice none 0 0, .slice none 0 0]) ∧ i.size = 17 ∧ i.bytes ≤ 1000 := by
    have h := Try.infoUObj
    cases e : Try.prog.info? 43 with
    | none => rw [e] at h; cases h
    | some i => rw [e] at h; simp at h; exact ⟨i, rfl, h.1, h.2.1, h.2.2⟩
  obtain ⟨a, cap, rfl, hx2⟩ := hx
  have Hx : Hid (uS w lo hi 17 n cs (.slice a n cap)) := ⟨a, cap, rfl, hx2⟩
  have Ht := uhide ht
  have Hn : Hid (∀ q, q < n → wt (rowU cs 17 q) ≤ 1048576) := fun q hq => by have := wt_row cs 17 q; omega
  have hnn : n ≤ 1048576 := by omega
  have hbb : i0.bytes * n ≤ 281474976710656 := Nat.le_trans (Nat.mul_le_mul hz2 hnn) (by decide)
  clear hx2 ht hn
  go_enter Try.func40, Try.ntmps40
  go_wp2_with (at_make; refine wpList_make_full _ rfl _ _ 22 rfl w.heap.size 43 i0 _ 17 Try.underlying22 hinf hz0 hz1 _ _ _ _ n rfl rfl rfl rfl hbb (by unfold maxLen; omega) (Nat.le_refl _) ?_; intro w1 hown hgrow)
  have T0 := uhide (TS.start (cs := cs) hown (Below.grown (Below.refl _ _) hgrow (Nat.le_refl _) (fun k hk => by cases hk)))
  clear hown hgrow
  go_loopw [4] (fun i wr => ∃ (q : Nat), q ≤ n ∧ i = .int .i64 q ∧ Hid (TS w wr 43 17 n cs q)) (fun i _ => n - (intOf i).toNat)
  case atStart => exact ⟨0, Nat.zero_le _, rfl, T0⟩
  case round =>
    clear T0
    obtain ⟨q, hq, rfl, HT⟩ := hrel
    by_cases hlt : q < n
    · obtain ⟨b, off, rfl, hbk, hm⟩ := (Hx.out.below HT.out.bel).cells (by omega)
      have htr := Ht.out.row hlt
      have hwr := Hn.out q hlt
      obtain ⟨xs, hh, hcl⟩ := (hm.row 17 q).hand
      have hxl : xs.length = 17 := by rw [hh.len, tyL.len htr]; rfl
      have Hcon : Hid (∀ wx, Below wr.heap.size wr wx → Calls Try.prog 65 #[.agg xs.toArray] wx fun e w' => ∃ ys S, e = .returned (.agg ys.toArray) ∧ Hid (oH w' (rowU cs 17 q) ys S) ∧ Hid S.Nodup ∧ Hid (∀ s ∈ S, wx.heap.size ≤ s) ∧ Hid (ys.length = 17) ∧ Hid (∀ u ∈ ys, u.oneCell' = true) ∧ Hid (Below wx.heap.size wx w')) := fun wx hb => (utoObj_any (lo := lo) (hi := hi) _ _ wx htr hwr (hh.below hb)).mono fun e w' ⟨ys, S, h1, h2, h3, h4, h5⟩ => ⟨ys, S, h1, h2, h3, h4, h2.len.trans (tyL.len htr), ones_own htr h2, h5⟩
      have RG : Hid (wr.rangeAt b (off + q * 17) xs) := hcl
      have FZ : Hid ((Try.prog.info? 88).map (·.size) = some xs.length) := by show _ = _; rw [hxl]; exact Try.zObj_laws_Obj
      have hKn : q * 17 + 17 ≤ n * 17 := by have := Nat.mul_le_mul_right 17 (show q + 1 ≤ n by omega); rw [Nat.succ_mul] at this; exact this
      clear hcl hm htr hwr hh hxl
      go_wp2_with (first
        | ((with_reducible refine wpList_load_row2 ?qqg192 88 ?qqx192 ?qqo192 b (off + q * 17) ?qqh192 xs Try.rObj_laws_Obj FZ.out RG.out ?_); (case qqg192 => rfl); (case qqo192 => rfl); (case qqh192 => simp [Act.eval, Act.put]))
        )
      refine (Hcon.out _ (Below.refl _ _)).mono ?_
      rintro e w2 ⟨ys, S, rfl, ho, hnd, hS, hyl, hone, hb2⟩
      have TH : Hid (w2.there w.heap.size (q * 17) ys.length) := by rw [hyl.out]; exact (HT.out.below hb2.out).there _ _ hKn
      have FY : Hid ((Try.prog.info? 43).map (·.size) = some ys.length) := by show _ = _; rw [hyl.out]; exact Try.zObj_impl_Obj
      go_wp2_with (first
        | ((with_reducible refine wpList_store_cells ?qqg199 43 ?qqx199 ?qqy199 ?qqo199 ?qqd199 w.heap.size (q * 17) ?qqh199 (.agg ys.toArray) ?qqv199 ys cells_agg hone.out FY.out TH.out ?_); (case qqg199 => rfl); (case qqo199 => rfl); (case qqd199 => rfl); (case qqh199 => simp [Act.eval, Act.put]); (case qqv199 => simp [Act.eval, Act.put]); intro wy ey; have T1 := uhide (HT.out.row hb2.out ho.out hnd.out hS.out Ht.out.2.2.2.1 hlt ey); clear ey)
        )
      go_roundw
      case rel => exact ⟨q + 1, by omega, by go_num, T1⟩
      case measure => simp [intOf]; omega
    · have e : q = n := by omega
      subst e
      obtain ⟨S, h1, h2, h3, h4⟩ := HT.out.done (by decide) Ht.out.2.2.2.1
      have HS : Hid (oS wr 17 q cs (.slice (some ⟨w.heap.size, 0, none⟩) q q) S ∧ S.Nodup ∧ (∀ s ∈ S, w.heap.size ≤ s) ∧ Below w.heap.size w wr) := ⟨h1, h2, h3, h4⟩
      clear h1 h2 h3 h4
      go_wp2
      go_ret
      exact ⟨_, S, rfl, HS.out⟩
end Go.Proofs.Ytamlgjmboljcdaa
/- One object of a base, both sides. -/
namespace Go.Proofs.Ytamlgjmboljcdaa
open Go.RowKit Go.BigFrame
set_option linter.unusedVariables false
set_option linter.unusedSimpArgs false

theorem beqT (a b : ByteArray) : (a.toList == b.toList) = decide (a = b) := by
  rw [ByteArray.toList_eq, ByteArray.toList_eq, Bool.eq_iff_iff, beq_iff_eq, decide_eq_true_iff]
  constructor
  · intro h; cases a; cases b; simpa using congrArg List.toArray h
  · rintro rfl; rfl
theorem getBox (wr : World) (T : TypeId) (xr Z : List Value) (hl : xr.length = Z.length) (wy : World) (ey : wy = (wr.alloc (.cells Z.toArray T)).setCells wr.heap.size 0 xr) : objU wy wr.heap.size T xr ∧ Below wr.heap.size wr wy := by
  subst ey
  have h := objU.setCells (t := T) xr Z [] [] _ (objU.new2 (w := wr) T Z rfl |> fun x => by simpa using x) hl.symm
  refine ⟨by simpa using h, ((Below.refl _ _).alloc (Nat.le_refl _) _).trans ((OutS.setCells _ _ _).below (fun t ht => by simp at ht; omega) (by simp))⟩
theorem results_row_tmp {P : Program} {fn : Func} {p u : Tmp} {ty : TypeId} (h : fn.results = #[.cell p ty, .tmp u]) (tmps : Array Value) (w : World) (g : Nat) (t : TypeId) (ys : List Value)
    (hp : tmps.getD p undef = .pointer (some ⟨g, 0, none⟩)) (hg : objU w g t ys) (hu : (P.underlying ty).map TypeDesc.isRow = some true) (hi : (P.info? ty).map (·.size) = some ys.length) (r : Value) (hr : tmps.getD u undef = r) :
    (results fn tmps).run P w = .ok (.tuple #[.agg ys.toArray, r]) w := by
  cases hd : P.underlying ty with
  | none => rw [hd] at hu; cases hu
  | some d =>
    rw [hd] at hu
    have hl := run_loadVar_row (P := P) w g t ty ys.toArray (0, 0) d hg hd (by cases d <;> simp_all [TypeDesc.isRow]) (by simpa using hi)
    rw [results_cell_tmp h, hp, hr]
    simp [asAddr, hl, Result.andThen]
def nameO : UD → ByteArray
  | .p _ (.p (.string s) _) => s
  | _ => ByteArray.empty
def hitU (cs : UD) (kind : Int) (name : ByteArray) (j : Nat) : Prop := kindO (rowU cs 17 j) = kind ∧ nameO (rowU cs 17 j) = name
/-- the place of the first object of this kind and name, or -1 -/
def placeU (cs : UD) (n : Nat) (kind : Int) (name : ByteArray) (r : Int) : Prop := (r = -1 ∧ ∀ j, j < n → ¬ hitU cs kind name j) ∨ ∃ p : Nat, r = p ∧ p < n ∧ hitU cs kind name p ∧ ∀ j, j < p → ¬ hitU cs kind name j
theorem placeU_ex (cs : UD) (n : Nat) (kind : Int) (name : ByteArray) : ∃ r, placeU cs n kind name r := by
  induction n with
  | zero => exact ⟨-1, .inl ⟨rfl, fun j hj => by omega⟩⟩
  | succ n ih =>
    obtain ⟨r, h | ⟨p, h1, h2, h3⟩⟩ := ih
    · by_cases hn : hitU cs kind name n
      · exact ⟨n, .inr ⟨n, rfl, by omega, hn, h.2⟩⟩
      · refine ⟨-1, .inl ⟨rfl, fun j hj => ?_⟩⟩
        by_cases e : j = n
        · subst e; exact hn
        · exact h.2 j (by omega)
    · exact ⟨p, .inr ⟨p, rfl, by omega, h3⟩⟩
theorem placeU.hit {cs : UD} {n : Nat} {kind : Int} {name : ByteArray} {r : Int} {q : Nat} (h : placeU cs n kind name r) (hq : q < n) (hh : hitU cs kind name q) (ho : ∀ j, j < q → ¬ hitU cs kind name j) : r = q := by
  rcases h with h | ⟨p, h1, h2, h3, h4⟩
  · exact (h.2 q hq hh).elim
  · rcases Nat.lt_trichotomy p q with g | g | g
    · exact (ho p g h3).elim
    · rw [h1, g]
    · exact (h4 q g hh).elim
theorem placeU.miss {cs : UD} {n : Nat} {kind : Int} {name : ByteArray} {r : Int} (h : placeU cs n kind name r) (ho : ∀ j, j < n → ¬ hitU cs kind name j) : r = -1 := by
  rcases h with h | ⟨p, h1, h2, h3, h4⟩
  · exact h.1
  · exact (ho p h2 h3).elim
def gotU (w w' : World) (d : UD) (b : Bool) (e : Ending) : Prop := ∃ ys S, e = .returned (.tuple #[.agg ys.toArray, .bool b]) ∧ oH w' d ys S ∧ own2 S w.heap.size w'.heap.size ∧ Below w.heap.size w w'
theorem gotU.mk' {w w' : World} {d : UD} {b : Bool} {ys : List Value} {S : List Nat} (h : oH w' d ys S) (hS : own2 S w.heap.size w'.heap.size) (hb : Below w.heap.size w w') : gotU w w' d b (.returned (.tuple #[.agg ys.toArray, .bool b])) := ⟨ys, S, rfl, h, hS, hb⟩
def zeroO : UD := (.p (.int .i64 0) (.p (.string ⟨#[]⟩) (.p (.int .i64 0) (.p (.int .i64 0) (.p (.int .i64 0) (.p (.bool false) (.l 1 0 .nil (.p (.int .i64 0) (.p (.string ⟨#[]⟩) (.p (.int .i64 0) (.l 1 0 .nil (.l 5 0 .nil (.p (.int .i64 0) (.p (.string ⟨#[]⟩) (.p (.int .i64 0) (.l 1 0 .nil (.l 5 0 .nil .nil)))))))))))))))))
theorem zeroO_own (w : World) : oH w zeroO [.int .i64 0, .string ⟨#[]⟩, .int .i64 0, .int .i64 0, .int .i64 0, .bool false, .slice none 0 0, .int .i64 0, .string ⟨#[]⟩, .int .i64 0, .slice none 0 0, .slice none 0 0, .int .i64 0, .string ⟨#[]⟩, .int .i64 0, .slice none 0 0, .slice none 0 0] [] := by
  have n1 : oS w 1 0 .nil (.slice none 0 0) [] := ⟨by decide, 0, [], [], World.ownsRow_nil _ _ _ _, ⟨rfl, rfl⟩, rfl⟩
  have n5 : oS w 5 0 .nil (.slice none 0 0) [] := ⟨by decide, 0, [], [], World.ownsRow_nil _ _ _ _, ⟨rfl, rfl⟩, rfl⟩
  exact oH.consP _ (oH.consP _ (oH.consP _ (oH.consP _ (oH.consP _ (oH.consP _ (oH.consS (S1 := []) (S2 := []) n1 (oH.consP _ (oH.consP _ (oH.consP _ (oH.consS (S1 := []) (S2 := []) n1 (oH.consS (S1 := []) (S2 := []) n5 (oH.consP _ (oH.consP _ (oH.consP _ (oH.consS (S1 := []) (S2 := []) n1 (oH.consS (S1 := []) (S2 := []) n5 (oH.nil w)))))))))))))))))
theorem zeroO_ty : tyL zeroO (uE 8) := by
  have n1 : tyS 1 0 .nil 0 := ⟨by decide, rfl, by decide, rfl, trivial⟩
  have n5 : tyS 5 0 .nil 6 := ⟨by decide, rfl, by decide, rfl, trivial⟩
  have i0 : tyP (.i .i64) (.int .i64 0) := ⟨0, rfl, by constructor <;> decide⟩
  have s0 : tyP .s (.string ⟨#[]⟩) := ⟨⟨#[]⟩, rfl, Nat.zero_le _⟩
  exact ⟨_, _, rfl, i0, _, _, rfl, s0, _, _, rfl, i0, _, _, rfl, i0, _, _, rfl, i0, _, _, rfl, ⟨false, rfl⟩, _, _, rfl, n1, _, _, rfl, i0, _, _, rfl, s0, _, _, rfl, i0, _, _, rfl, n1, _, _, rfl, n5, _, _, rfl, i0, _, _, rfl, s0, _, _, rfl, i0, _, _, rfl, n1, _, _, rfl, n5, rfl⟩
theorem getEnd {w wx wy : World} {ys Z : List Value} {T : TypeId} {d : UD} {S : List Nat} (hz : objU wx (w.heap.size + 1) T Z) (hl : ys.length = Z.length) (ho : oH wx d ys S) (hS : own2 S (w.heap.size + 2) wx.heap.size) (hb : Below w.heap.size w wx) (e : wy = wx.setCells (w.heap.size + 1) 0 ys) :
    objU wy (w.heap.size + 1) T ys ∧ oH wy d ys S ∧ own2 S w.heap.size wy.heap.size ∧ Below w.heap.size w wy := by
  have hout : OutS [w.heap.size + 1] wx wy := by subst e; exact OutS.setCells ys 0 wx
  refine ⟨?_, ho.outS hout (fun g hg => by have := hS.2 g hg; simp; omega), ⟨hS.1, fun s hs => by have := hS.2 s hs; have := hout.size; omega⟩, hb.trans (hout.below (fun t ht => by simp at ht; omega) hb.size)⟩
  have := objU.setCells ys Z [] [] wx (by simpa using hz) hl.symm
  subst e
  simpa using this
set_option maxRecDepth 20000 in
set_option maxHeartbeats 3200000 in
theorem l7Find_any {lo hi : Nat} (n : Nat) (cs : UD) (c : Value) (kind : Int) (name : ByteArray) (r : Int) (w : World) (ht : tyS 17 n cs 8) (hx : uS w lo hi 17 n cs c) (hr : placeU cs n kind name r) :
    Calls Try.prog 46 #[c, .int .i64 kind, .string name] w fun e w' => e = .returned (.int .i64 r) ∧ Below w.heap.size w w' := by
  obtain ⟨a0, p0, rfl, -⟩ := uS.slice_of6 hx
  have S0 := uhide hx
  have Ht := uhide ht
  have HR := uhide hr
  have hmx := ht.2.2.1
  unfold maxLen at hmx
  clear hx ht hr
  go_enter Try.func46, Try.ntmps46
  go_wp2
  go_loopw [7] (fun i wr => ∃ q : Nat, q ≤ n ∧ i = .int .i64 q ∧ Hid (∀ j, j < q → ¬ hitU cs kind name j) ∧ Hid (Below w.heap.size w wr)) (fun i _ => n - (intOf i).toNat)
  case atStart => exact ⟨0, Nat.zero_le _, rfl, fun j hj => by omega, Below.refl _ _⟩
  case round =>
    obtain ⟨q, hq, rfl, HO, HB⟩ := hrel
    by_cases hlt : q < n
    · obtain ⟨b, off, rfl, hbr, hm⟩ := (S0.out.below HB.out).cells (by omega)
      have htr := Ht.out.row hlt
      obtain ⟨z0, z1, z2, z3, z4, z5, n6, c6, z7, z8, z9, n10, c10, n11, c11, z12, z13, z14, n15, c15, n16, c16, hR0, -⟩ := partsObj htr
      obtain ⟨xr, hxr, hcl⟩ := (hm.row 17 q).hand
      rw [hR0] at hxr
      obtain ⟨_, rfl, ⟨_, rfl, _⟩⟩ := hxr
      have x0 : wr.cell? ⟨b, off + q * 17, none⟩ = some (.int .i64 z0) := hcl 0 _ rfl
      have x1 : wr.cell? ⟨b, off + q * 17 + 1, none⟩ = some (.string z1) := hcl 1 _ rfl
      have HH : Hid (hitU cs kind name q ↔ z0 = kind ∧ z1 = name) := by unfold hitU; rw [hR0]; exact Iff.rfl
      have HN : Hid (¬ hitU cs kind name q → ∀ j, j < q + 1 → ¬ hitU cs kind name j) := fun h j hj => by
        by_cases e : j = q
        · subst e; exact h
        · exact HO.out j (by omega)
      have hqn : (q : Int) < (n : Int) := by omega
      have hq0 : (0 : Int) ≤ (q : Int) := Int.natCast_nonneg _
      clear hcl hm htr hR0
      by_cases h1 : z0 = kind
      · have c1 : (z0 == kind) = true := by simpa using h1
        by_cases h2 : z1 = name
        · have c2 : (z1.toList == name.toList) = true := by rw [h2]; simp
          have hrq : r = q := HR.out.hit hlt (HH.out.2 ⟨h1, h2⟩) HO.out
          subst hrq
          clear h1 h2 HH HN
          go_wp2
          go_ret
          exact ⟨rfl, HB.out⟩
        · have c2 : (z1.toList == name.toList) = false := by rw [beqT]; exact decide_eq_false h2
          have HN2 := uhide (HN.out (fun h => h2 (HH.out.1 h).2))
          clear h1 h2 HH HN
          go_wp2
          go_roundw
          case rel => exact ⟨q + 1, by omega, by go_num, HN2, HB⟩
          case measure => simp [intOf]; omega
      · have c1 : (z0 == kind) = false := by simpa using h1
        have HN2 := uhide (HN.out (fun h => h1 (HH.out.1 h).1))
        clear h1 HH HN
        go_wp2
        go_roundw
        case rel => exact ⟨q + 1, by omega, by go_num, HN2, HB⟩
        case measure => simp [intOf]; omega
    · have e : q = n := by omega
      subst e
      have hrm : r = -1 := HR.out.miss HO.out
      subst hrm
      go_wp2
      go_ret
      exact ⟨rfl, HB.out⟩
set_option maxRecDepth 40000 in
set_option maxHeartbeats 3200000 in
theorem sGet_N {lo hi : Nat} (n : Nat) (cs : UD) (rev next : Int) (n3 : Nat) (c3 : UD) (kind : Int) (name : ByteArray) (r : Int) (xs : List Value) (w : World) (ht : tyS 17 n cs 8) (hwt : n + wt cs ≤ 1048576) (hx : uH w lo hi (.l 17 n cs (.p (.int .i64 rev) (.p (.int .i64 next) (.l 19 n3 c3 .nil)))) xs) (hr : placeU cs n kind name r) :
    Calls Try.prog 17 #[.agg xs.toArray, .int .i64 kind, .string name] w fun e w' => gotU w w' (if r < 0 then zeroO else rowU cs 17 r.toNat) (decide (0 ≤ r)) e := by
  obtain ⟨v0, _, rfl, s0, ⟨_, rfl, ⟨_, rfl, ⟨v3, _, rfl, _, rfl⟩⟩⟩⟩ := hx
  obtain ⟨a0, p0, rfl, -⟩ := uS.slice_of6 s0
  have S0 := uhide s0
  have Ht := uhide ht
  have HR := uhide hr
  have hn8 : n ≤ 1048576 := by omega
  have HW : Hid (wt cs ≤ 1048576) := by show _ ≤ _; omega
  have BX : Hid (Below w.heap.size w ((w.alloc (.cells #[.slice a0 n p0, .int .i64 rev, .int .i64 next, v3] 25)).alloc (.cells [.int .i64 0, .string ⟨#[]⟩, .int .i64 0, .int .i64 0, .int .i64 0, .bool false, .slice none 0 0, .int .i64 0, .string ⟨#[]⟩, .int .i64 0, .slice none 0 0, .slice none 0 0, .int .i64 0, .string ⟨#[]⟩, .int .i64 0, .slice none 0 0, .slice none 0 0].toArray 43))) := ((Below.refl _ _).alloc (Nat.le_refl _) _).alloc (by simp) _
  have OX : Hid (objU ((w.alloc (.cells #[.slice a0 n p0, .int .i64 rev, .int .i64 next, v3] 25)).alloc (.cells [.int .i64 0, .string ⟨#[]⟩, .int .i64 0, .int .i64 0, .int .i64 0, .bool false, .slice none 0 0, .int .i64 0, .string ⟨#[]⟩, .int .i64 0, .slice none 0 0, .slice none 0 0, .int .i64 0, .string ⟨#[]⟩, .int .i64 0, .slice none 0 0, .slice none 0 0].toArray 43)) w.heap.size 25 [.slice a0 n p0, .int .i64 rev, .int .i64 next, v3]) := (objU.new _ _ _).old _
  have OZ : Hid (objU ((w.alloc (.cells #[.slice a0 n p0, .int .i64 rev, .int .i64 next, v3] 25)).alloc (.cells [.int .i64 0, .string ⟨#[]⟩, .int .i64 0, .int .i64 0, .int .i64 0, .bool false, .slice none 0 0, .int .i64 0, .string ⟨#[]⟩, .int .i64 0, .slice none 0 0, .slice none 0 0, .int .i64 0, .string ⟨#[]⟩, .int .i64 0, .slice none 0 0, .slice none 0 0].toArray 43)) (w.heap.size + 1) 43 [.int .i64 0, .string ⟨#[]⟩, .int .i64 0, .int .i64 0, .int .i64 0, .bool false, .slice none 0 0, .int .i64 0, .string ⟨#[]⟩, .int .i64 0, .slice none 0 0, .slice none 0 0, .int .i64 0, .string ⟨#[]⟩, .int .i64 0, .slice none 0 0, .slice none 0 0]) := objU.new2 _ _ (by simp)
  have SZ : Hid (w.heap.size + 2 ≤ ((w.alloc (.cells #[.slice a0 n p0, .int .i64 rev, .int .i64 next, v3] 25)).alloc (.cells [.int .i64 0, .string ⟨#[]⟩, .int .i64 0, .int .i64 0, .int .i64 0, .bool false, .slice none 0 0, .int .i64 0, .string ⟨#[]⟩, .int .i64 0, .slice none 0 0, .slice none 0 0, .int .i64 0, .string ⟨#[]⟩, .int .i64 0, .slice none 0 0, .slice none 0 0].toArray 43)).heap.size) := by show _ ≤ _; simp
  have HF : Hid (∀ wx, Below w.heap.size w wx → Calls Try.prog 46 #[.slice a0 n p0, .int .i64 kind, .string name] wx fun e w' => e = .returned (.int .i64 r) ∧ Hid (Below wx.heap.size wx w')) := fun wx hb => l7Find_any n cs _ kind name r wx ht (s0.below hb) hr
  have FZ0 : Hid ((Try.prog.info? 43).map (·.size) = some ([.int .i64 0, .string ⟨#[]⟩, .int .i64 0, .int .i64 0, .int .i64 0, .bool false, .slice none 0 0, .int .i64 0, .string ⟨#[]⟩, .int .i64 0, .slice none 0 0, .slice none 0 0, .int .i64 0, .string ⟨#[]⟩, .int .i64 0, .slice none 0 0, .slice none 0 0] : List Value).length) := Try.zObj_impl_Obj
  have ONE0 : Hid (∀ u ∈ ([.int .i64 0, .string ⟨#[]⟩, .int .i64 0, .int .i64 0, .int .i64 0, .bool false, .slice none 0 0, .int .i64 0, .string ⟨#[]⟩, .int .i64 0, .slice none 0 0, .slice none 0 0, .int .i64 0, .string ⟨#[]⟩, .int .i64 0, .slice none 0 0, .slice none 0 0] : List Value), u.oneCell' = true) := ones_own zeroO_ty (zeroO_own w)
  clear s0 ht hwt hr
  go_enter Try.func17, Try.ntmps17
  go_wp2_with fail
  refine (HF.out _ BX.out).mono ?_
  rintro e w2 ⟨rfl, hb⟩
  have OX2 := uhide (OX.out.below hb.out)
  have OZ2 := uhide (OZ.out.below hb.out)
  have B2 : Hid (Below w.heap.size w w2) := BX.out.trans (hb.out.mono BX.out.size)
  have SZ2 : Hid (w.heap.size + 2 ≤ w2.heap.size) := Nat.le_trans SZ.out hb.out.size
  clear HF OX OZ BX SZ hb
  rcases HR.out with ⟨rfl, _⟩ | ⟨p, rfl, hp, _, _⟩
  · clear HR
    have TH0 : Hid (w2.there (w.heap.size + 1) 0 ([.int .i64 0, .string ⟨#[]⟩, .int .i64 0, .int .i64 0, .int .i64 0, .bool false, .slice none 0 0, .int .i64 0, .string ⟨#[]⟩, .int .i64 0, .slice none 0 0, .slice none 0 0, .int .i64 0, .string ⟨#[]⟩, .int .i64 0, .slice none 0 0, .slice none 0 0] : List Value).length) := OZ2.out.there 0 17 (by decide)
    go_wp2_with (first
      | ((with_reducible refine wpList_store_cells ?qqg177 43 ?qqx177 ?qqy177 ?qqo177 ?qqd177 (w.heap.size + 1) 0 ?qqh177 (.agg [.int .i64 0, .string ⟨#[]⟩, .int .i64 0, .int .i64 0, .int .i64 0, .bool false, .slice none 0 0, .int .i64 0, .string ⟨#[]⟩, .int .i64 0, .slice none 0 0, .slice none 0 0, .int .i64 0, .string ⟨#[]⟩, .int .i64 0, .slice none 0 0, .slice none 0 0].toArray) ?qqv177 [.int .i64 0, .string ⟨#[]⟩, .int .i64 0, .int .i64 0, .int .i64 0, .bool false, .slice none 0 0, .int .i64 0, .string ⟨#[]⟩, .int .i64 0, .slice none 0 0, .slice none 0 0, .int .i64 0, .string ⟨#[]⟩, .int .i64 0, .slice none 0 0, .slice none 0 0] cells_agg ONE0.out FZ0.out TH0.out ?_); (case qqg177 => rfl); (case qqo177 => rfl); (case qqd177 => rfl); (case qqh177 => simp [Act.eval, Act.put]); (case qqv177 => simp [Act.eval, Act.put]); intro wy ey; have HE := uhide (getEnd (d := zeroO) (S := []) OZ2.out rfl (zeroO_own w2) (own2.nil _ _) B2.out ey); clear ey)
      )
    obtain ⟨e1, e2, e3, e4⟩ := HE.out
    refine bodyPost_ret (v := .tuple #[.agg [.int .i64 0, .string ⟨#[]⟩, .int .i64 0, .int .i64 0, .int .i64 0, .bool false, .slice none 0 0, .int .i64 0, .string ⟨#[]⟩, .int .i64 0, .slice none 0 0, .slice none 0 0, .int .i64 0, .string ⟨#[]⟩, .int .i64 0, .slice none 0 0, .slice none 0 0].toArray, .bool false]) ?_ rfl (gotU.mk' e2 e3 e4)
    exact results_row_tmp rfl _ _ (w.heap.size + 1) _ _ (by simp [Act.put]) e1 Try.rObj_impl_Obj FZ0.out _ (by simp [Act.put])
  · have c0 : ¬ ((p : Int) < 0) := by omega
    have htr := Ht.out.row hp
    obtain ⟨b, off, rfl, hbr, hm⟩ := (S0.out.below B2.out).cells (by omega)
    obtain ⟨xr, hxr, hcl⟩ := (hm.row 17 p).hand
    have hwr : wt (rowU cs 17 p) ≤ 1048576 := by have := wt_row cs 17 p; have := HW.out; omega
    have RG : Hid (w2.rangeAt b (off + p * 17) xr) := hcl
    have FZ : Hid ((Try.prog.info? 43).map (·.size) = some xr.length) := by show _ = _; rw [hxr.len, tyL.len htr]; exact Try.zObj_impl_Obj
    have HCO : Hid (∀ wx, Below w2.heap.size w2 wx → Calls Try.prog 47 #[.agg xr.toArray] wx fun e w' => ∃ ys T, e = .returned (.agg ys.toArray) ∧ ys.length = 17 ∧ Hid (oH w' (rowU cs 17 p) ys T) ∧ Hid (own2 T wx.heap.size w'.heap.size) ∧ Hid (∀ u ∈ ys, u.oneCell' = true) ∧ Hid (Below wx.heap.size wx w')) := fun wx hb => (l7Copy_N (lo := lo) (hi := hi) _ xr wx htr hwr (hxr.below hb)).mono fun e w' ⟨ys, T, q1, q2, q3, q4⟩ => ⟨ys, T, q1, q2.len.trans (tyL.len htr), q2, q3, ones_own htr q2, q4⟩
    have hqn : (p : Int) < (n : Int) := by omega
    have hq0 : (0 : Int) ≤ (p : Int) := Int.natCast_nonneg _
    clear hxr hcl hm htr hwr HR
    have x0 := OX2.out.cell 0 _ rfl
    go_wp2_with (first
      | ((with_reducible refine wpList_load_row2 ?qqg195 43 ?qqx195 ?qqo195 b (off + p * 17) ?qqh195 xr Try.rObj_impl_Obj FZ.out RG.out ?_); (case qqg195 => rfl); (case qqo195 => rfl); (case qqh195 => simp [Act.eval, Act.put]))
      )
    refine (HCO.out w2 (Below.refl _ _)).mono ?_
    rintro e w3 ⟨ys, T, rfl, hyl, ho, hT, hone, hb3⟩
    have OZ3 := uhide (OZ2.out.below hb3.out)
    have B3 : Hid (Below w.heap.size w w3) := B2.out.trans (hb3.out.mono B2.out.size)
    have hT3 : Hid (own2 T (w.heap.size + 2) w3.heap.size) := hT.out.mono SZ2.out (Nat.le_refl _)
    have FY : Hid ((Try.prog.info? 43).map (·.size) = some ys.length) := by show _ = _; rw [hyl]; exact Try.zObj_impl_Obj
    have THY : Hid (w3.there (w.heap.size + 1) 0 ys.length) := by show World.there _ _ _ _; rw [hyl]; exact OZ3.out.there 0 17 (by decide)
    go_wp2_with (first
      | ((with_reducible refine wpList_store_cells ?qqg205 43 ?qqx205 ?qqy205 ?qqo205 ?qqd205 (w.heap.size + 1) 0 ?qqh205 (.agg ys.toArray) ?qqv205 ys cells_agg hone.out FY.out THY.out ?_); (case qqg205 => rfl); (case qqo205 => rfl); (case qqd205 => rfl); (case qqh205 => simp [Act.eval, Act.put]); (case qqv205 => simp [Act.eval, Act.put]); intro wz ez; have HE := uhide (getEnd OZ3.out hyl ho.out hT3.out B3.out ez); clear ez)
      )
    obtain ⟨e1, e2, e3, e4⟩ := HE.out
    refine bodyPost_ret (v := .tuple #[.agg ys.toArray, .bool true]) ?_ rfl (gotU.mk' e2 e3 e4)
    exact results_row_tmp rfl _ _ (w.heap.size + 1) _ _ (by simp [Act.put]) e1 Try.rObj_impl_Obj FY.out _ (by simp [Act.put])
set_option maxRecDepth 40000 in
set_option maxHeartbeats 3200000 in
theorem iGet_N (n : Nat) (cs : UD) (rev next : Int) (n3 : Nat) (c3 : UD) (kind : Int) (name : ByteArray) (r : Int) (xs : List Value) (Sx : List Nat) (w : World) (ht : tyS 17 n cs 8) (hwt : n + wt cs ≤ 1048576) (hx : oH w (.l 17 n cs (.p (.int .i64 rev) (.p (.int .i64 next) (.l 19 n3 c3 .nil)))) xs Sx) (hS : Sx.Nodup) (hr : placeU cs n kind name r) :
    Calls Try.prog 18 #[.agg xs.toArray, .int .i64 kind, .string name] w fun e w' => gotU w w' (if r < 0 then zeroO else rowU cs 17 r.toNat) (decide (0 ≤ r)) e := by
  obtain ⟨v0, _, S1, _, rfl, rfl, hk0, ⟨e0, zs0, o0, m0⟩, ⟨_, rfl, ⟨_, rfl, ⟨v3, _, _, _, rfl, rfl, _, _, ⟨rfl, rfl⟩⟩⟩⟩⟩ := hx
  have hS1 : S1.Nodup := by simp only [List.nodup_append] at hS; exact hS.1.2.1
  obtain ⟨a0, p0, rfl⟩ := uowns_slice o0
  have O0 := uhide o0
  have M0 := uhide m0
  have HS1 := uhide hS1
  have Ht := uhide ht
  have HR := uhide hr
  have hn8 : n ≤ 1048576 := by omega
  have HW : Hid (wt cs ≤ 1048576) := by show _ ≤ _; omega
  have BX : Hid (Below w.heap.size w ((w.alloc (.cells #[.slice a0 n p0, .int .i64 rev, .int .i64 next, v3] 25)).alloc (.cells [.int .i64 0, .string ⟨#[]⟩, .int .i64 0, .int .i64 0, .int .i64 0, .bool false, .slice none 0 0, .int .i64 0, .string ⟨#[]⟩, .int .i64 0, .slice none 0 0, .slice none 0 0, .int .i64 0, .string ⟨#[]⟩, .int .i64 0, .slice none 0 0, .slice none 0 0].toArray 43))) := ((Below.refl _ _).alloc (Nat.le_refl _) _).alloc (by simp) _
  have OX : Hid (objU ((w.alloc (.cells #[.slice a0 n p0, .int .i64 rev, .int .i64 next, v3] 25)).alloc (.cells [.int .i64 0, .string ⟨#[]⟩, .int .i64 0, .int .i64 0, .int .i64 0, .bool false, .slice none 0 0, .int .i64 0, .string ⟨#[]⟩, .int .i64 0, .slice none 0 0, .slice none 0 0, .int .i64 0, .string ⟨#[]⟩, .int .i64 0, .slice none 0 0, .slice none 0 0].toArray 43)) w.heap.size 25 [.slice a0 n p0, .int .i64 rev, .int .i64 next, v3]) := (objU.new _ _ _).old _
  have OZ : Hid (objU ((w.alloc (.cells #[.slice a0 n p0, .int .i64 rev, .int .i64 next, v3] 25)).alloc (.cells [.int .i64 0, .string ⟨#[]⟩, .int .i64 0, .int .i64 0, .int .i64 0, .bool false, .slice none 0 0, .int .i64 0, .string ⟨#[]⟩, .int .i64 0, .slice none 0 0, .slice none 0 0, .int .i64 0, .string ⟨#[]⟩, .int .i64 0, .slice none 0 0, .slice none 0 0].toArray 43)) (w.heap.size + 1) 43 [.int .i64 0, .string ⟨#[]⟩, .int .i64 0, .int .i64 0, .int .i64 0, .bool false, .slice none 0 0, .int .i64 0, .string ⟨#[]⟩, .int .i64 0, .slice none 0 0, .slice none 0 0, .int .i64 0, .string ⟨#[]⟩, .int .i64 0, .slice none 0 0, .slice none 0 0]) := objU.new2 _ _ (by simp)
  have SZ : Hid (w.heap.size + 2 ≤ ((w.alloc (.cells #[.slice a0 n p0, .int .i64 rev, .int .i64 next, v3] 25)).alloc (.cells [.int .i64 0, .string ⟨#[]⟩, .int .i64 0, .int .i64 0, .int .i64 0, .bool false, .slice none 0 0, .int .i64 0, .string ⟨#[]⟩, .int .i64 0, .slice none 0 0, .slice none 0 0, .int .i64 0, .string ⟨#[]⟩, .int .i64 0, .slice none 0 0, .slice none 0 0].toArray 43)).heap.size) := by show _ ≤ _; simp
  have FZ0 : Hid ((Try.prog.info? 43).map (·.size) = some ([.int .i64 0, .string ⟨#[]⟩, .int .i64 0, .int .i64 0, .int .i64 0, .bool false, .slice none 0 0, .int .i64 0, .string ⟨#[]⟩, .int .i64 0, .slice none 0 0, .slice none 0 0, .int .i64 0, .string ⟨#[]⟩, .int .i64 0, .slice none 0 0, .slice none 0 0] : List Value).length) := Try.zObj_impl_Obj
  have ONE0 : Hid (∀ u ∈ ([.int .i64 0, .string ⟨#[]⟩, .int .i64 0, .int .i64 0, .int .i64 0, .bool false, .slice none 0 0, .int .i64 0, .string ⟨#[]⟩, .int .i64 0, .slice none 0 0, .slice none 0 0, .int .i64 0, .string ⟨#[]⟩, .int .i64 0, .slice none 0 0, .slice none 0 0] : List Value), u.oneCell' = true) := ones_own zeroO_ty (zeroO_own w)
  clear o0 m0 hS1 hS ht hwt hr
  go_enter Try.func18, Try.ntmps18
  go_wp2_with fail
  go_loopw [13] (fun i wr => ∃ q : Nat, q ≤ n ∧ i = .int .i64 q ∧ Hid (∀ j, j < q → ¬ hitU cs kind name j) ∧ Hid (objU wr (w.heap.size + 1) 43 [.int .i64 0, .string ⟨#[]⟩, .int .i64 0, .int .i64 0, .int .i64 0, .bool false, .slice none 0 0, .int .i64 0, .string ⟨#[]⟩, .int .i64 0, .slice none 0 0, .slice none 0 0, .int .i64 0, .string ⟨#[]⟩, .int .i64 0, .slice none 0 0, .slice none 0 0]) ∧ Hid (w.heap.size + 2 ≤ wr.heap.size) ∧ Hid (Below w.heap.size w wr)) (fun i _ => n - (intOf i).toNat)
  case atStart => exact ⟨0, Nat.zero_le _, rfl, fun j hj => by omega, OZ, SZ, BX⟩
  case round =>
    clear BX OX OZ SZ
    obtain ⟨q, hq, rfl, HO, OZ, SZ, HB⟩ := hrel
    by_cases hlt : q < n
    · obtain ⟨xr, Sq, hxr, hsq, hnq, hcq⟩ := M0.out.rowAt 17 q
      have htr := Ht.out.row hlt
      obtain ⟨z0, z1, z2, z3, z4, z5, n6, c6, z7, z8, z9, n10, c10, n11, c11, z12, z13, z14, n15, c15, n16, c16, hR0, -⟩ := partsObj htr
      have hwr : wt (rowU cs 17 q) ≤ 1048576 := by have := wt_row cs 17 q; have := HW.out; omega
      have hxl : xr.length = 17 := hxr.len.trans (tyL.len htr)
      obtain ⟨b, rfl⟩ : ∃ b, a0 = some ⟨b, 0, none⟩ := by
        rcases O0.out.2 with ⟨h, h1⟩ | ⟨g, cap, cur, h, _⟩
        · omega
        · cases h; exact ⟨g, rfl⟩
      have hbw : b < w.heap.size := (ublk_lt O0.out b (by simp [blkOf, Value.ownBlock])).2
      have RG : Hid (wr.rangeAt b (q * 17) xr) := fun j v hj => by
        have hj17 : j < 17 := by have := (List.getElem?_eq_some_iff.1 hj).1; omega
        have h1 : w.cell? ⟨b, q * 17 + j, none⟩ = some v := by rw [O0.out.cellAt (q * 17 + j) (by omega)]; exact hcq j v hj
        rw [HB.out.cell (p := ⟨b, q * 17 + j, none⟩) hbw]; exact h1
      have FZ : Hid ((Try.prog.info? 43).map (·.size) = some xr.length) := by show _ = _; rw [hxl]; exact Try.zObj_impl_Obj
      have HU : Hid (∀ u ∈ xr, u.oneCell' = true) := ones_own htr hxr
      have hx01 : xr[0]? = some (.int .i64 z0) ∧ xr[1]? = some (.string z1) := by
        have h := hxr
        rw [hR0] at h
        obtain ⟨_, rfl, ⟨_, rfl, _⟩⟩ := h
        exact ⟨rfl, rfl⟩
      have HX := uhide hx01
      have HCO : Hid (∀ wx, Below wr.heap.size wr wx → Calls Try.prog 48 #[.agg xr.toArray] wx fun e w' => ∃ ys T, e = .returned (.agg ys.toArray) ∧ ys.length = 17 ∧ Hid (oH w' (rowU cs 17 q) ys T) ∧ Hid (own2 T wx.heap.size w'.heap.size) ∧ Hid (∀ u ∈ ys, u.oneCell' = true) ∧ Hid (Below wx.heap.size wx w')) := fun wx hb => (copyOfObj_N _ xr Sq wx htr hwr ((hxr.below HB.out).below hb) (hnq HS1.out)).mono fun e w' ⟨ys, T, q1, q2, q3, q4⟩ => ⟨ys, T, q1, q2.len.trans (tyL.len htr), q2, q3, ones_own htr q2, q4⟩
      have HH : Hid (hitU cs kind name q ↔ z0 = kind ∧ z1 = name) := by unfold hitU; rw [hR0]; exact Iff.rfl
      have HN : Hid (¬ hitU cs kind name q → ∀ j, j < q + 1 → ¬ hitU cs kind name j) := fun h j hj => by
        by_cases e : j = q
        · subst e; exact h
        · exact HO.out j (by omega)
      have TH : Hid ((wr.alloc (.cells [.int .i64 0, .string ⟨#[]⟩, .int .i64 0, .int .i64 0, .int .i64 0, .bool false, .slice none 0 0, .int .i64 0, .string ⟨#[]⟩, .int .i64 0, .slice none 0 0, .slice none 0 0, .int .i64 0, .string ⟨#[]⟩, .int .i64 0, .slice none 0 0, .slice none 0 0].toArray 43)).there wr.heap.size 0 xr.length) := by show World.there _ _ _ _; rw [hxl]; exact (objU.new wr 43 [.int .i64 0, .string ⟨#[]⟩, .int .i64 0, .int .i64 0, .int .i64 0, .bool false, .slice none 0 0, .int .i64 0, .string ⟨#[]⟩, .int .i64 0, .slice none 0 0, .slice none 0 0, .int .i64 0, .string ⟨#[]⟩, .int .i64 0, .slice none 0 0, .slice none 0 0]).there 0 17 (by decide)
      have hqn : (q : Int) < (n : Int) := by omega
      have hq0 : (0 : Int) ≤ (q : Int) := Int.natCast_nonneg _
      clear hxr hsq hnq hcq hR0 hwr htr hx01
      by_cases h1 : z0 = kind
      · have c1 : (z0 == kind) = true := by simpa using h1
        by_cases h2 : z1 = name
        · have c2 : (z1.toList == name.toList) = true := by rw [h2]; simp
          have hrq : r = q := HR.out.hit hlt (HH.out.2 ⟨h1, h2⟩) HO.out
          subst hrq
          have c0 : ¬ ((q : Int) < 0) := by omega
          clear h1 h2 HH HN HR c0
          go_wp2_with (first
            | ((with_reducible refine wpList_load_row2 ?qqg282 43 ?qqx282 ?qqo282 b (q * 17) ?qqh282 xr Try.rObj_impl_Obj FZ.out RG.out ?_); (case qqg282 => rfl); (case qqo282 => rfl); (case qqh282 => simp [Act.eval, Act.put]))
            | ((with_reducible refine wpList_store_cells ?qqg283 43 ?qqx283 ?qqy283 ?qqo283 ?qqd283 wr.heap.size 0 ?qqh283 (.agg xr.toArray) ?qqv283 xr cells_agg HU.out FZ.out TH.out ?_); (case qqg283 => rfl); (case qqo283 => rfl); (case qqd283 => rfl); (case qqh283 => simp [Act.eval, Act.put]); (case qqv283 => simp [Act.eval, Act.put]); intro wy ey; have OY := uhide (getBox wr 43 xr [.int .i64 0, .string ⟨#[]⟩, .int .i64 0, .int .i64 0, .int .i64 0, .bool false, .slice none 0 0, .int .i64 0, .string ⟨#[]⟩, .int .i64 0, .slice none 0 0, .slice none 0 0, .int .i64 0, .string ⟨#[]⟩, .int .i64 0, .slice none 0 0, .slice none 0 0] (by rw [hxl]; rfl) wy ey); have BY : Hid (Below wr.heap.size wr wy) := OY.out.2; have RX : Hid (wy.rangeAt wr.heap.size 0 xr) := OY.out.1.range 0 xr (fun j v h => by rw [Nat.zero_add]; exact h); have k0 := OY.out.1.cell 0 _ HX.out.1; have k1 := OY.out.1.cell 1 _ HX.out.2; clear ey OY)
            | ((with_reducible refine wpList_load_row2 ?qqg284 43 ?qqx284 ?qqo284 wr.heap.size 0 ?qqh284 xr Try.rObj_impl_Obj FZ.out RX.out ?_); (case qqg284 => rfl); (case qqo284 => rfl); (case qqh284 => simp [Act.eval, Act.put]))
            )
          refine (HCO.out wy BY.out).mono ?_
          rintro e w3 ⟨ys, T, rfl, hyl, ho, hT, hone, hb3⟩
          have B03 : Hid (Below wr.heap.size wr w3) := BY.out.trans (hb3.out.mono BY.out.size)
          have OZ3 := uhide (OZ.out.below B03.out)
          have B3 : Hid (Below w.heap.size w w3) := HB.out.trans (B03.out.mono HB.out.size)
          have hT3 : Hid (own2 T (w.heap.size + 2) w3.heap.size) := hT.out.mono (Nat.le_trans SZ.out BY.out.size) (Nat.le_refl _)
          have FY : Hid ((Try.prog.info? 43).map (·.size) = some ys.length) := by show _ = _; rw [hyl]; exact Try.zObj_impl_Obj
          have THY : Hid (w3.there (w.heap.size + 1) 0 ys.length) := by show World.there _ _ _ _; rw [hyl]; exact OZ3.out.there 0 17 (by decide)
          go_wp2_with (first
            | ((with_reducible refine wpList_store_cells ?qqg295 43 ?qqx295 ?qqy295 ?qqo295 ?qqd295 (w.heap.size + 1) 0 ?qqh295 (.agg ys.toArray) ?qqv295 ys cells_agg hone.out FY.out THY.out ?_); (case qqg295 => rfl); (case qqo295 => rfl); (case qqd295 => rfl); (case qqh295 => simp [Act.eval, Act.put]); (case qqv295 => simp [Act.eval, Act.put]); intro wz ez; have HE := uhide (getEnd OZ3.out hyl ho.out hT3.out B3.out ez); clear ez)
            )
          obtain ⟨e1, e2, e3, e4⟩ := HE.out
          refine bodyPost_ret (v := .tuple #[.agg ys.toArray, .bool true]) ?_ rfl (gotU.mk' e2 e3 e4)
          exact results_row_tmp rfl _ _ (w.heap.size + 1) _ _ (by simp [Act.put]) e1 Try.rObj_impl_Obj FY.out _ (by simp [Act.put])
        · have c2 : (z1.toList == name.toList) = false := by rw [beqT]; exact decide_eq_false h2
          have HN2 := uhide (HN.out (fun h => h2 (HH.out.1 h).2))
          clear h1 h2 HH HN
          go_wp2_with (first
            | ((with_reducible refine wpList_load_row2 ?qqg304 43 ?qqx304 ?qqo304 b (q * 17) ?qqh304 xr Try.rObj_impl_Obj FZ.out RG.out ?_); (case qqg304 => rfl); (case qqo304 => rfl); (case qqh304 => simp [Act.eval, Act.put]))
            | ((with_reducible refine wpList_store_cells ?qqg305 43 ?qqx305 ?qqy305 ?qqo305 ?qqd305 wr.heap.size 0 ?qqh305 (.agg xr.toArray) ?qqv305 xr cells_agg HU.out FZ.out TH.out ?_); (case qqg305 => rfl); (case qqo305 => rfl); (case qqd305 => rfl); (case qqh305 => simp [Act.eval, Act.put]); (case qqv305 => simp [Act.eval, Act.put]); intro wy ey; have OY := uhide (getBox wr 43 xr [.int .i64 0, .string ⟨#[]⟩, .int .i64 0, .int .i64 0, .int .i64 0, .bool false, .slice none 0 0, .int .i64 0, .string ⟨#[]⟩, .int .i64 0, .slice none 0 0, .slice none 0 0, .int .i64 0, .string ⟨#[]⟩, .int .i64 0, .slice none 0 0, .slice none 0 0] (by rw [hxl]; rfl) wy ey); have BY : Hid (Below wr.heap.size wr wy) := OY.out.2; have RX : Hid (wy.rangeAt wr.heap.size 0 xr) := OY.out.1.range 0 xr (fun j v h => by rw [Nat.zero_add]; exact h); have k0 := OY.out.1.cell 0 _ HX.out.1; have k1 := OY.out.1.cell 1 _ HX.out.2; clear ey OY)
            )
          have OZ3 := uhide (OZ.out.below BY.out)
          have B3 : Hid (Below w.heap.size w wy) := HB.out.trans (BY.out.mono HB.out.size)
          have SZ3 : Hid (w.heap.size + 2 ≤ wy.heap.size) := Nat.le_trans SZ.out BY.out.size
          go_roundw
          case rel => exact ⟨q + 1, by omega, by go_num, HN2, OZ3, SZ3, B3⟩
          case measure => simp [intOf]; omega
      · have c1 : (z0 == kind) = false := by simpa using h1
        have HN2 := uhide (HN.out (fun h => h1 (HH.out.1 h).1))
        clear h1 HH HN
        go_wp2_with (first
          | ((with_reducible refine wpList_load_row2 ?qqg317 43 ?qqx317 ?qqo317 b (q * 17) ?qqh317 xr Try.rObj_impl_Obj FZ.out RG.out ?_); (case qqg317 => rfl); (case qqo317 => rfl); (case qqh317 => simp [Act.eval, Act.put]))
          | ((with_reducible refine wpList_store_cells ?qqg318 43 ?qqx318 ?qqy318 ?qqo318 ?qqd318 wr.heap.size 0 ?qqh318 (.agg xr.toArray) ?qqv318 xr cells_agg HU.out FZ.out TH.out ?_); (case qqg318 => rfl); (case qqo318 => rfl); (case qqd318 => rfl); (case qqh318 => simp [Act.eval, Act.put]); (case qqv318 => simp [Act.eval, Act.put]); intro wy ey; have OY := uhide (getBox wr 43 xr [.int .i64 0, .string ⟨#[]⟩, .int .i64 0, .int .i64 0, .int .i64 0, .bool false, .slice none 0 0, .int .i64 0, .string ⟨#[]⟩, .int .i64 0, .slice none 0 0, .slice none 0 0, .int .i64 0, .string ⟨#[]⟩, .int .i64 0, .slice none 0 0, .slice none 0 0] (by rw [hxl]; rfl) wy ey); have BY : Hid (Below wr.heap.size wr wy) := OY.out.2; have RX : Hid (wy.rangeAt wr.heap.size 0 xr) := OY.out.1.range 0 xr (fun j v h => by rw [Nat.zero_add]; exact h); have k0 := OY.out.1.cell 0 _ HX.out.1; have k1 := OY.out.1.cell 1 _ HX.out.2; clear ey OY)
          )
        have OZ3 := uhide (OZ.out.below BY.out)
        have B3 : Hid (Below w.heap.size w wy) := HB.out.trans (BY.out.mono HB.out.size)
        have SZ3 : Hid (w.heap.size + 2 ≤ wy.heap.size) := Nat.le_trans SZ.out BY.out.size
        go_roundw
        case rel => exact ⟨q + 1, by omega, by go_num, HN2, OZ3, SZ3, B3⟩
        case measure => simp [intOf]; omega
    · have e : q = n := by omega
      subst e
      have hrm : r = -1 := HR.out.miss HO.out
      subst hrm
      have TH0 : Hid (wr.there (w.heap.size + 1) 0 ([.int .i64 0, .string ⟨#[]⟩, .int .i64 0, .int .i64 0, .int .i64 0, .bool false, .slice none 0 0, .int .i64 0, .string ⟨#[]⟩, .int .i64 0, .slice none 0 0, .slice none 0 0, .int .i64 0, .string ⟨#[]⟩, .int .i64 0, .slice none 0 0, .slice none 0 0] : List Value).length) := OZ.out.there 0 17 (by decide)
      go_wp2_with (first
        | ((with_reducible refine wpList_store_cells ?qqg332 43 ?qqx332 ?qqy332 ?qqo332 ?qqd332 (w.heap.size + 1) 0 ?qqh332 (.agg [.int .i64 0, .string ⟨#[]⟩, .int .i64 0, .int .i64 0, .int .i64 0, .bool false, .slice none 0 0, .int .i64 0, .string ⟨#[]⟩, .int .i64 0, .slice none 0 0, .slice none 0 0, .int .i64 0, .string ⟨#[]⟩, .int .i64 0, .slice none 0 0, .slice none 0 0].toArray) ?qqv332 [.int .i64 0, .string ⟨#[]⟩, .int .i64 0, .int .i64 0, .int .i64 0, .bool false, .slice none 0 0, .int .i64 0, .string ⟨#[]⟩, .int .i64 0, .slice none 0 0, .slice none 0 0, .int .i64 0, .string ⟨#[]⟩, .int .i64 0, .slice none 0 0, .slice none 0 0] cells_agg ONE0.out FZ0.out TH0.out ?_); (case qqg332 => rfl); (case qqo332 => rfl); (case qqd332 => rfl); (case qqh332 => simp [Act.eval, Act.put]); (case qqv332 => simp [Act.eval, Act.put]); intro wy ey; have HE := uhide (getEnd (d := zeroO) (S := []) OZ.out rfl (zeroO_own wr) (own2.nil _ _) HB.out ey); clear ey)
        )
      obtain ⟨e1, e2, e3, e4⟩ := HE.out
      refine bodyPost_ret (v := .tuple #[.agg [.int .i64 0, .string ⟨#[]⟩, .int .i64 0, .int .i64 0, .int .i64 0, .bool false, .slice none 0 0, .int .i64 0, .string ⟨#[]⟩, .int .i64 0, .slice none 0 0, .slice none 0 0, .int .i64 0, .string ⟨#[]⟩, .int .i64 0, .slice none 0 0, .slice none 0 0].toArray, .bool false]) ?_ rfl (gotU.mk' e2 e3 e4)
      exact results_row_tmp rfl _ _ (w.heap.size + 1) _ _ (by simp [Act.put]) e1 Try.rObj_impl_Obj FZ0.out _ (by simp [Act.put])
end Go.Proofs.Ytamlgjmboljcdaa
/- Data as cells: the helpers of the laws over Change. -/
namespace Go.Proofs.Ytamlgjmboljcdaa
open Go.RowKit Go.BigFrame
set_option linter.unusedVariables false

theorem Try.rChange_int : (Try.prog.underlying 3).map TypeDesc.isRow = some false := by kernel_rfl
theorem Try.zChange_int : (Try.prog.info? 3).map (·.size) = some 1 := by kernel_rfl
theorem Try.rChange_bool : (Try.prog.underlying 4).map TypeDesc.isRow = some false := by kernel_rfl
theorem Try.zChange_bool : (Try.prog.info? 4).map (·.size) = some 1 := by kernel_rfl
theorem Try.rChange_laws_Obj : (Try.prog.underlying 88).map TypeDesc.isRow = some true := by kernel_rfl
theorem Try.zChange_laws_Obj : (Try.prog.info? 88).map (·.size) = some 17 := by kernel_rfl
theorem Try.rChange_impl_Obj : (Try.prog.underlying 43).map TypeDesc.isRow = some true := by kernel_rfl
theorem Try.zChange_impl_Obj : (Try.prog.info? 43).map (·.size) = some 17 := by kernel_rfl
theorem Try.rChange_string : (Try.prog.underlying 9).map TypeDesc.isRow = some false := by kernel_rfl
theorem Try.zChange_string : (Try.prog.info? 9).map (·.size) = some 1 := by kernel_rfl
theorem Try.rChange_Lstring : (Try.prog.underlying 38).map TypeDesc.isRow = some false := by kernel_rfl
theorem Try.zChange_Lstring : (Try.prog.info? 38).map (·.size) = some 1 := by kernel_rfl
theorem Try.rChange_Limpl_Value : (Try.prog.underlying 39).map TypeDesc.isRow = some false := by kernel_rfl
theorem Try.zChange_Limpl_Value : (Try.prog.info? 39).map (·.size) = some 1 := by kernel_rfl
theorem Try.rChange_laws_Change : (Try.prog.underlying 91).map TypeDesc.isRow = some true := by kernel_rfl
theorem Try.zChange_laws_Change : (Try.prog.info? 91).map (·.size) = some 19 := by kernel_rfl
theorem Try.rChange_impl_Change : (Try.prog.underlying 69).map TypeDesc.isRow = some true := by kernel_rfl
theorem Try.zChange_impl_Change : (Try.prog.info? 69).map (·.size) = some 19 := by kernel_rfl
end Go.Proofs.Ytamlgjmboljcdaa
/- Data as cells: the helpers of the laws over Change. -/
namespace Go.Proofs.Ytamlgjmboljcdaa
open Go.RowKit Go.BigFrame
set_option linter.unusedVariables false
set_option linter.unusedSimpArgs false

set_option maxRecDepth 20000 in
set_option maxHeartbeats 1600000 in
theorem uszChange_any {lo hi : Nat} (d : UD) (xs : List Value) (left : Int) (w : World) (ht : tyL d (uE 9)) (hx : uH w lo hi d xs) (h0 : 0 ≤ left) (h1 : left ≤ 1048576) :
    Calls Try.prog 60 #[.agg xs.toArray, .int .i64 left] w fun e w' => e = .returned (.int .i64 (leftI left (wt d))) ∧ Below w.heap.size w w' := by
  replace ht : tyL d [.i .i64, .b, .i .i64, .s, .i .i64, .i .i64, .i .i64, .b, .l 1 0, .i .i64, .s, .i .i64, .l 1 0, .l 5 6, .i .i64, .s, .i .i64, .l 1 0, .l 5 6] := ht
  obtain ⟨z0, _, rfl, g0, h0⟩ := tyL.i ht
  obtain ⟨z1, _, rfl, h1⟩ := tyL.b h0
  clear h0
  obtain ⟨d2, _, rfl, g2, h2⟩ := tyL.split (f1 := uE 8) (f2 := []) h1
  clear h1
  obtain rfl := tyL.nil h2
  clear h2
  obtain ⟨_, rfl, h0⟩ := hx
  obtain ⟨_, rfl, h1⟩ := h0
  obtain ⟨y2, _, rfl, l2, s2, h2⟩ := uH.split h1
  replace l2 : y2.length = 17 := l2.trans (tyL.len g2)
  clear h1
  obtain rfl := h2
  obtain ⟨M0, hM0⟩ : ∃ M, M = (wt d2) := ⟨_, rfl⟩
  have HC0 : Hid (∀ (wx : World) (l : Int), Below w.heap.size w wx → 0 ≤ l → l ≤ 1048576 → Calls Try.prog 59 #[.agg y2.toArray, .int .i64 l] wx fun e w' => e = .returned (.int .i64 (leftI l M0)) ∧ Below wx.heap.size wx w') := fun wx l hb q0 q1 => hM0 ▸ uszObj_any (lo := lo) (hi := hi) d2 _ l wx g2 (s2.below hb) q0 q1
  have E : Hid (leftI left (wt (UD.p (.int .i64 z0) (UD.p (.bool z1) (UD.app d2 UD.nil)))) = leftI left (M0 + 0)) := by show _ = _; congr 1 <;> (simp only [wt, wtP, wt_app, hM0] <;> omega)
  generalize leftI left (wt (UD.p (.int .i64 z0) (UD.p (.bool z1) (UD.app d2 UD.nil)))) = R at *
  have HA : Hid (∀ o, Below w.heap.size w (w.alloc o)) := fun o => (Below.refl _ _).alloc (Nat.le_refl _) _
  obtain ⟨AX, hAX⟩ : ∃ AX : List Value, AX = (Value.int .i64 z0 :: (Value.bool z1 :: ((y2 ++ [])))) := ⟨_, rfl⟩
  rw [← hAX]
  have hlen : AX.length = 19 := by rw [hAX]; simp [l2]
  have e0 : AX[0]? = some (.int .i64 z0) := at_mid (i := 0) (pre := (([] : List Value))) (ys := [.int .i64 z0]) (post := (Value.bool z1 :: ((y2 ++ [])))) (by rw [hAX]; simp) (by simp) rfl
  have e1 : AX[1]? = some (.bool z1) := at_mid (i := 0) (pre := ([Value.int .i64 z0])) (ys := [.bool z1]) (post := ((y2 ++ []))) (by rw [hAX]; simp) (by simp) rfl
  have e2 : ∀ i v, y2[i]? = some v → AX[2 + i]? = some v := fun i v h => at_mid (pre := ([Value.int .i64 z0, Value.bool z1])) (ys := y2) (post := []) (by rw [hAX]; simp) (by simp) h
  clear hAX
  have E0 := uhide e0
  clear e0
  have E1 := uhide e1
  clear e1
  have YZ2 : Hid ((Try.prog.info? 88).map (·.size) = some y2.length) := by show _ = _; rw [l2]; exact Try.zChange_laws_Obj
  clear l2
  have E2 := uhide e2
  clear e2
  have OA0 : Hid (objU (w.alloc (.cells AX.toArray 91)) w.heap.size 91 AX) := objU.new2 _ _ rfl
  clear ht g0 g2 s2 hM0
  obtain ⟨y0q, hy0⟩ : ∃ y, y = leftI left M0 := ⟨_, rfl⟩
  have Y0q := uhide hy0
  by_cases k0 : y0q < 0
  · have EN : Hid (R = -1) := by show _ = _; rw [E.out]; exact leftI_neg _ (by omega) (by rw [← hy0]; exact k0)
    clear E hy0
    go_enter Try.func60, Try.ntmps60
    go_wp2_with (first
    | ((with_reducible refine wpList_load_row2 ?qqg57 88 ?qqx57 ?qqo57 w.heap.size 2 ?qqh57 y2 Try.rChange_laws_Obj YZ2.out (OA0.out.range 2 _ E2.out) ?_); (case qqg57 => rfl); (case qqo57 => rfl); (case qqh57 => simp [Act.eval, Act.put]))
    )
    refine (HC0.out _ _ (HA.out _) (by omega) (by omega)).mono ?_
    rintro e w1 ⟨rfl, hb1⟩
    have OA1 := uhide (OA0.out.below hb1)
    have B1 : Hid (Below w.heap.size w w1) := (HA.out _).trans (hb1.mono (by simp))
    clear hb1
    rw [show leftI left M0 = y0q from Y0q.out.symm]
    go_wp2
    go_ret
    exact ⟨ret_intU EN.out.symm, B1.out⟩
  replace E : Hid (R = leftI y0q (0)) := by
    obtain ⟨q1, q2, q3⟩ := leftI_pos (x := left) (a := M0) (0) (by rw [← hy0]; exact k0)
    show _ = _; rw [E.out, q1, ← hy0]
  have u0 : y0q ≤ left := by rw [hy0]; unfold leftI; split <;> omega
  clear hy0
  replace E : Hid (R = y0q) := E.out.trans (leftI_zero (by omega))
  go_enter Try.func60, Try.ntmps60
  go_wp2_with (first
    | ((with_reducible refine wpList_load_row2 ?qqg76 88 ?qqx76 ?qqo76 w.heap.size 2 ?qqh76 y2 Try.rChange_laws_Obj YZ2.out (OA0.out.range 2 _ E2.out) ?_); (case qqg76 => rfl); (case qqo76 => rfl); (case qqh76 => simp [Act.eval, Act.put]))
    )
  refine (HC0.out _ _ (HA.out _) (by omega) (by omega)).mono ?_
  rintro e w1 ⟨rfl, hb1⟩
  have OA1 := uhide (OA0.out.below hb1)
  have B1 : Hid (Below w.heap.size w w1) := (HA.out _).trans (hb1.mono (by simp))
  clear hb1
  rw [show leftI left M0 = y0q from Y0q.out.symm]
  go_wp2
  go_ret
  exact ⟨ret_intU E.out.symm, B1.out⟩
set_option maxRecDepth 20000 in
set_option maxHeartbeats 800000 in
set_option maxRecDepth 20000 in
theorem uszChangeS_any {lo hi : Nat} (n : Nat) (cs : UD) (c : Value) (left : Int) (w : World) (ht : tyS 19 n cs 9) (h0 : 0 ≤ left) (h1 : left ≤ 1048576) (hx : uS w lo hi 19 n cs c) :
    Calls Try.prog 36 #[c, .int .i64 left] w fun e w' => e = .returned (.int .i64 (leftI left (n + wt cs))) ∧ Below w.heap.size w w' := by
  obtain ⟨a, cap, rfl, hx2⟩ := hx
  have Hx : Hid (uS w lo hi 19 n cs (.slice a n cap)) := ⟨a, cap, rfl, hx2⟩
  have hmx := ht.2.2.1
  unfold maxLen at hmx
  have Ht := uhide ht
  clear hx2 ht
  by_cases c1 : left - (n : Int) < 0
  · have E : Hid (leftI left (n + wt cs) = -1) := by show _ = _; unfold leftI; rw [if_pos (by omega)]
    go_enter Try.func36, Try.ntmps36
    go_wp2
    go_ret
    exact ⟨ret_intU E.out.symm, Below.refl _ _⟩
  have E : Hid (leftI left (n + wt cs) = leftI (left - n) (wt (cs.dropN (0 * 19)))) := by
    show _ = _
    obtain ⟨g1, g2, g3⟩ := leftI_pos (x := left) (a := n) (wt cs) (by unfold leftI; split <;> omega)
    rw [g1, g2, Nat.zero_mul, UD.dropN_zero]
  go_enter Try.func36, Try.ntmps36
  go_wp2
  go_loopw [1, 5] (fun l i wr => ∃ (q : Nat) (x : Int), q ≤ n ∧ i = .int .i64 q ∧ l = .int .i64 x ∧ 0 ≤ x ∧ x ≤ 1048576 ∧ Hid (leftI left (n + wt cs) = leftI x (wt (cs.dropN (q * 19)))) ∧ Below w.heap.size w wr) (fun _ i _ => n - (intOf i).toNat)
  case atStart => exact ⟨0, _, Nat.zero_le _, rfl, rfl, by omega, by omega, E, Below.refl _ _⟩
  case round =>
    obtain ⟨q, x, hq, rfl, rfl, hx0, hx1, Hs, hbw⟩ := hrel
    by_cases hlt : q < n
    · obtain ⟨b, off, rfl, hbb, hm⟩ := (Hx.out.below hbw).cells (by omega)
      have htr := Ht.out.row hlt
      have hr := hm.row 19 q
      have hw : wt (cs.dropN (q * 19)) = wt (rowU cs 19 q) + wt (cs.dropN ((q + 1) * 19)) := by rw [UD.drop_row cs 19 q, wt_app]
      have hsz := uszD_row cs 19 q
      obtain ⟨xs, hh, hcl⟩ := hr.hand
      have Hcon : Hid (∀ wx, Below wr.heap.size wr wx → Calls Try.prog 60 #[.agg xs.toArray, .int .i64 x] wx fun e w' => e = .returned (.int .i64 (leftI x (wt (rowU cs 19 q)))) ∧ Below wx.heap.size wx w') := fun wx hb => uszChange_any (lo := lo) (hi := hi) _ _ x wx htr (hh.below hb) hx0 hx1
      have hxl : xs.length = 19 := by rw [hh.len, tyL.len htr]; rfl
      have lld := load_whole (P := Try.prog) (t := 91) (k := 19) (ad := ⟨b, off + q * 19, none⟩) (w := wr) Try.isAgg91 Try.sizeOf91 hxl (fun j v h => by rw [Go.WideShapes.add_plain]; exact hcl j v h)
      clear hcl hr hm htr hsz hh
      generalize xs.toArray = XS at *
      have LLD := uhide lld
      clear lld hxl
      generalize wt (rowU cs 19 q) = m at *
      have hneg0 := fun h => leftI_neg (x := x) (a := m) (wt (cs.dropN ((q + 1) * 19))) hx0 h
      have hpos0 := fun h => leftI_pos (x := x) (a := m) (wt (cs.dropN ((q + 1) * 19))) h
      have hle0 : leftI x m ≤ x := by unfold leftI; split <;> omega
      generalize leftI x m = y at *
      by_cases hneg : y < 0
      · have hr : Hid (leftI left (n + wt cs) = -1) := by show _ = _; rw [Hs.out, hw]; exact hneg0 hneg
        clear hw Hs E hneg0 hpos0
        go_wp2_with (with_reducible refine wpList_load_eq rfl 91 _ rfl ⟨b, off + q * 19, none⟩ (by simp [Act.eval]) (.agg XS) LLD.out ?_)
        refine (Hcon.out _ (by repeat (first | exact Below.refl _ _ | refine Below.alloc ?_ (by simp) _))).mono ?_
        rintro e w1 ⟨rfl, hb⟩
        go_wp2
        go_ret
        exact ⟨ret_intU hr.out.symm, hbw.trans (hb.mono hbw.size)⟩
      · have hr : Hid (leftI left (n + wt cs) = leftI y (wt (cs.dropN ((q + 1) * 19)))) := by
          show _ = _
          rw [Hs.out, hw]; exact (hpos0 hneg).1
        clear hw Hs E hneg0 hpos0
        go_wp2_with (with_reducible refine wpList_load_eq rfl 91 _ rfl ⟨b, off + q * 19, none⟩ (by simp [Act.eval]) (.agg XS) LLD.out ?_)
        refine (Hcon.out _ (by repeat (first | exact Below.refl _ _ | refine Below.alloc ?_ (by simp) _))).mono ?_
        rintro e w1 ⟨rfl, hb⟩
        go_wp2
        go_roundw
        case rel => exact ⟨q + 1, _, by omega, by go_num, rfl, by omega, by omega, hr, hbw.trans (hb.mono hbw.size)⟩
        case measure => simp [intOf]; omega
    · have e : q = n := by omega
      subst e
      have hr : Hid (leftI left (q + wt cs) = x) := by
        show _ = _
        rw [Hs.out, ← Ht.out.2.2.2.1, UD.dropN_all]
        exact leftI_zero hx0
      clear Hs E
      go_wp2
      go_ret
      exact ⟨ret_intU hr.out.symm, hbw⟩
end Go.Proofs.Ytamlgjmboljcdaa
/- Data as cells: the helpers of the laws over Base. -/
namespace Go.Proofs.Ytamlgjmboljcdaa
open Go.RowKit Go.BigFrame
set_option linter.unusedVariables false
set_option linter.unusedSimpArgs false

set_option maxRecDepth 20000 in
set_option maxHeartbeats 1600000 in
theorem uszBase_any {lo hi : Nat} (d : UD) (xs : List Value) (left : Int) (w : World) (ht : tyL d (uE 10)) (hx : uH w lo hi d xs) (h0 : 0 ≤ left) (h1 : left ≤ 1048576) :
    Calls Try.prog 13 #[.agg xs.toArray, .int .i64 left] w fun e w' => e = .returned (.int .i64 (leftI left (wt d))) ∧ Below w.heap.size w w' := by
  replace ht : tyL d [.l 17 8, .i .i64, .i .i64, .l 19 9] := ht
  obtain ⟨n0, c0, _, rfl, g0, h0⟩ := tyL.l ht
  obtain ⟨z1, _, rfl, g1, h1⟩ := tyL.i h0
  clear h0
  obtain ⟨z2, _, rfl, g2, h2⟩ := tyL.i h1
  clear h1
  obtain ⟨n3, c3, _, rfl, g3, h3⟩ := tyL.l h2
  clear h2
  obtain rfl := tyL.nil h3
  clear h3
  obtain ⟨v0, _, rfl, s0, h0⟩ := hx
  obtain ⟨_, rfl, h1⟩ := h0
  obtain ⟨_, rfl, h2⟩ := h1
  obtain ⟨v3, _, rfl, s3, h3⟩ := h2
  obtain rfl := h3
  obtain ⟨M0, hM0⟩ : ∃ M, M = (n0 + wt c0) := ⟨_, rfl⟩
  have HC0 : Hid (∀ (wx : World) (l : Int), Below w.heap.size w wx → 0 ≤ l → l ≤ 1048576 → Calls Try.prog 35 #[v0, .int .i64 l] wx fun e w' => e = .returned (.int .i64 (leftI l M0)) ∧ Below wx.heap.size wx w') := fun wx l hb q0 q1 => hM0 ▸ uszObjS_any (lo := lo) (hi := hi) n0 c0 _ l wx g0 q0 q1 (s0.below hb)
  obtain ⟨M1, hM1⟩ : ∃ M, M = (n3 + wt c3) := ⟨_, rfl⟩
  have HC1 : Hid (∀ (wx : World) (l : Int), Below w.heap.size w wx → 0 ≤ l → l ≤ 1048576 → Calls Try.prog 36 #[v3, .int .i64 l] wx fun e w' => e = .returned (.int .i64 (leftI l M1)) ∧ Below wx.heap.size wx w') := fun wx l hb q0 q1 => hM1 ▸ uszChangeS_any (lo := lo) (hi := hi) n3 c3 _ l wx g3 q0 q1 (s3.below hb)
  have E : Hid (leftI left (wt (UD.l 17 n0 c0 (UD.p (.int .i64 z1) (UD.p (.int .i64 z2) (UD.l 19 n3 c3 UD.nil))))) = leftI left (M0 + (M1 + 0))) := by show _ = _; congr 1 <;> (simp only [wt, wtP, hM0, hM1] <;> omega)
  generalize leftI left (wt (UD.l 17 n0 c0 (UD.p (.int .i64 z1) (UD.p (.int .i64 z2) (UD.l 19 n3 c3 UD.nil))))) = R at *
  have HA : Hid (∀ o, Below w.heap.size w (w.alloc o)) := fun o => (Below.refl _ _).alloc (Nat.le_refl _) _
  obtain ⟨AX, hAX⟩ : ∃ AX : List Value, AX = (v0 :: (Value.int .i64 z1 :: (Value.int .i64 z2 :: (v3 :: [])))) := ⟨_, rfl⟩
  rw [← hAX]
  have hlen : AX.length = 4 := by rw [hAX]; simp
  have e0 : AX[0]? = some (v0) := at_mid (i := 0) (pre := (([] : List Value))) (ys := [v0]) (post := (Value.int .i64 z1 :: (Value.int .i64 z2 :: (v3 :: [])))) (by rw [hAX]; simp) (by simp) rfl
  have e1 : AX[1]? = some (.int .i64 z1) := at_mid (i := 0) (pre := ([v0])) (ys := [.int .i64 z1]) (post := (Value.int .i64 z2 :: (v3 :: []))) (by rw [hAX]; simp) (by simp) rfl
  have e2 : AX[2]? = some (.int .i64 z2) := at_mid (i := 0) (pre := ([v0, Value.int .i64 z1])) (ys := [.int .i64 z2]) (post := (v3 :: [])) (by rw [hAX]; simp) (by simp) rfl
  have e3 : AX[3]? = some (v3) := at_mid (i := 0) (pre := ([v0, Value.int .i64 z1, Value.int .i64 z2])) (ys := [v3]) (post := []) (by rw [hAX]; simp) (by simp) rfl
  clear hAX
  have E0 := uhide e0
  clear e0
  have E1 := uhide e1
  clear e1
  have E2 := uhide e2
  clear e2
  have E3 := uhide e3
  clear e3
  have OA0 : Hid (objU (w.alloc (.cells AX.toArray 33)) w.heap.size 33 AX) := objU.new2 _ _ rfl
  clear ht g0 s0 g1 g2 g3 s3 hM0 hM1
  obtain ⟨y0q, hy0⟩ : ∃ y, y = leftI left M0 := ⟨_, rfl⟩
  have Y0q := uhide hy0
  by_cases k0 : y0q < 0
  · have EN : Hid (R = -1) := by show _ = _; rw [E.out]; exact leftI_neg _ (by omega) (by rw [← hy0]; exact k0)
    clear E hy0
    go_enter Try.func13, Try.ntmps13
    go_wp2_with (first
    | ((with_reducible refine wpList_load_one ?qqg62 30 ?qqx62 ?qqo62 w.heap.size 0 ?qqh62 (v0) Try.rBase_Llaws_Obj (OA0.out.cell 0 _ E0.out) ?_); (case qqg62 => rfl); (case qqo62 => rfl); (case qqh62 => simp [Act.eval, Act.put]))
    | ((with_reducible refine wpList_load_one ?qqg63 31 ?qqx63 ?qqo63 w.heap.size 3 ?qqh63 (v3) Try.rBase_Llaws_Change (OA0.out.cell 3 _ E3.out) ?_); (case qqg63 => rfl); (case qqo63 => rfl); (case qqh63 => simp [Act.eval, Act.put]))
    )
    refine (HC0.out _ _ (HA.out _) (by omega) (by omega)).mono ?_
    rintro e w1 ⟨rfl, hb1⟩
    have OA1 := uhide (OA0.out.below hb1)
    have B1 : Hid (Below w.heap.size w w1) := (HA.out _).trans (hb1.mono (by simp))
    clear hb1
    rw [show leftI left M0 = y0q from Y0q.out.symm]
    go_wp2
    go_ret
    exact ⟨ret_intU EN.out.symm, B1.out⟩
  replace E : Hid (R = leftI y0q (M1 + 0)) := by
    obtain ⟨q1, q2, q3⟩ := leftI_pos (x := left) (a := M0) (M1 + 0) (by rw [← hy0]; exact k0)
    show _ = _; rw [E.out, q1, ← hy0]
  have u0 : y0q ≤ left := by rw [hy0]; unfold leftI; split <;> omega
  clear hy0
  obtain ⟨y1q, hy1⟩ : ∃ y, y = leftI y0q M1 := ⟨_, rfl⟩
  have Y1q := uhide hy1
  by_cases k1 : y1q < 0
  · have EN : Hid (R = -1) := by show _ = _; rw [E.out]; exact leftI_neg _ (by omega) (by rw [← hy1]; exact k1)
    clear E hy1
    go_enter Try.func13, Try.ntmps13
    go_wp2_with (first
    | ((with_reducible refine wpList_load_one ?qqg86 30 ?qqx86 ?qqo86 w.heap.size 0 ?qqh86 (v0) Try.rBase_Llaws_Obj (OA0.out.cell 0 _ E0.out) ?_); (case qqg86 => rfl); (case qqo86 => rfl); (case qqh86 => simp [Act.eval, Act.put]))
    | ((with_reducible refine wpList_load_one ?qqg87 31 ?qqx87 ?qqo87 w.heap.size 3 ?qqh87 (v3) Try.rBase_Llaws_Change (OA0.out.cell 3 _ E3.out) ?_); (case qqg87 => rfl); (case qqo87 => rfl); (case qqh87 => simp [Act.eval, Act.put]))
    )
    refine (HC0.out _ _ (HA.out _) (by omega) (by omega)).mono ?_
    rintro e w1 ⟨rfl, hb1⟩
    have OA1 := uhide (OA0.out.below hb1)
    have B1 : Hid (Below w.heap.size w w1) := (HA.out _).trans (hb1.mono (by simp))
    clear hb1
    rw [show leftI left M0 = y0q from Y0q.out.symm]
    go_wp2_with (first
    | ((with_reducible refine wpList_load_one ?qqg96 30 ?qqx96 ?qqo96 w.heap.size 0 ?qqh96 (v0) Try.rBase_Llaws_Obj (OA1.out.cell 0 _ E0.out) ?_); (case qqg96 => rfl); (case qqo96 => rfl); (case qqh96 => simp [Act.eval, Act.put]))
    | ((with_reducible refine wpList_load_one ?qqg97 31 ?qqx97 ?qqo97 w.heap.size 3 ?qqh97 (v3) Try.rBase_Llaws_Change (OA1.out.cell 3 _ E3.out) ?_); (case qqg97 => rfl); (case qqo97 => rfl); (case qqh97 => simp [Act.eval, Act.put]))
    )
    refine (HC1.out _ _ B1.out (by omega) (by omega)).mono ?_
    rintro e w2 ⟨rfl, hb2⟩
    have OA2 := uhide (OA1.out.below hb2)
    have B2 : Hid (Below w.heap.size w w2) := B1.out.trans (hb2.mono B1.out.size)
    clear hb2
    rw [show leftI y0q M1 = y1q from Y1q.out.symm]
    go_wp2
    go_ret
    exact ⟨ret_intU EN.out.symm, B2.out⟩
  replace E : Hid (R = leftI y1q (0)) := by
    obtain ⟨q1, q2, q3⟩ := leftI_pos (x := y0q) (a := M1) (0) (by rw [← hy1]; exact k1)
    show _ = _; rw [E.out, q1, ← hy1]
  have u1 : y1q ≤ y0q := by rw [hy1]; unfold leftI; split <;> omega
  clear hy1
  replace E : Hid (R = y1q) := E.out.trans (leftI_zero (by omega))
  go_enter Try.func13, Try.ntmps13
  go_wp2_with (first
    | ((with_reducible refine wpList_load_one ?qqg116 30 ?qqx116 ?qqo116 w.heap.size 0 ?qqh116 (v0) Try.rBase_Llaws_Obj (OA0.out.cell 0 _ E0.out) ?_); (case qqg116 => rfl); (case qqo116 => rfl); (case qqh116 => simp [Act.eval, Act.put]))
    | ((with_reducible refine wpList_load_one ?qqg117 31 ?qqx117 ?qqo117 w.heap.size 3 ?qqh117 (v3) Try.rBase_Llaws_Change (OA0.out.cell 3 _ E3.out) ?_); (case qqg117 => rfl); (case qqo117 => rfl); (case qqh117 => simp [Act.eval, Act.put]))
    )
  refine (HC0.out _ _ (HA.out _) (by omega) (by omega)).mono ?_
  rintro e w1 ⟨rfl, hb1⟩
  have OA1 := uhide (OA0.out.below hb1)
  have B1 : Hid (Below w.heap.size w w1) := (HA.out _).trans (hb1.mono (by simp))
  clear hb1
  rw [show leftI left M0 = y0q from Y0q.out.symm]
  go_wp2_with (first
    | ((with_reducible refine wpList_load_one ?qqg126 30 ?qqx126 ?qqo126 w.heap.size 0 ?qqh126 (v0) Try.rBase_Llaws_Obj (OA1.out.cell 0 _ E0.out) ?_); (case qqg126 => rfl); (case qqo126 => rfl); (case qqh126 => simp [Act.eval, Act.put]))
    | ((with_reducible refine wpList_load_one ?qqg127 31 ?qqx127 ?qqo127 w.heap.size 3 ?qqh127 (v3) Try.rBase_Llaws_Change (OA1.out.cell 3 _ E3.out) ?_); (case qqg127 => rfl); (case qqo127 => rfl); (case qqh127 => simp [Act.eval, Act.put]))
    )
  refine (HC1.out _ _ B1.out (by omega) (by omega)).mono ?_
  rintro e w2 ⟨rfl, hb2⟩
  have OA2 := uhide (OA1.out.below hb2)
  have B2 : Hid (Below w.heap.size w w2) := B1.out.trans (hb2.mono B1.out.size)
  clear hb2
  rw [show leftI y0q M1 = y1q from Y1q.out.symm]
  go_wp2
  go_ret
  exact ⟨ret_intU E.out.symm, B2.out⟩
end Go.Proofs.Ytamlgjmboljcdaa
/- One object of a base: both sides answer alike. -/
namespace Go.Proofs.Ytamlgjmboljcdaa
open Go.RowKit Go.BigFrame
set_option linter.unusedVariables false
theorem get_both (dA0 : UD) (iA1 : Int) (sA2 : ByteArray) (htA0 : tyL dA0 (uE 10)) (hsA1 : inK .i64 iA1) (hsA2 : sA2.size ≤ 1048576) (hw : (wt dA0) ≤ 1048576) :
    ∃ (dR0 : UD) (bR1 : Bool), tyL dR0 (uE 8) ∧ cnt dR0 ≤ 50000000 ∧ (∀ (w : World) (loA0 hiA0 : Nat) (xsA0 : List Value), uH w loA0 hiA0 dA0 xsA0 → Calls Try.prog 17 #[.agg xsA0.toArray, .int .i64 iA1, .string sA2] w fun e w' => ∃ (ysR0 : List Value), e = .returned (.tuple #[.agg ysR0.toArray, .bool bR1]) ∧ uH w' 0 w'.heap.size dR0 ysR0 ∧ Below w.heap.size w w') ∧
    (∀ (w : World) (loA0 hiA0 : Nat) (xsA0 : List Value) (SA0 : List Nat), oH w dA0 xsA0 SA0 → own2 SA0 loA0 hiA0 → Calls Try.prog 18 #[.agg xsA0.toArray, .int .i64 iA1, .string sA2] w fun e w' => ∃ (ysR0 : List Value) (SR0 : List Nat), e = .returned (.tuple #[.agg ysR0.toArray, .bool bR1]) ∧ oH w' dR0 ysR0 SR0 ∧ own2 SR0 w.heap.size w'.heap.size ∧ Below w.heap.size w w') := by
  obtain ⟨n0, c0, z1, z2, n3, c3, hd, g0, g1, g2, g3⟩ := partsBase htA0
  have hw0 : n0 + wt c0 ≤ 1048576 := by
    rw [hd] at hw
    simp only [wt, wtP] at hw
    omega
  obtain ⟨r, hr⟩ := placeU_ex c0 n0 iA1 sA2
  refine ⟨if r < 0 then zeroO else rowU c0 17 r.toNat, decide (0 ≤ r), ?_, ?_, fun w lo hi xs hx => ?_, fun w lo hi xs S hx hS => ?_⟩
  · rcases hr with ⟨rfl, _⟩ | ⟨p, rfl, hp, _⟩
    · exact zeroO_ty
    · rw [if_neg (by omega), Int.toNat_natCast]
      exact g0.row hp
  · rcases hr with ⟨rfl, _⟩ | ⟨p, rfl, hp, _⟩
    · rw [if_pos (by omega)]; decide
    · rw [if_neg (by omega), Int.toNat_natCast]
      have h1 := cnt_row c0 17 p
      have h2 := cnt_le c0 ((p + 1) * 17)
      have h3 := cnt_wt g0
      omega
  · rw [hd] at hx
    exact (sGet_N n0 c0 z1 z2 n3 c3 iA1 sA2 r xs w g0 hw0 hx hr).mono fun e w' ⟨ys, S, q1, q2, q3, q4⟩ => ⟨ys, q1, q2.hand (fun g hg => ⟨Nat.zero_le _, (q3.2 g hg).2⟩), q4⟩
  · rw [hd] at hx
    exact (iGet_N n0 c0 z1 z2 n3 c3 iA1 sA2 r xs S w g0 hw0 hx hS.1 hr).mono fun e w' ⟨ys, S, q1, q2, q3, q4⟩ => ⟨ys, S, q1, q2, q3, q4⟩
end Go.Proofs.Ytamlgjmboljcdaa
/- Data as cells: the helpers of the laws over Obj. -/
namespace Go.Proofs.Ytamlgjmboljcdaa
open Go.RowKit Go.BigFrame
set_option linter.unusedVariables false
set_option linter.unusedSimpArgs false

set_option maxRecDepth 20000 in
set_option maxHeartbeats 1600000 in
theorem ueqObj_any {lo hi lo' hi' : Nat} (d : UD) (xs ys : List Value) (w : World) (ht : tyL d (uE 8)) (hx : uH w lo hi d xs) (hy : uH w lo' hi' d ys) :
    Calls Try.prog 19 #[.agg xs.toArray, .agg ys.toArray] w fun e w' => e = .returned (.bool true) ∧ Below w.heap.size w w' := by
  replace ht : tyL d [.i .i64, .s, .i .i64, .i .i64, .i .i64, .b, .l 1 0, .i .i64, .s, .i .i64, .l 1 0, .l 5 6, .i .i64, .s, .i .i64, .l 1 0, .l 5 6] := ht
  obtain ⟨z0, _, rfl, g0, h0⟩ := tyL.i ht
  obtain ⟨z1, _, rfl, g1, h1⟩ := tyL.s h0
  clear h0
  obtain ⟨z2, _, rfl, g2, h2⟩ := tyL.i h1
  clear h1
  obtain ⟨z3, _, rfl, g3, h3⟩ := tyL.i h2
  clear h2
  obtain ⟨z4, _, rfl, g4, h4⟩ := tyL.i h3
  clear h3
  obtain ⟨z5, _, rfl, h5⟩ := tyL.b h4
  clear h4
  obtain ⟨n6, c6, _, rfl, g6, h6⟩ := tyL.l h5
  clear h5
  obtain ⟨d7, _, rfl, g7, h7⟩ := tyL.split (f1 := uE 6) (f2 := [.i .i64, .s, .i .i64, .l 1 0, .l 5 6]) h6
  clear h6
  obtain ⟨d8, _, rfl, g8, h8⟩ := tyL.split (f1 := uE 6) (f2 := []) h7
  clear h7
  obtain rfl := tyL.nil h8
  clear h8
  obtain ⟨_, rfl, h0⟩ := hx
  obtain ⟨_, rfl, h1⟩ := h0
  obtain ⟨_, rfl, h2⟩ := h1
  obtain ⟨_, rfl, h3⟩ := h2
  obtain ⟨_, rfl, h4⟩ := h3
  obtain ⟨_, rfl, h5⟩ := h4
  obtain ⟨v6, _, rfl, s6, h6⟩ := h5
  obtain ⟨y7, _, rfl, l7, s7, h7⟩ := uH.split h6
  replace l7 : y7.length = 5 := l7.trans (tyL.len g7)
  clear h6
  obtain ⟨y8, _, rfl, l8, s8, h8⟩ := uH.split h7
  replace l8 : y8.length = 5 := l8.trans (tyL.len g8)
  clear h7
  obtain rfl := h8
  obtain ⟨_, rfl, h0r⟩ := hy
  obtain ⟨_, rfl, h1r⟩ := h0r
  obtain ⟨_, rfl, h2r⟩ := h1r
  obtain ⟨_, rfl, h3r⟩ := h2r
  obtain ⟨_, rfl, h4r⟩ := h3r
  obtain ⟨_, rfl, h5r⟩ := h4r
  obtain ⟨v6r, _, rfl, s6r, h6r⟩ := h5r
  obtain ⟨y7r, _, rfl, l7r, s7r, h7r⟩ := uH.split h6r
  replace l7r : y7r.length = 5 := l7r.trans (tyL.len g7)
  clear h6r
  obtain ⟨y8r, _, rfl, l8r, s8r, h8r⟩ := uH.split h7r
  replace l8r : y8r.length = 5 := l8r.trans (tyL.len g8)
  clear h7r
  obtain rfl := h8r
  have HC0 : Hid (∀ wx : World, Below w.heap.size w wx → Calls Try.prog 49 #[v6, v6r] wx fun e w' => e = .returned (.bool true) ∧ Below wx.heap.size wx w') := fun wx hb => ueqStringS_any (lo := lo) (hi := hi) (lo' := lo') (hi' := hi') n6 c6 _ _ wx g6 (s6.below hb) (s6r.below hb)
  have HC1 : Hid (∀ wx : World, Below w.heap.size w wx → Calls Try.prog 50 #[.agg y7.toArray, .agg y7r.toArray] wx fun e w' => e = .returned (.bool true) ∧ Below wx.heap.size wx w') := fun wx hb => ueqValue_any (lo := lo) (hi := hi) (lo' := lo') (hi' := hi') d7 _ _ wx g7 (s7.below hb) (s7r.below hb)
  have HC2 : Hid (∀ wx : World, Below w.heap.size w wx → Calls Try.prog 50 #[.agg y8.toArray, .agg y8r.toArray] wx fun e w' => e = .returned (.bool true) ∧ Below wx.heap.size wx w') := fun wx hb => ueqValue_any (lo := lo) (hi := hi) (lo' := lo') (hi' := hi') d8 _ _ wx g8 (s8.below hb) (s8r.below hb)
  have q0 : (z0 != z0) = false := by simp
  have q1 : (z1.toList == z1.toList) = true := by simp
  have q2 : (z2 != z2) = false := by simp
  have q3 : (z3 != z3) = false := by simp
  have q4 : (z4 != z4) = false := by simp
  have q5 : (z5 != z5) = false := by simp
  have HB : Hid (∀ o o', Below w.heap.size w ((w.alloc o).alloc o')) := fun o o' => ((Below.refl _ _).alloc (Nat.le_refl _) _).alloc (by simp) _
  obtain ⟨AX, hAX⟩ : ∃ AX : List Value, AX = (Value.int .i64 z0 :: (Value.string z1 :: (Value.int .i64 z2 :: (Value.int .i64 z3 :: (Value.int .i64 z4 :: (Value.bool z5 :: (v6 :: ((y7 ++ ((y8 ++ []))))))))))) := ⟨_, rfl⟩
  rw [← hAX]
  have hlen : AX.length = 17 := by rw [hAX]; simp [l7, l8]
  have e0 : AX[0]? = some (.int .i64 z0) := at_mid (i := 0) (pre := (([] : List Value))) (ys := [.int .i64 z0]) (post := (Value.string z1 :: (Value.int .i64 z2 :: (Value.int .i64 z3 :: (Value.int .i64 z4 :: (Value.bool z5 :: (v6 :: ((y7 ++ ((y8 ++ []))))))))))) (by rw [hAX]; simp) (by simp) rfl
  have e1 : AX[1]? = some (.string z1) := at_mid (i := 0) (pre := ([Value.int .i64 z0])) (ys := [.string z1]) (post := (Value.int .i64 z2 :: (Value.int .i64 z3 :: (Value.int .i64 z4 :: (Value.bool z5 :: (v6 :: ((y7 ++ ((y8 ++ [])))))))))) (by rw [hAX]; simp) (by simp) rfl
  have e2 : AX[2]? = some (.int .i64 z2) := at_mid (i := 0) (pre := ([Value.int .i64 z0, Value.string z1])) (ys := [.int .i64 z2]) (post := (Value.int .i64 z3 :: (Value.int .i64 z4 :: (Value.bool z5 :: (v6 :: ((y7 ++ ((y8 ++ []))))))))) (by rw [hAX]; simp) (by simp) rfl
  have e3 : AX[3]? = some (.int .i64 z3) := at_mid (i := 0) (pre := ([Value.int .i64 z0, Value.string z1, Value.int .i64 z2])) (ys := [.int .i64 z3]) (post := (Value.int .i64 z4 :: (Value.bool z5 :: (v6 :: ((y7 ++ ((y8 ++ [])))))))) (by rw [hAX]; simp) (by simp) rfl
  have e4 : AX[4]? = some (.int .i64 z4) := at_mid (i := 0) (pre := ([Value.int .i64 z0, Value.string z1, Value.int .i64 z2, Value.int .i64 z3])) (ys := [.int .i64 z4]) (post := (Value.bool z5 :: (v6 :: ((y7 ++ ((y8 ++ []))))))) (by rw [hAX]; simp) (by simp) rfl
  have e5 : AX[5]? = some (.bool z5) := at_mid (i := 0) (pre := ([Value.int .i64 z0, Value.string z1, Value.int .i64 z2, Value.int .i64 z3, Value.int .i64 z4])) (ys := [.bool z5]) (post := (v6 :: ((y7 ++ ((y8 ++ [])))))) (by rw [hAX]; simp) (by simp) rfl
  have e6 : AX[6]? = some (v6) := at_mid (i := 0) (pre := ([Value.int .i64 z0, Value.string z1, Value.int .i64 z2, Value.int .i64 z3, Value.int .i64 z4, Value.bool z5])) (ys := [v6]) (post := ((y7 ++ ((y8 ++ []))))) (by rw [hAX]; simp) (by simp) rfl
  have e7 : ∀ i v, y7[i]? = some v → AX[7 + i]? = some v := fun i v h => at_mid (pre := ([Value.int .i64 z0, Value.string z1, Value.int .i64 z2, Value.int .i64 z3, Value.int .i64 z4, Value.bool z5, v6])) (ys := y7) (post := ((y8 ++ []))) (by rw [hAX]; simp) (by simp) h
  have e8 : ∀ i v, y8[i]? = some v → AX[12 + i]? = some v := fun i v h => at_mid (pre := ([Value.int .i64 z0, Value.string z1, Value.int .i64 z2, Value.int .i64 z3, Value.int .i64 z4, Value.bool z5, v6] ++ y7)) (ys := y8) (post := []) (by rw [hAX]; simp) (by simp [l7]) h
  clear hAX
  have E0 := uhide e0
  clear e0
  have E1 := uhide e1
  clear e1
  have E2 := uhide e2
  clear e2
  have E3 := uhide e3
  clear e3
  have E4 := uhide e4
  clear e4
  have E5 := uhide e5
  clear e5
  have E6 := uhide e6
  clear e6
  have YZ7 : Hid ((Try.prog.info? 41).map (·.size) = some y7.length) := by show _ = _; rw [l7]; exact Try.zObj_impl_Value
  have E7 := uhide e7
  clear e7
  have YZ8 : Hid ((Try.prog.info? 41).map (·.size) = some y8.length) := by show _ = _; rw [l8]; exact Try.zObj_impl_Value
  have E8 := uhide e8
  clear e8
  obtain ⟨AY, hAY⟩ : ∃ AY : List Value, AY = (Value.int .i64 z0 :: (Value.string z1 :: (Value.int .i64 z2 :: (Value.int .i64 z3 :: (Value.int .i64 z4 :: (Value.bool z5 :: (v6r :: ((y7r ++ ((y8r ++ []))))))))))) := ⟨_, rfl⟩
  rw [← hAY]
  have hlenr : AY.length = 17 := by rw [hAY]; simp [l7r, l8r]
  have e0r : AY[0]? = some (.int .i64 z0) := at_mid (i := 0) (pre := (([] : List Value))) (ys := [.int .i64 z0]) (post := (Value.string z1 :: (Value.int .i64 z2 :: (Value.int .i64 z3 :: (Value.int .i64 z4 :: (Value.bool z5 :: (v6r :: ((y7r ++ ((y8r ++ []))))))))))) (by rw [hAY]; simp) (by simp) rfl
  have e1r : AY[1]? = some (.string z1) := at_mid (i := 0) (pre := ([Value.int .i64 z0])) (ys := [.string z1]) (post := (Value.int .i64 z2 :: (Value.int .i64 z3 :: (Value.int .i64 z4 :: (Value.bool z5 :: (v6r :: ((y7r ++ ((y8r ++ [])))))))))) (by rw [hAY]; simp) (by simp) rfl
  have e2r : AY[2]? = some (.int .i64 z2) := at_mid (i := 0) (pre := ([Value.int .i64 z0, Value.string z1])) (ys := [.int .i64 z2]) (post := (Value.int .i64 z3 :: (Value.int .i64 z4 :: (Value.bool z5 :: (v6r :: ((y7r ++ ((y8r ++ []))))))))) (by rw [hAY]; simp) (by simp) rfl
  have e3r : AY[3]? = some (.int .i64 z3) := at_mid (i := 0) (pre := ([Value.int .i64 z0, Value.string z1, Value.int .i64 z2])) (ys := [.int .i64 z3]) (post := (Value.int .i64 z4 :: (Value.bool z5 :: (v6r :: ((y7r ++ ((y8r ++ [])))))))) (by rw [hAY]; simp) (by simp) rfl
  have e4r : AY[4]? = some (.int .i64 z4) := at_mid (i := 0) (pre := ([Value.int .i64 z0, Value.string z1, Value.int .i64 z2, Value.int .i64 z3])) (ys := [.int .i64 z4]) (post := (Value.bool z5 :: (v6r :: ((y7r ++ ((y8r ++ []))))))) (by rw [hAY]; simp) (by simp) rfl
  have e5r : AY[5]? = some (.bool z5) := at_mid (i := 0) (pre := ([Value.int .i64 z0, Value.string z1, Value.int .i64 z2, Value.int .i64 z3, Value.int .i64 z4])) (ys := [.bool z5]) (post := (v6r :: ((y7r ++ ((y8r ++ [])))))) (by rw [hAY]; simp) (by simp) rfl
  have e6r : AY[6]? = some (v6r) := at_mid (i := 0) (pre := ([Value.int .i64 z0, Value.string z1, Value.int .i64 z2, Value.int .i64 z3, Value.int .i64 z4, Value.bool z5])) (ys := [v6r]) (post := ((y7r ++ ((y8r ++ []))))) (by rw [hAY]; simp) (by simp) rfl
  have e7r : ∀ i v, y7r[i]? = some v → AY[7 + i]? = some v := fun i v h => at_mid (pre := ([Value.int .i64 z0, Value.string z1, Value.int .i64 z2, Value.int .i64 z3, Value.int .i64 z4, Value.bool z5, v6r])) (ys := y7r) (post := ((y8r ++ []))) (by rw [hAY]; simp) (by simp) h
  have e8r : ∀ i v, y8r[i]? = some v → AY[12 + i]? = some v := fun i v h => at_mid (pre := ([Value.int .i64 z0, Value.string z1, Value.int .i64 z2, Value.int .i64 z3, Value.int .i64 z4, Value.bool z5, v6r] ++ y7r)) (ys := y8r) (post := []) (by rw [hAY]; simp) (by simp [l7r]) h
  clear hAY
  have Er0 := uhide e0r
  clear e0r
  have Er1 := uhide e1r
  clear e1r
  have Er2 := uhide e2r
  clear e2r
  have Er3 := uhide e3r
  clear e3r
  have Er4 := uhide e4r
  clear e4r
  have Er5 := uhide e5r
  clear e5r
  have Er6 := uhide e6r
  clear e6r
  have YrZ7 : Hid ((Try.prog.info? 41).map (·.size) = some y7r.length) := by show _ = _; rw [l7r]; exact Try.zObj_impl_Value
  clear l7 l7r
  have Er7 := uhide e7r
  clear e7r
  have YrZ8 : Hid ((Try.prog.info? 41).map (·.size) = some y8r.length) := by show _ = _; rw [l8r]; exact Try.zObj_impl_Value
  clear l8 l8r
  have Er8 := uhide e8r
  clear e8r
  have OA0 : Hid (objU ((w.alloc (.cells AX.toArray 43)).alloc (.cells AY.toArray 43)) w.heap.size 43 AX) := (objU.new2 _ _ rfl).old _
  have OB0 : Hid (objU ((w.alloc (.cells AX.toArray 43)).alloc (.cells AY.toArray 43)) (w.heap.size + 1) 43 AY) := objU.new2 _ _ (by simp)
  clear ht g0 g1 g2 g3 g4 g6 s6 s6r g7 s7 s7r g8 s8 s8r
  go_enter Try.func19, Try.ntmps19
  go_wp2_with (first
    | ((with_reducible refine wpList_load_one ?qqg145 3 ?qqx145 ?qqo145 w.heap.size 0 ?qqh145 (.int .i64 z0) Try.rObj_int (OA0.out.cell 0 _ E0.out) ?_); (case qqg145 => rfl); (case qqo145 => rfl); (case qqh145 => simp [Act.eval, Act.put]))
    | ((with_reducible refine wpList_load_one ?qqg146 9 ?qqx146 ?qqo146 w.heap.size 1 ?qqh146 (.string z1) Try.rObj_string (OA0.out.cell 1 _ E1.out) ?_); (case qqg146 => rfl); (case qqo146 => rfl); (case qqh146 => simp [Act.eval, Act.put]))
    | ((with_reducible refine wpList_load_one ?qqg147 3 ?qqx147 ?qqo147 w.heap.size 2 ?qqh147 (.int .i64 z2) Try.rObj_int (OA0.out.cell 2 _ E2.out) ?_); (case qqg147 => rfl); (case qqo147 => rfl); (case qqh147 => simp [Act.eval, Act.put]))
    | ((with_reducible refine wpList_load_one ?qqg148 3 ?qqx148 ?qqo148 w.heap.size 3 ?qqh148 (.int .i64 z3) Try.rObj_int (OA0.out.cell 3 _ E3.out) ?_); (case qqg148 => rfl); (case qqo148 => rfl); (case qqh148 => simp [Act.eval, Act.put]))
    | ((with_reducible refine wpList_load_one ?qqg149 3 ?qqx149 ?qqo149 w.heap.size 4 ?qqh149 (.int .i64 z4) Try.rObj_int (OA0.out.cell 4 _ E4.out) ?_); (case qqg149 => rfl); (case qqo149 => rfl); (case qqh149 => simp [Act.eval, Act.put]))
    | ((with_reducible refine wpList_load_one ?qqg150 4 ?qqx150 ?qqo150 w.heap.size 5 ?qqh150 (.bool z5) Try.rObj_bool (OA0.out.cell 5 _ E5.out) ?_); (case qqg150 => rfl); (case qqo150 => rfl); (case qqh150 => simp [Act.eval, Act.put]))
    | ((with_reducible refine wpList_load_one ?qqg151 38 ?qqx151 ?qqo151 w.heap.size 6 ?qqh151 (v6) Try.rObj_Lstring (OA0.out.cell 6 _ E6.out) ?_); (case qqg151 => rfl); (case qqo151 => rfl); (case qqh151 => simp [Act.eval, Act.put]))
    | ((with_reducible refine wpList_load_row2 ?qqg152 41 ?qqx152 ?qqo152 w.heap.size 7 ?qqh152 y7 Try.rObj_impl_Value YZ7.out (OA0.out.range 7 _ E7.out) ?_); (case qqg152 => rfl); (case qqo152 => rfl); (case qqh152 => simp [Act.eval, Act.put]))
    | ((with_reducible refine wpList_load_row2 ?qqg153 41 ?qqx153 ?qqo153 w.heap.size 12 ?qqh153 y8 Try.rObj_impl_Value YZ8.out (OA0.out.range 12 _ E8.out) ?_); (case qqg153 => rfl); (case qqo153 => rfl); (case qqh153 => simp [Act.eval, Act.put]))
    | ((with_reducible refine wpList_load_one ?qqg154 3 ?qqx154 ?qqo154 (w.heap.size + 1) 0 ?qqh154 (.int .i64 z0) Try.rObj_int (OB0.out.cell 0 _ Er0.out) ?_); (case qqg154 => rfl); (case qqo154 => rfl); (case qqh154 => simp [Act.eval, Act.put]))
    | ((with_reducible refine wpList_load_one ?qqg155 9 ?qqx155 ?qqo155 (w.heap.size + 1) 1 ?qqh155 (.string z1) Try.rObj_string (OB0.out.cell 1 _ Er1.out) ?_); (case qqg155 => rfl); (case qqo155 => rfl); (case qqh155 => simp [Act.eval, Act.put]))
    | ((with_reducible refine wpList_load_one ?qqg156 3 ?qqx156 ?qqo156 (w.heap.size + 1) 2 ?qqh156 (.int .i64 z2) Try.rObj_int (OB0.out.cell 2 _ Er2.out) ?_); (case qqg156 => rfl); (case qqo156 => rfl); (case qqh156 => simp [Act.eval, Act.put]))
    | ((with_reducible refine wpList_load_one ?qqg157 3 ?qqx157 ?qqo157 (w.heap.size + 1) 3 ?qqh157 (.int .i64 z3) Try.rObj_int (OB0.out.cell 3 _ Er3.out) ?_); (case qqg157 => rfl); (case qqo157 => rfl); (case qqh157 => simp [Act.eval, Act.put]))
    | ((with_reducible refine wpList_load_one ?qqg158 3 ?qqx158 ?qqo158 (w.heap.size + 1) 4 ?qqh158 (.int .i64 z4) Try.rObj_int (OB0.out.cell 4 _ Er4.out) ?_); (case qqg158 => rfl); (case qqo158 => rfl); (case qqh158 => simp [Act.eval, Act.put]))
    | ((with_reducible refine wpList_load_one ?qqg159 4 ?qqx159 ?qqo159 (w.heap.size + 1) 5 ?qqh159 (.bool z5) Try.rObj_bool (OB0.out.cell 5 _ Er5.out) ?_); (case qqg159 => rfl); (case qqo159 => rfl); (case qqh159 => simp [Act.eval, Act.put]))
    | ((with_reducible refine wpList_load_one ?qqg160 38 ?qqx160 ?qqo160 (w.heap.size + 1) 6 ?qqh160 (v6r) Try.rObj_Lstring (OB0.out.cell 6 _ Er6.out) ?_); (case qqg160 => rfl); (case qqo160 => rfl); (case qqh160 => simp [Act.eval, Act.put]))
    | ((with_reducible refine wpList_load_row2 ?qqg161 41 ?qqx161 ?qqo161 (w.heap.size + 1) 7 ?qqh161 y7r Try.rObj_impl_Value YrZ7.out (OB0.out.range 7 _ Er7.out) ?_); (case qqg161 => rfl); (case qqo161 => rfl); (case qqh161 => simp [Act.eval, Act.put]))
    | ((with_reducible refine wpList_load_row2 ?qqg162 41 ?qqx162 ?qqo162 (w.heap.size + 1) 12 ?qqh162 y8r Try.rObj_impl_Value YrZ8.out (OB0.out.range 12 _ Er8.out) ?_); (case qqg162 => rfl); (case qqo162 => rfl); (case qqh162 => simp [Act.eval, Act.put]))
    )
  refine (HC0.out _ (HB.out _ _)).mono ?_
  rintro e w1 ⟨rfl, hb1⟩
  have OA1 := uhide (OA0.out.below hb1)
  have OB1 := uhide (OB0.out.below hb1)
  have B1 : Hid (Below w.heap.size w w1) := (HB.out _ _).trans (hb1.mono (by simp; omega))
  clear hb1 OA0 OB0
  go_wp2_with (first
    | ((with_reducible refine wpList_load_one ?qqg171 3 ?qqx171 ?qqo171 w.heap.size 0 ?qqh171 (.int .i64 z0) Try.rObj_int (OA1.out.cell 0 _ E0.out) ?_); (case qqg171 => rfl); (case qqo171 => rfl); (case qqh171 => simp [Act.eval, Act.put]))
    | ((with_reducible refine wpList_load_one ?qqg172 9 ?qqx172 ?qqo172 w.heap.size 1 ?qqh172 (.string z1) Try.rObj_string (OA1.out.cell 1 _ E1.out) ?_); (case qqg172 => rfl); (case qqo172 => rfl); (case qqh172 => simp [Act.eval, Act.put]))
    | ((with_reducible refine wpList_load_one ?qqg173 3 ?qqx173 ?qqo173 w.heap.size 2 ?qqh173 (.int .i64 z2) Try.rObj_int (OA1.out.cell 2 _ E2.out) ?_); (case qqg173 => rfl); (case qqo173 => rfl); (case qqh173 => simp [Act.eval, Act.put]))
    | ((with_reducible refine wpList_load_one ?qqg174 3 ?qqx174 ?qqo174 w.heap.size 3 ?qqh174 (.int .i64 z3) Try.rObj_int (OA1.out.cell 3 _ E3.out) ?_); (case qqg174 => rfl); (case qqo174 => rfl); (case qqh174 => simp [Act.eval, Act.put]))
    | ((with_reducible refine wpList_load_one ?qqg175 3 ?qqx175 ?qqo175 w.heap.size 4 ?qqh175 (.int .i64 z4) Try.rObj_int (OA1.out.cell 4 _ E4.out) ?_); (case qqg175 => rfl); (case qqo175 => rfl); (case qqh175 => simp [Act.eval, Act.put]))
    | ((with_reducible refine wpList_load_one ?qqg176 4 ?qqx176 ?qqo176 w.heap.size 5 ?qqh176 (.bool z5) Try.rObj_bool (OA1.out.cell 5 _ E5.out) ?_); (case qqg176 => rfl); (case qqo176 => rfl); (case qqh176 => simp [Act.eval, Act.put]))
    | ((with_reducible refine wpList_load_one ?qqg177 38 ?qqx177 ?qqo177 w.heap.size 6 ?qqh177 (v6) Try.rObj_Lstring (OA1.out.cell 6 _ E6.out) ?_); (case qqg177 => rfl); (case qqo177 => rfl); (case qqh177 => simp [Act.eval, Act.put]))
    | ((with_reducible refine wpList_load_row2 ?qqg178 41 ?qqx178 ?qqo178 w.heap.size 7 ?qqh178 y7 Try.rObj_impl_Value YZ7.out (OA1.out.range 7 _ E7.out) ?_); (case qqg178 => rfl); (case qqo178 => rfl); (case qqh178 => simp [Act.eval, Act.put]))
    | ((with_reducible refine wpList_load_row2 ?qqg179 41 ?qqx179 ?qqo179 w.heap.size 12 ?qqh179 y8 Try.rObj_impl_Value YZ8.out (OA1.out.range 12 _ E8.out) ?_); (case qqg179 => rfl); (case qqo179 => rfl); (case qqh179 => simp [Act.eval, Act.put]))
    | ((with_reducible refine wpList_load_one ?qqg180 3 ?qqx180 ?qqo180 (w.heap.size + 1) 0 ?qqh180 (.int .i64 z0) Try.rObj_int (OB1.out.cell 0 _ Er0.out) ?_); (case qqg180 => rfl); (case qqo180 => rfl); (case qqh180 => simp [Act.eval, Act.put]))
    | ((with_reducible refine wpList_load_one ?qqg181 9 ?qqx181 ?qqo181 (w.heap.size + 1) 1 ?qqh181 (.string z1) Try.rObj_string (OB1.out.cell 1 _ Er1.out) ?_); (case qqg181 => rfl); (case qqo181 => rfl); (case qqh181 => simp [Act.eval, Act.put]))
    | ((with_reducible refine wpList_load_one ?qqg182 3 ?qqx182 ?qqo182 (w.heap.size + 1) 2 ?qqh182 (.int .i64 z2) Try.rObj_int (OB1.out.cell 2 _ Er2.out) ?_); (case qqg182 => rfl); (case qqo182 => rfl); (case qqh182 => simp [Act.eval, Act.put]))
    | ((with_reducible refine wpList_load_one ?qqg183 3 ?qqx183 ?qqo183 (w.heap.size + 1) 3 ?qqh183 (.int .i64 z3) Try.rObj_int (OB1.out.cell 3 _ Er3.out) ?_); (case qqg183 => rfl); (case qqo183 => rfl); (case qqh183 => simp [Act.eval, Act.put]))
    | ((with_reducible refine wpList_load_one ?qqg184 3 ?qqx184 ?qqo184 (w.heap.size + 1) 4 ?qqh184 (.int .i64 z4) Try.rObj_int (OB1.out.cell 4 _ Er4.out) ?_); (case qqg184 => rfl); (case qqo184 => rfl); (case qqh184 => simp [Act.eval, Act.put]))
    | ((with_reducible refine wpList_load_one ?qqg185 4 ?qqx185 ?qqo185 (w.heap.size + 1) 5 ?qqh185 (.bool z5) Try.rObj_bool (OB1.out.cell 5 _ Er5.out) ?_); (case qqg185 => rfl); (case qqo185 => rfl); (case qqh185 => simp [Act.eval, Act.put]))
    | ((with_reducible refine wpList_load_one ?qqg186 38 ?qqx186 ?qqo186 (w.heap.size + 1) 6 ?qqh186 (v6r) Try.rObj_Lstring (OB1.out.cell 6 _ Er6.out) ?_); (case qqg186 => rfl); (case qqo186 => rfl); (case qqh186 => simp [Act.eval, Act.put]))
    | ((with_reducible refine wpList_load_row2 ?qqg187 41 ?qqx187 ?qqo187 (w.heap.size + 1) 7 ?qqh187 y7r Try.rObj_impl_Value YrZ7.out (OB1.out.range 7 _ Er7.out) ?_); (case qqg187 => rfl); (case qqo187 => rfl); (case qqh187 => simp [Act.eval, Act.put]))
    | ((with_reducible refine wpList_load_row2 ?qqg188 41 ?qqx188 ?qqo188 (w.heap.size + 1) 12 ?qqh188 y8r Try.rObj_impl_Value YrZ8.out (OB1.out.range 12 _ Er8.out) ?_); (case qqg188 => rfl); (case qqo188 => rfl); (case qqh188 => simp [Act.eval, Act.put]))
    )
  refine (HC1.out _ B1.out).mono ?_
  rintro e w2 ⟨rfl, hb2⟩
  have OA2 := uhide (OA1.out.below hb2)
  have OB2 := uhide (OB1.out.below hb2)
  have B2 : Hid (Below w.heap.size w w2) := B1.out.trans (hb2.mono B1.out.size)
  clear hb2 OA1 OB1
  go_wp2_with (first
    | ((with_reducible refine wpList_load_one ?qqg197 3 ?qqx197 ?qqo197 w.heap.size 0 ?qqh197 (.int .i64 z0) Try.rObj_int (OA2.out.cell 0 _ E0.out) ?_); (case qqg197 => rfl); (case qqo197 => rfl); (case qqh197 => simp [Act.eval, Act.put]))
    | ((with_reducible refine wpList_load_one ?qqg198 9 ?qqx198 ?qqo198 w.heap.size 1 ?qqh198 (.string z1) Try.rObj_string (OA2.out.cell 1 _ E1.out) ?_); (case qqg198 => rfl); (case qqo198 => rfl); (case qqh198 => simp [Act.eval, Act.put]))
    | ((with_reducible refine wpList_load_one ?qqg199 3 ?qqx199 ?qqo199 w.heap.size 2 ?qqh199 (.int .i64 z2) Try.rObj_int (OA2.out.cell 2 _ E2.out) ?_); (case qqg199 => rfl); (case qqo199 => rfl); (case qqh199 => simp [Act.eval, Act.put]))
    | ((with_reducible refine wpList_load_one ?qqg200 3 ?qqx200 ?qqo200 w.heap.size 3 ?qqh200 (.int .i64 z3) Try.rObj_int (OA2.out.cell 3 _ E3.out) ?_); (case qqg200 => rfl); (case qqo200 => rfl); (case qqh200 => simp [Act.eval, Act.put]))
    | ((with_reducible refine wpList_load_one ?qqg201 3 ?qqx201 ?qqo201 w.heap.size 4 ?qqh201 (.int .i64 z4) Try.rObj_int (OA2.out.cell 4 _ E4.out) ?_); (case qqg201 => rfl); (case qqo201 => rfl); (case qqh201 => simp [Act.eval, Act.put]))
    | ((with_reducible refine wpList_load_one ?qqg202 4 ?qqx202 ?qqo202 w.heap.size 5 ?qqh202 (.bool z5) Try.rObj_bool (OA2.out.cell 5 _ E5.out) ?_); (case qqg202 => rfl); (case qqo202 => rfl); (case qqh202 => simp [Act.eval, Act.put]))
    | ((with_reducible refine wpList_load_one ?qqg203 38 ?qqx203 ?qqo203 w.heap.size 6 ?qqh203 (v6) Try.rObj_Lstring (OA2.out.cell 6 _ E6.out) ?_); (case qqg203 => rfl); (case qqo203 => rfl); (case qqh203 => simp [Act.eval, Act.put]))
    | ((with_reducible refine wpList_load_row2 ?qqg204 41 ?qqx204 ?qqo204 w.heap.size 7 ?qqh204 y7 Try.rObj_impl_Value YZ7.out (OA2.out.range 7 _ E7.out) ?_); (case qqg204 => rfl); (case qqo204 => rfl); (case qqh204 => simp [Act.eval, Act.put]))
    | ((with_reducible refine wpList_load_row2 ?qqg205 41 ?qqx205 ?qqo205 w.heap.size 12 ?qqh205 y8 Try.rObj_impl_Value YZ8.out (OA2.out.range 12 _ E8.out) ?_); (case qqg205 => rfl); (case qqo205 => rfl); (case qqh205 => simp [Act.eval, Act.put]))
    | ((with_reducible refine wpList_load_one ?qqg206 3 ?qqx206 ?qqo206 (w.heap.size + 1) 0 ?qqh206 (.int .i64 z0) Try.rObj_int (OB2.out.cell 0 _ Er0.out) ?_); (case qqg206 => rfl); (case qqo206 => rfl); (case qqh206 => simp [Act.eval, Act.put]))
    | ((with_reducible refine wpList_load_one ?qqg207 9 ?qqx207 ?qqo207 (w.heap.size + 1) 1 ?qqh207 (.string z1) Try.rObj_string (OB2.out.cell 1 _ Er1.out) ?_); (case qqg207 => rfl); (case qqo207 => rfl); (case qqh207 => simp [Act.eval, Act.put]))
    | ((with_reducible refine wpList_load_one ?qqg208 3 ?qqx208 ?qqo208 (w.heap.size + 1) 2 ?qqh208 (.int .i64 z2) Try.rObj_int (OB2.out.cell 2 _ Er2.out) ?_); (case qqg208 => rfl); (case qqo208 => rfl); (case qqh208 => simp [Act.eval, Act.put]))
    | ((with_reducible refine wpList_load_one ?qqg209 3 ?qqx209 ?qqo209 (w.heap.size + 1) 3 ?qqh209 (.int .i64 z3) Try.rObj_int (OB2.out.cell 3 _ Er3.out) ?_); (case qqg209 => rfl); (case qqo209 => rfl); (case qqh209 => simp [Act.eval, Act.put]))
    | ((with_reducible refine wpList_load_one ?qqg210 3 ?qqx210 ?qqo210 (w.heap.size + 1) 4 ?qqh210 (.int .i64 z4) Try.rObj_int (OB2.out.cell 4 _ Er4.out) ?_); (case qqg210 => rfl); (case qqo210 => rfl); (case qqh210 => simp [Act.eval, Act.put]))
    | ((with_reducible refine wpList_load_one ?qqg211 4 ?qqx211 ?qqo211 (w.heap.size + 1) 5 ?qqh211 (.bool z5) Try.rObj_bool (OB2.out.cell 5 _ Er5.out) ?_); (case qqg211 => rfl); (case qqo211 => rfl); (case qqh211 => simp [Act.eval, Act.put]))
    | ((with_reducible refine wpList_load_one ?qqg212 38 ?qqx212 ?qqo212 (w.heap.size + 1) 6 ?qqh212 (v6r) Try.rObj_Lstring (OB2.out.cell 6 _ Er6.out) ?_); (case qqg212 => rfl); (case qqo212 => rfl); (case qqh212 => simp [Act.eval, Act.put]))
    | ((with_reducible refine wpList_load_row2 ?qqg213 41 ?qqx213 ?qqo213 (w.heap.size + 1) 7 ?qqh213 y7r Try.rObj_impl_Value YrZ7.out (OB2.out.range 7 _ Er7.out) ?_); (case qqg213 => rfl); (case qqo213 => rfl); (case qqh213 => simp [Act.eval, Act.put]))
    | ((with_reducible refine wpList_load_row2 ?qqg214 41 ?qqx214 ?qqo214 (w.heap.size + 1) 12 ?qqh214 y8r Try.rObj_impl_Value YrZ8.out (OB2.out.range 12 _ Er8.out) ?_); (case qqg214 => rfl); (case qqo214 => rfl); (case qqh214 => simp [Act.eval, Act.put]))
    )
  refine (HC2.out _ B2.out).mono ?_
  rintro e w3 ⟨rfl, hb3⟩
  have OA3 := uhide (OA2.out.below hb3)
  have OB3 := uhide (OB2.out.below hb3)
  have B3 : Hid (Below w.heap.size w w3) := B2.out.trans (hb3.mono B2.out.size)
  clear hb3 OA2 OB2
  go_wp2
  go_ret
  exact ⟨rfl, B3.out⟩
set_option maxRecDepth 20000 in
set_option maxHeartbeats 1600000 in
theorem ueqObjS_any {lo hi lo' hi' : Nat} (n : Nat) (cs : UD) (c c' : Value) (w : World) (ht : tyS 17 n cs 8) (hx : uS w lo hi 17 n cs c) (hy : uS w lo' hi' 17 n cs c') :
    Calls Try.prog 24 #[c, c'] w fun e w' => e = .returned (.bool true) ∧ Below w.heap.size w w' := by
  obtain ⟨a, cap, rfl, hx2⟩ := hx
  obtain ⟨a', cap', rfl, hy2⟩ := hy
  have Hx : Hid (uS w lo hi 17 n cs (.slice a n cap)) := ⟨a, cap, rfl, hx2⟩
  have Hy : Hid (uS w lo' hi' 17 n cs (.slice a' n cap')) := ⟨a', cap', rfl, hy2⟩
  have hmx := ht.2.2.1
  unfold maxLen at hmx
  have Ht := uhide ht
  have hb0 : ((n : Int) != (n : Int)) = false := by simp
  clear hx2 hy2 ht
  go_enter Try.func24, Try.ntmps24
  go_wp2
  go_loopw [5] (fun i wr => ∃ (q : Nat), q ≤ n ∧ i = .int .i64 q ∧ Hid (Below w.heap.size w wr)) (fun i _ => n - (intOf i).toNat)
  case atStart => exact ⟨0, Nat.zero_le _, rfl, Below.refl _ _⟩
  case round =>
    obtain ⟨q, hq, rfl, hbw⟩ := hrel
    by_cases hlt : q < n
    · obtain ⟨b, off, rfl, hbb, hm⟩ := (Hx.out.below hbw.out).cells (by omega)
      obtain ⟨b', off', rfl, hbb', hm'⟩ := (Hy.out.below hbw.out).cells (by omega)
      have htr := Ht.out.row hlt
      obtain ⟨xs, hh, hcl⟩ := (hm.row 17 q).hand
      obtain ⟨ys, hh', hcl'⟩ := (hm'.row 17 q).hand
      have hi1 : (Try.prog.info? 43).map (·.size) = some xs.length := by rw [hh.len, tyL.len htr]; exact Try.zObj_impl_Obj
      have hi2 : (Try.prog.info? 43).map (·.size) = some ys.length := by rw [hh'.len, tyL.len htr]; exact Try.zObj_impl_Obj
      have Hcon : Hid (∀ wx, Below wr.heap.size wr wx → Calls Try.prog 19 #[.agg xs.toArray, .agg ys.toArray] wx fun e w' => e = .returned (.bool true) ∧ Hid (Below wr.heap.size wr w')) := fun wx hb => (ueqObj_any (lo := lo) (hi := hi) (lo' := lo') (hi' := hi') _ _ _ wx htr (hh.below hb) (hh'.below hb)).mono fun e w' h => ⟨h.1, hb.trans (h.2.mono hb.size)⟩
      have r1 : wr.rangeAt b (off + q * 17) xs := hcl
      have r2 : wr.rangeAt b' (off' + q * 17) ys := hcl'
      have R1 := uhide r1
      have R2 := uhide r2
      clear hcl hcl' hm hm' htr hh hh' Hx Hy Ht
      go_wp2
      refine wp_region_held_drew (S := fun w' => w'.rangeAt b (off + q * 17) xs ∧ w'.rangeAt b' (off' + q * 17) ys) (by kernel_rfl) ⟨(World.rangeAt_drew _ _ _ _).2 R1.out, (World.rangeAt_drew _ _ _ _).2 R2.out⟩ (fun hHeld => ?_)
      refine wpAnyH_take (i := 0) (oi := ⟨some 17, .move (.tmp 0), _, _, _, _⟩) (v := .slice (some ⟨b, off, none⟩) n cap) rfl (by kernel_rfl) (by kernel_rfl) (by kernel_rfl) (fun _ _ _ h => h) (Or.inl ⟨by rfl, by intro w hSw; go_simp⟩) hHeld ?_
      simp only [Act.put, List.setIfInBounds_toArray, List.set_cons_zero, List.set_cons_succ]
      refine wpAnyH_take (i := 1) (oi := ⟨some 18, .move (.tmp 5), _, _, _, _⟩) (v := .int .i64 q) rfl (by kernel_rfl) (by kernel_rfl) (by kernel_rfl) (fun _ _ _ h => h) (Or.inl ⟨by rfl, by intro w hSw; go_simp⟩) hHeld ?_
      simp only [Act.put, List.setIfInBounds_toArray, List.set_cons_zero, List.set_cons_succ]
      refine wpAnyH_take (i := 2) (oi := ⟨some 19, .indexAddr 22 (.tmp 17) (.tmp 18), _, _, _, _⟩) (v := .pointer (some ⟨b, off + q * 17, none⟩)) rfl (by kernel_rfl) (by kernel_rfl) (by kernel_rfl) (fun _ _ _ h => h) (Or.inl ⟨by rfl, by intro w hSw; go_simp⟩) hHeld ?_
      simp only [Act.put, List.setIfInBounds_toArray, List.set_cons_zero, List.set_cons_succ]
      refine wpAnyH_take (i := 3) (oi := ⟨some 20, .load 43 (.tmp 19), _, _, _, _⟩) (v := .agg xs.toArray) rfl (by kernel_rfl) (by kernel_rfl) (by kernel_rfl) (fun _ _ _ h => h) (yieldsIf_load_row (by rfl) 43 _ rfl b (off + q * 17) rfl xs (fun w hS => hS.1) Try.rObj_impl_Obj hi1) hHeld ?_
      simp only [Act.put, List.setIfInBounds_toArray, List.set_cons_zero, List.set_cons_succ]
      refine wpAnyH_take (i := 4) (oi := ⟨some 21, .move (.tmp 1), _, _, _, _⟩) (v := .slice (some ⟨b', off', none⟩) n cap') rfl (by kernel_rfl) (by kernel_rfl) (by kernel_rfl) (fun _ _ _ h => h) (Or.inl ⟨by rfl, by intro w hSw; go_simp⟩) hHeld ?_
      simp only [Act.put, List.setIfInBounds_toArray, List.set_cons_zero, List.set_cons_succ]
      refine wpAnyH_take (i := 5) (oi := ⟨some 22, .move (.tmp 5), _, _, _, _⟩) (v := .int .i64 q) rfl (by kernel_rfl) (by kernel_rfl) (by kernel_rfl) (fun _ _ _ h => h) (Or.inl ⟨by rfl, by intro w hSw; go_simp⟩) hHeld ?_
      simp only [Act.put, List.setIfInBounds_toArray, List.set_cons_zero, List.set_cons_succ]
      refine wpAnyH_take (i := 6) (oi := ⟨some 23, .indexAddr 22 (.tmp 21) (.tmp 22), _, _, _, _⟩) (v := .pointer (some ⟨b', off' + q * 17, none⟩)) rfl (by kernel_rfl) (by kernel_rfl) (by kernel_rfl) (fun _ _ _ h => h) (Or.inl ⟨by rfl, by intro w hSw; go_simp⟩) hHeld ?_
      simp only [Act.put, List.setIfInBounds_toArray, List.set_cons_zero, List.set_cons_succ]
      refine wpAnyH_take (i := 7) (oi := ⟨some 24, .load 43 (.tmp 23), _, _, _, _⟩) (v := .agg ys.toArray) rfl (by kernel_rfl) (by kernel_rfl) (by kernel_rfl) (fun _ _ _ h => h) (yieldsIf_load_row (by rfl) 43 _ rfl b' (off' + q * 17) rfl ys (fun w hS => hS.2) Try.rObj_impl_Obj hi2) hHeld ?_
      simp only [Act.put, List.setIfInBounds_toArray, List.set_cons_zero, List.set_cons_succ]
      refine wpAnyH_ready (rs := [8]) (by kernel_rfl) (by simp) (AllReadyH.cons (o := ⟨some 25, .call { callee := .value (.func 19), args := #[.tmp 20, .tmp 24], argTypes := #[43, 43] }, _, _, _, _⟩) rfl (fun K hK => ?_) AllReadyH.nil)
      refine step_call_of rfl 19 #[.tmp 20, .tmp 24] #[43, 43] rfl (callFunc_enter Try.func19 (by kernel_rfl) (by kernel_rfl)) #[.agg xs.toArray, .agg ys.toArray] (by simp [Act.eval]) (Hcon.out _ (Below.drew (Below.refl _ _))) ?_
      rintro e w2 ⟨rfl, hb2⟩
      refine ⟨.bool true, rfl, hK.out _ _ ⟨range_below R1.out hb2.out, range_below R2.out hb2.out⟩ (fun hHeld => ?_)⟩
      clear hK K
      simp only [Act.put, List.setIfInBounds_toArray, List.set_cons_zero, List.set_cons_succ]
      refine wpAnyH_take (i := 9) (oi := ⟨some 26, .unOp .not 4 (.tmp 25), _, _, _, _⟩) (v := .bool false) rfl (by kernel_rfl) (by kernel_rfl) (by kernel_rfl) (fun _ _ _ h => h) (Or.inl ⟨by rfl, by intro w hSw; go_simp⟩) hHeld ?_
      simp only [Act.put, List.setIfInBounds_toArray, List.set_cons_zero, List.set_cons_succ]
      refine wpAnyH_done (by kernel_rfl) ?_ _
      clear hHeld
      go_wp2
      go_roundw
      case rel => exact ⟨q + 1, by omega, by go_num, hbw.out.trans (hb2.out.mono hbw.out.size)⟩
      case measure => simp [intOf]; omega
    · have e : q = n := by omega
      subst e
      go_wp2
      go_ret
      exact ⟨rfl, hbw.out⟩
end Go.Proofs.Ytamlgjmboljcdaa
/- Data as cells: the helpers of the laws over Change. -/
namespace Go.Proofs.Ytamlgjmboljcdaa
open Go.RowKit Go.BigFrame
set_option linter.unusedVariables false
set_option linter.unusedSimpArgs false

set_option maxRecDepth 20000 in
set_option maxHeartbeats 1600000 in
theorem ueqChange_any {lo hi lo' hi' : Nat} (d : UD) (xs ys : List Value) (w : World) (ht : tyL d (uE 9)) (hx : uH w lo hi d xs) (hy : uH w lo' hi' d ys) :
    Calls Try.prog 58 #[.agg xs.toArray, .agg ys.toArray] w fun e w' => e = .returned (.bool true) ∧ Below w.heap.size w w' := by
  replace ht : tyL d [.i .i64, .b, .i .i64, .s, .i .i64, .i .i64, .i .i64, .b, .l 1 0, .i .i64, .s, .i .i64, .l 1 0, .l 5 6, .i .i64, .s, .i .i64, .l 1 0, .l 5 6] := ht
  obtain ⟨z0, _, rfl, g0, h0⟩ := tyL.i ht
  obtain ⟨z1, _, rfl, h1⟩ := tyL.b h0
  clear h0
  obtain ⟨d2, _, rfl, g2, h2⟩ := tyL.split (f1 := uE 8) (f2 := []) h1
  clear h1
  obtain rfl := tyL.nil h2
  clear h2
  obtain ⟨_, rfl, h0⟩ := hx
  obtain ⟨_, rfl, h1⟩ := h0
  obtain ⟨y2, _, rfl, l2, s2, h2⟩ := uH.split h1
  replace l2 : y2.length = 17 := l2.trans (tyL.len g2)
  clear h1
  obtain rfl := h2
  obtain ⟨_, rfl, h0r⟩ := hy
  obtain ⟨_, rfl, h1r⟩ := h0r
  obtain ⟨y2r, _, rfl, l2r, s2r, h2r⟩ := uH.split h1r
  replace l2r : y2r.length = 17 := l2r.trans (tyL.len g2)
  clear h1r
  obtain rfl := h2r
  have HC0 : Hid (∀ wx : World, Below w.heap.size w wx → Calls Try.prog 19 #[.agg y2.toArray, .agg y2r.toArray] wx fun e w' => e = .returned (.bool true) ∧ Below wx.heap.size wx w') := fun wx hb => ueqObj_any (lo := lo) (hi := hi) (lo' := lo') (hi' := hi') d2 _ _ wx g2 (s2.below hb) (s2r.below hb)
  have q0 : (z0 != z0) = false := by simp
  have q1 : (z1 != z1) = false := by simp
  have HB : Hid (∀ o o', Below w.heap.size w ((w.alloc o).alloc o')) := fun o o' => ((Below.refl _ _).alloc (Nat.le_refl _) _).alloc (by simp) _
  obtain ⟨AX, hAX⟩ : ∃ AX : List Value, AX = (Value.int .i64 z0 :: (Value.bool z1 :: ((y2 ++ [])))) := ⟨_, rfl⟩
  rw [← hAX]
  have hlen : AX.length = 19 := by rw [hAX]; simp [l2]
  have e0 : AX[0]? = some (.int .i64 z0) := at_mid (i := 0) (pre := (([] : List Value))) (ys := [.int .i64 z0]) (post := (Value.bool z1 :: ((y2 ++ [])))) (by rw [hAX]; simp) (by simp) rfl
  have e1 : AX[1]? = some (.bool z1) := at_mid (i := 0) (pre := ([Value.int .i64 z0])) (ys := [.bool z1]) (post := ((y2 ++ []))) (by rw [hAX]; simp) (by simp) rfl
  have e2 : ∀ i v, y2[i]? = some v → AX[2 + i]? = some v := fun i v h => at_mid (pre := ([Value.int .i64 z0, Value.bool z1])) (ys := y2) (post := []) (by rw [hAX]; simp) (by simp) h
  clear hAX
  have E0 := uhide e0
  clear e0
  have E1 := uhide e1
  clear e1
  have YZ2 : Hid ((Try.prog.info? 43).map (·.size) = some y2.length) := by show _ = _; rw [l2]; exact Try.zChange_impl_Obj
  have E2 := uhide e2
  clear e2
  obtain ⟨AY, hAY⟩ : ∃ AY : List Value, AY = (Value.int .i64 z0 :: (Value.bool z1 :: ((y2r ++ [])))) := ⟨_, rfl⟩
  rw [← hAY]
  have hlenr : AY.length = 19 := by rw [hAY]; simp [l2r]
  have e0r : AY[0]? = some (.int .i64 z0) := at_mid (i := 0) (pre := (([] : List Value))) (ys := [.int .i64 z0]) (post := (Value.bool z1 :: ((y2r ++ [])))) (by rw [hAY]; simp) (by simp) rfl
  have e1r : AY[1]? = some (.bool z1) := at_mid (i := 0) (pre := ([Value.int .i64 z0])) (ys := [.bool z1]) (post := ((y2r ++ []))) (by rw [hAY]; simp) (by simp) rfl
  have e2r : ∀ i v, y2r[i]? = some v → AY[2 + i]? = some v := fun i v h => at_mid (pre := ([Value.int .i64 z0, Value.bool z1])) (ys := y2r) (post := []) (by rw [hAY]; simp) (by simp) h
  clear hAY
  have Er0 := uhide e0r
  clear e0r
  have Er1 := uhide e1r
  clear e1r
  have YrZ2 : Hid ((Try.prog.info? 43).map (·.size) = some y2r.length) := by show _ = _; rw [l2r]; exact Try.zChange_impl_Obj
  clear l2 l2r
  have Er2 := uhide e2r
  clear e2r
  have OA0 : Hid (objU ((w.alloc (.cells AX.toArray 69)).alloc (.cells AY.toArray 69)) w.heap.size 69 AX) := (objU.new2 _ _ rfl).old _
  have OB0 : Hid (objU ((w.alloc (.cells AX.toArray 69)).alloc (.cells AY.toArray 69)) (w.heap.size + 1) 69 AY) := objU.new2 _ _ (by simp)
  clear ht g0 g2 s2 s2r
  go_enter Try.func58, Try.ntmps58
  go_wp2_with (first
    | ((with_reducible refine wpList_load_one ?qqg72 3 ?qqx72 ?qqo72 w.heap.size 0 ?qqh72 (.int .i64 z0) Try.rChange_int (OA0.out.cell 0 _ E0.out) ?_); (case qqg72 => rfl); (case qqo72 => rfl); (case qqh72 => simp [Act.eval, Act.put]))
    | ((with_reducible refine wpList_load_one ?qqg73 4 ?qqx73 ?qqo73 w.heap.size 1 ?qqh73 (.bool z1) Try.rChange_bool (OA0.out.cell 1 _ E1.out) ?_); (case qqg73 => rfl); (case qqo73 => rfl); (case qqh73 => simp [Act.eval, Act.put]))
    | ((with_reducible refine wpList_load_row2 ?qqg74 43 ?qqx74 ?qqo74 w.heap.size 2 ?qqh74 y2 Try.rChange_impl_Obj YZ2.out (OA0.out.range 2 _ E2.out) ?_); (case qqg74 => rfl); (case qqo74 => rfl); (case qqh74 => simp [Act.eval, Act.put]))
    | ((with_reducible refine wpList_load_one ?qqg75 3 ?qqx75 ?qqo75 (w.heap.size + 1) 0 ?qqh75 (.int .i64 z0) Try.rChange_int (OB0.out.cell 0 _ Er0.out) ?_); (case qqg75 => rfl); (case qqo75 => rfl); (case qqh75 => simp [Act.eval, Act.put]))
    | ((with_reducible refine wpList_load_one ?qqg76 4 ?qqx76 ?qqo76 (w.heap.size + 1) 1 ?qqh76 (.bool z1) Try.rChange_bool (OB0.out.cell 1 _ Er1.out) ?_); (case qqg76 => rfl); (case qqo76 => rfl); (case qqh76 => simp [Act.eval, Act.put]))
    | ((with_reducible refine wpList_load_row2 ?qqg77 43 ?qqx77 ?qqo77 (w.heap.size + 1) 2 ?qqh77 y2r Try.rChange_impl_Obj YrZ2.out (OB0.out.range 2 _ Er2.out) ?_); (case qqg77 => rfl); (case qqo77 => rfl); (case qqh77 => simp [Act.eval, Act.put]))
    )
  refine (HC0.out _ (HB.out _ _)).mono ?_
  rintro e w1 ⟨rfl, hb1⟩
  have OA1 := uhide (OA0.out.below hb1)
  have OB1 := uhide (OB0.out.below hb1)
  have B1 : Hid (Below w.heap.size w w1) := (HB.out _ _).trans (hb1.mono (by simp; omega))
  clear hb1 OA0 OB0
  go_wp2
  go_ret
  exact ⟨rfl, B1.out⟩
set_option maxRecDepth 20000 in
set_option maxHeartbeats 1600000 in
theorem ueqChangeS_any {lo hi lo' hi' : Nat} (n : Nat) (cs : UD) (c c' : Value) (w : World) (ht : tyS 19 n cs 9) (hx : uS w lo hi 19 n cs c) (hy : uS w lo' hi' 19 n cs c') :
    Calls Try.prog 32 #[c, c'] w fun e w' => e = .returned (.bool true) ∧ Below w.heap.size w w' := by
  obtain ⟨a, cap, rfl, hx2⟩ := hx
  obtain ⟨a', cap', rfl, hy2⟩ := hy
  have Hx : Hid (uS w lo hi 19 n cs (.slice a n cap)) := ⟨a, cap, rfl, hx2⟩
  have Hy : Hid (uS w lo' hi' 19 n cs (.slice a' n cap')) := ⟨a', cap', rfl, hy2⟩
  have hmx := ht.2.2.1
  unfold maxLen at hmx
  have Ht := uhide ht
  have hb0 : ((n : Int) != (n : Int)) = false := by simp
  clear hx2 hy2 ht
  go_enter Try.func32, Try.ntmps32
  go_wp2
  go_loopw [5] (fun i wr => ∃ (q : Nat), q ≤ n ∧ i = .int .i64 q ∧ Hid (Below w.heap.size w wr)) (fun i _ => n - (intOf i).toNat)
  case atStart => exact ⟨0, Nat.zero_le _, rfl, Below.refl _ _⟩
  case round =>
    obtain ⟨q, hq, rfl, hbw⟩ := hrel
    by_cases hlt : q < n
    · obtain ⟨b, off, rfl, hbb, hm⟩ := (Hx.out.below hbw.out).cells (by omega)
      obtain ⟨b', off', rfl, hbb', hm'⟩ := (Hy.out.below hbw.out).cells (by omega)
      have htr := Ht.out.row hlt
      obtain ⟨xs, hh, hcl⟩ := (hm.row 19 q).hand
      obtain ⟨ys, hh', hcl'⟩ := (hm'.row 19 q).hand
      have hi1 : (Try.prog.info? 69).map (·.size) = some xs.length := by rw [hh.len, tyL.len htr]; exact Try.zChange_impl_Change
      have hi2 : (Try.prog.info? 69).map (·.size) = some ys.length := by rw [hh'.len, tyL.len htr]; exact Try.zChange_impl_Change
      have Hcon : Hid (∀ wx, Below wr.heap.size wr wx → Calls Try.prog 58 #[.agg xs.toArray, .agg ys.toArray] wx fun e w' => e = .returned (.bool true) ∧ Hid (Below wr.heap.size wr w')) := fun wx hb => (ueqChange_any (lo := lo) (hi := hi) (lo' := lo') (hi' := hi') _ _ _ wx htr (hh.below hb) (hh'.below hb)).mono fun e w' h => ⟨h.1, hb.trans (h.2.mono hb.size)⟩
      have r1 : wr.rangeAt b (off + q * 19) xs := hcl
      have r2 : wr.rangeAt b' (off' + q * 19) ys := hcl'
      have R1 := uhide r1
      have R2 := uhide r2
      clear hcl hcl' hm hm' htr hh hh' Hx Hy Ht
      go_wp2
      refine wp_region_held_drew (S := fun w' => w'.rangeAt b (off + q * 19) xs ∧ w'.rangeAt b' (off' + q * 19) ys) (by kernel_rfl) ⟨(World.rangeAt_drew _ _ _ _).2 R1.out, (World.rangeAt_drew _ _ _ _).2 R2.out⟩ (fun hHeld => ?_)
      refine wpAnyH_take (i := 0) (oi := ⟨some 17, .move (.tmp 0), _, _, _, _⟩) (v := .slice (some ⟨b, off, none⟩) n cap) rfl (by kernel_rfl) (by kernel_rfl) (by kernel_rfl) (fun _ _ _ h => h) (Or.inl ⟨by rfl, by intro w hSw; go_simp⟩) hHeld ?_
      simp only [Act.put, List.setIfInBounds_toArray, List.set_cons_zero, List.set_cons_succ]
      refine wpAnyH_take (i := 1) (oi := ⟨some 18, .move (.tmp 5), _, _, _, _⟩) (v := .int .i64 q) rfl (by kernel_rfl) (by kernel_rfl) (by kernel_rfl) (fun _ _ _ h => h) (Or.inl ⟨by rfl, by intro w hSw; go_simp⟩) hHeld ?_
      simp only [Act.put, List.setIfInBounds_toArray, List.set_cons_zero, List.set_cons_succ]
      refine wpAnyH_take (i := 2) (oi := ⟨some 19, .indexAddr 23 (.tmp 17) (.tmp 18), _, _, _, _⟩) (v := .pointer (some ⟨b, off + q * 19, none⟩)) rfl (by kernel_rfl) (by kernel_rfl) (by kernel_rfl) (fun _ _ _ h => h) (Or.inl ⟨by rfl, by intro w hSw; go_simp⟩) hHeld ?_
      simp only [Act.put, List.setIfInBounds_toArray, List.set_cons_zero, List.set_cons_succ]
      refine wpAnyH_take (i := 3) (oi := ⟨some 20, .load 69 (.tmp 19), _, _, _, _⟩) (v := .agg xs.toArray) rfl (by kernel_rfl) (by kernel_rfl) (by kernel_rfl) (fun _ _ _ h => h) (yieldsIf_load_row (by rfl) 69 _ rfl b (off + q * 19) rfl xs (fun w hS => hS.1) Try.rChange_impl_Change hi1) hHeld ?_
      simp only [Act.put, List.setIfInBounds_toArray, List.set_cons_zero, List.set_cons_succ]
      refine wpAnyH_take (i := 4) (oi := ⟨some 21, .move (.tmp 1), _, _, _, _⟩) (v := .slice (some ⟨b', off', none⟩) n cap') rfl (by kernel_rfl) (by kernel_rfl) (by kernel_rfl) (fun _ _ _ h => h) (Or.inl ⟨by rfl, by intro w hSw; go_simp⟩) hHeld ?_
      simp only [Act.put, List.setIfInBounds_toArray, List.set_cons_zero, List.set_cons_succ]
      refine wpAnyH_take (i := 5) (oi := ⟨some 22, .move (.tmp 5), _, _, _, _⟩) (v := .int .i64 q) rfl (by kernel_rfl) (by kernel_rfl) (by kernel_rfl) (fun _ _ _ h => h) (Or.inl ⟨by rfl, by intro w hSw; go_simp⟩) hHeld ?_
      simp only [Act.put, List.setIfInBounds_toArray, List.set_cons_zero, List.set_cons_succ]
      refine wpAnyH_take (i := 6) (oi := ⟨some 23, .indexAddr 23 (.tmp 21) (.tmp 22), _, _, _, _⟩) (v := .pointer (some ⟨b', off' + q * 19, none⟩)) rfl (by kernel_rfl) (by kernel_rfl) (by kernel_rfl) (fun _ _ _ h => h) (Or.inl ⟨by rfl, by intro w hSw; go_simp⟩) hHeld ?_
      simp only [Act.put, List.setIfInBounds_toArray, List.set_cons_zero, List.set_cons_succ]
      refine wpAnyH_take (i := 7) (oi := ⟨some 24, .load 69 (.tmp 23), _, _, _, _⟩) (v := .agg ys.toArray) rfl (by kernel_rfl) (by kernel_rfl) (by kernel_rfl) (fun _ _ _ h => h) (yieldsIf_load_row (by rfl) 69 _ rfl b' (off' + q * 19) rfl ys (fun w hS => hS.2) Try.rChange_impl_Change hi2) hHeld ?_
      simp only [Act.put, List.setIfInBounds_toArray, List.set_cons_zero, List.set_cons_succ]
      refine wpAnyH_ready (rs := [8]) (by kernel_rfl) (by simp) (AllReadyH.cons (o := ⟨some 25, .call { callee := .value (.func 58), args := #[.tmp 20, .tmp 24], argTypes := #[69, 69] }, _, _, _, _⟩) rfl (fun K hK => ?_) AllReadyH.nil)
      refine step_call_of rfl 58 #[.tmp 20, .tmp 24] #[69, 69] rfl (callFunc_enter Try.func58 (by kernel_rfl) (by kernel_rfl)) #[.agg xs.toArray, .agg ys.toArray] (by simp [Act.eval]) (Hcon.out _ (Below.drew (Below.refl _ _))) ?_
      rintro e w2 ⟨rfl, hb2⟩
      refine ⟨.bool true, rfl, hK.out _ _ ⟨range_below R1.out hb2.out, range_below R2.out hb2.out⟩ (fun hHeld => ?_)⟩
      clear hK K
      simp only [Act.put, List.setIfInBounds_toArray, List.set_cons_zero, List.set_cons_succ]
      refine wpAnyH_take (i := 9) (oi := ⟨some 26, .unOp .not 4 (.tmp 25), _, _, _, _⟩) (v := .bool false) rfl (by kernel_rfl) (by kernel_rfl) (by kernel_rfl) (fun _ _ _ h => h) (Or.inl ⟨by rfl, by intro w hSw; go_simp⟩) hHeld ?_
      simp only [Act.put, List.setIfInBounds_toArray, List.set_cons_zero, List.set_cons_succ]
      refine wpAnyH_done (by kernel_rfl) ?_ _
      clear hHeld
      go_wp2
      go_roundw
      case rel => exact ⟨q + 1, by omega, by go_num, hbw.out.trans (hb2.out.mono hbw.out.size)⟩
      case measure => simp [intOf]; omega
    · have e : q = n := by omega
      subst e
      go_wp2
      go_ret
      exact ⟨rfl, hbw.out⟩
end Go.Proofs.Ytamlgjmboljcdaa
/- Data as cells: the helpers of the laws over Base. -/
namespace Go.Proofs.Ytamlgjmboljcdaa
open Go.RowKit Go.BigFrame
set_option linter.unusedVariables false
set_option linter.unusedSimpArgs false

set_option maxRecDepth 20000 in
set_option maxHeartbeats 1600000 in
theorem ueqBase_any {lo hi lo' hi' : Nat} (d : UD) (xs ys : List Value) (w : World) (ht : tyL d (uE 10)) (hx : uH w lo hi d xs) (hy : uH w lo' hi' d ys) :
    Calls Try.prog 10 #[.agg xs.toArray, .agg ys.toArray] w fun e w' => e = .returned (.bool true) ∧ Below w.heap.size w w' := by
  replace ht : tyL d [.l 17 8, .i .i64, .i .i64, .l 19 9] := ht
  obtain ⟨n0, c0, _, rfl, g0, h0⟩ := tyL.l ht
  obtain ⟨z1, _, rfl, g1, h1⟩ := tyL.i h0
  clear h0
  obtain ⟨z2, _, rfl, g2, h2⟩ := tyL.i h1
  clear h1
  obtain ⟨n3, c3, _, rfl, g3, h3⟩ := tyL.l h2
  clear h2
  obtain rfl := tyL.nil h3
  clear h3
  obtain ⟨v0, _, rfl, s0, h0⟩ := hx
  obtain ⟨_, rfl, h1⟩ := h0
  obtain ⟨_, rfl, h2⟩ := h1
  obtain ⟨v3, _, rfl, s3, h3⟩ := h2
  obtain rfl := h3
  obtain ⟨v0r, _, rfl, s0r, h0r⟩ := hy
  obtain ⟨_, rfl, h1r⟩ := h0r
  obtain ⟨_, rfl, h2r⟩ := h1r
  obtain ⟨v3r, _, rfl, s3r, h3r⟩ := h2r
  obtain rfl := h3r
  have HC0 : Hid (∀ wx : World, Below w.heap.size w wx → Calls Try.prog 24 #[v0, v0r] wx fun e w' => e = .returned (.bool true) ∧ Below wx.heap.size wx w') := fun wx hb => ueqObjS_any (lo := lo) (hi := hi) (lo' := lo') (hi' := hi') n0 c0 _ _ wx g0 (s0.below hb) (s0r.below hb)
  have HC1 : Hid (∀ wx : World, Below w.heap.size w wx → Calls Try.prog 32 #[v3, v3r] wx fun e w' => e = .returned (.bool true) ∧ Below wx.heap.size wx w') := fun wx hb => ueqChangeS_any (lo := lo) (hi := hi) (lo' := lo') (hi' := hi') n3 c3 _ _ wx g3 (s3.below hb) (s3r.below hb)
  have q1 : (z1 != z1) = false := by simp
  have q2 : (z2 != z2) = false := by simp
  have HB : Hid (∀ o o', Below w.heap.size w ((w.alloc o).alloc o')) := fun o o' => ((Below.refl _ _).alloc (Nat.le_refl _) _).alloc (by simp) _
  obtain ⟨AX, hAX⟩ : ∃ AX : List Value, AX = (v0 :: (Value.int .i64 z1 :: (Value.int .i64 z2 :: (v3 :: [])))) := ⟨_, rfl⟩
  rw [← hAX]
  have hlen : AX.length = 4 := by rw [hAX]; simp
  have e0 : AX[0]? = some (v0) := at_mid (i := 0) (pre := (([] : List Value))) (ys := [v0]) (post := (Value.int .i64 z1 :: (Value.int .i64 z2 :: (v3 :: [])))) (by rw [hAX]; simp) (by simp) rfl
  have e1 : AX[1]? = some (.int .i64 z1) := at_mid (i := 0) (pre := ([v0])) (ys := [.int .i64 z1]) (post := (Value.int .i64 z2 :: (v3 :: []))) (by rw [hAX]; simp) (by simp) rfl
  have e2 : AX[2]? = some (.int .i64 z2) := at_mid (i := 0) (pre := ([v0, Value.int .i64 z1])) (ys := [.int .i64 z2]) (post := (v3 :: [])) (by rw [hAX]; simp) (by simp) rfl
  have e3 : AX[3]? = some (v3) := at_mid (i := 0) (pre := ([v0, Value.int .i64 z1, Value.int .i64 z2])) (ys := [v3]) (post := []) (by rw [hAX]; simp) (by simp) rfl
  clear hAX
  have E0 := uhide e0
  clear e0
  have E1 := uhide e1
  clear e1
  have E2 := uhide e2
  clear e2
  have E3 := uhide e3
  clear e3
  obtain ⟨AY, hAY⟩ : ∃ AY : List Value, AY = (v0r :: (Value.int .i64 z1 :: (Value.int .i64 z2 :: (v3r :: [])))) := ⟨_, rfl⟩
  rw [← hAY]
  have hlenr : AY.length = 4 := by rw [hAY]; simp
  have e0r : AY[0]? = some (v0r) := at_mid (i := 0) (pre := (([] : List Value))) (ys := [v0r]) (post := (Value.int .i64 z1 :: (Value.int .i64 z2 :: (v3r :: [])))) (by rw [hAY]; simp) (by simp) rfl
  have e1r : AY[1]? = some (.int .i64 z1) := at_mid (i := 0) (pre := ([v0r])) (ys := [.int .i64 z1]) (post := (Value.int .i64 z2 :: (v3r :: []))) (by rw [hAY]; simp) (by simp) rfl
  have e2r : AY[2]? = some (.int .i64 z2) := at_mid (i := 0) (pre := ([v0r, Value.int .i64 z1])) (ys := [.int .i64 z2]) (post := (v3r :: [])) (by rw [hAY]; simp) (by simp) rfl
  have e3r : AY[3]? = some (v3r) := at_mid (i := 0) (pre := ([v0r, Value.int .i64 z1, Value.int .i64 z2])) (ys := [v3r]) (post := []) (by rw [hAY]; simp) (by simp) rfl
  clear hAY
  have Er0 := uhide e0r
  clear e0r
  have Er1 := uhide e1r
  clear e1r
  have Er2 := uhide e2r
  clear e2r
  have Er3 := uhide e3r
  clear e3r
  have OA0 : Hid (objU ((w.alloc (.cells AX.toArray 25)).alloc (.cells AY.toArray 25)) w.heap.size 25 AX) := (objU.new2 _ _ rfl).old _
  have OB0 : Hid (objU ((w.alloc (.cells AX.toArray 25)).alloc (.cells AY.toArray 25)) (w.heap.size + 1) 25 AY) := objU.new2 _ _ (by simp)
  clear ht g0 s0 s0r g1 g2 g3 s3 s3r
  go_enter Try.func10, Try.ntmps10
  go_wp2_with (first
    | ((with_reducible refine wpList_load_one ?qqg77 22 ?qqx77 ?qqo77 w.heap.size 0 ?qqh77 (v0) Try.rBase_Limpl_Obj (OA0.out.cell 0 _ E0.out) ?_); (case qqg77 => rfl); (case qqo77 => rfl); (case qqh77 => simp [Act.eval, Act.put]))
    | ((with_reducible refine wpList_load_one ?qqg78 3 ?qqx78 ?qqo78 w.heap.size 1 ?qqh78 (.int .i64 z1) Try.rBase_int (OA0.out.cell 1 _ E1.out) ?_); (case qqg78 => rfl); (case qqo78 => rfl); (case qqh78 => simp [Act.eval, Act.put]))
    | ((with_reducible refine wpList_load_one ?qqg79 3 ?qqx79 ?qqo79 w.heap.size 2 ?qqh79 (.int .i64 z2) Try.rBase_int (OA0.out.cell 2 _ E2.out) ?_); (case qqg79 => rfl); (case qqo79 => rfl); (case qqh79 => simp [Act.eval, Act.put]))
    | ((with_reducible refine wpList_load_one ?qqg80 23 ?qqx80 ?qqo80 w.heap.size 3 ?qqh80 (v3) Try.rBase_Limpl_Change (OA0.out.cell 3 _ E3.out) ?_); (case qqg80 => rfl); (case qqo80 => rfl); (case qqh80 => simp [Act.eval, Act.put]))
    | ((with_reducible refine wpList_load_one ?qqg81 22 ?qqx81 ?qqo81 (w.heap.size + 1) 0 ?qqh81 (v0r) Try.rBase_Limpl_Obj (OB0.out.cell 0 _ Er0.out) ?_); (case qqg81 => rfl); (case qqo81 => rfl); (case qqh81 => simp [Act.eval, Act.put]))
    | ((with_reducible refine wpList_load_one ?qqg82 3 ?qqx82 ?qqo82 (w.heap.size + 1) 1 ?qqh82 (.int .i64 z1) Try.rBase_int (OB0.out.cell 1 _ Er1.out) ?_); (case qqg82 => rfl); (case qqo82 => rfl); (case qqh82 => simp [Act.eval, Act.put]))
    | ((with_reducible refine wpList_load_one ?qqg83 3 ?qqx83 ?qqo83 (w.heap.size + 1) 2 ?qqh83 (.int .i64 z2) Try.rBase_int (OB0.out.cell 2 _ Er2.out) ?_); (case qqg83 => rfl); (case qqo83 => rfl); (case qqh83 => simp [Act.eval, Act.put]))
    | ((with_reducible refine wpList_load_one ?qqg84 23 ?qqx84 ?qqo84 (w.heap.size + 1) 3 ?qqh84 (v3r) Try.rBase_Limpl_Change (OB0.out.cell 3 _ Er3.out) ?_); (case qqg84 => rfl); (case qqo84 => rfl); (case qqh84 => simp [Act.eval, Act.put]))
    )
  refine (HC0.out _ (HB.out _ _)).mono ?_
  rintro e w1 ⟨rfl, hb1⟩
  have OA1 := uhide (OA0.out.below hb1)
  have OB1 := uhide (OB0.out.below hb1)
  have B1 : Hid (Below w.heap.size w w1) := (HB.out _ _).trans (hb1.mono (by simp; omega))
  clear hb1 OA0 OB0
  go_wp2_with (first
    | ((with_reducible refine wpList_load_one ?qqg93 22 ?qqx93 ?qqo93 w.heap.size 0 ?qqh93 (v0) Try.rBase_Limpl_Obj (OA1.out.cell 0 _ E0.out) ?_); (case qqg93 => rfl); (case qqo93 => rfl); (case qqh93 => simp [Act.eval, Act.put]))
    | ((with_reducible refine wpList_load_one ?qqg94 3 ?qqx94 ?qqo94 w.heap.size 1 ?qqh94 (.int .i64 z1) Try.rBase_int (OA1.out.cell 1 _ E1.out) ?_); (case qqg94 => rfl); (case qqo94 => rfl); (case qqh94 => simp [Act.eval, Act.put]))
    | ((with_reducible refine wpList_load_one ?qqg95 3 ?qqx95 ?qqo95 w.heap.size 2 ?qqh95 (.int .i64 z2) Try.rBase_int (OA1.out.cell 2 _ E2.out) ?_); (case qqg95 => rfl); (case qqo95 => rfl); (case qqh95 => simp [Act.eval, Act.put]))
    | ((with_reducible refine wpList_load_one ?qqg96 23 ?qqx96 ?qqo96 w.heap.size 3 ?qqh96 (v3) Try.rBase_Limpl_Change (OA1.out.cell 3 _ E3.out) ?_); (case qqg96 => rfl); (case qqo96 => rfl); (case qqh96 => simp [Act.eval, Act.put]))
    | ((with_reducible refine wpList_load_one ?qqg97 22 ?qqx97 ?qqo97 (w.heap.size + 1) 0 ?qqh97 (v0r) Try.rBase_Limpl_Obj (OB1.out.cell 0 _ Er0.out) ?_); (case qqg97 => rfl); (case qqo97 => rfl); (case qqh97 => simp [Act.eval, Act.put]))
    | ((with_reducible refine wpList_load_one ?qqg98 3 ?qqx98 ?qqo98 (w.heap.size + 1) 1 ?qqh98 (.int .i64 z1) Try.rBase_int (OB1.out.cell 1 _ Er1.out) ?_); (case qqg98 => rfl); (case qqo98 => rfl); (case qqh98 => simp [Act.eval, Act.put]))
    | ((with_reducible refine wpList_load_one ?qqg99 3 ?qqx99 ?qqo99 (w.heap.size + 1) 2 ?qqh99 (.int .i64 z2) Try.rBase_int (OB1.out.cell 2 _ Er2.out) ?_); (case qqg99 => rfl); (case qqo99 => rfl); (case qqh99 => simp [Act.eval, Act.put]))
    | ((with_reducible refine wpList_load_one ?qqg100 23 ?qqx100 ?qqo100 (w.heap.size + 1) 3 ?qqh100 (v3r) Try.rBase_Limpl_Change (OB1.out.cell 3 _ Er3.out) ?_); (case qqg100 => rfl); (case qqo100 => rfl); (case qqh100 => simp [Act.eval, Act.put]))
    )
  refine (HC1.out _ B1.out).mono ?_
  rintro e w2 ⟨rfl, hb2⟩
  have OA2 := uhide (OA1.out.below hb2)
  have OB2 := uhide (OB1.out.below hb2)
  have B2 : Hid (Below w.heap.size w w2) := B1.out.trans (hb2.mono B1.out.size)
  clear hb2 OA1 OB1
  go_wp2
  go_ret
  exact ⟨rfl, B2.out⟩
end Go.Proofs.Ytamlgjmboljcdaa

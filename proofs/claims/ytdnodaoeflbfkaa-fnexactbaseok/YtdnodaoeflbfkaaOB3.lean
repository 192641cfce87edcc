/- Objects: both that ask whether one is as told; whether one ends and waits for nothing. -/
import Derived.Test.YtdnodaoeflbfkaaOB2
import Derived.Test.YtdnodaoeflbfkaaUTObja
namespace Go.Proofs.Ytdnodaoeflbfkaa
open Go.RowKit Go.BigFrame
set_option linter.unusedVariables false
set_option linter.unusedSimpArgs false

set_option maxRecDepth 40000 in
set_option maxHeartbeats 6400000 in
theorem l7Obj_of {lo hi : Nat} (z0 : Int) (z1 : ByteArray) (z2 z3 z4 : Int) (z5 : Bool) (n6 : Nat) (c6 d7 d8 : UD) (k6 k7 : Bool) (xs : List Value) (rev next : Int) (gone : Bool) (w : World) (g1 : z1.size ≤ maxLen) (g6 : tyS 1 n6 c6 0) (g7 : tyL d7 (uE 6)) (g8 : tyL d8 (uE 6))
    (hv7 : ∀ (w : World) (lo hi : Nat) (xs : List Value), uH w lo hi d7 xs → Calls Try.prog 163 #[.agg xs.toArray] w fun e w' => e = .returned (.bool k6) ∧ Below w.heap.size w w')
    (hv8 : ∀ (w : World) (lo hi : Nat) (xs : List Value), uH w lo hi d8 xs → Calls Try.prog 163 #[.agg xs.toArray] w fun e w' => e = .returned (.bool k7) ∧ Below w.heap.size w w')
    (hn0 : -9223372036854775807 ≤ next) (hn1 : next ≤ 9223372036854775807) (hx : uH w lo hi (UD.p (.int .i64 z0) (UD.p (.string z1) (UD.p (.int .i64 z2) (UD.p (.int .i64 z3) (UD.p (.int .i64 z4) (UD.p (.bool z5) (UD.l 1 n6 c6 (UD.app d7 (UD.app d8 UD.nil))))))))) xs) :
    Calls Try.prog 88 #[.agg xs.toArray, .int .i64 rev, .int .i64 next, .bool gone] w fun e w' => e = .returned (.bool ((inB z0 1 3 && nameB z1 && waitsB (strL c6) && inB z2 1 (next - 1) && inB z3 1 rev && inB z4 1 z3 && k6 && k7) && (gone || !(z5 && decide (n6 = 0))))) ∧ Below w.heap.size w w' := by
  obtain ⟨_, rfl, h0⟩ := hx
  obtain ⟨_, rfl, h1⟩ := h0
  obtain ⟨_, rfl, h2⟩ := h1
  obtain ⟨_, rfl, h3⟩ := h2
  obtain ⟨_, rfl, h4⟩ := h3
  obtain ⟨_, rfl, h5⟩ := h4
  obtain ⟨v6, _, rfl, s6, h6⟩ := h5
  obtain ⟨y7, _, rfl, l7, s7, h7⟩ := uH.split h6
  replace l7 : y7.length = 5 := l7.trans (tyL.len g7)
  clear h6
  obtain ⟨y8, _, rfl, l8, s8, h8⟩ := uH.split h7
  replace l8 : y8.length = 5 := l8.trans (tyL.len g8)
  clear h7
  obtain rfl := h8
  obtain ⟨a6, cp6, rfl⟩ : ∃ a cap, v6 = .slice a n6 cap := by obtain ⟨a, cap, e, _⟩ := s6; exact ⟨a, cap, e⟩
  have hW6 : ∀ wx : World, Below w.heap.size w wx → Calls Try.prog 162 #[(.slice a6 n6 cp6)] wx fun e w' => e = .returned (.bool (waitsB (strL c6))) ∧ Below wx.heap.size wx w' := by
    intro wx hb
    have h6 := s6.below hb
    obtain ⟨q1, q2, q3⟩ := strB_of g6 h6
    have q4 := okStrs_of g6
    have := l7Waits_any (strL c6) a6 cp6 wx (by rw [q3]; exact g6.2.2.1) (fun t ht => q4 t ht) (strB.of q1)
    rw [q3] at this
    exact this
  obtain ⟨k0, hk0⟩ : ∃ k, k = inB z0 1 3 := ⟨_, rfl⟩
  have HK0 : Hid (∀ wx : World, Below w.heap.size w wx → Calls Try.prog 65 #[.int .i64 z0, .int .i64 1, .int .i64 3] wx fun e w' => e = .returned (.bool k0) ∧ Below wx.heap.size wx w') := fun wx hb => hk0 ▸ ((l1In_any _ _ _ wx).mono fun e w' h => ⟨h.1, h.2 ▸ Below.refl _ _⟩)
  obtain ⟨k1, hk1⟩ : ∃ k, k = nameB z1 := ⟨_, rfl⟩
  have HK1 : Hid (∀ wx : World, Below w.heap.size w wx → Calls Try.prog 64 #[.string z1] wx fun e w' => e = .returned (.bool k1) ∧ Below wx.heap.size wx w') := fun wx hb => hk1 ▸ ((sname_any z1 wx g1).mono fun e w' h => ⟨h.1, h.2 ▸ Below.refl _ _⟩)
  obtain ⟨k2, hk2⟩ : ∃ k, k = waitsB (strL c6) := ⟨_, rfl⟩
  have HK2 : Hid (∀ wx : World, Below w.heap.size w wx → Calls Try.prog 162 #[(.slice a6 n6 cp6)] wx fun e w' => e = .returned (.bool k2) ∧ Below wx.heap.size wx w') := fun wx hb => hk2 ▸ (hW6 _ hb)
  obtain ⟨k3, hk3⟩ : ∃ k, k = inB z2 1 (next - 1) := ⟨_, rfl⟩
  have HK3 : Hid (∀ wx : World, Below w.heap.size w wx → Calls Try.prog 65 #[.int .i64 z2, .int .i64 1, .int .i64 (next - 1)] wx fun e w' => e = .returned (.bool k3) ∧ Below wx.heap.size wx w') := fun wx hb => hk3 ▸ ((l1In_any _ _ _ wx).mono fun e w' h => ⟨h.1, h.2 ▸ Below.refl _ _⟩)
  obtain ⟨k4, hk4⟩ : ∃ k, k = inB z3 1 rev := ⟨_, rfl⟩
  have HK4 : Hid (∀ wx : World, Below w.heap.size w wx → Calls Try.prog 65 #[.int .i64 z3, .int .i64 1, .int .i64 rev] wx fun e w' => e = .returned (.bool k4) ∧ Below wx.heap.size wx w') := fun wx hb => hk4 ▸ ((l1In_any _ _ _ wx).mono fun e w' h => ⟨h.1, h.2 ▸ Below.refl _ _⟩)
  obtain ⟨k5, hk5⟩ : ∃ k, k = inB z4 1 z3 := ⟨_, rfl⟩
  have HK5 : Hid (∀ wx : World, Below w.heap.size w wx → Calls Try.prog 65 #[.int .i64 z4, .int .i64 1, .int .i64 z3] wx fun e w' => e = .returned (.bool k5) ∧ Below wx.heap.size wx w') := fun wx hb => hk5 ▸ ((l1In_any _ _ _ wx).mono fun e w' h => ⟨h.1, h.2 ▸ Below.refl _ _⟩)
  have HK6 : Hid (∀ wx : World, Below w.heap.size w wx → Calls Try.prog 163 #[.agg y7.toArray] wx fun e w' => e = .returned (.bool k6) ∧ Below wx.heap.size wx w') := fun wx hb => (hv7 wx lo hi y7 (s7.below hb))
  have HK7 : Hid (∀ wx : World, Below w.heap.size w wx → Calls Try.prog 163 #[.agg y8.toArray] wx fun e w' => e = .returned (.bool k7) ∧ Below wx.heap.size wx w') := fun wx hb => (hv8 wx lo hi y8 (s8.below hb))
  have hwr : IntKind.i64.wrap (next - 1) = next - 1 := uwrap64 _ (by omega) (by omega)
  rw [← hk0, ← hk1, ← hk2, ← hk3, ← hk4, ← hk5]
  obtain ⟨AX, hAX⟩ : ∃ AX : List Value, AX = (Value.int .i64 z0 :: (Value.string z1 :: (Value.int .i64 z2 :: (Value.int .i64 z3 :: (Value.int .i64 z4 :: (Value.bool z5 :: ((.slice a6 n6 cp6) :: ((y7 ++ ((y8 ++ []))))))))))) := ⟨_, rfl⟩
  rw [← hAX]
  have hlen : AX.length = 17 := by rw [hAX]; simp [l7, l8]
  have e0 : AX[0]? = some (.int .i64 z0) := at_mid (i := 0) (pre := (([] : List Value))) (ys := [.int .i64 z0]) (post := (Value.string z1 :: (Value.int .i64 z2 :: (Value.int .i64 z3 :: (Value.int .i64 z4 :: (Value.bool z5 :: ((.slice a6 n6 cp6) :: ((y7 ++ ((y8 ++ []))))))))))) (by rw [hAX]; simp) (by simp) rfl
  have e1 : AX[1]? = some (.string z1) := at_mid (i := 0) (pre := ([Value.int .i64 z0])) (ys := [.string z1]) (post := (Value.int .i64 z2 :: (Value.int .i64 z3 :: (Value.int .i64 z4 :: (Value.bool z5 :: ((.slice a6 n6 cp6) :: ((y7 ++ ((y8 ++ [])))))))))) (by rw [hAX]; simp) (by simp) rfl
  have e2 : AX[2]? = some (.int .i64 z2) := at_mid (i := 0) (pre := ([Value.int .i64 z0, Value.string z1])) (ys := [.int .i64 z2]) (post := (Value.int .i64 z3 :: (Value.int .i64 z4 :: (Value.bool z5 :: ((.slice a6 n6 cp6) :: ((y7 ++ ((y8 ++ []))))))))) (by rw [hAX]; simp) (by simp) rfl
  have e3 : AX[3]? = some (.int .i64 z3) := at_mid (i := 0) (pre := ([Value.int .i64 z0, Value.string z1, Value.int .i64 z2])) (ys := [.int .i64 z3]) (post := (Value.int .i64 z4 :: (Value.bool z5 :: ((.slice a6 n6 cp6) :: ((y7 ++ ((y8 ++ [])))))))) (by rw [hAX]; simp) (by simp) rfl
  have e4 : AX[4]? = some (.int .i64 z4) := at_mid (i := 0) (pre := ([Value.int .i64 z0, Value.string z1, Value.int .i64 z2, Value.int .i64 z3])) (ys := [.int .i64 z4]) (post := (Value.bool z5 :: ((.slice a6 n6 cp6) :: ((y7 ++ ((y8 ++ []))))))) (by rw [hAX]; simp) (by simp) rfl
  have e5 : AX[5]? = some (.bool z5) := at_mid (i := 0) (pre := ([Value.int .i64 z0, Value.string z1, Value.int .i64 z2, Value.int .i64 z3, Value.int .i64 z4])) (ys := [.bool z5]) (post := ((.slice a6 n6 cp6) :: ((y7 ++ ((y8 ++ [])))))) (by rw [hAX]; simp) (by simp) rfl
  have e6 : AX[6]? = some ((.slice a6 n6 cp6)) := at_mid (i := 0) (pre := ([Value.int .i64 z0, Value.string z1, Value.int .i64 z2, Value.int .i64 z3, Value.int .i64 z4, Value.bool z5])) (ys := [(.slice a6 n6 cp6)]) (post := ((y7 ++ ((y8 ++ []))))) (by rw [hAX]; simp) (by simp) rfl
  have e7 : ∀ i v, y7[i]? = some v → AX[7 + i]? = some v := fun i v h => at_mid (pre := ([Value.int .i64 z0, Value.string z1, Value.int .i64 z2, Value.int .i64 z3, Value.int .i64 z4, Value.bool z5, (.slice a6 n6 cp6)])) (ys := y7) (post := ((y8 ++ []))) (by rw [hAX]; simp) (by simp) h
  have e8 : ∀ i v, y8[i]? = some v → AX[12 + i]? = some v := fun i v h => at_mid (pre := ([Value.int .i64 z0, Value.string z1, Value.int .i64 z2, Value.int .i64 z3, Value.int .i64 z4, Value.bool z5, (.slice a6 n6 cp6)] ++ y7)) (ys := y8) (post := []) (by rw [hAX]; simp) (by simp [l7]) h
  clear hAX
  have E0 := uhide e0
  clear e0
  have E1 := uhide e1
  clear e1
  have E2 := uhide e2
  clear e2
  have E3 := uhide e3
  clear e3
  have E4 := uhide e4
  clear e4
  have E5 := uhide e5
  clear e5
  have E6 := uhide e6
  clear e6
  have YZ7 : Hid ((Try.prog.info? 134).map (·.size) = some y7.length) := by show _ = _; rw [l7]; exact Try.zObj_impl_Value
  have E7 := uhide e7
  clear e7
  have YZ8 : Hid ((Try.prog.info? 134).map (·.size) = some y8.length) := by show _ = _; rw [l8]; exact Try.zObj_impl_Value
  have E8 := uhide e8
  clear e8
  have OA : Hid (objU (w.alloc (.cells AX.toArray 136)) w.heap.size 136 AX) := objU.new2 _ _ rfl
  have BA : Hid (Below w.heap.size w (w.alloc (.cells AX.toArray 136))) := (Below.refl _ _).alloc (Nat.le_refl _) _
  have hmx := g6.2.2.1
  unfold maxLen at hmx
  clear hW6 hk0 hk1 hk2 hk3 hk4 hk5 hv7 hv8 g1 g6 g7 g8 s6 s7 s8 l7 l8 hlen
  cases k0 with
  | false =>
    go_enter Try.func88, Try.ntmps88
    go_wp2_with (first
      | ((with_reducible refine wpList_load_oneG ?qqg983 3 ?qqx983 ?qqo983 w.heap.size 0 ?qqh983 (.int .i64 z0) Try.rObj_int (OA.out.cell 0 _ E0.out) ?_); (case qqg983 => rfl); (case qqo983 => rfl); (case qqh983 => simp [Act.eval, Act.put]))
      )
    refine (HK0.out _ BA.out).mono ?_
    rintro e w0 ⟨rfl, hb0⟩
    have O0 := uhide (OA.out.below hb0)
    have B0 : Hid (Below w.heap.size w w0) := BA.out.trans (hb0.mono BA.out.size)
    clear hb0
    go_wp2
    go_ret
    exact ⟨ret_bool (by simp), B0.out⟩
  | true =>
  cases k1 with
  | false =>
    go_enter Try.func88, Try.ntmps88
    go_wp2_with (first
      | ((with_reducible refine wpList_load_oneG ?qqg1006 3 ?qqx1006 ?qqo1006 w.heap.size 0 ?qqh1006 (.int .i64 z0) Try.rObj_int (OA.out.cell 0 _ E0.out) ?_); (case qqg1006 => rfl); (case qqo1006 => rfl); (case qqh1006 => simp [Act.eval, Act.put]))
      )
    refine (HK0.out _ BA.out).mono ?_
    rintro e w0 ⟨rfl, hb0⟩
    have O0 := uhide (OA.out.below hb0)
    have B0 : Hid (Below w.heap.size w w0) := BA.out.trans (hb0.mono BA.out.size)
    clear hb0
    go_wp2_with (first
      | ((with_reducible refine wpList_load_oneG ?qqg1023 9 ?qqx1023 ?qqo1023 w.heap.size 1 ?qqh1023 (.string z1) Try.rObj_string (O0.out.cell 1 _ E1.out) ?_); (case qqg1023 => rfl); (case qqo1023 => rfl); (case qqh1023 => simp [Act.eval, Act.put]))
      )
    refine (HK1.out _ B0.out).mono ?_
    rintro e w1 ⟨rfl, hb1⟩
    have O1 := uhide (O0.out.below hb1)
    have B1 : Hid (Below w.heap.size w w1) := B0.out.trans (hb1.mono B0.out.size)
    clear hb1
    go_wp2
    go_ret
    exact ⟨ret_bool (by simp), B1.out⟩
  | true =>
  cases k3 with
  | false =>
    go_enter Try.func88, Try.ntmps88
    go_wp2_with (first
      | ((with_reducible refine wpList_load_oneG ?qqg1045 3 ?qqx1045 ?qqo1045 w.heap.size 0 ?qqh1045 (.int .i64 z0) Try.rObj_int (OA.out.cell 0 _ E0.out) ?_); (case qqg1045 => rfl); (case qqo1045 => rfl); (case qqh1045 => simp [Act.eval, Act.put]))
      )
    refine (HK0.out _ BA.out).mono ?_
    rintro e w0 ⟨rfl, hb0⟩
    have O0 := uhide (OA.out.below hb0)
    have B0 : Hid (Below w.heap.size w w0) := BA.out.trans (hb0.mono BA.out.size)
    clear hb0
    go_wp2_with (first
      | ((with_reducible refine wpList_load_oneG ?qqg1062 9 ?qqx1062 ?qqo1062 w.heap.size 1 ?qqh1062 (.string z1) Try.rObj_string (O0.out.cell 1 _ E1.out) ?_); (case qqg1062 => rfl); (case qqo1062 => rfl); (case qqh1062 => simp [Act.eval, Act.put]))
      )
    refine (HK1.out _ B0.out).mono ?_
    rintro e w1 ⟨rfl, hb1⟩
    have O1 := uhide (O0.out.below hb1)
    have B1 : Hid (Below w.heap.size w w1) := B0.out.trans (hb1.mono B0.out.size)
    clear hb1
    go_wp2_with (first
      | ((with_reducible refine wpList_load_oneG ?qqg1079 3 ?qqx1079 ?qqo1079 w.heap.size 2 ?qqh1079 (.int .i64 z2) Try.rObj_int (O1.out.cell 2 _ E2.out) ?_); (case qqg1079 => rfl); (case qqo1079 => rfl); (case qqh1079 => simp [Act.eval, Act.put]))
      )
    refine (HK3.out _ B1.out).mono ?_
    rintro e w3 ⟨rfl, hb3⟩
    have O3 := uhide (O1.out.below hb3)
    have B3 : Hid (Below w.heap.size w w3) := B1.out.trans (hb3.mono B1.out.size)
    clear hb3
    go_wp2
    go_ret
    exact ⟨ret_bool (by simp), B3.out⟩
  | true =>
  cases k4 with
  | false =>
    go_enter Try.func88, Try.ntmps88
    go_wp2_with (first
      | ((with_reducible refine wpList_load_oneG ?qqg1100 3 ?qqx1100 ?qqo1100 w.heap.size 0 ?qqh1100 (.int .i64 z0) Try.rObj_int (OA.out.cell 0 _ E0.out) ?_); (case qqg1100 => rfl); (case qqo1100 => rfl); (case qqh1100 => simp [Act.eval, Act.put]))
      )
    refine (HK0.out _ BA.out).mono ?_
    rintro e w0 ⟨rfl, hb0⟩
    have O0 := uhide (OA.out.below hb0)
    have B0 : Hid (Below w.heap.size w w0) := BA.out.trans (hb0.mono BA.out.size)
    clear hb0
    go_wp2_with (first
      | ((with_reducible refine wpList_load_oneG ?qqg1117 9 ?qqx1117 ?qqo1117 w.heap.size 1 ?qqh1117 (.string z1) Try.rObj_string (O0.out.cell 1 _ E1.out) ?_); (case qqg1117 => rfl); (case qqo1117 => rfl); (case qqh1117 => simp [Act.eval, Act.put]))
      )
    refine (HK1.out _ B0.out).mono ?_
    rintro e w1 ⟨rfl, hb1⟩
    have O1 := uhide (O0.out.below hb1)
    have B1 : Hid (Below w.heap.size w w1) := B0.out.trans (hb1.mono B0.out.size)
    clear hb1
    go_wp2_with (first
      | ((with_reducible refine wpList_load_oneG ?qqg1134 3 ?qqx1134 ?qqo1134 w.heap.size 2 ?qqh1134 (.int .i64 z2) Try.rObj_int (O1.out.cell 2 _ E2.out) ?_); (case qqg1134 => rfl); (case qqo1134 => rfl); (case qqh1134 => simp [Act.eval, Act.put]))
      )
    refine (HK3.out _ B1.out).mono ?_
    rintro e w3 ⟨rfl, hb3⟩
    have O3 := uhide (O1.out.below hb3)
    have B3 : Hid (Below w.heap.size w w3) := B1.out.trans (hb3.mono B1.out.size)
    clear hb3
    go_wp2_with (first
      | ((with_reducible refine wpList_load_oneG ?qqg1151 3 ?qqx1151 ?qqo1151 w.heap.size 3 ?qqh1151 (.int .i64 z3) Try.rObj_int (O3.out.cell 3 _ E3.out) ?_); (case qqg1151 => rfl); (case qqo1151 => rfl); (case qqh1151 => simp [Act.eval, Act.put]))
      )
    refine (HK4.out _ B3.out).mono ?_
    rintro e w4 ⟨rfl, hb4⟩
    have O4 := uhide (O3.out.below hb4)
    have B4 : Hid (Below w.heap.size w w4) := B3.out.trans (hb4.mono B3.out.size)
    clear hb4
    go_wp2
    go_ret
    exact ⟨ret_bool (by simp), B4.out⟩
  | true =>
  cases k5 with
  | false =>
    go_enter Try.func88, Try.ntmps88
    go_wp2_with (first
      | ((with_reducible refine wpList_load_oneG ?qqg1171 3 ?qqx1171 ?qqo1171 w.heap.size 0 ?qqh1171 (.int .i64 z0) Try.rObj_int (OA.out.cell 0 _ E0.out) ?_); (case qqg1171 => rfl); (case qqo1171 => rfl); (case qqh1171 => simp [Act.eval, Act.put]))
      )
    refine (HK0.out _ BA.out).mono ?_
    rintro e w0 ⟨rfl, hb0⟩
    have O0 := uhide (OA.out.below hb0)
    have B0 : Hid (Below w.heap.size w w0) := BA.out.trans (hb0.mono BA.out.size)
    clear hb0
    go_wp2_with (first
      | ((with_reducible refine wpList_load_oneG ?qqg1188 9 ?qqx1188 ?qqo1188 w.heap.size 1 ?qqh1188 (.string z1) Try.rObj_string (O0.out.cell 1 _ E1.out) ?_); (case qqg1188 => rfl); (case qqo1188 => rfl); (case qqh1188 => simp [Act.eval, Act.put]))
      )
    refine (HK1.out _ B0.out).mono ?_
    rintro e w1 ⟨rfl, hb1⟩
    have O1 := uhide (O0.out.below hb1)
    have B1 : Hid (Below w.heap.size w w1) := B0.out.trans (hb1.mono B0.out.size)
    clear hb1
    go_wp2_with (first
      | ((with_reducible refine wpList_load_oneG ?qqg1205 3 ?qqx1205 ?qqo1205 w.heap.size 2 ?qqh1205 (.int .i64 z2) Try.rObj_int (O1.out.cell 2 _ E2.out) ?_); (case qqg1205 => rfl); (case qqo1205 => rfl); (case qqh1205 => simp [Act.eval, Act.put]))
      )
    refine (HK3.out _ B1.out).mono ?_
    rintro e w3 ⟨rfl, hb3⟩
    have O3 := uhide (O1.out.below hb3)
    have B3 : Hid (Below w.heap.size w w3) := B1.out.trans (hb3.mono B1.out.size)
    clear hb3
    go_wp2_with (first
      | ((with_reducible refine wpList_load_oneG ?qqg1222 3 ?qqx1222 ?qqo1222 w.heap.size 3 ?qqh1222 (.int .i64 z3) Try.rObj_int (O3.out.cell 3 _ E3.out) ?_); (case qqg1222 => rfl); (case qqo1222 => rfl); (case qqh1222 => simp [Act.eval, Act.put]))
      )
    refine (HK4.out _ B3.out).mono ?_
    rintro e w4 ⟨rfl, hb4⟩
    have O4 := uhide (O3.out.below hb4)
    have B4 : Hid (Below w.heap.size w w4) := B3.out.trans (hb4.mono B3.out.size)
    clear hb4
    go_wp2_with (first
      | ((with_reducible refine wpList_load_oneG ?qqg1238 3 ?qqx1238 ?qqo1238 w.heap.size 3 ?qqh1238 (.int .i64 z3) Try.rObj_int (O4.out.cell 3 _ E3.out) ?_); (case qqg1238 => rfl); (case qqo1238 => rfl); (case qqh1238 => simp [Act.eval, Act.put]))
      | ((with_reducible refine wpList_load_oneG ?qqg1239 3 ?qqx1239 ?qqo1239 w.heap.size 4 ?qqh1239 (.int .i64 z4) Try.rObj_int (O4.out.cell 4 _ E4.out) ?_); (case qqg1239 => rfl); (case qqo1239 => rfl); (case qqh1239 => simp [Act.eval, Act.put]))
      )
    refine (HK5.out _ B4.out).mono ?_
    rintro e w5 ⟨rfl, hb5⟩
    have O5 := uhide (O4.out.below hb5)
    have B5 : Hid (Below w.heap.size w w5) := B4.out.trans (hb5.mono B4.out.size)
    clear hb5
    go_wp2
    go_ret
    exact ⟨ret_bool (by simp), B5.out⟩
  | true =>
  cases k2 with
  | false =>
    go_enter Try.func88, Try.ntmps88
    go_wp2_with (first
      | ((with_reducible refine wpList_load_oneG ?qqg1258 3 ?qqx1258 ?qqo1258 w.heap.size 0 ?qqh1258 (.int .i64 z0) Try.rObj_int (OA.out.cell 0 _ E0.out) ?_); (case qqg1258 => rfl); (case qqo1258 => rfl); (case qqh1258 => simp [Act.eval, Act.put]))
      )
    refine (HK0.out _ BA.out).mono ?_
    rintro e w0 ⟨rfl, hb0⟩
    have O0 := uhide (OA.out.below hb0)
    have B0 : Hid (Below w.heap.size w w0) := BA.out.trans (hb0.mono BA.out.size)
    clear hb0
    go_wp2_with (first
      | ((with_reducible refine wpList_load_oneG ?qqg1275 9 ?qqx1275 ?qqo1275 w.heap.size 1 ?qqh1275 (.string z1) Try.rObj_string (O0.out.cell 1 _ E1.out) ?_); (case qqg1275 => rfl); (case qqo1275 => rfl); (case qqh1275 => simp [Act.eval, Act.put]))
      )
    refine (HK1.out _ B0.out).mono ?_
    rintro e w1 ⟨rfl, hb1⟩
    have O1 := uhide (O0.out.below hb1)
    have B1 : Hid (Below w.heap.size w w1) := B0.out.trans (hb1.mono B0.out.size)
    clear hb1
    go_wp2_with (first
      | ((with_reducible refine wpList_load_oneG ?qqg1292 3 ?qqx1292 ?qqo1292 w.heap.size 2 ?qqh1292 (.int .i64 z2) Try.rObj_int (O1.out.cell 2 _ E2.out) ?_); (case qqg1292 => rfl); (case qqo1292 => rfl); (case qqh1292 => simp [Act.eval, Act.put]))
      )
    refine (HK3.out _ B1.out).mono ?_
    rintro e w3 ⟨rfl, hb3⟩
    have O3 := uhide (O1.out.below hb3)
    have B3 : Hid (Below w.heap.size w w3) := B1.out.trans (hb3.mono B1.out.size)
    clear hb3
    go_wp2_with (first
      | ((with_reducible refine wpList_load_oneG ?qqg1309 3 ?qqx1309 ?qqo1309 w.heap.size 3 ?qqh1309 (.int .i64 z3) Try.rObj_int (O3.out.cell 3 _ E3.out) ?_); (case qqg1309 => rfl); (case qqo1309 => rfl); (case qqh1309 => simp [Act.eval, Act.put]))
      )
    refine (HK4.out _ B3.out).mono ?_
    rintro e w4 ⟨rfl, hb4⟩
    have O4 := uhide (O3.out.below hb4)
    have B4 : Hid (Below w.heap.size w w4) := B3.out.trans (hb4.mono B3.out.size)
    clear hb4
    go_wp2_with (first
      | ((with_reducible refine wpList_load_oneG ?qqg1325 3 ?qqx1325 ?qqo1325 w.heap.size 3 ?qqh1325 (.int .i64 z3) Try.rObj_int (O4.out.cell 3 _ E3.out) ?_); (case qqg1325 => rfl); (case qqo1325 => rfl); (case qqh1325 => simp [Act.eval, Act.put]))
      | ((with_reducible refine wpList_load_oneG ?qqg1326 3 ?qqx1326 ?qqo1326 w.heap.size 4 ?qqh1326 (.int .i64 z4) Try.rObj_int (O4.out.cell 4 _ E4.out) ?_); (case qqg1326 => rfl); (case qqo1326 => rfl); (case qqh1326 => simp [Act.eval, Act.put]))
      )
    refine (HK5.out _ B4.out).mono ?_
    rintro e w5 ⟨rfl, hb5⟩
    have O5 := uhide (O4.out.below hb5)
    have B5 : Hid (Below w.heap.size w w5) := B4.out.trans (hb5.mono B4.out.size)
    clear hb5
    go_wp2_with (first
      | ((with_reducible refine wpList_load_oneG ?qqg1344 25 ?qqx1344 ?qqo1344 w.heap.size 6 ?qqh1344 ((.slice a6 n6 cp6)) Try.rObj_Lstring (O5.out.cell 6 _ E6.out) ?_); (case qqg1344 => rfl); (case qqo1344 => rfl); (case qqh1344 => simp [Act.eval, Act.put]))
      )
    refine (HK2.out _ B5.out).mono ?_
    rintro e w2 ⟨rfl, hb2⟩
    have O2 := uhide (O5.out.below hb2)
    have B2 : Hid (Below w.heap.size w w2) := B5.out.trans (hb2.mono B5.out.size)
    clear hb2
    go_wp2
    go_ret
    exact ⟨ret_bool (by simp), B2.out⟩
  | true =>
  cases k6 with
  | false =>
    go_enter Try.func88, Try.ntmps88
    go_wp2_with (first
      | ((with_reducible refine wpList_load_oneG ?qqg1361 3 ?qqx1361 ?qqo1361 w.heap.size 0 ?qqh1361 (.int .i64 z0) Try.rObj_int (OA.out.cell 0 _ E0.out) ?_); (case qqg1361 => rfl); (case qqo1361 => rfl); (case qqh1361 => simp [Act.eval, Act.put]))
      )
    refine (HK0.out _ BA.out).mono ?_
    rintro e w0 ⟨rfl, hb0⟩
    have O0 := uhide (OA.out.below hb0)
    have B0 : Hid (Below w.heap.size w w0) := BA.out.trans (hb0.mono BA.out.size)
    clear hb0
    go_wp2_with (first
      | ((with_reducible refine wpList_load_oneG ?qqg1378 9 ?qqx1378 ?qqo1378 w.heap.size 1 ?qqh1378 (.string z1) Try.rObj_string (O0.out.cell 1 _ E1.out) ?_); (case qqg1378 => rfl); (case qqo1378 => rfl); (case qqh1378 => simp [Act.eval, Act.put]))
      )
    refine (HK1.out _ B0.out).mono ?_
    rintro e w1 ⟨rfl, hb1⟩
    have O1 := uhide (O0.out.below hb1)
    have B1 : Hid (Below w.heap.size w w1) := B0.out.trans (hb1.mono B0.out.size)
    clear hb1
    go_wp2_with (first
      | ((with_reducible refine wpList_load_oneG ?qqg1395 3 ?qqx1395 ?qqo1395 w.heap.size 2 ?qqh1395 (.int .i64 z2) Try.rObj_int (O1.out.cell 2 _ E2.out) ?_); (case qqg1395 => rfl); (case qqo1395 => rfl); (case qqh1395 => simp [Act.eval, Act.put]))
      )
    refine (HK3.out _ B1.out).mono ?_
    rintro e w3 ⟨rfl, hb3⟩
    have O3 := uhide (O1.out.below hb3)
    have B3 : Hid (Below w.heap.size w w3) := B1.out.trans (hb3.mono B1.out.size)
    clear hb3
    go_wp2_with (first
      | ((with_reducible refine wpList_load_oneG ?qqg1412 3 ?qqx1412 ?qqo1412 w.heap.size 3 ?qqh1412 (.int .i64 z3) Try.rObj_int (O3.out.cell 3 _ E3.out) ?_); (case qqg1412 => rfl); (case qqo1412 => rfl); (case qqh1412 => simp [Act.eval, Act.put]))
      )
    refine (HK4.out _ B3.out).mono ?_
    rintro e w4 ⟨rfl, hb4⟩
    have O4 := uhide (O3.out.below hb4)
    have B4 : Hid (Below w.heap.size w w4) := B3.out.trans (hb4.mono B3.out.size)
    clear hb4
    go_wp2_with (first
      | ((with_reducible refine wpList_load_oneG ?qqg1428 3 ?qqx1428 ?qqo1428 w.heap.size 3 ?qqh1428 (.int .i64 z3) Try.rObj_int (O4.out.cell 3 _ E3.out) ?_); (case qqg1428 => rfl); (case qqo1428 => rfl); (case qqh1428 => simp [Act.eval, Act.put]))
      | ((with_reducible refine wpList_load_oneG ?qqg1429 3 ?qqx1429 ?qqo1429 w.heap.size 4 ?qqh1429 (.int .i64 z4) Try.rObj_int (O4.out.cell 4 _ E4.out) ?_); (case qqg1429 => rfl); (case qqo1429 => rfl); (case qqh1429 => simp [Act.eval, Act.put]))
      )
    refine (HK5.out _ B4.out).mono ?_
    rintro e w5 ⟨rfl, hb5⟩
    have O5 := uhide (O4.out.below hb5)
    have B5 : Hid (Below w.heap.size w w5) := B4.out.trans (hb5.mono B4.out.size)
    clear hb5
    go_wp2_with (first
      | ((with_reducible refine wpList_load_oneG ?qqg1447 25 ?qqx1447 ?qqo1447 w.heap.size 6 ?qqh1447 ((.slice a6 n6 cp6)) Try.rObj_Lstring (O5.out.cell 6 _ E6.out) ?_); (case qqg1447 => rfl); (case qqo1447 => rfl); (case qqh1447 => simp [Act.eval, Act.put]))
      )
    refine (HK2.out _ B5.out).mono ?_
    rintro e w2 ⟨rfl, hb2⟩
    have O2 := uhide (O5.out.below hb2)
    have B2 : Hid (Below w.heap.size w w2) := B5.out.trans (hb2.mono B5.out.size)
    clear hb2
    go_wp2_with (first
      | ((with_reducible refine wpList_load_rowG ?qqg1464 134 ?qqx1464 ?qqo1464 w.heap.size 7 ?qqh1464 y7 Try.rObj_impl_Value YZ7.out (O2.out.range 7 _ E7.out) ?_); (case qqg1464 => rfl); (case qqo1464 => rfl); (case qqh1464 => simp [Act.eval, Act.put]))
      )
    refine (HK6.out _ B2.out).mono ?_
    rintro e w6 ⟨rfl, hb6⟩
    have O6 := uhide (O2.out.below hb6)
    have B6 : Hid (Below w.heap.size w w6) := B2.out.trans (hb6.mono B2.out.size)
    clear hb6
    go_wp2
    go_ret
    exact ⟨ret_bool (by simp), B6.out⟩
  | true =>
  cases k7 with
  | false =>
    go_enter Try.func88, Try.ntmps88
    go_wp2_with (first
      | ((with_reducible refine wpList_load_oneG ?qqg1480 3 ?qqx1480 ?qqo1480 w.heap.size 0 ?qqh1480 (.int .i64 z0) Try.rObj_int (OA.out.cell 0 _ E0.out) ?_); (case qqg1480 => rfl); (case qqo1480 => rfl); (case qqh1480 => simp [Act.eval, Act.put]))
      )
    refine (HK0.out _ BA.out).mono ?_
    rintro e w0 ⟨rfl, hb0⟩
    have O0 := uhide (OA.out.below hb0)
    have B0 : Hid (Below w.heap.size w w0) := BA.out.trans (hb0.mono BA.out.size)
    clear hb0
    go_wp2_with (first
      | ((with_reducible refine wpList_load_oneG ?qqg1497 9 ?qqx1497 ?qqo1497 w.heap.size 1 ?qqh1497 (.string z1) Try.rObj_string (O0.out.cell 1 _ E1.out) ?_); (case qqg1497 => rfl); (case qqo1497 => rfl); (case qqh1497 => simp [Act.eval, Act.put]))
      )
    refine (HK1.out _ B0.out).mono ?_
    rintro e w1 ⟨rfl, hb1⟩
    have O1 := uhide (O0.out.below hb1)
    have B1 : Hid (Below w.heap.size w w1) := B0.out.trans (hb1.mono B0.out.size)
    clear hb1
    go_wp2_with (first
      | ((with_reducible refine wpList_load_oneG ?qqg1514 3 ?qqx1514 ?qqo1514 w.heap.size 2 ?qqh1514 (.int .i64 z2) Try.rObj_int (O1.out.cell 2 _ E2.out) ?_); (case qqg1514 => rfl); (case qqo1514 => rfl); (case qqh1514 => simp [Act.eval, Act.put]))
      )
    refine (HK3.out _ B1.out).mono ?_
    rintro e w3 ⟨rfl, hb3⟩
    have O3 := uhide (O1.out.below hb3)
    have B3 : Hid (Below w.heap.size w w3) := B1.out.trans (hb3.mono B1.out.size)
    clear hb3
    go_wp2_with (first
      | ((with_reducible refine wpList_load_oneG ?qqg1531 3 ?qqx1531 ?qqo1531 w.heap.size 3 ?qqh1531 (.int .i64 z3) Try.rObj_int (O3.out.cell 3 _ E3.out) ?_); (case qqg1531 => rfl); (case qqo1531 => rfl); (case qqh1531 => simp [Act.eval, Act.put]))
      )
    refine (HK4.out _ B3.out).mono ?_
    rintro e w4 ⟨rfl, hb4⟩
    have O4 := uhide (O3.out.below hb4)
    have B4 : Hid (Below w.heap.size w w4) := B3.out.trans (hb4.mono B3.out.size)
    clear hb4
    go_wp2_with (first
      | ((with_reducible refine wpList_load_oneG ?qqg1547 3 ?qqx1547 ?qqo1547 w.heap.size 3 ?qqh1547 (.int .i64 z3) Try.rObj_int (O4.out.cell 3 _ E3.out) ?_); (case qqg1547 => rfl); (case qqo1547 => rfl); (case qqh1547 => simp [Act.eval, Act.put]))
      | ((with_reducible refine wpList_load_oneG ?qqg1548 3 ?qqx1548 ?qqo1548 w.heap.size 4 ?qqh1548 (.int .i64 z4) Try.rObj_int (O4.out.cell 4 _ E4.out) ?_); (case qqg1548 => rfl); (case qqo1548 => rfl); (case qqh1548 => simp [Act.eval, Act.put]))
      )
    refine (HK5.out _ B4.out).mono ?_
    rintro e w5 ⟨rfl, hb5⟩
    have O5 := uhide (O4.out.below hb5)
    have B5 : Hid (Below w.heap.size w w5) := B4.out.trans (hb5.mono B4.out.size)
    clear hb5
    go_wp2_with (first
      | ((with_reducible refine wpList_load_oneG ?qqg1566 25 ?qqx1566 ?qqo1566 w.heap.size 6 ?qqh1566 ((.slice a6 n6 cp6)) Try.rObj_Lstring (O5.out.cell 6 _ E6.out) ?_); (case qqg1566 => rfl); (case qqo1566 => rfl); (case qqh1566 => simp [Act.eval, Act.put]))
      )
    refine (HK2.out _ B5.out).mono ?_
    rintro e w2 ⟨rfl, hb2⟩
    have O2 := uhide (O5.out.below hb2)
    have B2 : Hid (Below w.heap.size w w2) := B5.out.trans (hb2.mono B5.out.size)
    clear hb2
    go_wp2_with (first
      | ((with_reducible refine wpList_load_rowG ?qqg1583 134 ?qqx1583 ?qqo1583 w.heap.size 7 ?qqh1583 y7 Try.rObj_impl_Value YZ7.out (O2.out.range 7 _ E7.out) ?_); (case qqg1583 => rfl); (case qqo1583 => rfl); (case qqh1583 => simp [Act.eval, Act.put]))
      )
    refine (HK6.out _ B2.out).mono ?_
    rintro e w6 ⟨rfl, hb6⟩
    have O6 := uhide (O2.out.below hb6)
    have B6 : Hid (Below w.heap.size w w6) := B2.out.trans (hb6.mono B2.out.size)
    clear hb6
    go_wp2_with (first
      | ((with_reducible refine wpList_load_rowG ?qqg1600 134 ?qqx1600 ?qqo1600 w.heap.size 12 ?qqh1600 y8 Try.rObj_impl_Value YZ8.out (O6.out.range 12 _ E8.out) ?_); (case qqg1600 => rfl); (case qqo1600 => rfl); (case qqh1600 => simp [Act.eval, Act.put]))
      )
    refine (HK7.out _ B6.out).mono ?_
    rintro e w7 ⟨rfl, hb7⟩
    have O7 := uhide (O6.out.below hb7)
    have B7 : Hid (Below w.heap.size w w7) := B6.out.trans (hb7.mono B6.out.size)
    clear hb7
    go_wp2
    go_ret
    exact ⟨ret_bool (by simp), B7.out⟩
  | true =>
  cases gone with
  | true =>
    go_enter Try.func88, Try.ntmps88
    go_wp2_with (first
      | ((with_reducible refine wpList_load_oneG ?qqg1615 3 ?qqx1615 ?qqo1615 w.heap.size 0 ?qqh1615 (.int .i64 z0) Try.rObj_int (OA.out.cell 0 _ E0.out) ?_); (case qqg1615 => rfl); (case qqo1615 => rfl); (case qqh1615 => simp [Act.eval, Act.put]))
      )
    refine (HK0.out _ BA.out).mono ?_
    rintro e w0 ⟨rfl, hb0⟩
    have O0 := uhide (OA.out.below hb0)
    have B0 : Hid (Below w.heap.size w w0) := BA.out.trans (hb0.mono BA.out.size)
    clear hb0
    go_wp2_with (first
      | ((with_reducible refine wpList_load_oneG ?qqg1632 9 ?qqx1632 ?qqo1632 w.heap.size 1 ?qqh1632 (.string z1) Try.rObj_string (O0.out.cell 1 _ E1.out) ?_); (case qqg1632 => rfl); (case qqo1632 => rfl); (case qqh1632 => simp [Act.eval, Act.put]))
      )
    refine (HK1.out _ B0.out).mono ?_
    rintro e w1 ⟨rfl, hb1⟩
    have O1 := uhide (O0.out.below hb1)
    have B1 : Hid (Below w.heap.size w w1) := B0.out.trans (hb1.mono B0.out.size)
    clear hb1
    go_wp2_with (first
      | ((with_reducible refine wpList_load_oneG ?qqg1649 3 ?qqx1649 ?qqo1649 w.heap.size 2 ?qqh1649 (.int .i64 z2) Try.rObj_int (O1.out.cell 2 _ E2.out) ?_); (case qqg1649 => rfl); (case qqo1649 => rfl); (case qqh1649 => simp [Act.eval, Act.put]))
      )
    refine (HK3.out _ B1.out).mono ?_
    rintro e w3 ⟨rfl, hb3⟩
    have O3 := uhide (O1.out.below hb3)
    have B3 : Hid (Below w.heap.size w w3) := B1.out.trans (hb3.mono B1.out.size)
    clear hb3
    go_wp2_with (first
      | ((with_reducible refine wpList_load_oneG ?qqg1666 3 ?qqx1666 ?qqo1666 w.heap.size 3 ?qqh1666 (.int .i64 z3) Try.rObj_int (O3.out.cell 3 _ E3.out) ?_); (case qqg1666 => rfl); (case qqo1666 => rfl); (case qqh1666 => simp [Act.eval, Act.put]))
      )
    refine (HK4.out _ B3.out).mono ?_
    rintro e w4 ⟨rfl, hb4⟩
    have O4 := uhide (O3.out.below hb4)
    have B4 : Hid (Below w.heap.size w w4) := B3.out.trans (hb4.mono B3.out.size)
    clear hb4
    go_wp2_with (first
      | ((with_reducible refine wpList_load_oneG ?qqg1682 3 ?qqx1682 ?qqo1682 w.heap.size 3 ?qqh1682 (.int .i64 z3) Try.rObj_int (O4.out.cell 3 _ E3.out) ?_); (case qqg1682 => rfl); (case qqo1682 => rfl); (case qqh1682 => simp [Act.eval, Act.put]))
      | ((with_reducible refine wpList_load_oneG ?qqg1683 3 ?qqx1683 ?qqo1683 w.heap.size 4 ?qqh1683 (.int .i64 z4) Try.rObj_int (O4.out.cell 4 _ E4.out) ?_); (case qqg1683 => rfl); (case qqo1683 => rfl); (case qqh1683 => simp [Act.eval, Act.put]))
      )
    refine (HK5.out _ B4.out).mono ?_
    rintro e w5 ⟨rfl, hb5⟩
    have O5 := uhide (O4.out.below hb5)
    have B5 : Hid (Below w.heap.size w w5) := B4.out.trans (hb5.mono B4.out.size)
    clear hb5
    go_wp2_with (first
      | ((with_reducible refine wpList_load_oneG ?qqg1701 25 ?qqx1701 ?qqo1701 w.heap.size 6 ?qqh1701 ((.slice a6 n6 cp6)) Try.rObj_Lstring (O5.out.cell 6 _ E6.out) ?_); (case qqg1701 => rfl); (case qqo1701 => rfl); (case qqh1701 => simp [Act.eval, Act.put]))
      )
    refine (HK2.out _ B5.out).mono ?_
    rintro e w2 ⟨rfl, hb2⟩
    have O2 := uhide (O5.out.below hb2)
    have B2 : Hid (Below w.heap.size w w2) := B5.out.trans (hb2.mono B5.out.size)
    clear hb2
    go_wp2_with (first
      | ((with_reducible refine wpList_load_rowG ?qqg1718 134 ?qqx1718 ?qqo1718 w.heap.size 7 ?qqh1718 y7 Try.rObj_impl_Value YZ7.out (O2.out.range 7 _ E7.out) ?_); (case qqg1718 => rfl); (case qqo1718 => rfl); (case qqh1718 => simp [Act.eval, Act.put]))
      )
    refine (HK6.out _ B2.out).mono ?_
    rintro e w6 ⟨rfl, hb6⟩
    have O6 := uhide (O2.out.below hb6)
    have B6 : Hid (Below w.heap.size w w6) := B2.out.trans (hb6.mono B2.out.size)
    clear hb6
    go_wp2_with (first
      | ((with_reducible refine wpList_load_rowG ?qqg1735 134 ?qqx1735 ?qqo1735 w.heap.size 12 ?qqh1735 y8 Try.rObj_impl_Value YZ8.out (O6.out.range 12 _ E8.out) ?_); (case qqg1735 => rfl); (case qqo1735 => rfl); (case qqh1735 => simp [Act.eval, Act.put]))
      )
    refine (HK7.out _ B6.out).mono ?_
    rintro e w7 ⟨rfl, hb7⟩
    have O7 := uhide (O6.out.below hb7)
    have B7 : Hid (Below w.heap.size w w7) := B6.out.trans (hb7.mono B6.out.size)
    clear hb7
    go_wp2
    go_ret
    exact ⟨ret_bool (by simp), B7.out⟩
  | false =>
    cases z5 with
    | false =>
      go_enter Try.func88, Try.ntmps88
      go_wp2_with (first
        | ((with_reducible refine wpList_load_oneG ?qqg1750 3 ?qqx1750 ?qqo1750 w.heap.size 0 ?qqh1750 (.int .i64 z0) Try.rObj_int (OA.out.cell 0 _ E0.out) ?_); (case qqg1750 => rfl); (case qqo1750 => rfl); (case qqh1750 => simp [Act.eval, Act.put]))
        )
      refine (HK0.out _ BA.out).mono ?_
      rintro e w0 ⟨rfl, hb0⟩
      have O0 := uhide (OA.out.below hb0)
      have B0 : Hid (Below w.heap.size w w0) := BA.out.trans (hb0.mono BA.out.size)
      clear hb0
      go_wp2_with (first
        | ((with_reducible refine wpList_load_oneG ?qqg1767 9 ?qqx1767 ?qqo1767 w.heap.size 1 ?qqh1767 (.string z1) Try.rObj_string (O0.out.cell 1 _ E1.out) ?_); (case qqg1767 => rfl); (case qqo1767 => rfl); (case qqh1767 => simp [Act.eval, Act.put]))
        )
      refine (HK1.out _ B0.out).mono ?_
      rintro e w1 ⟨rfl, hb1⟩
      have O1 := uhide (O0.out.below hb1)
      have B1 : Hid (Below w.heap.size w w1) := B0.out.trans (hb1.mono B0.out.size)
      clear hb1
      go_wp2_with (first
        | ((with_reducible refine wpList_load_oneG ?qqg1784 3 ?qqx1784 ?qqo1784 w.heap.size 2 ?qqh1784 (.int .i64 z2) Try.rObj_int (O1.out.cell 2 _ E2.out) ?_); (case qqg1784 => rfl); (case qqo1784 => rfl); (case qqh1784 => simp [Act.eval, Act.put]))
        )
      refine (HK3.out _ B1.out).mono ?_
      rintro e w3 ⟨rfl, hb3⟩
      have O3 := uhide (O1.out.below hb3)
      have B3 : Hid (Below w.heap.size w w3) := B1.out.trans (hb3.mono B1.out.size)
      clear hb3
      go_wp2_with (first
        | ((with_reducible refine wpList_load_oneG ?qqg1801 3 ?qqx1801 ?qqo1801 w.heap.size 3 ?qqh1801 (.int .i64 z3) Try.rObj_int (O3.out.cell 3 _ E3.out) ?_); (case qqg1801 => rfl); (case qqo1801 => rfl); (case qqh1801 => simp [Act.eval, Act.put]))
        )
      refine (HK4.out _ B3.out).mono ?_
      rintro e w4 ⟨rfl, hb4⟩
      have O4 := uhide (O3.out.below hb4)
      have B4 : Hid (Below w.heap.size w w4) := B3.out.trans (hb4.mono B3.out.size)
      clear hb4
      go_wp2_with (first
        | ((with_reducible refine wpList_load_oneG ?qqg1817 3 ?qqx1817 ?qqo1817 w.heap.size 3 ?qqh1817 (.int .i64 z3) Try.rObj_int (O4.out.cell 3 _ E3.out) ?_); (case qqg1817 => rfl); (case qqo1817 => rfl); (case qqh1817 => simp [Act.eval, Act.put]))
        | ((with_reducible refine wpList_load_oneG ?qqg1818 3 ?qqx1818 ?qqo1818 w.heap.size 4 ?qqh1818 (.int .i64 z4) Try.rObj_int (O4.out.cell 4 _ E4.out) ?_); (case qqg1818 => rfl); (case qqo1818 => rfl); (case qqh1818 => simp [Act.eval, Act.put]))
        )
      refine (HK5.out _ B4.out).mono ?_
      rintro e w5 ⟨rfl, hb5⟩
      have O5 := uhide (O4.out.below hb5)
      have B5 : Hid (Below w.heap.size w w5) := B4.out.trans (hb5.mono B4.out.size)
      clear hb5
      go_wp2_with (first
        | ((with_reducible refine wpList_load_oneG ?qqg1836 25 ?qqx1836 ?qqo1836 w.heap.size 6 ?qqh1836 ((.slice a6 n6 cp6)) Try.rObj_Lstring (O5.out.cell 6 _ E6.out) ?_); (case qqg1836 => rfl); (case qqo1836 => rfl); (case qqh1836 => simp [Act.eval, Act.put]))
        )
      refine (HK2.out _ B5.out).mono ?_
      rintro e w2 ⟨rfl, hb2⟩
      have O2 := uhide (O5.out.below hb2)
      have B2 : Hid (Below w.heap.size w w2) := B5.out.trans (hb2.mono B5.out.size)
      clear hb2
      go_wp2_with (first
        | ((with_reducible refine wpList_load_rowG ?qqg1853 134 ?qqx1853 ?qqo1853 w.heap.size 7 ?qqh1853 y7 Try.rObj_impl_Value YZ7.out (O2.out.range 7 _ E7.out) ?_); (case qqg1853 => rfl); (case qqo1853 => rfl); (case qqh1853 => simp [Act.eval, Act.put]))
        )
      refine (HK6.out _ B2.out).mono ?_
      rintro e w6 ⟨rfl, hb6⟩
      have O6 := uhide (O2.out.below hb6)
      have B6 : Hid (Below w.heap.size w w6) := B2.out.trans (hb6.mono B2.out.size)
      clear hb6
      go_wp2_with (first
        | ((with_reducible refine wpList_load_rowG ?qqg1870 134 ?qqx1870 ?qqo1870 w.heap.size 12 ?qqh1870 y8 Try.rObj_impl_Value YZ8.out (O6.out.range 12 _ E8.out) ?_); (case qqg1870 => rfl); (case qqo1870 => rfl); (case qqh1870 => simp [Act.eval, Act.put]))
        )
      refine (HK7.out _ B6.out).mono ?_
      rintro e w7 ⟨rfl, hb7⟩
      have O7 := uhide (O6.out.below hb7)
      have B7 : Hid (Below w.heap.size w w7) := B6.out.trans (hb7.mono B6.out.size)
      clear hb7
      go_wp2_with (first
        | ((with_reducible refine wpList_load_oneG ?qqg1878 4 ?qqx1878 ?qqo1878 w.heap.size 5 ?qqh1878 (.bool false) Try.rObj_bool (O7.out.cell 5 _ E5.out) ?_); (case qqg1878 => rfl); (case qqo1878 => rfl); (case qqh1878 => simp [Act.eval, Act.put]))
        | ((with_reducible refine wpList_load_oneG ?qqg1879 25 ?qqx1879 ?qqo1879 w.heap.size 6 ?qqh1879 ((.slice a6 n6 cp6)) Try.rObj_Lstring (O7.out.cell 6 _ E6.out) ?_); (case qqg1879 => rfl); (case qqo1879 => rfl); (case qqh1879 => simp [Act.eval, Act.put]))
        )
      go_ret
      exact ⟨ret_bool (by simp), B7.out⟩
    | true =>
      by_cases h6 : n6 = 0
      · have h6p : ¬ ((0 : Int) < (n6 : Int)) := by omega
        have H6 := uhide h6
        clear h6
        go_enter Try.func88, Try.ntmps88
        go_wp2_with (first
          | ((with_reducible refine wpList_load_oneG ?qqg1890 3 ?qqx1890 ?qqo1890 w.heap.size 0 ?qqh1890 (.int .i64 z0) Try.rObj_int (OA.out.cell 0 _ E0.out) ?_); (case qqg1890 => rfl); (case qqo1890 => rfl); (case qqh1890 => simp [Act.eval, Act.put]))
          )
        refine (HK0.out _ BA.out).mono ?_
        rintro e w0 ⟨rfl, hb0⟩
        have O0 := uhide (OA.out.below hb0)
        have B0 : Hid (Below w.heap.size w w0) := BA.out.trans (hb0.mono BA.out.size)
        clear hb0
        go_wp2_with (first
          | ((with_reducible refine wpList_load_oneG ?qqg1907 9 ?qqx1907 ?qqo1907 w.heap.size 1 ?qqh1907 (.string z1) Try.rObj_string (O0.out.cell 1 _ E1.out) ?_); (case qqg1907 => rfl); (case qqo1907 => rfl); (case qqh1907 => simp [Act.eval, Act.put]))
          )
        refine (HK1.out _ B0.out).mono ?_
        rintro e w1 ⟨rfl, hb1⟩
        have O1 := uhide (O0.out.below hb1)
        have B1 : Hid (Below w.heap.size w w1) := B0.out.trans (hb1.mono B0.out.size)
        clear hb1
        go_wp2_with (first
          | ((with_reducible refine wpList_load_oneG ?qqg1924 3 ?qqx1924 ?qqo1924 w.heap.size 2 ?qqh1924 (.int .i64 z2) Try.rObj_int (O1.out.cell 2 _ E2.out) ?_); (case qqg1924 => rfl); (case qqo1924 => rfl); (case qqh1924 => simp [Act.eval, Act.put]))
          )
        refine (HK3.out _ B1.out).mono ?_
        rintro e w3 ⟨rfl, hb3⟩
        have O3 := uhide (O1.out.below hb3)
        have B3 : Hid (Below w.heap.size w w3) := B1.out.trans (hb3.mono B1.out.size)
        clear hb3
        go_wp2_with (first
          | ((with_reducible refine wpList_load_oneG ?qqg1941 3 ?qqx1941 ?qqo1941 w.heap.size 3 ?qqh1941 (.int .i64 z3) Try.rObj_int (O3.out.cell 3 _ E3.out) ?_); (case qqg1941 => rfl); (case qqo1941 => rfl); (case qqh1941 => simp [Act.eval, Act.put]))
          )
        refine (HK4.out _ B3.out).mono ?_
        rintro e w4 ⟨rfl, hb4⟩
        have O4 := uhide (O3.out.below hb4)
        have B4 : Hid (Below w.heap.size w w4) := B3.out.trans (hb4.mono B3.out.size)
        clear hb4
        go_wp2_with (first
          | ((with_reducible refine wpList_load_oneG ?qqg1957 3 ?qqx1957 ?qqo1957 w.heap.size 3 ?qqh1957 (.int .i64 z3) Try.rObj_int (O4.out.cell 3 _ E3.out) ?_); (case qqg1957 => rfl); (case qqo1957 => rfl); (case qqh1957 => simp [Act.eval, Act.put]))
          | ((with_reducible refine wpList_load_oneG ?qqg1958 3 ?qqx1958 ?qqo1958 w.heap.size 4 ?qqh1958 (.int .i64 z4) Try.rObj_int (O4.out.cell 4 _ E4.out) ?_); (case qqg1958 => rfl); (case qqo1958 => rfl); (case qqh1958 => simp [Act.eval, Act.put]))
          )
        refine (HK5.out _ B4.out).mono ?_
        rintro e w5 ⟨rfl, hb5⟩
        have O5 := uhide (O4.out.below hb5)
        have B5 : Hid (Below w.heap.size w w5) := B4.out.trans (hb5.mono B4.out.size)
        clear hb5
        go_wp2_with (first
          | ((with_reducible refine wpList_load_oneG ?qqg1976 25 ?qqx1976 ?qqo1976 w.heap.size 6 ?qqh1976 ((.slice a6 n6 cp6)) Try.rObj_Lstring (O5.out.cell 6 _ E6.out) ?_); (case qqg1976 => rfl); (case qqo1976 => rfl); (case qqh1976 => simp [Act.eval, Act.put]))
          )
        refine (HK2.out _ B5.out).mono ?_
        rintro e w2 ⟨rfl, hb2⟩
        have O2 := uhide (O5.out.below hb2)
        have B2 : Hid (Below w.heap.size w w2) := B5.out.trans (hb2.mono B5.out.size)
        clear hb2
        go_wp2_with (first
          | ((with_reducible refine wpList_load_rowG ?qqg1993 134 ?qqx1993 ?qqo1993 w.heap.size 7 ?qqh1993 y7 Try.rObj_impl_Value YZ7.out (O2.out.range 7 _ E7.out) ?_); (case qqg1993 => rfl); (case qqo1993 => rfl); (case qqh1993 => simp [Act.eval, Act.put]))
          )
        refine (HK6.out _ B2.out).mono ?_
        rintro e w6 ⟨rfl, hb6⟩
        have O6 := uhide (O2.out.below hb6)
        have B6 : Hid (Below w.heap.size w w6) := B2.out.trans (hb6.mono B2.out.size)
        clear hb6
        go_wp2_with (first
          | ((with_reducible refine wpList_load_rowG ?qqg2010 134 ?qqx2010 ?qqo2010 w.heap.size 12 ?qqh2010 y8 Try.rObj_impl_Value YZ8.out (O6.out.range 12 _ E8.out) ?_); (case qqg2010 => rfl); (case qqo2010 => rfl); (case qqh2010 => simp [Act.eval, Act.put]))
          )
        refine (HK7.out _ B6.out).mono ?_
        rintro e w7 ⟨rfl, hb7⟩
        have O7 := uhide (O6.out.below hb7)
        have B7 : Hid (Below w.heap.size w w7) := B6.out.trans (hb7.mono B6.out.size)
        clear hb7
        go_wp2_with (first
          | ((with_reducible refine wpList_load_oneG ?qqg2018 4 ?qqx2018 ?qqo2018 w.heap.size 5 ?qqh2018 (.bool true) Try.rObj_bool (O7.out.cell 5 _ E5.out) ?_); (case qqg2018 => rfl); (case qqo2018 => rfl); (case qqh2018 => simp [Act.eval, Act.put]))
          | ((with_reducible refine wpList_load_oneG ?qqg2019 25 ?qqx2019 ?qqo2019 w.heap.size 6 ?qqh2019 ((.slice a6 n6 cp6)) Try.rObj_Lstring (O7.out.cell 6 _ E6.out) ?_); (case qqg2019 => rfl); (case qqo2019 => rfl); (case qqh2019 => simp [Act.eval, Act.put]))
          )
        go_ret
        exact ⟨ret_bool (by simp [H6.out]), B7.out⟩
      · have h6p : (0 : Int) < (n6 : Int) := by omega
        have H6 := uhide h6
        clear h6
        go_enter Try.func88, Try.ntmps88
        go_wp2_with (first
          | ((with_reducible refine wpList_load_oneG ?qqg2028 3 ?qqx2028 ?qqo2028 w.heap.size 0 ?qqh2028 (.int .i64 z0) Try.rObj_int (OA.out.cell 0 _ E0.out) ?_); (case qqg2028 => rfl); (case qqo2028 => rfl); (case qqh2028 => simp [Act.eval, Act.put]))
          )
        refine (HK0.out _ BA.out).mono ?_
        rintro e w0 ⟨rfl, hb0⟩
        have O0 := uhide (OA.out.below hb0)
        have B0 : Hid (Below w.heap.size w w0) := BA.out.trans (hb0.mono BA.out.size)
        clear hb0
        go_wp2_with (first
          | ((with_reducible refine wpList_load_oneG ?qqg2045 9 ?qqx2045 ?qqo2045 w.heap.size 1 ?qqh2045 (.string z1) Try.rObj_string (O0.out.cell 1 _ E1.out) ?_); (case qqg2045 => rfl); (case qqo2045 => rfl); (case qqh2045 => simp [Act.eval, Act.put]))
          )
        refine (HK1.out _ B0.out).mono ?_
        rintro e w1 ⟨rfl, hb1⟩
        have O1 := uhide (O0.out.below hb1)
        have B1 : Hid (Below w.heap.size w w1) := B0.out.trans (hb1.mono B0.out.size)
        clear hb1
        go_wp2_with (first
          | ((with_reducible refine wpList_load_oneG ?qqg2062 3 ?qqx2062 ?qqo2062 w.heap.size 2 ?qqh2062 (.int .i64 z2) Try.rObj_int (O1.out.cell 2 _ E2.out) ?_); (case qqg2062 => rfl); (case qqo2062 => rfl); (case qqh2062 => simp [Act.eval, Act.put]))
          )
        refine (HK3.out _ B1.out).mono ?_
        rintro e w3 ⟨rfl, hb3⟩
        have O3 := uhide (O1.out.below hb3)
        have B3 : Hid (Below w.heap.size w w3) := B1.out.trans (hb3.mono B1.out.size)
        clear hb3
        go_wp2_with (first
          | ((with_reducible refine wpList_load_oneG ?qqg2079 3 ?qqx2079 ?qqo2079 w.heap.size 3 ?qqh2079 (.int .i64 z3) Try.rObj_int (O3.out.cell 3 _ E3.out) ?_); (case qqg2079 => rfl); (case qqo2079 => rfl); (case qqh2079 => simp [Act.eval, Act.put]))
          )
        refine (HK4.out _ B3.out).mono ?_
        rintro e w4 ⟨rfl, hb4⟩
        have O4 := uhide (O3.out.below hb4)
        have B4 : Hid (Below w.heap.size w w4) := B3.out.trans (hb4.mono B3.out.size)
        clear hb4
        go_wp2_with (first
          | ((with_reducible refine wpList_load_oneG ?qqg2095 3 ?qqx2095 ?qqo2095 w.heap.size 3 ?qqh2095 (.int .i64 z3) Try.rObj_int (O4.out.cell 3 _ E3.out) ?_); (case qqg2095 => rfl); (case qqo2095 => rfl); (case qqh2095 => simp [Act.eval, Act.put]))
          | ((with_reducible refine wpList_load_oneG ?qqg2096 3 ?qqx2096 ?qqo2096 w.heap.size 4 ?qqh2096 (.int .i64 z4) Try.rObj_int (O4.out.cell 4 _ E4.out) ?_); (case qqg2096 => rfl); (case qqo2096 => rfl); (case qqh2096 => simp [Act.eval, Act.put]))
          )
        refine (HK5.out _ B4.out).mono ?_
        rintro e w5 ⟨rfl, hb5⟩
        have O5 := uhide (O4.out.below hb5)
        have B5 : Hid (Below w.heap.size w w5) := B4.out.trans (hb5.mono B4.out.size)
        clear hb5
        go_wp2_with (first
          | ((with_reducible refine wpList_load_oneG ?qqg2114 25 ?qqx2114 ?qqo2114 w.heap.size 6 ?qqh2114 ((.slice a6 n6 cp6)) Try.rObj_Lstring (O5.out.cell 6 _ E6.out) ?_); (case qqg2114 => rfl); (case qqo2114 => rfl); (case qqh2114 => simp [Act.eval, Act.put]))
          )
        refine (HK2.out _ B5.out).mono ?_
        rintro e w2 ⟨rfl, hb2⟩
        have O2 := uhide (O5.out.below hb2)
        have B2 : Hid (Below w.heap.size w w2) := B5.out.trans (hb2.mono B5.out.size)
        clear hb2
        go_wp2_with (first
          | ((with_reducible refine wpList_load_rowG ?qqg2131 134 ?qqx2131 ?qqo2131 w.heap.size 7 ?qqh2131 y7 Try.rObj_impl_Value YZ7.out (O2.out.range 7 _ E7.out) ?_); (case qqg2131 => rfl); (case qqo2131 => rfl); (case qqh2131 => simp [Act.eval, Act.put]))
          )
        refine (HK6.out _ B2.out).mono ?_
        rintro e w6 ⟨rfl, hb6⟩
        have O6 := uhide (O2.out.below hb6)
        have B6 : Hid (Below w.heap.size w w6) := B2.out.trans (hb6.mono B2.out.size)
        clear hb6
        go_wp2_with (first
          | ((with_reducible refine wpList_load_rowG ?qqg2148 134 ?qqx2148 ?qqo2148 w.heap.size 12 ?qqh2148 y8 Try.rObj_impl_Value YZ8.out (O6.out.range 12 _ E8.out) ?_); (case qqg2148 => rfl); (case qqo2148 => rfl); (case qqh2148 => simp [Act.eval, Act.put]))
          )
        refine (HK7.out _ B6.out).mono ?_
        rintro e w7 ⟨rfl, hb7⟩
        have O7 := uhide (O6.out.below hb7)
        have B7 : Hid (Below w.heap.size w w7) := B6.out.trans (hb7.mono B6.out.size)
        clear hb7
        go_wp2_with (first
          | ((with_reducible refine wpList_load_oneG ?qqg2156 4 ?qqx2156 ?qqo2156 w.heap.size 5 ?qqh2156 (.bool true) Try.rObj_bool (O7.out.cell 5 _ E5.out) ?_); (case qqg2156 => rfl); (case qqo2156 => rfl); (case qqh2156 => simp [Act.eval, Act.put]))
          | ((with_reducible refine wpList_load_oneG ?qqg2157 25 ?qqx2157 ?qqo2157 w.heap.size 6 ?qqh2157 ((.slice a6 n6 cp6)) Try.rObj_Lstring (O7.out.cell 6 _ E6.out) ?_); (case qqg2157 => rfl); (case qqo2157 => rfl); (case qqh2157 => simp [Act.eval, Act.put]))
          )
        go_ret
        exact ⟨ret_bool (by simp [H6.out]; omega), B7.out⟩
end Go.Proofs.Ytdnodaoeflbfkaa

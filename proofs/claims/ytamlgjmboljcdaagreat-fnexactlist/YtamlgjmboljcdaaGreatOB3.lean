/- Objects: both that ask whether one is as told; whether one ends and waits for nothing. -/
import Derived.Test.YtamlgjmboljcdaaGreatOB2
import Derived.Test.YtamlgjmboljcdaaGreatUTObja
namespace Go.Proofs.YtamlgjmboljcdaaGreat
open Go.RowKit Go.BigFrame
set_option linter.unusedVariables false

set_option maxRecDepth 40000 in
set_option maxHeartbeats 6400000 in
theorem l7Obj_of {lo hi : Nat} (z0 : Int) (z1 : ByteArray) (z2 z3 z4 : Int) (z5 : Bool) (n6 : Nat) (c6 d7 d8 : UD) (k6 k7 : Bool) (xs : List Value) (rev next : Int) (gone : Bool) (w : World) (g1 : z1.size ≤ maxLen) (g6 : tyS 1 n6 c6 0) (g7 : tyL d7 (uE 6)) (g8 : tyL d8 (uE 6))
    (hv7 : ∀ (w : World) (lo hi : Nat) (xs : List Value), uH w lo hi d7 xs → Calls Tryz.prog 80 #[.agg xs.toArray] w fun e w' => e = .returned (.bool k6) ∧ Below w.heap.size w w')
    (hv8 : ∀ (w : World) (lo hi : Nat) (xs : List Value), uH w lo hi d8 xs → Calls Tryz.prog 80 #[.agg xs.toArray] w fun e w' => e = .returned (.bool k7) ∧ Below w.heap.size w w')
    (hn0 : -9223372036854775807 ≤ next) (hn1 : next ≤ 9223372036854775807) (hx : uH w lo hi (UD.p (.int .i64 z0) (UD.p (.string z1) (UD.p (.int .i64 z2) (UD.p (.int .i64 z3) (UD.p (.int .i64 z4) (UD.p (.bool z5) (UD.l 1 n6 c6 (UD.app d7 (UD.app d8 UD.nil))))))))) xs) :
    Calls Tryz.prog 170 #[.agg xs.toArray, .int .i64 rev, .int .i64 next, .bool gone] w fun e w' => e = .returned (.bool ((inB z0 1 3 && nameB z1 && waitsB (strL c6) && inB z2 1 (next - 1) && inB z3 1 rev && inB z4 1 z3 && k6 && k7) && (gone || !(z5 && decide (n6 = 0))))) ∧ Below w.heap.size w w' := by
  obtain ⟨_, rfl, h0⟩ := hx
  obtain ⟨_, rfl, h1⟩ := h0
  obtain ⟨_, rfl, h2⟩ := h1
  obtain ⟨_, rfl, h3⟩ := h2
  obtain ⟨_, rfl, h4⟩ := h3
  obtain ⟨_, rfl, h5⟩ := h4
  obtain ⟨v6, _, rfl, s6, h6⟩ := h5
  obtain ⟨y7, _, rfl, l7, s7, h7⟩ := uH.split h6
  replace l7 : y7.length = 5 := l7.trans (tyL.len g7)
  clear h6
  obtain ⟨y8, _, rfl, l8, s8, h8⟩ := uH.split h7
  replace l8 : y8.length = 5 := l8.trans (tyL.len g8)
  clear h7
  obtain rfl := h8
  obtain ⟨a6, cp6, rfl⟩ : ∃ a cap, v6 = .slice a n6 cap := by obtain ⟨a, cap, e, _⟩ := s6; exact ⟨a, cap, e⟩
  have hW6 : ∀ wx : World, Below w.heap.size w wx → Calls Tryz.prog 81 #[(.slice a6 n6 cp6)] wx fun e w' => e = .returned (.bool (waitsB (strL c6))) ∧ Below wx.heap.size wx w' := by
    intro wx hb
    have h6 := s6.below hb
    obtain ⟨q1, q2, q3⟩ := strB_of g6 h6
    have q4 := okStrs_of g6
    have := l7Waits_any (strL c6) a6 cp6 wx (by rw [q3]; exact g6.2.2.1) (fun t ht => q4 t ht) (strB.of q1)
    rw [q3] at this
    exact this
  obtain ⟨k0, hk0⟩ : ∃ k, k = inB z0 1 3 := ⟨_, rfl⟩
  have HK0 : Hid (∀ wx : World, Below w.heap.size w wx → Calls Tryz.prog 127 #[.int .i64 z0, .int .i64 1, .int .i64 3] wx fun e w' => e = .returned (.bool k0) ∧ Below wx.heap.size wx w') := fun wx hb => hk0 ▸ ((l1In_any _ _ _ wx).mono fun e w' h => ⟨h.1, h.2 ▸ Below.refl _ _⟩)
  obtain ⟨k1, hk1⟩ : ∃ k, k = nameB z1 := ⟨_, rfl⟩
  have HK1 : Hid (∀ wx : World, Below w.heap.size w wx → Calls Tryz.prog 124 #[.string z1] wx fun e w' => e = .returned (.bool k1) ∧ Below wx.heap.size wx w') := fun wx hb => hk1 ▸ ((sname_any z1 wx g1).mono fun e w' h => ⟨h.1, h.2 ▸ Below.refl _ _⟩)
  obtain ⟨k2, hk2⟩ : ∃ k, k = waitsB (strL c6) := ⟨_, rfl⟩
  have HK2 : Hid (∀ wx : World, Below w.heap.size w wx → Calls Tryz.prog 81 #[(.slice a6 n6 cp6)] wx fun e w' => e = .returned (.bool k2) ∧ Below wx.heap.size wx w') := fun wx hb => hk2 ▸ (hW6 _ hb)
  obtain ⟨k3, hk3⟩ : ∃ k, k = inB z2 1 (next - 1) := ⟨_, rfl⟩
  have HK3 : Hid (∀ wx : World, Below w.heap.size w wx → Calls Tryz.prog 127 #[.int .i64 z2, .int .i64 1, .int .i64 (next - 1)] wx fun e w' => e = .returned (.bool k3) ∧ Below wx.heap.size wx w') := fun wx hb => hk3 ▸ ((l1In_any _ _ _ wx).mono fun e w' h => ⟨h.1, h.2 ▸ Below.refl _ _⟩)
  obtain ⟨k4, hk4⟩ : ∃ k, k = inB z3 1 rev := ⟨_, rfl⟩
  have HK4 : Hid (∀ wx : World, Below w.heap.size w wx → Calls Tryz.prog 127 #[.int .i64 z3, .int .i64 1, .int .i64 rev] wx fun e w' => e = .returned (.bool k4) ∧ Below wx.heap.size wx w') := fun wx hb => hk4 ▸ ((l1In_any _ _ _ wx).mono fun e w' h => ⟨h.1, h.2 ▸ Below.refl _ _⟩)
  obtain ⟨k5, hk5⟩ : ∃ k, k = inB z4 1 z3 := ⟨_, rfl⟩
  have HK5 : Hid (∀ wx : World, Below w.heap.size w wx → Calls Tryz.prog 127 #[.int .i64 z4, .int .i64 1, .int .i64 z3] wx fun e w' => e = .returned (.bool k5) ∧ Below wx.heap.size wx w') := fun wx hb => hk5 ▸ ((l1In_any _ _ _ wx).mono fun e w' h => ⟨h.1, h.2 ▸ Below.refl _ _⟩)
  have HK6 : Hid (∀ wx : World, Below w.heap.size w wx → Calls Tryz.prog 80 #[.agg y7.toArray] wx fun e w' => e = .returned (.bool k6) ∧ Below wx.heap.size wx w') := fun wx hb => (hv7 wx lo hi y7 (s7.below hb))
  have HK7 : Hid (∀ wx : World, Below w.heap.size w wx → Calls Tryz.prog 80 #[.agg y8.toArray] wx fun e w' => e = .returned (.bool k7) ∧ Below wx.heap.size wx w') := fun wx hb => (hv8 wx lo hi y8 (s8.below hb))
  have hwr : IntKind.i64.wrap (next - 1) = next - 1 := uwrap64 _ (by omega) (by omega)
  rw [← hk0, ← hk1, ← hk2, ← hk3, ← hk4, ← hk5]
  obtain ⟨AX, hAX⟩ : ∃ AX : List Value, AX = (Value.int .i64 z0 :: (Value.string z1 :: (Value.int .i64 z2 :: (Value.int .i64 z3 :: (Value.int .i64 z4 :: (Value.bool z5 :: ((.slice a6 n6 cp6) :: ((y7 ++ ((y8 ++ []))))))))))) := ⟨_, rfl⟩
  rw [← hAX]
  have hlen : AX.length = 17 := by rw [hAX]; simp [l7, l8]
  have e0 : AX[0]? = some (.int .i64 z0) := at_mid (i := 0) (pre := (([] : List Value))) (ys := [.int .i64 z0]) (post := (Value.string z1 :: (Value.int .i64 z2 :: (Value.int .i64 z3 :: (Value.int .i64 z4 :: (Value.bool z5 :: ((.slice a6 n6 cp6) :: ((y7 ++ ((y8 ++ []))))))))))) (by rw [hAX]; simp) (by simp) rfl
  have e1 : AX[1]? = some (.string z1) := at_mid (i := 0) (pre := ([Value.int .i64 z0])) (ys := [.string z1]) (post := (Value.int .i64 z2 :: (Value.int .i64 z3 :: (Value.int .i64 z4 :: (Value.bool z5 :: ((.slice a6 n6 cp6) :: ((y7 ++ ((y8 ++ [])))))))))) (by rw [hAX]; simp) (by simp) rfl
  have e2 : AX[2]? = some (.int .i64 z2) := at_mid (i := 0) (pre := ([Value.int .i64 z0, Value.string z1])) (ys := [.int .i64 z2]) (post := (Value.int .i64 z3 :: (Value.int .i64 z4 :: (Value.bool z5 :: ((.slice a6 n6 cp6) :: ((y7 ++ ((y8 ++ []))))))))) (by rw [hAX]; simp) (by simp) rfl
  have e3 : AX[3]? = some (.int .i64 z3) := at_mid (i := 0) (pre := ([Value.int .i64 z0, Value.string z1, Value.int .i64 z2])) (ys := [.int .i64 z3]) (post := (Value.int .i64 z4 :: (Value.bool z5 :: ((.slice a6 n6 cp6) :: ((y7 ++ ((y8 ++ [])))))))) (by rw [hAX]; simp) (by simp) rfl
  have e4 : AX[4]? = some (.int .i64 z4) := at_mid (i := 0) (pre := ([Value.int .i64 z0, Value.string z1, Value.int .i64 z2, Value.int .i64 z3])) (ys := [.int .i64 z4]) (post := (Value.bool z5 :: ((.slice a6 n6 cp6) :: ((y7 ++ ((y8 ++ []))))))) (by rw [hAX]; simp) (by simp) rfl
  have e5 : AX[5]? = some (.bool z5) := at_mid (i := 0) (pre := ([Value.int .i64 z0, Value.string z1, Value.int .i64 z2, Value.int .i64 z3, Value.int .i64 z4])) (ys := [.bool z5]) (post := ((.slice a6 n6 cp6) :: ((y7 ++ ((y8 ++ [])))))) (by rw [hAX]; simp) (by simp) rfl
  have e6 : AX[6]? = some ((.slice a6 n6 cp6)) := at_mid (i := 0) (pre := ([Value.int .i64 z0, Value.string z1, Value.int .i64 z2, Value.int .i64 z3, Value.int .i64 z4, Value.bool z5])) (ys := [(.slice a6 n6 cp6)]) (post := ((y7 ++ ((y8 ++ []))))) (by rw [hAX]; simp) (by simp) rfl
  have e7 : ∀ i v, y7[i]? = some v → AX[7 + i]? = some v := fun i v h => at_mid (pre := ([Value.int .i64 z0, Value.string z1, Value.int .i64 z2, Value.int .i64 z3, Value.int .i64 z4, Value.bool z5, (.slice a6 n6 cp6)])) (ys := y7) (post := ((y8 ++ []))) (by rw [hAX]; simp) (by simp) h
  have e8 : ∀ i v, y8[i]? = some v → AX[12 + i]? = some v := fun i v h => at_mid (pre := ([Value.int .i64 z0, Value.string z1, Value.int .i64 z2, Value.int .i64 z3, Value.int .i64 z4, Value.bool z5, (.slice a6 n6 cp6)] ++ y7)) (ys := y8) (post := []) (by rw [hAX]; simp) (by simp [l7]) h
  clear hAX
  have E0 := uhide e0
  clear e0
  have E1 := uhide e1
  clear e1
  have E2 := uhide e2
  clear e2
  have E3 := uhide e3
  clear e3
  have E4 := uhide e4
  clear e4
  have E5 := uhide e5
  clear e5
  have E6 := uhide e6
  clear e6
  have YZ7 : Hid ((Tryz.prog.info? 31).map (·.size) = some y7.length) := by show _ = _; rw [l7]; exact Tryz.zObj_impl_Value
  have E7 := uhide e7
  clear e7
  have YZ8 : Hid ((Tryz.prog.info? 31).map (·.size) = some y8.length) := by show _ = _; rw [l8]; exact Tryz.zObj_impl_Value
  have E8 := uhide e8
  clear e8
  have OA : Hid (objU (w.alloc (.cells AX.toArray 38)) w.heap.size 38 AX) := objU.new2 _ _ rfl
  have BA : Hid (Below w.heap.size w (w.alloc (.cells AX.toArray 38))) := (Below.refl _ _).alloc (Nat.le_refl _) _
  have hmx := g6.2.2.1
  unfold maxLen at hmx
  clear hW6 hk0 hk1 hk2 hk3 hk4 hk5 hv7 hv8 g1 g6 g7 g8 s6 s7 s8 l7 l8 hlen
  cases k0 with
  | false =>
    go_enter Tryz.func170, Tryz.ntmps170
    go_wp2_with (first
      | ((with_reducible refine wpList_load_oneG ?qqg983 3 ?qqx983 ?qqo983 w.heap.size 0 ?qqh983 (.int .i64 z0) Tryz.rObj_int (OA.out.cell 0 _ E0.out) ?_); (case qqg983 => rfl); (case qqo983 => rfl); (case qqh983 => first | (simp; done) | (simp [Act.eval]; done) | (simp only [Act.put]; simp; done) | (simp only [Act.put]; simp [Act.eval]; done)))
      | ((with_reducible refine wpList_load_oneG ?qqg984 9 ?qqx984 ?qqo984 w.heap.size 1 ?qqh984 (.string z1) Tryz.rObj_string (OA.out.cell 1 _ E1.out) ?_); (case qqg984 => rfl); (case qqo984 => rfl); (case qqh984 => first | (simp; done) | (simp [Act.eval]; done) | (simp only [Act.put]; simp; done) | (simp only [Act.put]; simp [Act.eval]; done)))
      | ((with_reducible refine wpList_load_oneG ?qqg985 3 ?qqx985 ?qqo985 w.heap.size 2 ?qqh985 (.int .i64 z2) Tryz.rObj_int (OA.out.cell 2 _ E2.out) ?_); (case qqg985 => rfl); (case qqo985 => rfl); (case qqh985 => first | (simp; done) | (simp [Act.eval]; done) | (simp only [Act.put]; simp; done) | (simp only [Act.put]; simp [Act.eval]; done)))
      | ((with_reducible refine wpList_load_oneG ?qqg986 3 ?qqx986 ?qqo986 w.heap.size 3 ?qqh986 (.int .i64 z3) Tryz.rObj_int (OA.out.cell 3 _ E3.out) ?_); (case qqg986 => rfl); (case qqo986 => rfl); (case qqh986 => first | (simp; done) | (simp [Act.eval]; done) | (simp only [Act.put]; simp; done) | (simp only [Act.put]; simp [Act.eval]; done)))
      | ((with_reducible refine wpList_load_oneG ?qqg987 3 ?qqx987 ?qqo987 w.heap.size 4 ?qqh987 (.int .i64 z4) Tryz.rObj_int (OA.out.cell 4 _ E4.out) ?_); (case qqg987 => rfl); (case qqo987 => rfl); (case qqh987 => first | (simp; done) | (simp [Act.eval]; done) | (simp only [Act.put]; simp; done) | (simp only [Act.put]; simp [Act.eval]; done)))
      | ((with_reducible refine wpList_load_oneG ?qqg988 4 ?qqx988 ?qqo988 w.heap.size 5 ?qqh988 (.bool z5) Tryz.rObj_bool (OA.out.cell 5 _ E5.out) ?_); (case qqg988 => rfl); (case qqo988 => rfl); (case qqh988 => first | (simp; done) | (simp [Act.eval]; done) | (simp only [Act.put]; simp; done) | (simp only [Act.put]; simp [Act.eval]; done)))
      | ((with_reducible refine wpList_load_oneG ?qqg989 28 ?qqx989 ?qqo989 w.heap.size 6 ?qqh989 ((.slice a6 n6 cp6)) Tryz.rObj_Lstring (OA.out.cell 6 _ E6.out) ?_); (case qqg989 => rfl); (case qqo989 => rfl); (case qqh989 => first | (simp; done) | (simp [Act.eval]; done) | (simp only [Act.put]; simp; done) | (simp only [Act.put]; simp [Act.eval]; done)))
      | ((with_reducible refine wpList_load_rowG ?qqg990 31 ?qqx990 ?qqo990 w.heap.size 7 ?qqh990 y7 Tryz.rObj_impl_Value YZ7.out (OA.out.range 7 _ E7.out) ?_); (case qqg990 => rfl); (case qqo990 => rfl); (case qqh990 => first | (simp; done) | (simp [Act.eval]; done) | (simp only [Act.put]; simp; done) | (simp only [Act.put]; simp [Act.eval]; done)))
      | ((with_reducible refine wpList_load_rowG ?qqg991 31 ?qqx991 ?qqo991 w.heap.size 12 ?qqh991 y8 Tryz.rObj_impl_Value YZ8.out (OA.out.range 12 _ E8.out) ?_); (case qqg991 => rfl); (case qqo991 => rfl); (case qqh991 => first | (simp; done) | (simp [Act.eval]; done) | (simp only [Act.put]; simp; done) | (simp only [Act.put]; simp [Act.eval]; done)))
      )
    refine (HK0.out _ BA.out).mono ?_
    rintro e w0 ⟨rfl, hb0⟩
    have O0 := uhide (OA.out.below hb0)
    have B0 : Hid (Below w.heap.size w w0) := BA.out.trans (hb0.mono BA.out.size)
    clear hb0
    go_wp2
    go_ret
    exact ⟨ret_bool (by simp), B0.out⟩
  | true =>
  cases k1 with
  | false =>
    go_enter Tryz.func170, Tryz.ntmps170
    go_wp2_with (first
      | ((with_reducible refine wpList_load_oneG ?qqg1006 3 ?qqx1006 ?qqo1006 w.heap.size 0 ?qqh1006 (.int .i64 z0) Tryz.rObj_int (OA.out.cell 0 _ E0.out) ?_); (case qqg1006 => rfl); (case qqo1006 => rfl); (case qqh1006 => first | (simp; done) | (simp [Act.eval]; done) | (simp only [Act.put]; simp; done) | (simp only [Act.put]; simp [Act.eval]; done)))
      | ((with_reducible refine wpList_load_oneG ?qqg1007 9 ?qqx1007 ?qqo1007 w.heap.size 1 ?qqh1007 (.string z1) Tryz.rObj_string (OA.out.cell 1 _ E1.out) ?_); (case qqg1007 => rfl); (case qqo1007 => rfl); (case qqh1007 => first | (simp; done) | (simp [Act.eval]; done) | (simp only [Act.put]; simp; done) | (simp only [Act.put]; simp [Act.eval]; done)))
      | ((with_reducible refine wpList_load_oneG ?qqg1008 3 ?qqx1008 ?qqo1008 w.heap.size 2 ?qqh1008 (.int .i64 z2) Tryz.rObj_int (OA.out.cell 2 _ E2.out) ?_); (case qqg1008 => rfl); (case qqo1008 => rfl); (case qqh1008 => first | (simp; done) | (simp [Act.eval]; done) | (simp only [Act.put]; simp; done) | (simp only [Act.put]; simp [Act.eval]; done)))
      | ((with_reducible refine wpList_load_oneG ?qqg1009 3 ?qqx1009 ?qqo1009 w.heap.size 3 ?qqh1009 (.int .i64 z3) Tryz.rObj_int (OA.out.cell 3 _ E3.out) ?_); (case qqg1009 => rfl); (case qqo1009 => rfl); (case qqh1009 => first | (simp; done) | (simp [Act.eval]; done) | (simp only [Act.put]; simp; done) | (simp only [Act.put]; simp [Act.eval]; done)))
      | ((with_reducible refine wpList_load_oneG ?qqg1010 3 ?qqx1010 ?qqo1010 w.heap.size 4 ?qqh1010 (.int .i64 z4) Tryz.rObj_int (OA.out.cell 4 _ E4.out) ?_); (case qqg1010 => rfl); (case qqo1010 => rfl); (case qqh1010 => first | (simp; done) | (simp [Act.eval]; done) | (simp only [Act.put]; simp; done) | (simp only [Act.put]; simp [Act.eval]; done)))
      | ((with_reducible refine wpList_load_oneG ?qqg1011 4 ?qqx1011 ?qqo1011 w.heap.size 5 ?qqh1011 (.bool z5) Tryz.rObj_bool (OA.out.cell 5 _ E5.out) ?_); (case qqg1011 => rfl); (case qqo1011 => rfl); (case qqh1011 => first | (simp; done) | (simp [Act.eval]; done) | (simp only [Act.put]; simp; done) | (simp only [Act.put]; simp [Act.eval]; done)))
      | ((with_reducible refine wpList_load_oneG ?qqg1012 28 ?qqx1012 ?qqo1012 w.heap.size 6 ?qqh1012 ((.slice a6 n6 cp6)) Tryz.rObj_Lstring (OA.out.cell 6 _ E6.out) ?_); (case qqg1012 => rfl); (case qqo1012 => rfl); (case qqh1012 => first | (simp; done) | (simp [Act.eval]; done) | (simp only [Act.put]; simp; done) | (simp only [Act.put]; simp [Act.eval]; done)))
      | ((with_reducible refine wpList_load_rowG ?qqg1013 31 ?qqx1013 ?qqo1013 w.heap.size 7 ?qqh1013 y7 Tryz.rObj_impl_Value YZ7.out (OA.out.range 7 _ E7.out) ?_); (case qqg1013 => rfl); (case qqo1013 => rfl); (case qqh1013 => first | (simp; done) | (simp [Act.eval]; done) | (simp only [Act.put]; simp; done) | (simp only [Act.put]; simp [Act.eval]; done)))
      | ((with_reducible refine wpList_load_rowG ?qqg1014 31 ?qqx1014 ?qqo1014 w.heap.size 12 ?qqh1014 y8 Tryz.rObj_impl_Value YZ8.out (OA.out.range 12 _ E8.out) ?_); (case qqg1014 => rfl); (case qqo1014 => rfl); (case qqh1014 => first | (simp; done) | (simp [Act.eval]; done) | (simp only [Act.put]; simp; done) | (simp only [Act.put]; simp [Act.eval]; done)))
      )
    refine (HK0.out _ BA.out).mono ?_
    rintro e w0 ⟨rfl, hb0⟩
    have O0 := uhide (OA.out.below hb0)
    have B0 : Hid (Below w.heap.size w w0) := BA.out.trans (hb0.mono BA.out.size)
    clear hb0
    go_wp2_with (first
      | ((with_reducible refine wpList_load_oneG ?qqg1022 3 ?qqx1022 ?qqo1022 w.heap.size 0 ?qqh1022 (.int .i64 z0) Tryz.rObj_int (O0.out.cell 0 _ E0.out) ?_); (case qqg1022 => rfl); (case qqo1022 => rfl); (case qqh1022 => first | (simp; done) | (simp [Act.eval]; done) | (simp only [Act.put]; simp; done) | (simp only [Act.put]; simp [Act.eval]; done)))
      | ((with_reducible refine wpList_load_oneG ?qqg1023 9 ?qqx1023 ?qqo1023 w.heap.size 1 ?qqh1023 (.string z1) Tryz.rObj_string (O0.out.cell 1 _ E1.out) ?_); (case qqg1023 => rfl); (case qqo1023 => rfl); (case qqh1023 => first | (simp; done) | (simp [Act.eval]; done) | (simp only [Act.put]; simp; done) | (simp only [Act.put]; simp [Act.eval]; done)))
      | ((with_reducible refine wpList_load_oneG ?qqg1024 3 ?qqx1024 ?qqo1024 w.heap.size 2 ?qqh1024 (.int .i64 z2) Tryz.rObj_int (O0.out.cell 2 _ E2.out) ?_); (case qqg1024 => rfl); (case qqo1024 => rfl); (case qqh1024 => first | (simp; done) | (simp [Act.eval]; done) | (simp only [Act.put]; simp; done) | (simp only [Act.put]; simp [Act.eval]; done)))
      | ((with_reducible refine wpList_load_oneG ?qqg1025 3 ?qqx1025 ?qqo1025 w.heap.size 3 ?qqh1025 (.int .i64 z3) Tryz.rObj_int (O0.out.cell 3 _ E3.out) ?_); (case qqg1025 => rfl); (case qqo1025 => rfl); (case qqh1025 => first | (simp; done) | (simp [Act.eval]; done) | (simp only [Act.put]; simp; done) | (simp only [Act.put]; simp [Act.eval]; done)))
      | ((with_reducible refine wpList_load_oneG ?qqg1026 3 ?qqx1026 ?qqo1026 w.heap.size 4 ?qqh1026 (.int .i64 z4) Tryz.rObj_int (O0.out.cell 4 _ E4.out) ?_); (case qqg1026 => rfl); (case qqo1026 => rfl); (case qqh1026 => first | (simp; done) | (simp [Act.eval]; done) | (simp only [Act.put]; simp; done) | (simp only [Act.put]; simp [Act.eval]; done)))
      | ((with_reducible refine wpList_load_oneG ?qqg1027 4 ?qqx1027 ?qqo1027 w.heap.size 5 ?qqh1027 (.bool z5) Tryz.rObj_bool (O0.out.cell 5 _ E5.out) ?_); (case qqg1027 => rfl); (case qqo1027 => rfl); (case qqh1027 => first | (simp; done) | (simp [Act.eval]; done) | (simp only [Act.put]; simp; done) | (simp only [Act.put]; simp [Act.eval]; done)))
      | ((with_reducible refine wpList_load_oneG ?qqg1028 28 ?qqx1028 ?qqo1028 w.heap.size 6 ?qqh1028 ((.slice a6 n6 cp6)) Tryz.rObj_Lstring (O0.out.cell 6 _ E6.out) ?_); (case qqg1028 => rfl); (case qqo1028 => rfl); (case qqh1028 => first | (simp; done) | (simp [Act.eval]; done) | (simp only [Act.put]; simp; done) | (simp only [Act.put]; simp [Act.eval]; done)))
      | ((with_reducible refine wpList_load_rowG ?qqg1029 31 ?qqx1029 ?qqo1029 w.heap.size 7 ?qqh1029 y7 Tryz.rObj_impl_Value YZ7.out (O0.out.range 7 _ E7.out) ?_); (case qqg1029 => rfl); (case qqo1029 => rfl); (case qqh1029 => first | (simp; done) | (simp [Act.eval]; done) | (simp only [Act.put]; simp; done) | (simp only [Act.put]; simp [Act.eval]; done)))
      | ((with_reducible refine wpList_load_rowG ?qqg1030 31 ?qqx1030 ?qqo1030 w.heap.size 12 ?qqh1030 y8 Tryz.rObj_impl_Value YZ8.out (O0.out.range 12 _ E8.out) ?_); (case qqg1030 => rfl); (case qqo1030 => rfl); (case qqh1030 => first | (simp; done) | (simp [Act.eval]; done) | (simp only [Act.put]; simp; done) | (simp only [Act.put]; simp [Act.eval]; done)))
      )
    refine (HK1.out _ B0.out).mono ?_
    rintro e w1 ⟨rfl, hb1⟩
    have O1 := uhide (O0.out.below hb1)
    have B1 : Hid (Below w.heap.size w w1) := B0.out.trans (hb1.mono B0.out.size)
    clear hb1
    go_wp2
    go_ret
    exact ⟨ret_bool (by simp), B1.out⟩
  | true =>
  cases k3 with
  | false =>
    go_enter Tryz.func170, Tryz.ntmps170
    go_wp2_with (first
      | ((with_reducible refine wpList_load_oneG ?qqg1045 3 ?qqx1045 ?qqo1045 w.heap.size 0 ?qqh1045 (.int .i64 z0) Tryz.rObj_int (OA.out.cell 0 _ E0.out) ?_); (case qqg1045 => rfl); (case qqo1045 => rfl); (case qqh1045 => first | (simp; done) | (simp [Act.eval]; done) | (simp only [Act.put]; simp; done) | (simp only [Act.put]; simp [Act.eval]; done)))
      | ((with_reducible refine wpList_load_oneG ?qqg1046 9 ?qqx1046 ?qqo1046 w.heap.size 1 ?qqh1046 (.string z1) Tryz.rObj_string (OA.out.cell 1 _ E1.out) ?_); (case qqg1046 => rfl); (case qqo1046 => rfl); (case qqh1046 => first | (simp; done) | (simp [Act.eval]; done) | (simp only [Act.put]; simp; done) | (simp only [Act.put]; simp [Act.eval]; done)))
      | ((with_reducible refine wpList_load_oneG ?qqg1047 3 ?qqx1047 ?qqo1047 w.heap.size 2 ?qqh1047 (.int .i64 z2) Tryz.rObj_int (OA.out.cell 2 _ E2.out) ?_); (case qqg1047 => rfl); (case qqo1047 => rfl); (case qqh1047 => first | (simp; done) | (simp [Act.eval]; done) | (simp only [Act.put]; simp; done) | (simp only [Act.put]; simp [Act.eval]; done)))
      | ((with_reducible refine wpList_load_oneG ?qqg1048 3 ?qqx1048 ?qqo1048 w.heap.size 3 ?qqh1048 (.int .i64 z3) Tryz.rObj_int (OA.out.cell 3 _ E3.out) ?_); (case qqg1048 => rfl); (case qqo1048 => rfl); (case qqh1048 => first | (simp; done) | (simp [Act.eval]; done) | (simp only [Act.put]; simp; done) | (simp only [Act.put]; simp [Act.eval]; done)))
      | ((with_reducible refine wpList_load_oneG ?qqg1049 3 ?qqx1049 ?qqo1049 w.heap.size 4 ?qqh1049 (.int .i64 z4) Tryz.rObj_int (OA.out.cell 4 _ E4.out) ?_); (case qqg1049 => rfl); (case qqo1049 => rfl); (case qqh1049 => first | (simp; done) | (simp [Act.eval]; done) | (simp only [Act.put]; simp; done) | (simp only [Act.put]; simp [Act.eval]; done)))
      | ((with_reducible refine wpList_load_oneG ?qqg1050 4 ?qqx1050 ?qqo1050 w.heap.size 5 ?qqh1050 (.bool z5) Tryz.rObj_bool (OA.out.cell 5 _ E5.out) ?_); (case qqg1050 => rfl); (case qqo1050 => rfl); (case qqh1050 => first | (simp; done) | (simp [Act.eval]; done) | (simp only [Act.put]; simp; done) | (simp only [Act.put]; simp [Act.eval]; done)))
      | ((with_reducible refine wpList_load_oneG ?qqg1051 28 ?qqx1051 ?qqo1051 w.heap.size 6 ?qqh1051 ((.slice a6 n6 cp6)) Tryz.rObj_Lstring (OA.out.cell 6 _ E6.out) ?_); (case qqg1051 => rfl); (case qqo1051 => rfl); (case qqh1051 => first | (simp; done) | (simp [Act.eval]; done) | (simp only [Act.put]; simp; done) | (simp only [Act.put]; simp [Act.eval]; done)))
      | ((with_reducible refine wpList_load_rowG ?qqg1052 31 ?qqx1052 ?qqo1052 w.heap.size 7 ?qqh1052 y7 Tryz.rObj_impl_Value YZ7.out (OA.out.range 7 _ E7.out) ?_); (case qqg1052 => rfl); (case qqo1052 => rfl); (case qqh1052 => first | (simp; done) | (simp [Act.eval]; done) | (simp only [Act.put]; simp; done) | (simp only [Act.put]; simp [Act.eval]; done)))
      | ((with_reducible refine wpList_load_rowG ?qqg1053 31 ?qqx1053 ?qqo1053 w.heap.size 12 ?qqh1053 y8 Tryz.rObj_impl_Value YZ8.out (OA.out.range 12 _ E8.out) ?_); (case qqg1053 => rfl); (case qqo1053 => rfl); (case qqh1053 => first | (simp; done) | (simp [Act.eval]; done) | (simp only [Act.put]; simp; done) | (simp only [Act.put]; simp [Act.eval]; done)))
      )
    refine (HK0.out _ BA.out).mono ?_
    rintro e w0 ⟨rfl, hb0⟩
    have O0 := uhide (OA.out.below hb0)
    have B0 : Hid (Below w.heap.size w w0) := BA.out.trans (hb0.mono BA.out.size)
    clear hb0
    go_wp2_with (first
      | ((with_reducible refine wpList_load_oneG ?qqg1061 3 ?qqx1061 ?qqo1061 w.heap.size 0 ?qqh1061 (.int .i64 z0) Tryz.rObj_int (O0.out.cell 0 _ E0.out) ?_); (case qqg1061 => rfl); (case qqo1061 => rfl); (case qqh1061 => first | (simp; done) | (simp [Act.eval]; done) | (simp only [Act.put]; simp; done) | (simp only [Act.put]; simp [Act.eval]; done)))
      | ((with_reducible refine wpList_load_oneG ?qqg1062 9 ?qqx1062 ?qqo1062 w.heap.size 1 ?qqh1062 (.string z1) Tryz.rObj_string (O0.out.cell 1 _ E1.out) ?_); (case qqg1062 => rfl); (case qqo1062 => rfl); (case qqh1062 => first | (simp; done) | (simp [Act.eval]; done) | (simp only [Act.put]; simp; done) | (simp only [Act.put]; simp [Act.eval]; done)))
      | ((with_reducible refine wpList_load_oneG ?qqg1063 3 ?qqx1063 ?qqo1063 w.heap.size 2 ?qqh1063 (.int .i64 z2) Tryz.rObj_int (O0.out.cell 2 _ E2.out) ?_); (case qqg1063 => rfl); (case qqo1063 => rfl); (case qqh1063 => first | (simp; done) | (simp [Act.eval]; done) | (simp only [Act.put]; simp; done) | (simp only [Act.put]; simp [Act.eval]; done)))
      | ((with_reducible refine wpList_load_oneG ?qqg1064 3 ?qqx1064 ?qqo1064 w.heap.size 3 ?qqh1064 (.int .i64 z3) Tryz.rObj_int (O0.out.cell 3 _ E3.out) ?_); (case qqg1064 => rfl); (case qqo1064 => rfl); (case qqh1064 => first | (simp; done) | (simp [Act.eval]; done) | (simp only [Act.put]; simp; done) | (simp only [Act.put]; simp [Act.eval]; done)))
      | ((with_reducible refine wpList_load_oneG ?qqg1065 3 ?qqx1065 ?qqo1065 w.heap.size 4 ?qqh1065 (.int .i64 z4) Tryz.rObj_int (O0.out.cell 4 _ E4.out) ?_); (case qqg1065 => rfl); (case qqo1065 => rfl); (case qqh1065 => first | (simp; done) | (simp [Act.eval]; done) | (simp only [Act.put]; simp; done) | (simp only [Act.put]; simp [Act.eval]; done)))
      | ((with_reducible refine wpList_load_oneG ?qqg1066 4 ?qqx1066 ?qqo1066 w.heap.size 5 ?qqh1066 (.bool z5) Tryz.rObj_bool (O0.out.cell 5 _ E5.out) ?_); (case qqg1066 => rfl); (case qqo1066 => rfl); (case qqh1066 => first | (simp; done) | (simp [Act.eval]; done) | (simp only [Act.put]; simp; done) | (simp only [Act.put]; simp [Act.eval]; done)))
      | ((with_reducible refine wpList_load_oneG ?qqg1067 28 ?qqx1067 ?qqo1067 w.heap.size 6 ?qqh1067 ((.slice a6 n6 cp6)) Tryz.rObj_Lstring (O0.out.cell 6 _ E6.out) ?_); (case qqg1067 => rfl); (case qqo1067 => rfl); (case qqh1067 => first | (simp; done) | (simp [Act.eval]; done) | (simp only [Act.put]; simp; done) | (simp only [Act.put]; simp [Act.eval]; done)))
      | ((with_reducible refine wpList_load_rowG ?qqg1068 31 ?qqx1068 ?qqo1068 w.heap.size 7 ?qqh1068 y7 Tryz.rObj_impl_Value YZ7.out (O0.out.range 7 _ E7.out) ?_); (case qqg1068 => rfl); (case qqo1068 => rfl); (case qqh1068 => first | (simp; done) | (simp [Act.eval]; done) | (simp only [Act.put]; simp; done) | (simp only [Act.put]; simp [Act.eval]; done)))
      | ((with_reducible refine wpList_load_rowG ?qqg1069 31 ?qqx1069 ?qqo1069 w.heap.size 12 ?qqh1069 y8 Tryz.rObj_impl_Value YZ8.out (O0.out.range 12 _ E8.out) ?_); (case qqg1069 => rfl); (case qqo1069 => rfl); (case qqh1069 => first | (simp; done) | (simp [Act.eval]; done) | (simp only [Act.put]; simp; done) | (simp only [Act.put]; simp [Act.eval]; done)))
      )
    refine (HK1.out _ B0.out).mono ?_
    rintro e w1 ⟨rfl, hb1⟩
    have O1 := uhide (O0.out.below hb1)
    have B1 : Hid (Below w.heap.size w w1) := B0.out.trans (hb1.mono B0.out.size)
    clear hb1
    go_wp2_with (first
      | ((with_reducible refine wpList_load_oneG ?qqg1077 3 ?qqx1077 ?qqo1077 w.heap.size 0 ?qqh1077 (.int .i64 z0) Tryz.rObj_int (O1.out.cell 0 _ E0.out) ?_); (case qqg1077 => rfl); (case qqo1077 => rfl); (case qqh1077 => first | (simp; done) | (simp [Act.eval]; done) | (simp only [Act.put]; simp; done) | (simp only [Act.put]; simp [Act.eval]; done)))
      | ((with_reducible refine wpList_load_oneG ?qqg1078 9 ?qqx1078 ?qqo1078 w.heap.size 1 ?qqh1078 (.string z1) Tryz.rObj_string (O1.out.cell 1 _ E1.out) ?_); (case qqg1078 => rfl); (case qqo1078 => rfl); (case qqh1078 => first | (simp; done) | (simp [Act.eval]; done) | (simp only [Act.put]; simp; done) | (simp only [Act.put]; simp [Act.eval]; done)))
      | ((with_reducible refine wpList_load_oneG ?qqg1079 3 ?qqx1079 ?qqo1079 w.heap.size 2 ?qqh1079 (.int .i64 z2) Tryz.rObj_int (O1.out.cell 2 _ E2.out) ?_); (case qqg1079 => rfl); (case qqo1079 => rfl); (case qqh1079 => first | (simp; done) | (simp [Act.eval]; done) | (simp only [Act.put]; simp; done) | (simp only [Act.put]; simp [Act.eval]; done)))
      | ((with_reducible refine wpList_load_oneG ?qqg1080 3 ?qqx1080 ?qqo1080 w.heap.size 3 ?qqh1080 (.int .i64 z3) Tryz.rObj_int (O1.out.cell 3 _ E3.out) ?_); (case qqg1080 => rfl); (case qqo1080 => rfl); (case qqh1080 => first | (simp; done) | (simp [Act.eval]; done) | (simp only [Act.put]; simp; done) | (simp only [Act.put]; simp [Act.eval]; done)))
      | ((with_reducible refine wpList_load_oneG ?qqg1081 3 ?qqx1081 ?qqo1081 w.heap.size 4 ?qqh1081 (.int .i64 z4) Tryz.rObj_int (O1.out.cell 4 _ E4.out) ?_); (case qqg1081 => rfl); (case qqo1081 => rfl); (case qqh1081 => first | (simp; done) | (simp [Act.eval]; done) | (simp only [Act.put]; simp; done) | (simp only [Act.put]; simp [Act.eval]; done)))
      | ((with_reducible refine wpList_load_oneG ?qqg1082 4 ?qqx1082 ?qqo1082 w.heap.size 5 ?qqh1082 (.bool z5) Tryz.rObj_bool (O1.out.cell 5 _ E5.out) ?_); (case qqg1082 => rfl); (case qqo1082 => rfl); (case qqh1082 => first | (simp; done) | (simp [Act.eval]; done) | (simp only [Act.put]; simp; done) | (simp only [Act.put]; simp [Act.eval]; done)))
      | ((with_reducible refine wpList_load_oneG ?qqg1083 28 ?qqx1083 ?qqo1083 w.heap.size 6 ?qqh1083 ((.slice a6 n6 cp6)) Tryz.rObj_Lstring (O1.out.cell 6 _ E6.out) ?_); (case qqg1083 => rfl); (case qqo1083 => rfl); (case qqh1083 => first | (simp; done) | (simp [Act.eval]; done) | (simp only [Act.put]; simp; done) | (simp only [Act.put]; simp [Act.eval]; done)))
      | ((with_reducible refine wpList_load_rowG ?qqg1084 31 ?qqx1084 ?qqo1084 w.heap.size 7 ?qqh1084 y7 Tryz.rObj_impl_Value YZ7.out (O1.out.range 7 _ E7.out) ?_); (case qqg1084 => rfl); (case qqo1084 => rfl); (case qqh1084 => first | (simp; done) | (simp [Act.eval]; done) | (simp only [Act.put]; simp; done) | (simp only [Act.put]; simp [Act.eval]; done)))
      | ((with_reducible refine wpList_load_rowG ?qqg1085 31 ?qqx1085 ?qqo1085 w.heap.size 12 ?qqh1085 y8 Tryz.rObj_impl_Value YZ8.out (O1.out.range 12 _ E8.out) ?_); (case qqg1085 => rfl); (case qqo1085 => rfl); (case qqh1085 => first | (simp; done) | (simp [Act.eval]; done) | (simp only [Act.put]; simp; done) | (simp only [Act.put]; simp [Act.eval]; done)))
      )
    refine (HK3.out _ B1.out).mono ?_
    rintro e w3 ⟨rfl, hb3⟩
    have O3 := uhide (O1.out.below hb3)
    have B3 : Hid (Below w.heap.size w w3) := B1.out.trans (hb3.mono B1.out.size)
    clear hb3
    go_wp2
    go_ret
    exact ⟨ret_bool (by simp), B3.out⟩
  | true =>
  cases k4 with
  | false =>
    go_enter Tryz.func170, Tryz.ntmps170
    go_wp2_with (first
      | ((with_reducible refine wpList_load_oneG ?qqg1100 3 ?qqx1100 ?qqo1100 w.heap.size 0 ?qqh1100 (.int .i64 z0) Tryz.rObj_int (OA.out.cell 0 _ E0.out) ?_); (case qqg1100 => rfl); (case qqo1100 => rfl); (case qqh1100 => first | (simp; done) | (simp [Act.eval]; done) | (simp only [Act.put]; simp; done) | (simp only [Act.put]; simp [Act.eval]; done)))
      | ((with_reducible refine wpList_load_oneG ?qqg1101 9 ?qqx1101 ?qqo1101 w.heap.size 1 ?qqh1101 (.string z1) Tryz.rObj_string (OA.out.cell 1 _ E1.out) ?_); (case qqg1101 => rfl); (case qqo1101 => rfl); (case qqh1101 => first | (simp; done) | (simp [Act.eval]; done) | (simp only [Act.put]; simp; done) | (simp only [Act.put]; simp [Act.eval]; done)))
      | ((with_reducible refine wpList_load_oneG ?qqg1102 3 ?qqx1102 ?qqo1102 w.heap.size 2 ?qqh1102 (.int .i64 z2) Tryz.rObj_int (OA.out.cell 2 _ E2.out) ?_); (case qqg1102 => rfl); (case qqo1102 => rfl); (case qqh1102 => first | (simp; done) | (simp [Act.eval]; done) | (simp only [Act.put]; simp; done) | (simp only [Act.put]; simp [Act.eval]; done)))
      | ((with_reducible refine wpList_load_oneG ?qqg1103 3 ?qqx1103 ?qqo1103 w.heap.size 3 ?qqh1103 (.int .i64 z3) Tryz.rObj_int (OA.out.cell 3 _ E3.out) ?_); (case qqg1103 => rfl); (case qqo1103 => rfl); (case qqh1103 => first | (simp; done) | (simp [Act.eval]; done) | (simp only [Act.put]; simp; done) | (simp only [Act.put]; simp [Act.eval]; done)))
      | ((with_reducible refine wpList_load_oneG ?qqg1104 3 ?qqx1104 ?qqo1104 w.heap.size 4 ?qqh1104 (.int .i64 z4) Tryz.rObj_int (OA.out.cell 4 _ E4.out) ?_); (case qqg1104 => rfl); (case qqo1104 => rfl); (case qqh1104 => first | (simp; done) | (simp [Act.eval]; done) | (simp only [Act.put]; simp; done) | (simp only [Act.put]; simp [Act.eval]; done)))
      | ((with_reducible refine wpList_load_oneG ?qqg1105 4 ?qqx1105 ?qqo1105 w.heap.size 5 ?qqh1105 (.bool z5) Tryz.rObj_bool (OA.out.cell 5 _ E5.out) ?_); (case qqg1105 => rfl); (case qqo1105 => rfl); (case qqh1105 => first | (simp; done) | (simp [Act.eval]; done) | (simp only [Act.put]; simp; done) | (simp only [Act.put]; simp [Act.eval]; done)))
      | ((with_reducible refine wpList_load_oneG ?qqg1106 28 ?qqx1106 ?qqo1106 w.heap.size 6 ?qqh1106 ((.slice a6 n6 cp6)) Tryz.rObj_Lstring (OA.out.cell 6 _ E6.out) ?_); (case qqg1106 => rfl); (case qqo1106 => rfl); (case qqh1106 => first | (simp; done) | (simp [Act.eval]; done) | (simp only [Act.put]; simp; done) | (simp only [Act.put]; simp [Act.eval]; done)))
      | ((with_reducible refine wpList_load_rowG ?qqg1107 31 ?qqx1107 ?qqo1107 w.heap.size 7 ?qqh1107 y7 Tryz.rObj_impl_Value YZ7.out (OA.out.range 7 _ E7.out) ?_); (case qqg1107 => rfl); (case qqo1107 => rfl); (case qqh1107 => first | (simp; done) | (simp [Act.eval]; done) | (simp only [Act.put]; simp; done) | (simp only [Act.put]; simp [Act.eval]; done)))
      | ((with_reducible refine wpList_load_rowG ?qqg1108 31 ?qqx1108 ?qqo1108 w.heap.size 12 ?qqh1108 y8 Tryz.rObj_impl_Value YZ8.out (OA.out.range 12 _ E8.out) ?_); (case qqg1108 => rfl); (case qqo1108 => rfl); (case qqh1108 => first | (simp; done) | (simp [Act.eval]; done) | (simp only [Act.put]; simp; done) | (simp only [Act.put]; simp [Act.eval]; done)))
      )
    refine (HK0.out _ BA.out).mono ?_
    rintro e w0 ⟨rfl, hb0⟩
    have O0 := uhide (OA.out.below hb0)
    have B0 : Hid (Below w.heap.size w w0) := BA.out.trans (hb0.mono BA.out.size)
    clear hb0
    go_wp2_with (first
      | ((with_reducible refine wpList_load_oneG ?qqg1116 3 ?qqx1116 ?qqo1116 w.heap.size 0 ?qqh1116 (.int .i64 z0) Tryz.rObj_int (O0.out.cell 0 _ E0.out) ?_); (case qqg1116 => rfl); (case qqo1116 => rfl); (case qqh1116 => first | (simp; done) | (simp [Act.eval]; done) | (simp only [Act.put]; simp; done) | (simp only [Act.put]; simp [Act.eval]; done)))
      | ((with_reducible refine wpList_load_oneG ?qqg1117 9 ?qqx1117 ?qqo1117 w.heap.size 1 ?qqh1117 (.string z1) Tryz.rObj_string (O0.out.cell 1 _ E1.out) ?_); (case qqg1117 => rfl); (case qqo1117 => rfl); (case qqh1117 => first | (simp; done) | (simp [Act.eval]; done) | (simp only [Act.put]; simp; done) | (simp only [Act.put]; simp [Act.eval]; done)))
      | ((with_reducible refine wpList_load_oneG ?qqg1118 3 ?qqx1118 ?qqo1118 w.heap.size 2 ?qqh1118 (.int .i64 z2) Tryz.rObj_int (O0.out.cell 2 _ E2.out) ?_); (case qqg1118 => rfl); (case qqo1118 => rfl); (case qqh1118 => first | (simp; done) | (simp [Act.eval]; done) | (simp only [Act.put]; simp; done) | (simp only [Act.put]; simp [Act.eval]; done)))
      | ((with_reducible refine wpList_load_oneG ?qqg1119 3 ?qqx1119 ?qqo1119 w.heap.size 3 ?qqh1119 (.int .i64 z3) Tryz.rObj_int (O0.out.cell 3 _ E3.out) ?_); (case qqg1119 => rfl); (case qqo1119 => rfl); (case qqh1119 => first | (simp; done) | (simp [Act.eval]; done) | (simp only [Act.put]; simp; done) | (simp only [Act.put]; simp [Act.eval]; done)))
      | ((with_reducible refine wpList_load_oneG ?qqg1120 3 ?qqx1120 ?qqo1120 w.heap.size 4 ?qqh1120 (.int .i64 z4) Tryz.rObj_int (O0.out.cell 4 _ E4.out) ?_); (case qqg1120 => rfl); (case qqo1120 => rfl); (case qqh1120 => first | (simp; done) | (simp [Act.eval]; done) | (simp only [Act.put]; simp; done) | (simp only [Act.put]; simp [Act.eval]; done)))
      | ((with_reducible refine wpList_load_oneG ?qqg1121 4 ?qqx1121 ?qqo1121 w.heap.size 5 ?qqh1121 (.bool z5) Tryz.rObj_bool (O0.out.cell 5 _ E5.out) ?_); (case qqg1121 => rfl); (case qqo1121 => rfl); (case qqh1121 => first | (simp; done) | (simp [Act.eval]; done) | (simp only [Act.put]; simp; done) | (simp only [Act.put]; simp [Act.eval]; done)))
      | ((with_reducible refine wpList_load_oneG ?qqg1122 28 ?qqx1122 ?qqo1122 w.heap.size 6 ?qqh1122 ((.slice a6 n6 cp6)) Tryz.rObj_Lstring (O0.out.cell 6 _ E6.out) ?_); (case qqg1122 => rfl); (case qqo1122 => rfl); (case qqh1122 => first | (simp; done) | (simp [Act.eval]; done) | (simp only [Act.put]; simp; done) | (simp only [Act.put]; simp [Act.eval]; done)))
      | ((with_reducible refine wpList_load_rowG ?qqg1123 31 ?qqx1123 ?qqo1123 w.heap.size 7 ?qqh1123 y7 Tryz.rObj_impl_Value YZ7.out (O0.out.range 7 _ E7.out) ?_); (case qqg1123 => rfl); (case qqo1123 => rfl); (case qqh1123 => first | (simp; done) | (simp [Act.eval]; done) | (simp only [Act.put]; simp; done) | (simp only [Act.put]; simp [Act.eval]; done)))
      | ((with_reducible refine wpList_load_rowG ?qqg1124 31 ?qqx1124 ?qqo1124 w.heap.size 12 ?qqh1124 y8 Tryz.rObj_impl_Value YZ8.out (O0.out.range 12 _ E8.out) ?_); (case qqg1124 => rfl); (case qqo1124 => rfl); (case qqh1124 => first | (simp; done) | (simp [Act.eval]; done) | (simp only [Act.put]; simp; done) | (simp only [Act.put]; simp [Act.eval]; done)))
      )
    refine (HK1.out _ B0.out).mono ?_
    rintro e w1 ⟨rfl, hb1⟩
    have O1 := uhide (O0.out.below hb1)
    have B1 : Hid (Below w.heap.size w w1) := B0.out.trans (hb1.mono B0.out.size)
    clear hb1
    go_wp2_with (first
      | ((with_reducible refine wpList_load_oneG ?qqg1132 3 ?qqx1132 ?qqo1132 w.heap.size 0 ?qqh1132 (.int .i64 z0) Tryz.rObj_int (O1.out.cell 0 _ E0.out) ?_); (case qqg1132 => rfl); (case qqo1132 => rfl); (case qqh1132 => first | (simp; done) | (simp [Act.eval]; done) | (simp only [Act.put]; simp; done) | (simp only [Act.put]; simp [Act.eval]; done)))
      | ((with_reducible refine wpList_load_oneG ?qqg1133 9 ?qqx1133 ?qqo1133 w.heap.size 1 ?qqh1133 (.string z1) Tryz.rObj_string (O1.out.cell 1 _ E1.out) ?_); (case qqg1133 => rfl); (case qqo1133 => rfl); (case qqh1133 => first | (simp; done) | (simp [Act.eval]; done) | (simp only [Act.put]; simp; done) | (simp only [Act.put]; simp [Act.eval]; done)))
      | ((with_reducible refine wpList_load_oneG ?qqg1134 3 ?qqx1134 ?qqo1134 w.heap.size 2 ?qqh1134 (.int .i64 z2) Tryz.rObj_int (O1.out.cell 2 _ E2.out) ?_); (case qqg1134 => rfl); (case qqo1134 => rfl); (case qqh1134 => first | (simp; done) | (simp [Act.eval]; done) | (simp only [Act.put]; simp; done) | (simp only [Act.put]; simp [Act.eval]; done)))
      | ((with_reducible refine wpList_load_oneG ?qqg1135 3 ?qqx1135 ?qqo1135 w.heap.size 3 ?qqh1135 (.int .i64 z3) Tryz.rObj_int (O1.out.cell 3 _ E3.out) ?_); (case qqg1135 => rfl); (case qqo1135 => rfl); (case qqh1135 => first | (simp; done) | (simp [Act.eval]; done) | (simp only [Act.put]; simp; done) | (simp only [Act.put]; simp [Act.eval]; done)))
      | ((with_reducible refine wpList_load_oneG ?qqg1136 3 ?qqx1136 ?qqo1136 w.heap.size 4 ?qqh1136 (.int .i64 z4) Tryz.rObj_int (O1.out.cell 4 _ E4.out) ?_); (case qqg1136 => rfl); (case qqo1136 => rfl); (case qqh1136 => first | (simp; done) | (simp [Act.eval]; done) | (simp only [Act.put]; simp; done) | (simp only [Act.put]; simp [Act.eval]; done)))
      | ((with_reducible refine wpList_load_oneG ?qqg1137 4 ?qqx1137 ?qqo1137 w.heap.size 5 ?qqh1137 (.bool z5) Tryz.rObj_bool (O1.out.cell 5 _ E5.out) ?_); (case qqg1137 => rfl); (case qqo1137 => rfl); (case qqh1137 => first | (simp; done) | (simp [Act.eval]; done) | (simp only [Act.put]; simp; done) | (simp only [Act.put]; simp [Act.eval]; done)))
      | ((with_reducible refine wpList_load_oneG ?qqg1138 28 ?qqx1138 ?qqo1138 w.heap.size 6 ?qqh1138 ((.slice a6 n6 cp6)) Tryz.rObj_Lstring (O1.out.cell 6 _ E6.out) ?_); (case qqg1138 => rfl); (case qqo1138 => rfl); (case qqh1138 => first | (simp; done) | (simp [Act.eval]; done) | (simp only [Act.put]; simp; done) | (simp only [Act.put]; simp [Act.eval]; done)))
      | ((with_reducible refine wpList_load_rowG ?qqg1139 31 ?qqx1139 ?qqo1139 w.heap.size 7 ?qqh1139 y7 Tryz.rObj_impl_Value YZ7.out (O1.out.range 7 _ E7.out) ?_); (case qqg1139 => rfl); (case qqo1139 => rfl); (case qqh1139 => first | (simp; done) | (simp [Act.eval]; done) | (simp only [Act.put]; simp; done) | (simp only [Act.put]; simp [Act.eval]; done)))
      | ((with_reducible refine wpList_load_rowG ?qqg1140 31 ?qqx1140 ?qqo1140 w.heap.size 12 ?qqh1140 y8 Tryz.rObj_impl_Value YZ8.out (O1.out.range 12 _ E8.out) ?_); (case qqg1140 => rfl); (case qqo1140 => rfl); (case qqh1140 => first | (simp; done) | (simp [Act.eval]; done) | (simp only [Act.put]; simp; done) | (simp only [Act.put]; simp [Act.eval]; done)))
      )
    refine (HK3.out _ B1.out).mono ?_
    rintro e w3 ⟨rfl, hb3⟩
    have O3 := uhide (O1.out.below hb3)
    have B3 : Hid (Below w.heap.size w w3) := B1.out.trans (hb3.mono B1.out.size)
    clear hb3
    go_wp2_with (first
      | ((with_reducible refine wpList_load_oneG ?qqg1148 3 ?qqx1148 ?qqo1148 w.heap.size 0 ?qqh1148 (.int .i64 z0) Tryz.rObj_int (O3.out.cell 0 _ E0.out) ?_); (case qqg1148 => rfl); (case qqo1148 => rfl); (case qqh1148 => first | (simp; done) | (simp [Act.eval]; done) | (simp only [Act.put]; simp; done) | (simp only [Act.put]; simp [Act.eval]; done)))
      | ((with_reducible refine wpList_load_oneG ?qqg1149 9 ?qqx1149 ?qqo1149 w.heap.size 1 ?qqh1149 (.string z1) Tryz.rObj_string (O3.out.cell 1 _ E1.out) ?_); (case qqg1149 => rfl); (case qqo1149 => rfl); (case qqh1149 => first | (simp; done) | (simp [Act.eval]; done) | (simp only [Act.put]; simp; done) | (simp only [Act.put]; simp [Act.eval]; done)))
      | ((with_reducible refine wpList_load_oneG ?qqg1150 3 ?qqx1150 ?qqo1150 w.heap.size 2 ?qqh1150 (.int .i64 z2) Tryz.rObj_int (O3.out.cell 2 _ E2.out) ?_); (case qqg1150 => rfl); (case qqo1150 => rfl); (case qqh1150 => first | (simp; done) | (simp [Act.eval]; done) | (simp only [Act.put]; simp; done) | (simp only [Act.put]; simp [Act.eval]; done)))
      | ((with_reducible refine wpList_load_oneG ?qqg1151 3 ?qqx1151 ?qqo1151 w.heap.size 3 ?qqh1151 (.int .i64 z3) Tryz.rObj_int (O3.out.cell 3 _ E3.out) ?_); (case qqg1151 => rfl); (case qqo1151 => rfl); (case qqh1151 => first | (simp; done) | (simp [Act.eval]; done) | (simp only [Act.put]; simp; done) | (simp only [Act.put]; simp [Act.eval]; done)))
      | ((with_reducible refine wpList_load_oneG ?qqg1152 3 ?qqx1152 ?qqo1152 w.heap.size 4 ?qqh1152 (.int .i64 z4) Tryz.rObj_int (O3.out.cell 4 _ E4.out) ?_); (case qqg1152 => rfl); (case qqo1152 => rfl); (case qqh1152 => first | (simp; done) | (simp [Act.eval]; done) | (simp only [Act.put]; simp; done) | (simp only [Act.put]; simp [Act.eval]; done)))
      | ((with_reducible refine wpList_load_oneG ?qqg1153 4 ?qqx1153 ?qqo1153 w.heap.size 5 ?qqh1153 (.bool z5) Tryz.rObj_bool (O3.out.cell 5 _ E5.out) ?_); (case qqg1153 => rfl); (case qqo1153 => rfl); (case qqh1153 => first | (simp; done) | (simp [Act.eval]; done) | (simp only [Act.put]; simp; done) | (simp only [Act.put]; simp [Act.eval]; done)))
      | ((with_reducible refine wpList_load_oneG ?qqg1154 28 ?qqx1154 ?qqo1154 w.heap.size 6 ?qqh1154 ((.slice a6 n6 cp6)) Tryz.rObj_Lstring (O3.out.cell 6 _ E6.out) ?_); (case qqg1154 => rfl); (case qqo1154 => rfl); (case qqh1154 => first | (simp; done) | (simp [Act.eval]; done) | (simp only [Act.put]; simp; done) | (simp only [Act.put]; simp [Act.eval]; done)))
      | ((with_reducible refine wpList_load_rowG ?qqg1155 31 ?qqx1155 ?qqo1155 w.heap.size 7 ?qqh1155 y7 Tryz.rObj_impl_Value YZ7.out (O3.out.range 7 _ E7.out) ?_); (case qqg1155 => rfl); (case qqo1155 => rfl); (case qqh1155 => first | (simp; done) | (simp [Act.eval]; done) | (simp only [Act.put]; simp; done) | (simp only [Act.put]; simp [Act.eval]; done)))
      | ((with_reducible refine wpList_load_rowG ?qqg1156 31 ?qqx1156 ?qqo1156 w.heap.size 12 ?qqh1156 y8 Tryz.rObj_impl_Value YZ8.out (O3.out.range 12 _ E8.out) ?_); (case qqg1156 => rfl); (case qqo1156 => rfl); (case qqh1156 => first | (simp; done) | (simp [Act.eval]; done) | (simp only [Act.put]; simp; done) | (simp only [Act.put]; simp [Act.eval]; done)))
      )
    refine (HK4.out _ B3.out).mono ?_
    rintro e w4 ⟨rfl, hb4⟩
    have O4 := uhide (O3.out.below hb4)
    have B4 : Hid (Below w.heap.size w w4) := B3.out.trans (hb4.mono B3.out.size)
    clear hb4
    go_wp2
    go_ret
    exact ⟨ret_bool (by simp), B4.out⟩
  | true =>
  cases k5 with
  | false =>
    go_enter Tryz.func170, Tryz.ntmps170
    go_wp2_with (first
      | ((with_reducible refine wpList_load_oneG ?qqg1171 3 ?qqx1171 ?qqo1171 w.heap.size 0 ?qqh1171 (.int .i64 z0) Tryz.rObj_int (OA.out.cell 0 _ E0.out) ?_); (case qqg1171 => rfl); (case qqo1171 => rfl); (case qqh1171 => first | (simp; done) | (simp [Act.eval]; done) | (simp only [Act.put]; simp; done) | (simp only [Act.put]; simp [Act.eval]; done)))
      | ((with_reducible refine wpList_load_oneG ?qqg1172 9 ?qqx1172 ?qqo1172 w.heap.size 1 ?qqh1172 (.string z1) Tryz.rObj_string (OA.out.cell 1 _ E1.out) ?_); (case qqg1172 => rfl); (case qqo1172 => rfl); (case qqh1172 => first | (simp; done) | (simp [Act.eval]; done) | (simp only [Act.put]; simp; done) | (simp only [Act.put]; simp [Act.eval]; done)))
      | ((with_reducible refine wpList_load_oneG ?qqg1173 3 ?qqx1173 ?qqo1173 w.heap.size 2 ?qqh1173 (.int .i64 z2) Tryz.rObj_int (OA.out.cell 2 _ E2.out) ?_); (case qqg1173 => rfl); (case qqo1173 => rfl); (case qqh1173 => first | (simp; done) | (simp [Act.eval]; done) | (simp only [Act.put]; simp; done) | (simp only [Act.put]; simp [Act.eval]; done)))
      | ((with_reducible refine wpList_load_oneG ?qqg1174 3 ?qqx1174 ?qqo1174 w.heap.size 3 ?qqh1174 (.int .i64 z3) Tryz.rObj_int (OA.out.cell 3 _ E3.out) ?_); (case qqg1174 => rfl); (case qqo1174 => rfl); (case qqh1174 => first | (simp; done) | (simp [Act.eval]; done) | (simp only [Act.put]; simp; done) | (simp only [Act.put]; simp [Act.eval]; done)))
      | ((with_reducible refine wpList_load_oneG ?qqg1175 3 ?qqx1175 ?qqo1175 w.heap.size 4 ?qqh1175 (.int .i64 z4) Tryz.rObj_int (OA.out.cell 4 _ E4.out) ?_); (case qqg1175 => rfl); (case qqo1175 => rfl); (case qqh1175 => first | (simp; done) | (simp [Act.eval]; done) | (simp only [Act.put]; simp; done) | (simp only [Act.put]; simp [Act.eval]; done)))
      | ((with_reducible refine wpList_load_oneG ?qqg1176 4 ?qqx1176 ?qqo1176 w.heap.size 5 ?qqh1176 (.bool z5) Tryz.rObj_bool (OA.out.cell 5 _ E5.out) ?_); (case qqg1176 => rfl); (case qqo1176 => rfl); (case qqh1176 => first | (simp; done) | (simp [Act.eval]; done) | (simp only [Act.put]; simp; done) | (simp only [Act.put]; simp [Act.eval]; done)))
      | ((with_reducible refine wpList_load_oneG ?qqg1177 28 ?qqx1177 ?qqo1177 w.heap.size 6 ?qqh1177 ((.slice a6 n6 cp6)) Tryz.rObj_Lstring (OA.out.cell 6 _ E6.out) ?_); (case qqg1177 => rfl); (case qqo1177 => rfl); (case qqh1177 => first | (simp; done) | (simp [Act.eval]; done) | (simp only [Act.put]; simp; done) | (simp only [Act.put]; simp [Act.eval]; done)))
      | ((with_reducible refine wpList_load_rowG ?qqg1178 31 ?qqx1178 ?qqo1178 w.heap.size 7 ?qqh1178 y7 Tryz.rObj_impl_Value YZ7.out (OA.out.range 7 _ E7.out) ?_); (case qqg1178 => rfl); (case qqo1178 => rfl); (case qqh1178 => first | (simp; done) | (simp [Act.eval]; done) | (simp only [Act.put]; simp; done) | (simp only [Act.put]; simp [Act.eval]; done)))
      | ((with_reducible refine wpList_load_rowG ?qqg1179 31 ?qqx1179 ?qqo1179 w.heap.size 12 ?qqh1179 y8 Tryz.rObj_impl_Value YZ8.out (OA.out.range 12 _ E8.out) ?_); (case qqg1179 => rfl); (case qqo1179 => rfl); (case qqh1179 => first | (simp; done) | (simp [Act.eval]; done) | (simp only [Act.put]; simp; done) | (simp only [Act.put]; simp [Act.eval]; done)))
      )
    refine (HK0.out _ BA.out).mono ?_
    rintro e w0 ⟨rfl, hb0⟩
    have O0 := uhide (OA.out.below hb0)
    have B0 : Hid (Below w.heap.size w w0) := BA.out.trans (hb0.mono BA.out.size)
    clear hb0
    go_wp2_with (first
      | ((with_reducible refine wpList_load_oneG ?qqg1187 3 ?qqx1187 ?qqo1187 w.heap.size 0 ?qqh1187 (.int .i64 z0) Tryz.rObj_int (O0.out.cell 0 _ E0.out) ?_); (case qqg1187 => rfl); (case qqo1187 => rfl); (case qqh1187 => first | (simp; done) | (simp [Act.eval]; done) | (simp only [Act.put]; simp; done) | (simp only [Act.put]; simp [Act.eval]; done)))
      | ((with_reducible refine wpList_load_oneG ?qqg1188 9 ?qqx1188 ?qqo1188 w.heap.size 1 ?qqh1188 (.string z1) Tryz.rObj_string (O0.out.cell 1 _ E1.out) ?_); (case qqg1188 => rfl); (case qqo1188 => rfl); (case qqh1188 => first | (simp; done) | (simp [Act.eval]; done) | (simp only [Act.put]; simp; done) | (simp only [Act.put]; simp [Act.eval]; done)))
      | ((with_reducible refine wpList_load_oneG ?qqg1189 3 ?qqx1189 ?qqo1189 w.heap.size 2 ?qqh1189 (.int .i64 z2) Tryz.rObj_int (O0.out.cell 2 _ E2.out) ?_); (case qqg1189 => rfl); (case qqo1189 => rfl); (case qqh1189 => first | (simp; done) | (simp [Act.eval]; done) | (simp only [Act.put]; simp; done) | (simp only [Act.put]; simp [Act.eval]; done)))
      | ((with_reducible refine wpList_load_oneG ?qqg1190 3 ?qqx1190 ?qqo1190 w.heap.size 3 ?qqh1190 (.int .i64 z3) Tryz.rObj_int (O0.out.cell 3 _ E3.out) ?_); (case qqg1190 => rfl); (case qqo1190 => rfl); (case qqh1190 => first | (simp; done) | (simp [Act.eval]; done) | (simp only [Act.put]; simp; done) | (simp only [Act.put]; simp [Act.eval]; done)))
      | ((with_reducible refine wpList_load_oneG ?qqg1191 3 ?qqx1191 ?qqo1191 w.heap.size 4 ?qqh1191 (.int .i64 z4) Tryz.rObj_int (O0.out.cell 4 _ E4.out) ?_); (case qqg1191 => rfl); (case qqo1191 => rfl); (case qqh1191 => first | (simp; done) | (simp [Act.eval]; done) | (simp only [Act.put]; simp; done) | (simp only [Act.put]; simp [Act.eval]; done)))
      | ((with_reducible refine wpList_load_oneG ?qqg1192 4 ?qqx1192 ?qqo1192 w.heap.size 5 ?qqh1192 (.bool z5) Tryz.rObj_bool (O0.out.cell 5 _ E5.out) ?_); (case qqg1192 => rfl); (case qqo1192 => rfl); (case qqh1192 => first | (simp; done) | (simp [Act.eval]; done) | (simp only [Act.put]; simp; done) | (simp only [Act.put]; simp [Act.eval]; done)))
      | ((with_reducible refine wpList_load_oneG ?qqg1193 28 ?qqx1193 ?qqo1193 w.heap.size 6 ?qqh1193 ((.slice a6 n6 cp6)) Tryz.rObj_Lstring (O0.out.cell 6 _ E6.out) ?_); (case qqg1193 => rfl); (case qqo1193 => rfl); (case qqh1193 => first | (simp; done) | (simp [Act.eval]; done) | (simp only [Act.put]; simp; done) | (simp only [Act.put]; simp [Act.eval]; done)))
      | ((with_reducible refine wpList_load_rowG ?qqg1194 31 ?qqx1194 ?qqo1194 w.heap.size 7 ?qqh1194 y7 Tryz.rObj_impl_Value YZ7.out (O0.out.range 7 _ E7.out) ?_); (case qqg1194 => rfl); (case qqo1194 => rfl); (case qqh1194 => first | (simp; done) | (simp [Act.eval]; done) | (simp only [Act.put]; simp; done) | (simp only [Act.put]; simp [Act.eval]; done)))
      | ((with_reducible refine wpList_load_rowG ?qqg1195 31 ?qqx1195 ?qqo1195 w.heap.size 12 ?qqh1195 y8 Tryz.rObj_impl_Value YZ8.out (O0.out.range 12 _ E8.out) ?_); (case qqg1195 => rfl); (case qqo1195 => rfl); (case qqh1195 => first | (simp; done) | (simp [Act.eval]; done) | (simp only [Act.put]; simp; done) | (simp only [Act.put]; simp [Act.eval]; done)))
      )
    refine (HK1.out _ B0.out).mono ?_
    rintro e w1 ⟨rfl, hb1⟩
    have O1 := uhide (O0.out.below hb1)
    have B1 : Hid (Below w.heap.size w w1) := B0.out.trans (hb1.mono B0.out.size)
    clear hb1
    go_wp2_with (first
      | ((with_reducible refine wpList_load_oneG ?qqg1203 3 ?qqx1203 ?qqo1203 w.heap.size 0 ?qqh1203 (.int .i64 z0) Tryz.rObj_int (O1.out.cell 0 _ E0.out) ?_); (case qqg1203 => rfl); (case qqo1203 => rfl); (case qqh1203 => first | (simp; done) | (simp [Act.eval]; done) | (simp only [Act.put]; simp; done) | (simp only [Act.put]; simp [Act.eval]; done)))
      | ((with_reducible refine wpList_load_oneG ?qqg1204 9 ?qqx1204 ?qqo1204 w.heap.size 1 ?qqh1204 (.string z1) Tryz.rObj_string (O1.out.cell 1 _ E1.out) ?_); (case qqg1204 => rfl); (case qqo1204 => rfl); (case qqh1204 => first | (simp; done) | (simp [Act.eval]; done) | (simp only [Act.put]; simp; done) | (simp only [Act.put]; simp [Act.eval]; done)))
      | ((with_reducible refine wpList_load_oneG ?qqg1205 3 ?qqx1205 ?qqo1205 w.heap.size 2 ?qqh1205 (.int .i64 z2) Tryz.rObj_int (O1.out.cell 2 _ E2.out) ?_); (case qqg1205 => rfl); (case qqo1205 => rfl); (case qqh1205 => first | (simp; done) | (simp [Act.eval]; done) | (simp only [Act.put]; simp; done) | (simp only [Act.put]; simp [Act.eval]; done)))
      | ((with_reducible refine wpList_load_oneG ?qqg1206 3 ?qqx1206 ?qqo1206 w.heap.size 3 ?qqh1206 (.int .i64 z3) Tryz.rObj_int (O1.out.cell 3 _ E3.out) ?_); (case qqg1206 => rfl); (case qqo1206 => rfl); (case qqh1206 => first | (simp; done) | (simp [Act.eval]; done) | (simp only [Act.put]; simp; done) | (simp only [Act.put]; simp [Act.eval]; done)))
      | ((with_reducible refine wpList_load_oneG ?qqg1207 3 ?qqx1207 ?qqo1207 w.heap.size 4 ?qqh1207 (.int .i64 z4) Tryz.rObj_int (O1.out.cell 4 _ E4.out) ?_); (case qqg1207 => rfl); (case qqo1207 => rfl); (case qqh1207 => first | (simp; done) | (simp [Act.eval]; done) | (simp only [Act.put]; simp; done) | (simp only [Act.put]; simp [Act.eval]; done)))
      | ((with_reducible refine wpList_load_oneG ?qqg1208 4 ?qqx1208 ?qqo1208 w.heap.size 5 ?qqh1208 (.bool z5) Tryz.rObj_bool (O1.out.cell 5 _ E5.out) ?_); (case qqg1208 => rfl); (case qqo1208 => rfl); (case qqh1208 => first | (simp; done) | (simp [Act.eval]; done) | (simp only [Act.put]; simp; done) | (simp only [Act.put]; simp [Act.eval]; done)))
      | ((with_reducible refine wpList_load_oneG ?qqg1209 28 ?qqx1209 ?qqo1209 w.heap.size 6 ?qqh1209 ((.slice a6 n6 cp6)) Tryz.rObj_Lstring (O1.out.cell 6 _ E6.out) ?_); (case qqg1209 => rfl); (case qqo1209 => rfl); (case qqh1209 => first | (simp; done) | (simp [Act.eval]; done) | (simp only [Act.put]; simp; done) | (simp only [Act.put]; simp [Act.eval]; done)))
      | ((with_reducible refine wpList_load_rowG ?qqg1210 31 ?qqx1210 ?qqo1210 w.heap.size 7 ?qqh1210 y7 Tryz.rObj_impl_Value YZ7.out (O1.out.range 7 _ E7.out) ?_); (case qqg1210 => rfl); (case qqo1210 => rfl); (case qqh1210 => first | (simp; done) | (simp [Act.eval]; done) | (simp only [Act.put]; simp; done) | (simp only [Act.put]; simp [Act.eval]; done)))
      | ((with_reducible refine wpList_load_rowG ?qqg1211 31 ?qqx1211 ?qqo1211 w.heap.size 12 ?qqh1211 y8 Tryz.rObj_impl_Value YZ8.out (O1.out.range 12 _ E8.out) ?_); (case qqg1211 => rfl); (case qqo1211 => rfl); (case qqh1211 => first | (simp; done) | (simp [Act.eval]; done) | (simp only [Act.put]; simp; done) | (simp only [Act.put]; simp [Act.eval]; done)))
      )
    refine (HK3.out _ B1.out).mono ?_
    rintro e w3 ⟨rfl, hb3⟩
    have O3 := uhide (O1.out.below hb3)
    have B3 : Hid (Below w.heap.size w w3) := B1.out.trans (hb3.mono B1.out.size)
    clear hb3
    go_wp2_with (first
      | ((with_reducible refine wpList_load_oneG ?qqg1219 3 ?qqx1219 ?qqo1219 w.heap.size 0 ?qqh1219 (.int .i64 z0) Tryz.rObj_int (O3.out.cell 0 _ E0.out) ?_); (case qqg1219 => rfl); (case qqo1219 => rfl); (case qqh1219 => first | (simp; done) | (simp [Act.eval]; done) | (simp only [Act.put]; simp; done) | (simp only [Act.put]; simp [Act.eval]; done)))
      | ((with_reducible refine wpList_load_oneG ?qqg1220 9 ?qqx1220 ?qqo1220 w.heap.size 1 ?qqh1220 (.string z1) Tryz.rObj_string (O3.out.cell 1 _ E1.out) ?_); (case qqg1220 => rfl); (case qqo1220 => rfl); (case qqh1220 => first | (simp; done) | (simp [Act.eval]; done) | (simp only [Act.put]; simp; done) | (simp only [Act.put]; simp [Act.eval]; done)))
      | ((with_reducible refine wpList_load_oneG ?qqg1221 3 ?qqx1221 ?qqo1221 w.heap.size 2 ?qqh1221 (.int .i64 z2) Tryz.rObj_int (O3.out.cell 2 _ E2.out) ?_); (case qqg1221 => rfl); (case qqo1221 => rfl); (case qqh1221 => first | (simp; done) | (simp [Act.eval]; done) | (simp only [Act.put]; simp; done) | (simp only [Act.put]; simp [Act.eval]; done)))
      | ((with_reducible refine wpList_load_oneG ?qqg1222 3 ?qqx1222 ?qqo1222 w.heap.size 3 ?qqh1222 (.int .i64 z3) Tryz.rObj_int (O3.out.cell 3 _ E3.out) ?_); (case qqg1222 => rfl); (case qqo1222 => rfl); (case qqh1222 => first | (simp; done) | (simp [Act.eval]; done) | (simp only [Act.put]; simp; done) | (simp only [Act.put]; simp [Act.eval]; done)))
      | ((with_reducible refine wpList_load_oneG ?qqg1223 3 ?qqx1223 ?qqo1223 w.heap.size 4 ?qqh1223 (.int .i64 z4) Tryz.rObj_int (O3.out.cell 4 _ E4.out) ?_); (case qqg1223 => rfl); (case qqo1223 => rfl); (case qqh1223 => first | (simp; done) | (simp [Act.eval]; done) | (simp only [Act.put]; simp; done) | (simp only [Act.put]; simp [Act.eval]; done)))
      | ((with_reducible refine wpList_load_oneG ?qqg1224 4 ?qqx1224 ?qqo1224 w.heap.size 5 ?qqh1224 (.bool z5) Tryz.rObj_bool (O3.out.cell 5 _ E5.out) ?_); (case qqg1224 => rfl); (case qqo1224 => rfl); (case qqh1224 => first | (simp; done) | (simp [Act.eval]; done) | (simp only [Act.put]; simp; done) | (simp only [Act.put]; simp [Act.eval]; done)))
      | ((with_reducible refine wpList_load_oneG ?qqg1225 28 ?qqx1225 ?qqo1225 w.heap.size 6 ?qqh1225 ((.slice a6 n6 cp6)) Tryz.rObj_Lstring (O3.out.cell 6 _ E6.out) ?_); (case qqg1225 => rfl); (case qqo1225 => rfl); (case qqh1225 => first | (simp; done) | (simp [Act.eval]; done) | (simp only [Act.put]; simp; done) | (simp only [Act.put]; simp [Act.eval]; done)))
      | ((with_reducible refine wpList_load_rowG ?qqg1226 31 ?qqx1226 ?qqo1226 w.heap.size 7 ?qqh1226 y7 Tryz.rObj_impl_Value YZ7.out (O3.out.range 7 _ E7.out) ?_); (case qqg1226 => rfl); (case qqo1226 => rfl); (case qqh1226 => first | (simp; done) | (simp [Act.eval]; done) | (simp only [Act.put]; simp; done) | (simp only [Act.put]; simp [Act.eval]; done)))
      | ((with_reducible refine wpList_load_rowG ?qqg1227 31 ?qqx1227 ?qqo1227 w.heap.size 12 ?qqh1227 y8 Tryz.rObj_impl_Value YZ8.out (O3.out.range 12 _ E8.out) ?_); (case qqg1227 => rfl); (case qqo1227 => rfl); (case qqh1227 => first | (simp; done) | (simp [Act.eval]; done) | (simp only [Act.put]; simp; done) | (simp only [Act.put]; simp [Act.eval]; done)))
      )
    refine (HK4.out _ B3.out).mono ?_
    rintro e w4 ⟨rfl, hb4⟩
    have O4 := uhide (O3.out.below hb4)
    have B4 : Hid (Below w.heap.size w w4) := B3.out.trans (hb4.mono B3.out.size)
    clear hb4
    go_wp2_with (first
      | ((with_reducible refine wpList_load_oneG ?qqg1235 3 ?qqx1235 ?qqo1235 w.heap.size 0 ?qqh1235 (.int .i64 z0) Tryz.rObj_int (O4.out.cell 0 _ E0.out) ?_); (case qqg1235 => rfl); (case qqo1235 => rfl); (case qqh1235 => first | (simp; done) | (simp [Act.eval]; done) | (simp only [Act.put]; simp; done) | (simp only [Act.put]; simp [Act.eval]; done)))
      | ((with_reducible refine wpList_load_oneG ?qqg1236 9 ?qqx1236 ?qqo1236 w.heap.size 1 ?qqh1236 (.string z1) Tryz.rObj_string (O4.out.cell 1 _ E1.out) ?_); (case qqg1236 => rfl); (case qqo1236 => rfl); (case qqh1236 => first | (simp; done) | (simp [Act.eval]; done) | (simp only [Act.put]; simp; done) | (simp only [Act.put]; simp [Act.eval]; done)))
      | ((with_reducible refine wpList_load_oneG ?qqg1237 3 ?qqx1237 ?qqo1237 w.heap.size 2 ?qqh1237 (.int .i64 z2) Tryz.rObj_int (O4.out.cell 2 _ E2.out) ?_); (case qqg1237 => rfl); (case qqo1237 => rfl); (case qqh1237 => first | (simp; done) | (simp [Act.eval]; done) | (simp only [Act.put]; simp; done) | (simp only [Act.put]; simp [Act.eval]; done)))
      | ((with_reducible refine wpList_load_oneG ?qqg1238 3 ?qqx1238 ?qqo1238 w.heap.size 3 ?qqh1238 (.int .i64 z3) Tryz.rObj_int (O4.out.cell 3 _ E3.out) ?_); (case qqg1238 => rfl); (case qqo1238 => rfl); (case qqh1238 => first | (simp; done) | (simp [Act.eval]; done) | (simp only [Act.put]; simp; done) | (simp only [Act.put]; simp [Act.eval]; done)))
      | ((with_reducible refine wpList_load_oneG ?qqg1239 3 ?qqx1239 ?qqo1239 w.heap.size 4 ?qqh1239 (.int .i64 z4) Tryz.rObj_int (O4.out.cell 4 _ E4.out) ?_); (case qqg1239 => rfl); (case qqo1239 => rfl); (case qqh1239 => first | (simp; done) | (simp [Act.eval]; done) | (simp only [Act.put]; simp; done) | (simp only [Act.put]; simp [Act.eval]; done)))
      | ((with_reducible refine wpList_load_oneG ?qqg1240 4 ?qqx1240 ?qqo1240 w.heap.size 5 ?qqh1240 (.bool z5) Tryz.rObj_bool (O4.out.cell 5 _ E5.out) ?_); (case qqg1240 => rfl); (case qqo1240 => rfl); (case qqh1240 => first | (simp; done) | (simp [Act.eval]; done) | (simp only [Act.put]; simp; done) | (simp only [Act.put]; simp [Act.eval]; done)))
      | ((with_reducible refine wpList_load_oneG ?qqg1241 28 ?qqx1241 ?qqo1241 w.heap.size 6 ?qqh1241 ((.slice a6 n6 cp6)) Tryz.rObj_Lstring (O4.out.cell 6 _ E6.out) ?_); (case qqg1241 => rfl); (case qqo1241 => rfl); (case qqh1241 => first | (simp; done) | (simp [Act.eval]; done) | (simp only [Act.put]; simp; done) | (simp only [Act.put]; simp [Act.eval]; done)))
      | ((with_reducible refine wpList_load_rowG ?qqg1242 31 ?qqx1242 ?qqo1242 w.heap.size 7 ?qqh1242 y7 Tryz.rObj_impl_Value YZ7.out (O4.out.range 7 _ E7.out) ?_); (case qqg1242 => rfl); (case qqo1242 => rfl); (case qqh1242 => first | (simp; done) | (simp [Act.eval]; done) | (simp only [Act.put]; simp; done) | (simp only [Act.put]; simp [Act.eval]; done)))
      | ((with_reducible refine wpList_load_rowG ?qqg1243 31 ?qqx1243 ?qqo1243 w.heap.size 12 ?qqh1243 y8 Tryz.rObj_impl_Value YZ8.out (O4.out.range 12 _ E8.out) ?_); (case qqg1243 => rfl); (case qqo1243 => rfl); (case qqh1243 => first | (simp; done) | (simp [Act.eval]; done) | (simp only [Act.put]; simp; done) | (simp only [Act.put]; simp [Act.eval]; done)))
      )
    refine (HK5.out _ B4.out).mono ?_
    rintro e w5 ⟨rfl, hb5⟩
    have O5 := uhide (O4.out.below hb5)
    have B5 : Hid (Below w.heap.size w w5) := B4.out.trans (hb5.mono B4.out.size)
    clear hb5
    go_wp2
    go_ret
    exact ⟨ret_bool (by simp), B5.out⟩
  | true =>
  cases k2 with
  | false =>
    go_enter Tryz.func170, Tryz.ntmps170
    go_wp2_with (first
      | ((with_reducible refine wpList_load_oneG ?qqg1258 3 ?qqx1258 ?qqo1258 w.heap.size 0 ?qqh1258 (.int .i64 z0) Tryz.rObj_int (OA.out.cell 0 _ E0.out) ?_); (case qqg1258 => rfl); (case qqo1258 => rfl); (case qqh1258 => first | (simp; done) | (simp [Act.eval]; done) | (simp only [Act.put]; simp; done) | (simp only [Act.put]; simp [Act.eval]; done)))
      | ((with_reducible refine wpList_load_oneG ?qqg1259 9 ?qqx1259 ?qqo1259 w.heap.size 1 ?qqh1259 (.string z1) Tryz.rObj_string (OA.out.cell 1 _ E1.out) ?_); (case qqg1259 => rfl); (case qqo1259 => rfl); (case qqh1259 => first | (simp; done) | (simp [Act.eval]; done) | (simp only [Act.put]; simp; done) | (simp only [Act.put]; simp [Act.eval]; done)))
      | ((with_reducible refine wpList_load_oneG ?qqg1260 3 ?qqx1260 ?qqo1260 w.heap.size 2 ?qqh1260 (.int .i64 z2) Tryz.rObj_int (OA.out.cell 2 _ E2.out) ?_); (case qqg1260 => rfl); (case qqo1260 => rfl); (case qqh1260 => first | (simp; done) | (simp [Act.eval]; done) | (simp only [Act.put]; simp; done) | (simp only [Act.put]; simp [Act.eval]; done)))
      | ((with_reducible refine wpList_load_oneG ?qqg1261 3 ?qqx1261 ?qqo1261 w.heap.size 3 ?qqh1261 (.int .i64 z3) Tryz.rObj_int (OA.out.cell 3 _ E3.out) ?_); (case qqg1261 => rfl); (case qqo1261 => rfl); (case qqh1261 => first | (simp; done) | (simp [Act.eval]; done) | (simp only [Act.put]; simp; done) | (simp only [Act.put]; simp [Act.eval]; done)))
      | ((with_reducible refine wpList_load_oneG ?qqg1262 3 ?qqx1262 ?qqo1262 w.heap.size 4 ?qqh1262 (.int .i64 z4) Tryz.rObj_int (OA.out.cell 4 _ E4.out) ?_); (case qqg1262 => rfl); (case qqo1262 => rfl); (case qqh1262 => first | (simp; done) | (simp [Act.eval]; done) | (simp only [Act.put]; simp; done) | (simp only [Act.put]; simp [Act.eval]; done)))
      | ((with_reducible refine wpList_load_oneG ?qqg1263 4 ?qqx1263 ?qqo1263 w.heap.size 5 ?qqh1263 (.bool z5) Tryz.rObj_bool (OA.out.cell 5 _ E5.out) ?_); (case qqg1263 => rfl); (case qqo1263 => rfl); (case qqh1263 => first | (simp; done) | (simp [Act.eval]; done) | (simp only [Act.put]; simp; done) | (simp only [Act.put]; simp [Act.eval]; done)))
      | ((with_reducible refine wpList_load_oneG ?qqg1264 28 ?qqx1264 ?qqo1264 w.heap.size 6 ?qqh1264 ((.slice a6 n6 cp6)) Tryz.rObj_Lstring (OA.out.cell 6 _ E6.out) ?_); (case qqg1264 => rfl); (case qqo1264 => rfl); (case qqh1264 => first | (simp; done) | (simp [Act.eval]; done) | (simp only [Act.put]; simp; done) | (simp only [Act.put]; simp [Act.eval]; done)))
      | ((with_reducible refine wpList_load_rowG ?qqg1265 31 ?qqx1265 ?qqo1265 w.heap.size 7 ?qqh1265 y7 Tryz.rObj_impl_Value YZ7.out (OA.out.range 7 _ E7.out) ?_); (case qqg1265 => rfl); (case qqo1265 => rfl); (case qqh1265 => first | (simp; done) | (simp [Act.eval]; done) | (simp only [Act.put]; simp; done) | (simp only [Act.put]; simp [Act.eval]; done)))
      | ((with_reducible refine wpList_load_rowG ?qqg1266 31 ?qqx1266 ?qqo1266 w.heap.size 12 ?qqh1266 y8 Tryz.rObj_impl_Value YZ8.out (OA.out.range 12 _ E8.out) ?_); (case qqg1266 => rfl); (case qqo1266 => rfl); (case qqh1266 => first | (simp; done) | (simp [Act.eval]; done) | (simp only [Act.put]; simp; done) | (simp only [Act.put]; simp [Act.eval]; done)))
      )
    refine (HK0.out _ BA.out).mono ?_
    rintro e w0 ⟨rfl, hb0⟩
    have O0 := uhide (OA.out.below hb0)
    have B0 : Hid (Below w.heap.size w w0) := BA.out.trans (hb0.mono BA.out.size)
    clear hb0
    go_wp2_with (first
      | ((with_reducible refine wpList_load_oneG ?qqg1274 3 ?qqx1274 ?qqo1274 w.heap.size 0 ?qqh1274 (.int .i64 z0) Tryz.rObj_int (O0.out.cell 0 _ E0.out) ?_); (case qqg1274 => rfl); (case qqo1274 => rfl); (case qqh1274 => first | (simp; done) | (simp [Act.eval]; done) | (simp only [Act.put]; simp; done) | (simp only [Act.put]; simp [Act.eval]; done)))
      | ((with_reducible refine wpList_load_oneG ?qqg1275 9 ?qqx1275 ?qqo1275 w.heap.size 1 ?qqh1275 (.string z1) Tryz.rObj_string (O0.out.cell 1 _ E1.out) ?_); (case qqg1275 => rfl); (case qqo1275 => rfl); (case qqh1275 => first | (simp; done) | (simp [Act.eval]; done) | (simp only [Act.put]; simp; done) | (simp only [Act.put]; simp [Act.eval]; done)))
      | ((with_reducible refine wpList_load_oneG ?qqg1276 3 ?qqx1276 ?qqo1276 w.heap.size 2 ?qqh1276 (.int .i64 z2) Tryz.rObj_int (O0.out.cell 2 _ E2.out) ?_); (case qqg1276 => rfl); (case qqo1276 => rfl); (case qqh1276 => first | (simp; done) | (simp [Act.eval]; done) | (simp only [Act.put]; simp; done) | (simp only [Act.put]; simp [Act.eval]; done)))
      | ((with_reducible refine wpList_load_oneG ?qqg1277 3 ?qqx1277 ?qqo1277 w.heap.size 3 ?qqh1277 (.int .i64 z3) Tryz.rObj_int (O0.out.cell 3 _ E3.out) ?_); (case qqg1277 => rfl); (case qqo1277 => rfl); (case qqh1277 => first | (simp; done) | (simp [Act.eval]; done) | (simp only [Act.put]; simp; done) | (simp only [Act.put]; simp [Act.eval]; done)))
      | ((with_reducible refine wpList_load_oneG ?qqg1278 3 ?qqx1278 ?qqo1278 w.heap.size 4 ?qqh1278 (.int .i64 z4) Tryz.rObj_int (O0.out.cell 4 _ E4.out) ?_); (case qqg1278 => rfl); (case qqo1278 => rfl); (case qqh1278 => first | (simp; done) | (simp [Act.eval]; done) | (simp only [Act.put]; simp; done) | (simp only [Act.put]; simp [Act.eval]; done)))
      | ((with_reducible refine wpList_load_oneG ?qqg1279 4 ?qqx1279 ?qqo1279 w.heap.size 5 ?qqh1279 (.bool z5) Tryz.rObj_bool (O0.out.cell 5 _ E5.out) ?_); (case qqg1279 => rfl); (case qqo1279 => rfl); (case qqh1279 => first | (simp; done) | (simp [Act.eval]; done) | (simp only [Act.put]; simp; done) | (simp only [Act.put]; simp [Act.eval]; done)))
      | ((with_reducible refine wpList_load_oneG ?qqg1280 28 ?qqx1280 ?qqo1280 w.heap.size 6 ?qqh1280 ((.slice a6 n6 cp6)) Tryz.rObj_Lstring (O0.out.cell 6 _ E6.out) ?_); (case qqg1280 => rfl); (case qqo1280 => rfl); (case qqh1280 => first | (simp; done) | (simp [Act.eval]; done) | (simp only [Act.put]; simp; done) | (simp only [Act.put]; simp [Act.eval]; done)))
      | ((with_reducible refine wpList_load_rowG ?qqg1281 31 ?qqx1281 ?qqo1281 w.heap.size 7 ?qqh1281 y7 Tryz.rObj_impl_Value YZ7.out (O0.out.range 7 _ E7.out) ?_); (case qqg1281 => rfl); (case qqo1281 => rfl); (case qqh1281 => first | (simp; done) | (simp [Act.eval]; done) | (simp only [Act.put]; simp; done) | (simp only [Act.put]; simp [Act.eval]; done)))
      | ((with_reducible refine wpList_load_rowG ?qqg1282 31 ?qqx1282 ?qqo1282 w.heap.size 12 ?qqh1282 y8 Tryz.rObj_impl_Value YZ8.out (O0.out.range 12 _ E8.out) ?_); (case qqg1282 => rfl); (case qqo1282 => rfl); (case qqh1282 => first | (simp; done) | (simp [Act.eval]; done) | (simp only [Act.put]; simp; done) | (simp only [Act.put]; simp [Act.eval]; done)))
      )
    refine (HK1.out _ B0.out).mono ?_
    rintro e w1 ⟨rfl, hb1⟩
    have O1 := uhide (O0.out.below hb1)
    have B1 : Hid (Below w.heap.size w w1) := B0.out.trans (hb1.mono B0.out.size)
    clear hb1
    go_wp2_with (first
      | ((with_reducible refine wpList_load_oneG ?qqg1290 3 ?qqx1290 ?qqo1290 w.heap.size 0 ?qqh1290 (.int .i64 z0) Tryz.rObj_int (O1.out.cell 0 _ E0.out) ?_); (case qqg1290 => rfl); (case qqo1290 => rfl); (case qqh1290 => first | (simp; done) | (simp [Act.eval]; done) | (simp only [Act.put]; simp; done) | (simp only [Act.put]; simp [Act.eval]; done)))
      | ((with_reducible refine wpList_load_oneG ?qqg1291 9 ?qqx1291 ?qqo1291 w.heap.size 1 ?qqh1291 (.string z1) Tryz.rObj_string (O1.out.cell 1 _ E1.out) ?_); (case qqg1291 => rfl); (case qqo1291 => rfl); (case qqh1291 => first | (simp; done) | (simp [Act.eval]; done) | (simp only [Act.put]; simp; done) | (simp only [Act.put]; simp [Act.eval]; done)))
      | ((with_reducible refine wpList_load_oneG ?qqg1292 3 ?qqx1292 ?qqo1292 w.heap.size 2 ?qqh1292 (.int .i64 z2) Tryz.rObj_int (O1.out.cell 2 _ E2.out) ?_); (case qqg1292 => rfl); (case qqo1292 => rfl); (case qqh1292 => first | (simp; done) | (simp [Act.eval]; done) | (simp only [Act.put]; simp; done) | (simp only [Act.put]; simp [Act.eval]; done)))
      | ((with_reducible refine wpList_load_oneG ?qqg1293 3 ?qqx1293 ?qqo1293 w.heap.size 3 ?qqh1293 (.int .i64 z3) Tryz.rObj_int (O1.out.cell 3 _ E3.out) ?_); (case qqg1293 => rfl); (case qqo1293 => rfl); (case qqh1293 => first | (simp; done) | (simp [Act.eval]; done) | (simp only [Act.put]; simp; done) | (simp only [Act.put]; simp [Act.eval]; done)))
      | ((with_reducible refine wpList_load_oneG ?qqg1294 3 ?qqx1294 ?qqo1294 w.heap.size 4 ?qqh1294 (.int .i64 z4) Tryz.rObj_int (O1.out.cell 4 _ E4.out) ?_); (case qqg1294 => rfl); (case qqo1294 => rfl); (case qqh1294 => first | (simp; done) | (simp [Act.eval]; done) | (simp only [Act.put]; simp; done) | (simp only [Act.put]; simp [Act.eval]; done)))
      | ((with_reducible refine wpList_load_oneG ?qqg1295 4 ?qqx1295 ?qqo1295 w.heap.size 5 ?qqh1295 (.bool z5) Tryz.rObj_bool (O1.out.cell 5 _ E5.out) ?_); (case qqg1295 => rfl); (case qqo1295 => rfl); (case qqh1295 => first | (simp; done) | (simp [Act.eval]; done) | (simp only [Act.put]; simp; done) | (simp only [Act.put]; simp [Act.eval]; done)))
      | ((with_reducible refine wpList_load_oneG ?qqg1296 28 ?qqx1296 ?qqo1296 w.heap.size 6 ?qqh1296 ((.slice a6 n6 cp6)) Tryz.rObj_Lstring (O1.out.cell 6 _ E6.out) ?_); (case qqg1296 => rfl); (case qqo1296 => rfl); (case qqh1296 => first | (simp; done) | (simp [Act.eval]; done) | (simp only [Act.put]; simp; done) | (simp only [Act.put]; simp [Act.eval]; done)))
      | ((with_reducible refine wpList_load_rowG ?qqg1297 31 ?qqx1297 ?qqo1297 w.heap.size 7 ?qqh1297 y7 Tryz.rObj_impl_Value YZ7.out (O1.out.range 7 _ E7.out) ?_); (case qqg1297 => rfl); (case qqo1297 => rfl); (case qqh1297 => first | (simp; done) | (simp [Act.eval]; done) | (simp only [Act.put]; simp; done) | (simp only [Act.put]; simp [Act.eval]; done)))
      | ((with_reducible refine wpList_load_rowG ?qqg1298 31 ?qqx1298 ?qqo1298 w.heap.size 12 ?qqh1298 y8 Tryz.rObj_impl_Value YZ8.out (O1.out.range 12 _ E8.out) ?_); (case qqg1298 => rfl); (case qqo1298 => rfl); (case qqh1298 => first | (simp; done) | (simp [Act.eval]; done) | (simp only [Act.put]; simp; done) | (simp only [Act.put]; simp [Act.eval]; done)))
      )
    refine (HK3.out _ B1.out).mono ?_
    rintro e w3 ⟨rfl, hb3⟩
    have O3 := uhide (O1.out.below hb3)
    have B3 : Hid (Below w.heap.size w w3) := B1.out.trans (hb3.mono B1.out.size)
    clear hb3
    go_wp2_with (first
      | ((with_reducible refine wpList_load_oneG ?qqg1306 3 ?qqx1306 ?qqo1306 w.heap.size 0 ?qqh1306 (.int .i64 z0) Tryz.rObj_int (O3.out.cell 0 _ E0.out) ?_); (case qqg1306 => rfl); (case qqo1306 => rfl); (case qqh1306 => first | (simp; done) | (simp [Act.eval]; done) | (simp only [Act.put]; simp; done) | (simp only [Act.put]; simp [Act.eval]; done)))
      | ((with_reducible refine wpList_load_oneG ?qqg1307 9 ?qqx1307 ?qqo1307 w.heap.size 1 ?qqh1307 (.string z1) Tryz.rObj_string (O3.out.cell 1 _ E1.out) ?_); (case qqg1307 => rfl); (case qqo1307 => rfl); (case qqh1307 => first | (simp; done) | (simp [Act.eval]; done) | (simp only [Act.put]; simp; done) | (simp only [Act.put]; simp [Act.eval]; done)))
      | ((with_reducible refine wpList_load_oneG ?qqg1308 3 ?qqx1308 ?qqo1308 w.heap.size 2 ?qqh1308 (.int .i64 z2) Tryz.rObj_int (O3.out.cell 2 _ E2.out) ?_); (case qqg1308 => rfl); (case qqo1308 => rfl); (case qqh1308 => first | (simp; done) | (simp [Act.eval]; done) | (simp only [Act.put]; simp; done) | (simp only [Act.put]; simp [Act.eval]; done)))
      | ((with_reducible refine wpList_load_oneG ?qqg1309 3 ?qqx1309 ?qqo1309 w.heap.size 3 ?qqh1309 (.int .i64 z3) Tryz.rObj_int (O3.out.cell 3 _ E3.out) ?_); (case qqg1309 => rfl); (case qqo1309 => rfl); (case qqh1309 => first | (simp; done) | (simp [Act.eval]; done) | (simp only [Act.put]; simp; done) | (simp only [Act.put]; simp [Act.eval]; done)))
      | ((with_reducible refine wpList_load_oneG ?qqg1310 3 ?qqx1310 ?qqo1310 w.heap.size 4 ?qqh1310 (.int .i64 z4) Tryz.rObj_int (O3.out.cell 4 _ E4.out) ?_); (case qqg1310 => rfl); (case qqo1310 => rfl); (case qqh1310 => first | (simp; done) | (simp [Act.eval]; done) | (simp only [Act.put]; simp; done) | (simp only [Act.put]; simp [Act.eval]; done)))
      | ((with_reducible refine wpList_load_oneG ?qqg1311 4 ?qqx1311 ?qqo1311 w.heap.size 5 ?qqh1311 (.bool z5) Tryz.rObj_bool (O3.out.cell 5 _ E5.out) ?_); (case qqg1311 => rfl); (case qqo1311 => rfl); (case qqh1311 => first | (simp; done) | (simp [Act.eval]; done) | (simp only [Act.put]; simp; done) | (simp only [Act.put]; simp [Act.eval]; done)))
      | ((with_reducible refine wpList_load_oneG ?qqg1312 28 ?qqx1312 ?qqo1312 w.heap.size 6 ?qqh1312 ((.slice a6 n6 cp6)) Tryz.rObj_Lstring (O3.out.cell 6 _ E6.out) ?_); (case qqg1312 => rfl); (case qqo1312 => rfl); (case qqh1312 => first | (simp; done) | (simp [Act.eval]; done) | (simp only [Act.put]; simp; done) | (simp only [Act.put]; simp [Act.eval]; done)))
      | ((with_reducible refine wpList_load_rowG ?qqg1313 31 ?qqx1313 ?qqo1313 w.heap.size 7 ?qqh1313 y7 Tryz.rObj_impl_Value YZ7.out (O3.out.range 7 _ E7.out) ?_); (case qqg1313 => rfl); (case qqo1313 => rfl); (case qqh1313 => first | (simp; done) | (simp [Act.eval]; done) | (simp only [Act.put]; simp; done) | (simp only [Act.put]; simp [Act.eval]; done)))
      | ((with_reducible refine wpList_load_rowG ?qqg1314 31 ?qqx1314 ?qqo1314 w.heap.size 12 ?qqh1314 y8 Tryz.rObj_impl_Value YZ8.out (O3.out.range 12 _ E8.out) ?_); (case qqg1314 => rfl); (case qqo1314 => rfl); (case qqh1314 => first | (simp; done) | (simp [Act.eval]; done) | (simp only [Act.put]; simp; done) | (simp only [Act.put]; simp [Act.eval]; done)))
      )
    refine (HK4.out _ B3.out).mono ?_
    rintro e w4 ⟨rfl, hb4⟩
    have O4 := uhide (O3.out.below hb4)
    have B4 : Hid (Below w.heap.size w w4) := B3.out.trans (hb4.mono B3.out.size)
    clear hb4
    go_wp2_with (first
      | ((with_reducible refine wpList_load_oneG ?qqg1322 3 ?qqx1322 ?qqo1322 w.heap.size 0 ?qqh1322 (.int .i64 z0) Tryz.rObj_int (O4.out.cell 0 _ E0.out) ?_); (case qqg1322 => rfl); (case qqo1322 => rfl); (case qqh1322 => first | (simp; done) | (simp [Act.eval]; done) | (simp only [Act.put]; simp; done) | (simp only [Act.put]; simp [Act.eval]; done)))
      | ((with_reducible refine wpList_load_oneG ?qqg1323 9 ?qqx1323 ?qqo1323 w.heap.size 1 ?qqh1323 (.string z1) Tryz.rObj_string (O4.out.cell 1 _ E1.out) ?_); (case qqg1323 => rfl); (case qqo1323 => rfl); (case qqh1323 => first | (simp; done) | (simp [Act.eval]; done) | (simp only [Act.put]; simp; done) | (simp only [Act.put]; simp [Act.eval]; done)))
      | ((with_reducible refine wpList_load_oneG ?qqg1324 3 ?qqx1324 ?qqo1324 w.heap.size 2 ?qqh1324 (.int .i64 z2) Tryz.rObj_int (O4.out.cell 2 _ E2.out) ?_); (case qqg1324 => rfl); (case qqo1324 => rfl); (case qqh1324 => first | (simp; done) | (simp [Act.eval]; done) | (simp only [Act.put]; simp; done) | (simp only [Act.put]; simp [Act.eval]; done)))
      | ((with_reducible refine wpList_load_oneG ?qqg1325 3 ?qqx1325 ?qqo1325 w.heap.size 3 ?qqh1325 (.int .i64 z3) Tryz.rObj_int (O4.out.cell 3 _ E3.out) ?_); (case qqg1325 => rfl); (case qqo1325 => rfl); (case qqh1325 => first | (simp; done) | (simp [Act.eval]; done) | (simp only [Act.put]; simp; done) | (simp only [Act.put]; simp [Act.eval]; done)))
      | ((with_reducible refine wpList_load_oneG ?qqg1326 3 ?qqx1326 ?qqo1326 w.heap.size 4 ?qqh1326 (.int .i64 z4) Tryz.rObj_int (O4.out.cell 4 _ E4.out) ?_); (case qqg1326 => rfl); (case qqo1326 => rfl); (case qqh1326 => first | (simp; done) | (simp [Act.eval]; done) | (simp only [Act.put]; simp; done) | (simp only [Act.put]; simp [Act.eval]; done)))
      | ((with_reducible refine wpList_load_oneG ?qqg1327 4 ?qqx1327 ?qqo1327 w.heap.size 5 ?qqh1327 (.bool z5) Tryz.rObj_bool (O4.out.cell 5 _ E5.out) ?_); (case qqg1327 => rfl); (case qqo1327 => rfl); (case qqh1327 => first | (simp; done) | (simp [Act.eval]; done) | (simp only [Act.put]; simp; done) | (simp only [Act.put]; simp [Act.eval]; done)))
      | ((with_reducible refine wpList_load_oneG ?qqg1328 28 ?qqx1328 ?qqo1328 w.heap.size 6 ?qqh1328 ((.slice a6 n6 cp6)) Tryz.rObj_Lstring (O4.out.cell 6 _ E6.out) ?_); (case qqg1328 => rfl); (case qqo1328 => rfl); (case qqh1328 => first | (simp; done) | (simp [Act.eval]; done) | (simp only [Act.put]; simp; done) | (simp only [Act.put]; simp [Act.eval]; done)))
      | ((with_reducible refine wpList_load_rowG ?qqg1329 31 ?qqx1329 ?qqo1329 w.heap.size 7 ?qqh1329 y7 Tryz.rObj_impl_Value YZ7.out (O4.out.range 7 _ E7.out) ?_); (case qqg1329 => rfl); (case qqo1329 => rfl); (case qqh1329 => first | (simp; done) | (simp [Act.eval]; done) | (simp only [Act.put]; simp; done) | (simp only [Act.put]; simp [Act.eval]; done)))
      | ((with_reducible refine wpList_load_rowG ?qqg1330 31 ?qqx1330 ?qqo1330 w.heap.size 12 ?qqh1330 y8 Tryz.rObj_impl_Value YZ8.out (O4.out.range 12 _ E8.out) ?_); (case qqg1330 => rfl); (case qqo1330 => rfl); (case qqh1330 => first | (simp; done) | (simp [Act.eval]; done) | (simp only [Act.put]; simp; done) | (simp only [Act.put]; simp [Act.eval]; done)))
      )
    refine (HK5.out _ B4.out).mono ?_
    rintro e w5 ⟨rfl, hb5⟩
    have O5 := uhide (O4.out.below hb5)
    have B5 : Hid (Below w.heap.size w w5) := B4.out.trans (hb5.mono B4.out.size)
    clear hb5
    go_wp2_with (first
      | ((with_reducible refine wpList_load_oneG ?qqg1338 3 ?qqx1338 ?qqo1338 w.heap.size 0 ?qqh1338 (.int .i64 z0) Tryz.rObj_int (O5.out.cell 0 _ E0.out) ?_); (case qqg1338 => rfl); (case qqo1338 => rfl); (case qqh1338 => first | (simp; done) | (simp [Act.eval]; done) | (simp only [Act.put]; simp; done) | (simp only [Act.put]; simp [Act.eval]; done)))
      | ((with_reducible refine wpList_load_oneG ?qqg1339 9 ?qqx1339 ?qqo1339 w.heap.size 1 ?qqh1339 (.string z1) Tryz.rObj_string (O5.out.cell 1 _ E1.out) ?_); (case qqg1339 => rfl); (case qqo1339 => rfl); (case qqh1339 => first | (simp; done) | (simp [Act.eval]; done) | (simp only [Act.put]; simp; done) | (simp only [Act.put]; simp [Act.eval]; done)))
      | ((with_reducible refine wpList_load_oneG ?qqg1340 3 ?qqx1340 ?qqo1340 w.heap.size 2 ?qqh1340 (.int .i64 z2) Tryz.rObj_int (O5.out.cell 2 _ E2.out) ?_); (case qqg1340 => rfl); (case qqo1340 => rfl); (case qqh1340 => first | (simp; done) | (simp [Act.eval]; done) | (simp only [Act.put]; simp; done) | (simp only [Act.put]; simp [Act.eval]; done)))
      | ((with_reducible refine wpList_load_oneG ?qqg1341 3 ?qqx1341 ?qqo1341 w.heap.size 3 ?qqh1341 (.int .i64 z3) Tryz.rObj_int (O5.out.cell 3 _ E3.out) ?_); (case qqg1341 => rfl); (case qqo1341 => rfl); (case qqh1341 => first | (simp; done) | (simp [Act.eval]; done) | (simp only [Act.put]; simp; done) | (simp only [Act.put]; simp [Act.eval]; done)))
      | ((with_reducible refine wpList_load_oneG ?qqg1342 3 ?qqx1342 ?qqo1342 w.heap.size 4 ?qqh1342 (.int .i64 z4) Tryz.rObj_int (O5.out.cell 4 _ E4.out) ?_); (case qqg1342 => rfl); (case qqo1342 => rfl); (case qqh1342 => first | (simp; done) | (simp [Act.eval]; done) | (simp only [Act.put]; simp; done) | (simp only [Act.put]; simp [Act.eval]; done)))
      | ((with_reducible refine wpList_load_oneG ?qqg1343 4 ?qqx1343 ?qqo1343 w.heap.size 5 ?qqh1343 (.bool z5) Tryz.rObj_bool (O5.out.cell 5 _ E5.out) ?_); (case qqg1343 => rfl); (case qqo1343 => rfl); (case qqh1343 => first | (simp; done) | (simp [Act.eval]; done) | (simp only [Act.put]; simp; done) | (simp only [Act.put]; simp [Act.eval]; done)))
      | ((with_reducible refine wpList_load_oneG ?qqg1344 28 ?qqx1344 ?qqo1344 w.heap.size 6 ?qqh1344 ((.slice a6 n6 cp6)) Tryz.rObj_Lstring (O5.out.cell 6 _ E6.out) ?_); (case qqg1344 => rfl); (case qqo1344 => rfl); (case qqh1344 => first | (simp; done) | (simp [Act.eval]; done) | (simp only [Act.put]; simp; done) | (simp only [Act.put]; simp [Act.eval]; done)))
      | ((with_reducible refine wpList_load_rowG ?qqg1345 31 ?qqx1345 ?qqo1345 w.heap.size 7 ?qqh1345 y7 Tryz.rObj_impl_Value YZ7.out (O5.out.range 7 _ E7.out) ?_); (case qqg1345 => rfl); (case qqo1345 => rfl); (case qqh1345 => first | (simp; done) | (simp [Act.eval]; done) | (simp only [Act.put]; simp; done) | (simp only [Act.put]; simp [Act.eval]; done)))
      | ((with_reducible refine wpList_load_rowG ?qqg1346 31 ?qqx1346 ?qqo1346 w.heap.size 12 ?qqh1346 y8 Tryz.rObj_impl_Value YZ8.out (O5.out.range 12 _ E8.out) ?_); (case qqg1346 => rfl); (case qqo1346 => rfl); (case qqh1346 => first | (simp; done) | (simp [Act.eval]; done) | (simp only [Act.put]; simp; done) | (simp only [Act.put]; simp [Act.eval]; done)))
      )
    refine (HK2.out _ B5.out).mono ?_
    rintro e w2 ⟨rfl, hb2⟩
    have O2 := uhide (O5.out.below hb2)
    have B2 : Hid (Below w.heap.size w w2) := B5.out.trans (hb2.mono B5.out.size)
    clear hb2
    go_wp2
    go_ret
    exact ⟨ret_bool (by simp), B2.out⟩
  | true =>
  cases k6 with
  | false =>
    go_enter Tryz.func170, Tryz.ntmps170
    go_wp2_with (first
      | ((with_reducible refine wpList_load_oneG ?qqg1361 3 ?qqx1361 ?qqo1361 w.heap.size 0 ?qqh1361 (.int .i64 z0) Tryz.rObj_int (OA.out.cell 0 _ E0.out) ?_); (case qqg1361 => rfl); (case qqo1361 => rfl); (case qqh1361 => first | (simp; done) | (simp [Act.eval]; done) | (simp only [Act.put]; simp; done) | (simp only [Act.put]; simp [Act.eval]; done)))
      | ((with_reducible refine wpList_load_oneG ?qqg1362 9 ?qqx1362 ?qqo1362 w.heap.size 1 ?qqh1362 (.string z1) Tryz.rObj_string (OA.out.cell 1 _ E1.out) ?_); (case qqg1362 => rfl); (case qqo1362 => rfl); (case qqh1362 => first | (simp; done) | (simp [Act.eval]; done) | (simp only [Act.put]; simp; done) | (simp only [Act.put]; simp [Act.eval]; done)))
      | ((with_reducible refine wpList_load_oneG ?qqg1363 3 ?qqx1363 ?qqo1363 w.heap.size 2 ?qqh1363 (.int .i64 z2) Tryz.rObj_int (OA.out.cell 2 _ E2.out) ?_); (case qqg1363 => rfl); (case qqo1363 => rfl); (case qqh1363 => first | (simp; done) | (simp [Act.eval]; done) | (simp only [Act.put]; simp; done) | (simp only [Act.put]; simp [Act.eval]; done)))
      | ((with_reducible refine wpList_load_oneG ?qqg1364 3 ?qqx1364 ?qqo1364 w.heap.size 3 ?qqh1364 (.int .i64 z3) Tryz.rObj_int (OA.out.cell 3 _ E3.out) ?_); (case qqg1364 => rfl); (case qqo1364 => rfl); (case qqh1364 => first | (simp; done) | (simp [Act.eval]; done) | (simp only [Act.put]; simp; done) | (simp only [Act.put]; simp [Act.eval]; done)))
      | ((with_reducible refine wpList_load_oneG ?qqg1365 3 ?qqx1365 ?qqo1365 w.heap.size 4 ?qqh1365 (.int .i64 z4) Tryz.rObj_int (OA.out.cell 4 _ E4.out) ?_); (case qqg1365 => rfl); (case qqo1365 => rfl); (case qqh1365 => first | (simp; done) | (simp [Act.eval]; done) | (simp only [Act.put]; simp; done) | (simp only [Act.put]; simp [Act.eval]; done)))
      | ((with_reducible refine wpList_load_oneG ?qqg1366 4 ?qqx1366 ?qqo1366 w.heap.size 5 ?qqh1366 (.bool z5) Tryz.rObj_bool (OA.out.cell 5 _ E5.out) ?_); (case qqg1366 => rfl); (case qqo1366 => rfl); (case qqh1366 => first | (simp; done) | (simp [Act.eval]; done) | (simp only [Act.put]; simp; done) | (simp only [Act.put]; simp [Act.eval]; done)))
      | ((with_reducible refine wpList_load_oneG ?qqg1367 28 ?qqx1367 ?qqo1367 w.heap.size 6 ?qqh1367 ((.slice a6 n6 cp6)) Tryz.rObj_Lstring (OA.out.cell 6 _ E6.out) ?_); (case qqg1367 => rfl); (case qqo1367 => rfl); (case qqh1367 => first | (simp; done) | (simp [Act.eval]; done) | (simp only [Act.put]; simp; done) | (simp only [Act.put]; simp [Act.eval]; done)))
      | ((with_reducible refine wpList_load_rowG ?qqg1368 31 ?qqx1368 ?qqo1368 w.heap.size 7 ?qqh1368 y7 Tryz.rObj_impl_Value YZ7.out (OA.out.range 7 _ E7.out) ?_); (case qqg1368 => rfl); (case qqo1368 => rfl); (case qqh1368 => first | (simp; done) | (simp [Act.eval]; done) | (simp only [Act.put]; simp; done) | (simp only [Act.put]; simp [Act.eval]; done)))
      | ((with_reducible refine wpList_load_rowG ?qqg1369 31 ?qqx1369 ?qqo1369 w.heap.size 12 ?qqh1369 y8 Tryz.rObj_impl_Value YZ8.out (OA.out.range 12 _ E8.out) ?_); (case qqg1369 => rfl); (case qqo1369 => rfl); (case qqh1369 => first | (simp; done) | (simp [Act.eval]; done) | (simp only [Act.put]; simp; done) | (simp only [Act.put]; simp [Act.eval]; done)))
      )
    refine (HK0.out _ BA.out).mono ?_
    rintro e w0 ⟨rfl, hb0⟩
    have O0 := uhide (OA.out.below hb0)
    have B0 : Hid (Below w.heap.size w w0) := BA.out.trans (hb0.mono BA.out.size)
    clear hb0
    go_wp2_with (first
      | ((with_reducible refine wpList_load_oneG ?qqg1377 3 ?qqx1377 ?qqo1377 w.heap.size 0 ?qqh1377 (.int .i64 z0) Tryz.rObj_int (O0.out.cell 0 _ E0.out) ?_); (case qqg1377 => rfl); (case qqo1377 => rfl); (case qqh1377 => first | (simp; done) | (simp [Act.eval]; done) | (simp only [Act.put]; simp; done) | (simp only [Act.put]; simp [Act.eval]; done)))
      | ((with_reducible refine wpList_load_oneG ?qqg1378 9 ?qqx1378 ?qqo1378 w.heap.size 1 ?qqh1378 (.string z1) Tryz.rObj_string (O0.out.cell 1 _ E1.out) ?_); (case qqg1378 => rfl); (case qqo1378 => rfl); (case qqh1378 => first | (simp; done) | (simp [Act.eval]; done) | (simp only [Act.put]; simp; done) | (simp only [Act.put]; simp [Act.eval]; done)))
      | ((with_reducible refine wpList_load_oneG ?qqg1379 3 ?qqx1379 ?qqo1379 w.heap.size 2 ?qqh1379 (.int .i64 z2) Tryz.rObj_int (O0.out.cell 2 _ E2.out) ?_); (case qqg1379 => rfl); (case qqo1379 => rfl); (case qqh1379 => first | (simp; done) | (simp [Act.eval]; done) | (simp only [Act.put]; simp; done) | (simp only [Act.put]; simp [Act.eval]; done)))
      | ((with_reducible refine wpList_load_oneG ?qqg1380 3 ?qqx1380 ?qqo1380 w.heap.size 3 ?qqh1380 (.int .i64 z3) Tryz.rObj_int (O0.out.cell 3 _ E3.out) ?_); (case qqg1380 => rfl); (case qqo1380 => rfl); (case qqh1380 => first | (simp; done) | (simp [Act.eval]; done) | (simp only [Act.put]; simp; done) | (simp only [Act.put]; simp [Act.eval]; done)))
      | ((with_reducible refine wpList_load_oneG ?qqg1381 3 ?qqx1381 ?qqo1381 w.heap.size 4 ?qqh1381 (.int .i64 z4) Tryz.rObj_int (O0.out.cell 4 _ E4.out) ?_); (case qqg1381 => rfl); (case qqo1381 => rfl); (case qqh1381 => first | (simp; done) | (simp [Act.eval]; done) | (simp only [Act.put]; simp; done) | (simp only [Act.put]; simp [Act.eval]; done)))
      | ((with_reducible refine wpList_load_oneG ?qqg1382 4 ?qqx1382 ?qqo1382 w.heap.size 5 ?qqh1382 (.bool z5) Tryz.rObj_bool (O0.out.cell 5 _ E5.out) ?_); (case qqg1382 => rfl); (case qqo1382 => rfl); (case qqh1382 => first | (simp; done) | (simp [Act.eval]; done) | (simp only [Act.put]; simp; done) | (simp only [Act.put]; simp [Act.eval]; done)))
      | ((with_reducible refine wpList_load_oneG ?qqg1383 28 ?qqx1383 ?qqo1383 w.heap.size 6 ?qqh1383 ((.slice a6 n6 cp6)) Tryz.rObj_Lstring (O0.out.cell 6 _ E6.out) ?_); (case qqg1383 => rfl); (case qqo1383 => rfl); (case qqh1383 => first | (simp; done) | (simp [Act.eval]; done) | (simp only [Act.put]; simp; done) | (simp only [Act.put]; simp [Act.eval]; done)))
      | ((with_reducible refine wpList_load_rowG ?qqg1384 31 ?qqx1384 ?qqo1384 w.heap.size 7 ?qqh1384 y7 Tryz.rObj_impl_Value YZ7.out (O0.out.range 7 _ E7.out) ?_); (case qqg1384 => rfl); (case qqo1384 => rfl); (case qqh1384 => first | (simp; done) | (simp [Act.eval]; done) | (simp only [Act.put]; simp; done) | (simp only [Act.put]; simp [Act.eval]; done)))
      | ((with_reducible refine wpList_load_rowG ?qqg1385 31 ?qqx1385 ?qqo1385 w.heap.size 12 ?qqh1385 y8 Tryz.rObj_impl_Value YZ8.out (O0.out.range 12 _ E8.out) ?_); (case qqg1385 => rfl); (case qqo1385 => rfl); (case qqh1385 => first | (simp; done) | (simp [Act.eval]; done) | (simp only [Act.put]; simp; done) | (simp only [Act.put]; simp [Act.eval]; done)))
      )
    refine (HK1.out _ B0.out).mono ?_
    rintro e w1 ⟨rfl, hb1⟩
    have O1 := uhide (O0.out.below hb1)
    have B1 : Hid (Below w.heap.size w w1) := B0.out.trans (hb1.mono B0.out.size)
    clear hb1
    go_wp2_with (first
      | ((with_reducible refine wpList_load_oneG ?qqg1393 3 ?qqx1393 ?qqo1393 w.heap.size 0 ?qqh1393 (.int .i64 z0) Tryz.rObj_int (O1.out.cell 0 _ E0.out) ?_); (case qqg1393 => rfl); (case qqo1393 => rfl); (case qqh1393 => first | (simp; done) | (simp [Act.eval]; done) | (simp only [Act.put]; simp; done) | (simp only [Act.put]; simp [Act.eval]; done)))
      | ((with_reducible refine wpList_load_oneG ?qqg1394 9 ?qqx1394 ?qqo1394 w.heap.size 1 ?qqh1394 (.string z1) Tryz.rObj_string (O1.out.cell 1 _ E1.out) ?_); (case qqg1394 => rfl); (case qqo1394 => rfl); (case qqh1394 => first | (simp; done) | (simp [Act.eval]; done) | (simp only [Act.put]; simp; done) | (simp only [Act.put]; simp [Act.eval]; done)))
      | ((with_reducible refine wpList_load_oneG ?qqg1395 3 ?qqx1395 ?qqo1395 w.heap.size 2 ?qqh1395 (.int .i64 z2) Tryz.rObj_int (O1.out.cell 2 _ E2.out) ?_); (case qqg1395 => rfl); (case qqo1395 => rfl); (case qqh1395 => first | (simp; done) | (simp [Act.eval]; done) | (simp only [Act.put]; simp; done) | (simp only [Act.put]; simp [Act.eval]; done)))
      | ((with_reducible refine wpList_load_oneG ?qqg1396 3 ?qqx1396 ?qqo1396 w.heap.size 3 ?qqh1396 (.int .i64 z3) Tryz.rObj_int (O1.out.cell 3 _ E3.out) ?_); (case qqg1396 => rfl); (case qqo1396 => rfl); (case qqh1396 => first | (simp; done) | (simp [Act.eval]; done) | (simp only [Act.put]; simp; done) | (simp only [Act.put]; simp [Act.eval]; done)))
      | ((with_reducible refine wpList_load_oneG ?qqg1397 3 ?qqx1397 ?qqo1397 w.heap.size 4 ?qqh1397 (.int .i64 z4) Tryz.rObj_int (O1.out.cell 4 _ E4.out) ?_); (case qqg1397 => rfl); (case qqo1397 => rfl); (case qqh1397 => first | (simp; done) | (simp [Act.eval]; done) | (simp only [Act.put]; simp; done) | (simp only [Act.put]; simp [Act.eval]; done)))
      | ((with_reducible refine wpList_load_oneG ?qqg1398 4 ?qqx1398 ?qqo1398 w.heap.size 5 ?qqh1398 (.bool z5) Tryz.rObj_bool (O1.out.cell 5 _ E5.out) ?_); (case qqg1398 => rfl); (case qqo1398 => rfl); (case qqh1398 => first | (simp; done) | (simp [Act.eval]; done) | (simp only [Act.put]; simp; done) | (simp only [Act.put]; simp [Act.eval]; done)))
      | ((with_reducible refine wpList_load_oneG ?qqg1399 28 ?qqx1399 ?qqo1399 w.heap.size 6 ?qqh1399 ((.slice a6 n6 cp6)) Tryz.rObj_Lstring (O1.out.cell 6 _ E6.out) ?_); (case qqg1399 => rfl); (case qqo1399 => rfl); (case qqh1399 => first | (simp; done) | (simp [Act.eval]; done) | (simp only [Act.put]; simp; done) | (simp only [Act.put]; simp [Act.eval]; done)))
      | ((with_reducible refine wpList_load_rowG ?qqg1400 31 ?qqx1400 ?qqo1400 w.heap.size 7 ?qqh1400 y7 Tryz.rObj_impl_Value YZ7.out (O1.out.range 7 _ E7.out) ?_); (case qqg1400 => rfl); (case qqo1400 => rfl); (case qqh1400 => first | (simp; done) | (simp [Act.eval]; done) | (simp only [Act.put]; simp; done) | (simp only [Act.put]; simp [Act.eval]; done)))
      | ((with_reducible refine wpList_load_rowG ?qqg1401 31 ?qqx1401 ?qqo1401 w.heap.size 12 ?qqh1401 y8 Tryz.rObj_impl_Value YZ8.out (O1.out.range 12 _ E8.out) ?_); (case qqg1401 => rfl); (case qqo1401 => rfl); (case qqh1401 => first | (simp; done) | (simp [Act.eval]; done) | (simp only [Act.put]; simp; done) | (simp only [Act.put]; simp [Act.eval]; done)))
      )
    refine (HK3.out _ B1.out).mono ?_
    rintro e w3 ⟨rfl, hb3⟩
    have O3 := uhide (O1.out.below hb3)
    have B3 : Hid (Below w.heap.size w w3) := B1.out.trans (hb3.mono B1.out.size)
    clear hb3
    go_wp2_with (first
      | ((with_reducible refine wpList_load_oneG ?qqg1409 3 ?qqx1409 ?qqo1409 w.heap.size 0 ?qqh1409 (.int .i64 z0) Tryz.rObj_int (O3.out.cell 0 _ E0.out) ?_); (case qqg1409 => rfl); (case qqo1409 => rfl); (case qqh1409 => first | (simp; done) | (simp [Act.eval]; done) | (simp only [Act.put]; simp; done) | (simp only [Act.put]; simp [Act.eval]; done)))
      | ((with_reducible refine wpList_load_oneG ?qqg1410 9 ?qqx1410 ?qqo1410 w.heap.size 1 ?qqh1410 (.string z1) Tryz.rObj_string (O3.out.cell 1 _ E1.out) ?_); (case qqg1410 => rfl); (case qqo1410 => rfl); (case qqh1410 => first | (simp; done) | (simp [Act.eval]; done) | (simp only [Act.put]; simp; done) | (simp only [Act.put]; simp [Act.eval]; done)))
      | ((with_reducible refine wpList_load_oneG ?qqg1411 3 ?qqx1411 ?qqo1411 w.heap.size 2 ?qqh1411 (.int .i64 z2) Tryz.rObj_int (O3.out.cell 2 _ E2.out) ?_); (case qqg1411 => rfl); (case qqo1411 => rfl); (case qqh1411 => first | (simp; done) | (simp [Act.eval]; done) | (simp only [Act.put]; simp; done) | (simp only [Act.put]; simp [Act.eval]; done)))
      | ((with_reducible refine wpList_load_oneG ?qqg1412 3 ?qqx1412 ?qqo1412 w.heap.size 3 ?qqh1412 (.int .i64 z3) Tryz.rObj_int (O3.out.cell 3 _ E3.out) ?_); (case qqg1412 => rfl); (case qqo1412 => rfl); (case qqh1412 => first | (simp; done) | (simp [Act.eval]; done) | (simp only [Act.put]; simp; done) | (simp only [Act.put]; simp [Act.eval]; done)))
      | ((with_reducible refine wpList_load_oneG ?qqg1413 3 ?qqx1413 ?qqo1413 w.heap.size 4 ?qqh1413 (.int .i64 z4) Tryz.rObj_int (O3.out.cell 4 _ E4.out) ?_); (case qqg1413 => rfl); (case qqo1413 => rfl); (case qqh1413 => first | (simp; done) | (simp [Act.eval]; done) | (simp only [Act.put]; simp; done) | (simp only [Act.put]; simp [Act.eval]; done)))
      | ((with_reducible refine wpList_load_oneG ?qqg1414 4 ?qqx1414 ?qqo1414 w.heap.size 5 ?qqh1414 (.bool z5) Tryz.rObj_bool (O3.out.cell 5 _ E5.out) ?_); (case qqg1414 => rfl); (case qqo1414 => rfl); (case qqh1414 => first | (simp; done) | (simp [Act.eval]; done) | (simp only [Act.put]; simp; done) | (simp only [Act.put]; simp [Act.eval]; done)))
      | ((with_reducible refine wpList_load_oneG ?qqg1415 28 ?qqx1415 ?qqo1415 w.heap.size 6 ?qqh1415 ((.slice a6 n6 cp6)) Tryz.rObj_Lstring (O3.out.cell 6 _ E6.out) ?_); (case qqg1415 => rfl); (case qqo1415 => rfl); (case qqh1415 => first | (simp; done) | (simp [Act.eval]; done) | (simp only [Act.put]; simp; done) | (simp only [Act.put]; simp [Act.eval]; done)))
      | ((with_reducible refine wpList_load_rowG ?qqg1416 31 ?qqx1416 ?qqo1416 w.heap.size 7 ?qqh1416 y7 Tryz.rObj_impl_Value YZ7.out (O3.out.range 7 _ E7.out) ?_); (case qqg1416 => rfl); (case qqo1416 => rfl); (case qqh1416 => first | (simp; done) | (simp [Act.eval]; done) | (simp only [Act.put]; simp; done) | (simp only [Act.put]; simp [Act.eval]; done)))
      | ((with_reducible refine wpList_load_rowG ?qqg1417 31 ?qqx1417 ?qqo1417 w.heap.size 12 ?qqh1417 y8 Tryz.rObj_impl_Value YZ8.out (O3.out.range 12 _ E8.out) ?_); (case qqg1417 => rfl); (case qqo1417 => rfl); (case qqh1417 => first | (simp; done) | (simp [Act.eval]; done) | (simp only [Act.put]; simp; done) | (simp only [Act.put]; simp [Act.eval]; done)))
      )
    refine (HK4.out _ B3.out).mono ?_
    rintro e w4 ⟨rfl, hb4⟩
    have O4 := uhide (O3.out.below hb4)
    have B4 : Hid (Below w.heap.size w w4) := B3.out.trans (hb4.mono B3.out.size)
    clear hb4
    go_wp2_with (first
      | ((with_reducible refine wpList_load_oneG ?qqg1425 3 ?qqx1425 ?qqo1425 w.heap.size 0 ?qqh1425 (.int .i64 z0) Tryz.rObj_int (O4.out.cell 0 _ E0.out) ?_); (case qqg1425 => rfl); (case qqo1425 => rfl); (case qqh1425 => first | (simp; done) | (simp [Act.eval]; done) | (simp only [Act.put]; simp; done) | (simp only [Act.put]; simp [Act.eval]; done)))
      | ((with_reducible refine wpList_load_oneG ?qqg1426 9 ?qqx1426 ?qqo1426 w.heap.size 1 ?qqh1426 (.string z1) Tryz.rObj_string (O4.out.cell 1 _ E1.out) ?_); (case qqg1426 => rfl); (case qqo1426 => rfl); (case qqh1426 => first | (simp; done) | (simp [Act.eval]; done) | (simp only [Act.put]; simp; done) | (simp only [Act.put]; simp [Act.eval]; done)))
      | ((with_reducible refine wpList_load_oneG ?qqg1427 3 ?qqx1427 ?qqo1427 w.heap.size 2 ?qqh1427 (.int .i64 z2) Tryz.rObj_int (O4.out.cell 2 _ E2.out) ?_); (case qqg1427 => rfl); (case qqo1427 => rfl); (case qqh1427 => first | (simp; done) | (simp [Act.eval]; done) | (simp only [Act.put]; simp; done) | (simp only [Act.put]; simp [Act.eval]; done)))
      | ((with_reducible refine wpList_load_oneG ?qqg1428 3 ?qqx1428 ?qqo1428 w.heap.size 3 ?qqh1428 (.int .i64 z3) Tryz.rObj_int (O4.out.cell 3 _ E3.out) ?_); (case qqg1428 => rfl); (case qqo1428 => rfl); (case qqh1428 => first | (simp; done) | (simp [Act.eval]; done) | (simp only [Act.put]; simp; done) | (simp only [Act.put]; simp [Act.eval]; done)))
      | ((with_reducible refine wpList_load_oneG ?qqg1429 3 ?qqx1429 ?qqo1429 w.heap.size 4 ?qqh1429 (.int .i64 z4) Tryz.rObj_int (O4.out.cell 4 _ E4.out) ?_); (case qqg1429 => rfl); (case qqo1429 => rfl); (case qqh1429 => first | (simp; done) | (simp [Act.eval]; done) | (simp only [Act.put]; simp; done) | (simp only [Act.put]; simp [Act.eval]; done)))
      | ((with_reducible refine wpList_load_oneG ?qqg1430 4 ?qqx1430 ?qqo1430 w.heap.size 5 ?qqh1430 (.bool z5) Tryz.rObj_bool (O4.out.cell 5 _ E5.out) ?_); (case qqg1430 => rfl); (case qqo1430 => rfl); (case qqh1430 => first | (simp; done) | (simp [Act.eval]; done) | (simp only [Act.put]; simp; done) | (simp only [Act.put]; simp [Act.eval]; done)))
      | ((with_reducible refine wpList_load_oneG ?qqg1431 28 ?qqx1431 ?qqo1431 w.heap.size 6 ?qqh1431 ((.slice a6 n6 cp6)) Tryz.rObj_Lstring (O4.out.cell 6 _ E6.out) ?_); (case qqg1431 => rfl); (case qqo1431 => rfl); (case qqh1431 => first | (simp; done) | (simp [Act.eval]; done) | (simp only [Act.put]; simp; done) | (simp only [Act.put]; simp [Act.eval]; done)))
      | ((with_reducible refine wpList_load_rowG ?qqg1432 31 ?qqx1432 ?qqo1432 w.heap.size 7 ?qqh1432 y7 Tryz.rObj_impl_Value YZ7.out (O4.out.range 7 _ E7.out) ?_); (case qqg1432 => rfl); (case qqo1432 => rfl); (case qqh1432 => first | (simp; done) | (simp [Act.eval]; done) | (simp only [Act.put]; simp; done) | (simp only [Act.put]; simp [Act.eval]; done)))
      | ((with_reducible refine wpList_load_rowG ?qqg1433 31 ?qqx1433 ?qqo1433 w.heap.size 12 ?qqh1433 y8 Tryz.rObj_impl_Value YZ8.out (O4.out.range 12 _ E8.out) ?_); (case qqg1433 => rfl); (case qqo1433 => rfl); (case qqh1433 => first | (simp; done) | (simp [Act.eval]; done) | (simp only [Act.put]; simp; done) | (simp only [Act.put]; simp [Act.eval]; done)))
      )
    refine (HK5.out _ B4.out).mono ?_
    rintro e w5 ⟨rfl, hb5⟩
    have O5 := uhide (O4.out.below hb5)
    have B5 : Hid (Below w.heap.size w w5) := B4.out.trans (hb5.mono B4.out.size)
    clear hb5
    go_wp2_with (first
      | ((with_reducible refine wpList_load_oneG ?qqg1441 3 ?qqx1441 ?qqo1441 w.heap.size 0 ?qqh1441 (.int .i64 z0) Tryz.rObj_int (O5.out.cell 0 _ E0.out) ?_); (case qqg1441 => rfl); (case qqo1441 => rfl); (case qqh1441 => first | (simp; done) | (simp [Act.eval]; done) | (simp only [Act.put]; simp; done) | (simp only [Act.put]; simp [Act.eval]; done)))
      | ((with_reducible refine wpList_load_oneG ?qqg1442 9 ?qqx1442 ?qqo1442 w.heap.size 1 ?qqh1442 (.string z1) Tryz.rObj_string (O5.out.cell 1 _ E1.out) ?_); (case qqg1442 => rfl); (case qqo1442 => rfl); (case qqh1442 => first | (simp; done) | (simp [Act.eval]; done) | (simp only [Act.put]; simp; done) | (simp only [Act.put]; simp [Act.eval]; done)))
      | ((with_reducible refine wpList_load_oneG ?qqg1443 3 ?qqx1443 ?qqo1443 w.heap.size 2 ?qqh1443 (.int .i64 z2) Tryz.rObj_int (O5.out.cell 2 _ E2.out) ?_); (case qqg1443 => rfl); (case qqo1443 => rfl); (case qqh1443 => first | (simp; done) | (simp [Act.eval]; done) | (simp only [Act.put]; simp; done) | (simp only [Act.put]; simp [Act.eval]; done)))
      | ((with_reducible refine wpList_load_oneG ?qqg1444 3 ?qqx1444 ?qqo1444 w.heap.size 3 ?qqh1444 (.int .i64 z3) Tryz.rObj_int (O5.out.cell 3 _ E3.out) ?_); (case qqg1444 => rfl); (case qqo1444 => rfl); (case qqh1444 => first | (simp; done) | (simp [Act.eval]; done) | (simp only [Act.put]; simp; done) | (simp only [Act.put]; simp [Act.eval]; done)))
      | ((with_reducible refine wpList_load_oneG ?qqg1445 3 ?qqx1445 ?qqo1445 w.heap.size 4 ?qqh1445 (.int .i64 z4) Tryz.rObj_int (O5.out.cell 4 _ E4.out) ?_); (case qqg1445 => rfl); (case qqo1445 => rfl); (case qqh1445 => first | (simp; done) | (simp [Act.eval]; done) | (simp only [Act.put]; simp; done) | (simp only [Act.put]; simp [Act.eval]; done)))
      | ((with_reducible refine wpList_load_oneG ?qqg1446 4 ?qqx1446 ?qqo1446 w.heap.size 5 ?qqh1446 (.bool z5) Tryz.rObj_bool (O5.out.cell 5 _ E5.out) ?_); (case qqg1446 => rfl); (case qqo1446 => rfl); (case qqh1446 => first | (simp; done) | (simp [Act.eval]; done) | (simp only [Act.put]; simp; done) | (simp only [Act.put]; simp [Act.eval]; done)))
      | ((with_reducible refine wpList_load_oneG ?qqg1447 28 ?qqx1447 ?qqo1447 w.heap.size 6 ?qqh1447 ((.slice a6 n6 cp6)) Tryz.rObj_Lstring (O5.out.cell 6 _ E6.out) ?_); (case qqg1447 => rfl); (case qqo1447 => rfl); (case qqh1447 => first | (simp; done) | (simp [Act.eval]; done) | (simp only [Act.put]; simp; done) | (simp only [Act.put]; simp [Act.eval]; done)))
      | ((with_reducible refine wpList_load_rowG ?qqg1448 31 ?qqx1448 ?qqo1448 w.heap.size 7 ?qqh1448 y7 Tryz.rObj_impl_Value YZ7.out (O5.out.range 7 _ E7.out) ?_); (case qqg1448 => rfl); (case qqo1448 => rfl); (case qqh1448 => first | (simp; done) | (simp [Act.eval]; done) | (simp only [Act.put]; simp; done) | (simp only [Act.put]; simp [Act.eval]; done)))
      | ((with_reducible refine wpList_load_rowG ?qqg1449 31 ?qqx1449 ?qqo1449 w.heap.size 12 ?qqh1449 y8 Tryz.rObj_impl_Value YZ8.out (O5.out.range 12 _ E8.out) ?_); (case qqg1449 => rfl); (case qqo1449 => rfl); (case qqh1449 => first | (simp; done) | (simp [Act.eval]; done) | (simp only [Act.put]; simp; done) | (simp only [Act.put]; simp [Act.eval]; done)))
      )
    refine (HK2.out _ B5.out).mono ?_
    rintro e w2 ⟨rfl, hb2⟩
    have O2 := uhide (O5.out.below hb2)
    have B2 : Hid (Below w.heap.size w w2) := B5.out.trans (hb2.mono B5.out.size)
    clear hb2
    go_wp2_with (first
      | ((with_reducible refine wpList_load_oneG ?qqg1457 3 ?qqx1457 ?qqo1457 w.heap.size 0 ?qqh1457 (.int .i64 z0) Tryz.rObj_int (O2.out.cell 0 _ E0.out) ?_); (case qqg1457 => rfl); (case qqo1457 => rfl); (case qqh1457 => first | (simp; done) | (simp [Act.eval]; done) | (simp only [Act.put]; simp; done) | (simp only [Act.put]; simp [Act.eval]; done)))
      | ((with_reducible refine wpList_load_oneG ?qqg1458 9 ?qqx1458 ?qqo1458 w.heap.size 1 ?qqh1458 (.string z1) Tryz.rObj_string (O2.out.cell 1 _ E1.out) ?_); (case qqg1458 => rfl); (case qqo1458 => rfl); (case qqh1458 => first | (simp; done) | (simp [Act.eval]; done) | (simp only [Act.put]; simp; done) | (simp only [Act.put]; simp [Act.eval]; done)))
      | ((with_reducible refine wpList_load_oneG ?qqg1459 3 ?qqx1459 ?qqo1459 w.heap.size 2 ?qqh1459 (.int .i64 z2) Tryz.rObj_int (O2.out.cell 2 _ E2.out) ?_); (case qqg1459 => rfl); (case qqo1459 => rfl); (case qqh1459 => first | (simp; done) | (simp [Act.eval]; done) | (simp only [Act.put]; simp; done) | (simp only [Act.put]; simp [Act.eval]; done)))
      | ((with_reducible refine wpList_load_oneG ?qqg1460 3 ?qqx1460 ?qqo1460 w.heap.size 3 ?qqh1460 (.int .i64 z3) Tryz.rObj_int (O2.out.cell 3 _ E3.out) ?_); (case qqg1460 => rfl); (case qqo1460 => rfl); (case qqh1460 => first | (simp; done) | (simp [Act.eval]; done) | (simp only [Act.put]; simp; done) | (simp only [Act.put]; simp [Act.eval]; done)))
      | ((with_reducible refine wpList_load_oneG ?qqg1461 3 ?qqx1461 ?qqo1461 w.heap.size 4 ?qqh1461 (.int .i64 z4) Tryz.rObj_int (O2.out.cell 4 _ E4.out) ?_); (case qqg1461 => rfl); (case qqo1461 => rfl); (case qqh1461 => first | (simp; done) | (simp [Act.eval]; done) | (simp only [Act.put]; simp; done) | (simp only [Act.put]; simp [Act.eval]; done)))
      | ((with_reducible refine wpList_load_oneG ?qqg1462 4 ?qqx1462 ?qqo1462 w.heap.size 5 ?qqh1462 (.bool z5) Tryz.rObj_bool (O2.out.cell 5 _ E5.out) ?_); (case qqg1462 => rfl); (case qqo1462 => rfl); (case qqh1462 => first | (simp; done) | (simp [Act.eval]; done) | (simp only [Act.put]; simp; done) | (simp only [Act.put]; simp [Act.eval]; done)))
      | ((with_reducible refine wpList_load_oneG ?qqg1463 28 ?qqx1463 ?qqo1463 w.heap.size 6 ?qqh1463 ((.slice a6 n6 cp6)) Tryz.rObj_Lstring (O2.out.cell 6 _ E6.out) ?_); (case qqg1463 => rfl); (case qqo1463 => rfl); (case qqh1463 => first | (simp; done) | (simp [Act.eval]; done) | (simp only [Act.put]; simp; done) | (simp only [Act.put]; simp [Act.eval]; done)))
      | ((with_reducible refine wpList_load_rowG ?qqg1464 31 ?qqx1464 ?qqo1464 w.heap.size 7 ?qqh1464 y7 Tryz.rObj_impl_Value YZ7.out (O2.out.range 7 _ E7.out) ?_); (case qqg1464 => rfl); (case qqo1464 => rfl); (case qqh1464 => first | (simp; done) | (simp [Act.eval]; done) | (simp only [Act.put]; simp; done) | (simp only [Act.put]; simp [Act.eval]; done)))
      | ((with_reducible refine wpList_load_rowG ?qqg1465 31 ?qqx1465 ?qqo1465 w.heap.size 12 ?qqh1465 y8 Tryz.rObj_impl_Value YZ8.out (O2.out.range 12 _ E8.out) ?_); (case qqg1465 => rfl); (case qqo1465 => rfl); (case qqh1465 => first | (simp; done) | (simp [Act.eval]; done) | (simp only [Act.put]; simp; done) | (simp only [Act.put]; simp [Act.eval]; done)))
      )
    refine (HK6.out _ B2.out).mono ?_
    rintro e w6 ⟨rfl, hb6⟩
    have O6 := uhide (O2.out.below hb6)
    have B6 : Hid (Below w.heap.size w w6) := B2.out.trans (hb6.mono B2.out.size)
    clear hb6
    go_wp2
    go_ret
    exact ⟨ret_bool (by simp), B6.out⟩
  | true =>
  cases k7 with
  | false =>
    go_enter Tryz.func170, Tryz.ntmps170
    go_wp2_with (first
      | ((with_reducible refine wpList_load_oneG ?qqg1480 3 ?qqx1480 ?qqo1480 w.heap.size 0 ?qqh1480 (.int .i64 z0) Tryz.rObj_int (OA.out.cell 0 _ E0.out) ?_); (case qqg1480 => rfl); (case qqo1480 => rfl); (case qqh1480 => first | (simp; done) | (simp [Act.eval]; done) | (simp only [Act.put]; simp; done) | (simp only [Act.put]; simp [Act.eval]; done)))
      | ((with_reducible refine wpList_load_oneG ?qqg1481 9 ?qqx1481 ?qqo1481 w.heap.size 1 ?qqh1481 (.string z1) Tryz.rObj_string (OA.out.cell 1 _ E1.out) ?_); (case qqg1481 => rfl); (case qqo1481 => rfl); (case qqh1481 => first | (simp; done) | (simp [Act.eval]; done) | (simp only [Act.put]; simp; done) | (simp only [Act.put]; simp [Act.eval]; done)))
      | ((with_reducible refine wpList_load_oneG ?qqg1482 3 ?qqx1482 ?qqo1482 w.heap.size 2 ?qqh1482 (.int .i64 z2) Tryz.rObj_int (OA.out.cell 2 _ E2.out) ?_); (case qqg1482 => rfl); (case qqo1482 => rfl); (case qqh1482 => first | (simp; done) | (simp [Act.eval]; done) | (simp only [Act.put]; simp; done) | (simp only [Act.put]; simp [Act.eval]; done)))
      | ((with_reducible refine wpList_load_oneG ?qqg1483 3 ?qqx1483 ?qqo1483 w.heap.size 3 ?qqh1483 (.int .i64 z3) Tryz.rObj_int (OA.out.cell 3 _ E3.out) ?_); (case qqg1483 => rfl); (case qqo1483 => rfl); (case qqh1483 => first | (simp; done) | (simp [Act.eval]; done) | (simp only [Act.put]; simp; done) | (simp only [Act.put]; simp [Act.eval]; done)))
      | ((with_reducible refine wpList_load_oneG ?qqg1484 3 ?qqx1484 ?qqo1484 w.heap.size 4 ?qqh1484 (.int .i64 z4) Tryz.rObj_int (OA.out.cell 4 _ E4.out) ?_); (case qqg1484 => rfl); (case qqo1484 => rfl); (case qqh1484 => first | (simp; done) | (simp [Act.eval]; done) | (simp only [Act.put]; simp; done) | (simp only [Act.put]; simp [Act.eval]; done)))
      | ((with_reducible refine wpList_load_oneG ?qqg1485 4 ?qqx1485 ?qqo1485 w.heap.size 5 ?qqh1485 (.bool z5) Tryz.rObj_bool (OA.out.cell 5 _ E5.out) ?_); (case qqg1485 => rfl); (case qqo1485 => rfl); (case qqh1485 => first | (simp; done) | (simp [Act.eval]; done) | (simp only [Act.put]; simp; done) | (simp only [Act.put]; simp [Act.eval]; done)))
      | ((with_reducible refine wpList_load_oneG ?qqg1486 28 ?qqx1486 ?qqo1486 w.heap.size 6 ?qqh1486 ((.slice a6 n6 cp6)) Tryz.rObj_Lstring (OA.out.cell 6 _ E6.out) ?_); (case qqg1486 => rfl); (case qqo1486 => rfl); (case qqh1486 => first | (simp; done) | (simp [Act.eval]; done) | (simp only [Act.put]; simp; done) | (simp only [Act.put]; simp [Act.eval]; done)))
      | ((with_reducible refine wpList_load_rowG ?qqg1487 31 ?qqx1487 ?qqo1487 w.heap.size 7 ?qqh1487 y7 Tryz.rObj_impl_Value YZ7.out (OA.out.range 7 _ E7.out) ?_); (case qqg1487 => rfl); (case qqo1487 => rfl); (case qqh1487 => first | (simp; done) | (simp [Act.eval]; done) | (simp only [Act.put]; simp; done) | (simp only [Act.put]; simp [Act.eval]; done)))
      | ((with_reducible refine wpList_load_rowG ?qqg1488 31 ?qqx1488 ?qqo1488 w.heap.size 12 ?qqh1488 y8 Tryz.rObj_impl_Value YZ8.out (OA.out.range 12 _ E8.out) ?_); (case qqg1488 => rfl); (case qqo1488 => rfl); (case qqh1488 => first | (simp; done) | (simp [Act.eval]; done) | (simp only [Act.put]; simp; done) | (simp only [Act.put]; simp [Act.eval]; done)))
      )
    refine (HK0.out _ BA.out).mono ?_
    rintro e w0 ⟨rfl, hb0⟩
    have O0 := uhide (OA.out.below hb0)
    have B0 : Hid (Below w.heap.size w w0) := BA.out.trans (hb0.mono BA.out.size)
    clear hb0
    go_wp2_with (first
      | ((with_reducible refine wpList_load_oneG ?qqg1496 3 ?qqx1496 ?qqo1496 w.heap.size 0 ?qqh1496 (.int .i64 z0) Tryz.rObj_int (O0.out.cell 0 _ E0.out) ?_); (case qqg1496 => rfl); (case qqo1496 => rfl); (case qqh1496 => first | (simp; done) | (simp [Act.eval]; done) | (simp only [Act.put]; simp; done) | (simp only [Act.put]; simp [Act.eval]; done)))
      | ((with_reducible refine wpList_load_oneG ?qqg1497 9 ?qqx1497 ?qqo1497 w.heap.size 1 ?qqh1497 (.string z1) Tryz.rObj_string (O0.out.cell 1 _ E1.out) ?_); (case qqg1497 => rfl); (case qqo1497 => rfl); (case qqh1497 => first | (simp; done) | (simp [Act.eval]; done) | (simp only [Act.put]; simp; done) | (simp only [Act.put]; simp [Act.eval]; done)))
      | ((with_reducible refine wpList_load_oneG ?qqg1498 3 ?qqx1498 ?qqo1498 w.heap.size 2 ?qqh1498 (.int .i64 z2) Tryz.rObj_int (O0.out.cell 2 _ E2.out) ?_); (case qqg1498 => rfl); (case qqo1498 => rfl); (case qqh1498 => first | (simp; done) | (simp [Act.eval]; done) | (simp only [Act.put]; simp; done) | (simp only [Act.put]; simp [Act.eval]; done)))
      | ((with_reducible refine wpList_load_oneG ?qqg1499 3 ?qqx1499 ?qqo1499 w.heap.size 3 ?qqh1499 (.int .i64 z3) Tryz.rObj_int (O0.out.cell 3 _ E3.out) ?_); (case qqg1499 => rfl); (case qqo1499 => rfl); (case qqh1499 => first | (simp; done) | (simp [Act.eval]; done) | (simp only [Act.put]; simp; done) | (simp only [Act.put]; simp [Act.eval]; done)))
      | ((with_reducible refine wpList_load_oneG ?qqg1500 3 ?qqx1500 ?qqo1500 w.heap.size 4 ?qqh1500 (.int .i64 z4) Tryz.rObj_int (O0.out.cell 4 _ E4.out) ?_); (case qqg1500 => rfl); (case qqo1500 => rfl); (case qqh1500 => first | (simp; done) | (simp [Act.eval]; done) | (simp only [Act.put]; simp; done) | (simp only [Act.put]; simp [Act.eval]; done)))
      | ((with_reducible refine wpList_load_oneG ?qqg1501 4 ?qqx1501 ?qqo1501 w.heap.size 5 ?qqh1501 (.bool z5) Tryz.rObj_bool (O0.out.cell 5 _ E5.out) ?_); (case qqg1501 => rfl); (case qqo1501 => rfl); (case qqh1501 => first | (simp; done) | (simp [Act.eval]; done) | (simp only [Act.put]; simp; done) | (simp only [Act.put]; simp [Act.eval]; done)))
      | ((with_reducible refine wpList_load_oneG ?qqg1502 28 ?qqx1502 ?qqo1502 w.heap.size 6 ?qqh1502 ((.slice a6 n6 cp6)) Tryz.rObj_Lstring (O0.out.cell 6 _ E6.out) ?_); (case qqg1502 => rfl); (case qqo1502 => rfl); (case qqh1502 => first | (simp; done) | (simp [Act.eval]; done) | (simp only [Act.put]; simp; done) | (simp only [Act.put]; simp [Act.eval]; done)))
      | ((with_reducible refine wpList_load_rowG ?qqg1503 31 ?qqx1503 ?qqo1503 w.heap.size 7 ?qqh1503 y7 Tryz.rObj_impl_Value YZ7.out (O0.out.range 7 _ E7.out) ?_); (case qqg1503 => rfl); (case qqo1503 => rfl); (case qqh1503 => first | (simp; done) | (simp [Act.eval]; done) | (simp only [Act.put]; simp; done) | (simp only [Act.put]; simp [Act.eval]; done)))
      | ((with_reducible refine wpList_load_rowG ?qqg1504 31 ?qqx1504 ?qqo1504 w.heap.size 12 ?qqh1504 y8 Tryz.rObj_impl_Value YZ8.out (O0.out.range 12 _ E8.out) ?_); (case qqg1504 => rfl); (case qqo1504 => rfl); (case qqh1504 => first | (simp; done) | (simp [Act.eval]; done) | (simp only [Act.put]; simp; done) | (simp only [Act.put]; simp [Act.eval]; done)))
      )
    refine (HK1.out _ B0.out).mono ?_
    rintro e w1 ⟨rfl, hb1⟩
    have O1 := uhide (O0.out.below hb1)
    have B1 : Hid (Below w.heap.size w w1) := B0.out.trans (hb1.mono B0.out.size)
    clear hb1
    go_wp2_with (first
      | ((with_reducible refine wpList_load_oneG ?qqg1512 3 ?qqx1512 ?qqo1512 w.heap.size 0 ?qqh1512 (.int .i64 z0) Tryz.rObj_int (O1.out.cell 0 _ E0.out) ?_); (case qqg1512 => rfl); (case qqo1512 => rfl); (case qqh1512 => first | (simp; done) | (simp [Act.eval]; done) | (simp only [Act.put]; simp; done) | (simp only [Act.put]; simp [Act.eval]; done)))
      | ((with_reducible refine wpList_load_oneG ?qqg1513 9 ?qqx1513 ?qqo1513 w.heap.size 1 ?qqh1513 (.string z1) Tryz.rObj_string (O1.out.cell 1 _ E1.out) ?_); (case qqg1513 => rfl); (case qqo1513 => rfl); (case qqh1513 => first | (simp; done) | (simp [Act.eval]; done) | (simp only [Act.put]; simp; done) | (simp only [Act.put]; simp [Act.eval]; done)))
      | ((with_reducible refine wpList_load_oneG ?qqg1514 3 ?qqx1514 ?qqo1514 w.heap.size 2 ?qqh1514 (.int .i64 z2) Tryz.rObj_int (O1.out.cell 2 _ E2.out) ?_); (case qqg1514 => rfl); (case qqo1514 => rfl); (case qqh1514 => first | (simp; done) | (simp [Act.eval]; done) | (simp only [Act.put]; simp; done) | (simp only [Act.put]; simp [Act.eval]; done)))
      | ((with_reducible refine wpList_load_oneG ?qqg1515 3 ?qqx1515 ?qqo1515 w.heap.size 3 ?qqh1515 (.int .i64 z3) Tryz.rObj_int (O1.out.cell 3 _ E3.out) ?_); (case qqg1515 => rfl); (case qqo1515 => rfl); (case qqh1515 => first | (simp; done) | (simp [Act.eval]; done) | (simp only [Act.put]; simp; done) | (simp only [Act.put]; simp [Act.eval]; done)))
      | ((with_reducible refine wpList_load_oneG ?qqg1516 3 ?qqx1516 ?qqo1516 w.heap.size 4 ?qqh1516 (.int .i64 z4) Tryz.rObj_int (O1.out.cell 4 _ E4.out) ?_); (case qqg1516 => rfl); (case qqo1516 => rfl); (case qqh1516 => first | (simp; done) | (simp [Act.eval]; done) | (simp only [Act.put]; simp; done) | (simp only [Act.put]; simp [Act.eval]; done)))
      | ((with_reducible refine wpList_load_oneG ?qqg1517 4 ?qqx1517 ?qqo1517 w.heap.size 5 ?qqh1517 (.bool z5) Tryz.rObj_bool (O1.out.cell 5 _ E5.out) ?_); (case qqg1517 => rfl); (case qqo1517 => rfl); (case qqh1517 => first | (simp; done) | (simp [Act.eval]; done) | (simp only [Act.put]; simp; done) | (simp only [Act.put]; simp [Act.eval]; done)))
      | ((with_reducible refine wpList_load_oneG ?qqg1518 28 ?qqx1518 ?qqo1518 w.heap.size 6 ?qqh1518 ((.slice a6 n6 cp6)) Tryz.rObj_Lstring (O1.out.cell 6 _ E6.out) ?_); (case qqg1518 => rfl); (case qqo1518 => rfl); (case qqh1518 => first | (simp; done) | (simp [Act.eval]; done) | (simp only [Act.put]; simp; done) | (simp only [Act.put]; simp [Act.eval]; done)))
      | ((with_reducible refine wpList_load_rowG ?qqg1519 31 ?qqx1519 ?qqo1519 w.heap.size 7 ?qqh1519 y7 Tryz.rObj_impl_Value YZ7.out (O1.out.range 7 _ E7.out) ?_); (case qqg1519 => rfl); (case qqo1519 => rfl); (case qqh1519 => first | (simp; done) | (simp [Act.eval]; done) | (simp only [Act.put]; simp; done) | (simp only [Act.put]; simp [Act.eval]; done)))
      | ((with_reducible refine wpList_load_rowG ?qqg1520 31 ?qqx1520 ?qqo1520 w.heap.size 12 ?qqh1520 y8 Tryz.rObj_impl_Value YZ8.out (O1.out.range 12 _ E8.out) ?_); (case qqg1520 => rfl); (case qqo1520 => rfl); (case qqh1520 => first | (simp; done) | (simp [Act.eval]; done) | (simp only [Act.put]; simp; done) | (simp only [Act.put]; simp [Act.eval]; done)))
      )
    refine (HK3.out _ B1.out).mono ?_
    rintro e w3 ⟨rfl, hb3⟩
    have O3 := uhide (O1.out.below hb3)
    have B3 : Hid (Below w.heap.size w w3) := B1.out.trans (hb3.mono B1.out.size)
    clear hb3
    go_wp2_with (first
      | ((with_reducible refine wpList_load_oneG ?qqg1528 3 ?qqx1528 ?qqo1528 w.heap.size 0 ?qqh1528 (.int .i64 z0) Tryz.rObj_int (O3.out.cell 0 _ E0.out) ?_); (case qqg1528 => rfl); (case qqo1528 => rfl); (case qqh1528 => first | (simp; done) | (simp [Act.eval]; done) | (simp only [Act.put]; simp; done) | (simp only [Act.put]; simp [Act.eval]; done)))
      | ((with_reducible refine wpList_load_oneG ?qqg1529 9 ?qqx1529 ?qqo1529 w.heap.size 1 ?qqh1529 (.string z1) Tryz.rObj_string (O3.out.cell 1 _ E1.out) ?_); (case qqg1529 => rfl); (case qqo1529 => rfl); (case qqh1529 => first | (simp; done) | (simp [Act.eval]; done) | (simp only [Act.put]; simp; done) | (simp only [Act.put]; simp [Act.eval]; done)))
      | ((with_reducible refine wpList_load_oneG ?qqg1530 3 ?qqx1530 ?qqo1530 w.heap.size 2 ?qqh1530 (.int .i64 z2) Tryz.rObj_int (O3.out.cell 2 _ E2.out) ?_); (case qqg1530 => rfl); (case qqo1530 => rfl); (case qqh1530 => first | (simp; done) | (simp [Act.eval]; done) | (simp only [Act.put]; simp; done) | (simp only [Act.put]; simp [Act.eval]; done)))
      | ((with_reducible refine wpList_load_oneG ?qqg1531 3 ?qqx1531 ?qqo1531 w.heap.size 3 ?qqh1531 (.int .i64 z3) Tryz.rObj_int (O3.out.cell 3 _ E3.out) ?_); (case qqg1531 => rfl); (case qqo1531 => rfl); (case qqh1531 => first | (simp; done) | (simp [Act.eval]; done) | (simp only [Act.put]; simp; done) | (simp only [Act.put]; simp [Act.eval]; done)))
      | ((with_reducible refine wpList_load_oneG ?qqg1532 3 ?qqx1532 ?qqo1532 w.heap.size 4 ?qqh1532 (.int .i64 z4) Tryz.rObj_int (O3.out.cell 4 _ E4.out) ?_); (case qqg1532 => rfl); (case qqo1532 => rfl); (case qqh1532 => first | (simp; done) | (simp [Act.eval]; done) | (simp only [Act.put]; simp; done) | (simp only [Act.put]; simp [Act.eval]; done)))
      | ((with_reducible refine wpList_load_oneG ?qqg1533 4 ?qqx1533 ?qqo1533 w.heap.size 5 ?qqh1533 (.bool z5) Tryz.rObj_bool (O3.out.cell 5 _ E5.out) ?_); (case qqg1533 => rfl); (case qqo1533 => rfl); (case qqh1533 => first | (simp; done) | (simp [Act.eval]; done) | (simp only [Act.put]; simp; done) | (simp only [Act.put]; simp [Act.eval]; done)))
      | ((with_reducible refine wpList_load_oneG ?qqg1534 28 ?qqx1534 ?qqo1534 w.heap.size 6 ?qqh1534 ((.slice a6 n6 cp6)) Tryz.rObj_Lstring (O3.out.cell 6 _ E6.out) ?_); (case qqg1534 => rfl); (case qqo1534 => rfl); (case qqh1534 => first | (simp; done) | (simp [Act.eval]; done) | (simp only [Act.put]; simp; done) | (simp only [Act.put]; simp [Act.eval]; done)))
      | ((with_reducible refine wpList_load_rowG ?qqg1535 31 ?qqx1535 ?qqo1535 w.heap.size 7 ?qqh1535 y7 Tryz.rObj_impl_Value YZ7.out (O3.out.range 7 _ E7.out) ?_); (case qqg1535 => rfl); (case qqo1535 => rfl); (case qqh1535 => first | (simp; done) | (simp [Act.eval]; done) | (simp only [Act.put]; simp; done) | (simp only [Act.put]; simp [Act.eval]; done)))
      | ((with_reducible refine wpList_load_rowG ?qqg1536 31 ?qqx1536 ?qqo1536 w.heap.size 12 ?qqh1536 y8 Tryz.rObj_impl_Value YZ8.out (O3.out.range 12 _ E8.out) ?_); (case qqg1536 => rfl); (case qqo1536 => rfl); (case qqh1536 => first | (simp; done) | (simp [Act.eval]; done) | (simp only [Act.put]; simp; done) | (simp only [Act.put]; simp [Act.eval]; done)))
      )
    refine (HK4.out _ B3.out).mono ?_
    rintro e w4 ⟨rfl, hb4⟩
    have O4 := uhide (O3.out.below hb4)
    have B4 : Hid (Below w.heap.size w w4) := B3.out.trans (hb4.mono B3.out.size)
    clear hb4
    go_wp2_with (first
      | ((with_reducible refine wpList_load_oneG ?qqg1544 3 ?qqx1544 ?qqo1544 w.heap.size 0 ?qqh1544 (.int .i64 z0) Tryz.rObj_int (O4.out.cell 0 _ E0.out) ?_); (case qqg1544 => rfl); (case qqo1544 => rfl); (case qqh1544 => first | (simp; done) | (simp [Act.eval]; done) | (simp only [Act.put]; simp; done) | (simp only [Act.put]; simp [Act.eval]; done)))
      | ((with_reducible refine wpList_load_oneG ?qqg1545 9 ?qqx1545 ?qqo1545 w.heap.size 1 ?qqh1545 (.string z1) Tryz.rObj_string (O4.out.cell 1 _ E1.out) ?_); (case qqg1545 => rfl); (case qqo1545 => rfl); (case qqh1545 => first | (simp; done) | (simp [Act.eval]; done) | (simp only [Act.put]; simp; done) | (simp only [Act.put]; simp [Act.eval]; done)))
      | ((with_reducible refine wpList_load_oneG ?qqg1546 3 ?qqx1546 ?qqo1546 w.heap.size 2 ?qqh1546 (.int .i64 z2) Tryz.rObj_int (O4.out.cell 2 _ E2.out) ?_); (case qqg1546 => rfl); (case qqo1546 => rfl); (case qqh1546 => first | (simp; done) | (simp [Act.eval]; done) | (simp only [Act.put]; simp; done) | (simp only [Act.put]; simp [Act.eval]; done)))
      | ((with_reducible refine wpList_load_oneG ?qqg1547 3 ?qqx1547 ?qqo1547 w.heap.size 3 ?qqh1547 (.int .i64 z3) Tryz.rObj_int (O4.out.cell 3 _ E3.out) ?_); (case qqg1547 => rfl); (case qqo1547 => rfl); (case qqh1547 => first | (simp; done) | (simp [Act.eval]; done) | (simp only [Act.put]; simp; done) | (simp only [Act.put]; simp [Act.eval]; done)))
      | ((with_reducible refine wpList_load_oneG ?qqg1548 3 ?qqx1548 ?qqo1548 w.heap.size 4 ?qqh1548 (.int .i64 z4) Tryz.rObj_int (O4.out.cell 4 _ E4.out) ?_); (case qqg1548 => rfl); (case qqo1548 => rfl); (case qqh1548 => first | (simp; done) | (simp [Act.eval]; done) | (simp only [Act.put]; simp; done) | (simp only [Act.put]; simp [Act.eval]; done)))
      | ((with_reducible refine wpList_load_oneG ?qqg1549 4 ?qqx1549 ?qqo1549 w.heap.size 5 ?qqh1549 (.bool z5) Tryz.rObj_bool (O4.out.cell 5 _ E5.out) ?_); (case qqg1549 => rfl); (case qqo1549 => rfl); (case qqh1549 => first | (simp; done) | (simp [Act.eval]; done) | (simp only [Act.put]; simp; done) | (simp only [Act.put]; simp [Act.eval]; done)))
      | ((with_reducible refine wpList_load_oneG ?qqg1550 28 ?qqx1550 ?qqo1550 w.heap.size 6 ?qqh1550 ((.slice a6 n6 cp6)) Tryz.rObj_Lstring (O4.out.cell 6 _ E6.out) ?_); (case qqg1550 => rfl); (case qqo1550 => rfl); (case qqh1550 => first | (simp; done) | (simp [Act.eval]; done) | (simp only [Act.put]; simp; done) | (simp only [Act.put]; simp [Act.eval]; done)))
      | ((with_reducible refine wpList_load_rowG ?qqg1551 31 ?qqx1551 ?qqo1551 w.heap.size 7 ?qqh1551 y7 Tryz.rObj_impl_Value YZ7.out (O4.out.range 7 _ E7.out) ?_); (case qqg1551 => rfl); (case qqo1551 => rfl); (case qqh1551 => first | (simp; done) | (simp [Act.eval]; done) | (simp only [Act.put]; simp; done) | (simp only [Act.put]; simp [Act.eval]; done)))
      | ((with_reducible refine wpList_load_rowG ?qqg1552 31 ?qqx1552 ?qqo1552 w.heap.size 12 ?qqh1552 y8 Tryz.rObj_impl_Value YZ8.out (O4.out.range 12 _ E8.out) ?_); (case qqg1552 => rfl); (case qqo1552 => rfl); (case qqh1552 => first | (simp; done) | (simp [Act.eval]; done) | (simp only [Act.put]; simp; done) | (simp only [Act.put]; simp [Act.eval]; done)))
      )
    refine (HK5.out _ B4.out).mono ?_
    rintro e w5 ⟨rfl, hb5⟩
    have O5 := uhide (O4.out.below hb5)
    have B5 : Hid (Below w.heap.size w w5) := B4.out.trans (hb5.mono B4.out.size)
    clear hb5
    go_wp2_with (first
      | ((with_reducible refine wpList_load_oneG ?qqg1560 3 ?qqx1560 ?qqo1560 w.heap.size 0 ?qqh1560 (.int .i64 z0) Tryz.rObj_int (O5.out.cell 0 _ E0.out) ?_); (case qqg1560 => rfl); (case qqo1560 => rfl); (case qqh1560 => first | (simp; done) | (simp [Act.eval]; done) | (simp only [Act.put]; simp; done) | (simp only [Act.put]; simp [Act.eval]; done)))
      | ((with_reducible refine wpList_load_oneG ?qqg1561 9 ?qqx1561 ?qqo1561 w.heap.size 1 ?qqh1561 (.string z1) Tryz.rObj_string (O5.out.cell 1 _ E1.out) ?_); (case qqg1561 => rfl); (case qqo1561 => rfl); (case qqh1561 => first | (simp; done) | (simp [Act.eval]; done) | (simp only [Act.put]; simp; done) | (simp only [Act.put]; simp [Act.eval]; done)))
      | ((with_reducible refine wpList_load_oneG ?qqg1562 3 ?qqx1562 ?qqo1562 w.heap.size 2 ?qqh1562 (.int .i64 z2) Tryz.rObj_int (O5.out.cell 2 _ E2.out) ?_); (case qqg1562 => rfl); (case qqo1562 => rfl); (case qqh1562 => first | (simp; done) | (simp [Act.eval]; done) | (simp only [Act.put]; simp; done) | (simp only [Act.put]; simp [Act.eval]; done)))
      | ((with_reducible refine wpList_load_oneG ?qqg1563 3 ?qqx1563 ?qqo1563 w.heap.size 3 ?qqh1563 (.int .i64 z3) Tryz.rObj_int (O5.out.cell 3 _ E3.out) ?_); (case qqg1563 => rfl); (case qqo1563 => rfl); (case qqh1563 => first | (simp; done) | (simp [Act.eval]; done) | (simp only [Act.put]; simp; done) | (simp only [Act.put]; simp [Act.eval]; done)))
      | ((with_reducible refine wpList_load_oneG ?qqg1564 3 ?qqx1564 ?qqo1564 w.heap.size 4 ?qqh1564 (.int .i64 z4) Tryz.rObj_int (O5.out.cell 4 _ E4.out) ?_); (case qqg1564 => rfl); (case qqo1564 => rfl); (case qqh1564 => first | (simp; done) | (simp [Act.eval]; done) | (simp only [Act.put]; simp; done) | (simp only [Act.put]; simp [Act.eval]; done)))
      | ((with_reducible refine wpList_load_oneG ?qqg1565 4 ?qqx1565 ?qqo1565 w.heap.size 5 ?qqh1565 (.bool z5) Tryz.rObj_bool (O5.out.cell 5 _ E5.out) ?_); (case qqg1565 => rfl); (case qqo1565 => rfl); (case qqh1565 => first | (simp; done) | (simp [Act.eval]; done) | (simp only [Act.put]; simp; done) | (simp only [Act.put]; simp [Act.eval]; done)))
      | ((with_reducible refine wpList_load_oneG ?qqg1566 28 ?qqx1566 ?qqo1566 w.heap.size 6 ?qqh1566 ((.slice a6 n6 cp6)) Tryz.rObj_Lstring (O5.out.cell 6 _ E6.out) ?_); (case qqg1566 => rfl); (case qqo1566 => rfl); (case qqh1566 => first | (simp; done) | (simp [Act.eval]; done) | (simp only [Act.put]; simp; done) | (simp only [Act.put]; simp [Act.eval]; done)))
      | ((with_reducible refine wpList_load_rowG ?qqg1567 31 ?qqx1567 ?qqo1567 w.heap.size 7 ?qqh1567 y7 Tryz.rObj_impl_Value YZ7.out (O5.out.range 7 _ E7.out) ?_); (case qqg1567 => rfl); (case qqo1567 => rfl); (case qqh1567 => first | (simp; done) | (simp [Act.eval]; done) | (simp only [Act.put]; simp; done) | (simp only [Act.put]; simp [Act.eval]; done)))
      | ((with_reducible refine wpList_load_rowG ?qqg1568 31 ?qqx1568 ?qqo1568 w.heap.size 12 ?qqh1568 y8 Tryz.rObj_impl_Value YZ8.out (O5.out.range 12 _ E8.out) ?_); (case qqg1568 => rfl); (case qqo1568 => rfl); (case qqh1568 => first | (simp; done) | (simp [Act.eval]; done) | (simp only [Act.put]; simp; done) | (simp only [Act.put]; simp [Act.eval]; done)))
      )
    refine (HK2.out _ B5.out).mono ?_
    rintro e w2 ⟨rfl, hb2⟩
    have O2 := uhide (O5.out.below hb2)
    have B2 : Hid (Below w.heap.size w w2) := B5.out.trans (hb2.mono B5.out.size)
    clear hb2
    go_wp2_with (first
      | ((with_reducible refine wpList_load_oneG ?qqg1576 3 ?qqx1576 ?qqo1576 w.heap.size 0 ?qqh1576 (.int .i64 z0) Tryz.rObj_int (O2.out.cell 0 _ E0.out) ?_); (case qqg1576 => rfl); (case qqo1576 => rfl); (case qqh1576 => first | (simp; done) | (simp [Act.eval]; done) | (simp only [Act.put]; simp; done) | (simp only [Act.put]; simp [Act.eval]; done)))
      | ((with_reducible refine wpList_load_oneG ?qqg1577 9 ?qqx1577 ?qqo1577 w.heap.size 1 ?qqh1577 (.string z1) Tryz.rObj_string (O2.out.cell 1 _ E1.out) ?_); (case qqg1577 => rfl); (case qqo1577 => rfl); (case qqh1577 => first | (simp; done) | (simp [Act.eval]; done) | (simp only [Act.put]; simp; done) | (simp only [Act.put]; simp [Act.eval]; done)))
      | ((with_reducible refine wpList_load_oneG ?qqg1578 3 ?qqx1578 ?qqo1578 w.heap.size 2 ?qqh1578 (.int .i64 z2) Tryz.rObj_int (O2.out.cell 2 _ E2.out) ?_); (case qqg1578 => rfl); (case qqo1578 => rfl); (case qqh1578 => first | (simp; done) | (simp [Act.eval]; done) | (simp only [Act.put]; simp; done) | (simp only [Act.put]; simp [Act.eval]; done)))
      | ((with_reducible refine wpList_load_oneG ?qqg1579 3 ?qqx1579 ?qqo1579 w.heap.size 3 ?qqh1579 (.int .i64 z3) Tryz.rObj_int (O2.out.cell 3 _ E3.out) ?_); (case qqg1579 => rfl); (case qqo1579 => rfl); (case qqh1579 => first | (simp; done) | (simp [Act.eval]; done) | (simp only [Act.put]; simp; done) | (simp only [Act.put]; simp [Act.eval]; done)))
      | ((with_reducible refine wpList_load_oneG ?qqg1580 3 ?qqx1580 ?qqo1580 w.heap.size 4 ?qqh1580 (.int .i64 z4) Tryz.rObj_int (O2.out.cell 4 _ E4.out) ?_); (case qqg1580 => rfl); (case qqo1580 => rfl); (case qqh1580 => first | (simp; done) | (simp [Act.eval]; done) | (simp only [Act.put]; simp; done) | (simp only [Act.put]; simp [Act.eval]; done)))
      | ((with_reducible refine wpList_load_oneG ?qqg1581 4 ?qqx1581 ?qqo1581 w.heap.size 5 ?qqh1581 (.bool z5) Tryz.rObj_bool (O2.out.cell 5 _ E5.out) ?_); (case qqg1581 => rfl); (case qqo1581 => rfl); (case qqh1581 => first | (simp; done) | (simp [Act.eval]; done) | (simp only [Act.put]; simp; done) | (simp only [Act.put]; simp [Act.eval]; done)))
      | ((with_reducible refine wpList_load_oneG ?qqg1582 28 ?qqx1582 ?qqo1582 w.heap.size 6 ?qqh1582 ((.slice a6 n6 cp6)) Tryz.rObj_Lstring (O2.out.cell 6 _ E6.out) ?_); (case qqg1582 => rfl); (case qqo1582 => rfl); (case qqh1582 => first | (simp; done) | (simp [Act.eval]; done) | (simp only [Act.put]; simp; done) | (simp only [Act.put]; simp [Act.eval]; done)))
      | ((with_reducible refine wpList_load_rowG ?qqg1583 31 ?qqx1583 ?qqo1583 w.heap.size 7 ?qqh1583 y7 Tryz.rObj_impl_Value YZ7.out (O2.out.range 7 _ E7.out) ?_); (case qqg1583 => rfl); (case qqo1583 => rfl); (case qqh1583 => first | (simp; done) | (simp [Act.eval]; done) | (simp only [Act.put]; simp; done) | (simp only [Act.put]; simp [Act.eval]; done)))
      | ((with_reducible refine wpList_load_rowG ?qqg1584 31 ?qqx1584 ?qqo1584 w.heap.size 12 ?qqh1584 y8 Tryz.rObj_impl_Value YZ8.out (O2.out.range 12 _ E8.out) ?_); (case qqg1584 => rfl); (case qqo1584 => rfl); (case qqh1584 => first | (simp; done) | (simp [Act.eval]; done) | (simp only [Act.put]; simp; done) | (simp only [Act.put]; simp [Act.eval]; done)))
      )
    refine (HK6.out _ B2.out).mono ?_
    rintro e w6 ⟨rfl, hb6⟩
    have O6 := uhide (O2.out.below hb6)
    have B6 : Hid (Below w.heap.size w w6) := B2.out.trans (hb6.mono B2.out.size)
    clear hb6
    go_wp2_with (first
      | ((with_reducible refine wpList_load_oneG ?qqg1592 3 ?qqx1592 ?qqo1592 w.heap.size 0 ?qqh1592 (.int .i64 z0) Tryz.rObj_int (O6.out.cell 0 _ E0.out) ?_); (case qqg1592 => rfl); (case qqo1592 => rfl); (case qqh1592 => first | (simp; done) | (simp [Act.eval]; done) | (simp only [Act.put]; simp; done) | (simp only [Act.put]; simp [Act.eval]; done)))
      | ((with_reducible refine wpList_load_oneG ?qqg1593 9 ?qqx1593 ?qqo1593 w.heap.size 1 ?qqh1593 (.string z1) Tryz.rObj_string (O6.out.cell 1 _ E1.out) ?_); (case qqg1593 => rfl); (case qqo1593 => rfl); (case qqh1593 => first | (simp; done) | (simp [Act.eval]; done) | (simp only [Act.put]; simp; done) | (simp only [Act.put]; simp [Act.eval]; done)))
      | ((with_reducible refine wpList_load_oneG ?qqg1594 3 ?qqx1594 ?qqo1594 w.heap.size 2 ?qqh1594 (.int .i64 z2) Tryz.rObj_int (O6.out.cell 2 _ E2.out) ?_); (case qqg1594 => rfl); (case qqo1594 => rfl); (case qqh1594 => first | (simp; done) | (simp [Act.eval]; done) | (simp only [Act.put]; simp; done) | (simp only [Act.put]; simp [Act.eval]; done)))
      | ((with_reducible refine wpList_load_oneG ?qqg1595 3 ?qqx1595 ?qqo1595 w.heap.size 3 ?qqh1595 (.int .i64 z3) Tryz.rObj_int (O6.out.cell 3 _ E3.out) ?_); (case qqg1595 => rfl); (case qqo1595 => rfl); (case qqh1595 => first | (simp; done) | (simp [Act.eval]; done) | (simp only [Act.put]; simp; done) | (simp only [Act.put]; simp [Act.eval]; done)))
      | ((with_reducible refine wpList_load_oneG ?qqg1596 3 ?qqx1596 ?qqo1596 w.heap.size 4 ?qqh1596 (.int .i64 z4) Tryz.rObj_int (O6.out.cell 4 _ E4.out) ?_); (case qqg1596 => rfl); (case qqo1596 => rfl); (case qqh1596 => first | (simp; done) | (simp [Act.eval]; done) | (simp only [Act.put]; simp; done) | (simp only [Act.put]; simp [Act.eval]; done)))
      | ((with_reducible refine wpList_load_oneG ?qqg1597 4 ?qqx1597 ?qqo1597 w.heap.size 5 ?qqh1597 (.bool z5) Tryz.rObj_bool (O6.out.cell 5 _ E5.out) ?_); (case qqg1597 => rfl); (case qqo1597 => rfl); (case qqh1597 => first | (simp; done) | (simp [Act.eval]; done) | (simp only [Act.put]; simp; done) | (simp only [Act.put]; simp [Act.eval]; done)))
      | ((with_reducible refine wpList_load_oneG ?qqg1598 28 ?qqx1598 ?qqo1598 w.heap.size 6 ?qqh1598 ((.slice a6 n6 cp6)) Tryz.rObj_Lstring (O6.out.cell 6 _ E6.out) ?_); (case qqg1598 => rfl); (case qqo1598 => rfl); (case qqh1598 => first | (simp; done) | (simp [Act.eval]; done) | (simp only [Act.put]; simp; done) | (simp only [Act.put]; simp [Act.eval]; done)))
      | ((with_reducible refine wpList_load_rowG ?qqg1599 31 ?qqx1599 ?qqo1599 w.heap.size 7 ?qqh1599 y7 Tryz.rObj_impl_Value YZ7.out (O6.out.range 7 _ E7.out) ?_); (case qqg1599 => rfl); (case qqo1599 => rfl); (case qqh1599 => first | (simp; done) | (simp [Act.eval]; done) | (simp only [Act.put]; simp; done) | (simp only [Act.put]; simp [Act.eval]; done)))
      | ((with_reducible refine wpList_load_rowG ?qqg1600 31 ?qqx1600 ?qqo1600 w.heap.size 12 ?qqh1600 y8 Tryz.rObj_impl_Value YZ8.out (O6.out.range 12 _ E8.out) ?_); (case qqg1600 => rfl); (case qqo1600 => rfl); (case qqh1600 => first | (simp; done) | (simp [Act.eval]; done) | (simp only [Act.put]; simp; done) | (simp only [Act.put]; simp [Act.eval]; done)))
      )
    refine (HK7.out _ B6.out).mono ?_
    rintro e w7 ⟨rfl, hb7⟩
    have O7 := uhide (O6.out.below hb7)
    have B7 : Hid (Below w.heap.size w w7) := B6.out.trans (hb7.mono B6.out.size)
    clear hb7
    go_wp2
    go_ret
    exact ⟨ret_bool (by simp), B7.out⟩
  | true =>
  cases gone with
  | true =>
    go_enter Tryz.func170, Tryz.ntmps170
    go_wp2_with (first
      | ((with_reducible refine wpList_load_oneG ?qqg1615 3 ?qqx1615 ?qqo1615 w.heap.size 0 ?qqh1615 (.int .i64 z0) Tryz.rObj_int (OA.out.cell 0 _ E0.out) ?_); (case qqg1615 => rfl); (case qqo1615 => rfl); (case qqh1615 => first | (simp; done) | (simp [Act.eval]; done) | (simp only [Act.put]; simp; done) | (simp only [Act.put]; simp [Act.eval]; done)))
      | ((with_reducible refine wpList_load_oneG ?qqg1616 9 ?qqx1616 ?qqo1616 w.heap.size 1 ?qqh1616 (.string z1) Tryz.rObj_string (OA.out.cell 1 _ E1.out) ?_); (case qqg1616 => rfl); (case qqo1616 => rfl); (case qqh1616 => first | (simp; done) | (simp [Act.eval]; done) | (simp only [Act.put]; simp; done) | (simp only [Act.put]; simp [Act.eval]; done)))
      | ((with_reducible refine wpList_load_oneG ?qqg1617 3 ?qqx1617 ?qqo1617 w.heap.size 2 ?qqh1617 (.int .i64 z2) Tryz.rObj_int (OA.out.cell 2 _ E2.out) ?_); (case qqg1617 => rfl); (case qqo1617 => rfl); (case qqh1617 => first | (simp; done) | (simp [Act.eval]; done) | (simp only [Act.put]; simp; done) | (simp only [Act.put]; simp [Act.eval]; done)))
      | ((with_reducible refine wpList_load_oneG ?qqg1618 3 ?qqx1618 ?qqo1618 w.heap.size 3 ?qqh1618 (.int .i64 z3) Tryz.rObj_int (OA.out.cell 3 _ E3.out) ?_); (case qqg1618 => rfl); (case qqo1618 => rfl); (case qqh1618 => first | (simp; done) | (simp [Act.eval]; done) | (simp only [Act.put]; simp; done) | (simp only [Act.put]; simp [Act.eval]; done)))
      | ((with_reducible refine wpList_load_oneG ?qqg1619 3 ?qqx1619 ?qqo1619 w.heap.size 4 ?qqh1619 (.int .i64 z4) Tryz.rObj_int (OA.out.cell 4 _ E4.out) ?_); (case qqg1619 => rfl); (case qqo1619 => rfl); (case qqh1619 => first | (simp; done) | (simp [Act.eval]; done) | (simp only [Act.put]; simp; done) | (simp only [Act.put]; simp [Act.eval]; done)))
      | ((with_reducible refine wpList_load_oneG ?qqg1620 4 ?qqx1620 ?qqo1620 w.heap.size 5 ?qqh1620 (.bool z5) Tryz.rObj_bool (OA.out.cell 5 _ E5.out) ?_); (case qqg1620 => rfl); (case qqo1620 => rfl); (case qqh1620 => first | (simp; done) | (simp [Act.eval]; done) | (simp only [Act.put]; simp; done) | (simp only [Act.put]; simp [Act.eval]; done)))
      | ((with_reducible refine wpList_load_oneG ?qqg1621 28 ?qqx1621 ?qqo1621 w.heap.size 6 ?qqh1621 ((.slice a6 n6 cp6)) Tryz.rObj_Lstring (OA.out.cell 6 _ E6.out) ?_); (case qqg1621 => rfl); (case qqo1621 => rfl); (case qqh1621 => first | (simp; done) | (simp [Act.eval]; done) | (simp only [Act.put]; simp; done) | (simp only [Act.put]; simp [Act.eval]; done)))
      | ((with_reducible refine wpList_load_rowG ?qqg1622 31 ?qqx1622 ?qqo1622 w.heap.size 7 ?qqh1622 y7 Tryz.rObj_impl_Value YZ7.out (OA.out.range 7 _ E7.out) ?_); (case qqg1622 => rfl); (case qqo1622 => rfl); (case qqh1622 => first | (simp; done) | (simp [Act.eval]; done) | (simp only [Act.put]; simp; done) | (simp only [Act.put]; simp [Act.eval]; done)))
      | ((with_reducible refine wpList_load_rowG ?qqg1623 31 ?qqx1623 ?qqo1623 w.heap.size 12 ?qqh1623 y8 Tryz.rObj_impl_Value YZ8.out (OA.out.range 12 _ E8.out) ?_); (case qqg1623 => rfl); (case qqo1623 => rfl); (case qqh1623 => first | (simp; done) | (simp [Act.eval]; done) | (simp only [Act.put]; simp; done) | (simp only [Act.put]; simp [Act.eval]; done)))
      )
    refine (HK0.out _ BA.out).mono ?_
    rintro e w0 ⟨rfl, hb0⟩
    have O0 := uhide (OA.out.below hb0)
    have B0 : Hid (Below w.heap.size w w0) := BA.out.trans (hb0.mono BA.out.size)
    clear hb0
    go_wp2_with (first
      | ((with_reducible refine wpList_load_oneG ?qqg1631 3 ?qqx1631 ?qqo1631 w.heap.size 0 ?qqh1631 (.int .i64 z0) Tryz.rObj_int (O0.out.cell 0 _ E0.out) ?_); (case qqg1631 => rfl); (case qqo1631 => rfl); (case qqh1631 => first | (simp; done) | (simp [Act.eval]; done) | (simp only [Act.put]; simp; done) | (simp only [Act.put]; simp [Act.eval]; done)))
      | ((with_reducible refine wpList_load_oneG ?qqg1632 9 ?qqx1632 ?qqo1632 w.heap.size 1 ?qqh1632 (.string z1) Tryz.rObj_string (O0.out.cell 1 _ E1.out) ?_); (case qqg1632 => rfl); (case qqo1632 => rfl); (case qqh1632 => first | (simp; done) | (simp [Act.eval]; done) | (simp only [Act.put]; simp; done) | (simp only [Act.put]; simp [Act.eval]; done)))
      | ((with_reducible refine wpList_load_oneG ?qqg1633 3 ?qqx1633 ?qqo1633 w.heap.size 2 ?qqh1633 (.int .i64 z2) Tryz.rObj_int (O0.out.cell 2 _ E2.out) ?_); (case qqg1633 => rfl); (case qqo1633 => rfl); (case qqh1633 => first | (simp; done) | (simp [Act.eval]; done) | (simp only [Act.put]; simp; done) | (simp only [Act.put]; simp [Act.eval]; done)))
      | ((with_reducible refine wpList_load_oneG ?qqg1634 3 ?qqx1634 ?qqo1634 w.heap.size 3 ?qqh1634 (.int .i64 z3) Tryz.rObj_int (O0.out.cell 3 _ E3.out) ?_); (case qqg1634 => rfl); (case qqo1634 => rfl); (case qqh1634 => first | (simp; done) | (simp [Act.eval]; done) | (simp only [Act.put]; simp; done) | (simp only [Act.put]; simp [Act.eval]; done)))
      | ((with_reducible refine wpList_load_oneG ?qqg1635 3 ?qqx1635 ?qqo1635 w.heap.size 4 ?qqh1635 (.int .i64 z4) Tryz.rObj_int (O0.out.cell 4 _ E4.out) ?_); (case qqg1635 => rfl); (case qqo1635 => rfl); (case qqh1635 => first | (simp; done) | (simp [Act.eval]; done) | (simp only [Act.put]; simp; done) | (simp only [Act.put]; simp [Act.eval]; done)))
      | ((with_reducible refine wpList_load_oneG ?qqg1636 4 ?qqx1636 ?qqo1636 w.heap.size 5 ?qqh1636 (.bool z5) Tryz.rObj_bool (O0.out.cell 5 _ E5.out) ?_); (case qqg1636 => rfl); (case qqo1636 => rfl); (case qqh1636 => first | (simp; done) | (simp [Act.eval]; done) | (simp only [Act.put]; simp; done) | (simp only [Act.put]; simp [Act.eval]; done)))
      | ((with_reducible refine wpList_load_oneG ?qqg1637 28 ?qqx1637 ?qqo1637 w.heap.size 6 ?qqh1637 ((.slice a6 n6 cp6)) Tryz.rObj_Lstring (O0.out.cell 6 _ E6.out) ?_); (case qqg1637 => rfl); (case qqo1637 => rfl); (case qqh1637 => first | (simp; done) | (simp [Act.eval]; done) | (simp only [Act.put]; simp; done) | (simp only [Act.put]; simp [Act.eval]; done)))
      | ((with_reducible refine wpList_load_rowG ?qqg1638 31 ?qqx1638 ?qqo1638 w.heap.size 7 ?qqh1638 y7 Tryz.rObj_impl_Value YZ7.out (O0.out.range 7 _ E7.out) ?_); (case qqg1638 => rfl); (case qqo1638 => rfl); (case qqh1638 => first | (simp; done) | (simp [Act.eval]; done) | (simp only [Act.put]; simp; done) | (simp only [Act.put]; simp [Act.eval]; done)))
      | ((with_reducible refine wpList_load_rowG ?qqg1639 31 ?qqx1639 ?qqo1639 w.heap.size 12 ?qqh1639 y8 Tryz.rObj_impl_Value YZ8.out (O0.out.range 12 _ E8.out) ?_); (case qqg1639 => rfl); (case qqo1639 => rfl); (case qqh1639 => first | (simp; done) | (simp [Act.eval]; done) | (simp only [Act.put]; simp; done) | (simp only [Act.put]; simp [Act.eval]; done)))
      )
    refine (HK1.out _ B0.out).mono ?_
    rintro e w1 ⟨rfl, hb1⟩
    have O1 := uhide (O0.out.below hb1)
    have B1 : Hid (Below w.heap.size w w1) := B0.out.trans (hb1.mono B0.out.size)
    clear hb1
    go_wp2_with (first
      | ((with_reducible refine wpList_load_oneG ?qqg1647 3 ?qqx1647 ?qqo1647 w.heap.size 0 ?qqh1647 (.int .i64 z0) Tryz.rObj_int (O1.out.cell 0 _ E0.out) ?_); (case qqg1647 => rfl); (case qqo1647 => rfl); (case qqh1647 => first | (simp; done) | (simp [Act.eval]; done) | (simp only [Act.put]; simp; done) | (simp only [Act.put]; simp [Act.eval]; done)))
      | ((with_reducible refine wpList_load_oneG ?qqg1648 9 ?qqx1648 ?qqo1648 w.heap.size 1 ?qqh1648 (.string z1) Tryz.rObj_string (O1.out.cell 1 _ E1.out) ?_); (case qqg1648 => rfl); (case qqo1648 => rfl); (case qqh1648 => first | (simp; done) | (simp [Act.eval]; done) | (simp only [Act.put]; simp; done) | (simp only [Act.put]; simp [Act.eval]; done)))
      | ((with_reducible refine wpList_load_oneG ?qqg1649 3 ?qqx1649 ?qqo1649 w.heap.size 2 ?qqh1649 (.int .i64 z2) Tryz.rObj_int (O1.out.cell 2 _ E2.out) ?_); (case qqg1649 => rfl); (case qqo1649 => rfl); (case qqh1649 => first | (simp; done) | (simp [Act.eval]; done) | (simp only [Act.put]; simp; done) | (simp only [Act.put]; simp [Act.eval]; done)))
      | ((with_reducible refine wpList_load_oneG ?qqg1650 3 ?qqx1650 ?qqo1650 w.heap.size 3 ?qqh1650 (.int .i64 z3) Tryz.rObj_int (O1.out.cell 3 _ E3.out) ?_); (case qqg1650 => rfl); (case qqo1650 => rfl); (case qqh1650 => first | (simp; done) | (simp [Act.eval]; done) | (simp only [Act.put]; simp; done) | (simp only [Act.put]; simp [Act.eval]; done)))
      | ((with_reducible refine wpList_load_oneG ?qqg1651 3 ?qqx1651 ?qqo1651 w.heap.size 4 ?qqh1651 (.int .i64 z4) Tryz.rObj_int (O1.out.cell 4 _ E4.out) ?_); (case qqg1651 => rfl); (case qqo1651 => rfl); (case qqh1651 => first | (simp; done) | (simp [Act.eval]; done) | (simp only [Act.put]; simp; done) | (simp only [Act.put]; simp [Act.eval]; done)))
      | ((with_reducible refine wpList_load_oneG ?qqg1652 4 ?qqx1652 ?qqo1652 w.heap.size 5 ?qqh1652 (.bool z5) Tryz.rObj_bool (O1.out.cell 5 _ E5.out) ?_); (case qqg1652 => rfl); (case qqo1652 => rfl); (case qqh1652 => first | (simp; done) | (simp [Act.eval]; done) | (simp only [Act.put]; simp; done) | (simp only [Act.put]; simp [Act.eval]; done)))
      | ((with_reducible refine wpList_load_oneG ?qqg1653 28 ?qqx1653 ?qqo1653 w.heap.size 6 ?qqh1653 ((.slice a6 n6 cp6)) Tryz.rObj_Lstring (O1.out.cell 6 _ E6.out) ?_); (case qqg1653 => rfl); (case qqo1653 => rfl); (case qqh1653 => first | (simp; done) | (simp [Act.eval]; done) | (simp only [Act.put]; simp; done) | (simp only [Act.put]; simp [Act.eval]; done)))
      | ((with_reducible refine wpList_load_rowG ?qqg1654 31 ?qqx1654 ?qqo1654 w.heap.size 7 ?qqh1654 y7 Tryz.rObj_impl_Value YZ7.out (O1.out.range 7 _ E7.out) ?_); (case qqg1654 => rfl); (case qqo1654 => rfl); (case qqh1654 => first | (simp; done) | (simp [Act.eval]; done) | (simp only [Act.put]; simp; done) | (simp only [Act.put]; simp [Act.eval]; done)))
      | ((with_reducible refine wpList_load_rowG ?qqg1655 31 ?qqx1655 ?qqo1655 w.heap.size 12 ?qqh1655 y8 Tryz.rObj_impl_Value YZ8.out (O1.out.range 12 _ E8.out) ?_); (case qqg1655 => rfl); (case qqo1655 => rfl); (case qqh1655 => first | (simp; done) | (simp [Act.eval]; done) | (simp only [Act.put]; simp; done) | (simp only [Act.put]; simp [Act.eval]; done)))
      )
    refine (HK3.out _ B1.out).mono ?_
    rintro e w3 ⟨rfl, hb3⟩
    have O3 := uhide (O1.out.below hb3)
    have B3 : Hid (Below w.heap.size w w3) := B1.out.trans (hb3.mono B1.out.size)
    clear hb3
    go_wp2_with (first
      | ((with_reducible refine wpList_load_oneG ?qqg1663 3 ?qqx1663 ?qqo1663 w.heap.size 0 ?qqh1663 (.int .i64 z0) Tryz.rObj_int (O3.out.cell 0 _ E0.out) ?_); (case qqg1663 => rfl); (case qqo1663 => rfl); (case qqh1663 => first | (simp; done) | (simp [Act.eval]; done) | (simp only [Act.put]; simp; done) | (simp only [Act.put]; simp [Act.eval]; done)))
      | ((with_reducible refine wpList_load_oneG ?qqg1664 9 ?qqx1664 ?qqo1664 w.heap.size 1 ?qqh1664 (.string z1) Tryz.rObj_string (O3.out.cell 1 _ E1.out) ?_); (case qqg1664 => rfl); (case qqo1664 => rfl); (case qqh1664 => first | (simp; done) | (simp [Act.eval]; done) | (simp only [Act.put]; simp; done) | (simp only [Act.put]; simp [Act.eval]; done)))
      | ((with_reducible refine wpList_load_oneG ?qqg1665 3 ?qqx1665 ?qqo1665 w.heap.size 2 ?qqh1665 (.int .i64 z2) Tryz.rObj_int (O3.out.cell 2 _ E2.out) ?_); (case qqg1665 => rfl); (case qqo1665 => rfl); (case qqh1665 => first | (simp; done) | (simp [Act.eval]; done) | (simp only [Act.put]; simp; done) | (simp only [Act.put]; simp [Act.eval]; done)))
      | ((with_reducible refine wpList_load_oneG ?qqg1666 3 ?qqx1666 ?qqo1666 w.heap.size 3 ?qqh1666 (.int .i64 z3) Tryz.rObj_int (O3.out.cell 3 _ E3.out) ?_); (case qqg1666 => rfl); (case qqo1666 => rfl); (case qqh1666 => first | (simp; done) | (simp [Act.eval]; done) | (simp only [Act.put]; simp; done) | (simp only [Act.put]; simp [Act.eval]; done)))
      | ((with_reducible refine wpList_load_oneG ?qqg1667 3 ?qqx1667 ?qqo1667 w.heap.size 4 ?qqh1667 (.int .i64 z4) Tryz.rObj_int (O3.out.cell 4 _ E4.out) ?_); (case qqg1667 => rfl); (case qqo1667 => rfl); (case qqh1667 => first | (simp; done) | (simp [Act.eval]; done) | (simp only [Act.put]; simp; done) | (simp only [Act.put]; simp [Act.eval]; done)))
      | ((with_reducible refine wpList_load_oneG ?qqg1668 4 ?qqx1668 ?qqo1668 w.heap.size 5 ?qqh1668 (.bool z5) Tryz.rObj_bool (O3.out.cell 5 _ E5.out) ?_); (case qqg1668 => rfl); (case qqo1668 => rfl); (case qqh1668 => first | (simp; done) | (simp [Act.eval]; done) | (simp only [Act.put]; simp; done) | (simp only [Act.put]; simp [Act.eval]; done)))
      | ((with_reducible refine wpList_load_oneG ?qqg1669 28 ?qqx1669 ?qqo1669 w.heap.size 6 ?qqh1669 ((.slice a6 n6 cp6)) Tryz.rObj_Lstring (O3.out.cell 6 _ E6.out) ?_); (case qqg1669 => rfl); (case qqo1669 => rfl); (case qqh1669 => first | (simp; done) | (simp [Act.eval]; done) | (simp only [Act.put]; simp; done) | (simp only [Act.put]; simp [Act.eval]; done)))
      | ((with_reducible refine wpList_load_rowG ?qqg1670 31 ?qqx1670 ?qqo1670 w.heap.size 7 ?qqh1670 y7 Tryz.rObj_impl_Value YZ7.out (O3.out.range 7 _ E7.out) ?_); (case qqg1670 => rfl); (case qqo1670 => rfl); (case qqh1670 => first | (simp; done) | (simp [Act.eval]; done) | (simp only [Act.put]; simp; done) | (simp only [Act.put]; simp [Act.eval]; done)))
      | ((with_reducible refine wpList_load_rowG ?qqg1671 31 ?qqx1671 ?qqo1671 w.heap.size 12 ?qqh1671 y8 Tryz.rObj_impl_Value YZ8.out (O3.out.range 12 _ E8.out) ?_); (case qqg1671 => rfl); (case qqo1671 => rfl); (case qqh1671 => first | (simp; done) | (simp [Act.eval]; done) | (simp only [Act.put]; simp; done) | (simp only [Act.put]; simp [Act.eval]; done)))
      )
    refine (HK4.out _ B3.out).mono ?_
    rintro e w4 ⟨rfl, hb4⟩
    have O4 := uhide (O3.out.below hb4)
    have B4 : Hid (Below w.heap.size w w4) := B3.out.trans (hb4.mono B3.out.size)
    clear hb4
    go_wp2_with (first
      | ((with_reducible refine wpList_load_oneG ?qqg1679 3 ?qqx1679 ?qqo1679 w.heap.size 0 ?qqh1679 (.int .i64 z0) Tryz.rObj_int (O4.out.cell 0 _ E0.out) ?_); (case qqg1679 => rfl); (case qqo1679 => rfl); (case qqh1679 => first | (simp; done) | (simp [Act.eval]; done) | (simp only [Act.put]; simp; done) | (simp only [Act.put]; simp [Act.eval]; done)))
      | ((with_reducible refine wpList_load_oneG ?qqg1680 9 ?qqx1680 ?qqo1680 w.heap.size 1 ?qqh1680 (.string z1) Tryz.rObj_string (O4.out.cell 1 _ E1.out) ?_); (case qqg1680 => rfl); (case qqo1680 => rfl); (case qqh1680 => first | (simp; done) | (simp [Act.eval]; done) | (simp only [Act.put]; simp; done) | (simp only [Act.put]; simp [Act.eval]; done)))
      | ((with_reducible refine wpList_load_oneG ?qqg1681 3 ?qqx1681 ?qqo1681 w.heap.size 2 ?qqh1681 (.int .i64 z2) Tryz.rObj_int (O4.out.cell 2 _ E2.out) ?_); (case qqg1681 => rfl); (case qqo1681 => rfl); (case qqh1681 => first | (simp; done) | (simp [Act.eval]; done) | (simp only [Act.put]; simp; done) | (simp only [Act.put]; simp [Act.eval]; done)))
      | ((with_reducible refine wpList_load_oneG ?qqg1682 3 ?qqx1682 ?qqo1682 w.heap.size 3 ?qqh1682 (.int .i64 z3) Tryz.rObj_int (O4.out.cell 3 _ E3.out) ?_); (case qqg1682 => rfl); (case qqo1682 => rfl); (case qqh1682 => first | (simp; done) | (simp [Act.eval]; done) | (simp only [Act.put]; simp; done) | (simp only [Act.put]; simp [Act.eval]; done)))
      | ((with_reducible refine wpList_load_oneG ?qqg1683 3 ?qqx1683 ?qqo1683 w.heap.size 4 ?qqh1683 (.int .i64 z4) Tryz.rObj_int (O4.out.cell 4 _ E4.out) ?_); (case qqg1683 => rfl); (case qqo1683 => rfl); (case qqh1683 => first | (simp; done) | (simp [Act.eval]; done) | (simp only [Act.put]; simp; done) | (simp only [Act.put]; simp [Act.eval]; done)))
      | ((with_reducible refine wpList_load_oneG ?qqg1684 4 ?qqx1684 ?qqo1684 w.heap.size 5 ?qqh1684 (.bool z5) Tryz.rObj_bool (O4.out.cell 5 _ E5.out) ?_); (case qqg1684 => rfl); (case qqo1684 => rfl); (case qqh1684 => first | (simp; done) | (simp [Act.eval]; done) | (simp only [Act.put]; simp; done) | (simp only [Act.put]; simp [Act.eval]; done)))
      | ((with_reducible refine wpList_load_oneG ?qqg1685 28 ?qqx1685 ?qqo1685 w.heap.size 6 ?qqh1685 ((.slice a6 n6 cp6)) Tryz.rObj_Lstring (O4.out.cell 6 _ E6.out) ?_); (case qqg1685 => rfl); (case qqo1685 => rfl); (case qqh1685 => first | (simp; done) | (simp [Act.eval]; done) | (simp only [Act.put]; simp; done) | (simp only [Act.put]; simp [Act.eval]; done)))
      | ((with_reducible refine wpList_load_rowG ?qqg1686 31 ?qqx1686 ?qqo1686 w.heap.size 7 ?qqh1686 y7 Tryz.rObj_impl_Value YZ7.out (O4.out.range 7 _ E7.out) ?_); (case qqg1686 => rfl); (case qqo1686 => rfl); (case qqh1686 => first | (simp; done) | (simp [Act.eval]; done) | (simp only [Act.put]; simp; done) | (simp only [Act.put]; simp [Act.eval]; done)))
      | ((with_reducible refine wpList_load_rowG ?qqg1687 31 ?qqx1687 ?qqo1687 w.heap.size 12 ?qqh1687 y8 Tryz.rObj_impl_Value YZ8.out (O4.out.range 12 _ E8.out) ?_); (case qqg1687 => rfl); (case qqo1687 => rfl); (case qqh1687 => first | (simp; done) | (simp [Act.eval]; done) | (simp only [Act.put]; simp; done) | (simp only [Act.put]; simp [Act.eval]; done)))
      )
    refine (HK5.out _ B4.out).mono ?_
    rintro e w5 ⟨rfl, hb5⟩
    have O5 := uhide (O4.out.below hb5)
    have B5 : Hid (Below w.heap.size w w5) := B4.out.trans (hb5.mono B4.out.size)
    clear hb5
    go_wp2_with (first
      | ((with_reducible refine wpList_load_oneG ?qqg1695 3 ?qqx1695 ?qqo1695 w.heap.size 0 ?qqh1695 (.int .i64 z0) Tryz.rObj_int (O5.out.cell 0 _ E0.out) ?_); (case qqg1695 => rfl); (case qqo1695 => rfl); (case qqh1695 => first | (simp; done) | (simp [Act.eval]; done) | (simp only [Act.put]; simp; done) | (simp only [Act.put]; simp [Act.eval]; done)))
      | ((with_reducible refine wpList_load_oneG ?qqg1696 9 ?qqx1696 ?qqo1696 w.heap.size 1 ?qqh1696 (.string z1) Tryz.rObj_string (O5.out.cell 1 _ E1.out) ?_); (case qqg1696 => rfl); (case qqo1696 => rfl); (case qqh1696 => first | (simp; done) | (simp [Act.eval]; done) | (simp only [Act.put]; simp; done) | (simp only [Act.put]; simp [Act.eval]; done)))
      | ((with_reducible refine wpList_load_oneG ?qqg1697 3 ?qqx1697 ?qqo1697 w.heap.size 2 ?qqh1697 (.int .i64 z2) Tryz.rObj_int (O5.out.cell 2 _ E2.out) ?_); (case qqg1697 => rfl); (case qqo1697 => rfl); (case qqh1697 => first | (simp; done) | (simp [Act.eval]; done) | (simp only [Act.put]; simp; done) | (simp only [Act.put]; simp [Act.eval]; done)))
      | ((with_reducible refine wpList_load_oneG ?qqg1698 3 ?qqx1698 ?qqo1698 w.heap.size 3 ?qqh1698 (.int .i64 z3) Tryz.rObj_int (O5.out.cell 3 _ E3.out) ?_); (case qqg1698 => rfl); (case qqo1698 => rfl); (case qqh1698 => first | (simp; done) | (simp [Act.eval]; done) | (simp only [Act.put]; simp; done) | (simp only [Act.put]; simp [Act.eval]; done)))
      | ((with_reducible refine wpList_load_oneG ?qqg1699 3 ?qqx1699 ?qqo1699 w.heap.size 4 ?qqh1699 (.int .i64 z4) Tryz.rObj_int (O5.out.cell 4 _ E4.out) ?_); (case qqg1699 => rfl); (case qqo1699 => rfl); (case qqh1699 => first | (simp; done) | (simp [Act.eval]; done) | (simp only [Act.put]; simp; done) | (simp only [Act.put]; simp [Act.eval]; done)))
      | ((with_reducible refine wpList_load_oneG ?qqg1700 4 ?qqx1700 ?qqo1700 w.heap.size 5 ?qqh1700 (.bool z5) Tryz.rObj_bool (O5.out.cell 5 _ E5.out) ?_); (case qqg1700 => rfl); (case qqo1700 => rfl); (case qqh1700 => first | (simp; done) | (simp [Act.eval]; done) | (simp only [Act.put]; simp; done) | (simp only [Act.put]; simp [Act.eval]; done)))
      | ((with_reducible refine wpList_load_oneG ?qqg1701 28 ?qqx1701 ?qqo1701 w.heap.size 6 ?qqh1701 ((.slice a6 n6 cp6)) Tryz.rObj_Lstring (O5.out.cell 6 _ E6.out) ?_); (case qqg1701 => rfl); (case qqo1701 => rfl); (case qqh1701 => first | (simp; done) | (simp [Act.eval]; done) | (simp only [Act.put]; simp; done) | (simp only [Act.put]; simp [Act.eval]; done)))
      | ((with_reducible refine wpList_load_rowG ?qqg1702 31 ?qqx1702 ?qqo1702 w.heap.size 7 ?qqh1702 y7 Tryz.rObj_impl_Value YZ7.out (O5.out.range 7 _ E7.out) ?_); (case qqg1702 => rfl); (case qqo1702 => rfl); (case qqh1702 => first | (simp; done) | (simp [Act.eval]; done) | (simp only [Act.put]; simp; done) | (simp only [Act.put]; simp [Act.eval]; done)))
      | ((with_reducible refine wpList_load_rowG ?qqg1703 31 ?qqx1703 ?qqo1703 w.heap.size 12 ?qqh1703 y8 Tryz.rObj_impl_Value YZ8.out (O5.out.range 12 _ E8.out) ?_); (case qqg1703 => rfl); (case qqo1703 => rfl); (case qqh1703 => first | (simp; done) | (simp [Act.eval]; done) | (simp only [Act.put]; simp; done) | (simp only [Act.put]; simp [Act.eval]; done)))
      )
    refine (HK2.out _ B5.out).mono ?_
    rintro e w2 ⟨rfl, hb2⟩
    have O2 := uhide (O5.out.below hb2)
    have B2 : Hid (Below w.heap.size w w2) := B5.out.trans (hb2.mono B5.out.size)
    clear hb2
    go_wp2_with (first
      | ((with_reducible refine wpList_load_oneG ?qqg1711 3 ?qqx1711 ?qqo1711 w.heap.size 0 ?qqh1711 (.int .i64 z0) Tryz.rObj_int (O2.out.cell 0 _ E0.out) ?_); (case qqg1711 => rfl); (case qqo1711 => rfl); (case qqh1711 => first | (simp; done) | (simp [Act.eval]; done) | (simp only [Act.put]; simp; done) | (simp only [Act.put]; simp [Act.eval]; done)))
      | ((with_reducible refine wpList_load_oneG ?qqg1712 9 ?qqx1712 ?qqo1712 w.heap.size 1 ?qqh1712 (.string z1) Tryz.rObj_string (O2.out.cell 1 _ E1.out) ?_); (case qqg1712 => rfl); (case qqo1712 => rfl); (case qqh1712 => first | (simp; done) | (simp [Act.eval]; done) | (simp only [Act.put]; simp; done) | (simp only [Act.put]; simp [Act.eval]; done)))
      | ((with_reducible refine wpList_load_oneG ?qqg1713 3 ?qqx1713 ?qqo1713 w.heap.size 2 ?qqh1713 (.int .i64 z2) Tryz.rObj_int (O2.out.cell 2 _ E2.out) ?_); (case qqg1713 => rfl); (case qqo1713 => rfl); (case qqh1713 => first | (simp; done) | (simp [Act.eval]; done) | (simp only [Act.put]; simp; done) | (simp only [Act.put]; simp [Act.eval]; done)))
      | ((with_reducible refine wpList_load_oneG ?qqg1714 3 ?qqx1714 ?qqo1714 w.heap.size 3 ?qqh1714 (.int .i64 z3) Tryz.rObj_int (O2.out.cell 3 _ E3.out) ?_); (case qqg1714 => rfl); (case qqo1714 => rfl); (case qqh1714 => first | (simp; done) | (simp [Act.eval]; done) | (simp only [Act.put]; simp; done) | (simp only [Act.put]; simp [Act.eval]; done)))
      | ((with_reducible refine wpList_load_oneG ?qqg1715 3 ?qqx1715 ?qqo1715 w.heap.size 4 ?qqh1715 (.int .i64 z4) Tryz.rObj_int (O2.out.cell 4 _ E4.out) ?_); (case qqg1715 => rfl); (case qqo1715 => rfl); (case qqh1715 => first | (simp; done) | (simp [Act.eval]; done) | (simp only [Act.put]; simp; done) | (simp only [Act.put]; simp [Act.eval]; done)))
      | ((with_reducible refine wpList_load_oneG ?qqg1716 4 ?qqx1716 ?qqo1716 w.heap.size 5 ?qqh1716 (.bool z5) Tryz.rObj_bool (O2.out.cell 5 _ E5.out) ?_); (case qqg1716 => rfl); (case qqo1716 => rfl); (case qqh1716 => first | (simp; done) | (simp [Act.eval]; done) | (simp only [Act.put]; simp; done) | (simp only [Act.put]; simp [Act.eval]; done)))
      | ((with_reducible refine wpList_load_oneG ?qqg1717 28 ?qqx1717 ?qqo1717 w.heap.size 6 ?qqh1717 ((.slice a6 n6 cp6)) Tryz.rObj_Lstring (O2.out.cell 6 _ E6.out) ?_); (case qqg1717 => rfl); (case qqo1717 => rfl); (case qqh1717 => first | (simp; done) | (simp [Act.eval]; done) | (simp only [Act.put]; simp; done) | (simp only [Act.put]; simp [Act.eval]; done)))
      | ((with_reducible refine wpList_load_rowG ?qqg1718 31 ?qqx1718 ?qqo1718 w.heap.size 7 ?qqh1718 y7 Tryz.rObj_impl_Value YZ7.out (O2.out.range 7 _ E7.out) ?_); (case qqg1718 => rfl); (case qqo1718 => rfl); (case qqh1718 => first | (simp; done) | (simp [Act.eval]; done) | (simp only [Act.put]; simp; done) | (simp only [Act.put]; simp [Act.eval]; done)))
      | ((with_reducible refine wpList_load_rowG ?qqg1719 31 ?qqx1719 ?qqo1719 w.heap.size 12 ?qqh1719 y8 Tryz.rObj_impl_Value YZ8.out (O2.out.range 12 _ E8.out) ?_); (case qqg1719 => rfl); (case qqo1719 => rfl); (case qqh1719 => first | (simp; done) | (simp [Act.eval]; done) | (simp only [Act.put]; simp; done) | (simp only [Act.put]; simp [Act.eval]; done)))
      )
    refine (HK6.out _ B2.out).mono ?_
    rintro e w6 ⟨rfl, hb6⟩
    have O6 := uhide (O2.out.below hb6)
    have B6 : Hid (Below w.heap.size w w6) := B2.out.trans (hb6.mono B2.out.size)
    clear hb6
    go_wp2_with (first
      | ((with_reducible refine wpList_load_oneG ?qqg1727 3 ?qqx1727 ?qqo1727 w.heap.size 0 ?qqh1727 (.int .i64 z0) Tryz.rObj_int (O6.out.cell 0 _ E0.out) ?_); (case qqg1727 => rfl); (case qqo1727 => rfl); (case qqh1727 => first | (simp; done) | (simp [Act.eval]; done) | (simp only [Act.put]; simp; done) | (simp only [Act.put]; simp [Act.eval]; done)))
      | ((with_reducible refine wpList_load_oneG ?qqg1728 9 ?qqx1728 ?qqo1728 w.heap.size 1 ?qqh1728 (.string z1) Tryz.rObj_string (O6.out.cell 1 _ E1.out) ?_); (case qqg1728 => rfl); (case qqo1728 => rfl); (case qqh1728 => first | (simp; done) | (simp [Act.eval]; done) | (simp only [Act.put]; simp; done) | (simp only [Act.put]; simp [Act.eval]; done)))
      | ((with_reducible refine wpList_load_oneG ?qqg1729 3 ?qqx1729 ?qqo1729 w.heap.size 2 ?qqh1729 (.int .i64 z2) Tryz.rObj_int (O6.out.cell 2 _ E2.out) ?_); (case qqg1729 => rfl); (case qqo1729 => rfl); (case qqh1729 => first | (simp; done) | (simp [Act.eval]; done) | (simp only [Act.put]; simp; done) | (simp only [Act.put]; simp [Act.eval]; done)))
      | ((with_reducible refine wpList_load_oneG ?qqg1730 3 ?qqx1730 ?qqo1730 w.heap.size 3 ?qqh1730 (.int .i64 z3) Tryz.rObj_int (O6.out.cell 3 _ E3.out) ?_); (case qqg1730 => rfl); (case qqo1730 => rfl); (case qqh1730 => first | (simp; done) | (simp [Act.eval]; done) | (simp only [Act.put]; simp; done) | (simp only [Act.put]; simp [Act.eval]; done)))
      | ((with_reducible refine wpList_load_oneG ?qqg1731 3 ?qqx1731 ?qqo1731 w.heap.size 4 ?qqh1731 (.int .i64 z4) Tryz.rObj_int (O6.out.cell 4 _ E4.out) ?_); (case qqg1731 => rfl); (case qqo1731 => rfl); (case qqh1731 => first | (simp; done) | (simp [Act.eval]; done) | (simp only [Act.put]; simp; done) | (simp only [Act.put]; simp [Act.eval]; done)))
      | ((with_reducible refine wpList_load_oneG ?qqg1732 4 ?qqx1732 ?qqo1732 w.heap.size 5 ?qqh1732 (.bool z5) Tryz.rObj_bool (O6.out.cell 5 _ E5.out) ?_); (case qqg1732 => rfl); (case qqo1732 => rfl); (case qqh1732 => first | (simp; done) | (simp [Act.eval]; done) | (simp only [Act.put]; simp; done) | (simp only [Act.put]; simp [Act.eval]; done)))
      | ((with_reducible refine wpList_load_oneG ?qqg1733 28 ?qqx1733 ?qqo1733 w.heap.size 6 ?qqh1733 ((.slice a6 n6 cp6)) Tryz.rObj_Lstring (O6.out.cell 6 _ E6.out) ?_); (case qqg1733 => rfl); (case qqo1733 => rfl); (case qqh1733 => first | (simp; done) | (simp [Act.eval]; done) | (simp only [Act.put]; simp; done) | (simp only [Act.put]; simp [Act.eval]; done)))
      | ((with_reducible refine wpList_load_rowG ?qqg1734 31 ?qqx1734 ?qqo1734 w.heap.size 7 ?qqh1734 y7 Tryz.rObj_impl_Value YZ7.out (O6.out.range 7 _ E7.out) ?_); (case qqg1734 => rfl); (case qqo1734 => rfl); (case qqh1734 => first | (simp; done) | (simp [Act.eval]; done) | (simp only [Act.put]; simp; done) | (simp only [Act.put]; simp [Act.eval]; done)))
      | ((with_reducible refine wpList_load_rowG ?qqg1735 31 ?qqx1735 ?qqo1735 w.heap.size 12 ?qqh1735 y8 Tryz.rObj_impl_Value YZ8.out (O6.out.range 12 _ E8.out) ?_); (case qqg1735 => rfl); (case qqo1735 => rfl); (case qqh1735 => first | (simp; done) | (simp [Act.eval]; done) | (simp only [Act.put]; simp; done) | (simp only [Act.put]; simp [Act.eval]; done)))
      )
    refine (HK7.out _ B6.out).mono ?_
    rintro e w7 ⟨rfl, hb7⟩
    have O7 := uhide (O6.out.below hb7)
    have B7 : Hid (Below w.heap.size w w7) := B6.out.trans (hb7.mono B6.out.size)
    clear hb7
    go_wp2
    go_ret
    exact ⟨ret_bool (by simp), B7.out⟩
  | false =>
    cases z5 with
    | false =>
      go_enter Tryz.func170, Tryz.ntmps170
      go_wp2_with (first
        | ((with_reducible refine wpList_load_oneG ?qqg1750 3 ?qqx1750 ?qqo1750 w.heap.size 0 ?qqh1750 (.int .i64 z0) Tryz.rObj_int (OA.out.cell 0 _ E0.out) ?_); (case qqg1750 => rfl); (case qqo1750 => rfl); (case qqh1750 => first | (simp; done) | (simp [Act.eval]; done) | (simp only [Act.put]; simp; done) | (simp only [Act.put]; simp [Act.eval]; done)))
        | ((with_reducible refine wpList_load_oneG ?qqg1751 9 ?qqx1751 ?qqo1751 w.heap.size 1 ?qqh1751 (.string z1) Tryz.rObj_string (OA.out.cell 1 _ E1.out) ?_); (case qqg1751 => rfl); (case qqo1751 => rfl); (case qqh1751 => first | (simp; done) | (simp [Act.eval]; done) | (simp only [Act.put]; simp; done) | (simp only [Act.put]; simp [Act.eval]; done)))
        | ((with_reducible refine wpList_load_oneG ?qqg1752 3 ?qqx1752 ?qqo1752 w.heap.size 2 ?qqh1752 (.int .i64 z2) Tryz.rObj_int (OA.out.cell 2 _ E2.out) ?_); (case qqg1752 => rfl); (case qqo1752 => rfl); (case qqh1752 => first | (simp; done) | (simp [Act.eval]; done) | (simp only [Act.put]; simp; done) | (simp only [Act.put]; simp [Act.eval]; done)))
        | ((with_reducible refine wpList_load_oneG ?qqg1753 3 ?qqx1753 ?qqo1753 w.heap.size 3 ?qqh1753 (.int .i64 z3) Tryz.rObj_int (OA.out.cell 3 _ E3.out) ?_); (case qqg1753 => rfl); (case qqo1753 => rfl); (case qqh1753 => first | (simp; done) | (simp [Act.eval]; done) | (simp only [Act.put]; simp; done) | (simp only [Act.put]; simp [Act.eval]; done)))
        | ((with_reducible refine wpList_load_oneG ?qqg1754 3 ?qqx1754 ?qqo1754 w.heap.size 4 ?qqh1754 (.int .i64 z4) Tryz.rObj_int (OA.out.cell 4 _ E4.out) ?_); (case qqg1754 => rfl); (case qqo1754 => rfl); (case qqh1754 => first | (simp; done) | (simp [Act.eval]; done) | (simp only [Act.put]; simp; done) | (simp only [Act.put]; simp [Act.eval]; done)))
        | ((with_reducible refine wpList_load_oneG ?qqg1755 4 ?qqx1755 ?qqo1755 w.heap.size 5 ?qqh1755 (.bool false) Tryz.rObj_bool (OA.out.cell 5 _ E5.out) ?_); (case qqg1755 => rfl); (case qqo1755 => rfl); (case qqh1755 => first | (simp; done) | (simp [Act.eval]; done) | (simp only [Act.put]; simp; done) | (simp only [Act.put]; simp [Act.eval]; done)))
        | ((with_reducible refine wpList_load_oneG ?qqg1756 28 ?qqx1756 ?qqo1756 w.heap.size 6 ?qqh1756 ((.slice a6 n6 cp6)) Tryz.rObj_Lstring (OA.out.cell 6 _ E6.out) ?_); (case qqg1756 => rfl); (case qqo1756 => rfl); (case qqh1756 => first | (simp; done) | (simp [Act.eval]; done) | (simp only [Act.put]; simp; done) | (simp only [Act.put]; simp [Act.eval]; done)))
        | ((with_reducible refine wpList_load_rowG ?qqg1757 31 ?qqx1757 ?qqo1757 w.heap.size 7 ?qqh1757 y7 Tryz.rObj_impl_Value YZ7.out (OA.out.range 7 _ E7.out) ?_); (case qqg1757 => rfl); (case qqo1757 => rfl); (case qqh1757 => first | (simp; done) | (simp [Act.eval]; done) | (simp only [Act.put]; simp; done) | (simp only [Act.put]; simp [Act.eval]; done)))
        | ((with_reducible refine wpList_load_rowG ?qqg1758 31 ?qqx1758 ?qqo1758 w.heap.size 12 ?qqh1758 y8 Tryz.rObj_impl_Value YZ8.out (OA.out.range 12 _ E8.out) ?_); (case qqg1758 => rfl); (case qqo1758 => rfl); (case qqh1758 => first | (simp; done) | (simp [Act.eval]; done) | (simp only [Act.put]; simp; done) | (simp only [Act.put]; simp [Act.eval]; done)))
        )
      refine (HK0.out _ BA.out).mono ?_
      rintro e w0 ⟨rfl, hb0⟩
      have O0 := uhide (OA.out.below hb0)
      have B0 : Hid (Below w.heap.size w w0) := BA.out.trans (hb0.mono BA.out.size)
      clear hb0
      go_wp2_with (first
        | ((with_reducible refine wpList_load_oneG ?qqg1766 3 ?qqx1766 ?qqo1766 w.heap.size 0 ?qqh1766 (.int .i64 z0) Tryz.rObj_int (O0.out.cell 0 _ E0.out) ?_); (case qqg1766 => rfl); (case qqo1766 => rfl); (case qqh1766 => first | (simp; done) | (simp [Act.eval]; done) | (simp only [Act.put]; simp; done) | (simp only [Act.put]; simp [Act.eval]; done)))
        | ((with_reducible refine wpList_load_oneG ?qqg1767 9 ?qqx1767 ?qqo1767 w.heap.size 1 ?qqh1767 (.string z1) Tryz.rObj_string (O0.out.cell 1 _ E1.out) ?_); (case qqg1767 => rfl); (case qqo1767 => rfl); (case qqh1767 => first | (simp; done) | (simp [Act.eval]; done) | (simp only [Act.put]; simp; done) | (simp only [Act.put]; simp [Act.eval]; done)))
        | ((with_reducible refine wpList_load_oneG ?qqg1768 3 ?qqx1768 ?qqo1768 w.heap.size 2 ?qqh1768 (.int .i64 z2) Tryz.rObj_int (O0.out.cell 2 _ E2.out) ?_); (case qqg1768 => rfl); (case qqo1768 => rfl); (case qqh1768 => first | (simp; done) | (simp [Act.eval]; done) | (simp only [Act.put]; simp; done) | (simp only [Act.put]; simp [Act.eval]; done)))
        | ((with_reducible refine wpList_load_oneG ?qqg1769 3 ?qqx1769 ?qqo1769 w.heap.size 3 ?qqh1769 (.int .i64 z3) Tryz.rObj_int (O0.out.cell 3 _ E3.out) ?_); (case qqg1769 => rfl); (case qqo1769 => rfl); (case qqh1769 => first | (simp; done) | (simp [Act.eval]; done) | (simp only [Act.put]; simp; done) | (simp only [Act.put]; simp [Act.eval]; done)))
        | ((with_reducible refine wpList_load_oneG ?qqg1770 3 ?qqx1770 ?qqo1770 w.heap.size 4 ?qqh1770 (.int .i64 z4) Tryz.rObj_int (O0.out.cell 4 _ E4.out) ?_); (case qqg1770 => rfl); (case qqo1770 => rfl); (case qqh1770 => first | (simp; done) | (simp [Act.eval]; done) | (simp only [Act.put]; simp; done) | (simp only [Act.put]; simp [Act.eval]; done)))
        | ((with_reducible refine wpList_load_oneG ?qqg1771 4 ?qqx1771 ?qqo1771 w.heap.size 5 ?qqh1771 (.bool false) Tryz.rObj_bool (O0.out.cell 5 _ E5.out) ?_); (case qqg1771 => rfl); (case qqo1771 => rfl); (case qqh1771 => first | (simp; done) | (simp [Act.eval]; done) | (simp only [Act.put]; simp; done) | (simp only [Act.put]; simp [Act.eval]; done)))
        | ((with_reducible refine wpList_load_oneG ?qqg1772 28 ?qqx1772 ?qqo1772 w.heap.size 6 ?qqh1772 ((.slice a6 n6 cp6)) Tryz.rObj_Lstring (O0.out.cell 6 _ E6.out) ?_); (case qqg1772 => rfl); (case qqo1772 => rfl); (case qqh1772 => first | (simp; done) | (simp [Act.eval]; done) | (simp only [Act.put]; simp; done) | (simp only [Act.put]; simp [Act.eval]; done)))
        | ((with_reducible refine wpList_load_rowG ?qqg1773 31 ?qqx1773 ?qqo1773 w.heap.size 7 ?qqh1773 y7 Tryz.rObj_impl_Value YZ7.out (O0.out.range 7 _ E7.out) ?_); (case qqg1773 => rfl); (case qqo1773 => rfl); (case qqh1773 => first | (simp; done) | (simp [Act.eval]; done) | (simp only [Act.put]; simp; done) | (simp only [Act.put]; simp [Act.eval]; done)))
        | ((with_reducible refine wpList_load_rowG ?qqg1774 31 ?qqx1774 ?qqo1774 w.heap.size 12 ?qqh1774 y8 Tryz.rObj_impl_Value YZ8.out (O0.out.range 12 _ E8.out) ?_); (case qqg1774 => rfl); (case qqo1774 => rfl); (case qqh1774 => first | (simp; done) | (simp [Act.eval]; done) | (simp only [Act.put]; simp; done) | (simp only [Act.put]; simp [Act.eval]; done)))
        )
      refine (HK1.out _ B0.out).mono ?_
      rintro e w1 ⟨rfl, hb1⟩
      have O1 := uhide (O0.out.below hb1)
      have B1 : Hid (Below w.heap.size w w1) := B0.out.trans (hb1.mono B0.out.size)
      clear hb1
      go_wp2_with (first
        | ((with_reducible refine wpList_load_oneG ?qqg1782 3 ?qqx1782 ?qqo1782 w.heap.size 0 ?qqh1782 (.int .i64 z0) Tryz.rObj_int (O1.out.cell 0 _ E0.out) ?_); (case qqg1782 => rfl); (case qqo1782 => rfl); (case qqh1782 => first | (simp; done) | (simp [Act.eval]; done) | (simp only [Act.put]; simp; done) | (simp only [Act.put]; simp [Act.eval]; done)))
        | ((with_reducible refine wpList_load_oneG ?qqg1783 9 ?qqx1783 ?qqo1783 w.heap.size 1 ?qqh1783 (.string z1) Tryz.rObj_string (O1.out.cell 1 _ E1.out) ?_); (case qqg1783 => rfl); (case qqo1783 => rfl); (case qqh1783 => first | (simp; done) | (simp [Act.eval]; done) | (simp only [Act.put]; simp; done) | (simp only [Act.put]; simp [Act.eval]; done)))
        | ((with_reducible refine wpList_load_oneG ?qqg1784 3 ?qqx1784 ?qqo1784 w.heap.size 2 ?qqh1784 (.int .i64 z2) Tryz.rObj_int (O1.out.cell 2 _ E2.out) ?_); (case qqg1784 => rfl); (case qqo1784 => rfl); (case qqh1784 => first | (simp; done) | (simp [Act.eval]; done) | (simp only [Act.put]; simp; done) | (simp only [Act.put]; simp [Act.eval]; done)))
        | ((with_reducible refine wpList_load_oneG ?qqg1785 3 ?qqx1785 ?qqo1785 w.heap.size 3 ?qqh1785 (.int .i64 z3) Tryz.rObj_int (O1.out.cell 3 _ E3.out) ?_); (case qqg1785 => rfl); (case qqo1785 => rfl); (case qqh1785 => first | (simp; done) | (simp [Act.eval]; done) | (simp only [Act.put]; simp; done) | (simp only [Act.put]; simp [Act.eval]; done)))
        | ((with_reducible refine wpList_load_oneG ?qqg1786 3 ?qqx1786 ?qqo1786 w.heap.size 4 ?qqh1786 (.int .i64 z4) Tryz.rObj_int (O1.out.cell 4 _ E4.out) ?_); (case qqg1786 => rfl); (case qqo1786 => rfl); (case qqh1786 => first | (simp; done) | (simp [Act.eval]; done) | (simp only [Act.put]; simp; done) | (simp only [Act.put]; simp [Act.eval]; done)))
        | ((with_reducible refine wpList_load_oneG ?qqg1787 4 ?qqx1787 ?qqo1787 w.heap.size 5 ?qqh1787 (.bool false) Tryz.rObj_bool (O1.out.cell 5 _ E5.out) ?_); (case qqg1787 => rfl); (case qqo1787 => rfl); (case qqh1787 => first | (simp; done) | (simp [Act.eval]; done) | (simp only [Act.put]; simp; done) | (simp only [Act.put]; simp [Act.eval]; done)))
        | ((with_reducible refine wpList_load_oneG ?qqg1788 28 ?qqx1788 ?qqo1788 w.heap.size 6 ?qqh1788 ((.slice a6 n6 cp6)) Tryz.rObj_Lstring (O1.out.cell 6 _ E6.out) ?_); (case qqg1788 => rfl); (case qqo1788 => rfl); (case qqh1788 => first | (simp; done) | (simp [Act.eval]; done) | (simp only [Act.put]; simp; done) | (simp only [Act.put]; simp [Act.eval]; done)))
        | ((with_reducible refine wpList_load_rowG ?qqg1789 31 ?qqx1789 ?qqo1789 w.heap.size 7 ?qqh1789 y7 Tryz.rObj_impl_Value YZ7.out (O1.out.range 7 _ E7.out) ?_); (case qqg1789 => rfl); (case qqo1789 => rfl); (case qqh1789 => first | (simp; done) | (simp [Act.eval]; done) | (simp only [Act.put]; simp; done) | (simp only [Act.put]; simp [Act.eval]; done)))
        | ((with_reducible refine wpList_load_rowG ?qqg1790 31 ?qqx1790 ?qqo1790 w.heap.size 12 ?qqh1790 y8 Tryz.rObj_impl_Value YZ8.out (O1.out.range 12 _ E8.out) ?_); (case qqg1790 => rfl); (case qqo1790 => rfl); (case qqh1790 => first | (simp; done) | (simp [Act.eval]; done) | (simp only [Act.put]; simp; done) | (simp only [Act.put]; simp [Act.eval]; done)))
        )
      refine (HK3.out _ B1.out).mono ?_
      rintro e w3 ⟨rfl, hb3⟩
      have O3 := uhide (O1.out.below hb3)
      have B3 : Hid (Below w.heap.size w w3) := B1.out.trans (hb3.mono B1.out.size)
      clear hb3
      go_wp2_with (first
        | ((with_reducible refine wpList_load_oneG ?qqg1798 3 ?qqx1798 ?qqo1798 w.heap.size 0 ?qqh1798 (.int .i64 z0) Tryz.rObj_int (O3.out.cell 0 _ E0.out) ?_); (case qqg1798 => rfl); (case qqo1798 => rfl); (case qqh1798 => first | (simp; done) | (simp [Act.eval]; done) | (simp only [Act.put]; simp; done) | (simp only [Act.put]; simp [Act.eval]; done)))
        | ((with_reducible refine wpList_load_oneG ?qqg1799 9 ?qqx1799 ?qqo1799 w.heap.size 1 ?qqh1799 (.string z1) Tryz.rObj_string (O3.out.cell 1 _ E1.out) ?_); (case qqg1799 => rfl); (case qqo1799 => rfl); (case qqh1799 => first | (simp; done) | (simp [Act.eval]; done) | (simp only [Act.put]; simp; done) | (simp only [Act.put]; simp [Act.eval]; done)))
        | ((with_reducible refine wpList_load_oneG ?qqg1800 3 ?qqx1800 ?qqo1800 w.heap.size 2 ?qqh1800 (.int .i64 z2) Tryz.rObj_int (O3.out.cell 2 _ E2.out) ?_); (case qqg1800 => rfl); (case qqo1800 => rfl); (case qqh1800 => first | (simp; done) | (simp [Act.eval]; done) | (simp only [Act.put]; simp; done) | (simp only [Act.put]; simp [Act.eval]; done)))
        | ((with_reducible refine wpList_load_oneG ?qqg1801 3 ?qqx1801 ?qqo1801 w.heap.size 3 ?qqh1801 (.int .i64 z3) Tryz.rObj_int (O3.out.cell 3 _ E3.out) ?_); (case qqg1801 => rfl); (case qqo1801 => rfl); (case qqh1801 => first | (simp; done) | (simp [Act.eval]; done) | (simp only [Act.put]; simp; done) | (simp only [Act.put]; simp [Act.eval]; done)))
        | ((with_reducible refine wpList_load_oneG ?qqg1802 3 ?qqx1802 ?qqo1802 w.heap.size 4 ?qqh1802 (.int .i64 z4) Tryz.rObj_int (O3.out.cell 4 _ E4.out) ?_); (case qqg1802 => rfl); (case qqo1802 => rfl); (case qqh1802 => first | (simp; done) | (simp [Act.eval]; done) | (simp only [Act.put]; simp; done) | (simp only [Act.put]; simp [Act.eval]; done)))
        | ((with_reducible refine wpList_load_oneG ?qqg1803 4 ?qqx1803 ?qqo1803 w.heap.size 5 ?qqh1803 (.bool false) Tryz.rObj_bool (O3.out.cell 5 _ E5.out) ?_); (case qqg1803 => rfl); (case qqo1803 => rfl); (case qqh1803 => first | (simp; done) | (simp [Act.eval]; done) | (simp only [Act.put]; simp; done) | (simp only [Act.put]; simp [Act.eval]; done)))
        | ((with_reducible refine wpList_load_oneG ?qqg1804 28 ?qqx1804 ?qqo1804 w.heap.size 6 ?qqh1804 ((.slice a6 n6 cp6)) Tryz.rObj_Lstring (O3.out.cell 6 _ E6.out) ?_); (case qqg1804 => rfl); (case qqo1804 => rfl); (case qqh1804 => first | (simp; done) | (simp [Act.eval]; done) | (simp only [Act.put]; simp; done) | (simp only [Act.put]; simp [Act.eval]; done)))
        | ((with_reducible refine wpList_load_rowG ?qqg1805 31 ?qqx1805 ?qqo1805 w.heap.size 7 ?qqh1805 y7 Tryz.rObj_impl_Value YZ7.out (O3.out.range 7 _ E7.out) ?_); (case qqg1805 => rfl); (case qqo1805 => rfl); (case qqh1805 => first | (simp; done) | (simp [Act.eval]; done) | (simp only [Act.put]; simp; done) | (simp only [Act.put]; simp [Act.eval]; done)))
        | ((with_reducible refine wpList_load_rowG ?qqg1806 31 ?qqx1806 ?qqo1806 w.heap.size 12 ?qqh1806 y8 Tryz.rObj_impl_Value YZ8.out (O3.out.range 12 _ E8.out) ?_); (case qqg1806 => rfl); (case qqo1806 => rfl); (case qqh1806 => first | (simp; done) | (simp [Act.eval]; done) | (simp only [Act.put]; simp; done) | (simp only [Act.put]; simp [Act.eval]; done)))
        )
      refine (HK4.out _ B3.out).mono ?_
      rintro e w4 ⟨rfl, hb4⟩
      have O4 := uhide (O3.out.below hb4)
      have B4 : Hid (Below w.heap.size w w4) := B3.out.trans (hb4.mono B3.out.size)
      clear hb4
      go_wp2_with (first
        | ((with_reducible refine wpList_load_oneG ?qqg1814 3 ?qqx1814 ?qqo1814 w.heap.size 0 ?qqh1814 (.int .i64 z0) Tryz.rObj_int (O4.out.cell 0 _ E0.out) ?_); (case qqg1814 => rfl); (case qqo1814 => rfl); (case qqh1814 => first | (simp; done) | (simp [Act.eval]; done) | (simp only [Act.put]; simp; done) | (simp only [Act.put]; simp [Act.eval]; done)))
        | ((with_reducible refine wpList_load_oneG ?qqg1815 9 ?qqx1815 ?qqo1815 w.heap.size 1 ?qqh1815 (.string z1) Tryz.rObj_string (O4.out.cell 1 _ E1.out) ?_); (case qqg1815 => rfl); (case qqo1815 => rfl); (case qqh1815 => first | (simp; done) | (simp [Act.eval]; done) | (simp only [Act.put]; simp; done) | (simp only [Act.put]; simp [Act.eval]; done)))
        | ((with_reducible refine wpList_load_oneG ?qqg1816 3 ?qqx1816 ?qqo1816 w.heap.size 2 ?qqh1816 (.int .i64 z2) Tryz.rObj_int (O4.out.cell 2 _ E2.out) ?_); (case qqg1816 => rfl); (case qqo1816 => rfl); (case qqh1816 => first | (simp; done) | (simp [Act.eval]; done) | (simp only [Act.put]; simp; done) | (simp only [Act.put]; simp [Act.eval]; done)))
        | ((with_reducible refine wpList_load_oneG ?qqg1817 3 ?qqx1817 ?qqo1817 w.heap.size 3 ?qqh1817 (.int .i64 z3) Tryz.rObj_int (O4.out.cell 3 _ E3.out) ?_); (case qqg1817 => rfl); (case qqo1817 => rfl); (case qqh1817 => first | (simp; done) | (simp [Act.eval]; done) | (simp only [Act.put]; simp; done) | (simp only [Act.put]; simp [Act.eval]; done)))
        | ((with_reducible refine wpList_load_oneG ?qqg1818 3 ?qqx1818 ?qqo1818 w.heap.size 4 ?qqh1818 (.int .i64 z4) Tryz.rObj_int (O4.out.cell 4 _ E4.out) ?_); (case qqg1818 => rfl); (case qqo1818 => rfl); (case qqh1818 => first | (simp; done) | (simp [Act.eval]; done) | (simp only [Act.put]; simp; done) | (simp only [Act.put]; simp [Act.eval]; done)))
        | ((with_reducible refine wpList_load_oneG ?qqg1819 4 ?qqx1819 ?qqo1819 w.heap.size 5 ?qqh1819 (.bool false) Tryz.rObj_bool (O4.out.cell 5 _ E5.out) ?_); (case qqg1819 => rfl); (case qqo1819 => rfl); (case qqh1819 => first | (simp; done) | (simp [Act.eval]; done) | (simp only [Act.put]; simp; done) | (simp only [Act.put]; simp [Act.eval]; done)))
        | ((with_reducible refine wpList_load_oneG ?qqg1820 28 ?qqx1820 ?qqo1820 w.heap.size 6 ?qqh1820 ((.slice a6 n6 cp6)) Tryz.rObj_Lstring (O4.out.cell 6 _ E6.out) ?_); (case qqg1820 => rfl); (case qqo1820 => rfl); (case qqh1820 => first | (simp; done) | (simp [Act.eval]; done) | (simp only [Act.put]; simp; done) | (simp only [Act.put]; simp [Act.eval]; done)))
        | ((with_reducible refine wpList_load_rowG ?qqg1821 31 ?qqx1821 ?qqo1821 w.heap.size 7 ?qqh1821 y7 Tryz.rObj_impl_Value YZ7.out (O4.out.range 7 _ E7.out) ?_); (case qqg1821 => rfl); (case qqo1821 => rfl); (case qqh1821 => first | (simp; done) | (simp [Act.eval]; done) | (simp only [Act.put]; simp; done) | (simp only [Act.put]; simp [Act.eval]; done)))
        | ((with_reducible refine wpList_load_rowG ?qqg1822 31 ?qqx1822 ?qqo1822 w.heap.size 12 ?qqh1822 y8 Tryz.rObj_impl_Value YZ8.out (O4.out.range 12 _ E8.out) ?_); (case qqg1822 => rfl); (case qqo1822 => rfl); (case qqh1822 => first | (simp; done) | (simp [Act.eval]; done) | (simp only [Act.put]; simp; done) | (simp only [Act.put]; simp [Act.eval]; done)))
        )
      refine (HK5.out _ B4.out).mono ?_
      rintro e w5 ⟨rfl, hb5⟩
      have O5 := uhide (O4.out.below hb5)
      have B5 : Hid (Below w.heap.size w w5) := B4.out.trans (hb5.mono B4.out.size)
      clear hb5
      go_wp2_with (first
        | ((with_reducible refine wpList_load_oneG ?qqg1830 3 ?qqx1830 ?qqo1830 w.heap.size 0 ?qqh1830 (.int .i64 z0) Tryz.rObj_int (O5.out.cell 0 _ E0.out) ?_); (case qqg1830 => rfl); (case qqo1830 => rfl); (case qqh1830 => first | (simp; done) | (simp [Act.eval]; done) | (simp only [Act.put]; simp; done) | (simp only [Act.put]; simp [Act.eval]; done)))
        | ((with_reducible refine wpList_load_oneG ?qqg1831 9 ?qqx1831 ?qqo1831 w.heap.size 1 ?qqh1831 (.string z1) Tryz.rObj_string (O5.out.cell 1 _ E1.out) ?_); (case qqg1831 => rfl); (case qqo1831 => rfl); (case qqh1831 => first | (simp; done) | (simp [Act.eval]; done) | (simp only [Act.put]; simp; done) | (simp only [Act.put]; simp [Act.eval]; done)))
        | ((with_reducible refine wpList_load_oneG ?qqg1832 3 ?qqx1832 ?qqo1832 w.heap.size 2 ?qqh1832 (.int .i64 z2) Tryz.rObj_int (O5.out.cell 2 _ E2.out) ?_); (case qqg1832 => rfl); (case qqo1832 => rfl); (case qqh1832 => first | (simp; done) | (simp [Act.eval]; done) | (simp only [Act.put]; simp; done) | (simp only [Act.put]; simp [Act.eval]; done)))
        | ((with_reducible refine wpList_load_oneG ?qqg1833 3 ?qqx1833 ?qqo1833 w.heap.size 3 ?qqh1833 (.int .i64 z3) Tryz.rObj_int (O5.out.cell 3 _ E3.out) ?_); (case qqg1833 => rfl); (case qqo1833 => rfl); (case qqh1833 => first | (simp; done) | (simp [Act.eval]; done) | (simp only [Act.put]; simp; done) | (simp only [Act.put]; simp [Act.eval]; done)))
        | ((with_reducible refine wpList_load_oneG ?qqg1834 3 ?qqx1834 ?qqo1834 w.heap.size 4 ?qqh1834 (.int .i64 z4) Tryz.rObj_int (O5.out.cell 4 _ E4.out) ?_); (case qqg1834 => rfl); (case qqo1834 => rfl); (case qqh1834 => first | (simp; done) | (simp [Act.eval]; done) | (simp only [Act.put]; simp; done) | (simp only [Act.put]; simp [Act.eval]; done)))
        | ((with_reducible refine wpList_load_oneG ?qqg1835 4 ?qqx1835 ?qqo1835 w.heap.size 5 ?qqh1835 (.bool false) Tryz.rObj_bool (O5.out.cell 5 _ E5.out) ?_); (case qqg1835 => rfl); (case qqo1835 => rfl); (case qqh1835 => first | (simp; done) | (simp [Act.eval]; done) | (simp only [Act.put]; simp; done) | (simp only [Act.put]; simp [Act.eval]; done)))
        | ((with_reducible refine wpList_load_oneG ?qqg1836 28 ?qqx1836 ?qqo1836 w.heap.size 6 ?qqh1836 ((.slice a6 n6 cp6)) Tryz.rObj_Lstring (O5.out.cell 6 _ E6.out) ?_); (case qqg1836 => rfl); (case qqo1836 => rfl); (case qqh1836 => first | (simp; done) | (simp [Act.eval]; done) | (simp only [Act.put]; simp; done) | (simp only [Act.put]; simp [Act.eval]; done)))
        | ((with_reducible refine wpList_load_rowG ?qqg1837 31 ?qqx1837 ?qqo1837 w.heap.size 7 ?qqh1837 y7 Tryz.rObj_impl_Value YZ7.out (O5.out.range 7 _ E7.out) ?_); (case qqg1837 => rfl); (case qqo1837 => rfl); (case qqh1837 => first | (simp; done) | (simp [Act.eval]; done) | (simp only [Act.put]; simp; done) | (simp only [Act.put]; simp [Act.eval]; done)))
        | ((with_reducible refine wpList_load_rowG ?qqg1838 31 ?qqx1838 ?qqo1838 w.heap.size 12 ?qqh1838 y8 Tryz.rObj_impl_Value YZ8.out (O5.out.range 12 _ E8.out) ?_); (case qqg1838 => rfl); (case qqo1838 => rfl); (case qqh1838 => first | (simp; done) | (simp [Act.eval]; done) | (simp only [Act.put]; simp; done) | (simp only [Act.put]; simp [Act.eval]; done)))
        )
      refine (HK2.out _ B5.out).mono ?_
      rintro e w2 ⟨rfl, hb2⟩
      have O2 := uhide (O5.out.below hb2)
      have B2 : Hid (Below w.heap.size w w2) := B5.out.trans (hb2.mono B5.out.size)
      clear hb2
      go_wp2_with (first
        | ((with_reducible refine wpList_load_oneG ?qqg1846 3 ?qqx1846 ?qqo1846 w.heap.size 0 ?qqh1846 (.int .i64 z0) Tryz.rObj_int (O2.out.cell 0 _ E0.out) ?_); (case qqg1846 => rfl); (case qqo1846 => rfl); (case qqh1846 => first | (simp; done) | (simp [Act.eval]; done) | (simp only [Act.put]; simp; done) | (simp only [Act.put]; simp [Act.eval]; done)))
        | ((with_reducible refine wpList_load_oneG ?qqg1847 9 ?qqx1847 ?qqo1847 w.heap.size 1 ?qqh1847 (.string z1) Tryz.rObj_string (O2.out.cell 1 _ E1.out) ?_); (case qqg1847 => rfl); (case qqo1847 => rfl); (case qqh1847 => first | (simp; done) | (simp [Act.eval]; done) | (simp only [Act.put]; simp; done) | (simp only [Act.put]; simp [Act.eval]; done)))
        | ((with_reducible refine wpList_load_oneG ?qqg1848 3 ?qqx1848 ?qqo1848 w.heap.size 2 ?qqh1848 (.int .i64 z2) Tryz.rObj_int (O2.out.cell 2 _ E2.out) ?_); (case qqg1848 => rfl); (case qqo1848 => rfl); (case qqh1848 => first | (simp; done) | (simp [Act.eval]; done) | (simp only [Act.put]; simp; done) | (simp only [Act.put]; simp [Act.eval]; done)))
        | ((with_reducible refine wpList_load_oneG ?qqg1849 3 ?qqx1849 ?qqo1849 w.heap.size 3 ?qqh1849 (.int .i64 z3) Tryz.rObj_int (O2.out.cell 3 _ E3.out) ?_); (case qqg1849 => rfl); (case qqo1849 => rfl); (case qqh1849 => first | (simp; done) | (simp [Act.eval]; done) | (simp only [Act.put]; simp; done) | (simp only [Act.put]; simp [Act.eval]; done)))
        | ((with_reducible refine wpList_load_oneG ?qqg1850 3 ?qqx1850 ?qqo1850 w.heap.size 4 ?qqh1850 (.int .i64 z4) Tryz.rObj_int (O2.out.cell 4 _ E4.out) ?_); (case qqg1850 => rfl); (case qqo1850 => rfl); (case qqh1850 => first | (simp; done) | (simp [Act.eval]; done) | (simp only [Act.put]; simp; done) | (simp only [Act.put]; simp [Act.eval]; done)))
        | ((with_reducible refine wpList_load_oneG ?qqg1851 4 ?qqx1851 ?qqo1851 w.heap.size 5 ?qqh1851 (.bool false) Tryz.rObj_bool (O2.out.cell 5 _ E5.out) ?_); (case qqg1851 => rfl); (case qqo1851 => rfl); (case qqh1851 => first | (simp; done) | (simp [Act.eval]; done) | (simp only [Act.put]; simp; done) | (simp only [Act.put]; simp [Act.eval]; done)))
        | ((with_reducible refine wpList_load_oneG ?qqg1852 28 ?qqx1852 ?qqo1852 w.heap.size 6 ?qqh1852 ((.slice a6 n6 cp6)) Tryz.rObj_Lstring (O2.out.cell 6 _ E6.out) ?_); (case qqg1852 => rfl); (case qqo1852 => rfl); (case qqh1852 => first | (simp; done) | (simp [Act.eval]; done) | (simp only [Act.put]; simp; done) | (simp only [Act.put]; simp [Act.eval]; done)))
        | ((with_reducible refine wpList_load_rowG ?qqg1853 31 ?qqx1853 ?qqo1853 w.heap.size 7 ?qqh1853 y7 Tryz.rObj_impl_Value YZ7.out (O2.out.range 7 _ E7.out) ?_); (case qqg1853 => rfl); (case qqo1853 => rfl); (case qqh1853 => first | (simp; done) | (simp [Act.eval]; done) | (simp only [Act.put]; simp; done) | (simp only [Act.put]; simp [Act.eval]; done)))
        | ((with_reducible refine wpList_load_rowG ?qqg1854 31 ?qqx1854 ?qqo1854 w.heap.size 12 ?qqh1854 y8 Tryz.rObj_impl_Value YZ8.out (O2.out.range 12 _ E8.out) ?_); (case qqg1854 => rfl); (case qqo1854 => rfl); (case qqh1854 => first | (simp; done) | (simp [Act.eval]; done) | (simp only [Act.put]; simp; done) | (simp only [Act.put]; simp [Act.eval]; done)))
        )
      refine (HK6.out _ B2.out).mono ?_
      rintro e w6 ⟨rfl, hb6⟩
      have O6 := uhide (O2.out.below hb6)
      have B6 : Hid (Below w.heap.size w w6) := B2.out.trans (hb6.mono B2.out.size)
      clear hb6
      go_wp2_with (first
        | ((with_reducible refine wpList_load_oneG ?qqg1862 3 ?qqx1862 ?qqo1862 w.heap.size 0 ?qqh1862 (.int .i64 z0) Tryz.rObj_int (O6.out.cell 0 _ E0.out) ?_); (case qqg1862 => rfl); (case qqo1862 => rfl); (case qqh1862 => first | (simp; done) | (simp [Act.eval]; done) | (simp only [Act.put]; simp; done) | (simp only [Act.put]; simp [Act.eval]; done)))
        | ((with_reducible refine wpList_load_oneG ?qqg1863 9 ?qqx1863 ?qqo1863 w.heap.size 1 ?qqh1863 (.string z1) Tryz.rObj_string (O6.out.cell 1 _ E1.out) ?_); (case qqg1863 => rfl); (case qqo1863 => rfl); (case qqh1863 => first | (simp; done) | (simp [Act.eval]; done) | (simp only [Act.put]; simp; done) | (simp only [Act.put]; simp [Act.eval]; done)))
        | ((with_reducible refine wpList_load_oneG ?qqg1864 3 ?qqx1864 ?qqo1864 w.heap.size 2 ?qqh1864 (.int .i64 z2) Tryz.rObj_int (O6.out.cell 2 _ E2.out) ?_); (case qqg1864 => rfl); (case qqo1864 => rfl); (case qqh1864 => first | (simp; done) | (simp [Act.eval]; done) | (simp only [Act.put]; simp; done) | (simp only [Act.put]; simp [Act.eval]; done)))
        | ((with_reducible refine wpList_load_oneG ?qqg1865 3 ?qqx1865 ?qqo1865 w.heap.size 3 ?qqh1865 (.int .i64 z3) Tryz.rObj_int (O6.out.cell 3 _ E3.out) ?_); (case qqg1865 => rfl); (case qqo1865 => rfl); (case qqh1865 => first | (simp; done) | (simp [Act.eval]; done) | (simp only [Act.put]; simp; done) | (simp only [Act.put]; simp [Act.eval]; done)))
        | ((with_reducible refine wpList_load_oneG ?qqg1866 3 ?qqx1866 ?qqo1866 w.heap.size 4 ?qqh1866 (.int .i64 z4) Tryz.rObj_int (O6.out.cell 4 _ E4.out) ?_); (case qqg1866 => rfl); (case qqo1866 => rfl); (case qqh1866 => first | (simp; done) | (simp [Act.eval]; done) | (simp only [Act.put]; simp; done) | (simp only [Act.put]; simp [Act.eval]; done)))
        | ((with_reducible refine wpList_load_oneG ?qqg1867 4 ?qqx1867 ?qqo1867 w.heap.size 5 ?qqh1867 (.bool false) Tryz.rObj_bool (O6.out.cell 5 _ E5.out) ?_); (case qqg1867 => rfl); (case qqo1867 => rfl); (case qqh1867 => first | (simp; done) | (simp [Act.eval]; done) | (simp only [Act.put]; simp; done) | (simp only [Act.put]; simp [Act.eval]; done)))
        | ((with_reducible refine wpList_load_oneG ?qqg1868 28 ?qqx1868 ?qqo1868 w.heap.size 6 ?qqh1868 ((.slice a6 n6 cp6)) Tryz.rObj_Lstring (O6.out.cell 6 _ E6.out) ?_); (case qqg1868 => rfl); (case qqo1868 => rfl); (case qqh1868 => first | (simp; done) | (simp [Act.eval]; done) | (simp only [Act.put]; simp; done) | (simp only [Act.put]; simp [Act.eval]; done)))
        | ((with_reducible refine wpList_load_rowG ?qqg1869 31 ?qqx1869 ?qqo1869 w.heap.size 7 ?qqh1869 y7 Tryz.rObj_impl_Value YZ7.out (O6.out.range 7 _ E7.out) ?_); (case qqg1869 => rfl); (case qqo1869 => rfl); (case qqh1869 => first | (simp; done) | (simp [Act.eval]; done) | (simp only [Act.put]; simp; done) | (simp only [Act.put]; simp [Act.eval]; done)))
        | ((with_reducible refine wpList_load_rowG ?qqg1870 31 ?qqx1870 ?qqo1870 w.heap.size 12 ?qqh1870 y8 Tryz.rObj_impl_Value YZ8.out (O6.out.range 12 _ E8.out) ?_); (case qqg1870 => rfl); (case qqo1870 => rfl); (case qqh1870 => first | (simp; done) | (simp [Act.eval]; done) | (simp only [Act.put]; simp; done) | (simp only [Act.put]; simp [Act.eval]; done)))
        )
      refine (HK7.out _ B6.out).mono ?_
      rintro e w7 ⟨rfl, hb7⟩
      have O7 := uhide (O6.out.below hb7)
      have B7 : Hid (Below w.heap.size w w7) := B6.out.trans (hb7.mono B6.out.size)
      clear hb7
      go_wp2_with (first
        | ((with_reducible refine wpList_load_oneG ?qqg1878 4 ?qqx1878 ?qqo1878 w.heap.size 5 ?qqh1878 (.bool false) Tryz.rObj_bool (O7.out.cell 5 _ E5.out) ?_); (case qqg1878 => rfl); (case qqo1878 => rfl); (case qqh1878 => first | (simp; done) | (simp [Act.eval]; done) | (simp only [Act.put]; simp; done) | (simp only [Act.put]; simp [Act.eval]; done)))
        | ((with_reducible refine wpList_load_oneG ?qqg1879 28 ?qqx1879 ?qqo1879 w.heap.size 6 ?qqh1879 ((.slice a6 n6 cp6)) Tryz.rObj_Lstring (O7.out.cell 6 _ E6.out) ?_); (case qqg1879 => rfl); (case qqo1879 => rfl); (case qqh1879 => first | (simp; done) | (simp [Act.eval]; done) | (simp only [Act.put]; simp; done) | (simp only [Act.put]; simp [Act.eval]; done)))
        )
      go_ret
      exact ⟨ret_bool (by simp), B7.out⟩
    | true =>
      by_cases h6 : n6 = 0
      · have h6p : ¬ ((0 : Int) < (n6 : Int)) := by omega
        have H6 := uhide h6
        clear h6
        go_enter Tryz.func170, Tryz.ntmps170
        go_wp2_with (first
          | ((with_reducible refine wpList_load_oneG ?qqg1890 3 ?qqx1890 ?qqo1890 w.heap.size 0 ?qqh1890 (.int .i64 z0) Tryz.rObj_int (OA.out.cell 0 _ E0.out) ?_); (case qqg1890 => rfl); (case qqo1890 => rfl); (case qqh1890 => first | (simp; done) | (simp [Act.eval]; done) | (simp only [Act.put]; simp; done) | (simp only [Act.put]; simp [Act.eval]; done)))
          | ((with_reducible refine wpList_load_oneG ?qqg1891 9 ?qqx1891 ?qqo1891 w.heap.size 1 ?qqh1891 (.string z1) Tryz.rObj_string (OA.out.cell 1 _ E1.out) ?_); (case qqg1891 => rfl); (case qqo1891 => rfl); (case qqh1891 => first | (simp; done) | (simp [Act.eval]; done) | (simp only [Act.put]; simp; done) | (simp only [Act.put]; simp [Act.eval]; done)))
          | ((with_reducible refine wpList_load_oneG ?qqg1892 3 ?qqx1892 ?qqo1892 w.heap.size 2 ?qqh1892 (.int .i64 z2) Tryz.rObj_int (OA.out.cell 2 _ E2.out) ?_); (case qqg1892 => rfl); (case qqo1892 => rfl); (case qqh1892 => first | (simp; done) | (simp [Act.eval]; done) | (simp only [Act.put]; simp; done) | (simp only [Act.put]; simp [Act.eval]; done)))
          | ((with_reducible refine wpList_load_oneG ?qqg1893 3 ?qqx1893 ?qqo1893 w.heap.size 3 ?qqh1893 (.int .i64 z3) Tryz.rObj_int (OA.out.cell 3 _ E3.out) ?_); (case qqg1893 => rfl); (case qqo1893 => rfl); (case qqh1893 => first | (simp; done) | (simp [Act.eval]; done) | (simp only [Act.put]; simp; done) | (simp only [Act.put]; simp [Act.eval]; done)))
          | ((with_reducible refine wpList_load_oneG ?qqg1894 3 ?qqx1894 ?qqo1894 w.heap.size 4 ?qqh1894 (.int .i64 z4) Tryz.rObj_int (OA.out.cell 4 _ E4.out) ?_); (case qqg1894 => rfl); (case qqo1894 => rfl); (case qqh1894 => first | (simp; done) | (simp [Act.eval]; done) | (simp only [Act.put]; simp; done) | (simp only [Act.put]; simp [Act.eval]; done)))
          | ((with_reducible refine wpList_load_oneG ?qqg1895 4 ?qqx1895 ?qqo1895 w.heap.size 5 ?qqh1895 (.bool true) Tryz.rObj_bool (OA.out.cell 5 _ E5.out) ?_); (case qqg1895 => rfl); (case qqo1895 => rfl); (case qqh1895 => first | (simp; done) | (simp [Act.eval]; done) | (simp only [Act.put]; simp; done) | (simp only [Act.put]; simp [Act.eval]; done)))
          | ((with_reducible refine wpList_load_oneG ?qqg1896 28 ?qqx1896 ?qqo1896 w.heap.size 6 ?qqh1896 ((.slice a6 n6 cp6)) Tryz.rObj_Lstring (OA.out.cell 6 _ E6.out) ?_); (case qqg1896 => rfl); (case qqo1896 => rfl); (case qqh1896 => first | (simp; done) | (simp [Act.eval]; done) | (simp only [Act.put]; simp; done) | (simp only [Act.put]; simp [Act.eval]; done)))
          | ((with_reducible refine wpList_load_rowG ?qqg1897 31 ?qqx1897 ?qqo1897 w.heap.size 7 ?qqh1897 y7 Tryz.rObj_impl_Value YZ7.out (OA.out.range 7 _ E7.out) ?_); (case qqg1897 => rfl); (case qqo1897 => rfl); (case qqh1897 => first | (simp; done) | (simp [Act.eval]; done) | (simp only [Act.put]; simp; done) | (simp only [Act.put]; simp [Act.eval]; done)))
          | ((with_reducible refine wpList_load_rowG ?qqg1898 31 ?qqx1898 ?qqo1898 w.heap.size 12 ?qqh1898 y8 Tryz.rObj_impl_Value YZ8.out (OA.out.range 12 _ E8.out) ?_); (case qqg1898 => rfl); (case qqo1898 => rfl); (case qqh1898 => first | (simp; done) | (simp [Act.eval]; done) | (simp only [Act.put]; simp; done) | (simp only [Act.put]; simp [Act.eval]; done)))
          )
        refine (HK0.out _ BA.out).mono ?_
        rintro e w0 ⟨rfl, hb0⟩
        have O0 := uhide (OA.out.below hb0)
        have B0 : Hid (Below w.heap.size w w0) := BA.out.trans (hb0.mono BA.out.size)
        clear hb0
        go_wp2_with (first
          | ((with_reducible refine wpList_load_oneG ?qqg1906 3 ?qqx1906 ?qqo1906 w.heap.size 0 ?qqh1906 (.int .i64 z0) Tryz.rObj_int (O0.out.cell 0 _ E0.out) ?_); (case qqg1906 => rfl); (case qqo1906 => rfl); (case qqh1906 => first | (simp; done) | (simp [Act.eval]; done) | (simp only [Act.put]; simp; done) | (simp only [Act.put]; simp [Act.eval]; done)))
          | ((with_reducible refine wpList_load_oneG ?qqg1907 9 ?qqx1907 ?qqo1907 w.heap.size 1 ?qqh1907 (.string z1) Tryz.rObj_string (O0.out.cell 1 _ E1.out) ?_); (case qqg1907 => rfl); (case qqo1907 => rfl); (case qqh1907 => first | (simp; done) | (simp [Act.eval]; done) | (simp only [Act.put]; simp; done) | (simp only [Act.put]; simp [Act.eval]; done)))
          | ((with_reducible refine wpList_load_oneG ?qqg1908 3 ?qqx1908 ?qqo1908 w.heap.size 2 ?qqh1908 (.int .i64 z2) Tryz.rObj_int (O0.out.cell 2 _ E2.out) ?_); (case qqg1908 => rfl); (case qqo1908 => rfl); (case qqh1908 => first | (simp; done) | (simp [Act.eval]; done) | (simp only [Act.put]; simp; done) | (simp only [Act.put]; simp [Act.eval]; done)))
          | ((with_reducible refine wpList_load_oneG ?qqg1909 3 ?qqx1909 ?qqo1909 w.heap.size 3 ?qqh1909 (.int .i64 z3) Tryz.rObj_int (O0.out.cell 3 _ E3.out) ?_); (case qqg1909 => rfl); (case qqo1909 => rfl); (case qqh1909 => first | (simp; done) | (simp [Act.eval]; done) | (simp only [Act.put]; simp; done) | (simp only [Act.put]; simp [Act.eval]; done)))
          | ((with_reducible refine wpList_load_oneG ?qqg1910 3 ?qqx1910 ?qqo1910 w.heap.size 4 ?qqh1910 (.int .i64 z4) Tryz.rObj_int (O0.out.cell 4 _ E4.out) ?_); (case qqg1910 => rfl); (case qqo1910 => rfl); (case qqh1910 => first | (simp; done) | (simp [Act.eval]; done) | (simp only [Act.put]; simp; done) | (simp only [Act.put]; simp [Act.eval]; done)))
          | ((with_reducible refine wpList_load_oneG ?qqg1911 4 ?qqx1911 ?qqo1911 w.heap.size 5 ?qqh1911 (.bool true) Tryz.rObj_bool (O0.out.cell 5 _ E5.out) ?_); (case qqg1911 => rfl); (case qqo1911 => rfl); (case qqh1911 => first | (simp; done) | (simp [Act.eval]; done) | (simp only [Act.put]; simp; done) | (simp only [Act.put]; simp [Act.eval]; done)))
          | ((with_reducible refine wpList_load_oneG ?qqg1912 28 ?qqx1912 ?qqo1912 w.heap.size 6 ?qqh1912 ((.slice a6 n6 cp6)) Tryz.rObj_Lstring (O0.out.cell 6 _ E6.out) ?_); (case qqg1912 => rfl); (case qqo1912 => rfl); (case qqh1912 => first | (simp; done) | (simp [Act.eval]; done) | (simp only [Act.put]; simp; done) | (simp only [Act.put]; simp [Act.eval]; done)))
          | ((with_reducible refine wpList_load_rowG ?qqg1913 31 ?qqx1913 ?qqo1913 w.heap.size 7 ?qqh1913 y7 Tryz.rObj_impl_Value YZ7.out (O0.out.range 7 _ E7.out) ?_); (case qqg1913 => rfl); (case qqo1913 => rfl); (case qqh1913 => first | (simp; done) | (simp [Act.eval]; done) | (simp only [Act.put]; simp; done) | (simp only [Act.put]; simp [Act.eval]; done)))
          | ((with_reducible refine wpList_load_rowG ?qqg1914 31 ?qqx1914 ?qqo1914 w.heap.size 12 ?qqh1914 y8 Tryz.rObj_impl_Value YZ8.out (O0.out.range 12 _ E8.out) ?_); (case qqg1914 => rfl); (case qqo1914 => rfl); (case qqh1914 => first | (simp; done) | (simp [Act.eval]; done) | (simp only [Act.put]; simp; done) | (simp only [Act.put]; simp [Act.eval]; done)))
          )
        refine (HK1.out _ B0.out).mono ?_
        rintro e w1 ⟨rfl, hb1⟩
        have O1 := uhide (O0.out.below hb1)
        have B1 : Hid (Below w.heap.size w w1) := B0.out.trans (hb1.mono B0.out.size)
        clear hb1
        go_wp2_with (first
          | ((with_reducible refine wpList_load_oneG ?qqg1922 3 ?qqx1922 ?qqo1922 w.heap.size 0 ?qqh1922 (.int .i64 z0) Tryz.rObj_int (O1.out.cell 0 _ E0.out) ?_); (case qqg1922 => rfl); (case qqo1922 => rfl); (case qqh1922 => first | (simp; done) | (simp [Act.eval]; done) | (simp only [Act.put]; simp; done) | (simp only [Act.put]; simp [Act.eval]; done)))
          | ((with_reducible refine wpList_load_oneG ?qqg1923 9 ?qqx1923 ?qqo1923 w.heap.size 1 ?qqh1923 (.string z1) Tryz.rObj_string (O1.out.cell 1 _ E1.out) ?_); (case qqg1923 => rfl); (case qqo1923 => rfl); (case qqh1923 => first | (simp; done) | (simp [Act.eval]; done) | (simp only [Act.put]; simp; done) | (simp only [Act.put]; simp [Act.eval]; done)))
          | ((with_reducible refine wpList_load_oneG ?qqg1924 3 ?qqx1924 ?qqo1924 w.heap.size 2 ?qqh1924 (.int .i64 z2) Tryz.rObj_int (O1.out.cell 2 _ E2.out) ?_); (case qqg1924 => rfl); (case qqo1924 => rfl); (case qqh1924 => first | (simp; done) | (simp [Act.eval]; done) | (simp only [Act.put]; simp; done) | (simp only [Act.put]; simp [Act.eval]; done)))
          | ((with_reducible refine wpList_load_oneG ?qqg1925 3 ?qqx1925 ?qqo1925 w.heap.size 3 ?qqh1925 (.int .i64 z3) Tryz.rObj_int (O1.out.cell 3 _ E3.out) ?_); (case qqg1925 => rfl); (case qqo1925 => rfl); (case qqh1925 => first | (simp; done) | (simp [Act.eval]; done) | (simp only [Act.put]; simp; done) | (simp only [Act.put]; simp [Act.eval]; done)))
          | ((with_reducible refine wpList_load_oneG ?qqg1926 3 ?qqx1926 ?qqo1926 w.heap.size 4 ?qqh1926 (.int .i64 z4) Tryz.rObj_int (O1.out.cell 4 _ E4.out) ?_); (case qqg1926 => rfl); (case qqo1926 => rfl); (case qqh1926 => first | (simp; done) | (simp [Act.eval]; done) | (simp only [Act.put]; simp; done) | (simp only [Act.put]; simp [Act.eval]; done)))
          | ((with_reducible refine wpList_load_oneG ?qqg1927 4 ?qqx1927 ?qqo1927 w.heap.size 5 ?qqh1927 (.bool true) Tryz.rObj_bool (O1.out.cell 5 _ E5.out) ?_); (case qqg1927 => rfl); (case qqo1927 => rfl); (case qqh1927 => first | (simp; done) | (simp [Act.eval]; done) | (simp only [Act.put]; simp; done) | (simp only [Act.put]; simp [Act.eval]; done)))
          | ((with_reducible refine wpList_load_oneG ?qqg1928 28 ?qqx1928 ?qqo1928 w.heap.size 6 ?qqh1928 ((.slice a6 n6 cp6)) Tryz.rObj_Lstring (O1.out.cell 6 _ E6.out) ?_); (case qqg1928 => rfl); (case qqo1928 => rfl); (case qqh1928 => first | (simp; done) | (simp [Act.eval]; done) | (simp only [Act.put]; simp; done) | (simp only [Act.put]; simp [Act.eval]; done)))
          | ((with_reducible refine wpList_load_rowG ?qqg1929 31 ?qqx1929 ?qqo1929 w.heap.size 7 ?qqh1929 y7 Tryz.rObj_impl_Value YZ7.out (O1.out.range 7 _ E7.out) ?_); (case qqg1929 => rfl); (case qqo1929 => rfl); (case qqh1929 => first | (simp; done) | (simp [Act.eval]; done) | (simp only [Act.put]; simp; done) | (simp only [Act.put]; simp [Act.eval]; done)))
          | ((with_reducible refine wpList_load_rowG ?qqg1930 31 ?qqx1930 ?qqo1930 w.heap.size 12 ?qqh1930 y8 Tryz.rObj_impl_Value YZ8.out (O1.out.range 12 _ E8.out) ?_); (case qqg1930 => rfl); (case qqo1930 => rfl); (case qqh1930 => first | (simp; done) | (simp [Act.eval]; done) | (simp only [Act.put]; simp; done) | (simp only [Act.put]; simp [Act.eval]; done)))
          )
        refine (HK3.out _ B1.out).mono ?_
        rintro e w3 ⟨rfl, hb3⟩
        have O3 := uhide (O1.out.below hb3)
        have B3 : Hid (Below w.heap.size w w3) := B1.out.trans (hb3.mono B1.out.size)
        clear hb3
        go_wp2_with (first
          | ((with_reducible refine wpList_load_oneG ?qqg1938 3 ?qqx1938 ?qqo1938 w.heap.size 0 ?qqh1938 (.int .i64 z0) Tryz.rObj_int (O3.out.cell 0 _ E0.out) ?_); (case qqg1938 => rfl); (case qqo1938 => rfl); (case qqh1938 => first | (simp; done) | (simp [Act.eval]; done) | (simp only [Act.put]; simp; done) | (simp only [Act.put]; simp [Act.eval]; done)))
          | ((with_reducible refine wpList_load_oneG ?qqg1939 9 ?qqx1939 ?qqo1939 w.heap.size 1 ?qqh1939 (.string z1) Tryz.rObj_string (O3.out.cell 1 _ E1.out) ?_); (case qqg1939 => rfl); (case qqo1939 => rfl); (case qqh1939 => first | (simp; done) | (simp [Act.eval]; done) | (simp only [Act.put]; simp; done) | (simp only [Act.put]; simp [Act.eval]; done)))
          | ((with_reducible refine wpList_load_oneG ?qqg1940 3 ?qqx1940 ?qqo1940 w.heap.size 2 ?qqh1940 (.int .i64 z2) Tryz.rObj_int (O3.out.cell 2 _ E2.out) ?_); (case qqg1940 => rfl); (case qqo1940 => rfl); (case qqh1940 => first | (simp; done) | (simp [Act.eval]; done) | (simp only [Act.put]; simp; done) | (simp only [Act.put]; simp [Act.eval]; done)))
          | ((with_reducible refine wpList_load_oneG ?qqg1941 3 ?qqx1941 ?qqo1941 w.heap.size 3 ?qqh1941 (.int .i64 z3) Tryz.rObj_int (O3.out.cell 3 _ E3.out) ?_); (case qqg1941 => rfl); (case qqo1941 => rfl); (case qqh1941 => first | (simp; done) | (simp [Act.eval]; done) | (simp only [Act.put]; simp; done) | (simp only [Act.put]; simp [Act.eval]; done)))
          | ((with_reducible refine wpList_load_oneG ?qqg1942 3 ?qqx1942 ?qqo1942 w.heap.size 4 ?qqh1942 (.int .i64 z4) Tryz.rObj_int (O3.out.cell 4 _ E4.out) ?_); (case qqg1942 => rfl); (case qqo1942 => rfl); (case qqh1942 => first | (simp; done) | (simp [Act.eval]; done) | (simp only [Act.put]; simp; done) | (simp only [Act.put]; simp [Act.eval]; done)))
          | ((with_reducible refine wpList_load_oneG ?qqg1943 4 ?qqx1943 ?qqo1943 w.heap.size 5 ?qqh1943 (.bool true) Tryz.rObj_bool (O3.out.cell 5 _ E5.out) ?_); (case qqg1943 => rfl); (case qqo1943 => rfl); (case qqh1943 => first | (simp; done) | (simp [Act.eval]; done) | (simp only [Act.put]; simp; done) | (simp only [Act.put]; simp [Act.eval]; done)))
          | ((with_reducible refine wpList_load_oneG ?qqg1944 28 ?qqx1944 ?qqo1944 w.heap.size 6 ?qqh1944 ((.slice a6 n6 cp6)) Tryz.rObj_Lstring (O3.out.cell 6 _ E6.out) ?_); (case qqg1944 => rfl); (case qqo1944 => rfl); (case qqh1944 => first | (simp; done) | (simp [Act.eval]; done) | (simp only [Act.put]; simp; done) | (simp only [Act.put]; simp [Act.eval]; done)))
          | ((with_reducible refine wpList_load_rowG ?qqg1945 31 ?qqx1945 ?qqo1945 w.heap.size 7 ?qqh1945 y7 Tryz.rObj_impl_Value YZ7.out (O3.out.range 7 _ E7.out) ?_); (case qqg1945 => rfl); (case qqo1945 => rfl); (case qqh1945 => first | (simp; done) | (simp [Act.eval]; done) | (simp only [Act.put]; simp; done) | (simp only [Act.put]; simp [Act.eval]; done)))
          | ((with_reducible refine wpList_load_rowG ?qqg1946 31 ?qqx1946 ?qqo1946 w.heap.size 12 ?qqh1946 y8 Tryz.rObj_impl_Value YZ8.out (O3.out.range 12 _ E8.out) ?_); (case qqg1946 => rfl); (case qqo1946 => rfl); (case qqh1946 => first | (simp; done) | (simp [Act.eval]; done) | (simp only [Act.put]; simp; done) | (simp only [Act.put]; simp [Act.eval]; done)))
          )
        refine (HK4.out _ B3.out).mono ?_
        rintro e w4 ⟨rfl, hb4⟩
        have O4 := uhide (O3.out.below hb4)
        have B4 : Hid (Below w.heap.size w w4) := B3.out.trans (hb4.mono B3.out.size)
        clear hb4
        go_wp2_with (first
          | ((with_reducible refine wpList_load_oneG ?qqg1954 3 ?qqx1954 ?qqo1954 w.heap.size 0 ?qqh1954 (.int .i64 z0) Tryz.rObj_int (O4.out.cell 0 _ E0.out) ?_); (case qqg1954 => rfl); (case qqo1954 => rfl); (case qqh1954 => first | (simp; done) | (simp [Act.eval]; done) | (simp only [Act.put]; simp; done) | (simp only [Act.put]; simp [Act.eval]; done)))
          | ((with_reducible refine wpList_load_oneG ?qqg1955 9 ?qqx1955 ?qqo1955 w.heap.size 1 ?qqh1955 (.string z1) Tryz.rObj_string (O4.out.cell 1 _ E1.out) ?_); (case qqg1955 => rfl); (case qqo1955 => rfl); (case qqh1955 => first | (simp; done) | (simp [Act.eval]; done) | (simp only [Act.put]; simp; done) | (simp only [Act.put]; simp [Act.eval]; done)))
          | ((with_reducible refine wpList_load_oneG ?qqg1956 3 ?qqx1956 ?qqo1956 w.heap.size 2 ?qqh1956 (.int .i64 z2) Tryz.rObj_int (O4.out.cell 2 _ E2.out) ?_); (case qqg1956 => rfl); (case qqo1956 => rfl); (case qqh1956 => first | (simp; done) | (simp [Act.eval]; done) | (simp only [Act.put]; simp; done) | (simp only [Act.put]; simp [Act.eval]; done)))
          | ((with_reducible refine wpList_load_oneG ?qqg1957 3 ?qqx1957 ?qqo1957 w.heap.size 3 ?qqh1957 (.int .i64 z3) Tryz.rObj_int (O4.out.cell 3 _ E3.out) ?_); (case qqg1957 => rfl); (case qqo1957 => rfl); (case qqh1957 => first | (simp; done) | (simp [Act.eval]; done) | (simp only [Act.put]; simp; done) | (simp only [Act.put]; simp [Act.eval]; done)))
          | ((with_reducible refine wpList_load_oneG ?qqg1958 3 ?qqx1958 ?qqo1958 w.heap.size 4 ?qqh1958 (.int .i64 z4) Tryz.rObj_int (O4.out.cell 4 _ E4.out) ?_); (case qqg1958 => rfl); (case qqo1958 => rfl); (case qqh1958 => first | (simp; done) | (simp [Act.eval]; done) | (simp only [Act.put]; simp; done) | (simp only [Act.put]; simp [Act.eval]; done)))
          | ((with_reducible refine wpList_load_oneG ?qqg1959 4 ?qqx1959 ?qqo1959 w.heap.size 5 ?qqh1959 (.bool true) Tryz.rObj_bool (O4.out.cell 5 _ E5.out) ?_); (case qqg1959 => rfl); (case qqo1959 => rfl); (case qqh1959 => first | (simp; done) | (simp [Act.eval]; done) | (simp only [Act.put]; simp; done) | (simp only [Act.put]; simp [Act.eval]; done)))
          | ((with_reducible refine wpList_load_oneG ?qqg1960 28 ?qqx1960 ?qqo1960 w.heap.size 6 ?qqh1960 ((.slice a6 n6 cp6)) Tryz.rObj_Lstring (O4.out.cell 6 _ E6.out) ?_); (case qqg1960 => rfl); (case qqo1960 => rfl); (case qqh1960 => first | (simp; done) | (simp [Act.eval]; done) | (simp only [Act.put]; simp; done) | (simp only [Act.put]; simp [Act.eval]; done)))
          | ((with_reducible refine wpList_load_rowG ?qqg1961 31 ?qqx1961 ?qqo1961 w.heap.size 7 ?qqh1961 y7 Tryz.rObj_impl_Value YZ7.out (O4.out.range 7 _ E7.out) ?_); (case qqg1961 => rfl); (case qqo1961 => rfl); (case qqh1961 => first | (simp; done) | (simp [Act.eval]; done) | (simp only [Act.put]; simp; done) | (simp only [Act.put]; simp [Act.eval]; done)))
          | ((with_reducible refine wpList_load_rowG ?qqg1962 31 ?qqx1962 ?qqo1962 w.heap.size 12 ?qqh1962 y8 Tryz.rObj_impl_Value YZ8.out (O4.out.range 12 _ E8.out) ?_); (case qqg1962 => rfl); (case qqo1962 => rfl); (case qqh1962 => first | (simp; done) | (simp [Act.eval]; done) | (simp only [Act.put]; simp; done) | (simp only [Act.put]; simp [Act.eval]; done)))
          )
        refine (HK5.out _ B4.out).mono ?_
        rintro e w5 ⟨rfl, hb5⟩
        have O5 := uhide (O4.out.below hb5)
        have B5 : Hid (Below w.heap.size w w5) := B4.out.trans (hb5.mono B4.out.size)
        clear hb5
        go_wp2_with (first
          | ((with_reducible refine wpList_load_oneG ?qqg1970 3 ?qqx1970 ?qqo1970 w.heap.size 0 ?qqh1970 (.int .i64 z0) Tryz.rObj_int (O5.out.cell 0 _ E0.out) ?_); (case qqg1970 => rfl); (case qqo1970 => rfl); (case qqh1970 => first | (simp; done) | (simp [Act.eval]; done) | (simp only [Act.put]; simp; done) | (simp only [Act.put]; simp [Act.eval]; done)))
          | ((with_reducible refine wpList_load_oneG ?qqg1971 9 ?qqx1971 ?qqo1971 w.heap.size 1 ?qqh1971 (.string z1) Tryz.rObj_string (O5.out.cell 1 _ E1.out) ?_); (case qqg1971 => rfl); (case qqo1971 => rfl); (case qqh1971 => first | (simp; done) | (simp [Act.eval]; done) | (simp only [Act.put]; simp; done) | (simp only [Act.put]; simp [Act.eval]; done)))
          | ((with_reducible refine wpList_load_oneG ?qqg1972 3 ?qqx1972 ?qqo1972 w.heap.size 2 ?qqh1972 (.int .i64 z2) Tryz.rObj_int (O5.out.cell 2 _ E2.out) ?_); (case qqg1972 => rfl); (case qqo1972 => rfl); (case qqh1972 => first | (simp; done) | (simp [Act.eval]; done) | (simp only [Act.put]; simp; done) | (simp only [Act.put]; simp [Act.eval]; done)))
          | ((with_reducible refine wpList_load_oneG ?qqg1973 3 ?qqx1973 ?qqo1973 w.heap.size 3 ?qqh1973 (.int .i64 z3) Tryz.rObj_int (O5.out.cell 3 _ E3.out) ?_); (case qqg1973 => rfl); (case qqo1973 => rfl); (case qqh1973 => first | (simp; done) | (simp [Act.eval]; done) | (simp only [Act.put]; simp; done) | (simp only [Act.put]; simp [Act.eval]; done)))
          | ((with_reducible refine wpList_load_oneG ?qqg1974 3 ?qqx1974 ?qqo1974 w.heap.size 4 ?qqh1974 (.int .i64 z4) Tryz.rObj_int (O5.out.cell 4 _ E4.out) ?_); (case qqg1974 => rfl); (case qqo1974 => rfl); (case qqh1974 => first | (simp; done) | (simp [Act.eval]; done) | (simp only [Act.put]; simp; done) | (simp only [Act.put]; simp [Act.eval]; done)))
          | ((with_reducible refine wpList_load_oneG ?qqg1975 4 ?qqx1975 ?qqo1975 w.heap.size 5 ?qqh1975 (.bool true) Tryz.rObj_bool (O5.out.cell 5 _ E5.out) ?_); (case qqg1975 => rfl); (case qqo1975 => rfl); (case qqh1975 => first | (simp; done) | (simp [Act.eval]; done) | (simp only [Act.put]; simp; done) | (simp only [Act.put]; simp [Act.eval]; done)))
          | ((with_reducible refine wpList_load_oneG ?qqg1976 28 ?qqx1976 ?qqo1976 w.heap.size 6 ?qqh1976 ((.slice a6 n6 cp6)) Tryz.rObj_Lstring (O5.out.cell 6 _ E6.out) ?_); (case qqg1976 => rfl); (case qqo1976 => rfl); (case qqh1976 => first | (simp; done) | (simp [Act.eval]; done) | (simp only [Act.put]; simp; done) | (simp only [Act.put]; simp [Act.eval]; done)))
          | ((with_reducible refine wpList_load_rowG ?qqg1977 31 ?qqx1977 ?qqo1977 w.heap.size 7 ?qqh1977 y7 Tryz.rObj_impl_Value YZ7.out (O5.out.range 7 _ E7.out) ?_); (case qqg1977 => rfl); (case qqo1977 => rfl); (case qqh1977 => first | (simp; done) | (simp [Act.eval]; done) | (simp only [Act.put]; simp; done) | (simp only [Act.put]; simp [Act.eval]; done)))
          | ((with_reducible refine wpList_load_rowG ?qqg1978 31 ?qqx1978 ?qqo1978 w.heap.size 12 ?qqh1978 y8 Tryz.rObj_impl_Value YZ8.out (O5.out.range 12 _ E8.out) ?_); (case qqg1978 => rfl); (case qqo1978 => rfl); (case qqh1978 => first | (simp; done) | (simp [Act.eval]; done) | (simp only [Act.put]; simp; done) | (simp only [Act.put]; simp [Act.eval]; done)))
          )
        refine (HK2.out _ B5.out).mono ?_
        rintro e w2 ⟨rfl, hb2⟩
        have O2 := uhide (O5.out.below hb2)
        have B2 : Hid (Below w.heap.size w w2) := B5.out.trans (hb2.mono B5.out.size)
        clear hb2
        go_wp2_with (first
          | ((with_reducible refine wpList_load_oneG ?qqg1986 3 ?qqx1986 ?qqo1986 w.heap.size 0 ?qqh1986 (.int .i64 z0) Tryz.rObj_int (O2.out.cell 0 _ E0.out) ?_); (case qqg1986 => rfl); (case qqo1986 => rfl); (case qqh1986 => first | (simp; done) | (simp [Act.eval]; done) | (simp only [Act.put]; simp; done) | (simp only [Act.put]; simp [Act.eval]; done)))
          | ((with_reducible refine wpList_load_oneG ?qqg1987 9 ?qqx1987 ?qqo1987 w.heap.size 1 ?qqh1987 (.string z1) Tryz.rObj_string (O2.out.cell 1 _ E1.out) ?_); (case qqg1987 => rfl); (case qqo1987 => rfl); (case qqh1987 => first | (simp; done) | (simp [Act.eval]; done) | (simp only [Act.put]; simp; done) | (simp only [Act.put]; simp [Act.eval]; done)))
          | ((with_reducible refine wpList_load_oneG ?qqg1988 3 ?qqx1988 ?qqo1988 w.heap.size 2 ?qqh1988 (.int .i64 z2) Tryz.rObj_int (O2.out.cell 2 _ E2.out) ?_); (case qqg1988 => rfl); (case qqo1988 => rfl); (case qqh1988 => first | (simp; done) | (simp [Act.eval]; done) | (simp only [Act.put]; simp; done) | (simp only [Act.put]; simp [Act.eval]; done)))
          | ((with_reducible refine wpList_load_oneG ?qqg1989 3 ?qqx1989 ?qqo1989 w.heap.size 3 ?qqh1989 (.int .i64 z3) Tryz.rObj_int (O2.out.cell 3 _ E3.out) ?_); (case qqg1989 => rfl); (case qqo1989 => rfl); (case qqh1989 => first | (simp; done) | (simp [Act.eval]; done) | (simp only [Act.put]; simp; done) | (simp only [Act.put]; simp [Act.eval]; done)))
          | ((with_reducible refine wpList_load_oneG ?qqg1990 3 ?qqx1990 ?qqo1990 w.heap.size 4 ?qqh1990 (.int .i64 z4) Tryz.rObj_int (O2.out.cell 4 _ E4.out) ?_); (case qqg1990 => rfl); (case qqo1990 => rfl); (case qqh1990 => first | (simp; done) | (simp [Act.eval]; done) | (simp only [Act.put]; simp; done) | (simp only [Act.put]; simp [Act.eval]; done)))
          | ((with_reducible refine wpList_load_oneG ?qqg1991 4 ?qqx1991 ?qqo1991 w.heap.size 5 ?qqh1991 (.bool true) Tryz.rObj_bool (O2.out.cell 5 _ E5.out) ?_); (case qqg1991 => rfl); (case qqo1991 => rfl); (case qqh1991 => first | (simp; done) | (simp [Act.eval]; done) | (simp only [Act.put]; simp; done) | (simp only [Act.put]; simp [Act.eval]; done)))
          | ((with_reducible refine wpList_load_oneG ?qqg1992 28 ?qqx1992 ?qqo1992 w.heap.size 6 ?qqh1992 ((.slice a6 n6 cp6)) Tryz.rObj_Lstring (O2.out.cell 6 _ E6.out) ?_); (case qqg1992 => rfl); (case qqo1992 => rfl); (case qqh1992 => first | (simp; done) | (simp [Act.eval]; done) | (simp only [Act.put]; simp; done) | (simp only [Act.put]; simp [Act.eval]; done)))
          | ((with_reducible refine wpList_load_rowG ?qqg1993 31 ?qqx1993 ?qqo1993 w.heap.size 7 ?qqh1993 y7 Tryz.rObj_impl_Value YZ7.out (O2.out.range 7 _ E7.out) ?_); (case qqg1993 => rfl); (case qqo1993 => rfl); (case qqh1993 => first | (simp; done) | (simp [Act.eval]; done) | (simp only [Act.put]; simp; done) | (simp only [Act.put]; simp [Act.eval]; done)))
          | ((with_reducible refine wpList_load_rowG ?qqg1994 31 ?qqx1994 ?qqo1994 w.heap.size 12 ?qqh1994 y8 Tryz.rObj_impl_Value YZ8.out (O2.out.range 12 _ E8.out) ?_); (case qqg1994 => rfl); (case qqo1994 => rfl); (case qqh1994 => first | (simp; done) | (simp [Act.eval]; done) | (simp only [Act.put]; simp; done) | (simp only [Act.put]; simp [Act.eval]; done)))
          )
        refine (HK6.out _ B2.out).mono ?_
        rintro e w6 ⟨rfl, hb6⟩
        have O6 := uhide (O2.out.below hb6)
        have B6 : Hid (Below w.heap.size w w6) := B2.out.trans (hb6.mono B2.out.size)
        clear hb6
        go_wp2_with (first
          | ((with_reducible refine wpList_load_oneG ?qqg2002 3 ?qqx2002 ?qqo2002 w.heap.size 0 ?qqh2002 (.int .i64 z0) Tryz.rObj_int (O6.out.cell 0 _ E0.out) ?_); (case qqg2002 => rfl); (case qqo2002 => rfl); (case qqh2002 => first | (simp; done) | (simp [Act.eval]; done) | (simp only [Act.put]; simp; done) | (simp only [Act.put]; simp [Act.eval]; done)))
          | ((with_reducible refine wpList_load_oneG ?qqg2003 9 ?qqx2003 ?qqo2003 w.heap.size 1 ?qqh2003 (.string z1) Tryz.rObj_string (O6.out.cell 1 _ E1.out) ?_); (case qqg2003 => rfl); (case qqo2003 => rfl); (case qqh2003 => first | (simp; done) | (simp [Act.eval]; done) | (simp only [Act.put]; simp; done) | (simp only [Act.put]; simp [Act.eval]; done)))
          | ((with_reducible refine wpList_load_oneG ?qqg2004 3 ?qqx2004 ?qqo2004 w.heap.size 2 ?qqh2004 (.int .i64 z2) Tryz.rObj_int (O6.out.cell 2 _ E2.out) ?_); (case qqg2004 => rfl); (case qqo2004 => rfl); (case qqh2004 => first | (simp; done) | (simp [Act.eval]; done) | (simp only [Act.put]; simp; done) | (simp only [Act.put]; simp [Act.eval]; done)))
          | ((with_reducible refine wpList_load_oneG ?qqg2005 3 ?qqx2005 ?qqo2005 w.heap.size 3 ?qqh2005 (.int .i64 z3) Tryz.rObj_int (O6.out.cell 3 _ E3.out) ?_); (case qqg2005 => rfl); (case qqo2005 => rfl); (case qqh2005 => first | (simp; done) | (simp [Act.eval]; done) | (simp only [Act.put]; simp; done) | (simp only [Act.put]; simp [Act.eval]; done)))
          | ((with_reducible refine wpList_load_oneG ?qqg2006 3 ?qqx2006 ?qqo2006 w.heap.size 4 ?qqh2006 (.int .i64 z4) Tryz.rObj_int (O6.out.cell 4 _ E4.out) ?_); (case qqg2006 => rfl); (case qqo2006 => rfl); (case qqh2006 => first | (simp; done) | (simp [Act.eval]; done) | (simp only [Act.put]; simp; done) | (simp only [Act.put]; simp [Act.eval]; done)))
          | ((with_reducible refine wpList_load_oneG ?qqg2007 4 ?qqx2007 ?qqo2007 w.heap.size 5 ?qqh2007 (.bool true) Tryz.rObj_bool (O6.out.cell 5 _ E5.out) ?_); (case qqg2007 => rfl); (case qqo2007 => rfl); (case qqh2007 => first | (simp; done) | (simp [Act.eval]; done) | (simp only [Act.put]; simp; done) | (simp only [Act.put]; simp [Act.eval]; done)))
          | ((with_reducible refine wpList_load_oneG ?qqg2008 28 ?qqx2008 ?qqo2008 w.heap.size 6 ?qqh2008 ((.slice a6 n6 cp6)) Tryz.rObj_Lstring (O6.out.cell 6 _ E6.out) ?_); (case qqg2008 => rfl); (case qqo2008 => rfl); (case qqh2008 => first | (simp; done) | (simp [Act.eval]; done) | (simp only [Act.put]; simp; done) | (simp only [Act.put]; simp [Act.eval]; done)))
          | ((with_reducible refine wpList_load_rowG ?qqg2009 31 ?qqx2009 ?qqo2009 w.heap.size 7 ?qqh2009 y7 Tryz.rObj_impl_Value YZ7.out (O6.out.range 7 _ E7.out) ?_); (case qqg2009 => rfl); (case qqo2009 => rfl); (case qqh2009 => first | (simp; done) | (simp [Act.eval]; done) | (simp only [Act.put]; simp; done) | (simp only [Act.put]; simp [Act.eval]; done)))
          | ((with_reducible refine wpList_load_rowG ?qqg2010 31 ?qqx2010 ?qqo2010 w.heap.size 12 ?qqh2010 y8 Tryz.rObj_impl_Value YZ8.out (O6.out.range 12 _ E8.out) ?_); (case qqg2010 => rfl); (case qqo2010 => rfl); (case qqh2010 => first | (simp; done) | (simp [Act.eval]; done) | (simp only [Act.put]; simp; done) | (simp only [Act.put]; simp [Act.eval]; done)))
          )
        refine (HK7.out _ B6.out).mono ?_
        rintro e w7 ⟨rfl, hb7⟩
        have O7 := uhide (O6.out.below hb7)
        have B7 : Hid (Below w.heap.size w w7) := B6.out.trans (hb7.mono B6.out.size)
        clear hb7
        go_wp2_with (first
          | ((with_reducible refine wpList_load_oneG ?qqg2018 4 ?qqx2018 ?qqo2018 w.heap.size 5 ?qqh2018 (.bool true) Tryz.rObj_bool (O7.out.cell 5 _ E5.out) ?_); (case qqg2018 => rfl); (case qqo2018 => rfl); (case qqh2018 => first | (simp; done) | (simp [Act.eval]; done) | (simp only [Act.put]; simp; done) | (simp only [Act.put]; simp [Act.eval]; done)))
          | ((with_reducible refine wpList_load_oneG ?qqg2019 28 ?qqx2019 ?qqo2019 w.heap.size 6 ?qqh2019 ((.slice a6 n6 cp6)) Tryz.rObj_Lstring (O7.out.cell 6 _ E6.out) ?_); (case qqg2019 => rfl); (case qqo2019 => rfl); (case qqh2019 => first | (simp; done) | (simp [Act.eval]; done) | (simp only [Act.put]; simp; done) | (simp only [Act.put]; simp [Act.eval]; done)))
          )
        go_ret
        exact ⟨ret_bool (by simp [H6.out]), B7.out⟩
      · have h6p : (0 : Int) < (n6 : Int) := by omega
        have H6 := uhide h6
        clear h6
        go_enter Tryz.func170, Tryz.ntmps170
        go_wp2_with (first
          | ((with_reducible refine wpList_load_oneG ?qqg2028 3 ?qqx2028 ?qqo2028 w.heap.size 0 ?qqh2028 (.int .i64 z0) Tryz.rObj_int (OA.out.cell 0 _ E0.out) ?_); (case qqg2028 => rfl); (case qqo2028 => rfl); (case qqh2028 => first | (simp; done) | (simp [Act.eval]; done) | (simp only [Act.put]; simp; done) | (simp only [Act.put]; simp [Act.eval]; done)))
          | ((with_reducible refine wpList_load_oneG ?qqg2029 9 ?qqx2029 ?qqo2029 w.heap.size 1 ?qqh2029 (.string z1) Tryz.rObj_string (OA.out.cell 1 _ E1.out) ?_); (case qqg2029 => rfl); (case qqo2029 => rfl); (case qqh2029 => first | (simp; done) | (simp [Act.eval]; done) | (simp only [Act.put]; simp; done) | (simp only [Act.put]; simp [Act.eval]; done)))
          | ((with_reducible refine wpList_load_oneG ?qqg2030 3 ?qqx2030 ?qqo2030 w.heap.size 2 ?qqh2030 (.int .i64 z2) Tryz.rObj_int (OA.out.cell 2 _ E2.out) ?_); (case qqg2030 => rfl); (case qqo2030 => rfl); (case qqh2030 => first | (simp; done) | (simp [Act.eval]; done) | (simp only [Act.put]; simp; done) | (simp only [Act.put]; simp [Act.eval]; done)))
          | ((with_reducible refine wpList_load_oneG ?qqg2031 3 ?qqx2031 ?qqo2031 w.heap.size 3 ?qqh2031 (.int .i64 z3) Tryz.rObj_int (OA.out.cell 3 _ E3.out) ?_); (case qqg2031 => rfl); (case qqo2031 => rfl); (case qqh2031 => first | (simp; done) | (simp [Act.eval]; done) | (simp only [Act.put]; simp; done) | (simp only [Act.put]; simp [Act.eval]; done)))
          | ((with_reducible refine wpList_load_oneG ?qqg2032 3 ?qqx2032 ?qqo2032 w.heap.size 4 ?qqh2032 (.int .i64 z4) Tryz.rObj_int (OA.out.cell 4 _ E4.out) ?_); (case qqg2032 => rfl); (case qqo2032 => rfl); (case qqh2032 => first | (simp; done) | (simp [Act.eval]; done) | (simp only [Act.put]; simp; done) | (simp only [Act.put]; simp [Act.eval]; done)))
          | ((with_reducible refine wpList_load_oneG ?qqg2033 4 ?qqx2033 ?qqo2033 w.heap.size 5 ?qqh2033 (.bool true) Tryz.rObj_bool (OA.out.cell 5 _ E5.out) ?_); (case qqg2033 => rfl); (case qqo2033 => rfl); (case qqh2033 => first | (simp; done) | (simp [Act.eval]; done) | (simp only [Act.put]; simp; done) | (simp only [Act.put]; simp [Act.eval]; done)))
          | ((with_reducible refine wpList_load_oneG ?qqg2034 28 ?qqx2034 ?qqo2034 w.heap.size 6 ?qqh2034 ((.slice a6 n6 cp6)) Tryz.rObj_Lstring (OA.out.cell 6 _ E6.out) ?_); (case qqg2034 => rfl); (case qqo2034 => rfl); (case qqh2034 => first | (simp; done) | (simp [Act.eval]; done) | (simp only [Act.put]; simp; done) | (simp only [Act.put]; simp [Act.eval]; done)))
          | ((with_reducible refine wpList_load_rowG ?qqg2035 31 ?qqx2035 ?qqo2035 w.heap.size 7 ?qqh2035 y7 Tryz.rObj_impl_Value YZ7.out (OA.out.range 7 _ E7.out) ?_); (case qqg2035 => rfl); (case qqo2035 => rfl); (case qqh2035 => first | (simp; done) | (simp [Act.eval]; done) | (simp only [Act.put]; simp; done) | (simp only [Act.put]; simp [Act.eval]; done)))
          | ((with_reducible refine wpList_load_rowG ?qqg2036 31 ?qqx2036 ?qqo2036 w.heap.size 12 ?qqh2036 y8 Tryz.rObj_impl_Value YZ8.out (OA.out.range 12 _ E8.out) ?_); (case qqg2036 => rfl); (case qqo2036 => rfl); (case qqh2036 => first | (simp; done) | (simp [Act.eval]; done) | (simp only [Act.put]; simp; done) | (simp only [Act.put]; simp [Act.eval]; done)))
          )
        refine (HK0.out _ BA.out).mono ?_
        rintro e w0 ⟨rfl, hb0⟩
        have O0 := uhide (OA.out.below hb0)
        have B0 : Hid (Below w.heap.size w w0) := BA.out.trans (hb0.mono BA.out.size)
        clear hb0
        go_wp2_with (first
          | ((with_reducible refine wpList_load_oneG ?qqg2044 3 ?qqx2044 ?qqo2044 w.heap.size 0 ?qqh2044 (.int .i64 z0) Tryz.rObj_int (O0.out.cell 0 _ E0.out) ?_); (case qqg2044 => rfl); (case qqo2044 => rfl); (case qqh2044 => first | (simp; done) | (simp [Act.eval]; done) | (simp only [Act.put]; simp; done) | (simp only [Act.put]; simp [Act.eval]; done)))
          | ((with_reducible refine wpList_load_oneG ?qqg2045 9 ?qqx2045 ?qqo2045 w.heap.size 1 ?qqh2045 (.string z1) Tryz.rObj_string (O0.out.cell 1 _ E1.out) ?_); (case qqg2045 => rfl); (case qqo2045 => rfl); (case qqh2045 => first | (simp; done) | (simp [Act.eval]; done) | (simp only [Act.put]; simp; done) | (simp only [Act.put]; simp [Act.eval]; done)))
          | ((with_reducible refine wpList_load_oneG ?qqg2046 3 ?qqx2046 ?qqo2046 w.heap.size 2 ?qqh2046 (.int .i64 z2) Tryz.rObj_int (O0.out.cell 2 _ E2.out) ?_); (case qqg2046 => rfl); (case qqo2046 => rfl); (case qqh2046 => first | (simp; done) | (simp [Act.eval]; done) | (simp only [Act.put]; simp; done) | (simp only [Act.put]; simp [Act.eval]; done)))
          | ((with_reducible refine wpList_load_oneG ?qqg2047 3 ?qqx2047 ?qqo2047 w.heap.size 3 ?qqh2047 (.int .i64 z3) Tryz.rObj_int (O0.out.cell 3 _ E3.out) ?_); (case qqg2047 => rfl); (case qqo2047 => rfl); (case qqh2047 => first | (simp; done) | (simp [Act.eval]; done) | (simp only [Act.put]; simp; done) | (simp only [Act.put]; simp [Act.eval]; done)))
          | ((with_reducible refine wpList_load_oneG ?qqg2048 3 ?qqx2048 ?qqo2048 w.heap.size 4 ?qqh2048 (.int .i64 z4) Tryz.rObj_int (O0.out.cell 4 _ E4.out) ?_); (case qqg2048 => rfl); (case qqo2048 => rfl); (case qqh2048 => first | (simp; done) | (simp [Act.eval]; done) | (simp only [Act.put]; simp; done) | (simp only [Act.put]; simp [Act.eval]; done)))
          | ((with_reducible refine wpList_load_oneG ?qqg2049 4 ?qqx2049 ?qqo2049 w.heap.size 5 ?qqh2049 (.bool true) Tryz.rObj_bool (O0.out.cell 5 _ E5.out) ?_); (case qqg2049 => rfl); (case qqo2049 => rfl); (case qqh2049 => first | (simp; done) | (simp [Act.eval]; done) | (simp only [Act.put]; simp; done) | (simp only [Act.put]; simp [Act.eval]; done)))
          | ((with_reducible refine wpList_load_oneG ?qqg2050 28 ?qqx2050 ?qqo2050 w.heap.size 6 ?qqh2050 ((.slice a6 n6 cp6)) Tryz.rObj_Lstring (O0.out.cell 6 _ E6.out) ?_); (case qqg2050 => rfl); (case qqo2050 => rfl); (case qqh2050 => first | (simp; done) | (simp [Act.eval]; done) | (simp only [Act.put]; simp; done) | (simp only [Act.put]; simp [Act.eval]; done)))
          | ((with_reducible refine wpList_load_rowG ?qqg2051 31 ?qqx2051 ?qqo2051 w.heap.size 7 ?qqh2051 y7 Tryz.rObj_impl_Value YZ7.out (O0.out.range 7 _ E7.out) ?_); (case qqg2051 => rfl); (case qqo2051 => rfl); (case qqh2051 => first | (simp; done) | (simp [Act.eval]; done) | (simp only [Act.put]; simp; done) | (simp only [Act.put]; simp [Act.eval]; done)))
          | ((with_reducible refine wpList_load_rowG ?qqg2052 31 ?qqx2052 ?qqo2052 w.heap.size 12 ?qqh2052 y8 Tryz.rObj_impl_Value YZ8.out (O0.out.range 12 _ E8.out) ?_); (case qqg2052 => rfl); (case qqo2052 => rfl); (case qqh2052 => first | (simp; done) | (simp [Act.eval]; done) | (simp only [Act.put]; simp; done) | (simp only [Act.put]; simp [Act.eval]; done)))
          )
        refine (HK1.out _ B0.out).mono ?_
        rintro e w1 ⟨rfl, hb1⟩
        have O1 := uhide (O0.out.below hb1)
        have B1 : Hid (Below w.heap.size w w1) := B0.out.trans (hb1.mono B0.out.size)
        clear hb1
        go_wp2_with (first
          | ((with_reducible refine wpList_load_oneG ?qqg2060 3 ?qqx2060 ?qqo2060 w.heap.size 0 ?qqh2060 (.int .i64 z0) Tryz.rObj_int (O1.out.cell 0 _ E0.out) ?_); (case qqg2060 => rfl); (case qqo2060 => rfl); (case qqh2060 => first | (simp; done) | (simp [Act.eval]; done) | (simp only [Act.put]; simp; done) | (simp only [Act.put]; simp [Act.eval]; done)))
          | ((with_reducible refine wpList_load_oneG ?qqg2061 9 ?qqx2061 ?qqo2061 w.heap.size 1 ?qqh2061 (.string z1) Tryz.rObj_string (O1.out.cell 1 _ E1.out) ?_); (case qqg2061 => rfl); (case qqo2061 => rfl); (case qqh2061 => first | (simp; done) | (simp [Act.eval]; done) | (simp only [Act.put]; simp; done) | (simp only [Act.put]; simp [Act.eval]; done)))
          | ((with_reducible refine wpList_load_oneG ?qqg2062 3 ?qqx2062 ?qqo2062 w.heap.size 2 ?qqh2062 (.int .i64 z2) Tryz.rObj_int (O1.out.cell 2 _ E2.out) ?_); (case qqg2062 => rfl); (case qqo2062 => rfl); (case qqh2062 => first | (simp; done) | (simp [Act.eval]; done) | (simp only [Act.put]; simp; done) | (simp only [Act.put]; simp [Act.eval]; done)))
          | ((with_reducible refine wpList_load_oneG ?qqg2063 3 ?qqx2063 ?qqo2063 w.heap.size 3 ?qqh2063 (.int .i64 z3) Tryz.rObj_int (O1.out.cell 3 _ E3.out) ?_); (case qqg2063 => rfl); (case qqo2063 => rfl); (case qqh2063 => first | (simp; done) | (simp [Act.eval]; done) | (simp only [Act.put]; simp; done) | (simp only [Act.put]; simp [Act.eval]; done)))
          | ((with_reducible refine wpList_load_oneG ?qqg2064 3 ?qqx2064 ?qqo2064 w.heap.size 4 ?qqh2064 (.int .i64 z4) Tryz.rObj_int (O1.out.cell 4 _ E4.out) ?_); (case qqg2064 => rfl); (case qqo2064 => rfl); (case qqh2064 => first | (simp; done) | (simp [Act.eval]; done) | (simp only [Act.put]; simp; done) | (simp only [Act.put]; simp [Act.eval]; done)))
          | ((with_reducible refine wpList_load_oneG ?qqg2065 4 ?qqx2065 ?qqo2065 w.heap.size 5 ?qqh2065 (.bool true) Tryz.rObj_bool (O1.out.cell 5 _ E5.out) ?_); (case qqg2065 => rfl); (case qqo2065 => rfl); (case qqh2065 => first | (simp; done) | (simp [Act.eval]; done) | (simp only [Act.put]; simp; done) | (simp only [Act.put]; simp [Act.eval]; done)))
          | ((with_reducible refine wpList_load_oneG ?qqg2066 28 ?qqx2066 ?qqo2066 w.heap.size 6 ?qqh2066 ((.slice a6 n6 cp6)) Tryz.rObj_Lstring (O1.out.cell 6 _ E6.out) ?_); (case qqg2066 => rfl); (case qqo2066 => rfl); (case qqh2066 => first | (simp; done) | (simp [Act.eval]; done) | (simp only [Act.put]; simp; done) | (simp only [Act.put]; simp [Act.eval]; done)))
          | ((with_reducible refine wpList_load_rowG ?qqg2067 31 ?qqx2067 ?qqo2067 w.heap.size 7 ?qqh2067 y7 Tryz.rObj_impl_Value YZ7.out (O1.out.range 7 _ E7.out) ?_); (case qqg2067 => rfl); (case qqo2067 => rfl); (case qqh2067 => first | (simp; done) | (simp [Act.eval]; done) | (simp only [Act.put]; simp; done) | (simp only [Act.put]; simp [Act.eval]; done)))
          | ((with_reducible refine wpList_load_rowG ?qqg2068 31 ?qqx2068 ?qqo2068 w.heap.size 12 ?qqh2068 y8 Tryz.rObj_impl_Value YZ8.out (O1.out.range 12 _ E8.out) ?_); (case qqg2068 => rfl); (case qqo2068 => rfl); (case qqh2068 => first | (simp; done) | (simp [Act.eval]; done) | (simp only [Act.put]; simp; done) | (simp only [Act.put]; simp [Act.eval]; done)))
          )
        refine (HK3.out _ B1.out).mono ?_
        rintro e w3 ⟨rfl, hb3⟩
        have O3 := uhide (O1.out.below hb3)
        have B3 : Hid (Below w.heap.size w w3) := B1.out.trans (hb3.mono B1.out.size)
        clear hb3
        go_wp2_with (first
          | ((with_reducible refine wpList_load_oneG ?qqg2076 3 ?qqx2076 ?qqo2076 w.heap.size 0 ?qqh2076 (.int .i64 z0) Tryz.rObj_int (O3.out.cell 0 _ E0.out) ?_); (case qqg2076 => rfl); (case qqo2076 => rfl); (case qqh2076 => first | (simp; done) | (simp [Act.eval]; done) | (simp only [Act.put]; simp; done) | (simp only [Act.put]; simp [Act.eval]; done)))
          | ((with_reducible refine wpList_load_oneG ?qqg2077 9 ?qqx2077 ?qqo2077 w.heap.size 1 ?qqh2077 (.string z1) Tryz.rObj_string (O3.out.cell 1 _ E1.out) ?_); (case qqg2077 => rfl); (case qqo2077 => rfl); (case qqh2077 => first | (simp; done) | (simp [Act.eval]; done) | (simp only [Act.put]; simp; done) | (simp only [Act.put]; simp [Act.eval]; done)))
          | ((with_reducible refine wpList_load_oneG ?qqg2078 3 ?qqx2078 ?qqo2078 w.heap.size 2 ?qqh2078 (.int .i64 z2) Tryz.rObj_int (O3.out.cell 2 _ E2.out) ?_); (case qqg2078 => rfl); (case qqo2078 => rfl); (case qqh2078 => first | (simp; done) | (simp [Act.eval]; done) | (simp only [Act.put]; simp; done) | (simp only [Act.put]; simp [Act.eval]; done)))
          | ((with_reducible refine wpList_load_oneG ?qqg2079 3 ?qqx2079 ?qqo2079 w.heap.size 3 ?qqh2079 (.int .i64 z3) Tryz.rObj_int (O3.out.cell 3 _ E3.out) ?_); (case qqg2079 => rfl); (case qqo2079 => rfl); (case qqh2079 => first | (simp; done) | (simp [Act.eval]; done) | (simp only [Act.put]; simp; done) | (simp only [Act.put]; simp [Act.eval]; done)))
          | ((with_reducible refine wpList_load_oneG ?qqg2080 3 ?qqx2080 ?qqo2080 w.heap.size 4 ?qqh2080 (.int .i64 z4) Tryz.rObj_int (O3.out.cell 4 _ E4.out) ?_); (case qqg2080 => rfl); (case qqo2080 => rfl); (case qqh2080 => first | (simp; done) | (simp [Act.eval]; done) | (simp only [Act.put]; simp; done) | (simp only [Act.put]; simp [Act.eval]; done)))
          | ((with_reducible refine wpList_load_oneG ?qqg2081 4 ?qqx2081 ?qqo2081 w.heap.size 5 ?qqh2081 (.bool true) Tryz.rObj_bool (O3.out.cell 5 _ E5.out) ?_); (case qqg2081 => rfl); (case qqo2081 => rfl); (case qqh2081 => first | (simp; done) | (simp [Act.eval]; done) | (simp only [Act.put]; simp; done) | (simp only [Act.put]; simp [Act.eval]; done)))
          | ((with_reducible refine wpList_load_oneG ?qqg2082 28 ?qqx2082 ?qqo2082 w.heap.size 6 ?qqh2082 ((.slice a6 n6 cp6)) Tryz.rObj_Lstring (O3.out.cell 6 _ E6.out) ?_); (case qqg2082 => rfl); (case qqo2082 => rfl); (case qqh2082 => first | (simp; done) | (simp [Act.eval]; done) | (simp only [Act.put]; simp; done) | (simp only [Act.put]; simp [Act.eval]; done)))
          | ((with_reducible refine wpList_load_rowG ?qqg2083 31 ?qqx2083 ?qqo2083 w.heap.size 7 ?qqh2083 y7 Tryz.rObj_impl_Value YZ7.out (O3.out.range 7 _ E7.out) ?_); (case qqg2083 => rfl); (case qqo2083 => rfl); (case qqh2083 => first | (simp; done) | (simp [Act.eval]; done) | (simp only [Act.put]; simp; done) | (simp only [Act.put]; simp [Act.eval]; done)))
          | ((with_reducible refine wpList_load_rowG ?qqg2084 31 ?qqx2084 ?qqo2084 w.heap.size 12 ?qqh2084 y8 Tryz.rObj_impl_Value YZ8.out (O3.out.range 12 _ E8.out) ?_); (case qqg2084 => rfl); (case qqo2084 => rfl); (case qqh2084 => first | (simp; done) | (simp [Act.eval]; done) | (simp only [Act.put]; simp; done) | (simp only [Act.put]; simp [Act.eval]; done)))
          )
        refine (HK4.out _ B3.out).mono ?_
        rintro e w4 ⟨rfl, hb4⟩
        have O4 := uhide (O3.out.below hb4)
        have B4 : Hid (Below w.heap.size w w4) := B3.out.trans (hb4.mono B3.out.size)
        clear hb4
        go_wp2_with (first
          | ((with_reducible refine wpList_load_oneG ?qqg2092 3 ?qqx2092 ?qqo2092 w.heap.size 0 ?qqh2092 (.int .i64 z0) Tryz.rObj_int (O4.out.cell 0 _ E0.out) ?_); (case qqg2092 => rfl); (case qqo2092 => rfl); (case qqh2092 => first | (simp; done) | (simp [Act.eval]; done) | (simp only [Act.put]; simp; done) | (simp only [Act.put]; simp [Act.eval]; done)))
          | ((with_reducible refine wpList_load_oneG ?qqg2093 9 ?qqx2093 ?qqo2093 w.heap.size 1 ?qqh2093 (.string z1) Tryz.rObj_string (O4.out.cell 1 _ E1.out) ?_); (case qqg2093 => rfl); (case qqo2093 => rfl); (case qqh2093 => first | (simp; done) | (simp [Act.eval]; done) | (simp only [Act.put]; simp; done) | (simp only [Act.put]; simp [Act.eval]; done)))
          | ((with_reducible refine wpList_load_oneG ?qqg2094 3 ?qqx2094 ?qqo2094 w.heap.size 2 ?qqh2094 (.int .i64 z2) Tryz.rObj_int (O4.out.cell 2 _ E2.out) ?_); (case qqg2094 => rfl); (case qqo2094 => rfl); (case qqh2094 => first | (simp; done) | (simp [Act.eval]; done) | (simp only [Act.put]; simp; done) | (simp only [Act.put]; simp [Act.eval]; done)))
          | ((with_reducible refine wpList_load_oneG ?qqg2095 3 ?qqx2095 ?qqo2095 w.heap.size 3 ?qqh2095 (.int .i64 z3) Tryz.rObj_int (O4.out.cell 3 _ E3.out) ?_); (case qqg2095 => rfl); (case qqo2095 => rfl); (case qqh2095 => first | (simp; done) | (simp [Act.eval]; done) | (simp only [Act.put]; simp; done) | (simp only [Act.put]; simp [Act.eval]; done)))
          | ((with_reducible refine wpList_load_oneG ?qqg2096 3 ?qqx2096 ?qqo2096 w.heap.size 4 ?qqh2096 (.int .i64 z4) Tryz.rObj_int (O4.out.cell 4 _ E4.out) ?_); (case qqg2096 => rfl); (case qqo2096 => rfl); (case qqh2096 => first | (simp; done) | (simp [Act.eval]; done) | (simp only [Act.put]; simp; done) | (simp only [Act.put]; simp [Act.eval]; done)))
          | ((with_reducible refine wpList_load_oneG ?qqg2097 4 ?qqx2097 ?qqo2097 w.heap.size 5 ?qqh2097 (.bool true) Tryz.rObj_bool (O4.out.cell 5 _ E5.out) ?_); (case qqg2097 => rfl); (case qqo2097 => rfl); (case qqh2097 => first | (simp; done) | (simp [Act.eval]; done) | (simp only [Act.put]; simp; done) | (simp only [Act.put]; simp [Act.eval]; done)))
          | ((with_reducible refine wpList_load_oneG ?qqg2098 28 ?qqx2098 ?qqo2098 w.heap.size 6 ?qqh2098 ((.slice a6 n6 cp6)) Tryz.rObj_Lstring (O4.out.cell 6 _ E6.out) ?_); (case qqg2098 => rfl); (case qqo2098 => rfl); (case qqh2098 => first | (simp; done) | (simp [Act.eval]; done) | (simp only [Act.put]; simp; done) | (simp only [Act.put]; simp [Act.eval]; done)))
          | ((with_reducible refine wpList_load_rowG ?qqg2099 31 ?qqx2099 ?qqo2099 w.heap.size 7 ?qqh2099 y7 Tryz.rObj_impl_Value YZ7.out (O4.out.range 7 _ E7.out) ?_); (case qqg2099 => rfl); (case qqo2099 => rfl); (case qqh2099 => first | (simp; done) | (simp [Act.eval]; done) | (simp only [Act.put]; simp; done) | (simp only [Act.put]; simp [Act.eval]; done)))
          | ((with_reducible refine wpList_load_rowG ?qqg2100 31 ?qqx2100 ?qqo2100 w.heap.size 12 ?qqh2100 y8 Tryz.rObj_impl_Value YZ8.out (O4.out.range 12 _ E8.out) ?_); (case qqg2100 => rfl); (case qqo2100 => rfl); (case qqh2100 => first | (simp; done) | (simp [Act.eval]; done) | (simp only [Act.put]; simp; done) | (simp only [Act.put]; simp [Act.eval]; done)))
          )
        refine (HK5.out _ B4.out).mono ?_
        rintro e w5 ⟨rfl, hb5⟩
        have O5 := uhide (O4.out.below hb5)
        have B5 : Hid (Below w.heap.size w w5) := B4.out.trans (hb5.mono B4.out.size)
        clear hb5
        go_wp2_with (first
          | ((with_reducible refine wpList_load_oneG ?qqg2108 3 ?qqx2108 ?qqo2108 w.heap.size 0 ?qqh2108 (.int .i64 z0) Tryz.rObj_int (O5.out.cell 0 _ E0.out) ?_); (case qqg2108 => rfl); (case qqo2108 => rfl); (case qqh2108 => first | (simp; done) | (simp [Act.eval]; done) | (simp only [Act.put]; simp; done) | (simp only [Act.put]; simp [Act.eval]; done)))
          | ((with_reducible refine wpList_load_oneG ?qqg2109 9 ?qqx2109 ?qqo2109 w.heap.size 1 ?qqh2109 (.string z1) Tryz.rObj_string (O5.out.cell 1 _ E1.out) ?_); (case qqg2109 => rfl); (case qqo2109 => rfl); (case qqh2109 => first | (simp; done) | (simp [Act.eval]; done) | (simp only [Act.put]; simp; done) | (simp only [Act.put]; simp [Act.eval]; done)))
          | ((with_reducible refine wpList_load_oneG ?qqg2110 3 ?qqx2110 ?qqo2110 w.heap.size 2 ?qqh2110 (.int .i64 z2) Tryz.rObj_int (O5.out.cell 2 _ E2.out) ?_); (case qqg2110 => rfl); (case qqo2110 => rfl); (case qqh2110 => first | (simp; done) | (simp [Act.eval]; done) | (simp only [Act.put]; simp; done) | (simp only [Act.put]; simp [Act.eval]; done)))
          | ((with_reducible refine wpList_load_oneG ?qqg2111 3 ?qqx2111 ?qqo2111 w.heap.size 3 ?qqh2111 (.int .i64 z3) Tryz.rObj_int (O5.out.cell 3 _ E3.out) ?_); (case qqg2111 => rfl); (case qqo2111 => rfl); (case qqh2111 => first | (simp; done) | (simp [Act.eval]; done) | (simp only [Act.put]; simp; done) | (simp only [Act.put]; simp [Act.eval]; done)))
          | ((with_reducible refine wpList_load_oneG ?qqg2112 3 ?qqx2112 ?qqo2112 w.heap.size 4 ?qqh2112 (.int .i64 z4) Tryz.rObj_int (O5.out.cell 4 _ E4.out) ?_); (case qqg2112 => rfl); (case qqo2112 => rfl); (case qqh2112 => first | (simp; done) | (simp [Act.eval]; done) | (simp only [Act.put]; simp; done) | (simp only [Act.put]; simp [Act.eval]; done)))
          | ((with_reducible refine wpList_load_oneG ?qqg2113 4 ?qqx2113 ?qqo2113 w.heap.size 5 ?qqh2113 (.bool true) Tryz.rObj_bool (O5.out.cell 5 _ E5.out) ?_); (case qqg2113 => rfl); (case qqo2113 => rfl); (case qqh2113 => first | (simp; done) | (simp [Act.eval]; done) | (simp only [Act.put]; simp; done) | (simp only [Act.put]; simp [Act.eval]; done)))
          | ((with_reducible refine wpList_load_oneG ?qqg2114 28 ?qqx2114 ?qqo2114 w.heap.size 6 ?qqh2114 ((.slice a6 n6 cp6)) Tryz.rObj_Lstring (O5.out.cell 6 _ E6.out) ?_); (case qqg2114 => rfl); (case qqo2114 => rfl); (case qqh2114 => first | (simp; done) | (simp [Act.eval]; done) | (simp only [Act.put]; simp; done) | (simp only [Act.put]; simp [Act.eval]; done)))
          | ((with_reducible refine wpList_load_rowG ?qqg2115 31 ?qqx2115 ?qqo2115 w.heap.size 7 ?qqh2115 y7 Tryz.rObj_impl_Value YZ7.out (O5.out.range 7 _ E7.out) ?_); (case qqg2115 => rfl); (case qqo2115 => rfl); (case qqh2115 => first | (simp; done) | (simp [Act.eval]; done) | (simp only [Act.put]; simp; done) | (simp only [Act.put]; simp [Act.eval]; done)))
          | ((with_reducible refine wpList_load_rowG ?qqg2116 31 ?qqx2116 ?qqo2116 w.heap.size 12 ?qqh2116 y8 Tryz.rObj_impl_Value YZ8.out (O5.out.range 12 _ E8.out) ?_); (case qqg2116 => rfl); (case qqo2116 => rfl); (case qqh2116 => first | (simp; done) | (simp [Act.eval]; done) | (simp only [Act.put]; simp; done) | (simp only [Act.put]; simp [Act.eval]; done)))
          )
        refine (HK2.out _ B5.out).mono ?_
        rintro e w2 ⟨rfl, hb2⟩
        have O2 := uhide (O5.out.below hb2)
        have B2 : Hid (Below w.heap.size w w2) := B5.out.trans (hb2.mono B5.out.size)
        clear hb2
        go_wp2_with (first
          | ((with_reducible refine wpList_load_oneG ?qqg2124 3 ?qqx2124 ?qqo2124 w.heap.size 0 ?qqh2124 (.int .i64 z0) Tryz.rObj_int (O2.out.cell 0 _ E0.out) ?_); (case qqg2124 => rfl); (case qqo2124 => rfl); (case qqh2124 => first | (simp; done) | (simp [Act.eval]; done) | (simp only [Act.put]; simp; done) | (simp only [Act.put]; simp [Act.eval]; done)))
          | ((with_reducible refine wpList_load_oneG ?qqg2125 9 ?qqx2125 ?qqo2125 w.heap.size 1 ?qqh2125 (.string z1) Tryz.rObj_string (O2.out.cell 1 _ E1.out) ?_); (case qqg2125 => rfl); (case qqo2125 => rfl); (case qqh2125 => first | (simp; done) | (simp [Act.eval]; done) | (simp only [Act.put]; simp; done) | (simp only [Act.put]; simp [Act.eval]; done)))
          | ((with_reducible refine wpList_load_oneG ?qqg2126 3 ?qqx2126 ?qqo2126 w.heap.size 2 ?qqh2126 (.int .i64 z2) Tryz.rObj_int (O2.out.cell 2 _ E2.out) ?_); (case qqg2126 => rfl); (case qqo2126 => rfl); (case qqh2126 => first | (simp; done) | (simp [Act.eval]; done) | (simp only [Act.put]; simp; done) | (simp only [Act.put]; simp [Act.eval]; done)))
          | ((with_reducible refine wpList_load_oneG ?qqg2127 3 ?qqx2127 ?qqo2127 w.heap.size 3 ?qqh2127 (.int .i64 z3) Tryz.rObj_int (O2.out.cell 3 _ E3.out) ?_); (case qqg2127 => rfl); (case qqo2127 => rfl); (case qqh2127 => first | (simp; done) | (simp [Act.eval]; done) | (simp only [Act.put]; simp; done) | (simp only [Act.put]; simp [Act.eval]; done)))
          | ((with_reducible refine wpList_load_oneG ?qqg2128 3 ?qqx2128 ?qqo2128 w.heap.size 4 ?qqh2128 (.int .i64 z4) Tryz.rObj_int (O2.out.cell 4 _ E4.out) ?_); (case qqg2128 => rfl); (case qqo2128 => rfl); (case qqh2128 => first | (simp; done) | (simp [Act.eval]; done) | (simp only [Act.put]; simp; done) | (simp only [Act.put]; simp [Act.eval]; done)))
          | ((with_reducible refine wpList_load_oneG ?qqg2129 4 ?qqx2129 ?qqo2129 w.heap.size 5 ?qqh2129 (.bool true) Tryz.rObj_bool (O2.out.cell 5 _ E5.out) ?_); (case qqg2129 => rfl); (case qqo2129 => rfl); (case qqh2129 => first | (simp; done) | (simp [Act.eval]; done) | (simp only [Act.put]; simp; done) | (simp only [Act.put]; simp [Act.eval]; done)))
          | ((with_reducible refine wpList_load_oneG ?qqg2130 28 ?qqx2130 ?qqo2130 w.heap.size 6 ?qqh2130 ((.slice a6 n6 cp6)) Tryz.rObj_Lstring (O2.out.cell 6 _ E6.out) ?_); (case qqg2130 => rfl); (case qqo2130 => rfl); (case qqh2130 => first | (simp; done) | (simp [Act.eval]; done) | (simp only [Act.put]; simp; done) | (simp only [Act.put]; simp [Act.eval]; done)))
          | ((with_reducible refine wpList_load_rowG ?qqg2131 31 ?qqx2131 ?qqo2131 w.heap.size 7 ?qqh2131 y7 Tryz.rObj_impl_Value YZ7.out (O2.out.range 7 _ E7.out) ?_); (case qqg2131 => rfl); (case qqo2131 => rfl); (case qqh2131 => first | (simp; done) | (simp [Act.eval]; done) | (simp only [Act.put]; simp; done) | (simp only [Act.put]; simp [Act.eval]; done)))
          | ((with_reducible refine wpList_load_rowG ?qqg2132 31 ?qqx2132 ?qqo2132 w.heap.size 12 ?qqh2132 y8 Tryz.rObj_impl_Value YZ8.out (O2.out.range 12 _ E8.out) ?_); (case qqg2132 => rfl); (case qqo2132 => rfl); (case qqh2132 => first | (simp; done) | (simp [Act.eval]; done) | (simp only [Act.put]; simp; done) | (simp only [Act.put]; simp [Act.eval]; done)))
          )
        refine (HK6.out _ B2.out).mono ?_
        rintro e w6 ⟨rfl, hb6⟩
        have O6 := uhide (O2.out.below hb6)
        have B6 : Hid (Below w.heap.size w w6) := B2.out.trans (hb6.mono B2.out.size)
        clear hb6
        go_wp2_with (first
          | ((with_reducible refine wpList_load_oneG ?qqg2140 3 ?qqx2140 ?qqo2140 w.heap.size 0 ?qqh2140 (.int .i64 z0) Tryz.rObj_int (O6.out.cell 0 _ E0.out) ?_); (case qqg2140 => rfl); (case qqo2140 => rfl); (case qqh2140 => first | (simp; done) | (simp [Act.eval]; done) | (simp only [Act.put]; simp; done) | (simp only [Act.put]; simp [Act.eval]; done)))
          | ((with_reducible refine wpList_load_oneG ?qqg2141 9 ?qqx2141 ?qqo2141 w.heap.size 1 ?qqh2141 (.string z1) Tryz.rObj_string (O6.out.cell 1 _ E1.out) ?_); (case qqg2141 => rfl); (case qqo2141 => rfl); (case qqh2141 => first | (simp; done) | (simp [Act.eval]; done) | (simp only [Act.put]; simp; done) | (simp only [Act.put]; simp [Act.eval]; done)))
          | ((with_reducible refine wpList_load_oneG ?qqg2142 3 ?qqx2142 ?qqo2142 w.heap.size 2 ?qqh2142 (.int .i64 z2) Tryz.rObj_int (O6.out.cell 2 _ E2.out) ?_); (case qqg2142 => rfl); (case qqo2142 => rfl); (case qqh2142 => first | (simp; done) | (simp [Act.eval]; done) | (simp only [Act.put]; simp; done) | (simp only [Act.put]; simp [Act.eval]; done)))
          | ((with_reducible refine wpList_load_oneG ?qqg2143 3 ?qqx2143 ?qqo2143 w.heap.size 3 ?qqh2143 (.int .i64 z3) Tryz.rObj_int (O6.out.cell 3 _ E3.out) ?_); (case qqg2143 => rfl); (case qqo2143 => rfl); (case qqh2143 => first | (simp; done) | (simp [Act.eval]; done) | (simp only [Act.put]; simp; done) | (simp only [Act.put]; simp [Act.eval]; done)))
          | ((with_reducible refine wpList_load_oneG ?qqg2144 3 ?qqx2144 ?qqo2144 w.heap.size 4 ?qqh2144 (.int .i64 z4) Tryz.rObj_int (O6.out.cell 4 _ E4.out) ?_); (case qqg2144 => rfl); (case qqo2144 => rfl); (case qqh2144 => first | (simp; done) | (simp [Act.eval]; done) | (simp only [Act.put]; simp; done) | (simp only [Act.put]; simp [Act.eval]; done)))
          | ((with_reducible refine wpList_load_oneG ?qqg2145 4 ?qqx2145 ?qqo2145 w.heap.size 5 ?qqh2145 (.bool true) Tryz.rObj_bool (O6.out.cell 5 _ E5.out) ?_); (case qqg2145 => rfl); (case qqo2145 => rfl); (case qqh2145 => first | (simp; done) | (simp [Act.eval]; done) | (simp only [Act.put]; simp; done) | (simp only [Act.put]; simp [Act.eval]; done)))
          | ((with_reducible refine wpList_load_oneG ?qqg2146 28 ?qqx2146 ?qqo2146 w.heap.size 6 ?qqh2146 ((.slice a6 n6 cp6)) Tryz.rObj_Lstring (O6.out.cell 6 _ E6.out) ?_); (case qqg2146 => rfl); (case qqo2146 => rfl); (case qqh2146 => first | (simp; done) | (simp [Act.eval]; done) | (simp only [Act.put]; simp; done) | (simp only [Act.put]; simp [Act.eval]; done)))
          | ((with_reducible refine wpList_load_rowG ?qqg2147 31 ?qqx2147 ?qqo2147 w.heap.size 7 ?qqh2147 y7 Tryz.rObj_impl_Value YZ7.out (O6.out.range 7 _ E7.out) ?_); (case qqg2147 => rfl); (case qqo2147 => rfl); (case qqh2147 => first | (simp; done) | (simp [Act.eval]; done) | (simp only [Act.put]; simp; done) | (simp only [Act.put]; simp [Act.eval]; done)))
          | ((with_reducible refine wpList_load_rowG ?qqg2148 31 ?qqx2148 ?qqo2148 w.heap.size 12 ?qqh2148 y8 Tryz.rObj_impl_Value YZ8.out (O6.out.range 12 _ E8.out) ?_); (case qqg2148 => rfl); (case qqo2148 => rfl); (case qqh2148 => first | (simp; done) | (simp [Act.eval]; done) | (simp only [Act.put]; simp; done) | (simp only [Act.put]; simp [Act.eval]; done)))
          )
        refine (HK7.out _ B6.out).mono ?_
        rintro e w7 ⟨rfl, hb7⟩
        have O7 := uhide (O6.out.below hb7)
        have B7 : Hid (Below w.heap.size w w7) := B6.out.trans (hb7.mono B6.out.size)
        clear hb7
        go_wp2_with (first
          | ((with_reducible refine wpList_load_oneG ?qqg2156 4 ?qqx2156 ?qqo2156 w.heap.size 5 ?qqh2156 (.bool true) Tryz.rObj_bool (O7.out.cell 5 _ E5.out) ?_); (case qqg2156 => rfl); (case qqo2156 => rfl); (case qqh2156 => first | (simp; done) | (simp [Act.eval]; done) | (simp only [Act.put]; simp; done) | (simp only [Act.put]; simp [Act.eval]; done)))
          | ((with_reducible refine wpList_load_oneG ?qqg2157 28 ?qqx2157 ?qqo2157 w.heap.size 6 ?qqh2157 ((.slice a6 n6 cp6)) Tryz.rObj_Lstring (O7.out.cell 6 _ E6.out) ?_); (case qqg2157 => rfl); (case qqo2157 => rfl); (case qqh2157 => first | (simp; done) | (simp [Act.eval]; done) | (simp only [Act.put]; simp; done) | (simp only [Act.put]; simp [Act.eval]; done)))
          )
        go_ret
        exact ⟨ret_bool (by simp [H6.out]; omega), B7.out⟩
end Go.Proofs.YtamlgjmboljcdaaGreat

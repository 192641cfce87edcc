import Derived.Test.YtlbpfcchaobgjaaAmts4
namespace Go.Proofs.Ytlbpfcchaobgjaa
open Go.RowKit Go.BigFrame
set_option linter.unusedVariables false
theorem ix0 (a b c : Int) (w : World) : (Instr.index 34 (.agg #[.int .i64 a, .int .i64 b, .int .i64 c]) (.int .i64 0)).run Try.prog w = .ok (.int .i64 a) w := by kernel_rfl
theorem ix1 (a b c : Int) (w : World) : (Instr.index 34 (.agg #[.int .i64 a, .int .i64 b, .int .i64 c]) (.int .i64 1)).run Try.prog w = .ok (.int .i64 b) w := by kernel_rfl
theorem ix2 (a b c : Int) (w : World) : (Instr.index 34 (.agg #[.int .i64 a, .int .i64 b, .int .i64 c]) (.int .i64 2)).run Try.prog w = .ok (.int .i64 c) w := by kernel_rfl
set_option maxRecDepth 100000 in
set_option maxHeartbeats 3200000 in
theorem ifits_any (a b c x y z : Int) (w : World) :
    Calls Try.prog 16 #[.agg #[.int .i64 a, .int .i64 b, .int .i64 c], .agg #[.int .i64 x, .int .i64 y, .int .i64 z]] w fun e w' => e = .returned (.int .i64 (fitsI a b c x y z)) ∧ Below w.heap.size w w' := by
  have ha := fun wx => iam_any a b c wx
  have hx := fun wx => iam_any x y z wx
  cases h0 : amB a b c
  · rw [h0] at ha
    have Ha := hide ha
    have HV : Hid (fitsI a b c x y z = 0) := by show _ = _; unfold fitsI; rw [h0]; rfl
    clear ha hx
    generalize fitsI a b c x y z = V at *
    go_enter Try.func16, Try.ntmps16
    go_wp2_with fail
    refine (Ha.out _).mono ?_
    rintro e w1 ⟨rfl, hb1⟩
    have T1 := hide (below_two hb1)
    clear hb1
    go_wp2_with fail
    go_ret
    exact ⟨by rw [HV.out]; rfl, T1.out⟩
  cases h1 : amB x y z
  · rw [h0] at ha
    rw [h1] at hx
    have Ha := hide ha
    have Hx := hide hx
    have HV : Hid (fitsI a b c x y z = 0) := by show _ = _; unfold fitsI; rw [h0, h1]; rfl
    clear ha hx
    generalize fitsI a b c x y z = V at *
    go_enter Try.func16, Try.ntmps16
    go_wp2_with fail
    refine (Ha.out _).mono ?_
    rintro e w1 ⟨rfl, hb1⟩
    have T1 := hide (below_two hb1)
    obtain ⟨x0, x1, x2, -, -, -⟩ : Has3 w1 (w.heap.size + 1) x y z := Has3.later (w := ((w.alloc (.cells #[.int .i64 a, .int .i64 b, .int .i64 c] 36)).alloc (.cells #[.int .i64 x, .int .i64 y, .int .i64 z] 36))) (by constructor <;> simp [go_sem]) hb1
    clear hb1
    go_wp2_with fail
    refine (Hx.out _).mono ?_
    rintro e w2 ⟨rfl, hb2⟩
    have T2 := hide (T1.out.trans (hb2.mono T1.out.size))
    clear hb2 T1 x0 x1 x2
    go_wp2_with fail
    go_ret
    exact ⟨by rw [HV.out]; rfl, T2.out⟩
  have HV : Hid (fitsI a b c x y z = fitS c z (fitS b y (fitS a x 1000000))) := by show _ = _; unfold fitsI; rw [h0, h1]; rfl
  generalize fitsI a b c x y z = V at *
  obtain ⟨ba, bb, bc⟩ := amB_bd h0
  obtain ⟨bx, by', bz⟩ := amB_bd h1
  rw [h0] at ha
  rw [h1] at hx
  have Ha := hide ha
  have Hx := hide hx
  clear ha hx h0 h1
  go_enter Try.func16, Try.ntmps16
  go_wp2_with fail
  refine (Ha.out _).mono ?_
  rintro e w1 ⟨rfl, hb1⟩
  have T1 := hide (below_two hb1)
  have A1 : Hid (Has3 w1 w.heap.size a b c) := Has3.later (w := ((w.alloc (.cells #[.int .i64 a, .int .i64 b, .int .i64 c] 36)).alloc (.cells #[.int .i64 x, .int .i64 y, .int .i64 z] 36))) (by constructor <;> simp [go_sem]) hb1
  have X1 : Hid (Has3 w1 (w.heap.size + 1) x y z) := Has3.later (w := ((w.alloc (.cells #[.int .i64 a, .int .i64 b, .int .i64 c] 36)).alloc (.cells #[.int .i64 x, .int .i64 y, .int .i64 z] 36))) (by constructor <;> simp [go_sem]) hb1
  have x0 := X1.out.c0
  have x1 := X1.out.c1
  have x2 := X1.out.c2
  clear hb1
  go_wp2_with fail
  refine (Hx.out _).mono ?_
  rintro e w2 ⟨rfl, hb2⟩
  have T2 := hide (T1.out.trans (hb2.mono T1.out.size))
  obtain ⟨a0, a1, a2, -, -, -⟩ := A1.out.later hb2
  clear x0 x1 x2
  obtain ⟨x0, x1, x2, -, -, -⟩ := X1.out.later hb2
  clear hb2 T1 A1 X1
  go_wp2_with fail
  refine wp_loop_rounds 4 ?_
  have B0 := hide ba.1
  have B1 := hide bb.1
  have B2 := hide bc.1
  have X0 := hide bx
  have X1 := hide by'
  have X2 := hide bz
  clear ba bb bc bx by' bz
  rcases fits_a HV B0.out with ⟨rfl, HV1⟩ | ⟨p0, q0, HV1⟩ | ⟨p0, q0, HV1⟩
  all_goals
    clear HV
    try have d0 := wdiv X0.out p0
    first | have i0 := fun wx => ix0 a b c wx | have i0 := fun wx => ix0 0 b c wx
    rw [rounds_succ]; go_wp2
  all_goals
    rcases fits_b HV1 B1.out with ⟨rfl, HV2⟩ | ⟨p1, q1, HV2⟩ | ⟨p1, q1, HV2⟩
  all_goals
    clear HV1
    try have d1 := wdiv X1.out p1
    first | have i1 := fun wx => ix1 a b c wx | have i1 := fun wx => ix1 a 0 c wx | have i1 := fun wx => ix1 0 b c wx | have i1 := fun wx => ix1 0 0 c wx
    rw [rounds_succ]; go_wp2
  all_goals
    rcases fits_c HV2 B2.out with ⟨rfl, HV3⟩ | ⟨p2, q2, HV3⟩ | ⟨p2, q2, HV3⟩
  all_goals
    clear HV2
    try have d2 := wdiv X2.out p2
    first | have i2 := fun wx => ix2 a b c wx | have i2 := fun wx => ix2 a b 0 wx | have i2 := fun wx => ix2 a 0 c wx | have i2 := fun wx => ix2 a 0 0 wx | have i2 := fun wx => ix2 0 b c wx | have i2 := fun wx => ix2 0 b 0 wx | have i2 := fun wx => ix2 0 0 c wx | have i2 := fun wx => ix2 0 0 0 wx
    rw [rounds_succ]; go_wp2
  all_goals
    rw [rounds_succ]; go_wp2
    go_ret
    exact ⟨by first | (exfalso; omega) | (rw [HV3.out]; rfl) | (rw [HV3.out, ← d2]; rfl) | (rw [HV3.out, ← d1]; rfl) | (rw [HV3.out, ← d0]; rfl), by repeat (first | exact T2.out | refine Below.drew ?_ | refine below_drewN ?_ _)⟩
end Go.Proofs.Ytlbpfcchaobgjaa

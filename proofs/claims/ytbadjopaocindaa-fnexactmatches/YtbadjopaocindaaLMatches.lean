/- FnExactMatches holds: at every slice of terms and every slice of labels impl.Matches answers what spec.Matches answers, and writes nothing. No conditions. -/
import Derived.Test.YtbadjopaocindaaRows
import Derived.Test.YtbadjopaocindaaMatch2
import Derived.Test.YtbadjopaocindaaOpenT
import Derived.WalkKit
import Derived.ProofKit
import Derived.OpenShut
import Derived.ShutString
import Derived.ChangeOld
import Derived.Below
namespace Go.Proofs.Ytbadjopaocindaa
open Go.ChangeShapes Go.WideShapes Go.ChangeAt Go.RowKit
open Go.ChangeMaps (open_string shut_string)
set_option linter.unusedVariables false
namespace LMatches
theorem laidOut : laidOutB Try.prog = true := by kernel_rfl
theorem own : ownKnob Try.prog.godebug = none := by kernel_rfl

theorem walk (a0 : Option Addr) (cap0 : Nat) (d0 : List TD) (a1 : Option Addr) (cap1 : Nat) (d1 : List (ByteArray × ByteArray)) (w : World) (hl0 : d0.length ≤ maxLen) (hz0 : okTerms d0) (hrow0 : termsOf w a0 d0) (hl1 : d1.length ≤ maxLen) (hz1 : okSizes d1) (hrow1 : rowOf w a1 d1) :
    Calls Try.prog 6 #[.slice a0 d0.length cap0, .slice a1 d1.length cap1] w fun e w' => e = .returned (.bool true) ∧ Below w.heap.size w w' := by
  have Hr0 := hide hrow0
  have Hz0 := hide hz0
  clear hrow0 hz0
  have Hr1 := hide hrow1
  have Hz1 := hide hz1
  clear hrow1 hz1
  by_cases hs0 : szTS d0 1048576 < 0
  · go_enter Try.func6, Try.ntmps6
    go_wp2_with fail
    refine (szTermS_any a0 cap0 d0 _ _ hl0 Hz0.out (by decide) (by decide) Hr0.out).mono ?_
    rintro e w1 ⟨rfl, hb1⟩
    have T1 := hide hb1
    clear hb1
    go_wp2
    go_ret
    exact ⟨rfl, T1.out⟩
  have hlen0 : d0.length ≤ 1048576 := szTS_len hs0
  have Hz10 : Hid (∀ t ∈ d0, t.2.2.length ≤ 1048576) := szTS_vals hs0
  have Hz20 : Hid (∀ t ∈ d0, t.2.2.length ≤ maxLen) := fun t ht => (Hz0.out t ht).2.1
  have Hle1 : Hid (0 ≤ szTS d0 1048576 ∧ szTS d0 1048576 ≤ 1048576) := by have := szTS_le d0 (1048576); exact ⟨by omega, by omega⟩
  by_cases hs1 : szS d1 (szTS d0 1048576) < 0
  · go_enter Try.func6, Try.ntmps6
    go_wp2_with fail
    refine (szTermS_any a0 cap0 d0 _ _ hl0 Hz0.out (by decide) (by decide) Hr0.out).mono ?_
    rintro e w1 ⟨rfl, hb1⟩
    have T1 := hide hb1
    clear hb1
    go_wp2_with fail
    refine (szLabelS_any a1 cap1 d1 _ _ hl1 Hz1.out Hle1.out.1 Hle1.out.2 (Hr1.out.below T1.out)).mono ?_
    rintro e w2 ⟨rfl, hb2⟩
    have T2 := hide (T1.out.trans (hb2.mono T1.out.size))
    clear hb2
    go_wp2
    go_ret
    exact ⟨rfl, T2.out⟩
  have hlen1 : d1.length ≤ 1048576 := szS_len' hs1 Hle1.out.2
  go_enter Try.func6, Try.ntmps6
  go_wp2_with fail
  refine (szTermS_any a0 cap0 d0 _ _ hl0 Hz0.out (by decide) (by decide) Hr0.out).mono ?_
  rintro e w1 ⟨rfl, hb1⟩
  have T1 := hide hb1
  clear hb1
  go_wp2_with fail
  refine (szLabelS_any a1 cap1 d1 _ _ hl1 Hz1.out Hle1.out.1 Hle1.out.2 (Hr1.out.below T1.out)).mono ?_
  rintro e w2 ⟨rfl, hb2⟩
  have T2 := hide (T1.out.trans (hb2.mono T1.out.size))
  clear hb2
  go_wp2_with fail
  refine (toTermS_row a0 cap0 d0 _ hlen0 Hz10.out (Hr0.out.below T2.out)).mono ?_
  rintro e w3 ⟨g3, rfl, hr3, hb3⟩
  have T3 := hide (T2.out.trans (hb3.mono T2.out.size))
  have P0_3 := hide hr3
  clear hr3
  clear hb3
  go_wp2_with fail
  refine (toLabelS_row a1 cap1 d1 _ hlen1 (Hr1.out.below T3.out)).mono ?_
  rintro e w4 ⟨g4, rfl, hr4, hb4⟩
  have T4 := hide (T3.out.trans (hb4.mono T3.out.size))
  have P0_4 := hide (P0_3.out.below hb4)
  clear P0_3
  have P1_4 := hide hr4
  clear hr4
  clear hb4
  go_wp2_with fail
  refine (smatches_any _ _ d0 _ _ d1 _ hl0 Hz0.out P0_4.out hl1 Hz1.out P1_4.out).mono ?_
  rintro e w5 ⟨rfl, hb5⟩
  have T5 := hide (T4.out.trans (hb5.mono T4.out.size))
  clear hb5
  go_wp2_with fail
  refine (toTermS_row a0 cap0 d0 _ hlen0 Hz10.out (Hr0.out.below T5.out)).mono ?_
  rintro e w6 ⟨g6, rfl, hr6, hb6⟩
  have T6 := hide (T5.out.trans (hb6.mono T5.out.size))
  have X0_6 := hide hr6
  clear hr6
  clear hb6
  go_wp2_with fail
  refine (toLabelS_row a1 cap1 d1 _ hlen1 (Hr1.out.below T6.out)).mono ?_
  rintro e w7 ⟨g7, rfl, hr7, hb7⟩
  have T7 := hide (T6.out.trans (hb7.mono T6.out.size))
  have X0_7 := hide (X0_6.out.below hb7)
  clear X0_6
  have X1_7 := hide hr7
  clear hr7
  clear hb7
  go_wp2_with fail
  refine (imatches_any _ _ d0 _ _ d1 _ hl0 Hz20.out X0_7.out hl1 X1_7.out).mono ?_
  rintro e w8 ⟨rfl, hb8⟩
  have T8 := hide (T7.out.trans (hb8.mono T7.out.size))
  have X0_8 := hide (X0_7.out.below hb8)
  clear X0_7
  have X1_8 := hide (X1_7.out.below hb8)
  clear X1_7
  clear hb8
  have hne : (matchB d0 d1 != matchB d0 d1) = false := by simp
  go_wp2_with fail
  refine (toTermS_row a0 cap0 d0 _ hlen0 Hz10.out (Hr0.out.below T8.out)).mono ?_
  rintro e w9 ⟨g9, rfl, hr9, hb9⟩
  have T9 := hide (T8.out.trans (hb9.mono T8.out.size))
  have X0_9 := hide (X0_8.out.below hb9)
  clear X0_8
  have X1_9 := hide (X1_8.out.below hb9)
  clear X1_8
  have Y0_9 := hide hr9
  clear hr9
  clear hb9
  have hd0 : decide (d0 = d0) = true := by simp
  go_wp2_with fail
  refine (eqTermS_any _ _ _ _ d0 d0 _ hl0 hl0 Hz20.out Hz20.out X0_9.out Y0_9.out).mono ?_
  rintro e w10 ⟨rfl, hb10⟩
  have T10 := hide (T9.out.trans (hb10.mono T9.out.size))
  have X0_10 := hide (X0_9.out.below hb10)
  clear X0_9
  have X1_10 := hide (X1_9.out.below hb10)
  clear X1_9
  clear hb10
  go_wp2_with fail
  refine (toLabelS_row a1 cap1 d1 _ hlen1 (Hr1.out.below T10.out)).mono ?_
  rintro e w11 ⟨g11, rfl, hr11, hb11⟩
  have T11 := hide (T10.out.trans (hb11.mono T10.out.size))
  have X0_11 := hide (X0_10.out.below hb11)
  clear X0_10
  have X1_11 := hide (X1_10.out.below hb11)
  clear X1_10
  have Y1_11 := hide hr11
  clear hr11
  clear hb11
  have hd1 : decide (d1 = d1) = true := by simp
  go_wp2_with fail
  refine (eqLabelS_any _ _ _ _ d1 d1 _ hl1 hl1 X1_11.out Y1_11.out).mono ?_
  rintro e w12 ⟨rfl, hb12⟩
  have T12 := hide (T11.out.trans (hb12.mono T11.out.size))
  have X0_12 := hide (X0_11.out.below hb12)
  clear X0_11
  have X1_12 := hide (X1_11.out.below hb12)
  clear X1_11
  clear hb12
  go_wp2
  go_ret
  exact ⟨rfl, T12.out⟩

set_option maxRecDepth 100000 in
theorem lifted (os : Os) (started : os.Started) (H : Type) (enc : TypeId × Value → H) :
    ReturnsInHanded {} Try.checked os 6 .any (Rows.fnExactMatchesSpec.pre6 enc Try.prog Try.f6 Rows.fnExactMatchesRow.domain false) (Rows.fnExactMatchesSpec.post enc Try.prog Try.f6 false true false false) := by
  refine returnsInHanded_of_change (C := Try.checked) own started (by kernel_rfl) Try.func6
    (ChangeSpec.witness6 (enc := enc) (C := Try.checked) false ⟨#[], #[.slice none 0 0, .slice none 0 0], []⟩ 8 (by kernel_rfl) (by kernel_rfl) (by kernel_rfl) (by kernel_rfl)) ?_
  intro W base args ds gs before hval0 hW hcnd _
  have hval : ∀ (j : Nat) t v, Try.f6.params[j]? = some t → args[j]? = some v → Value.okWide Try.prog W .any base t v := hval0
  have hW' := hW
  obtain ⟨p, q, hA0, hV, rfl, hfz, hnd⟩ := hW
  have hA : DataW.TrodAll enc Try.prog W 0 (fun _ => true) true Try.f6.params.toList args.toList ds p := hA0
  rw [Try.params6] at hA hval
  obtain ⟨v0, vs0, d0, ds0, p0, q0, hargs, rfl, rfl, h0, r0⟩ := trodAll_cons hA
  obtain ⟨v1, vs1, d1, ds1, p1, q1, rfl, rfl, rfl, h1, r1⟩ := trodAll_cons r0
  obtain ⟨rfl, rfl, rfl⟩ := trodAll_nil r1
  obtain rfl : args = #[v0, v1] := by cases args; simp_all
  obtain ⟨rfl, rfl⟩ := trodVars_none hV
  obtain ⟨a0, len0, cap0, rfl⟩ := okWide_slice Try.underlying43 (hval 0 43 v0 rfl rfl)
  have k0 := h0
  have lt0 : ∀ x ∈ p0, x.block < W.heap.size := by obtain ⟨m, hm⟩ := k0; exact DataW.trod_lt m _ _ _ hm
  obtain ⟨fuel0, hf0⟩ := h0
  obtain ⟨ts0, b0, c0, he0, hl0, hz0, hrow0⟩ := open_terms (by simpa [Value.cells] using hf0)
  simp only [List.cons.injEq, Value.slice.injEq, and_true] at he0
  obtain ⟨rfl, rfl, rfl⟩ := he0
  obtain ⟨a1, len1, cap1, rfl⟩ := okWide_slice Try.underlying48 (hval 1 48 v1 rfl rfl)
  have k1 := h1
  have lt1 : ∀ x ∈ p1, x.block < W.heap.size := by obtain ⟨m, hm⟩ := k1; exact DataW.trod_lt m _ _ _ hm
  obtain ⟨fuel1, hf1⟩ := h1
  obtain ⟨ls1, rfl, hl1, hz1, hrow1⟩ := open_labs (by simpa [Value.cells] using hf1)
  clear hA0 hval0
  refine (walk a0 cap0 ts0 a1 cap1 ls1 W hl0 hz0 hrow0 hl1 hz1 hrow1).mono fun e W' ⟨he, bel⟩ => ?_
  subst he
  exact ⟨_, rfl, _, _, _, [], _, [], hW', trodAll_mk1 (shut_bool Try.underlying4 _), (trodAll_cons_mk (Below.trod laidOut (by kernel_rfl) (of_decide_eq_true (by kernel_rfl)) k0 bel lt0) (trodAll_cons_mk (Below.trod laidOut (by kernel_rfl) (of_decide_eq_true (by kernel_rfl)) k1 bel lt1) trodAll_mk0)), rfl, bel.frame _, fun h => by cases h⟩
end LMatches
theorem matches_holds : Rows.FnExactMatchesSaid :=
  OpenClaim.holds_of_wide 6 Try.f6 rfl rfl rfl rfl rfl rfl rfl ⟨rfl, rfl, rfl, rfl, rfl⟩ rfl rfl rfl rfl rfl (by kernel_rfl) Try.func6 (by kernel_rfl)
    (of_decide_eq_true (by kernel_rfl)) (by unfold Func.isWrapper; first | (rw [if_pos (by decide +kernel)]; kernel_rfl) | (rw [if_neg (by decide +kernel)]; exact ⟨rfl, rfl⟩))
    (fun os started H enc _ => LMatches.lifted os started H enc)
#print axioms matches_holds
end Go.Proofs.Ytbadjopaocindaa

/- FnExactSelectorText holds: at every slice of terms impl.SelectorText answers what spec.SelectorText answers, and writes nothing. No conditions. -/
import Derived.Test.YtbadjopaocindaaRows
import Derived.Test.YtbadjopaocindaaSelTx
import Derived.Test.YtbadjopaocindaaOpenT
import Derived.WalkKit
import Derived.ProofKit
import Derived.OpenShut
import Derived.ShutString
import Derived.ChangeOld
import Derived.Below
namespace Go.Proofs.Ytbadjopaocindaa
open Go.ChangeShapes Go.WideShapes Go.ChangeAt Go.RowKit
open Go.ChangeMaps (open_string shut_string)
set_option linter.unusedVariables false
namespace LSelectorText
theorem laidOut : laidOutB Try.prog = true := by kernel_rfl
theorem own : ownKnob Try.prog.godebug = none := by kernel_rfl

theorem walk (a0 : Option Addr) (cap0 : Nat) (d0 : List TD) (w : World) (hl0 : d0.length ≤ maxLen) (hz0 : okTerms d0) (hrow0 : termsOf w a0 d0) :
    Calls Try.prog 7 #[.slice a0 d0.length cap0] w fun e w' => e = .returned (.bool true) ∧ Below w.heap.size w w' := by
  have Hr0 := hide hrow0
  have Hz0 := hide hz0
  clear hrow0 hz0
  by_cases hs0 : szTS d0 1048576 < 0
  · go_enter Try.func7, Try.ntmps7
    go_wp2_with fail
    refine (szTermS_any a0 cap0 d0 _ _ hl0 Hz0.out (by decide) (by decide) Hr0.out).mono ?_
    rintro e w1 ⟨rfl, hb1⟩
    have T1 := hide hb1
    clear hb1
    go_wp2
    go_ret
    exact ⟨rfl, T1.out⟩
  have hlen0 : d0.length ≤ 1048576 := szTS_len hs0
  have Hz10 : Hid (∀ t ∈ d0, t.2.2.length ≤ 1048576) := szTS_vals hs0
  have Hz20 : Hid (∀ t ∈ d0, t.2.2.length ≤ maxLen) := fun t ht => (Hz0.out t ht).2.1
  go_enter Try.func7, Try.ntmps7
  go_wp2_with fail
  refine (szTermS_any a0 cap0 d0 _ _ hl0 Hz0.out (by decide) (by decide) Hr0.out).mono ?_
  rintro e w1 ⟨rfl, hb1⟩
  have T1 := hide hb1
  clear hb1
  go_wp2_with fail
  refine (toTermS_row a0 cap0 d0 _ hlen0 Hz10.out (Hr0.out.below T1.out)).mono ?_
  rintro e w2 ⟨g2, rfl, hr2, hb2⟩
  have T2 := hide (T1.out.trans (hb2.mono T1.out.size))
  have P0_2 := hide hr2
  clear hr2
  clear hb2
  go_wp2_with fail
  refine (sselText_any _ _ d0 _ hl0 Hz0.out P0_2.out).mono ?_
  rintro e w3 ⟨rfl, hb3⟩
  have T3 := hide (T2.out.trans (hb3.mono T2.out.size))
  clear hb3
  go_wp2_with fail
  refine (toTermS_row a0 cap0 d0 _ hlen0 Hz10.out (Hr0.out.below T3.out)).mono ?_
  rintro e w4 ⟨g4, rfl, hr4, hb4⟩
  have T4 := hide (T3.out.trans (hb4.mono T3.out.size))
  have X0_4 := hide hr4
  clear hr4
  clear hb4
  go_wp2_with fail
  refine (iselText_any _ _ d0 _ hl0 Hz20.out X0_4.out).mono ?_
  rintro e w5 ⟨rfl, hb5⟩
  have T5 := hide (T4.out.trans (hb5.mono T4.out.size))
  have X0_5 := hide (X0_4.out.below hb5)
  clear X0_4
  clear hb5
  have hse : ((selTx d0).toList == (selTx d0).toList) = true := by simp
  go_wp2_with fail
  refine (toTermS_row a0 cap0 d0 _ hlen0 Hz10.out (Hr0.out.below T5.out)).mono ?_
  rintro e w6 ⟨g6, rfl, hr6, hb6⟩
  have T6 := hide (T5.out.trans (hb6.mono T5.out.size))
  have X0_6 := hide (X0_5.out.below hb6)
  clear X0_5
  have Y0_6 := hide hr6
  clear hr6
  clear hb6
  have hd0 : decide (d0 = d0) = true := by simp
  go_wp2_with fail
  refine (eqTermS_any _ _ _ _ d0 d0 _ hl0 hl0 Hz20.out Hz20.out X0_6.out Y0_6.out).mono ?_
  rintro e w7 ⟨rfl, hb7⟩
  have T7 := hide (T6.out.trans (hb7.mono T6.out.size))
  have X0_7 := hide (X0_6.out.below hb7)
  clear X0_6
  clear hb7
  go_wp2
  go_ret
  exact ⟨rfl, T7.out⟩

set_option maxRecDepth 100000 in
theorem lifted (os : Os) (started : os.Started) (H : Type) (enc : TypeId × Value → H) :
    ReturnsInHanded {} Try.checked os 7 .any (Rows.fnExactSelectorTextSpec.pre6 enc Try.prog Try.f7 Rows.fnExactSelectorTextRow.domain false) (Rows.fnExactSelectorTextSpec.post enc Try.prog Try.f7 false true false false) := by
  refine returnsInHanded_of_change (C := Try.checked) own started (by kernel_rfl) Try.func7
    (ChangeSpec.witness6 (enc := enc) (C := Try.checked) false ⟨#[], #[.slice none 0 0], []⟩ 8 (by kernel_rfl) (by kernel_rfl) (by kernel_rfl) (by kernel_rfl)) ?_
  intro W base args ds gs before hval0 hW hcnd _
  have hval : ∀ (j : Nat) t v, Try.f7.params[j]? = some t → args[j]? = some v → Value.okWide Try.prog W .any base t v := hval0
  have hW' := hW
  obtain ⟨p, q, hA0, hV, rfl, hfz, hnd⟩ := hW
  have hA : DataW.TrodAll enc Try.prog W 0 (fun _ => true) true Try.f7.params.toList args.toList ds p := hA0
  rw [Try.params7] at hA hval
  obtain ⟨v0, vs0, d0, ds0, p0, q0, hargs, rfl, rfl, h0, r0⟩ := trodAll_cons hA
  obtain ⟨rfl, rfl, rfl⟩ := trodAll_nil r0
  obtain rfl : args = #[v0] := by cases args; simp_all
  obtain ⟨rfl, rfl⟩ := trodVars_none hV
  obtain ⟨a0, len0, cap0, rfl⟩ := okWide_slice Try.underlying43 (hval 0 43 v0 rfl rfl)
  have k0 := h0
  have lt0 : ∀ x ∈ p0, x.block < W.heap.size := by obtain ⟨m, hm⟩ := k0; exact DataW.trod_lt m _ _ _ hm
  obtain ⟨fuel0, hf0⟩ := h0
  obtain ⟨ts0, b0, c0, he0, hl0, hz0, hrow0⟩ := open_terms (by simpa [Value.cells] using hf0)
  simp only [List.cons.injEq, Value.slice.injEq, and_true] at he0
  obtain ⟨rfl, rfl, rfl⟩ := he0
  clear hA0 hval0
  refine (walk a0 cap0 ts0 W hl0 hz0 hrow0).mono fun e W' ⟨he, bel⟩ => ?_
  subst he
  exact ⟨_, rfl, _, _, _, [], _, [], hW', trodAll_mk1 (shut_bool Try.underlying4 _), (trodAll_cons_mk (Below.trod laidOut (by kernel_rfl) (of_decide_eq_true (by kernel_rfl)) k0 bel lt0) trodAll_mk0), rfl, bel.frame _, fun h => by cases h⟩
end LSelectorText
theorem selectorText_holds : Rows.FnExactSelectorTextSaid :=
  OpenClaim.holds_of_wide 7 Try.f7 rfl rfl rfl rfl rfl rfl rfl ⟨rfl, rfl, rfl, rfl, rfl⟩ rfl rfl rfl rfl rfl (by kernel_rfl) Try.func7 (by kernel_rfl)
    (of_decide_eq_true (by kernel_rfl)) (by unfold Func.isWrapper; first | (rw [if_pos (by decide +kernel)]; kernel_rfl) | (rw [if_neg (by decide +kernel)]; exact ⟨rfl, rfl⟩))
    (fun os started H enc _ => LSelectorText.lifted os started H enc)
#print axioms selectorText_holds
end Go.Proofs.Ytbadjopaocindaa

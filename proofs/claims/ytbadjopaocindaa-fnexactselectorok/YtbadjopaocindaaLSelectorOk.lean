/- FnExactSelectorOk holds: at every slice of terms impl.SelectorOk answers what spec.SelectorOk answers, and writes nothing. No conditions. -/
import Derived.Test.YtbadjopaocindaaRows
import Derived.Test.YtbadjopaocindaaTerm2
import Derived.Test.YtbadjopaocindaaOpenT
import Derived.WalkKit
import Derived.ProofKit
import Derived.OpenShut
import Derived.ShutString
import Derived.ChangeOld
import Derived.Below
namespace Go.Proofs.Ytbadjopaocindaa
open Go.ChangeShapes Go.WideShapes Go.ChangeAt Go.RowKit
open Go.ChangeMaps (open_string shut_string)
set_option linter.unusedVariables false
namespace LSelectorOk
theorem laidOut : laidOutB Try.prog = true := by kernel_rfl
theorem own : ownKnob Try.prog.godebug = none := by kernel_rfl

theorem walk (a : Option Addr) (cap : Nat) (ts : List TD) (w : World) (hl : ts.length ≤ maxLen) (hz : okTerms ts) (hrow : termsOf w a ts) :
    Calls Try.prog 5 #[.slice a ts.length cap] w fun e w' => e = .returned (.bool true) ∧ Below w.heap.size w w' := by
  have Hr := hide hrow
  have Hz := hide hz
  clear hrow hz
  by_cases hs : szTS ts 1048576 < 0
  · go_enter Try.func5, Try.ntmps5
    go_wp2_with fail
    refine (szTermS_any a cap ts _ _ hl Hz.out (by decide) (by decide) Hr.out).mono ?_
    rintro e w1 ⟨rfl, hb1⟩
    go_wp2
    go_ret
    exact ⟨rfl, hb1⟩
  · have hlen : ts.length ≤ 1048576 := szTS_len hs
    have Hz1 : Hid (∀ t ∈ ts, t.2.2.length ≤ 1048576) := szTS_vals hs
    have Hz2 : Hid (∀ t ∈ ts, t.2.2.length ≤ maxLen) := fun t ht => (Hz.out t ht).2.1
    go_enter Try.func5, Try.ntmps5
    go_wp2_with fail
    refine (szTermS_any a cap ts _ _ hl Hz.out (by decide) (by decide) Hr.out).mono ?_
    rintro e w1 ⟨rfl, hb1⟩
    have Hr1 := hide (Hr.out.below hb1)
    go_wp2_with fail
    refine (toTermS_row a cap ts _ hlen Hz1.out Hr1.out).mono ?_
    rintro e w2 ⟨g2, rfl, hr2, hb2⟩
    have Hr2 := hide (Hr1.out.below hb2)
    have Hx2 := hide hr2
    clear hr2
    go_wp2_with fail
    refine (sselOk_any _ _ ts _ hl Hz.out Hx2.out).mono ?_
    rintro e w3 ⟨rfl, hb3⟩
    have Hr3 := hide (Hr2.out.below hb3)
    go_wp2_with fail
    refine (toTermS_row a cap ts _ hlen Hz1.out Hr3.out).mono ?_
    rintro e w4 ⟨g4, rfl, hr4, hb4⟩
    have Hr4 := hide (Hr3.out.below hb4)
    have Hx4 := hide hr4
    clear hr4
    go_wp2_with fail
    refine (iselOk_any _ _ ts _ hl Hz2.out Hx4.out).mono ?_
    rintro e w5 ⟨rfl, hb5⟩
    have Hr5 := hide (Hr4.out.below hb5)
    have Hx5 := hide (Hx4.out.below hb5)
    have hne : (selB ts != selB ts) = false := by simp
    go_wp2_with fail
    refine (toTermS_row a cap ts _ hlen Hz1.out Hr5.out).mono ?_
    rintro e w6 ⟨g6, rfl, hr6, hb6⟩
    have Hx6 := hide (Hx5.out.below hb6)
    have Hy6 := hide hr6
    clear hr6
    go_wp2_with fail
    refine (eqTermS_any _ _ _ _ ts ts _ hl hl Hz2.out Hz2.out Hx6.out Hy6.out).mono ?_
    rintro e w7 ⟨rfl, hb7⟩
    have hdd : decide (ts = ts) = true := by simp
    go_wp2
    go_ret
    exact ⟨rfl, hb1.trans ((hb2.trans ((hb3.trans ((hb4.trans ((hb5.trans ((hb6.trans (hb7.mono hb6.size)).mono hb5.size)).mono hb4.size)).mono hb3.size)).mono hb2.size)).mono hb1.size)⟩

set_option maxRecDepth 100000 in
theorem lifted (os : Os) (started : os.Started) (H : Type) (enc : TypeId × Value → H) :
    ReturnsInHanded {} Try.checked os 5 .any (Rows.fnExactSelectorOkSpec.pre6 enc Try.prog Try.f5 Rows.fnExactSelectorOkRow.domain false) (Rows.fnExactSelectorOkSpec.post enc Try.prog Try.f5 false true false false) := by
  refine returnsInHanded_of_change (C := Try.checked) own started (by kernel_rfl) Try.func5
    (ChangeSpec.witness6 (enc := enc) (C := Try.checked) false ⟨#[], #[.slice none 0 0], []⟩ 8 (by kernel_rfl) (by kernel_rfl) (by kernel_rfl) (by kernel_rfl)) ?_
  intro W base args ds gs before hval0 hW hcnd _
  have hval : ∀ (j : Nat) t v, Try.f5.params[j]? = some t → args[j]? = some v → Value.okWide Try.prog W .any base t v := hval0
  have hW' := hW
  obtain ⟨p, q, hA0, hV, rfl, hfz, hnd⟩ := hW
  have hA : DataW.TrodAll enc Try.prog W 0 (fun _ => true) true Try.f5.params.toList args.toList ds p := hA0
  rw [Try.params5] at hA hval
  obtain ⟨v0, vs0, d0, ds0, p0, q0, hargs, rfl, rfl, h0, r0⟩ := trodAll_cons hA
  obtain ⟨rfl, rfl, rfl⟩ := trodAll_nil r0
  obtain rfl : args = #[v0] := by cases args; simp_all
  obtain ⟨rfl, rfl⟩ := trodVars_none hV
  obtain ⟨a0, len0, cap0, rfl⟩ := okWide_slice Try.underlying43 (hval 0 43 v0 rfl rfl)
  have k0 := h0
  have lt0 : ∀ x ∈ p0, x.block < W.heap.size := by obtain ⟨m, hm⟩ := k0; exact DataW.trod_lt m _ _ _ hm
  obtain ⟨fuel0, hf0⟩ := h0
  obtain ⟨ts0, b0, c0, he0, hl0, hz0, hrow0⟩ := open_terms (by simpa [Value.cells] using hf0)
  simp only [List.cons.injEq, Value.slice.injEq, and_true] at he0
  obtain ⟨rfl, rfl, rfl⟩ := he0
  clear hA0 hval0
  refine (walk a0 cap0 ts0 W hl0 hz0 hrow0).mono fun e W' ⟨he, bel⟩ => ?_
  subst he
  exact ⟨_, rfl, _, _, _, [], _, [], hW', trodAll_mk1 (shut_bool Try.underlying4 _), (trodAll_cons_mk (Below.trod laidOut (by kernel_rfl) (of_decide_eq_true (by kernel_rfl)) k0 bel lt0) trodAll_mk0), rfl, bel.frame _, fun h => by cases h⟩
end LSelectorOk
theorem selectorOk_holds : Rows.FnExactSelectorOkSaid :=
  OpenClaim.holds_of_wide 5 Try.f5 rfl rfl rfl rfl rfl rfl rfl ⟨rfl, rfl, rfl, rfl, rfl⟩ rfl rfl rfl rfl rfl (by kernel_rfl) Try.func5 (by kernel_rfl)
    (of_decide_eq_true (by kernel_rfl)) (by unfold Func.isWrapper; first | (rw [if_pos (by decide +kernel)]; kernel_rfl) | (rw [if_neg (by decide +kernel)]; exact ⟨rfl, rfl⟩))
    (fun os started H enc _ => LSelectorOk.lifted os started H enc)
#print axioms selectorOk_holds
end Go.Proofs.Ytbadjopaocindaa

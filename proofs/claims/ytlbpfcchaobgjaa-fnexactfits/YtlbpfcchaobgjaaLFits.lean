/- FnExactFits holds: at every two amounts impl.Fits answers what spec.Fits answers. No conditions. -/
import Derived.Test.YtlbpfcchaobgjaaRows
import Derived.Test.YtlbpfcchaobgjaaAmts5
import Derived.Test.YtlbpfcchaobgjaaAmtsO
import Derived.Test.YtlbpfcchaobgjaaAmtsT
import Derived.WalkKit
import Derived.ProofKit
import Derived.OpenShut
import Derived.ShutString
import Derived.ChangeOld
import Derived.Below
namespace Go.Proofs.Ytlbpfcchaobgjaa
open Go.ChangeShapes Go.WideShapes Go.ChangeAt Go.RowKit
open Go.ChangeMaps (open_string shut_string)
set_option linter.unusedVariables false
namespace LFits
theorem laidOut : laidOutB Try.prog = true := by kernel_rfl
theorem own : ownKnob Try.prog.godebug = none := by kernel_rfl

set_option maxRecDepth 100000 in
set_option maxHeartbeats 3200000 in
theorem walk (a b c x y z : Int) (w : World) : Calls Try.prog 8 #[.agg #[.int .i64 a, .int .i64 b, .int .i64 c], .agg #[.int .i64 x, .int .i64 y, .int .i64 z]] w fun e w' => e = .returned (.bool true) ∧ Below w.heap.size w w' := by
  have hne : (fitsI a b c x y z != fitsI a b c x y z) = false := by simp
  have Q := hide (Two.new w a b c x y z 44 44)
  go_enter Try.func8, Try.ntmps8
  go_wp2_with fail
  go_region_with (first
    | (go_at_call 21; refine (toAm_any _ _ _ _).mono ?_; rintro e w1 ⟨rfl, hb⟩; (first | (have Q := Two.next Q hb) | (have Q := Two.next0 Q hb)); clear hb; obtain ⟨q0, q1, q2, q3, q4, q5⟩ := Q.out.cells)
    | (go_at_call 25; refine (sfits_any a b c x y z _).mono ?_; rintro e w1 ⟨rfl, hb⟩; (first | (have Q := Two.next Q hb) | (have Q := Two.next0 Q hb)); clear hb; obtain ⟨q0, q1, q2, q3, q4, q5⟩ := Q.out.cells))
  all_goals go_wp2_with fail
  all_goals
    go_region_with (first
    | (go_at_call 21; refine (toAm_any _ _ _ _).mono ?_; rintro e w1 ⟨rfl, hb⟩; (first | (have Q := Two.next Q hb) | (have Q := Two.next0 Q hb)); clear hb; obtain ⟨q0, q1, q2, q3, q4, q5⟩ := Q.out.cells)
    | (go_at_call 16; refine (ifits_any a b c x y z _).mono ?_; rintro e w1 ⟨rfl, hb⟩; (first | (have Q := Two.next Q hb) | (have Q := Two.next0 Q hb)); clear hb; obtain ⟨q0, q1, q2, q3, q4, q5⟩ := Q.out.cells))
  all_goals
    go_wp2
    go_ret
    exact ⟨rfl, Q.out.bel⟩

set_option maxRecDepth 100000 in
theorem lifted (os : Os) (started : os.Started) (H : Type) (enc : TypeId × Value → H) :
    ReturnsInHanded {} Try.checked os 8 .any (Rows.fnExactFitsSpec.pre6 enc Try.prog Try.f8 Rows.fnExactFitsRow.domain false) (Rows.fnExactFitsSpec.post enc Try.prog Try.f8 false true false false) := by
  refine returnsInHanded_of_change (C := Try.checked) own started (by kernel_rfl) Try.func8
    (ChangeSpec.witness6 (enc := enc) (C := Try.checked) false ⟨#[], #[.agg #[.int .i64 0, .int .i64 0, .int .i64 0], .agg #[.int .i64 0, .int .i64 0, .int .i64 0]], []⟩ 8 (by kernel_rfl) (by kernel_rfl) (by kernel_rfl) (by kernel_rfl)) ?_
  intro W base args ds gs before hval0 hW hcnd _
  have hval : ∀ (j : Nat) t v, Try.f8.params[j]? = some t → args[j]? = some v → Value.okWide Try.prog W .any base t v := hval0
  have hW' := hW
  obtain ⟨p, q, hA0, hV, rfl, hfz, hnd⟩ := hW
  have hA : DataW.TrodAll enc Try.prog W 0 (fun _ => true) true Try.f8.params.toList args.toList ds p := hA0
  rw [Try.params8] at hA hval
  obtain ⟨v0, vs0, d0, ds0, p0, q0, hargs, rfl, rfl, h0, r0⟩ := trodAll_cons hA
  obtain ⟨v1, vs1, d1, ds1, p1, q1, rfl, rfl, rfl, h1, r1⟩ := trodAll_cons r0
  obtain ⟨rfl, rfl, rfl⟩ := trodAll_nil r1
  obtain rfl : args = #[v0, v1] := by cases args; simp_all
  obtain ⟨rfl, rfl⟩ := trodVars_none hV
  obtain ⟨cs0, rfl, hsz0⟩ := okWide_struct Try.underlying44 (hval 0 44 v0 rfl rfl)
  have k0 := h0
  have lt0 : ∀ x ∈ p0, x.block < W.heap.size := by obtain ⟨m, hm⟩ := k0; exact DataW.trod_lt m _ _ _ hm
  obtain ⟨fuel0, hf0⟩ := h0
  obtain ⟨x0, y0, z0, rfl⟩ := open_am hsz0 (by simpa [Value.cells] using hf0)
  obtain ⟨cs1, rfl, hsz1⟩ := okWide_struct Try.underlying44 (hval 1 44 v1 rfl rfl)
  have k1 := h1
  have lt1 : ∀ x ∈ p1, x.block < W.heap.size := by obtain ⟨m, hm⟩ := k1; exact DataW.trod_lt m _ _ _ hm
  obtain ⟨fuel1, hf1⟩ := h1
  obtain ⟨x1, y1, z1, rfl⟩ := open_am hsz1 (by simpa [Value.cells] using hf1)
  clear hA0 hval0
  refine (walk x0 y0 z0 x1 y1 z1 W ).mono fun e W' ⟨he, bel⟩ => ?_
  subst he
  exact ⟨_, rfl, _, _, _, [], _, [], hW', trodAll_mk1 (shut_bool Try.underlying4 _), (trodAll_cons_mk (Below.trod laidOut (by kernel_rfl) (of_decide_eq_true (by kernel_rfl)) k0 bel lt0) (trodAll_cons_mk (Below.trod laidOut (by kernel_rfl) (of_decide_eq_true (by kernel_rfl)) k1 bel lt1) trodAll_mk0)), rfl, bel.frame _, fun h => by cases h⟩
end LFits
theorem fits_holds : Rows.FnExactFitsSaid :=
  OpenClaim.holds_of_wide 8 Try.f8 rfl rfl rfl rfl rfl rfl rfl ⟨rfl, rfl, rfl, rfl, rfl⟩ rfl rfl rfl rfl rfl (by kernel_rfl) Try.func8 (by kernel_rfl)
    (of_decide_eq_true (by kernel_rfl)) (by unfold Func.isWrapper; first | (rw [if_pos (by decide +kernel)]; kernel_rfl) | (rw [if_neg (by decide +kernel)]; exact ⟨rfl, rfl⟩))
    (fun os started H enc _ => LFits.lifted os started H enc)
#print axioms fits_holds
end Go.Proofs.Ytlbpfcchaobgjaa

/- FnExactAmountsOk holds: at every three numbers impl.AmountsOk answers what spec.AmountsOk answers. No conditions. -/
import Derived.Test.YtlbpfcchaobgjaaRows
import Derived.Test.YtlbpfcchaobgjaaAmts3
import Derived.Test.YtlbpfcchaobgjaaAmtsO
import Derived.WalkKit
import Derived.ProofKit
import Derived.OpenShut
import Derived.ShutString
import Derived.ChangeOld
import Derived.Below
namespace Go.Proofs.Ytlbpfcchaobgjaa
open Go.ChangeShapes Go.WideShapes Go.ChangeAt Go.RowKit
open Go.ChangeMaps (open_string shut_string)
set_option linter.unusedVariables false
namespace LAmountsOk
theorem laidOut : laidOutB Try.prog = true := by kernel_rfl
theorem own : ownKnob Try.prog.godebug = none := by kernel_rfl

set_option maxRecDepth 100000 in
set_option maxHeartbeats 3200000 in
theorem walk (a b c : Int) (w : World) : Calls Try.prog 5 #[.agg #[.int .i64 a, .int .i64 b, .int .i64 c]] w fun e w' => e = .returned (.bool true) ∧ Below w.heap.size w w' := by
  go_enter Try.func5, Try.ntmps5
  go_wp2_with fail
  refine (toAm_any a b c _).mono ?_
  rintro e w1 ⟨rfl, hb1⟩
  have T1 : Hid (Below w.heap.size w w1) := ((Below.refl w.heap.size w).alloc (Nat.le_refl _) _).trans (hb1.mono (by simp))
  have A1 : Hid (Has3 w1 w.heap.size a b c) := Has3.later (w := (w.alloc (.cells #[.int .i64 a, .int .i64 b, .int .i64 c] 44))) (by constructor <;> simp [go_sem]) hb1
  clear hb1
  have hne : (amB a b c != amB a b c) = false := by simp
  go_wp2_with fail
  refine (sam_any a b c _).mono ?_
  rintro e w2 ⟨rfl, hb2⟩
  have T2 := hide (T1.out.trans (hb2.mono T1.out.size))
  have A2 := hide (A1.out.later hb2)
  clear hb2 T1 A1
  have x0 := A2.out.c0
  have x1 := A2.out.c1
  have x2 := A2.out.c2
  go_wp2_with fail
  refine (toAm_any a b c _).mono ?_
  rintro e w3 ⟨rfl, hb3⟩
  have T3 := hide (T2.out.trans (hb3.mono T2.out.size))
  clear hb3 T2 A2 x0 x1 x2
  go_wp2_with fail
  refine (iam_any a b c _).mono ?_
  rintro e w4 ⟨rfl, hb4⟩
  have T4 := hide (T3.out.trans (hb4.mono T3.out.size))
  clear hb4 T3
  go_wp2
  go_ret
  exact ⟨rfl, T4.out⟩

set_option maxRecDepth 100000 in
theorem lifted (os : Os) (started : os.Started) (H : Type) (enc : TypeId × Value → H) :
    ReturnsInHanded {} Try.checked os 5 .any (Rows.fnExactAmountsOkSpec.pre6 enc Try.prog Try.f5 Rows.fnExactAmountsOkRow.domain false) (Rows.fnExactAmountsOkSpec.post enc Try.prog Try.f5 false true false false) := by
  refine returnsInHanded_of_change (C := Try.checked) own started (by kernel_rfl) Try.func5
    (ChangeSpec.witness6 (enc := enc) (C := Try.checked) false ⟨#[], #[.agg #[.int .i64 0, .int .i64 0, .int .i64 0]], []⟩ 8 (by kernel_rfl) (by kernel_rfl) (by kernel_rfl) (by kernel_rfl)) ?_
  intro W base args ds gs before hval0 hW hcnd _
  have hval : ∀ (j : Nat) t v, Try.f5.params[j]? = some t → args[j]? = some v → Value.okWide Try.prog W .any base t v := hval0
  have hW' := hW
  obtain ⟨p, q, hA0, hV, rfl, hfz, hnd⟩ := hW
  have hA : DataW.TrodAll enc Try.prog W 0 (fun _ => true) true Try.f5.params.toList args.toList ds p := hA0
  rw [Try.params5] at hA hval
  obtain ⟨v0, vs0, d0, ds0, p0, q0, hargs, rfl, rfl, h0, r0⟩ := trodAll_cons hA
  obtain ⟨rfl, rfl, rfl⟩ := trodAll_nil r0
  obtain rfl : args = #[v0] := by cases args; simp_all
  obtain ⟨rfl, rfl⟩ := trodVars_none hV
  obtain ⟨cs0, rfl, hsz0⟩ := okWide_struct Try.underlying44 (hval 0 44 v0 rfl rfl)
  have k0 := h0
  have lt0 : ∀ x ∈ p0, x.block < W.heap.size := by obtain ⟨m, hm⟩ := k0; exact DataW.trod_lt m _ _ _ hm
  obtain ⟨fuel0, hf0⟩ := h0
  obtain ⟨x0, y0, z0, rfl⟩ := open_am hsz0 (by simpa [Value.cells] using hf0)
  clear hA0 hval0
  refine (walk x0 y0 z0 W ).mono fun e W' ⟨he, bel⟩ => ?_
  subst he
  exact ⟨_, rfl, _, _, _, [], _, [], hW', trodAll_mk1 (shut_bool Try.underlying4 _), (trodAll_cons_mk (Below.trod laidOut (by kernel_rfl) (of_decide_eq_true (by kernel_rfl)) k0 bel lt0) trodAll_mk0), rfl, bel.frame _, fun h => by cases h⟩
end LAmountsOk
theorem amountsOk_holds : Rows.FnExactAmountsOkSaid :=
  OpenClaim.holds_of_wide 5 Try.f5 rfl rfl rfl rfl rfl rfl rfl ⟨rfl, rfl, rfl, rfl, rfl⟩ rfl rfl rfl rfl rfl (by kernel_rfl) Try.func5 (by kernel_rfl)
    (of_decide_eq_true (by kernel_rfl)) (by unfold Func.isWrapper; first | (rw [if_pos (by decide +kernel)]; kernel_rfl) | (rw [if_neg (by decide +kernel)]; exact ⟨rfl, rfl⟩))
    (fun os started H enc _ => LAmountsOk.lifted os started H enc)
#print axioms amountsOk_holds
end Go.Proofs.Ytlbpfcchaobgjaa

/- FnExactTimes holds: at every amounts and every number impl.Times answers what spec.Times answers. No conditions. -/
import Derived.Test.YtlbpfcchaobgjaaRows
import Derived.Test.YtlbpfcchaobgjaaAmts8
import Derived.Test.YtlbpfcchaobgjaaAmtsO
import Derived.Test.YtlbpfcchaobgjaaAmtsT
import Derived.WalkKit
import Derived.ProofKit
import Derived.OpenShut
import Derived.ShutString
import Derived.ChangeOld
import Derived.Below
namespace Go.Proofs.Ytlbpfcchaobgjaa
open Go.ChangeShapes Go.WideShapes Go.ChangeAt Go.RowKit
open Go.ChangeMaps (open_string shut_string)
set_option linter.unusedVariables false
namespace LTimes
theorem laidOut : laidOutB Try.prog = true := by kernel_rfl
theorem own : ownKnob Try.prog.godebug = none := by kernel_rfl

theorem decEq3t (a b c : Int) : decide (a = a ∧ b = b ∧ c = c) = true := by simp
theorem tmV_is (a b c n : Int) : ∃ r s t o, tmV a b c n = .tuple #[.agg #[.int .i64 r, .int .i64 s, .int .i64 t], .bool o] := by
  cases hz : tmB a b c n
  · exact ⟨_, _, _, _, tmV_no hz⟩
  · exact ⟨_, _, _, _, tmV_yes hz⟩
set_option maxRecDepth 100000 in
set_option maxHeartbeats 3200000 in
theorem walk (a b c n : Int) (w : World) (hn : (Lit.int .i64 n).wf = true) : Calls Try.prog 7 #[.agg #[.int .i64 a, .int .i64 b, .int .i64 c], .int .i64 n] w fun e w' => e = .returned (.bool true) ∧ Below w.heap.size w w' := by
  obtain ⟨r, s, t, o, hV⟩ := tmV_is a b c n
  have hs := fun wx => stimes_any a b c n wx
  have hi := fun wx => itimes_any a b c n wx
  rw [hV] at hs hi
  have HS := hide hs
  have HI := hide hi
  clear hs hi hV
  have heo : (o != o) = false := by simp
  go_enter Try.func7, Try.ntmps7
  go_wp2_with fail
  refine (toAm_any a b c _).mono ?_
  rintro e w1 ⟨rfl, hb1⟩
  have T1 : Hid (Below w.heap.size w w1) := ((Below.refl w.heap.size w).alloc (Nat.le_refl _) _).trans (hb1.mono (by simp))
  have A1 : Hid (Has3 w1 w.heap.size a b c) := Has3.later (w := (w.alloc (.cells #[.int .i64 a, .int .i64 b, .int .i64 c] 44))) (by constructor <;> simp [go_sem]) hb1
  clear hb1
  go_wp2_with fail
  refine (HS.out _).mono ?_
  rintro e w2 ⟨rfl, hb2⟩
  have T2 := hide (T1.out.trans (hb2.mono T1.out.size))
  have A2 := hide (A1.out.later hb2)
  clear hb2 T1 A1
  have R2 := hide (Has3.new w2 r s t 36)
  have A3 := hide (A2.out.later (below_new w2 (.cells #[.int .i64 r, .int .i64 s, .int .i64 t] 36)))
  have T3 := hide (T2.out.alloc T2.out.size (.cells #[.int .i64 r, .int .i64 s, .int .i64 t] 36))
  obtain ⟨x0, x1, x2, -, -, -⟩ := A3.out
  go_wp2_with fail
  refine (toAm_any a b c _).mono ?_
  rintro e w3 ⟨rfl, hb3⟩
  have T4 := hide (T3.out.trans (hb3.mono T3.out.size))
  have R3 := hide (R2.out.later hb3)
  clear hb3 T3 T2 A2 R2 x0 x1 x2 A3
  go_wp2_with fail
  refine (HI.out _).mono ?_
  rintro e w4 ⟨rfl, hb4⟩
  have T5 := hide (T4.out.trans (hb4.mono T4.out.size))
  have R4 := hide (R3.out.later hb4)
  clear hb4 T4 R3
  have R5 := hide (R4.out.later (below_new w4 (.cells #[.int .i64 r, .int .i64 s, .int .i64 t] 36)))
  have G5 := hide (Has3.new w4 r s t 36)
  have T6 := hide (T5.out.alloc T5.out.size (.cells #[.int .i64 r, .int .i64 s, .int .i64 t] 36))
  obtain ⟨x0, x1, x2, -, -, -⟩ := R5.out
  obtain ⟨g0, g1, g2, -, -, -⟩ := G5.out
  go_wp2_with fail
  refine (eqAm_any r s t r s t _).mono ?_
  rintro e w5 ⟨rfl, hb5⟩
  rw [decEq3t r s t]
  have T7 := hide (T6.out.trans (hb5.mono T6.out.size))
  clear hb5
  go_wp2
  go_ret
  exact ⟨rfl, T7.out⟩

set_option maxRecDepth 100000 in
theorem lifted (os : Os) (started : os.Started) (H : Type) (enc : TypeId × Value → H) :
    ReturnsInHanded {} Try.checked os 7 .any (Rows.fnExactTimesSpec.pre6 enc Try.prog Try.f7 Rows.fnExactTimesRow.domain false) (Rows.fnExactTimesSpec.post enc Try.prog Try.f7 false true false false) := by
  refine returnsInHanded_of_change (C := Try.checked) own started (by kernel_rfl) Try.func7
    (ChangeSpec.witness6 (enc := enc) (C := Try.checked) false ⟨#[], #[.agg #[.int .i64 0, .int .i64 0, .int .i64 0], .int .i64 0], []⟩ 8 (by kernel_rfl) (by kernel_rfl) (by kernel_rfl) (by kernel_rfl)) ?_
  intro W base args ds gs before hval0 hW hcnd _
  have hval : ∀ (j : Nat) t v, Try.f7.params[j]? = some t → args[j]? = some v → Value.okWide Try.prog W .any base t v := hval0
  have hW' := hW
  obtain ⟨p, q, hA0, hV, rfl, hfz, hnd⟩ := hW
  have hA : DataW.TrodAll enc Try.prog W 0 (fun _ => true) true Try.f7.params.toList args.toList ds p := hA0
  rw [Try.params7] at hA hval
  obtain ⟨v0, vs0, d0, ds0, p0, q0, hargs, rfl, rfl, h0, r0⟩ := trodAll_cons hA
  obtain ⟨v1, vs1, d1, ds1, p1, q1, rfl, rfl, rfl, h1, r1⟩ := trodAll_cons r0
  obtain ⟨rfl, rfl, rfl⟩ := trodAll_nil r1
  obtain rfl : args = #[v0, v1] := by cases args; simp_all
  obtain ⟨rfl, rfl⟩ := trodVars_none hV
  obtain ⟨cs0, rfl, hsz0⟩ := okWide_struct Try.underlying44 (hval 0 44 v0 rfl rfl)
  have k0 := h0
  have lt0 : ∀ x ∈ p0, x.block < W.heap.size := by obtain ⟨m, hm⟩ := k0; exact DataW.trod_lt m _ _ _ hm
  obtain ⟨fuel0, hf0⟩ := h0
  obtain ⟨x0, y0, z0, rfl⟩ := open_am hsz0 (by simpa [Value.cells] using hf0)
  obtain ⟨n1, rfl, rfl, rfl, w1⟩ := open_int Try.underlying3 (hval 1 3 v1 rfl rfl) h1
  clear hA0 hval0
  refine (walk x0 y0 z0 n1 W w1).mono fun e W' ⟨he, bel⟩ => ?_
  subst he
  exact ⟨_, rfl, _, _, _, [], _, [], hW', trodAll_mk1 (shut_bool Try.underlying4 _), (trodAll_cons_mk (Below.trod laidOut (by kernel_rfl) (of_decide_eq_true (by kernel_rfl)) k0 bel lt0) (trodAll_cons_mk (shut_int Try.underlying3 w1) trodAll_mk0)), rfl, bel.frame _, fun h => by cases h⟩
end LTimes
theorem times_holds : Rows.FnExactTimesSaid :=
  OpenClaim.holds_of_wide 7 Try.f7 rfl rfl rfl rfl rfl rfl rfl ⟨rfl, rfl, rfl, rfl, rfl⟩ rfl rfl rfl rfl rfl (by kernel_rfl) Try.func7 (by kernel_rfl)
    (of_decide_eq_true (by kernel_rfl)) (by unfold Func.isWrapper; first | (rw [if_pos (by decide +kernel)]; kernel_rfl) | (rw [if_neg (by decide +kernel)]; exact ⟨rfl, rfl⟩))
    (fun os started H enc _ => LTimes.lifted os started H enc)
#print axioms times_holds
end Go.Proofs.Ytlbpfcchaobgjaa

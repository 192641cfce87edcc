/- FnExactAddAmounts holds: at every two amounts impl.AddAmounts answers what spec.AddAmounts answers. No conditions. -/
import Derived.Test.YtlbpfcchaobgjaaRows
import Derived.Test.YtlbpfcchaobgjaaAmts3
import Derived.Test.YtlbpfcchaobgjaaAmtsO
import Derived.Test.YtlbpfcchaobgjaaAmtsT
import Derived.WalkKit
import Derived.Deep.CutRange
import Derived.ProofKit
import Derived.OpenShut
import Derived.ShutString
import Derived.ChangeOld
import Derived.Below
namespace Go.Proofs.Ytlbpfcchaobgjaa
open Go.ChangeShapes Go.WideShapes Go.ChangeAt Go.RowKit
open Go.ChangeMaps (open_string shut_string)
set_option linter.unusedVariables false
namespace LAddAmounts
theorem laidOut : laidOutB Try.prog = true := by kernel_rfl
theorem own : ownKnob Try.prog.godebug = none := by kernel_rfl

theorem decEq3 (a b c : Int) : decide (a = a ∧ b = b ∧ c = c) = true := by simp
theorem addV_is (a b c x y z : Int) : ∃ r s t o, addV a b c x y z = .tuple #[.agg #[.int .i64 r, .int .i64 s, .int .i64 t], .bool o] := by
  cases hz : amZ a b c x y z
  · exact ⟨_, _, _, _, addV_no hz⟩
  · exact ⟨_, _, _, _, addV_yes hz⟩
set_option maxRecDepth 100000 in
set_option maxHeartbeats 6400000 in
theorem walk (a b c x y z : Int) (w : World) : Calls Try.prog 6 #[.agg #[.int .i64 a, .int .i64 b, .int .i64 c], .agg #[.int .i64 x, .int .i64 y, .int .i64 z]] w fun e w' => e = .returned (.bool true) ∧ Below w.heap.size w w' := by
  have Q := hide (Two.new w a b c x y z 44 44)
  obtain ⟨r, s, t, o, hV⟩ := addV_is a b c x y z
  have hs := fun wx => sadd_any a b c x y z wx
  have hi := fun wx => iadd_any a b c x y z wx
  rw [hV] at hs hi
  have HS := hide hs
  have HI := hide hi
  clear hs hi hV
  have heo : (o != o) = false := by simp
  go_enter Try.func6, Try.ntmps6
  go_upto_region 1 with fail
  generalize (w.alloc (.cells #[.int .i64 a, .int .i64 b, .int .i64 c] 44)).alloc (.cells #[.int .i64 x, .int .i64 y, .int .i64 z] 44) = wx at *
  obtain ⟨q0, q1, q2, q3, q4, q5⟩ := Q.out.cells; obtain ⟨r0, r1, r2, r3, r4, r5⟩ := Q.out.cellsA
  go_cut [5, 6] from 9 to 16 (fun s5 s6 wc => ∃ B, s5 = .pointer (some ⟨B, 0, none⟩) ∧ s6 = .bool o ∧ Hid (Got w w.heap.size a b c x y z B r s t wc))
  case first =>
    go_region_with (first
      | (go_at_call 21; refine (toAm_any _ _ _ _).mono ?_; rintro e w1 ⟨rfl, hb⟩; (first | (have Z := One.next Z hb) | (have Z := One.next0 Z hb) | (have Z := One.nextA Z hb) | (have Z := One.nextAD Z hb) | (have Z := One.new (Two.rlt Q) hb) | (have Z := One.newD (Two.rlt Q) hb) | skip); (first | (have Q := Two.next Q hb) | (have Q := Two.next0 Q hb) | (have Q := Two.nextA Q hb) | (have Q := Two.nextAD Q hb)); clear hb; obtain ⟨q0, q1, q2, q3, q4, q5⟩ := Q.out.cells; obtain ⟨r0, r1, r2, r3, r4, r5⟩ := Q.out.cellsA; (try obtain ⟨z0, z1, z2, z3, z4, z5⟩ := Z.out.has))
      | (go_at_call 22; refine (HS.out _).mono ?_; rintro e w1 ⟨rfl, hb⟩; (first | (have Z := One.next Z hb) | (have Z := One.next0 Z hb) | (have Z := One.nextA Z hb) | (have Z := One.nextAD Z hb) | (have Z := One.new (Two.rlt Q) hb) | (have Z := One.newD (Two.rlt Q) hb) | skip); (first | (have Q := Two.next Q hb) | (have Q := Two.next0 Q hb) | (have Q := Two.nextA Q hb) | (have Q := Two.nextAD Q hb)); clear hb; obtain ⟨q0, q1, q2, q3, q4, q5⟩ := Q.out.cells; obtain ⟨r0, r1, r2, r3, r4, r5⟩ := Q.out.cellsA; (try obtain ⟨z0, z1, z2, z3, z4, z5⟩ := Z.out.has)))
    all_goals
      go_wp2_with fail
      go_meet
    all_goals first
      | exact ⟨_, rfl, rfl, Got.fresh Q r s t 36⟩
      | exact ⟨_, rfl, rfl, Got.put rfl Q Z r s t⟩
  case rest =>
  obtain ⟨B, rfl, rfl, G⟩ := hcut
  clear Q HS q0 q1 q2 q3 q4 q5 r0 r1 r2 r3 r4 r5
  have Q := hide G.out.two
  have P := hide G.out.one
  obtain ⟨q0, q1, q2, q3, q4, q5⟩ := Q.out.cells; obtain ⟨r0, r1, r2, r3, r4, r5⟩ := Q.out.cellsA
  clear G
  go_upto_region 2 with fail
  go_cut [7, 8] from 17 to 24 (fun s7 s8 wc => ∃ B', s7 = .pointer (some ⟨B', 0, none⟩) ∧ s8 = .bool o ∧ Hid (Done w B r s t B' r s t wc))
  case first =>
    go_region_with (first
      | (go_at_call 21; refine (toAm_any _ _ _ _).mono ?_; rintro e w1 ⟨rfl, hb⟩; (first | (have Z := One.next Z hb) | (have Z := One.next0 Z hb) | (have Z := One.nextA Z hb) | (have Z := One.nextAD Z hb) | (have Z := One.new (One.blt P) hb) | (have Z := One.newD (One.blt P) hb) | skip); (first | (have P := One.next P hb) | (have P := One.next0 P hb) | (have P := One.nextA P hb) | (have P := One.nextAD P hb)); (first | (have Q := Two.next Q hb) | (have Q := Two.next0 Q hb) | (have Q := Two.nextA Q hb) | (have Q := Two.nextAD Q hb)); clear hb; obtain ⟨q0, q1, q2, q3, q4, q5⟩ := Q.out.cells; obtain ⟨r0, r1, r2, r3, r4, r5⟩ := Q.out.cellsA; (try obtain ⟨z0, z1, z2, z3, z4, z5⟩ := Z.out.has))
      | (go_at_call 20; refine (HI.out _).mono ?_; rintro e w1 ⟨rfl, hb⟩; (first | (have Z := One.next Z hb) | (have Z := One.next0 Z hb) | (have Z := One.nextA Z hb) | (have Z := One.nextAD Z hb) | (have Z := One.new (One.blt P) hb) | (have Z := One.newD (One.blt P) hb) | skip); (first | (have P := One.next P hb) | (have P := One.next0 P hb) | (have P := One.nextA P hb) | (have P := One.nextAD P hb)); (first | (have Q := Two.next Q hb) | (have Q := Two.next0 Q hb) | (have Q := Two.nextA Q hb) | (have Q := Two.nextAD Q hb)); clear hb; obtain ⟨q0, q1, q2, q3, q4, q5⟩ := Q.out.cells; obtain ⟨r0, r1, r2, r3, r4, r5⟩ := Q.out.cellsA; (try obtain ⟨z0, z1, z2, z3, z4, z5⟩ := Z.out.has)))
    all_goals
      go_wp2_with fail
      go_meet
    all_goals first
      | exact ⟨_, rfl, rfl, Done.fresh Q P r s t 36⟩
      | exact ⟨_, rfl, rfl, Done.put rfl Q P Z r s t⟩
  case rest =>
  obtain ⟨B', rfl, rfl, G⟩ := hcut
  clear Q HI q0 q1 q2 q3 q4 q5 r0 r1 r2 r3 r4 r5 P
  obtain ⟨e0, e1, e2, -, -, -⟩ := G.out.l
  obtain ⟨f0, f1, f2, -, -, -⟩ := G.out.r
  go_wp2_with fail
  refine (eqAm_any r s t r s t _).mono ?_
  rintro e w9 ⟨rfl, hb⟩
  rw [decEq3 r s t]
  have T9 := hide (G.out.bel.trans (hb.mono G.out.bel.size))
  clear hb
  go_wp2
  go_ret
  exact ⟨rfl, T9.out⟩

set_option maxRecDepth 100000 in
theorem lifted (os : Os) (started : os.Started) (H : Type) (enc : TypeId × Value → H) :
    ReturnsInHanded {} Try.checked os 6 .any (Rows.fnExactAddAmountsSpec.pre6 enc Try.prog Try.f6 Rows.fnExactAddAmountsRow.domain false) (Rows.fnExactAddAmountsSpec.post enc Try.prog Try.f6 false true false false) := by
  refine returnsInHanded_of_change (C := Try.checked) own started (by kernel_rfl) Try.func6
    (ChangeSpec.witness6 (enc := enc) (C := Try.checked) false ⟨#[], #[.agg #[.int .i64 0, .int .i64 0, .int .i64 0], .agg #[.int .i64 0, .int .i64 0, .int .i64 0]], []⟩ 8 (by kernel_rfl) (by kernel_rfl) (by kernel_rfl) (by kernel_rfl)) ?_
  intro W base args ds gs before hval0 hW hcnd _
  have hval : ∀ (j : Nat) t v, Try.f6.params[j]? = some t → args[j]? = some v → Value.okWide Try.prog W .any base t v := hval0
  have hW' := hW
  obtain ⟨p, q, hA0, hV, rfl, hfz, hnd⟩ := hW
  have hA : DataW.TrodAll enc Try.prog W 0 (fun _ => true) true Try.f6.params.toList args.toList ds p := hA0
  rw [Try.params6] at hA hval
  obtain ⟨v0, vs0, d0, ds0, p0, q0, hargs, rfl, rfl, h0, r0⟩ := trodAll_cons hA
  obtain ⟨v1, vs1, d1, ds1, p1, q1, rfl, rfl, rfl, h1, r1⟩ := trodAll_cons r0
  obtain ⟨rfl, rfl, rfl⟩ := trodAll_nil r1
  obtain rfl : args = #[v0, v1] := by cases args; simp_all
  obtain ⟨rfl, rfl⟩ := trodVars_none hV
  obtain ⟨cs0, rfl, hsz0⟩ := okWide_struct Try.underlying44 (hval 0 44 v0 rfl rfl)
  have k0 := h0
  have lt0 : ∀ x ∈ p0, x.block < W.heap.size := by obtain ⟨m, hm⟩ := k0; exact DataW.trod_lt m _ _ _ hm
  obtain ⟨fuel0, hf0⟩ := h0
  obtain ⟨x0, y0, z0, rfl⟩ := open_am hsz0 (by simpa [Value.cells] using hf0)
  obtain ⟨cs1, rfl, hsz1⟩ := okWide_struct Try.underlying44 (hval 1 44 v1 rfl rfl)
  have k1 := h1
  have lt1 : ∀ x ∈ p1, x.block < W.heap.size := by obtain ⟨m, hm⟩ := k1; exact DataW.trod_lt m _ _ _ hm
  obtain ⟨fuel1, hf1⟩ := h1
  obtain ⟨x1, y1, z1, rfl⟩ := open_am hsz1 (by simpa [Value.cells] using hf1)
  clear hA0 hval0
  refine (walk x0 y0 z0 x1 y1 z1 W ).mono fun e W' ⟨he, bel⟩ => ?_
  subst he
  exact ⟨_, rfl, _, _, _, [], _, [], hW', trodAll_mk1 (shut_bool Try.underlying4 _), (trodAll_cons_mk (Below.trod laidOut (by kernel_rfl) (of_decide_eq_true (by kernel_rfl)) k0 bel lt0) (trodAll_cons_mk (Below.trod laidOut (by kernel_rfl) (of_decide_eq_true (by kernel_rfl)) k1 bel lt1) trodAll_mk0)), rfl, bel.frame _, fun h => by cases h⟩
end LAddAmounts
theorem addAmounts_holds : Rows.FnExactAddAmountsSaid :=
  OpenClaim.holds_of_wide 6 Try.f6 rfl rfl rfl rfl rfl rfl rfl ⟨rfl, rfl, rfl, rfl, rfl⟩ rfl rfl rfl rfl rfl (by kernel_rfl) Try.func6 (by kernel_rfl)
    (of_decide_eq_true (by kernel_rfl)) (by unfold Func.isWrapper; first | (rw [if_pos (by decide +kernel)]; kernel_rfl) | (rw [if_neg (by decide +kernel)]; exact ⟨rfl, rfl⟩))
    (fun os started H enc _ => LAddAmounts.lifted os started H enc)
#print axioms addAmounts_holds
end Go.Proofs.Ytlbpfcchaobgjaa

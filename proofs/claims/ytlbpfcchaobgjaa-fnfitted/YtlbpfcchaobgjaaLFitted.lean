/- FnFitted holds: at every code as many as fit into the drawn room do, one more does not; sums do not ask the order. No conditions. -/
import Derived.Test.YtlbpfcchaobgjaaRows
import Derived.Test.YtlbpfcchaobgjaaFitd
import Derived.Test.YtlbpfcchaobgjaaCode
import Derived.WalkKit
import Derived.ProofKit
import Derived.OpenShut
import Derived.ShutString
import Derived.ChangeOld
import Derived.Below
namespace Go.Proofs.Ytlbpfcchaobgjaa
open Go.ChangeShapes Go.WideShapes Go.ChangeAt Go.RowKit
open Go.ChangeMaps (open_string shut_string)
set_option linter.unusedVariables false
namespace LFnFitted
theorem laidOut : laidOutB Try.prog = true := by kernel_rfl
theorem own : ownKnob Try.prog.godebug = none := by kernel_rfl

theorem decEq3f (a b c : Int) : (a == a && (b == b && c == c)) = true := by simp
theorem fits_bad0 {a b c x y z : Int} (h : amB a b c = false) : fitsI a b c x y z = 0 := by unfold fitsI; rw [h]; rfl
theorem fits_bad1 {a b c x y z : Int} (h : amB x y z = false) : fitsI a b c x y z = 0 := by unfold fitsI; rw [h, Bool.and_false]; rfl
theorem two_new (W w : World) (hb : Below W.heap.size W w) (a b c x y z : Int) (t : TypeId) : Hid (Two W w.heap.size a b c x y z ((w.alloc (.cells #[.int .i64 a, .int .i64 b, .int .i64 c] t)).alloc (.cells #[.int .i64 x, .int .i64 y, .int .i64 z] t))) := by
  obtain ⟨h1, h2, h3⟩ := Two.new w a b c x y z t t
  exact ⟨h1, h2, hb.trans (h3.mono hb.size)⟩
set_option maxRecDepth 100000 in
set_option maxHeartbeats 6400000 in
theorem walk (n cap : Nat) (a : Option Addr) (w : World) (hl : n ≤ maxLen) (hc : codeAll w a n) :
    Calls Try.prog 4 #[.slice a n cap] w fun e w' => e = .returned (.bool true) ∧ Below w.heap.size w w' := by
  have hbig := fun wx => big_any n cap a wx
  by_cases hb : 1048576 < n
  · rw [decide_eq_true hb] at hbig
    have HB := hide hbig
    clear hbig hc hl
    go_enter Try.func4, Try.ntmps4
    go_wp2_with (go_at_call 9; refine (HB.out _).mono ?_; rintro e w ⟨rfl, rfl⟩)
    go_ret
    exact ⟨rfl, Below.refl _ _⟩
  rw [decide_eq_false hb] at hbig
  have HB := hide hbig
  have HD := hide (drawFits_any n cap a w (by omega) hc)
  clear hbig hc hl hb
  go_enter Try.func4, Try.ntmps4
  go_wp2_with (first | (go_at_call 9; refine (HB.out _).mono ?_; rintro e w ⟨rfl, rfl⟩) | (go_at_call 15; refine HD.out.mono ?_; rintro e w0 ⟨a, b, c, x, y, z, rfl, hb⟩; have Q1 := two_new w w0 hb a b c x y z 36; clear hb HB HD))
  generalize (w0.alloc (.cells #[.int .i64 a, .int .i64 b, .int .i64 c] 36)).alloc (.cells #[.int .i64 x, .int .i64 y, .int .i64 z] 36) = w1 at *
  generalize w0.heap.size = g0 at *
  have HF := hide (fun wx => ifits_any a b c x y z wx)
  have HS := hide (fun wx => sam_any a b c wx)
  have HT := hide (fun wx => sam_any x y z wx)
  have HI := hide (fun wx => iam_any a b c wx)
  cases h0 : amB a b c
  · have hf : fitsI a b c x y z = 0 := fits_bad0 h0
    rw [h0] at HS HI
    rw [hf] at HF
    clear hf
    have e0 : ((0 : Int) == 0) = true := rfl
    obtain ⟨q0, q1, q2, q3, q4, q5⟩ := Q1.out.cells
    go_wp2_with fail
    refine (HF.out _).mono ?_
    rintro e w2 ⟨rfl, hb⟩
    clear q0 q1 q2 q3 q4 q5
    have Q2 := Two.next0 Q1 hb
    clear Q1
    clear hb
    obtain ⟨q0, q1, q2, q3, q4, q5⟩ := Q2.out.cells
    go_wp2_with fail
    refine (HS.out _).mono ?_
    rintro e w3 ⟨rfl, hb⟩
    clear q0 q1 q2 q3 q4 q5
    have Q3 := Two.next0 Q2 hb
    clear Q2
    clear hb
    obtain ⟨q0, q1, q2, q3, q4, q5⟩ := Q3.out.cells
    go_wp2_with fail
    have Q := Q3
    clear Q3
    go_region_with (first | (go_at_call 18; refine (HI.out _).mono ?_; rintro e w9 ⟨rfl, hb⟩; (first | (have Q := Two.next Q hb) | (have Q := Two.next0 Q hb)); clear hb; obtain ⟨q0, q1, q2, q3, q4, q5⟩ := Q.out.cells) | (go_at_call 17; refine (HS.out _).mono ?_; rintro e w9 ⟨rfl, hb⟩; (first | (have Q := Two.next Q hb) | (have Q := Two.next0 Q hb)); clear hb; obtain ⟨q0, q1, q2, q3, q4, q5⟩ := Q.out.cells))
    all_goals
      go_wp2
      go_ret
      exact ⟨rfl, Q.out.bel⟩
  cases h1 : amB x y z
  · have hf : fitsI a b c x y z = 0 := fits_bad1 h1
    rw [h0] at HS HI
    rw [h1] at HT
    rw [hf] at HF
    clear hf
    have e0 : ((0 : Int) == 0) = true := rfl
    obtain ⟨q0, q1, q2, q3, q4, q5⟩ := Q1.out.cells
    go_wp2_with fail
    refine (HF.out _).mono ?_
    rintro e w2 ⟨rfl, hb⟩
    clear q0 q1 q2 q3 q4 q5
    have Q2 := Two.next0 Q1 hb
    clear Q1
    clear hb
    obtain ⟨q0, q1, q2, q3, q4, q5⟩ := Q2.out.cells
    go_wp2_with fail
    refine (HS.out _).mono ?_
    rintro e w3 ⟨rfl, hb⟩
    clear q0 q1 q2 q3 q4 q5
    have Q3 := Two.next0 Q2 hb
    clear Q2
    clear hb
    obtain ⟨q0, q1, q2, q3, q4, q5⟩ := Q3.out.cells
    go_wp2_with fail
    refine (HT.out _).mono ?_
    rintro e w4 ⟨rfl, hb⟩
    clear q0 q1 q2 q3 q4 q5
    have Q4 := Two.next0 Q3 hb
    clear Q3
    clear hb
    obtain ⟨q0, q1, q2, q3, q4, q5⟩ := Q4.out.cells
    go_wp2_with fail
    have Q := Q4
    clear Q4
    go_region_with (first | (go_at_call 18; refine (HI.out _).mono ?_; rintro e w9 ⟨rfl, hb⟩; (first | (have Q := Two.next Q hb) | (have Q := Two.next0 Q hb)); clear hb; obtain ⟨q0, q1, q2, q3, q4, q5⟩ := Q.out.cells) | (go_at_call 17; refine (HS.out _).mono ?_; rintro e w9 ⟨rfl, hb⟩; (first | (have Q := Two.next Q hb) | (have Q := Two.next0 Q hb)); clear hb; obtain ⟨q0, q1, q2, q3, q4, q5⟩ := Q.out.cells))
    all_goals
      go_wp2
      go_ret
      exact ⟨rfl, Q.out.bel⟩
  have hfit := fitted h0 h1
  have htm := fitted_tm h0 h1 hfit
  have hts := fun wx => itimes_any a b c (fitsI a b c x y z) wx
  rw [tmV_yes htm] at hts
  obtain ⟨p', q', r', o', hm1, hm2⟩ := tmV_more a b c (fitsI a b c x y z + 1)
  have htn := fun wx => itimes_any a b c (fitsI a b c x y z + 1) wx
  rw [hm1] at htn
  obtain ⟨s, t, u, o, ha1, ha2⟩ := addV_good a b c x y z
  have had := fun wx => iadd_any a b c x y z wx
  have hda := fun wx => iadd_any x y z a b c wx
  rw [ha1] at had
  rw [← addV_comm, ha1] at hda
  rw [h0] at HS
  rw [h1] at HT
  generalize fitsI a b c x y z = f at *
  have Hfit := hide hfit
  have HTS := hide hts
  have HTN := hide htn
  have HAD := hide had
  have HDA := hide hda
  have Hm2 := hide hm2
  have Hok : Hid (o = true → amB s t u = true) := ha2
  have b0 := hfit.f0
  have b1 := hfit.f1
  clear hfit htm hts htn had hda hm1 hm2 ha1 ha2 h0 h1 HI
  have k0 := Hfit.out.h0
  have k1 := Hfit.out.h1
  have k2 := Hfit.out.h2
  obtain ⟨q0, q1, q2, q3, q4, q5⟩ := Q1.out.cells
  go_wp2_with fail
  refine (HF.out _).mono ?_
  rintro e w2 ⟨rfl, hb⟩
  clear q0 q1 q2 q3 q4 q5
  have Q2 := Two.next0 Q1 hb
  clear Q1
  clear hb
  obtain ⟨q0, q1, q2, q3, q4, q5⟩ := Q2.out.cells
  go_wp2_with fail
  refine (HS.out _).mono ?_
  rintro e w3 ⟨rfl, hb⟩
  clear q0 q1 q2 q3 q4 q5
  have Q3 := Two.next0 Q2 hb
  clear Q2
  clear hb
  obtain ⟨q0, q1, q2, q3, q4, q5⟩ := Q3.out.cells
  go_wp2_with fail
  refine (HT.out _).mono ?_
  rintro e w4 ⟨rfl, hb⟩
  clear q0 q1 q2 q3 q4 q5
  have Q4 := Two.next0 Q3 hb
  clear Q3
  clear hb
  generalize a * f = x0 at *
  generalize b * f = x1 at *
  generalize c * f = x2 at *
  obtain ⟨q0, q1, q2, q3, q4, q5⟩ := Q4.out.cells
  go_wp2_with fail
  refine (HTS.out _).mono ?_
  rintro e w5 ⟨rfl, hb⟩
  clear q0 q1 q2 q3 q4 q5
  have Q5 := Two.next0 Q4 hb
  clear Q4
  clear hb
  have Q6 := hide (Q5.out.later (below_new w5 (.cells #[.int .i64 x0, .int .i64 x1, .int .i64 x2] 36)))
  clear Q5
  have X_6 := hide (Has3.new w5 x0 x1 x2 36)
  obtain ⟨q0, q1, q2, q3, q4, q5⟩ := Q6.out.cells
  go_wp2_with fail
  refine (HTN.out _).mono ?_
  rintro e w7 ⟨rfl, hb⟩
  clear q0 q1 q2 q3 q4 q5
  have Q7 := Two.next0 Q6 hb
  clear Q6
  have X_7 := hide (X_6.out.later hb)
  clear X_6
  clear hb
  have Q8 := hide (Q7.out.later (below_new w7 (.cells #[.int .i64 p', .int .i64 q', .int .i64 r'] 36)))
  clear Q7
  have X_8 := hide (X_7.out.later (below_new w7 (.cells #[.int .i64 p', .int .i64 q', .int .i64 r'] 36)))
  clear X_7
  have Y_8 := hide (Has3.new w7 p' q' r' 36)
  obtain ⟨q0, q1, q2, q3, q4, q5⟩ := Q8.out.cells
  go_wp2_with fail
  refine (HAD.out _).mono ?_
  rintro e w9 ⟨rfl, hb⟩
  clear q0 q1 q2 q3 q4 q5
  have Q9 := Two.next0 Q8 hb
  clear Q8
  have X_9 := hide (X_8.out.later hb)
  clear X_8
  have Y_9 := hide (Y_8.out.later hb)
  clear Y_8
  clear hb
  have Q10 := hide (Q9.out.later (below_new w9 (.cells #[.int .i64 s, .int .i64 t, .int .i64 u] 36)))
  clear Q9
  have X_10 := hide (X_9.out.later (below_new w9 (.cells #[.int .i64 s, .int .i64 t, .int .i64 u] 36)))
  clear X_9
  have Y_10 := hide (Y_9.out.later (below_new w9 (.cells #[.int .i64 s, .int .i64 t, .int .i64 u] 36)))
  clear Y_9
  have A_10 := hide (Has3.new w9 s t u 36)
  obtain ⟨q0, q1, q2, q3, q4, q5⟩ := Q10.out.cells
  go_wp2_with fail
  refine (HDA.out _).mono ?_
  rintro e w11 ⟨rfl, hb⟩
  clear q0 q1 q2 q3 q4 q5
  have Q11 := Two.next0 Q10 hb
  clear Q10
  have X_11 := hide (X_10.out.later hb)
  clear X_10
  have Y_11 := hide (Y_10.out.later hb)
  clear Y_10
  have A_11 := hide (A_10.out.later hb)
  clear A_10
  clear hb
  have Q12 := hide (Q11.out.later (below_new w11 (.cells #[.int .i64 s, .int .i64 t, .int .i64 u] 36)))
  clear Q11
  have X_12 := hide (X_11.out.later (below_new w11 (.cells #[.int .i64 s, .int .i64 t, .int .i64 u] 36)))
  clear X_11
  have Y_12 := hide (Y_11.out.later (below_new w11 (.cells #[.int .i64 s, .int .i64 t, .int .i64 u] 36)))
  clear Y_11
  have A_12 := hide (A_11.out.later (below_new w11 (.cells #[.int .i64 s, .int .i64 t, .int .i64 u] 36)))
  clear A_11
  have B_12 := hide (Has3.new w11 s t u 36)
  have heq : ∀ wx, (Op.equalIn 9999 34 (.agg #[.int .i64 s, .int .i64 t, .int .i64 u]) (.agg #[.int .i64 s, .int .i64 t, .int .i64 u])).run Try.prog wx = .ok true wx := fun wx => by rw [eqArr s t u s t u wx 9997, decEq3f]
  have hoo : (o != o) = false := by simp
  obtain ⟨a0, a1, a2, -, -, -⟩ := A_12.out
  obtain ⟨b0', b1', b2', -, -, -⟩ := B_12.out
  obtain ⟨q0, q1, q2, q3, q4, q5⟩ := Q12.out.cells
  obtain ⟨x0', x1', x2', -, -, -⟩ := X_12.out
  obtain ⟨y0', y1', y2', -, -, -⟩ := Y_12.out
  have more : o' = true → f < 1000000 → x < p' ∨ y < q' ∨ z < r' := fun g1 g2 => by
    obtain ⟨e1, e2, e3⟩ := Hm2.out g1
    rw [e1, e2, e3]
    exact Hfit.out.no g2
  have More := hide more
  clear more
  cases o
  · go_wp2_with fail
    refine wp_loop_rounds 4 ?_
    by_cases c0 : x < p'
    · rw [rounds_succ]; go_wp2
      go_quiet (fail)
      go_wp2
      go_quiet (fail)
      go_wp2
      rw [rounds_succ]; go_wp2
      go_quiet (fail)
      go_wp2
      go_quiet (fail)
      go_wp2
      rw [rounds_succ]; go_wp2
      go_quiet (fail)
      go_wp2
      go_quiet (fail)
      go_wp2
      rw [rounds_succ]; go_wp2
      all_goals (try (go_quiet (fail); go_wp2))
      all_goals go_ret
      all_goals exact ⟨rfl, by repeat (first | with_reducible exact Q12.out.bel | with_reducible refine below_drewN ?_ _ | with_reducible refine Below.drew ?_)⟩
    rw [rounds_succ]; go_wp2
    go_quiet (fail)
    go_wp2
    go_quiet (fail)
    go_wp2
    by_cases c1 : y < q'
    · rw [rounds_succ]; go_wp2
      go_quiet (fail)
      go_wp2
      go_quiet (fail)
      go_wp2
      rw [rounds_succ]; go_wp2
      go_quiet (fail)
      go_wp2
      go_quiet (fail)
      go_wp2
      rw [rounds_succ]; go_wp2
      all_goals (try (go_quiet (fail); go_wp2))
      all_goals go_ret
      all_goals exact ⟨rfl, by repeat (first | with_reducible exact Q12.out.bel | with_reducible refine below_drewN ?_ _ | with_reducible refine Below.drew ?_)⟩
    rw [rounds_succ]; go_wp2
    go_quiet (fail)
    go_wp2
    go_quiet (fail)
    go_wp2
    by_cases c2 : z < r'
    · rw [rounds_succ]; go_wp2
      go_quiet (fail)
      go_wp2
      go_quiet (fail)
      go_wp2
      rw [rounds_succ]; go_wp2
      all_goals (try (go_quiet (fail); go_wp2))
      all_goals go_ret
      all_goals exact ⟨rfl, by repeat (first | with_reducible exact Q12.out.bel | with_reducible refine below_drewN ?_ _ | with_reducible refine Below.drew ?_)⟩
    rw [rounds_succ]; go_wp2
    go_quiet (fail)
    go_wp2
    go_quiet (fail)
    go_wp2
    by_cases e : f = 1000000
    · have e1 : (f == 1000000) = true := by rw [beq_iff_eq]; exact e
      clear e
      rw [rounds_succ]; go_wp2
      all_goals (try (go_quiet (fail); go_wp2))
      all_goals go_ret
      all_goals exact ⟨rfl, by repeat (first | with_reducible exact Q12.out.bel | with_reducible refine below_drewN ?_ _ | with_reducible refine Below.drew ?_)⟩
    have e1 : (f == 1000000) = false := by rw [beq_eq_false_iff_ne]; exact e
    cases o'
    · rw [rounds_succ]; go_wp2
      all_goals (try (go_quiet (fail); go_wp2))
      all_goals go_ret
      all_goals exact ⟨rfl, by repeat (first | with_reducible exact Q12.out.bel | with_reducible refine below_drewN ?_ _ | with_reducible refine Below.drew ?_)⟩
    · exfalso
      rcases More.out rfl (by omega) with g | g | g
      · omega
      · omega
      · omega
  · have hi := fun wx => iam_any s t u wx
    rw [Hok.out rfl] at hi
    go_wp2_with fail
    refine (hi _).mono ?_
    rintro e w12 ⟨rfl, hb⟩
    clear q0 q1 q2 q3 q4 q5 x0' x1' x2' y0' y1' y2' a0 a1 a2 b0' b1' b2'
    have Q12 := Two.next0 Q12 hb
    have X12 := hide (X_12.out.later hb)
    have Y12 := hide (Y_12.out.later hb)
    clear hb hi
    obtain ⟨q0, q1, q2, q3, q4, q5⟩ := Q12.out.cells
    obtain ⟨x0', x1', x2', -, -, -⟩ := X12.out
    obtain ⟨y0', y1', y2', -, -, -⟩ := Y12.out
    go_wp2_with fail
    refine wp_loop_rounds 4 ?_
    by_cases c0 : x < p'
    · rw [rounds_succ]; go_wp2
      go_quiet (fail)
      go_wp2
      go_quiet (fail)
      go_wp2
      rw [rounds_succ]; go_wp2
      go_quiet (fail)
      go_wp2
      go_quiet (fail)
      go_wp2
      rw [rounds_succ]; go_wp2
      go_quiet (fail)
      go_wp2
      go_quiet (fail)
      go_wp2
      rw [rounds_succ]; go_wp2
      all_goals (try (go_quiet (fail); go_wp2))
      all_goals go_ret
      all_goals exact ⟨rfl, by repeat (first | with_reducible exact Q12.out.bel | with_reducible refine below_drewN ?_ _ | with_reducible refine Below.drew ?_)⟩
    rw [rounds_succ]; go_wp2
    go_quiet (fail)
    go_wp2
    go_quiet (fail)
    go_wp2
    by_cases c1 : y < q'
    · rw [rounds_succ]; go_wp2
      go_quiet (fail)
      go_wp2
      go_quiet (fail)
      go_wp2
      rw [rounds_succ]; go_wp2
      go_quiet (fail)
      go_wp2
      go_quiet (fail)
      go_wp2
      rw [rounds_succ]; go_wp2
      all_goals (try (go_quiet (fail); go_wp2))
      all_goals go_ret
      all_goals exact ⟨rfl, by repeat (first | with_reducible exact Q12.out.bel | with_reducible refine below_drewN ?_ _ | with_reducible refine Below.drew ?_)⟩
    rw [rounds_succ]; go_wp2
    go_quiet (fail)
    go_wp2
    go_quiet (fail)
    go_wp2
    by_cases c2 : z < r'
    · rw [rounds_succ]; go_wp2
      go_quiet (fail)
      go_wp2
      go_quiet (fail)
      go_wp2
      rw [rounds_succ]; go_wp2
      all_goals (try (go_quiet (fail); go_wp2))
      all_goals go_ret
      all_goals exact ⟨rfl, by repeat (first | with_reducible exact Q12.out.bel | with_reducible refine below_drewN ?_ _ | with_reducible refine Below.drew ?_)⟩
    rw [rounds_succ]; go_wp2
    go_quiet (fail)
    go_wp2
    go_quiet (fail)
    go_wp2
    by_cases e : f = 1000000
    · have e1 : (f == 1000000) = true := by rw [beq_iff_eq]; exact e
      clear e
      rw [rounds_succ]; go_wp2
      all_goals (try (go_quiet (fail); go_wp2))
      all_goals go_ret
      all_goals exact ⟨rfl, by repeat (first | with_reducible exact Q12.out.bel | with_reducible refine below_drewN ?_ _ | with_reducible refine Below.drew ?_)⟩
    have e1 : (f == 1000000) = false := by rw [beq_eq_false_iff_ne]; exact e
    cases o'
    · rw [rounds_succ]; go_wp2
      all_goals (try (go_quiet (fail); go_wp2))
      all_goals go_ret
      all_goals exact ⟨rfl, by repeat (first | with_reducible exact Q12.out.bel | with_reducible refine below_drewN ?_ _ | with_reducible refine Below.drew ?_)⟩
    · exfalso
      rcases More.out rfl (by omega) with g | g | g
      · omega
      · omega
      · omega

set_option maxRecDepth 100000 in
theorem lifted (os : Os) (started : os.Started) (H : Type) (enc : TypeId × Value → H) :
    ReturnsInHanded {} Try.checked os 4 .any (Rows.fnFittedSpec.pre6 enc Try.prog Try.f4 Rows.fnFittedRow.domain false) (Rows.fnFittedSpec.post enc Try.prog Try.f4 false true false false) := by
  refine returnsInHanded_of_change (C := Try.checked) own started (by kernel_rfl) Try.func4
    (ChangeSpec.witness6 (enc := enc) (C := Try.checked) false ⟨#[], #[.slice none 0 0], []⟩ 8 (by kernel_rfl) (by kernel_rfl) (by kernel_rfl) (by kernel_rfl)) ?_
  intro W base args ds gs before hval0 hW hcnd _
  have hval : ∀ (j : Nat) t v, Try.f4.params[j]? = some t → args[j]? = some v → Value.okWide Try.prog W .any base t v := hval0
  have hW' := hW
  obtain ⟨p, q, hA0, hV, rfl, hfz, hnd⟩ := hW
  have hA : DataW.TrodAll enc Try.prog W 0 (fun _ => true) true Try.f4.params.toList args.toList ds p := hA0
  rw [Try.params4] at hA hval
  obtain ⟨v0, vs0, d0, ds0, p0, q0, hargs, rfl, rfl, h0, r0⟩ := trodAll_cons hA
  obtain ⟨rfl, rfl, rfl⟩ := trodAll_nil r0
  obtain rfl : args = #[v0] := by cases args; simp_all
  obtain ⟨rfl, rfl⟩ := trodVars_none hV
  obtain ⟨a0, len0, cap0, rfl⟩ := okWide_slice Try.underlying22 (hval 0 22 v0 rfl rfl)
  have k0 := h0
  have lt0 : ∀ x ∈ p0, x.block < W.heap.size := by obtain ⟨m, hm⟩ := k0; exact DataW.trod_lt m _ _ _ hm
  obtain ⟨fuel0, hf0⟩ := h0
  obtain ⟨hcode0, hlen0⟩ := open_code (by simpa [Value.cells] using hf0)
  clear hA0 hval0
  refine (walk len0 cap0 a0 W hlen0 hcode0).mono fun e W' ⟨he, bel⟩ => ?_
  subst he
  exact ⟨_, rfl, _, _, _, [], _, [], hW', trodAll_mk1 (shut_bool Try.underlying4 _), (trodAll_cons_mk (Below.trod laidOut (by kernel_rfl) (of_decide_eq_true (by kernel_rfl)) k0 bel lt0) trodAll_mk0), rfl, bel.frame _, fun h => by cases h⟩
end LFnFitted
theorem fitted_holds : Rows.FnFittedSaid :=
  OpenClaim.holds_of_wide 4 Try.f4 rfl rfl rfl rfl rfl rfl rfl ⟨rfl, rfl, rfl, rfl, rfl⟩ rfl rfl rfl rfl rfl (by kernel_rfl) Try.func4 (by kernel_rfl)
    (of_decide_eq_true (by kernel_rfl)) (by unfold Func.isWrapper; first | (rw [if_pos (by decide +kernel)]; kernel_rfl) | (rw [if_neg (by decide +kernel)]; exact ⟨rfl, rfl⟩))
    (fun os started H enc _ => LFnFitted.lifted os started H enc)
#print axioms fitted_holds
end Go.Proofs.Ytlbpfcchaobgjaa

import Derived.Test.YtlbpfcchaobgjaaAmts6
import Derived.Test.YtlbpfcchaobgjaaAmtsR
namespace Go.Proofs.Ytlbpfcchaobgjaa
open Go.RowKit Go.BigFrame
set_option linter.unusedVariables false
theorem tm_div {x n : Int} (hn : 0 < n) : x ≤ 1000000000000000 / n ↔ x * n ≤ 1000000000000000 := Int.le_ediv_iff_mul_le hn
theorem tm_wrap {x n : Int} (hx : 0 ≤ x) (hn : 0 ≤ n) (h : x * n ≤ 1000000000000000) : wrap64 (x * n) = x * n := by
  have := Int.mul_nonneg hx hn
  simp only [wrap64]
  omega
theorem tm_no0 {a b c n : Int} (h : amB a b c = false) : tmB a b c n = false := by unfold tmB; rw [h]; rfl
theorem tm_no1 {a b c n : Int} (h : inB n 0 1000000 = false) : tmB a b c n = false := by
  unfold inB at h
  rw [decide_eq_false_iff_not] at h
  unfold tmB
  rw [Bool.and_eq_false_iff]
  right
  rw [decide_eq_false_iff_not]
  exact fun g => h ⟨g.1, g.2.1⟩
theorem tm_bad {a b c n : Int} (h : ¬ (a * n ≤ 1000000000000000 ∧ b * n ≤ 1000000000000000 ∧ c * n ≤ 1000000000000000)) : tmB a b c n = false := by
  unfold tmB
  rw [Bool.and_eq_false_iff]
  right
  rw [decide_eq_false_iff_not]
  exact fun g => h g.2.2
theorem tm_ok {a b c n : Int} (h0 : amB a b c = true) (h1 : inB n 0 1000000 = true) (h : a * n ≤ 1000000000000000 ∧ b * n ≤ 1000000000000000 ∧ c * n ≤ 1000000000000000) : tmB a b c n = true := by
  unfold inB at h1
  rw [decide_eq_true_eq] at h1
  unfold tmB
  rw [h0, Bool.true_and, decide_eq_true_eq]
  exact ⟨h1.1, h1.2, h⟩
set_option maxRecDepth 100000 in
set_option maxHeartbeats 1600000 in
theorem stimes_any (a b c n : Int) (w : World) :
    Calls Try.prog 24 #[.agg #[.int .i64 a, .int .i64 b, .int .i64 c], .int .i64 n] w fun e w' => e = .returned (tmV a b c n) ∧ Below w.heap.size w w' := by
  have ha := fun wx => sam_any a b c wx
  have hn := fun wx => l1In_any n 0 1000000 wx
  cases h0 : amB a b c
  · rw [h0] at ha
    have Ha := hide ha
    have HV : Hid (tmV a b c n = _) := tmV_no (tm_no0 h0)
    clear ha hn
    generalize tmV a b c n = V at *
    go_enter Try.func24, Try.ntmps24
    go_wp2_with fail
    refine (Ha.out _).mono ?_
    rintro e w1 ⟨rfl, hb1⟩
    have T1 := hide (below_three hb1)
    obtain ⟨z0, z1, z2, y0, y1, y2⟩ : Has3 w1 (w.heap.size + 1) 0 0 0 := Has3.later (w := (((w.alloc (.cells #[.int .i64 a, .int .i64 b, .int .i64 c] 36)).alloc (.cells #[.int .i64 0, .int .i64 0, .int .i64 0] 36)).alloc (.cells #[.int .i64 0, .int .i64 0, .int .i64 0] 36))) (by constructor <;> simp [go_sem]) hb1
    obtain ⟨u0, u1, u2, -, -, -⟩ : Has3 w1 (w.heap.size + 1 + 1) 0 0 0 := Has3.later (w := (((w.alloc (.cells #[.int .i64 a, .int .i64 b, .int .i64 c] 36)).alloc (.cells #[.int .i64 0, .int .i64 0, .int .i64 0] 36)).alloc (.cells #[.int .i64 0, .int .i64 0, .int .i64 0] 36))) (by constructor <;> simp [go_sem]) hb1
    clear hb1
    go_wp2_with fail
    rw [HV.out]
    exact bodyPost_ret (by simp [results, Try.results24, go_sem, z0, z1, z2]) rfl ⟨rfl, ((T1.out.setCell (by simp) _).setCell (by simp) _).setCell (by simp) _⟩
  rw [h0] at ha
  have Ha := hide ha
  clear ha
  cases h1 : inB n 0 1000000
  · rw [h1] at hn
    have Hn := hide hn
    have HV : Hid (tmV a b c n = _) := tmV_no (tm_no1 h1)
    clear hn
    generalize tmV a b c n = V at *
    go_enter Try.func24, Try.ntmps24
    go_wp2_with fail
    refine (Ha.out _).mono ?_
    rintro e w1 ⟨rfl, hb1⟩
    have T1 := hide (below_three hb1)
    obtain ⟨z0, z1, z2, y0, y1, y2⟩ : Has3 w1 (w.heap.size + 1) 0 0 0 := Has3.later (w := (((w.alloc (.cells #[.int .i64 a, .int .i64 b, .int .i64 c] 36)).alloc (.cells #[.int .i64 0, .int .i64 0, .int .i64 0] 36)).alloc (.cells #[.int .i64 0, .int .i64 0, .int .i64 0] 36))) (by constructor <;> simp [go_sem]) hb1
    obtain ⟨u0, u1, u2, -, -, -⟩ : Has3 w1 (w.heap.size + 1 + 1) 0 0 0 := Has3.later (w := (((w.alloc (.cells #[.int .i64 a, .int .i64 b, .int .i64 c] 36)).alloc (.cells #[.int .i64 0, .int .i64 0, .int .i64 0] 36)).alloc (.cells #[.int .i64 0, .int .i64 0, .int .i64 0] 36))) (by constructor <;> simp [go_sem]) hb1
    clear hb1
    go_wp2_with fail
    refine (Hn.out _).mono ?_
    rintro e w1 ⟨rfl, rfl⟩
    go_wp2_with fail
    rw [HV.out]
    exact bodyPost_ret (by simp [results, Try.results24, go_sem, z0, z1, z2]) rfl ⟨rfl, ((T1.out.setCell (by simp) _).setCell (by simp) _).setCell (by simp) _⟩
  obtain ⟨ba, bb, bc⟩ := amB_bd h0
  have bn : 0 ≤ n ∧ n ≤ 1000000 := by unfold inB at h1; rwa [decide_eq_true_eq] at h1
  rw [h1] at hn
  have Hn := hide hn
  have Hok : Hid (a * n ≤ 1000000000000000 ∧ b * n ≤ 1000000000000000 ∧ c * n ≤ 1000000000000000 → tmV a b c n = _) := fun h => tmV_yes (tm_ok h0 h1 h)
  have Hno : Hid (¬ (a * n ≤ 1000000000000000 ∧ b * n ≤ 1000000000000000 ∧ c * n ≤ 1000000000000000) → tmV a b c n = _) := fun h => tmV_no (tm_bad h)
  clear hn h0 h1
  have Ba := hide ba
  have Bb := hide bb
  have Bc := hide bc
  have Bn := hide bn
  clear ba bb bc bn
  generalize tmV a b c n = V at *
  go_enter Try.func24, Try.ntmps24
  go_wp2_with fail
  refine (Ha.out _).mono ?_
  rintro e w1 ⟨rfl, hb1⟩
  have T1 := hide (below_three hb1)
  obtain ⟨a0, a1, a2, -, -, -⟩ : Has3 w1 w.heap.size a b c := Has3.later (w := (((w.alloc (.cells #[.int .i64 a, .int .i64 b, .int .i64 c] 36)).alloc (.cells #[.int .i64 0, .int .i64 0, .int .i64 0] 36)).alloc (.cells #[.int .i64 0, .int .i64 0, .int .i64 0] 36))) (by constructor <;> simp [go_sem]) hb1
  have Z1 : Hid (Has3 w1 (w.heap.size + 1) 0 0 0) := Has3.later (w := (((w.alloc (.cells #[.int .i64 a, .int .i64 b, .int .i64 c] 36)).alloc (.cells #[.int .i64 0, .int .i64 0, .int .i64 0] 36)).alloc (.cells #[.int .i64 0, .int .i64 0, .int .i64 0] 36))) (by constructor <;> simp [go_sem]) hb1
  obtain ⟨z0, z1, z2, y0, y1, y2⟩ := Z1.out
  obtain ⟨u0, u1, u2, v0, v1, v2⟩ : Has3 w1 (w.heap.size + 1 + 1) 0 0 0 := Has3.later (w := (((w.alloc (.cells #[.int .i64 a, .int .i64 b, .int .i64 c] 36)).alloc (.cells #[.int .i64 0, .int .i64 0, .int .i64 0] 36)).alloc (.cells #[.int .i64 0, .int .i64 0, .int .i64 0] 36))) (by constructor <;> simp [go_sem]) hb1
  clear hb1
  go_wp2_with fail
  refine (Hn.out _).mono ?_
  rintro e w1 ⟨rfl, rfl⟩
  go_wp2_with fail
  refine wp_loop_rounds 4 ?_
  by_cases g : n = 0
  · subst g
    have HV := hide (Hok.out (by simp))
    simp only [Int.mul_zero] at HV
    have m0 : wrap64 (a * 0) = 0 := by simp [wrap64]
    have m1 : wrap64 (b * 0) = 0 := by simp [wrap64]
    have m2 : wrap64 (c * 0) = 0 := by simp [wrap64]
    rw [rounds_succ]; go_wp2
    go_quiet (fail)
    go_wp2
    rw [rounds_succ]; go_wp2
    go_quiet (fail)
    go_wp2
    rw [rounds_succ]; go_wp2
    go_quiet (fail)
    go_wp2
    rw [rounds_succ]; go_wp2
    rw [HV.out]
    exact ret_am (B := w.heap.size + 1) Try.results24 rfl rfl (Has3.set3 (r := 0) (s := 0) (t := 0) (by repeat (first | with_reducible exact Z1.out | with_reducible refine Has3.put ?_ 0 _ _ (by simp <;> omega) | with_reducible refine Has3.drewN ?_ _ | with_reducible refine Has3.drew ?_)) _ _ _) ⟨rfl, by repeat (first | with_reducible exact T1.out | with_reducible refine Below.setCell ?_ (by simp <;> omega) _ | with_reducible refine below_drewN ?_ _ | with_reducible refine Below.drew ?_)⟩
  have gn : 0 < n := by have := Bn.out.1; omega
  have dn : wrap64 ((1000000000000000 : Int).tdiv n) = 1000000000000000 / n := wdiv (z := 1000000000000000) ⟨by decide, by decide⟩ gn
  by_cases h0 : 1000000000000000 / n < a
  · have HV := hide (Hno.out (fun q => absurd ((tm_div gn).2 q.1) (by omega)))
    rw [rounds_succ]; go_wp2
    go_quiet (fail)
    go_wp2
    rw [HV.out]
    exact ret_am (B := w.heap.size + 1) Try.results24 rfl rfl (Has3.set3 (r := 0) (s := 0) (t := 0) (by repeat (first | with_reducible exact Z1.out | with_reducible refine Has3.put ?_ 0 _ _ (by simp <;> omega) | with_reducible refine Has3.drewN ?_ _ | with_reducible refine Has3.drew ?_)) _ _ _) ⟨rfl, by repeat (first | with_reducible exact T1.out | with_reducible refine Below.setCell ?_ (by simp <;> omega) _ | with_reducible refine below_drewN ?_ _ | with_reducible refine Below.drew ?_)⟩
  have p0 := (tm_div gn).1 (show a ≤ 1000000000000000 / n by omega)
  have m0 := tm_wrap Ba.out.1 Bn.out.1 p0
  have P0 := hide p0
  clear p0
  rw [rounds_succ]; go_wp2
  go_quiet (fail)
  go_wp2
  by_cases h1 : 1000000000000000 / n < b
  · have HV := hide (Hno.out (fun q => absurd ((tm_div gn).2 q.2.1) (by omega)))
    rw [rounds_succ]; go_wp2
    go_quiet (fail)
    go_wp2
    rw [HV.out]
    exact ret_am (B := w.heap.size + 1) Try.results24 rfl rfl (Has3.set3 (r := 0) (s := 0) (t := 0) (by repeat (first | with_reducible exact Z1.out | with_reducible refine Has3.put ?_ 0 _ _ (by simp <;> omega) | with_reducible refine Has3.drewN ?_ _ | with_reducible refine Has3.drew ?_)) _ _ _) ⟨rfl, by repeat (first | with_reducible exact T1.out | with_reducible refine Below.setCell ?_ (by simp <;> omega) _ | with_reducible refine below_drewN ?_ _ | with_reducible refine Below.drew ?_)⟩
  have p1 := (tm_div gn).1 (show b ≤ 1000000000000000 / n by omega)
  have m1 := tm_wrap Bb.out.1 Bn.out.1 p1
  have P1 := hide p1
  clear p1
  rw [rounds_succ]; go_wp2
  go_quiet (fail)
  go_wp2
  by_cases h2 : 1000000000000000 / n < c
  · have HV := hide (Hno.out (fun q => absurd ((tm_div gn).2 q.2.2) (by omega)))
    rw [rounds_succ]; go_wp2
    go_quiet (fail)
    go_wp2
    rw [HV.out]
    exact ret_am (B := w.heap.size + 1) Try.results24 rfl rfl (Has3.set3 (r := 0) (s := 0) (t := 0) (by repeat (first | with_reducible exact Z1.out | with_reducible refine Has3.put ?_ 0 _ _ (by simp <;> omega) | with_reducible refine Has3.drewN ?_ _ | with_reducible refine Has3.drew ?_)) _ _ _) ⟨rfl, by repeat (first | with_reducible exact T1.out | with_reducible refine Below.setCell ?_ (by simp <;> omega) _ | with_reducible refine below_drewN ?_ _ | with_reducible refine Below.drew ?_)⟩
  have p2 := (tm_div gn).1 (show c ≤ 1000000000000000 / n by omega)
  have m2 := tm_wrap Bc.out.1 Bn.out.1 p2
  have HV := hide (Hok.out ⟨P0.out, P1.out, p2⟩)
  clear p2
  rw [rounds_succ]; go_wp2
  go_quiet (fail)
  go_wp2
  rw [rounds_succ]; go_wp2
  rw [HV.out]
  exact ret_am (B := w.heap.size + 1) Try.results24 rfl rfl (Has3.set3 (r := 0) (s := 0) (t := 0) (by repeat (first | with_reducible exact Z1.out | with_reducible refine Has3.put ?_ 0 _ _ (by simp <;> omega) | with_reducible refine Has3.drewN ?_ _ | with_reducible refine Has3.drew ?_)) _ _ _) ⟨rfl, by repeat (first | with_reducible exact T1.out | with_reducible refine Below.setCell ?_ (by simp <;> omega) _ | with_reducible refine below_drewN ?_ _ | with_reducible refine Below.drew ?_)⟩
end Go.Proofs.Ytlbpfcchaobgjaa

import Derived.Test.YtlbpfcchaobgjaaAmts7
namespace Go.Proofs.Ytlbpfcchaobgjaa
open Go.RowKit Go.BigFrame
set_option linter.unusedVariables false
theorem tm_neg {a b c n : Int} (h : n < 0) : tmB a b c n = false := by
  unfold tmB
  rw [Bool.and_eq_false_iff]
  right
  rw [decide_eq_false_iff_not]
  exact fun g => by omega
theorem tm_parts {a b c n : Int} (h : tmB a b c n = true) : 0 ≤ n ∧ a * n ≤ 1000000000000000 ∧ b * n ≤ 1000000000000000 ∧ c * n ≤ 1000000000000000 := by
  unfold tmB at h
  rw [Bool.and_eq_true, decide_eq_true_eq] at h
  exact ⟨h.2.1, h.2.2.2⟩
set_option maxRecDepth 100000 in
set_option maxHeartbeats 3200000 in
theorem itimes_any (a b c n : Int) (w : World) :
    Calls Try.prog 19 #[.agg #[.int .i64 a, .int .i64 b, .int .i64 c], .int .i64 n] w fun e w' => e = .returned (tmV a b c n) ∧ Below w.heap.size w w' := by
  have ha := fun wx => iam_any a b c wx
  have hf := fun wx => ifits_any a b c 1000000000000000 1000000000000000 1000000000000000 wx
  cases h0 : amB a b c
  · rw [h0] at ha
    have Ha := hide ha
    have HV : Hid (tmV a b c n = _) := tmV_no (tm_no0 h0)
    clear ha hf
    generalize tmV a b c n = V at *
    go_enter Try.func19, Try.ntmps19
    go_wp2_with fail
    refine (Ha.out _).mono ?_
    rintro e w1 ⟨rfl, hb1⟩
    have T1 := hide (below_three hb1)
    have Z1 : Hid (Has3 w1 (w.heap.size + 1) 0 0 0) := Has3.later (w := (((w.alloc (.cells #[.int .i64 a, .int .i64 b, .int .i64 c] 36)).alloc (.cells #[.int .i64 0, .int .i64 0, .int .i64 0] 36)).alloc (.cells #[.int .i64 1000000000000000, .int .i64 1000000000000000, .int .i64 1000000000000000] 36))) (by constructor <;> simp [go_sem]) hb1
    have A1 : Hid (Has3 w1 w.heap.size a b c) := Has3.later (w := (((w.alloc (.cells #[.int .i64 a, .int .i64 b, .int .i64 c] 36)).alloc (.cells #[.int .i64 0, .int .i64 0, .int .i64 0] 36)).alloc (.cells #[.int .i64 1000000000000000, .int .i64 1000000000000000, .int .i64 1000000000000000] 36))) (by constructor <;> simp [go_sem]) hb1
    have M1 : Hid (Has3 w1 (w.heap.size + 1 + 1) 1000000000000000 1000000000000000 1000000000000000) := Has3.later (w := (((w.alloc (.cells #[.int .i64 a, .int .i64 b, .int .i64 c] 36)).alloc (.cells #[.int .i64 0, .int .i64 0, .int .i64 0] 36)).alloc (.cells #[.int .i64 1000000000000000, .int .i64 1000000000000000, .int .i64 1000000000000000] 36))) (by constructor <;> simp [go_sem]) hb1
    obtain ⟨z0, z1, z2, y0, y1, y2⟩ := Z1.out
    obtain ⟨a0, a1, a2, -, -, -⟩ := A1.out
    obtain ⟨m0, m1, m2, -, -, -⟩ := M1.out
    clear hb1
    go_wp2_with fail
    rw [HV.out]
    exact ret_am (B := w.heap.size + 1) Try.results19 rfl rfl (Has3.set3 (r := 0) (s := 0) (t := 0) (by repeat (first | with_reducible exact Z1.out | with_reducible refine Has3.put ?_ 0 _ _ (by simp <;> omega) | with_reducible refine Has3.drewN ?_ _ | with_reducible refine Has3.drew ?_)) _ _ _) ⟨rfl, by repeat (first | with_reducible exact T1.out | with_reducible refine Below.setCell ?_ (by simp <;> omega) _ | with_reducible refine below_drewN ?_ _ | with_reducible refine Below.drew ?_)⟩
  rw [h0] at ha
  have Ha := hide ha
  clear ha
  by_cases h1 : n < 0
  · have HV : Hid (tmV a b c n = _) := tmV_no (tm_neg h1)
    clear hf
    generalize tmV a b c n = V at *
    go_enter Try.func19, Try.ntmps19
    go_wp2_with fail
    refine (Ha.out _).mono ?_
    rintro e w1 ⟨rfl, hb1⟩
    have T1 := hide (below_three hb1)
    have Z1 : Hid (Has3 w1 (w.heap.size + 1) 0 0 0) := Has3.later (w := (((w.alloc (.cells #[.int .i64 a, .int .i64 b, .int .i64 c] 36)).alloc (.cells #[.int .i64 0, .int .i64 0, .int .i64 0] 36)).alloc (.cells #[.int .i64 1000000000000000, .int .i64 1000000000000000, .int .i64 1000000000000000] 36))) (by constructor <;> simp [go_sem]) hb1
    have A1 : Hid (Has3 w1 w.heap.size a b c) := Has3.later (w := (((w.alloc (.cells #[.int .i64 a, .int .i64 b, .int .i64 c] 36)).alloc (.cells #[.int .i64 0, .int .i64 0, .int .i64 0] 36)).alloc (.cells #[.int .i64 1000000000000000, .int .i64 1000000000000000, .int .i64 1000000000000000] 36))) (by constructor <;> simp [go_sem]) hb1
    have M1 : Hid (Has3 w1 (w.heap.size + 1 + 1) 1000000000000000 1000000000000000 1000000000000000) := Has3.later (w := (((w.alloc (.cells #[.int .i64 a, .int .i64 b, .int .i64 c] 36)).alloc (.cells #[.int .i64 0, .int .i64 0, .int .i64 0] 36)).alloc (.cells #[.int .i64 1000000000000000, .int .i64 1000000000000000, .int .i64 1000000000000000] 36))) (by constructor <;> simp [go_sem]) hb1
    obtain ⟨z0, z1, z2, y0, y1, y2⟩ := Z1.out
    obtain ⟨a0, a1, a2, -, -, -⟩ := A1.out
    obtain ⟨m0, m1, m2, -, -, -⟩ := M1.out
    clear hb1
    go_wp2_with fail
    rw [HV.out]
    exact ret_am (B := w.heap.size + 1) Try.results19 rfl rfl (Has3.set3 (r := 0) (s := 0) (t := 0) (by repeat (first | with_reducible exact Z1.out | with_reducible refine Has3.put ?_ 0 _ _ (by simp <;> omega) | with_reducible refine Has3.drewN ?_ _ | with_reducible refine Has3.drew ?_)) _ _ _) ⟨rfl, by repeat (first | with_reducible exact T1.out | with_reducible refine Below.setCell ?_ (by simp <;> omega) _ | with_reducible refine below_drewN ?_ _ | with_reducible refine Below.drew ?_)⟩
  have ht := @tm_fits a b c n h0
  have bd := amB_bd h0
  generalize fitsI a b c 1000000000000000 1000000000000000 1000000000000000 = f at *
  have Hf := hide hf
  clear hf
  cases h2 : tmB a b c n
  · have HV : Hid (tmV a b c n = _) := tmV_no h2
    have hlt : f < n := by
      have : ¬ (0 ≤ n ∧ n ≤ f) := fun g => by have := ht.1 g; rw [h2] at this; cases this
      omega
    clear ht bd
    generalize tmV a b c n = V at *
    go_enter Try.func19, Try.ntmps19
    go_wp2_with fail
    refine (Ha.out _).mono ?_
    rintro e w1 ⟨rfl, hb1⟩
    have T1 := hide (below_three hb1)
    have Z1 : Hid (Has3 w1 (w.heap.size + 1) 0 0 0) := Has3.later (w := (((w.alloc (.cells #[.int .i64 a, .int .i64 b, .int .i64 c] 36)).alloc (.cells #[.int .i64 0, .int .i64 0, .int .i64 0] 36)).alloc (.cells #[.int .i64 1000000000000000, .int .i64 1000000000000000, .int .i64 1000000000000000] 36))) (by constructor <;> simp [go_sem]) hb1
    have A1 : Hid (Has3 w1 w.heap.size a b c) := Has3.later (w := (((w.alloc (.cells #[.int .i64 a, .int .i64 b, .int .i64 c] 36)).alloc (.cells #[.int .i64 0, .int .i64 0, .int .i64 0] 36)).alloc (.cells #[.int .i64 1000000000000000, .int .i64 1000000000000000, .int .i64 1000000000000000] 36))) (by constructor <;> simp [go_sem]) hb1
    have M1 : Hid (Has3 w1 (w.heap.size + 1 + 1) 1000000000000000 1000000000000000 1000000000000000) := Has3.later (w := (((w.alloc (.cells #[.int .i64 a, .int .i64 b, .int .i64 c] 36)).alloc (.cells #[.int .i64 0, .int .i64 0, .int .i64 0] 36)).alloc (.cells #[.int .i64 1000000000000000, .int .i64 1000000000000000, .int .i64 1000000000000000] 36))) (by constructor <;> simp [go_sem]) hb1
    obtain ⟨z0, z1, z2, y0, y1, y2⟩ := Z1.out
    obtain ⟨a0, a1, a2, -, -, -⟩ := A1.out
    obtain ⟨m0, m1, m2, -, -, -⟩ := M1.out
    clear hb1
    go_wp2_with fail
    refine (Hf.out _).mono ?_
    rintro e w2 ⟨rfl, hb2⟩
    have T2 := hide (T1.out.trans (hb2.mono T1.out.size))
    have Z2 := hide (Z1.out.later hb2)
    clear z0 z1 z2 y0 y1 y2
    obtain ⟨z0, z1, z2, y0, y1, y2⟩ := Z2.out
    clear hb2 T1 Z1
    go_wp2_with fail
    rw [HV.out]
    exact ret_am (B := w.heap.size + 1) Try.results19 rfl rfl (Has3.set3 (r := 0) (s := 0) (t := 0) (by repeat (first | with_reducible exact Z2.out | with_reducible refine Has3.put ?_ 0 _ _ (by simp <;> omega) | with_reducible refine Has3.drewN ?_ _ | with_reducible refine Has3.drew ?_)) _ _ _) ⟨rfl, by repeat (first | with_reducible exact T2.out | with_reducible refine Below.setCell ?_ (by simp <;> omega) _ | with_reducible refine below_drewN ?_ _ | with_reducible refine Below.drew ?_)⟩
  · have HV : Hid (tmV a b c n = _) := tmV_yes h2
    obtain ⟨gn, p0, p1, p2⟩ := tm_parts h2
    have hle : n ≤ f := (ht.2 h2).2
    have hle' : ¬ f < n := by omega
    have e0 := tm_wrap bd.1.1 gn p0
    have e1 := tm_wrap bd.2.1.1 gn p1
    have e2 := tm_wrap bd.2.2.1 gn p2
    clear ht bd p0 p1 p2
    generalize tmV a b c n = V at *
    go_enter Try.func19, Try.ntmps19
    go_wp2_with fail
    refine (Ha.out _).mono ?_
    rintro e w1 ⟨rfl, hb1⟩
    have T1 := hide (below_three hb1)
    have Z1 : Hid (Has3 w1 (w.heap.size + 1) 0 0 0) := Has3.later (w := (((w.alloc (.cells #[.int .i64 a, .int .i64 b, .int .i64 c] 36)).alloc (.cells #[.int .i64 0, .int .i64 0, .int .i64 0] 36)).alloc (.cells #[.int .i64 1000000000000000, .int .i64 1000000000000000, .int .i64 1000000000000000] 36))) (by constructor <;> simp [go_sem]) hb1
    have A1 : Hid (Has3 w1 w.heap.size a b c) := Has3.later (w := (((w.alloc (.cells #[.int .i64 a, .int .i64 b, .int .i64 c] 36)).alloc (.cells #[.int .i64 0, .int .i64 0, .int .i64 0] 36)).alloc (.cells #[.int .i64 1000000000000000, .int .i64 1000000000000000, .int .i64 1000000000000000] 36))) (by constructor <;> simp [go_sem]) hb1
    have M1 : Hid (Has3 w1 (w.heap.size + 1 + 1) 1000000000000000 1000000000000000 1000000000000000) := Has3.later (w := (((w.alloc (.cells #[.int .i64 a, .int .i64 b, .int .i64 c] 36)).alloc (.cells #[.int .i64 0, .int .i64 0, .int .i64 0] 36)).alloc (.cells #[.int .i64 1000000000000000, .int .i64 1000000000000000, .int .i64 1000000000000000] 36))) (by constructor <;> simp [go_sem]) hb1
    obtain ⟨z0, z1, z2, y0, y1, y2⟩ := Z1.out
    obtain ⟨a0, a1, a2, -, -, -⟩ := A1.out
    obtain ⟨m0, m1, m2, -, -, -⟩ := M1.out
    clear hb1
    go_wp2_with fail
    refine (Hf.out _).mono ?_
    rintro e w2 ⟨rfl, hb2⟩
    have T2 := hide (T1.out.trans (hb2.mono T1.out.size))
    have Z2 := hide (Z1.out.later hb2)
    clear z0 z1 z2 y0 y1 y2 a0 a1 a2 m0 m1 m2
    obtain ⟨z0, z1, z2, y0, y1, y2⟩ := Z2.out
    obtain ⟨a0, a1, a2, g0, g1, g2⟩ := A1.out.later hb2
    clear hb2 T1 Z1 A1 M1
    go_wp2_with fail
    refine wp_loop_rounds 4 ?_
    rw [rounds_succ]; go_wp2
    rw [rounds_succ]; go_wp2
    rw [rounds_succ]; go_wp2
    rw [rounds_succ]; go_wp2
    rw [HV.out]
    exact ret_am (B := w.heap.size + 1) Try.results19 rfl rfl (Has3.set3 (r := 0) (s := 0) (t := 0) (by repeat (first | with_reducible exact Z2.out | with_reducible refine Has3.put ?_ 0 _ _ (by simp <;> omega) | with_reducible refine Has3.drewN ?_ _ | with_reducible refine Has3.drew ?_)) _ _ _) ⟨rfl, by repeat (first | with_reducible exact T2.out | with_reducible refine Below.setCell ?_ (by simp <;> omega) _ | with_reducible refine below_drewN ?_ _ | with_reducible refine Below.drew ?_)⟩
end Go.Proofs.Ytlbpfcchaobgjaa

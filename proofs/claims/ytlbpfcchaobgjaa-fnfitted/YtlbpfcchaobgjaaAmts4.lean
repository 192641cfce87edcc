import Derived.Test.YtlbpfcchaobgjaaAmts3
import Derived.BigQuiet
import Derived.Deep.QuietTactic
namespace Go.Proofs.Ytlbpfcchaobgjaa
open Go.RowKit Go.BigFrame
set_option linter.unusedVariables false
def fitS (x r m : Int) : Int := if 0 < x ∧ r / x < m then r / x else m
def fitsI (a b c x y z : Int) : Int := if amB a b c && amB x y z then fitS c z (fitS b y (fitS a x 1000000)) else 0
theorem below_two {w w1 : World} {o0 o1 : Obj} (h : Below ((w.alloc o0).alloc o1).heap.size ((w.alloc o0).alloc o1) w1) : Below w.heap.size w w1 := (((Below.refl w.heap.size w).alloc (Nat.le_refl _) _).alloc (by simp) _).trans (h.mono (by simp; omega))
theorem wdiv {z c : Int} (hz : 0 ≤ z ∧ z ≤ 1000000000000000) (hc : 0 < c) : wrap64 (z.tdiv c) = z / c := by
  rw [Int.tdiv_eq_ediv_of_nonneg hz.1]
  have h1 : z / c ≤ z := Int.ediv_le_self _ hz.1
  have h2 : 0 ≤ z / c := Int.ediv_nonneg hz.1 (by omega)
  simp only [wrap64]
  omega
theorem fitS_cases (x r m : Int) (h : 0 ≤ x) : (x = 0 ∧ fitS x r m = m) ∨ (0 < x ∧ r / x < m ∧ fitS x r m = r / x) ∨ (0 < x ∧ m ≤ r / x ∧ fitS x r m = m) := by
  unfold fitS
  by_cases h0 : 0 < x
  · by_cases h1 : r / x < m
    · right; left; exact ⟨h0, h1, if_pos ⟨h0, h1⟩⟩
    · right; right; exact ⟨h0, by omega, if_neg (fun g => h1 g.2)⟩
  · left; exact ⟨by omega, if_neg (fun g => h0 g.1)⟩
theorem fits_a {V a b c x y z : Int} (h : Hid (V = fitS c z (fitS b y (fitS a x 1000000)))) (ha : 0 ≤ a) : (a = 0 ∧ Hid (V = fitS c z (fitS b y 1000000))) ∨ (0 < a ∧ x / a < 1000000 ∧ Hid (V = fitS c z (fitS b y (x / a)))) ∨ (0 < a ∧ 1000000 ≤ x / a ∧ Hid (V = fitS c z (fitS b y 1000000))) := by
  rcases fitS_cases a x 1000000 ha with ⟨p, e⟩ | ⟨p, q, e⟩ | ⟨p, q, e⟩ <;> rw [e] at h
  · exact .inl ⟨p, h⟩
  · exact .inr (.inl ⟨p, q, h⟩)
  · exact .inr (.inr ⟨p, q, h⟩)
theorem fits_b {V b c y z M : Int} (h : Hid (V = fitS c z (fitS b y M))) (ha : 0 ≤ b) : (b = 0 ∧ Hid (V = fitS c z M)) ∨ (0 < b ∧ y / b < M ∧ Hid (V = fitS c z (y / b))) ∨ (0 < b ∧ M ≤ y / b ∧ Hid (V = fitS c z M)) := by
  rcases fitS_cases b y M ha with ⟨p, e⟩ | ⟨p, q, e⟩ | ⟨p, q, e⟩ <;> rw [e] at h
  · exact .inl ⟨p, h⟩
  · exact .inr (.inl ⟨p, q, h⟩)
  · exact .inr (.inr ⟨p, q, h⟩)
theorem fits_c {V c z M : Int} (h : Hid (V = fitS c z M)) (ha : 0 ≤ c) : (c = 0 ∧ Hid (V = M)) ∨ (0 < c ∧ z / c < M ∧ Hid (V = z / c)) ∨ (0 < c ∧ M ≤ z / c ∧ Hid (V = M)) := by
  rcases fitS_cases c z M ha with ⟨p, e⟩ | ⟨p, q, e⟩ | ⟨p, q, e⟩ <;> rw [e] at h
  · exact .inl ⟨p, h⟩
  · exact .inr (.inl ⟨p, q, h⟩)
  · exact .inr (.inr ⟨p, q, h⟩)
set_option maxRecDepth 100000 in
set_option maxHeartbeats 3200000 in
theorem sfits_any (a b c x y z : Int) (w : World) :
    Calls Try.prog 25 #[.agg #[.int .i64 a, .int .i64 b, .int .i64 c], .agg #[.int .i64 x, .int .i64 y, .int .i64 z]] w fun e w' => e = .returned (.int .i64 (fitsI a b c x y z)) ∧ Below w.heap.size w w' := by
  have ha := fun wx => sam_any a b c wx
  have hx := fun wx => sam_any x y z wx
  cases h0 : amB a b c
  · rw [h0] at ha
    have Ha := hide ha
    have HV : Hid (fitsI a b c x y z = 0) := by show _ = _; unfold fitsI; rw [h0]; rfl
    clear ha hx
    generalize fitsI a b c x y z = V at *
    go_enter Try.func25, Try.ntmps25
    go_wp2_with fail
    refine (Ha.out _).mono ?_
    rintro e w1 ⟨rfl, hb1⟩
    have T1 := hide (below_two hb1)
    clear hb1
    go_wp2_with fail
    go_ret
    exact ⟨by rw [HV.out]; rfl, T1.out⟩
  cases h1 : amB x y z
  · rw [h0] at ha
    rw [h1] at hx
    have Ha := hide ha
    have Hx := hide hx
    have HV : Hid (fitsI a b c x y z = 0) := by show _ = _; unfold fitsI; rw [h0, h1]; rfl
    clear ha hx
    generalize fitsI a b c x y z = V at *
    go_enter Try.func25, Try.ntmps25
    go_wp2_with fail
    refine (Ha.out _).mono ?_
    rintro e w1 ⟨rfl, hb1⟩
    have T1 := hide (below_two hb1)
    obtain ⟨x0, x1, x2, -, -, -⟩ : Has3 w1 (w.heap.size + 1) x y z := Has3.later (w := ((w.alloc (.cells #[.int .i64 a, .int .i64 b, .int .i64 c] 36)).alloc (.cells #[.int .i64 x, .int .i64 y, .int .i64 z] 36))) (by constructor <;> simp [go_sem]) hb1
    clear hb1
    go_wp2_with fail
    refine (Hx.out _).mono ?_
    rintro e w2 ⟨rfl, hb2⟩
    have T2 := hide (T1.out.trans (hb2.mono T1.out.size))
    clear hb2 T1 x0 x1 x2
    go_wp2_with fail
    go_ret
    exact ⟨by rw [HV.out]; rfl, T2.out⟩
  have HV : Hid (fitsI a b c x y z = fitS c z (fitS b y (fitS a x 1000000))) := by show _ = _; unfold fitsI; rw [h0, h1]; rfl
  generalize fitsI a b c x y z = V at *
  obtain ⟨ba, bb, bc⟩ := amB_bd h0
  obtain ⟨bx, by', bz⟩ := amB_bd h1
  rw [h0] at ha
  rw [h1] at hx
  have Ha := hide ha
  have Hx := hide hx
  clear ha hx h0 h1
  go_enter Try.func25, Try.ntmps25
  go_wp2_with fail
  refine (Ha.out _).mono ?_
  rintro e w1 ⟨rfl, hb1⟩
  have T1 := hide (below_two hb1)
  have A1 : Hid (Has3 w1 w.heap.size a b c) := Has3.later (w := ((w.alloc (.cells #[.int .i64 a, .int .i64 b, .int .i64 c] 36)).alloc (.cells #[.int .i64 x, .int .i64 y, .int .i64 z] 36))) (by constructor <;> simp [go_sem]) hb1
  have X1 : Hid (Has3 w1 (w.heap.size + 1) x y z) := Has3.later (w := ((w.alloc (.cells #[.int .i64 a, .int .i64 b, .int .i64 c] 36)).alloc (.cells #[.int .i64 x, .int .i64 y, .int .i64 z] 36))) (by constructor <;> simp [go_sem]) hb1
  have x0 := X1.out.c0
  have x1 := X1.out.c1
  have x2 := X1.out.c2
  clear hb1
  go_wp2_with fail
  refine (Hx.out _).mono ?_
  rintro e w2 ⟨rfl, hb2⟩
  have T2 := hide (T1.out.trans (hb2.mono T1.out.size))
  obtain ⟨a0, a1, a2, -, -, -⟩ := A1.out.later hb2
  clear x0 x1 x2
  obtain ⟨x0, x1, x2, -, -, -⟩ := X1.out.later hb2
  clear hb2 T1 A1 X1
  go_wp2_with fail
  refine wp_loop_rounds 4 ?_
  have B0 := hide ba.1
  have B1 := hide bb.1
  have B2 := hide bc.1
  have X0 := hide bx
  have X1 := hide by'
  have X2 := hide bz
  clear ba bb bc bx by' bz
  rcases fits_a HV B0.out with ⟨rfl, HV1⟩ | ⟨p0, q0, HV1⟩ | ⟨p0, q0, HV1⟩
  all_goals
    clear HV
    try have d0 := wdiv X0.out p0
    rw [rounds_succ]; go_wp2
    go_quiet (fail)
    go_wp2
    try (go_quiet (fail); go_wp2)
  all_goals
    rcases fits_b HV1 B1.out with ⟨rfl, HV2⟩ | ⟨p1, q1, HV2⟩ | ⟨p1, q1, HV2⟩
  all_goals
    clear HV1
    try have d1 := wdiv X1.out p1
    rw [rounds_succ]; go_wp2
    go_quiet (fail)
    go_wp2
    try (go_quiet (fail); go_wp2)
  all_goals
    rcases fits_c HV2 B2.out with ⟨rfl, HV3⟩ | ⟨p2, q2, HV3⟩ | ⟨p2, q2, HV3⟩
  all_goals
    clear HV2
    try have d2 := wdiv X2.out p2
    rw [rounds_succ]; go_wp2
    go_quiet (fail)
    go_wp2
    try (go_quiet (fail); go_wp2)
  all_goals
    rw [rounds_succ]; go_wp2
    go_ret
    exact ⟨by first | (exfalso; omega) | (rw [HV3.out]; rfl) | (rw [HV3.out, ← d2]; rfl) | (rw [HV3.out, ← d1]; rfl) | (rw [HV3.out, ← d0]; rfl), by repeat (first | exact T2.out | refine Below.drew ?_ | refine below_drewN ?_ _)⟩
end Go.Proofs.Ytlbpfcchaobgjaa

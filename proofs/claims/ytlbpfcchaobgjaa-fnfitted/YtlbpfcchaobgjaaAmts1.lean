import Derived.Test.YtlbpfcchaobgjaaNames
import Derived.Handy
import Derived.LoopN
import Derived.WalkLawsBesides
import Derived.Deep.RegionWith
namespace Go.Proofs.Ytlbpfcchaobgjaa
open Go.RowKit Go.BigFrame
set_option linter.unusedVariables false
/-! amounts: three numbers -/
def amB (a b c : Int) : Bool := inB a 0 1000000000000000 && (inB b 0 1000000000000000 && inB c 0 1000000000000000)

set_option maxHeartbeats 1600000 in
theorem toIntA3_any (a b c : Int) (w : World) :
    Calls Try.prog 42 #[.agg #[.int .i64 a, .int .i64 b, .int .i64 c]] w fun e w' => e = .returned (.agg #[.int .i64 a, .int .i64 b, .int .i64 c]) ∧ Below w.heap.size w w' := by
  go_enter Try.func42, Try.ntmps42
  go_wp2
  go_rounds 4
  refine bodyPost_ret (v := .agg #[.int .i64 a, .int .i64 b, .int .i64 c]) (by simp [results, Try.results42, go_sem]) rfl ⟨rfl, (((Below.refl _ _).alloc (Nat.le_refl _) _).alloc (by simp) _).alloc (by simp; omega) _⟩
set_option maxHeartbeats 1600000 in
theorem toAm_any (a b c : Int) (w : World) :
    Calls Try.prog 21 #[.agg #[.int .i64 a, .int .i64 b, .int .i64 c]] w fun e w' => e = .returned (.agg #[.int .i64 a, .int .i64 b, .int .i64 c]) ∧ Below w.heap.size w w' := by
  go_enter Try.func21, Try.ntmps21
  go_wp2_with fail
  refine (toIntA3_any a b c _).mono ?_
  rintro e w1 ⟨rfl, hb1⟩
  have z0 := (hb1.cell (p := ⟨w.heap.size + 1 + 1, 0, none⟩) (by simp)).trans (by simp [go_sem] : _ = some (.int .i64 0))
  have z1 := (hb1.cell (p := ⟨w.heap.size + 1 + 1, 1, none⟩) (by simp)).trans (by simp [go_sem] : _ = some (.int .i64 0))
  have z2 := (hb1.cell (p := ⟨w.heap.size + 1 + 1, 2, none⟩) (by simp)).trans (by simp [go_sem] : _ = some (.int .i64 0))
  have y0 := (hb1.frozen (p := ⟨w.heap.size + 1 + 1, 0, none⟩) (by simp)).trans (by simp [go_sem] : _ = false)
  have y1 := (hb1.frozen (p := ⟨w.heap.size + 1 + 1, 1, none⟩) (by simp)).trans (by simp [go_sem] : _ = false)
  have y2 := (hb1.frozen (p := ⟨w.heap.size + 1 + 1, 2, none⟩) (by simp)).trans (by simp [go_sem] : _ = false)
  have x0 := (hb1.cell (p := ⟨w.heap.size + 1, 0, none⟩) (by simp)).trans (by simp [go_sem] : _ = some (.int .i64 0))
  have x1 := (hb1.cell (p := ⟨w.heap.size + 1, 1, none⟩) (by simp)).trans (by simp [go_sem] : _ = some (.int .i64 0))
  have x2 := (hb1.cell (p := ⟨w.heap.size + 1, 2, none⟩) (by simp)).trans (by simp [go_sem] : _ = some (.int .i64 0))
  have u0 := (hb1.frozen (p := ⟨w.heap.size + 1, 0, none⟩) (by simp)).trans (by simp [go_sem] : _ = false)
  have u1 := (hb1.frozen (p := ⟨w.heap.size + 1, 1, none⟩) (by simp)).trans (by simp [go_sem] : _ = false)
  have u2 := (hb1.frozen (p := ⟨w.heap.size + 1, 2, none⟩) (by simp)).trans (by simp [go_sem] : _ = false)
  have B1 := hide ((((Below.refl w.heap.size w).alloc (Nat.le_refl _) (.cells #[.int .i64 a, .int .i64 b, .int .i64 c] 44)).alloc (by simp) (.cells #[.int .i64 0, .int .i64 0, .int .i64 0] 36)).alloc (by simp; omega) (.cells #[.int .i64 0, .int .i64 0, .int .i64 0] 36) |>.trans (hb1.mono (by simp; omega)))
  clear hb1
  go_wp2
  exact bodyPost_ret (v := .agg #[.int .i64 a, .int .i64 b, .int .i64 c]) (by simp [results, Try.results21, go_sem, x0, x1, x2]) rfl ⟨rfl, (((((B1.out.setCell (by simp; omega) _).setCell (by simp; omega) _).setCell (by simp; omega) _).setCell (by simp) _).setCell (by simp) _).setCell (by simp) _⟩
set_option maxHeartbeats 1600000 in
theorem sam_any (a b c : Int) (w : World) :
    Calls Try.prog 17 #[.agg #[.int .i64 a, .int .i64 b, .int .i64 c]] w fun e w' => e = .returned (.bool (amB a b c)) ∧ Below w.heap.size w w' := by
  go_enter Try.func17, Try.ntmps17
  unfold amB
  cases h0 : inB a 0 1000000000000000
  · go_wp2_with (go_at_call 40; refine (l1In_any _ _ _ _).mono ?_; rintro e w' ⟨rfl, rfl⟩; first | rw [h0] | skip)
    go_ret
    exact ⟨rfl, (Below.refl _ _).alloc (Nat.le_refl _) _⟩
  cases h1 : inB b 0 1000000000000000
  · go_wp2_with (go_at_call 40; refine (l1In_any _ _ _ _).mono ?_; rintro e w' ⟨rfl, rfl⟩; first | rw [h0] | rw [h1] | skip)
    go_ret
    exact ⟨rfl, (Below.refl _ _).alloc (Nat.le_refl _) _⟩
  · go_wp2_with (go_at_call 40; refine (l1In_any _ _ _ _).mono ?_; rintro e w' ⟨rfl, rfl⟩; first | rw [h0] | rw [h1] | skip)
    go_ret
    exact ⟨rfl, (Below.refl _ _).alloc (Nat.le_refl _) _⟩
def clamp (x : Int) : Int := min (max x 0) 1000000000000000
theorem clamp_is (x : Int) : clamp x = x ∨ clamp x = 0 ∨ clamp x = 1000000000000000 := by unfold clamp; omega
set_option maxHeartbeats 1600000 in
theorem bounded_any (a b c : Int) (w : World) :
    Calls Try.prog 41 #[.agg #[.int .i64 a, .int .i64 b, .int .i64 c]] w fun e w' => e = .returned (.agg #[.int .i64 (clamp a), .int .i64 (clamp b), .int .i64 (clamp c)]) ∧ Below w.heap.size w w' := by
  go_enter Try.func41, Try.ntmps41
  go_wp2
  go_rounds 4
  all_goals
    first | rw [show clamp a = a by unfold clamp; omega] | rw [show clamp a = 0 by unfold clamp; omega] | rw [show clamp a = 1000000000000000 by unfold clamp; omega]
  all_goals
    first | rw [show clamp b = b by unfold clamp; omega] | rw [show clamp b = 0 by unfold clamp; omega] | rw [show clamp b = 1000000000000000 by unfold clamp; omega]
  all_goals
    first | rw [show clamp c = c by unfold clamp; omega] | rw [show clamp c = 0 by unfold clamp; omega] | rw [show clamp c = 1000000000000000 by unfold clamp; omega]
  all_goals exact bodyPost_ret (by simp [results, Try.results41, go_sem]) rfl ⟨rfl, ((Below.refl _ _).alloc (Nat.le_refl _) _).alloc (by simp) _⟩
theorem clamp_eq (a b c : Int) : (a == clamp a && (b == clamp b && c == clamp c)) = amB a b c := by
  have h : ∀ x, (x == clamp x) = inB x 0 1000000000000000 := fun x => by
    rw [Bool.eq_iff_iff, beq_iff_eq]; unfold inB clamp; rw [decide_eq_true_eq]; omega
  rw [h, h, h]; rfl
set_option maxHeartbeats 1600000 in
theorem eqIntA3_any (a b c x y z : Int) (w : World) :
    Calls Try.prog 43 #[.agg #[.int .i64 a, .int .i64 b, .int .i64 c], .agg #[.int .i64 x, .int .i64 y, .int .i64 z]] w fun e w' => e = .returned (.bool (decide (a = x ∧ b = y ∧ c = z))) ∧ Below w.heap.size w w' := by
  go_enter Try.func43, Try.ntmps43
  go_wp2
  refine wp_loop_rounds 4 ?_
  rw [rounds_succ]; go_wp2
  go_region
  by_cases h0 : a = x
  · subst h0
    have q0 : (a != a) = false := by simp
    go_wp2
    rw [rounds_succ]; go_wp2
    go_region
    by_cases h1 : b = y
    · subst h1
      have q1 : (b != b) = false := by simp
      go_wp2
      rw [rounds_succ]; go_wp2
      go_region
      by_cases h2 : c = z
      · subst h2
        have q2 : (c != c) = false := by simp
        go_wp2
        rw [rounds_succ]; go_wp2
        go_ret
        exact ⟨by simp, by repeat (first | exact ((Below.refl _ _).alloc (Nat.le_refl _) _).alloc (by simp) _ | refine Below.drew ?_ | refine below_drewN ?_ _)⟩
      · have q2 : (c != z) = true := by simpa using h2
        go_wp2
        go_ret
        exact ⟨by simp, by repeat (first | exact ((Below.refl _ _).alloc (Nat.le_refl _) _).alloc (by simp) _ | refine Below.drew ?_ | refine below_drewN ?_ _)⟩
    · have q1 : (b != y) = true := by simpa using h1
      go_wp2
      go_ret
      exact ⟨by simp, by repeat (first | exact ((Below.refl _ _).alloc (Nat.le_refl _) _).alloc (by simp) _ | refine Below.drew ?_ | refine below_drewN ?_ _)⟩
  · have q0 : (a != x) = true := by simpa using h0
    go_wp2
    go_ret
    exact ⟨by simp [h0], by repeat (first | exact ((Below.refl _ _).alloc (Nat.le_refl _) _).alloc (by simp) _ | refine Below.drew ?_ | refine below_drewN ?_ _)⟩
set_option maxHeartbeats 1600000 in
theorem eqAm_any (a b c x y z : Int) (w : World) :
    Calls Try.prog 23 #[.agg #[.int .i64 a, .int .i64 b, .int .i64 c], .agg #[.int .i64 x, .int .i64 y, .int .i64 z]] w fun e w' => e = .returned (.bool (decide (a = x ∧ b = y ∧ c = z))) ∧ Below w.heap.size w w' := by
  have Hc := hide (fun wx => eqIntA3_any a b c x y z wx)
  generalize decide (a = x ∧ b = y ∧ c = z) = r at *
  go_enter Try.func23, Try.ntmps23
  go_wp2_with fail
  refine (Hc.out _).mono ?_
  rintro e w2 ⟨rfl, hb2⟩
  have hb2 := hide hb2
  cases r
  all_goals go_wp2
  all_goals go_ret
  all_goals exact ⟨rfl, (by repeat (first | exact ((Below.refl _ _).alloc (Nat.le_refl _) _).alloc (by simp) _ | refine Below.drew ?_ | refine below_drewN ?_ _) : Below w.heap.size w _).trans (hb2.out.mono (by simp; omega))⟩
end Go.Proofs.Ytlbpfcchaobgjaa

import Derived.Test.YtlbpfcchaobgjaaAmts1
namespace Go.Proofs.Ytlbpfcchaobgjaa
open Go.RowKit Go.BigFrame
set_option linter.unusedVariables false
theorem eqArr (a b c x y z : Int) (w : World) (d : Nat) : (Op.equalIn (d + 2) 34 (.agg #[.int .i64 a, .int .i64 b, .int .i64 c]) (.agg #[.int .i64 x, .int .i64 y, .int .i64 z])).run Try.prog w = .ok (a == x && (b == y && c == z)) w := by
  have hz : ∀ w, (sizeOf 3).run Try.prog w = .ok 1 w := fun w => by kernel_rfl
  have hu : ∀ w, (underlying 3).run Try.prog w = .ok (.int .i64) w := fun w => by kernel_rfl
  have hv : ∀ w, (underlying 34).run Try.prog w = .ok (.array 3 3) w := fun w => by kernel_rfl
  unfold Op.equalIn
  simp [hv, hz, hu, List.range', Op.equalIn, part, go_sem]
  by_cases h1 : a = x <;> by_cases h2 : b = y <;> by_cases h3 : c = z <;> simp [h1, h2, h3]
set_option maxRecDepth 100000 in
set_option maxHeartbeats 1600000 in
theorem iam_any (a b c : Int) (w : World) :
    Calls Try.prog 18 #[.agg #[.int .i64 a, .int .i64 b, .int .i64 c]] w fun e w' => e = .returned (.bool (amB a b c)) ∧ Below w.heap.size w w' := by
  have hce := clamp_eq a b c
  have Hc := hide (fun wx => bounded_any a b c wx)
  generalize amB a b c = r at *
  generalize clamp a = A at *
  generalize clamp b = B at *
  generalize clamp c = C at *
  have heq := fun wx => eqArr a b c A B C wx 9997
  rw [hce] at heq
  clear hce
  go_enter Try.func18, Try.ntmps18
  cases r
  all_goals
    go_wp2_with fail
    go_region_with (go_at_call 41; refine (Hc.out _).mono ?_; rintro e w2 ⟨rfl, hb2⟩; have x0 := (hb2.cell (p := ⟨w.heap.size, 0, none⟩) (by simp)).trans (by simp [go_sem] : _ = some (.int .i64 a)); have x1 := (hb2.cell (p := ⟨w.heap.size, 1, none⟩) (by simp)).trans (by simp [go_sem] : _ = some (.int .i64 b)); have x2 := (hb2.cell (p := ⟨w.heap.size, 2, none⟩) (by simp)).trans (by simp [go_sem] : _ = some (.int .i64 c)); have hb2 := hide hb2)
    all_goals (try go_wp2)
    all_goals go_ret
    all_goals exact ⟨rfl, (by repeat (first | exact (Below.refl _ _).alloc (Nat.le_refl _) _ | refine Below.drew ?_ | refine below_drewN ?_ _) : Below w.heap.size w _).trans (hb2.out.mono (by simp))⟩
end Go.Proofs.Ytlbpfcchaobgjaa

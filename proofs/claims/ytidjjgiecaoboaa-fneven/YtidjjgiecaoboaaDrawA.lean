import Derived.Test.YtidjjgiecaoboaaDraw4
import Derived.Test.YtidjjgiecaoboaaCode
namespace Go.Proofs.Ytidjjgiecaoboaa
open Go.RowKit Go.BigFrame
set_option linter.unusedVariables false
theorem big_any (n cap : Nat) (a : Option Addr) (w : World) : Calls Try.prog 8 #[.slice a n cap] w fun e w' => e = .returned (.bool (decide (1048576 < n))) ∧ w' = w := by
  by_cases h : 1048576 < n
  · rw [decide_eq_true h]
    have h1 : (1048576 : Int) < (n : Int) := by omega
    go_enter Try.func8, Try.ntmps8
    go_wp2
    go_ret
    exact ⟨rfl, rfl⟩
  · rw [decide_eq_false h]
    have h1 : ¬ (1048576 : Int) < (n : Int) := by omega
    go_enter Try.func8, Try.ntmps8
    go_wp2
    go_ret
    exact ⟨rfl, rfl⟩
end Go.Proofs.Ytidjjgiecaoboaa

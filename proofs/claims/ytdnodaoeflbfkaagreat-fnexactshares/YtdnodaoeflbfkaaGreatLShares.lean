/- FnExactShares holds: at every want, islands and numbers left impl.Shares answers what spec.Shares answers, in memory of its own. No conditions. -/
import Derived.Test.YtdnodaoeflbfkaaGreatRows
import Derived.Test.YtdnodaoeflbfkaaGreatJ8
import Derived.WalkKit
import Derived.ProofKit
import Derived.OpenShut
import Derived.ShutString
import Derived.ChangeOld
import Derived.Below
namespace Go.Proofs.YtdnodaoeflbfkaaGreat
open Go.ChangeShapes Go.WideShapes Go.ChangeAt Go.RowKit Go.BigFrame
open Go.ChangeMaps (open_string shut_string)
set_option linter.unusedVariables false
theorem shares_holds : Rows.FnExactSharesSaid :=
  OpenClaim.holds_of_wide 3 Tryz.f3 rfl rfl rfl rfl rfl rfl rfl ⟨rfl, rfl, rfl, rfl, rfl⟩ rfl rfl rfl rfl rfl (by kernel_rfl) Tryz.func3 (by kernel_rfl)
    (of_decide_eq_true (by kernel_rfl)) (by unfold Func.isWrapper; first | (rw [if_pos (by decide +kernel)]; kernel_rfl) | (rw [if_neg (by decide +kernel)]; exact ⟨rfl, rfl⟩))
    (fun os started H enc _ => LShares.lifted os started H enc)
#print axioms shares_holds
end Go.Proofs.YtdnodaoeflbfkaaGreat

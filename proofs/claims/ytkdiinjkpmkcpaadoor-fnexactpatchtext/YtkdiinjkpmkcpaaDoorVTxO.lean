/- The texts of values: both ValueText. -/
import Derived.Test.YtkdiinjkpmkcpaaDoorVTxP
import Derived.Test.YtkdiinjkpmkcpaaDoorValO
namespace Go.Proofs.YtkdiinjkpmkcpaaDoor
open Go.RowKit Go.BigFrame
set_option linter.unusedVariables false

def vtB (n : Nat) (v : VT n) : ByteArray := if vokB n v then vtx n v else ⟨#[]⟩
theorem vok_rgt {n : Nat} {v : VT n} (hn : nmVT n v) (h : vokB n v = true) : rgt n v := by
  unfold vokB sizB at h
  rw [decide_eq_true_eq] at h
  have h1 : tsz n 6 v ≤ 300 ∧ tsz n 6 v ≠ 0 := by
    unfold upTo at h
    split at h
    · rename_i hle; exact ⟨hle, by omega⟩
    · omega
  exact (rgt_of n 6 v hn h1.2 h1.1).1
end Go.Proofs.YtkdiinjkpmkcpaaDoor

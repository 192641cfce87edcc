/- spec.SameValue of values that are not the same but for their lists. -/
import Derived.Test.YtkdiinjkpmkcpaaDoorVSm
import Derived.Test.YtkdiinjkpmkcpaaDoorUTValue
namespace Go.Proofs.YtkdiinjkpmkcpaaDoor
open Go.RowKit Go.BigFrame
set_option linter.unusedVariables false

/-- a row of texts in memory -/
theorem txt_at {w : World} {lo hi n : Nat} {c : UD} {b off cap : Nat} (ht : tyS 1 n c 0) (h : uS w lo hi 1 n c (.slice (some ⟨b, off, none⟩) n cap)) (j : Nat) (hj : j < (strL c).length) : w.cell? ⟨b, off + j, none⟩ = some (.string ((strL c)[j]'hj)) := by
  have hl := strL_len ht
  obtain ⟨b', off', e, _, hm⟩ := h.cells (by omega)
  cases e
  obtain ⟨c', q1, q2⟩ := hm.get j _ ((strL_get c 0 ht.2.2.2.2).2 j hj).1
  rw [q1, show c' = _ from q2]
theorem beqS (a b : ByteArray) : (a.toList == b.toList) = decide (a = b) := by
  rw [ByteArray.toList_eq, ByteArray.toList_eq, Bool.eq_iff_iff, beq_iff_eq, decide_eq_true_iff]
  constructor
  · intro h; cases a; cases b; simpa using congrArg List.toArray h
  · rintro rfl; rfl
end Go.Proofs.YtkdiinjkpmkcpaaDoor

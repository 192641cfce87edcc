/- Queues: both sides alike: QueueOk. -/
import Derived.Test.YtldabidmacghgaaQfH
namespace Go.Proofs.Ytldabidmacghgaa
open Go.RowKit Go.BigFrame
set_option linter.unusedVariables false
theorem queueOk_both (dA0 : UD) (htA0 : tyL dA0 (uE 13)) (hw : (wt dA0) ≤ 1048576) :
    ∃ (bR0 : Bool), (∀ (w : World) (loA0 hiA0 : Nat) (xsA0 : List Value), uH w loA0 hiA0 dA0 xsA0 → Calls Try.prog 14 #[.agg xsA0.toArray] w fun e w' => e = .returned (.bool bR0) ∧ Below w.heap.size w w') ∧
    (∀ (w : World) (loA0 hiA0 : Nat) (xsA0 : List Value), uH w loA0 hiA0 dA0 xsA0 → Calls Try.prog 15 #[.agg xsA0.toArray] w fun e w' => e = .returned (.bool bR0) ∧ Below w.heap.size w w') := by
  obtain ⟨Q, rfl, hq⟩ := qu_of htA0 hw
  exact ⟨qOk Q, fun w lo hi xs hx => sQueueOk_any Q xs w hq hx.qu, fun w lo hi xs hx => iQueueOk_any Q xs w hq hx.qu⟩
end Go.Proofs.Ytldabidmacghgaa

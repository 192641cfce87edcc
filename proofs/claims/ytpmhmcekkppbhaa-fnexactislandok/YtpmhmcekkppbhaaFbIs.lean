/- Who may run it: both sides alike: IslandOk. -/
import Derived.Test.YtpmhmcekkppbhaaFtI
namespace Go.Proofs.Ytpmhmcekkppbhaa
open Go.RowKit Go.BigFrame
set_option linter.unusedVariables false
theorem islandOk_both (dA0 : UD) (htA0 : tyL dA0 (uE 14)) (hw : (wt dA0) ≤ 1048576) :
    ∃ (bR0 : Bool), (∀ (w : World) (loA0 hiA0 : Nat) (xsA0 : List Value), uH w loA0 hiA0 dA0 xsA0 → Calls Try.prog 23 #[.agg xsA0.toArray] w fun e w' => e = .returned (.bool bR0) ∧ Below w.heap.size w w') ∧
    (∀ (w : World) (loA0 hiA0 : Nat) (xsA0 : List Value), uH w loA0 hiA0 dA0 xsA0 → Calls Try.prog 22 #[.agg xsA0.toArray] w fun e w' => e = .returned (.bool bR0) ∧ Below w.heap.size w w') := by
  obtain ⟨I, hq, hI⟩ := is_of htA0
  exact ⟨islB I, fun w lo hi xs hx => sIslandOk_any I xs w hq (hI w lo hi xs hx), fun w lo hi xs hx => iIslandOk_any I xs w hq (hI w lo hi xs hx)⟩
end Go.Proofs.Ytpmhmcekkppbhaa

/- Who may run it: both sides alike: WantOk. -/
import Derived.Test.YtdnodaoeflbfkaaFtJ
namespace Go.Proofs.Ytdnodaoeflbfkaa
open Go.RowKit Go.BigFrame
set_option linter.unusedVariables false
theorem wantOk_both (dA0 : UD) (htA0 : tyL dA0 (uE 16)) (hw : (wt dA0) ≤ 1048576) :
    ∃ (bR0 : Bool), (∀ (w : World) (loA0 hiA0 : Nat) (xsA0 : List Value), uH w loA0 hiA0 dA0 xsA0 → Calls Try.prog 17 #[.agg xsA0.toArray] w fun e w' => e = .returned (.bool bR0) ∧ Below w.heap.size w w') ∧
    (∀ (w : World) (loA0 hiA0 : Nat) (xsA0 : List Value), uH w loA0 hiA0 dA0 xsA0 → Calls Try.prog 19 #[.agg xsA0.toArray] w fun e w' => e = .returned (.bool bR0) ∧ Below w.heap.size w w') := by
  obtain ⟨W, hq, hW⟩ := wa_of htA0
  exact ⟨wanB W, fun w lo hi xs hx => sWantOk_any W xs w hq (hW w lo hi xs hx), fun w lo hi xs hx => iWantOk_any W xs w hq (hW w lo hi xs hx)⟩
end Go.Proofs.Ytdnodaoeflbfkaa

/- Who may run it: both sides alike: Eligible. -/
import Derived.Test.YtdnodaoeflbfkaaFtF
import Derived.Deep.RegionHeld3
namespace Go.Proofs.Ytdnodaoeflbfkaa
open Go.RowKit Go.BigFrame
set_option linter.unusedVariables false
theorem eligible_both (dA0 : UD) (dA1 : UD) (htA0 : tyL dA0 (uE 16)) (htA1 : tyL dA1 (uE 14)) (hw : (wt dA0) + (wt dA1) ≤ 1048576) :
    ∃ (bR0 : Bool), (∀ (w : World) (loA0 hiA0 : Nat) (xsA0 : List Value) (loA1 hiA1 : Nat) (xsA1 : List Value), uH w loA0 hiA0 dA0 xsA0 → uH w loA1 hiA1 dA1 xsA1 → Calls Try.prog 24 #[.agg xsA0.toArray, .agg xsA1.toArray] w fun e w' => e = .returned (.bool bR0) ∧ Below w.heap.size w w') ∧
    (∀ (w : World) (loA0 hiA0 : Nat) (xsA0 : List Value) (loA1 hiA1 : Nat) (xsA1 : List Value), uH w loA0 hiA0 dA0 xsA0 → uH w loA1 hiA1 dA1 xsA1 → Calls Try.prog 26 #[.agg xsA0.toArray, .agg xsA1.toArray] w fun e w' => e = .returned (.bool bR0) ∧ Below w.heap.size w w') := by
  obtain ⟨W, hq, hW⟩ := wa_of htA0
  obtain ⟨I, hq', hI⟩ := is_of htA1
  exact ⟨eligB W I, fun w lo hi xs lo' hi' ys hx hy => sEligible_any W I xs ys w hq hq' (hW w lo hi xs hx) (hI w lo' hi' ys hy), fun w lo hi xs lo' hi' ys hx hy => iEligible_any W I xs ys w hq hq' (hW w lo hi xs hx) (hI w lo' hi' ys hy)⟩
end Go.Proofs.Ytdnodaoeflbfkaa

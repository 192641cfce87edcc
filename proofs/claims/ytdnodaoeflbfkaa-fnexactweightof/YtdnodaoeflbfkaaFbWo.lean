/- Who may run it: both sides alike: WeightOf. -/
import Derived.Test.YtdnodaoeflbfkaaFtN
namespace Go.Proofs.Ytdnodaoeflbfkaa
open Go.RowKit Go.BigFrame
set_option linter.unusedVariables false
theorem weightOf_both (dA0 : UD) (sA1 : ByteArray) (htA0 : tyL dA0 (uE 16)) (hsA1 : sA1.size ≤ 1048576) (hw : (wt dA0) ≤ 1048576) :
    ∃ (iR0 : Int), (∀ (w : World) (loA0 hiA0 : Nat) (xsA0 : List Value), uH w loA0 hiA0 dA0 xsA0 → Calls Try.prog 21 #[.agg xsA0.toArray, .string sA1] w fun e w' => e = .returned (.int .i64 iR0) ∧ Below w.heap.size w w') ∧
    (∀ (w : World) (loA0 hiA0 : Nat) (xsA0 : List Value), uH w loA0 hiA0 dA0 xsA0 → Calls Try.prog 22 #[.agg xsA0.toArray, .string sA1] w fun e w' => e = .returned (.int .i64 iR0) ∧ Below w.heap.size w w') := by
  obtain ⟨⟨z, T, B, L⟩, hq, hW⟩ := wa_of htA0
  exact ⟨weighI L sA1, fun w lo hi xs hx => sWeightOf_any z T B L sA1 xs w hq.2.2.2.1 (hW w lo hi xs hx), fun w lo hi xs hx => iWeightOf_any z T B L sA1 xs w hq.2.2.2.1 (hW w lo hi xs hx)⟩
end Go.Proofs.Ytdnodaoeflbfkaa

/- Bases: both sides look at one alike. -/
import Derived.Test.YtdnodaoeflbfkaaOB12
import Derived.Test.YtdnodaoeflbfkaaUTBasea
namespace Go.Proofs.Ytdnodaoeflbfkaa
open Go.RowKit Go.BigFrame
set_option linter.unusedVariables false
theorem baseOk_both (dA0 : UD) (htA0 : tyL dA0 (uE 10)) (hw : (wt dA0) ≤ 1048576) :
    ∃ (bR0 : Bool), (∀ (w : World) (loA0 hiA0 : Nat) (xsA0 : List Value), uH w loA0 hiA0 dA0 xsA0 → Calls Try.prog 29 #[.agg xsA0.toArray] w fun e w' => e = .returned (.bool bR0) ∧ Below w.heap.size w w') ∧
    (∀ (w : World) (loA0 hiA0 : Nat) (xsA0 : List Value), uH w loA0 hiA0 dA0 xsA0 → Calls Try.prog 31 #[.agg xsA0.toArray] w fun e w' => e = .returned (.bool bR0) ∧ Below w.heap.size w w') := by
  obtain ⟨n0, c0, z1, z2, n3, c3, hd, g0, g1, g2, g3⟩ := partsBase htA0
  refine ⟨baseB n0 c0 z1 z2 n3 c3, fun w lo hi xs hx => ?_, fun w lo hi xs hx => ?_⟩
  · rw [hd] at hx
    obtain ⟨v0, _, rfl, s0, ⟨_, rfl, ⟨_, rfl, ⟨v3, _, rfl, s3, rfl⟩⟩⟩⟩ := hx
    exact sBaseOk_of n0 c0 z1 z2 n3 c3 v0 v3 w g0 g3 s0 s3
  · rw [hd] at hx
    obtain ⟨v0, _, rfl, s0, ⟨_, rfl, ⟨_, rfl, ⟨v3, _, rfl, s3, rfl⟩⟩⟩⟩ := hx
    exact iBaseOk_of n0 c0 z1 z2 n3 c3 v0 v3 w g0 g3 s0 s3
end Go.Proofs.Ytdnodaoeflbfkaa

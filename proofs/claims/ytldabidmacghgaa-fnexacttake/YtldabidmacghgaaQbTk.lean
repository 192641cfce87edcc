/- Queues: both sides alike: Take. -/
import Derived.Test.YtldabidmacghgaaQfY
namespace Go.Proofs.Ytldabidmacghgaa
open Go.RowKit Go.BigFrame
set_option linter.unusedVariables false
theorem take_both (dA0 : UD) (htA0 : tyL dA0 (uE 13)) (hw : (wt dA0) ≤ 1048576) :
    ∃ (dR0 : UD) (sR1 : ByteArray) (bR2 : Bool), tyL dR0 (uE 13) ∧ cnt dR0 ≤ 50000000 ∧ (∀ (w : World) (loA0 hiA0 : Nat) (xsA0 : List Value), uH w loA0 hiA0 dA0 xsA0 → Calls Try.prog 19 #[.agg xsA0.toArray] w fun e w' => ∃ (ysR0 : List Value), e = .returned (.tuple #[.agg ysR0.toArray, .string sR1, .bool bR2]) ∧ uH w' 0 w'.heap.size dR0 ysR0 ∧ Below w.heap.size w w') ∧
    (∀ (w : World) (loA0 hiA0 : Nat) (xsA0 : List Value), uH w loA0 hiA0 dA0 xsA0 → Calls Try.prog 16 #[.agg xsA0.toArray] w fun e w' => ∃ (ysR0 : List Value) (SR0 : List Nat), e = .returned (.tuple #[.agg ysR0.toArray, .string sR1, .bool bR2]) ∧ oH w' dR0 ysR0 SR0 ∧ own2 SR0 w.heap.size w'.heap.size ∧ Below w.heap.size w w') := by
  obtain ⟨Q, rfl, hq⟩ := qu_of htA0 hw
  have hq' := okQ_take hq
  refine ⟨quU (takeQ Q).1, (takeQ Q).2.1, (takeQ Q).2.2, tyL_qu hq'.1, cnt_qu hq'.1, fun w lo hi xs hx => ?_, fun w lo hi xs hx => ?_⟩
  · refine (sTake_any Q xs w hq hx.qu).mono ?_
    rintro e w' ⟨vI, vD, vA, rfl, ho, hb⟩
    obtain ⟨S, h1, h2⟩ := ho.own
    exact ⟨_, rfl, h1.hand (fun g hg => ⟨Nat.zero_le _, (h2.2 g hg).2⟩), hb⟩
  · refine (iTake_any Q xs w hq hx.qu).mono ?_
    rintro e w' ⟨vI, vD, vA, rfl, ho, hb⟩
    obtain ⟨S, h1, h2⟩ := ho.own
    exact ⟨_, S, rfl, h1, h2, hb⟩
end Go.Proofs.Ytldabidmacghgaa

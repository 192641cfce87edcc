/- Queues: both sides alike: Pass. -/
import Derived.Test.YtldabidmacghgaaQfP
namespace Go.Proofs.Ytldabidmacghgaa
open Go.RowKit Go.BigFrame
set_option linter.unusedVariables false
theorem pass_both (dA0 : UD) (iA1 : Int) (htA0 : tyL dA0 (uE 13)) (hsA1 : inK .i64 iA1) (hw : (wt dA0) ≤ 1048576) :
    ∃ (dR0 : UD), tyL dR0 (uE 13) ∧ cnt dR0 ≤ 50000000 ∧ (∀ (w : World) (loA0 hiA0 : Nat) (xsA0 : List Value), uH w loA0 hiA0 dA0 xsA0 → Calls Try.prog 29 #[.agg xsA0.toArray, .int .i64 iA1] w fun e w' => ∃ (ysR0 : List Value), e = .returned (.agg ysR0.toArray) ∧ uH w' 0 w'.heap.size dR0 ysR0 ∧ Below w.heap.size w w') ∧
    (∀ (w : World) (loA0 hiA0 : Nat) (xsA0 : List Value), uH w loA0 hiA0 dA0 xsA0 → Calls Try.prog 22 #[.agg xsA0.toArray, .int .i64 iA1] w fun e w' => ∃ (ysR0 : List Value) (SR0 : List Nat), e = .returned (.agg ysR0.toArray) ∧ oH w' dR0 ysR0 SR0 ∧ own2 SR0 w.heap.size w'.heap.size ∧ Below w.heap.size w w') := by
  obtain ⟨Q, rfl, hq⟩ := qu_of htA0 hw
  have hq' := okQ_pass hq (z := iA1) hsA1
  refine ⟨quU (passQ Q iA1), tyL_qu hq', cnt_qu hq', fun w lo hi xs hx => ?_, fun w lo hi xs hx => ?_⟩
  · refine (sPass_any Q iA1 xs w hq hx.qu).mono ?_
    rintro e w' ⟨vI, vD, vA, rfl, ho, hb⟩
    obtain ⟨S, h1, h2⟩ := ho.own
    exact ⟨_, rfl, h1.hand (fun g hg => ⟨Nat.zero_le _, (h2.2 g hg).2⟩), hb⟩
  · refine (iPass_any Q iA1 xs w hq hx.qu).mono ?_
    rintro e w' ⟨vI, vD, vA, rfl, ho, hb⟩
    obtain ⟨S, h1, h2⟩ := ho.own
    exact ⟨_, S, rfl, h1, h2, hb⟩
end Go.Proofs.Ytldabidmacghgaa

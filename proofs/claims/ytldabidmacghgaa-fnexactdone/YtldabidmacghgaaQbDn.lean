/- Queues: both sides alike: Done. -/
import Derived.Test.YtldabidmacghgaaQdC
namespace Go.Proofs.Ytldabidmacghgaa
open Go.RowKit Go.BigFrame
set_option linter.unusedVariables false
theorem done_both (dA0 : UD) (sA1 : ByteArray) (bA2 : Bool) (htA0 : tyL dA0 (uE 13)) (hsA1 : sA1.size ≤ 1048576) (hw : (wt dA0) ≤ 1048576) :
    ∃ (dR0 : UD) (bR1 : Bool), tyL dR0 (uE 13) ∧ cnt dR0 ≤ 50000000 ∧ (∀ (w : World) (loA0 hiA0 : Nat) (xsA0 : List Value), uH w loA0 hiA0 dA0 xsA0 → Calls Try.prog 28 #[.agg xsA0.toArray, .string sA1, .bool bA2] w fun e w' => ∃ (ysR0 : List Value), e = .returned (.tuple #[.agg ysR0.toArray, .bool bR1]) ∧ uH w' 0 w'.heap.size dR0 ysR0 ∧ Below w.heap.size w w') ∧
    (∀ (w : World) (loA0 hiA0 : Nat) (xsA0 : List Value), uH w loA0 hiA0 dA0 xsA0 → Calls Try.prog 17 #[.agg xsA0.toArray, .string sA1, .bool bA2] w fun e w' => ∃ (ysR0 : List Value) (SR0 : List Nat), e = .returned (.tuple #[.agg ysR0.toArray, .bool bR1]) ∧ oH w' dR0 ysR0 SR0 ∧ own2 SR0 w.heap.size w'.heap.size ∧ Below w.heap.size w w') := by
  obtain ⟨Q, rfl, hq⟩ := qu_of htA0 (by omega)
  have hq' := okQ_done hq (s := sA1) (by unfold maxLen; omega) bA2
  refine ⟨quU (doneQ Q sA1 bA2).1, (doneQ Q sA1 bA2).2, tyL_qu hq', cnt_qu hq', fun w lo hi xs hx => ?_, fun w lo hi xs hx => ?_⟩
  · refine (sDone_any Q sA1 bA2 xs w hq (by unfold maxLen; omega) hx.qu).mono ?_
    rintro e w' ⟨vI, vD, vA, rfl, ho, hb⟩
    obtain ⟨S, h1, h2⟩ := ho.own
    exact ⟨_, rfl, h1.hand (fun g hg => ⟨Nat.zero_le _, (h2.2 g hg).2⟩), hb⟩
  · refine (iDone_any Q sA1 bA2 xs w hq (by unfold maxLen; omega) hx.qu).mono ?_
    rintro e w' ⟨vI, vD, vA, rfl, ho, hb⟩
    obtain ⟨S, h1, h2⟩ := ho.own
    exact ⟨_, S, rfl, h1, h2, hb⟩
end Go.Proofs.Ytldabidmacghgaa

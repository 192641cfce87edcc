/- What a base lists: both sides answer alike. -/
import Derived.Test.YtamlgjmboljcdaaGreatLstX
import Derived.Test.YtamlgjmboljcdaaGreatUTBasea
namespace Go.Proofs.YtamlgjmboljcdaaGreat
open Go.RowKit Go.BigFrame
set_option linter.unusedVariables false
theorem list_both (dA0 : UD) (htA0 : tyL dA0 (uE 10)) (hw : (wt dA0) ≤ 1048576) :
    ∃ (dR0 : UD), tyL dR0 (uE 11) ∧ cnt dR0 ≤ 50000000 ∧ (∀ (w : World) (loA0 hiA0 : Nat) (xsA0 : List Value), uH w loA0 hiA0 dA0 xsA0 → Calls Tryz.prog 61 #[.agg xsA0.toArray] w fun e w' => ∃ (ysR0 : List Value), e = .returned (.agg ysR0.toArray) ∧ uH w' 0 w'.heap.size dR0 ysR0 ∧ Below w.heap.size w w') ∧
    (∀ (w : World) (loA0 hiA0 : Nat) (xsA0 : List Value) (SA0 : List Nat), oH w dA0 xsA0 SA0 → own2 SA0 loA0 hiA0 → Calls Tryz.prog 28 #[.agg xsA0.toArray] w fun e w' => ∃ (ysR0 : List Value) (SR0 : List Nat), e = .returned (.agg ysR0.toArray) ∧ oH w' dR0 ysR0 SR0 ∧ own2 SR0 w.heap.size w'.heap.size ∧ Below w.heap.size w w') := by
  obtain ⟨n0, c0, z1, z2, n3, c3, hd, g0, g1, g2, g3⟩ := partsBase htA0
  have hw0 : n0 + wt c0 ≤ 1048576 := by
    rw [hd] at hw
    simp only [wt, wtP] at hw
    omega
  refine ⟨listU n0 c0 z1 z2 n3 c3, ?_, ?_, fun w lo hi xs hx => ?_, fun w lo hi xs S hx hS => ?_⟩
  · unfold listU
    split
    · exact ⟨_, _, rfl, ⟨z1, rfl, g1⟩, _, _, rfl, g0, rfl⟩
    · exact ⟨_, _, rfl, ⟨0, rfl, by constructor <;> decide⟩, _, _, rfl, ⟨by decide, rfl, by decide, rfl, trivial⟩, rfl⟩
  · unfold listU
    have := cnt_wt g0
    split <;> simp only [cnt] <;> omega
  · rw [hd] at hx
    exact (sList_N n0 c0 z1 z2 n3 c3 xs w g0 g3 hw0 hx).mono fun e w' ⟨ys, S, q1, q2, q3, q4⟩ => ⟨ys, q1, q2.hand (fun g hg => ⟨Nat.zero_le _, (q3.2 g hg).2⟩), q4⟩
  · rw [hd] at hx
    exact (iList_N (lo := 0) (hi := 0) n0 c0 z1 z2 n3 c3 xs S w g0 g3 hw0 hx hS.1).mono fun e w' ⟨ys, S, q1, q2, q3, q4⟩ => ⟨ys, S, q1, q2, q3, q4⟩
end Go.Proofs.YtamlgjmboljcdaaGreat

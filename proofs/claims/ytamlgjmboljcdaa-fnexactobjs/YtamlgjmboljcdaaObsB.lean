/- Objects of one kind: both sides answer alike. -/
import Derived.Test.YtamlgjmboljcdaaObsW
import Derived.Test.YtamlgjmboljcdaaUTBasea
namespace Go.Proofs.Ytamlgjmboljcdaa
open Go.RowKit Go.BigFrame
set_option linter.unusedVariables false
theorem objs_both (dA0 : UD) (iA1 : Int) (htA0 : tyL dA0 (uE 10)) (hsA1 : inK .i64 iA1) (hw : (wt dA0) ≤ 1048576) :
    ∃ (nR0 : Nat) (csR0 : UD), tyS 17 nR0 csR0 8 ∧ cnt csR0 ≤ 50000000 ∧ (∀ (w : World) (loA0 hiA0 : Nat) (xsA0 : List Value), uH w loA0 hiA0 dA0 xsA0 → Calls Try.prog 22 #[.agg xsA0.toArray, .int .i64 iA1] w fun e w' => ∃ (cR0 : Value), e = .returned (cR0) ∧ uS w' 0 w'.heap.size 17 nR0 csR0 cR0 ∧ Below w.heap.size w w') ∧
    (∀ (w : World) (loA0 hiA0 : Nat) (xsA0 : List Value) (SA0 : List Nat), oH w dA0 xsA0 SA0 → own2 SA0 loA0 hiA0 → Calls Try.prog 23 #[.agg xsA0.toArray, .int .i64 iA1] w fun e w' => ∃ (cR0 : Value) (SR0 : List Nat), e = .returned (cR0) ∧ oS w' 17 nR0 csR0 cR0 SR0 ∧ own2 SR0 w.heap.size w'.heap.size ∧ Below w.heap.size w w') := by
  obtain ⟨n0, c0, z1, z2, n3, c3, hd, g0, g1, g2, g3⟩ := partsBase htA0
  have hw0 : n0 + wt c0 ≤ 1048576 := by
    rw [hd] at hw
    simp only [wt, wtP] at hw
    omega
  obtain ⟨h1, h2⟩ := selU_tyS (kind := iA1) g0
  refine ⟨(selU c0 iA1 n0).2, (selU c0 iA1 n0).1, h1, ?_, fun w lo hi xs hx => ?_, fun w lo hi xs S hx hS => ?_⟩
  · have h3 := cnt_wt g0
    omega
  · rw [hd] at hx
    exact (sObjs_N n0 c0 z1 z2 n3 c3 iA1 xs w g0 hw0 hx).mono fun e w' ⟨c, S, q1, q2, q3, q4⟩ => ⟨c, q1, q2.u (fun g hg => ⟨Nat.zero_le _, (q3.2 g hg).2⟩), q4⟩
  · rw [hd] at hx
    exact (iObjs_N (lo := 0) (hi := 0) n0 c0 z1 z2 n3 c3 iA1 xs S w g0 hw0 hx hS.1).mono fun e w' ⟨c, S, q1, q2, q3, q4⟩ => ⟨c, S, q1, q2, q3, q4⟩
end Go.Proofs.Ytamlgjmboljcdaa

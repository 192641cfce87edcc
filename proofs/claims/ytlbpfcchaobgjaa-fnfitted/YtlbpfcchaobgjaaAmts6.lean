import Derived.Test.YtlbpfcchaobgjaaAmts5
import Derived.Test.YtlbpfcchaobgjaaAmtsT
namespace Go.Proofs.Ytlbpfcchaobgjaa
open Go.RowKit Go.BigFrame
set_option linter.unusedVariables false
/-- what Times asks -/
def tmB (a b c n : Int) : Bool := amB a b c && decide (0 ≤ n ∧ n ≤ 1000000 ∧ a * n ≤ 1000000000000000 ∧ b * n ≤ 1000000000000000 ∧ c * n ≤ 1000000000000000)
def tmV (a b c n : Int) : Value := if tmB a b c n then .tuple #[.agg #[.int .i64 (a * n), .int .i64 (b * n), .int .i64 (c * n)], .bool true] else .tuple #[.agg #[.int .i64 0, .int .i64 0, .int .i64 0], .bool false]
theorem tmV_no {a b c n : Int} (h : tmB a b c n = false) : tmV a b c n = .tuple #[.agg #[.int .i64 0, .int .i64 0, .int .i64 0], .bool false] := by unfold tmV; rw [h]; rfl
theorem tmV_yes {a b c n : Int} (h : tmB a b c n = true) : tmV a b c n = .tuple #[.agg #[.int .i64 (a * n), .int .i64 (b * n), .int .i64 (c * n)], .bool true] := by unfold tmV; rw [h]; rfl
theorem fitS_le {x r m n : Int} (hx : 0 ≤ x) : n ≤ fitS x r m ↔ (n ≤ m ∧ (0 < x → x * n ≤ r)) := by
  unfold fitS
  by_cases h : 0 < x
  · have e : n ≤ r / x ↔ x * n ≤ r := by rw [Int.le_ediv_iff_mul_le h, Int.mul_comm]
    by_cases g : r / x < m
    · rw [if_pos ⟨h, g⟩, e]
      constructor
      · intro q; exact ⟨by have := e.2 q; omega, fun _ => q⟩
      · intro q; exact q.2 h
    · rw [if_neg (fun q => g q.2)]
      constructor
      · intro q; exact ⟨q, fun _ => e.1 (by omega)⟩
      · intro q; exact q.1
  · rw [if_neg (fun q => h q.1)]
    constructor
    · intro q; exact ⟨q, fun g => absurd g h⟩
    · intro q; exact q.1
theorem mul_or {x n : Int} (hx : 0 ≤ x) : (0 < x → x * n ≤ 1000000000000000) ↔ x * n ≤ 1000000000000000 := by
  constructor
  · intro h
    by_cases g : 0 < x
    · exact h g
    · have : x = 0 := by omega
      subst this
      simp
  · intro h _; exact h
/-- impl asks Fits -/
theorem tm_fits {a b c n : Int} (h0 : amB a b c = true) : (0 ≤ n ∧ n ≤ fitsI a b c 1000000000000000 1000000000000000 1000000000000000) ↔ tmB a b c n = true := by
  obtain ⟨ba, bb, bc⟩ := amB_bd h0
  unfold fitsI tmB
  have hm : amB 1000000000000000 1000000000000000 1000000000000000 = true := by decide
  rw [h0, hm]
  simp only [Bool.and_self, if_true, Bool.true_and, decide_eq_true_eq]
  rw [fitS_le bc.1, fitS_le bb.1, fitS_le ba.1, mul_or ba.1, mul_or bb.1, mul_or bc.1]
  constructor
  · rintro ⟨p, ⟨⟨q, r⟩, s⟩, t⟩; exact ⟨p, q, r, s, t⟩
  · rintro ⟨p, q, r, s, t⟩; exact ⟨p, ⟨⟨q, r⟩, s⟩, t⟩
end Go.Proofs.Ytlbpfcchaobgjaa

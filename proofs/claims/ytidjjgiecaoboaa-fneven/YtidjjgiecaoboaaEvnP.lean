/- Shares among the same weights: plain numbers. -/
import Derived.Test.YtidjjgiecaoboaaShrT
import Derived.Test.YtidjjgiecaoboaaShrF
import Derived.Test.YtidjjgiecaoboaaShrV
namespace Go.Proofs.Ytidjjgiecaoboaa
open Go.RowKit
set_option linter.unusedVariables false
theorem gI_rep {k : Nat} {x : Int} {i : Nat} (h : i < k) : gI (List.replicate k x) i = x := by
  rw [gI_get (by rw [List.length_replicate]; exact h), List.getElem_replicate]
theorem sumTo_const (x : Int) : ∀ k, sumTo (fun _ => x) k = x * (k : Int)
  | 0 => by simp [sumTo]
  | k + 1 => by
    unfold sumTo
    rw [sumTo_const x k]
    push_cast
    rw [Int.mul_add, Int.mul_one]
theorem right_rep {k : Nat} {m : Int} (h9 : k ≤ 9) (hm : 0 ≤ m ∧ m ≤ 999) : rightP m (List.replicate k 3) (List.replicate k 1000) := by
  unfold rightP
  rw [List.length_replicate, List.length_replicate]
  refine ⟨⟨by omega, by omega, rfl⟩, fun i hi => ?_⟩
  rw [gI_rep hi, gI_rep hi]
  omega
/-- of so many with the same weight none gets more than one more than another -/
theorem even_div {k : Nat} {m : Int} (h1 : 1 ≤ k) (h9 : k ≤ 9) (hm : 0 ≤ m ∧ m ≤ 999) :
    (∀ i, i < k → m / (k : Int) ≤ divF k (gI (List.replicate k 3)) (gI (List.replicate k 1000)) m.toNat m (fun _ => 0) i ∧ divF k (gI (List.replicate k 3)) (gI (List.replicate k 1000)) m.toNat m (fun _ => 0) i ≤ m / (k : Int) + 1) := by
  have hk : 0 < (k : Int) := by omega
  have hq0 : 0 ≤ m / (k : Int) := Int.ediv_nonneg hm.1 (by omega)
  have hq1 : m / (k : Int) ≤ m := Int.ediv_le_self _ hm.1
  by_cases hz : 0 < m
  rotate_left
  · have e : m = 0 := by omega
    subst e
    intro i hi
    rw [divF_end (fun h => hz h.1)]
    show (0 : Int) / k ≤ 0 ∧ (0 : Int) ≤ 0 / k + 1
    rw [Int.zero_ediv]; omega
  have hop : ∀ i, i < k → openF k (gI (List.replicate k 3)) (gI (List.replicate k 1000)) (fun _ => 0) i = true := fun i hi => by
    unfold openF
    rw [decide_eq_true_eq, gI_rep hi, gI_rep hi]
    exact ⟨hi, by omega, show (0 : Int) < 1000 by omega⟩
  have hs : openS k (gI (List.replicate k 3)) (gI (List.replicate k 1000)) (fun _ => 0) = 3 * (k : Int) := by
    unfold openS
    rw [← sumTo_const]
    refine sumTo_congr k (fun i hi => ?_)
    unfold onO
    rw [if_pos (hop i hi), gI_rep hi]
  have hw : ∀ i, 0 ≤ gI (List.replicate k 3) i := gI_nn (fun i hi => by rw [List.length_replicate] at hi; rw [gI_rep hi]; omega)
  have hs0 : 0 < openS k (gI (List.replicate k 3)) (gI (List.replicate k 1000)) (fun _ => 0) := by rw [hs]; omega
  have hwt : ∀ i, i < k → m / (k : Int) ≤ wantsF k m (openS k (gI (List.replicate k 3)) (gI (List.replicate k 1000)) (fun _ => 0)) (gI (List.replicate k 3)) (openF k (gI (List.replicate k 3)) (gI (List.replicate k 1000)) (fun _ => 0)) i ∧ wantsF k m (openS k (gI (List.replicate k 3)) (gI (List.replicate k 1000)) (fun _ => 0)) (gI (List.replicate k 3)) (openF k (gI (List.replicate k 3)) (gI (List.replicate k 1000)) (fun _ => 0)) i ≤ m / (k : Int) + 1 := fun i hi => by
    have hq : onO (openF k (gI (List.replicate k 3)) (gI (List.replicate k 1000)) (fun _ => 0)) (quo m (openS k (gI (List.replicate k 3)) (gI (List.replicate k 1000)) (fun _ => 0)) (gI (List.replicate k 3))) i = m / (k : Int) := by
      unfold onO
      rw [if_pos (hop i hi)]
      unfold quo
      rw [hs, gI_rep hi, Int.mul_comm m 3]
      exact Int.mul_ediv_mul_of_pos _ _ (by omega)
    unfold wantsF
    rw [hq]
    split <;> omega
  have hg : ∀ i, i < k → getsF k m (gI (List.replicate k 3)) (gI (List.replicate k 1000)) (fun _ => 0) i = wantsF k m (openS k (gI (List.replicate k 3)) (gI (List.replicate k 1000)) (fun _ => 0)) (gI (List.replicate k 3)) (openF k (gI (List.replicate k 3)) (gI (List.replicate k 1000)) (fun _ => 0)) i := fun i hi => by
    have := hwt i hi
    unfold getsF
    rw [gI_rep hi]
    show (if (1000 : Int) - 0 < _ then (1000 : Int) - 0 else _) = _
    split <;> omega
  have hsum : m - sumTo (getsF k m (gI (List.replicate k 3)) (gI (List.replicate k 1000)) (fun _ => 0)) k = 0 := by
    rw [sumTo_congr k hg, wants_sum hs0 rfl]; omega
  intro i hi
  obtain ⟨f, hf⟩ : ∃ f, m.toNat = f + 1 := ⟨m.toNat - 1, by omega⟩
  rw [hf, divF_go ⟨hz, hs0⟩, hsum, divF_end (fun h => by omega)]
  have := hwt i hi
  show m / (k : Int) ≤ 0 + getsF k m (gI (List.replicate k 3)) (gI (List.replicate k 1000)) (fun _ => 0) i ∧ 0 + getsF k m (gI (List.replicate k 3)) (gI (List.replicate k 1000)) (fun _ => 0) i ≤ _
  rw [hg i hi]
  omega
/-- and that is fair -/
theorem even_fair {k : Nat} {m : Int} (h1 : 1 ≤ k) (h9 : k ≤ 9) (hm : 0 ≤ m ∧ m ≤ 999) : fairP m (List.replicate k 3) (List.replicate k 1000) (divL m (List.replicate k 3) (List.replicate k 1000)) := by
  have hr := right_rep h9 hm
  have hd := even_div h1 h9 hm
  have ht := divide_total hr
  have hq0 : 0 ≤ m / (k : Int) := Int.ediv_nonneg hm.1 (by omega)
  have hq1 : m / (k : Int) ≤ m := Int.ediv_le_self _ hm.1
  rw [List.length_replicate] at ht
  have hlen : (divL m (List.replicate k 3) (List.replicate k 1000)).length = k := by unfold divL; rw [ofFn_len, List.length_replicate]
  have hgi : ∀ i, i < k → gI (divL m (List.replicate k 3) (List.replicate k 1000)) i = divF k (gI (List.replicate k 3)) (gI (List.replicate k 1000)) m.toNat m (fun _ => 0) i := fun i hi => by
    rw [gI_get (by rw [hlen]; exact hi)]
    unfold divL
    rw [ofFn_get, List.length_replicate]
  refine ⟨hr, by rw [hlen, List.length_replicate], fun i hi => ?_, ?_⟩
  · rw [List.length_replicate] at hi
    have hi' := hd i hi
    refine ⟨⟨?_, ?_⟩, fun j hj => ?_⟩
    · rw [hgi i hi, gI_rep hi]; omega
    · rw [gI_rep hi]; omega
    · rw [List.length_replicate] at hj
      have hj' := hd j hj
      rintro ⟨-, -, -, -, -, h⟩
      rw [hgi i hi, hgi j hj, gI_rep hi, gI_rep hj] at h
      omega
  · rw [List.length_replicate, sumTo_congr k hgi]; exact ht
end Go.Proofs.Ytidjjgiecaoboaa

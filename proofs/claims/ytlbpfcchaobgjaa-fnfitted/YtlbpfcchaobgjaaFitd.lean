import Derived.Test.YtlbpfcchaobgjaaAmts8
import Derived.Test.YtlbpfcchaobgjaaDraw5
namespace Go.Proofs.Ytlbpfcchaobgjaa
open Go.RowKit Go.BigFrame
set_option linter.unusedVariables false
theorem big_any (n cap : Nat) (a : Option Addr) (w : World) : Calls Try.prog 9 #[.slice a n cap] w fun e w' => e = .returned (.bool (decide (1048576 < n))) ∧ w' = w := by
  by_cases h : 1048576 < n
  · rw [decide_eq_true h]
    have h1 : (1048576 : Int) < (n : Int) := by omega
    go_enter Try.func9, Try.ntmps9
    go_wp2
    go_ret
    exact ⟨rfl, rfl⟩
  · rw [decide_eq_false h]
    have h1 : ¬ (1048576 : Int) < (n : Int) := by omega
    go_enter Try.func9, Try.ntmps9
    go_wp2
    go_ret
    exact ⟨rfl, rfl⟩
/-! as many as fit, plain -/
theorem fits_all {a b c x y z : Int} (h0 : amB a b c = true) (h1 : amB x y z = true) (n : Int) : n ≤ fitsI a b c x y z ↔ (n ≤ 1000000 ∧ (0 < a → a * n ≤ x) ∧ (0 < b → b * n ≤ y) ∧ (0 < c → c * n ≤ z)) := by
  obtain ⟨ba, bb, bc⟩ := amB_bd h0
  unfold fitsI
  rw [h0, h1]
  simp only [Bool.and_self, if_true]
  rw [fitS_le bc.1, fitS_le bb.1, fitS_le ba.1]
  constructor
  · rintro ⟨⟨⟨p, q⟩, r⟩, s⟩; exact ⟨p, q, r, s⟩
  · rintro ⟨p, q, r, s⟩; exact ⟨⟨⟨p, q⟩, r⟩, s⟩
theorem mul_le_of {a n x : Int} (ha : 0 ≤ a) (hx : 0 ≤ x) (h : 0 < a → a * n ≤ x) : a * n ≤ x := by
  by_cases g : 0 < a
  · exact h g
  · have : a = 0 := by omega
    subst this
    simpa using hx
structure Fitted (a b c x y z f : Int) : Prop where
  f0 : 0 ≤ f
  f1 : f ≤ 1000000
  h0 : a * f ≤ x
  h1 : b * f ≤ y
  h2 : c * f ≤ z
  no : f < 1000000 → x < a * (f + 1) ∨ y < b * (f + 1) ∨ z < c * (f + 1)
theorem fitted {a b c x y z : Int} (h0 : amB a b c = true) (h1 : amB x y z = true) : Fitted a b c x y z (fitsI a b c x y z) := by
  obtain ⟨ba, bb, bc⟩ := amB_bd h0
  obtain ⟨bx, by', bz⟩ := amB_bd h1
  have hz := (fits_all h0 h1 0).2 ⟨by decide, fun _ => by simpa using bx.1, fun _ => by simpa using by'.1, fun _ => by simpa using bz.1⟩
  have hf := (fits_all h0 h1 (fitsI a b c x y z)).1 (Int.le_refl _)
  have hn := mt (fits_all h0 h1 (fitsI a b c x y z + 1)).2 (by omega)
  generalize fitsI a b c x y z = f at *
  refine ⟨hz, hf.1, mul_le_of ba.1 bx.1 hf.2.1, mul_le_of bb.1 by'.1 hf.2.2.1, mul_le_of bc.1 bz.1 hf.2.2.2, fun hlt => ?_⟩
  apply Classical.byContradiction
  intro g
  apply hn
  exact ⟨by omega, fun _ => by apply Classical.byContradiction; intro q; exact g (.inl (by omega)), fun _ => by apply Classical.byContradiction; intro q; exact g (.inr (.inl (by omega))), fun _ => by apply Classical.byContradiction; intro q; exact g (.inr (.inr (by omega)))⟩
theorem fitted_tm {a b c x y z f : Int} (h0 : amB a b c = true) (h1 : amB x y z = true) (h : Fitted a b c x y z f) : tmB a b c f = true := by
  obtain ⟨bx, by', bz⟩ := amB_bd h1
  unfold tmB
  rw [h0, Bool.true_and, decide_eq_true_eq]
  exact ⟨h.f0, h.f1, by have := h.h0; omega, by have := h.h1; omega, by have := h.h2; omega⟩
theorem addV_comm (a b c x y z : Int) : addV a b c x y z = addV x y z a b c := by
  have e : amZ a b c x y z = amZ x y z a b c := by
    unfold amZ
    rw [Int.add_comm a x, Int.add_comm b y, Int.add_comm c z, ← Bool.and_assoc, ← Bool.and_assoc, Bool.and_comm (amB a b c)]
  unfold addV
  rw [e, Int.add_comm a x, Int.add_comm b y, Int.add_comm c z]
theorem addV_good (a b c x y z : Int) : ∃ p q r o, addV a b c x y z = .tuple #[.agg #[.int .i64 p, .int .i64 q, .int .i64 r], .bool o] ∧ (o = true → amB p q r = true) := by
  cases hz : amZ a b c x y z
  · exact ⟨0, 0, 0, false, addV_no hz, fun h => by cases h⟩
  · refine ⟨_, _, _, true, addV_yes hz, fun _ => ?_⟩
    unfold amZ at hz
    simp only [Bool.and_eq_true] at hz
    exact hz.2.2
theorem tmV_more (a b c n : Int) : ∃ p q r o, tmV a b c n = .tuple #[.agg #[.int .i64 p, .int .i64 q, .int .i64 r], .bool o] ∧ (o = true → p = a * n ∧ q = b * n ∧ r = c * n) := by
  cases hz : tmB a b c n
  · exact ⟨0, 0, 0, false, tmV_no hz, fun h => by cases h⟩
  · exact ⟨_, _, _, true, tmV_yes hz, fun _ => ⟨rfl, rfl, rfl⟩⟩
end Go.Proofs.Ytlbpfcchaobgjaa

/- Shares: what is right, sums, what is fair: plain numbers. -/
import Derived.Test.YtdnodaoeflbfkaaIntL
namespace Go.Proofs.Ytdnodaoeflbfkaa
open Go.RowKit
set_option linter.unusedVariables false

def gI (l : List Int) (i : Nat) : Int := l.getD i 0
theorem gI_get {l : List Int} {i : Nat} (h : i < l.length) : gI l i = l[i] := by unfold gI; rw [List.getD_eq_getElem?_getD, List.getElem?_eq_getElem h]; rfl
/-- the arguments are as told -/
def rightP (n : Int) (ws cs : List Int) : Prop := ((0 ≤ n ∧ n ≤ 10000) ∧ ws.length ≤ 64 ∧ ws.length = cs.length) ∧ ∀ i, i < ws.length → (0 ≤ gI ws i ∧ gI ws i ≤ 1000) ∧ 0 ≤ gI cs i ∧ gI cs i ≤ 10000
def sumTo (f : Nat → Int) : Nat → Int
  | 0 => 0
  | k + 1 => sumTo f k + f k
theorem sumTo_bd {f : Nat → Int} {m : Int} {n : Nat} (h : ∀ i, i < n → 0 ≤ f i ∧ f i ≤ m) : ∀ k, k ≤ n → 0 ≤ sumTo f k ∧ sumTo f k ≤ m * k
  | 0, _ => ⟨Int.le_refl _, by simp [sumTo]⟩
  | k + 1, hk => by
    have h1 := sumTo_bd h k (by omega)
    have h2 := h k (by omega)
    unfold sumTo
    have : m * ((k + 1 : Nat) : Int) = m * (k : Int) + m := by push_cast; rw [Int.mul_add, Int.mul_one]
    rw [this]; omega
/-- what those of a weight can hold -/
def capW (ws cs : List Int) (i : Nat) : Int := if 0 < gI ws i then gI cs i else 0
def totI (n : Int) (ws cs : List Int) : Int := if n < sumTo (capW ws cs) ws.length then n else sumTo (capW ws cs) ws.length
end Go.Proofs.Ytdnodaoeflbfkaa

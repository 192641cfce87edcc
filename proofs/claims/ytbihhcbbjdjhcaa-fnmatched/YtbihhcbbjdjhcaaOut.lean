/- A frame by blocks: outside a range of blocks all is as it was. -/
import Derived.Test.YtbihhcbbjdjhcaaTerms
import Derived.Test.YtbihhcbbjdjhcaaOwnB
namespace Go.Proofs.Ytbihhcbbjdjhcaa
open Go.RowKit
set_option linter.unusedVariables false

/-- terms that a call made: the row, and each one's strings, in blocks of their own from lo on, apart from one another -/
def termOwn (w : World) (lo : Nat) (xs : List Value) (V : Nat → Value) (g j : Nat) (t : TD) : Prop :=
  xs[j * 3]? = some (.int .i64 t.1) ∧ xs[j * 3 + 1]? = some (.string t.2.1) ∧ xs[j * 3 + 2]? = some (V j) ∧ w.ownsRow lo 9 1 (V j) t.2.2.length (strVs t.2.2) ∧ (V j).ownBlock ≠ some g
def apart (V : Nat → Value) (n : Nat) : Prop := ∀ i j, i < n → j < n → i ≠ j → ∀ b, (V i).ownBlock = some b → (V j).ownBlock ≠ some b
def ownTs (w : World) (lo g cap : Nat) (ts : List TD) : Prop := ∃ xs V, w.ownsRow lo 33 3 (.slice (some ⟨g, 0, none⟩) ts.length cap) ts.length xs ∧ (∀ j (hj : j < ts.length), termOwn w lo xs V g j ts[j]) ∧ apart V ts.length
theorem ownTs.row {w : World} {lo g cap : Nat} {ts : List TD} (h : ownTs w lo g cap ts) : termsOf w (some ⟨g, 0, none⟩) ts := by
  obtain ⟨xs, V, h1, h2, _⟩ := h
  intro _
  refine ⟨g, 0, rfl, fun i hi => ?_⟩
  obtain ⟨a0, a1, a2, a3, _⟩ := h2 i hi
  obtain ⟨a, c, e, s1, s2, s3⟩ := strOf_own a3 rfl
  rw [Nat.zero_add]
  exact ⟨(h1.cellAt _ (by omega)).trans a0, (h1.cellAt _ (by omega)).trans a1, a, c, ((h1.cellAt _ (by omega)).trans a2).trans (by rw [e]), s1, s2, s3⟩
theorem ownTs.below {w w' : World} {lo g cap : Nat} {ts : List TD} (h : ownTs w lo g cap ts) (hb : Below w.heap.size w w') : ownTs w' lo g cap ts := by
  obtain ⟨xs, V, h1, h2, h3⟩ := h
  refine ⟨xs, V, owns_below_any h1 hb, fun j hj => ?_, h3⟩
  obtain ⟨a0, a1, a2, a3, a4⟩ := h2 j hj
  exact ⟨a0, a1, a2, owns_out a3 (Out.of_below (lo := 0) (hi := 0) hb) (fun _ _ => .inr (Nat.zero_le _)), a4⟩
theorem ownTs.blk {w : World} {lo g cap : Nat} {ts : List TD} (h : ownTs w lo g cap ts) : lo ≤ g ∧ g < w.heap.size := by
  obtain ⟨xs, V, h1, _⟩ := h
  exact owns_blk h1 rfl
end Go.Proofs.Ytbihhcbbjdjhcaa

import Derived.Test.YtbihhcbbjdjhcaaChecked
import Derived.Test.YtbihhcbbjdjhcaaNames
import Derived.Test.YtbihhcbbjdjhcaaBas
import Derived.Outline
namespace Go.Proofs.Ytbihhcbbjdjhcaa
open Go.RowKit

/-- rows of labels: slot 2i holds the key, slot 2i+1 the value -/
def labsAt (w : World) (b off : Nat) (ls : List (ByteArray × ByteArray)) : Prop :=
  ∀ i (h : i < ls.length), w.cell? ⟨b, off + i * 2, none⟩ = some (.string (ls[i]'h).1) ∧ w.cell? ⟨b, off + i * 2 + 1, none⟩ = some (.string (ls[i]'h).2)

def szOne (k v : Nat) (left : Int) : Int := if left - k < 0 then -1 else if left - k - v < 0 then -1 else left - k - v

def szAll : List (ByteArray × ByteArray) → Int → Int
  | [], l => l
  | p :: r, l => if szOne p.1.size p.2.size l < 0 then -1 else szAll r (szOne p.1.size p.2.size l)
def szS (ls : List (ByteArray × ByteArray)) (left : Int) : Int := if left - ls.length < 0 then -1 else szAll ls (left - ls.length)
def okSizes (ls : List (ByteArray × ByteArray)) : Prop := ∀ p ∈ ls, p.1.size ≤ maxLen ∧ p.2.size ≤ maxLen
theorem szOne_le (k v : Nat) (l : Int) : szOne k v l ≤ l ∨ szOne k v l = -1 := by unfold szOne; split; exact .inr rfl; split; exact .inr rfl; left; omega
theorem szAll_drop (ls : List (ByteArray × ByteArray)) (k : Nat) (h : k < ls.length) (l : Int) : szAll (ls.drop k) l = if szOne (ls[k]'h).1.size (ls[k]'h).2.size l < 0 then -1 else szAll (ls.drop (k + 1)) (szOne (ls[k]'h).1.size (ls[k]'h).2.size l) := by
  rw [List.drop_eq_getElem_cons h]; rfl

theorem Try.info44 : (Try.prog.info? 43).map (fun i => (i.zero, i.size, i.bytes)) = some (some (.agg #[.string ByteArray.empty, .string ByteArray.empty]), 2, 32) := by kernel_rfl
def flat (ls : List (ByteArray × ByteArray)) : List Value := ls.flatMap fun p => [.string p.1, .string p.2]
theorem flat_length (ls : List (ByteArray × ByteArray)) : (flat ls).length = ls.length * 2 := by
  induction ls with
  | nil => rfl
  | cons p r ih => simp only [flat, List.flatMap_cons, List.length_append, List.length_cons, List.length_nil] at *; omega
theorem flat_get (ls : List (ByteArray × ByteArray)) : ∀ (i : Nat) (h : i < ls.length), (flat ls)[i * 2]? = some (.string (ls[i]'h).1) ∧ (flat ls)[i * 2 + 1]? = some (.string (ls[i]'h).2) := by
  induction ls with
  | nil => intro i h; simp at h
  | cons p r ih =>
    intro i h
    have e : flat (p :: r) = .string p.1 :: .string p.2 :: flat r := rfl
    cases i with
    | zero => simp [e]
    | succ i =>
      have := ih i (by simpa using h)
      rw [e, show (i + 1) * 2 = i * 2 + 1 + 1 from by omega]
      simpa using this

theorem owns_below {w w' : World} {base g n cap : Nat} {e : TypeId} {size : Nat} {xs : List Value} (h : w.ownsRow base e size (.slice (some ⟨g, 0, none⟩) n cap) n xs) (hb : Below w.heap.size w w') :
    w'.ownsRow base e size (.slice (some ⟨g, 0, none⟩) n cap) n xs := by
  obtain ⟨h1, h2⟩ := h
  rcases h2 with ⟨h, _⟩ | ⟨g', cap', cur, h, hg, hh, r⟩
  · cases h
  · cases h
    refine ⟨h1, .inr ⟨g, cap, cur, rfl, hg, ?_, r⟩⟩
    rw [hb.block g (Array.getElem?_eq_some_iff.1 hh).1]
    exact hh

end Go.Proofs.Ytbihhcbbjdjhcaa

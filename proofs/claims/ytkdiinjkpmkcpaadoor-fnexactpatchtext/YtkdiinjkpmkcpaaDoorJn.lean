/- strings.Join by the library's contract. -/
import Derived.Test.YtkdiinjkpmkcpaaDoorJn0
import Derived.Test.YtkdiinjkpmkcpaaDoorShelf
namespace Go.Proofs.YtkdiinjkpmkcpaaDoor
open Go.RowKit
set_option linter.unusedVariables false

/-- strings.Join, of wherever a slice of strings leads -/
theorem join_of (a : Option Addr) (cap : Nat) (ss : List ByteArray) (c : UInt8) (w : World) (hl : ss.length ≤ 1048576) (hcap : ss.length ≤ cap) (hs : (jn c ss).size ≤ 140737488355328) (hrow : strOf w a ss) :
    Calls Tryd.prog 28 #[.slice a ss.length cap, .string ⟨#[c]⟩] w fun e w' => e = .returned (.string (jn c ss)) ∧ Below w.heap.size w w' := by
  by_cases h0 : ss.length = 0
  · have e : ss = [] := List.eq_nil_of_length_eq_zero h0
    subst e
    exact (Tryd.strings_Join_none a cap ⟨#[c]⟩ w).mono fun e w' ⟨h1, h2⟩ => ⟨h1, by rw [h2]; exact Below.refl _ _⟩
  · obtain ⟨b, off, rfl, hat⟩ := hrow (by omega)
    exact Tryd.strings_Join b off cap ss ⟨#[c]⟩ w (fun j x hx => by
        have hj := (List.getElem?_eq_some_iff.1 hx).1
        rw [hat j hj, ← (List.getElem?_eq_some_iff.1 hx).2]) (World.block_lt_of_cell? _ _ (hat 0 (by omega))) (by omega) hcap hs
end Go.Proofs.YtkdiinjkpmkcpaaDoor

import Derived.Test.YtidjjgiecaoboaaDraw1
namespace Go.Proofs.Ytidjjgiecaoboaa
open Go.RowKit Go.BigFrame
set_option linter.unusedVariables false
/-- the names that are drawn -/
def drawnNames : List ByteArray := [⟨#[97]⟩, ⟨#[98]⟩, ⟨#[99]⟩, ⟨#[122, 111, 110, 101]⟩, ⟨#[116, 105, 101, 114]⟩, ⟨#[103, 111, 108, 100]⟩, ⟨#[101, 97, 115, 116]⟩, ⟨#[120, 45, 49]⟩, ⟨#[97, 98, 99, 100, 101, 102, 103, 104, 105, 106, 107, 108, 109, 110, 111, 112, 113, 114, 115, 116]⟩]
def drawnOdd : List ByteArray := [⟨#[]⟩, ⟨#[45, 97]⟩, ⟨#[97, 45]⟩, ⟨#[65]⟩, ⟨#[97, 32, 98]⟩, ⟨#[97, 98, 99, 100, 101, 102, 103, 104, 105, 106, 107, 108, 109, 110, 111, 112, 113, 114, 115, 116, 117]⟩, ⟨#[255]⟩, ⟨#[97, 61, 98]⟩]
theorem strAt_lit (w : World) (t : TypeId) (ss : List ByteArray) : strAt (w.alloc (.cells (ss.map Value.string).toArray t)) w.heap.size 0 ss := by
  intro i hi
  refine (World.cell?_alloc_at _ _ _ _ rfl).trans ?_
  simp [hi]
theorem CurIn.lt {w : World} {d : Nat} {a : Option Addr} {n cap : Nat} (c : CurIn w d a n cap) : d < w.heap.size := by
  obtain ⟨i, h, c⟩ := c
  exact c.lt
end Go.Proofs.Ytidjjgiecaoboaa

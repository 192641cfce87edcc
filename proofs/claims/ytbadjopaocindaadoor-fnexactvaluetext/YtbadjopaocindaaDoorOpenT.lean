/- Slices of terms that came in: what a reading of them says. -/
import Derived.Test.YtbadjopaocindaaDoorTerms2
import Derived.Deep.Slices
import Derived.ProofKit
namespace Go.Proofs.YtbadjopaocindaaDoor
open Go.RowKit
open Go.ChangeShapes Go.WideShapes Go.ChangeAt
set_option linter.unusedVariables false

theorem len3 {l : List Value} (h : l.length = 3) : ∃ a b c, l = [a, b, c] := by
  match l, h with
  | [a, b, c], _ => exact ⟨a, b, c, rfl⟩
theorem open_strs {H : Type} {enc : TypeId × Value → H} {w : World} {base : Nat} {spare : Nat → Bool} {held : Bool} {cs : List Value} {fuel : Nat} {x : DataW H × List MemPlace}
    (h : DataW.trod enc Tryd.prog w base spare held fuel 37 cs = some x) :
    ∃ (ss : List ByteArray) (a : Option Addr) (cap : Nat), cs = [.slice a ss.length cap] ∧ ss.length ≤ maxLen ∧ okStrs ss ∧ strOf w a ss ∧ ss.length ≤ cap ∧ (a = none → cap = 0) := by
  rcases Go.Deep.open_slice1 Tryd.underlying37 (by kernel_rfl) h with ⟨hcs, _⟩ | ⟨a', len', cap', m, n, V, D, Pl, hcs, _, hl, hm, hmm, _, hx⟩
  · exact ⟨[], none, 0, hcs, Nat.zero_le _, fun s hs => by simp at hs, fun h => by simp at h, Nat.zero_le _, fun _ => rfl⟩
  · have each : ∀ i, i < len' → ∃ q : ByteArray, V i = .string q ∧ q.size ≤ maxLen := fun i hi => by
      have hi' : i < m := by rw [hmm]; split <;> omega
      obtain ⟨s, h1, _, h3⟩ := DataW.trod_string Tryd.underlying9 (hx i hi').2
      exact ⟨s, by simpa using h1, h3⟩
    obtain ⟨q, hq⟩ := Go.Deep.choose_lt each
    refine ⟨(List.range len').map q, some a', cap', by simpa using hcs, by simp; omega, ?_, ?_, by simp; omega, fun h => by cases h⟩
    · intro p hp
      obtain ⟨i, hi, rfl⟩ := List.mem_map.1 hp
      exact (hq i (List.mem_range.1 hi)).2
    · intro h0
      simp only [List.length_map, List.length_range] at h0
      obtain ⟨b, off, spot⟩ := a'
      have hc := (hx 0 (by rw [hmm]; split <;> omega)).1
      have hspot : spot = none := by simpa [Addr.add] using World.cell?_spot hc
      subst hspot
      refine ⟨b, off, rfl, fun i hi => ?_⟩
      simp only [List.length_map, List.length_range] at hi
      have hi' : i < m := by rw [hmm]; split <;> omega
      have e0 := (hx i hi').1
      rw [(hq i hi).1] at e0
      simp only [List.getElem_map, List.getElem_range]
      rw [Go.WideShapes.add_plain] at e0
      exact e0

end Go.Proofs.YtbadjopaocindaaDoor

/- Rows of strings: where a slice of strings leads; the three helpers of the laws over them. -/
import Derived.Test.YtbihhcbbjdjhcaaBas
namespace Go.Proofs.Ytbihhcbbjdjhcaa
open Go.RowKit
set_option linter.unusedVariables false

/-- rows of strings: one cell each -/
def strAt (w : World) (b off : Nat) (ss : List ByteArray) : Prop := ∀ i (h : i < ss.length), w.cell? ⟨b, off + i, none⟩ = some (.string (ss[i]'h))
def strOf (w : World) (a : Option Addr) (ss : List ByteArray) : Prop := 0 < ss.length → ∃ b off, a = some ⟨b, off, none⟩ ∧ strAt w b off ss
theorem strAt.below {w w' : World} {b off : Nat} {ss : List ByteArray} (h : strAt w b off ss) (hb : Below w.heap.size w w') : strAt w' b off ss := fun i hi => by
  have h0 := h i hi
  exact (hb.cell (p := ⟨b, off + i, none⟩) (World.block_lt_of_cell? _ _ h0)).trans h0
theorem strOf.below {w w' : World} {a : Option Addr} {ss : List ByteArray} (h : strOf w a ss) (hb : Below w.heap.size w w') : strOf w' a ss := by
  intro hl
  obtain ⟨b, off, e, h⟩ := h hl
  exact ⟨b, off, e, h.below hb⟩
theorem strOf.below' {w w1 w' : World} {a : Option Addr} {ss : List ByteArray} (h : strOf w a ss) (hb : Below w.heap.size w1 w') (h1 : Below w.heap.size w w1) : strOf w' a ss := h.below (h1.trans hb)

def szStrs : List ByteArray → Int → Int
  | [], l => l
  | s :: r, l => if l - s.size < 0 then -1 else szStrs r (l - s.size)
def szSS (ss : List ByteArray) (left : Int) : Int := if left - ss.length < 0 then -1 else szStrs ss (left - ss.length)
theorem szStrs_drop (ss : List ByteArray) (k : Nat) (h : k < ss.length) (l : Int) : szStrs (ss.drop k) l = if l - (ss[k]'h).size < 0 then -1 else szStrs (ss.drop (k + 1)) (l - (ss[k]'h).size) := by
  rw [List.drop_eq_getElem_cons h]; rfl
def okStrs (ss : List ByteArray) : Prop := ∀ s ∈ ss, s.size ≤ maxLen


theorem Try.infoStr : (Try.prog.info? 9).map (fun i => (i.zero, i.size, i.bytes)) = some (some (.string ByteArray.empty), 1, 16) := by kernel_rfl
def strVs (ss : List ByteArray) : List Value := ss.map fun s => .string s
theorem strVs_length (ss : List ByteArray) : (strVs ss).length = ss.length := by simp [strVs]
theorem strVs_get {ss : List ByteArray} {k : Nat} (h : k < ss.length) : (strVs ss)[k]? = some (.string ss[k]) := by
  unfold strVs; rw [List.getElem?_map, List.getElem?_eq_getElem h]; rfl
theorem strOf_owns {w : World} {base g n cap : Nat} {e : TypeId} {ss : List ByteArray} (h : w.ownsRow base e 1 (.slice (some ⟨g, 0, none⟩) n cap) n (strVs ss)) : strOf w (some ⟨g, 0, none⟩) ss := by
  intro _
  refine ⟨g, 0, rfl, fun i hi => ?_⟩
  have hn : n * 1 = ss.length := by rw [← strVs_length, h.1]
  rw [← strVs_get hi, Nat.zero_add]
  exact h.cellAt _ (by omega)


end Go.Proofs.Ytbihhcbbjdjhcaa

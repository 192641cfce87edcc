import Derived.Test.YtbihhcbbjdjhcaaLabs4
import Derived.Deep.SlicePairs
import Derived.ProofKit
namespace Go.Proofs.Ytbihhcbbjdjhcaa
open Go.RowKit Go.BigFrame
open Go.ChangeShapes Go.WideShapes Go.ChangeAt

theorem labsAt.below {w w' : World} {b off : Nat} {ls : List (ByteArray × ByteArray)} (h : labsAt w b off ls) (hb : Below w.heap.size w w') : labsAt w' b off ls := by
  intro i hi
  have h0 := (h i hi).1
  have hbb : b < w.heap.size := World.block_lt_of_cell? _ _ h0
  exact ⟨(hb.cell (p := ⟨b, off + i * 2, none⟩) hbb).trans h0, (hb.cell (p := ⟨b, off + i * 2 + 1, none⟩) hbb).trans (h i hi).2⟩
theorem rowOf.below {w w' : World} {a : Option Addr} {ls : List (ByteArray × ByteArray)} (h : rowOf w a ls) (hb : Below w.heap.size w w') : rowOf w' a ls := by
  intro hl
  obtain ⟨b, off, e, h⟩ := h hl
  exact ⟨b, off, e, h.below hb⟩
theorem row_of_owns {w : World} {base g n cap : Nat} {e : TypeId} {ls : List (ByteArray × ByteArray)} (h : w.ownsRow base e 2 (.slice (some ⟨g, 0, none⟩) n cap) n (flat ls)) : rowOf w (some ⟨g, 0, none⟩) ls := by
  intro _
  refine ⟨g, 0, rfl, fun i hi => ?_⟩
  have hn : n * 2 = ls.length * 2 := by rw [← flat_length, h.1]
  have hf := flat_get ls i hi
  rw [← hf.1, ← hf.2, Nat.zero_add]
  exact ⟨h.cellAt _ (by omega), h.cellAt _ (by omega)⟩
theorem szOne_ok {k v : Nat} {l : Int} (h : ¬ szOne k v l < 0) : szOne k v l = l - k - v := by
  unfold szOne at *
  split at h
  · omega
  · split at h
    · omega
    · rw [if_neg (by assumption), if_neg (by assumption)]
def lenSum (ls : List (ByteArray × ByteArray)) : Nat := (ls.map fun p => p.1.size + p.2.size).sum
theorem szAll_ok : ∀ (ls : List (ByteArray × ByteArray)) (l : Int), 0 ≤ l → ¬ szAll ls l < 0 → (lenSum ls : Int) ≤ l
  | [], l, h0, _ => by simpa [lenSum] using h0
  | p :: r, l, h0, h => by
    unfold szAll at h
    split at h
    · omega
    · rename_i hn
      have e := szOne_ok hn
      have := szAll_ok r _ (by omega) h
      have e2 : lenSum (p :: r) = p.1.size + p.2.size + lenSum r := by simp [lenSum]
      rw [e2, Int.natCast_add, Int.natCast_add]
      omega
theorem szS_ok {ls : List (ByteArray × ByteArray)} {left : Int} (h : ¬ szS ls left < 0) : (ls.length : Int) + lenSum ls ≤ left := by
  unfold szS at h
  split at h
  · omega
  · have := szAll_ok ls _ (by omega) h
    omega
theorem szS_len' {ls : List (ByteArray × ByteArray)} {l : Int} (h : ¬ szS ls l < 0) (hl : l ≤ 1048576) : ls.length ≤ 1048576 := by have := szS_ok h; omega
theorem szS_len {ls : List (ByteArray × ByteArray)} (h : ¬ szS ls 1048576 < 0) : ls.length ≤ 1048576 := szS_len' h (by omega)
theorem szAll_le : ∀ (ls : List (ByteArray × ByteArray)) (l : Int), szAll ls l ≤ l ∨ szAll ls l = -1
  | [], l => .inl (Int.le_refl _)
  | p :: r, l => by
    unfold szAll
    split
    · exact .inr rfl
    · rcases szAll_le r (szOne p.1.size p.2.size l) with h | h
      · rcases szOne_le p.1.size p.2.size l with h' | h'
        · left; omega
        · left; omega
      · exact .inr h
theorem szS_le (ls : List (ByteArray × ByteArray)) (l : Int) : szS ls l ≤ l ∨ szS ls l = -1 := by
  unfold szS
  split
  · exact .inr rfl
  · rcases szAll_le ls (l - ls.length) with h | h
    · left; omega
    · exact .inr h
end Go.Proofs.Ytbihhcbbjdjhcaa

import Derived.Test.YtkdiinjkpmkcpaaLabs3
namespace Go.Proofs.Ytkdiinjkpmkcpaa
open Go.RowKit Go.BigFrame

/-- what a round knows of its worlds: the row that came in, and the copy of the element -/
def InLoop (w : World) (B b off k : Nat) (K V P : ByteArray) (wx : World) : Prop :=
  Below w.heap.size w wx ∧ wx.cell? ⟨B, 0, none⟩ = some (.string K) ∧ wx.cell? ⟨B, 1, none⟩ = some (.string V) ∧ (0 < k → wx.cell? ⟨b, off + (k - 1) * 2, none⟩ = some (.string P)) ∧ B < wx.heap.size ∧ b < w.heap.size
theorem InLoop.step {w : World} {B b off k : Nat} {K V P : ByteArray} {wx w' : World} (h : InLoop w B b off k K V P wx) (hb : Below wx.heap.size wx w') : InLoop w B b off k K V P w' := by
  obtain ⟨h1, h2, h3, h4, h5, h6⟩ := h
  refine ⟨h1.trans (hb.mono h1.size), (hb.cell (p := ⟨B, 0, none⟩) h5).trans h2, (hb.cell (p := ⟨B, 1, none⟩) h5).trans h3, fun hk => (hb.cell (p := ⟨b, off + (k - 1) * 2, none⟩) ?_).trans (h4 hk), Nat.lt_of_lt_of_le h5 hb.size, h6⟩
  exact Nat.lt_of_lt_of_le h6 h1.size
theorem labelsB_long {ls : List (ByteArray × ByteArray)} (h : 8 < ls.length) : labelsB ls = false := by
  unfold labelsB; rw [decide_eq_false_iff_not]; omega

end Go.Proofs.Ytkdiinjkpmkcpaa

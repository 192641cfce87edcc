import Derived.Test.YtbihhcbbjdjhcaaLabs7
namespace Go.Proofs.Ytbihhcbbjdjhcaa
open Go.RowKit Go.BigFrame
set_option linter.unusedVariables false
/-- all but one block is as it was, below a mark -/
structure ExB (B g : Nat) (w w' : World) : Prop where
  os : w'.os = w.os
  tape : w'.tape = w.tape
  output : w'.output = w.output
  size : w.heap.size ≤ w'.heap.size
  block : ∀ k, k < B → k ≠ g → w'.heap[k]? = w.heap[k]?
theorem ExB.refl (B g : Nat) (w : World) : ExB B g w w := ⟨rfl, rfl, rfl, Nat.le_refl _, fun _ _ _ => rfl⟩
theorem ExB.of_below {B g : Nat} {w w' : World} (h : Below B w w') : ExB B g w w' := ⟨h.os, h.tape, h.output, h.size, fun k hk _ => h.block k hk⟩
theorem ExB.trans {B g : Nat} {a b c : World} (h : ExB B g a b) (k : ExB B g b c) : ExB B g a c :=
  ⟨k.os.trans h.os, k.tape.trans h.tape, k.output.trans h.output, Nat.le_trans h.size k.size, fun i hi hg => (k.block i hi hg).trans (h.block i hi hg)⟩
theorem ExB.mono {B B' g : Nat} {w w' : World} (h : ExB B g w w') (hB : B' ≤ B) : ExB B' g w w' := ⟨h.os, h.tape, h.output, h.size, fun k hk => h.block k (Nat.lt_of_lt_of_le hk hB)⟩
theorem ExB.setCell {B g : Nat} {a w : World} (h : ExB B g a w) (o : Nat) (u : Value) : ExB B g a (w.setCell ⟨g, o, none⟩ u) :=
  h.trans (by
    have hb := (Below.refl (w.heap.size) w)
    refine ⟨?_, ?_, ?_, ?_, fun k hk hg => Below.heap_setCell _ _ _ _ hg⟩
    all_goals first | rfl | skip
    simp)
/-- what a block below the mark, another one, says is as it was -/
theorem ExB.below {B g : Nat} {w w' : World} (h : ExB B g w w') (hg : B ≤ g) : Below B w w' := ⟨h.os, h.tape, h.output, h.size, fun k hk => h.block k hk (by omega)⟩
theorem labsAt.ex {B g : Nat} {w w' : World} {b off : Nat} {ls : List (ByteArray × ByteArray)} (h : labsAt w b off ls) (hb : ExB B g w w') (h1 : b < B) (h2 : b ≠ g) : labsAt w' b off ls := by
  intro i hi
  have e := hb.block b h1 h2
  exact ⟨(World.cell?_of_block (w := w) (a := ⟨b, off + i * 2, none⟩) e).trans (h i hi).1, (World.cell?_of_block (w := w) (a := ⟨b, off + i * 2 + 1, none⟩) e).trans (h i hi).2⟩
end Go.Proofs.Ytbihhcbbjdjhcaa

/- Rows of numbers that a call builds by append. -/
import Derived.Test.YtdnodaoeflbfkaaIntL
import Derived.Test.YtdnodaoeflbfkaaU2
import Derived.Test.YtdnodaoeflbfkaaBas
import Derived.Maps.AppendAt
namespace Go.Proofs.Ytdnodaoeflbfkaa
open Go.RowKit Go.BigFrame
set_option linter.unusedVariables false
/-- a row of numbers of the call's own, from base on -/
def IR (w : World) (base : Nat) (v : Value) (l : List Int) : Prop := w.ownsRow base 3 1 v l.length (l.map (Value.int .i64)) ∧ ∃ g, v.ownBlock = some g ∧ base ≤ g ∧ g < w.heap.size
theorem IR.frame {w w' : World} {base : Nat} {v : Value} {l : List Int} (h : IR w base v l) (hs : w.heap.size ≤ w'.heap.size) (hf : ∀ g, v.ownBlock = some g → w'.heap[g]? = w.heap[g]?) : IR w' base v l := by
  obtain ⟨h1, g, h2, h3, h4⟩ := h
  refine ⟨uowns_frame h1 (fun x hx => ?_), g, h2, h3, by omega⟩
  unfold blkOf at hx
  rw [h2] at hx
  have : x = g := by simpa using hx
  subst this
  exact hf x h2
theorem IR.below {w w' : World} {base : Nat} {v : Value} {l : List Int} (h : IR w base v l) (hb : Below w.heap.size w w') : IR w' base v l :=
  h.frame hb.size (fun g hg => hb.block g (by obtain ⟨g', h2, h3, h4⟩ := h.2; rw [h2] at hg; cases hg; exact h4))
theorem IR.grown {w w' : World} {base : Nat} {v u : Value} {l : List Int} (h : IR w base v l) (hg : w.grownBy w' u.ownBlock) (hne : v.ownBlock ≠ u.ownBlock) : IR w' base v l :=
  h.frame hg.size (fun g hv => by
    obtain ⟨g', h2, h3, h4⟩ := h.2
    rw [h2] at hv; cases hv
    exact hg.block g h4 (by rw [← h2]; exact hne))
theorem IR.lit (w : World) (base : Nat) (hb : base ≤ w.heap.size) : IR (w.alloc (.cells #[] 3)) base (.slice (some ⟨w.heap.size, 0, none⟩) 0 0) [] :=
  ⟨World.ownsRow_lit w #[] 0 hb (by decide) rfl, w.heap.size, rfl, hb, by simp⟩
theorem IR.snoc {w w' : World} {base : Nat} {v v' : Value} {l : List Int} {x : Int} (h : IR w base v l) (hown : w'.ownsRow base 3 1 v' (l.length + 1) (l.map (Value.int .i64) ++ [.int .i64 x])) (hat : v'.ownBlock = v.ownBlock ∨ v'.ownBlock = some w.heap.size) : IR w' base v' (l ++ [x]) := by
  refine ⟨by rw [List.length_append, List.map_append]; exact hown, ?_⟩
  obtain ⟨g, h2, h3, h4⟩ := h.2
  rcases hat with e | e
  · rw [h2] at e; exact ⟨g, e, uowns_blk hown e⟩
  · exact ⟨_, e, uowns_blk hown e⟩
theorem IR.row {w : World} {base : Nat} {v : Value} {l : List Int} (h : IR w base v l) : ∀ k, v.ownBlock = some k → base ≤ k := fun k e => by
  obtain ⟨g, h2, h3, h4⟩ := h.2
  rw [h2] at e; cases e; exact h3
theorem IR.apart {w : World} {base : Nat} {u v v' : Value} {l : List Int} (hu : IR w base u l) (hne : v.ownBlock ≠ u.ownBlock) (hat : v'.ownBlock = v.ownBlock ∨ v'.ownBlock = some w.heap.size) : v'.ownBlock ≠ u.ownBlock := by
  rcases hat with e | e
  · rw [e]; exact hne
  · obtain ⟨g, h2, h3, h4⟩ := hu.2
    rw [e, h2]
    intro hh; cases hh; omega
/-- numbers in range, not more than so many -/
def goodI (l : List Int) (k : Nat) : Prop := l.length ≤ k ∧ ∀ x ∈ l, -9223372036854775808 ≤ x ∧ x ≤ 9223372036854775807
theorem goodI.snoc {l : List Int} {k : Nat} {x : Int} (h : goodI l k) (hx : -9223372036854775808 ≤ x ∧ x ≤ 9223372036854775807) : goodI (l ++ [x]) (k + 1) :=
  ⟨by rw [List.length_append, List.length_singleton]; have := h.1; omega, fun y hy => by
    rcases List.mem_append.1 hy with hy | hy
    · exact h.2 y hy
    · simp at hy; rw [hy]; exact hx⟩
theorem goodI.mono {l : List Int} {k k' : Nat} (h : goodI l k) (hk : k ≤ k') : goodI l k' := ⟨by have := h.1; omega, h.2⟩
end Go.Proofs.Ytdnodaoeflbfkaa

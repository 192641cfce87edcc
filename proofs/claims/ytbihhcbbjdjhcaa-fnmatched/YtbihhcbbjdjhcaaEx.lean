import Derived.Test.YtbihhcbbjdjhcaaExB
namespace Go.Proofs.Ytbihhcbbjdjhcaa
open Go.RowKit Go.BigFrame
set_option linter.unusedVariables false
/-! what a block says, carried over a call that writes another one -/
theorem owns_ex {w w' : World} {base g n cap B d : Nat} {e : TypeId} {size : Nat} {xs : List Value} (h : w.ownsRow base e size (.slice (some ⟨g, 0, none⟩) n cap) n xs) (hb : ExB B d w w') (hB : w.heap.size ≤ B) (hg : g ≠ d) :
    w'.ownsRow base e size (.slice (some ⟨g, 0, none⟩) n cap) n xs := by
  obtain ⟨h1, h2⟩ := h
  rcases h2 with ⟨h, _⟩ | ⟨g', cap', cur, h, hbs, hh, r⟩
  · cases h
  · cases h
    refine ⟨h1, .inr ⟨g, cap, cur, rfl, hbs, ?_, r⟩⟩
    rw [hb.block g (by have := (Array.getElem?_eq_some_iff.1 hh).1; omega) hg]
    exact hh
theorem owns_lt {w : World} {base g n cap : Nat} {e : TypeId} {size : Nat} {xs : List Value} (h : w.ownsRow base e size (.slice (some ⟨g, 0, none⟩) n cap) n xs) : base ≤ g ∧ g < w.heap.size := by
  rcases h.2 with ⟨h, _⟩ | ⟨g', cap', cur, h, hbs, hh, r⟩
  · cases h
  · cases h; exact ⟨hbs, (Array.getElem?_eq_some_iff.1 hh).1⟩
/-- an argument's row lies below a mark -/
theorem rowOf.ex {w w' : World} {a : Option Addr} {ls : List (ByteArray × ByteArray)} {B d : Nat} (h : rowOf w a ls) (hb : ExB B d w w') (hB : w.heap.size ≤ B) (hlow : ∀ b off, 0 < ls.length → a = some ⟨b, off, none⟩ → b ≠ d) : rowOf w' a ls := by
  intro hl
  obtain ⟨b, off, e, h⟩ := h hl
  exact ⟨b, off, e, h.ex hb (Nat.lt_of_lt_of_le (World.block_lt_of_cell? _ _ (h 0 hl).1) hB) (hlow b off hl e)⟩
theorem rowOf.low {w : World} {a : Option Addr} {ls : List (ByteArray × ByteArray)} (h : rowOf w a ls) : ∀ b off, 0 < ls.length → a = some ⟨b, off, none⟩ → b < w.heap.size := by
  intro b off hl e
  obtain ⟨b', off', e', h⟩ := h hl
  rw [e] at e'
  cases e'
  exact World.block_lt_of_cell? _ _ (h 0 hl).1
end Go.Proofs.Ytbihhcbbjdjhcaa

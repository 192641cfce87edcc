import Derived.Test.YtbihhcbbjdjhcaaDraw3
import Derived.ChangeSlices
import Derived.Lib.LaidU8
import Derived.Lib.ItoaMem
namespace Go.Proofs.Ytbihhcbbjdjhcaa
open Go.RowKit Go.BigFrame
set_option linter.unusedVariables false
/-- the bytes of a code, wherever they lie -/
def codeAll (w : World) (a : Option Addr) (n : Nat) : Prop := ∀ j, j < n → ∃ b off x, a = some ⟨b, off, none⟩ ∧ w.cell? ⟨b, off + j, none⟩ = some (.int .u8 x) ∧ 0 ≤ x ∧ x < 256
theorem codeAll.later {w w' : World} {a : Option Addr} {n : Nat} (h : codeAll w a n) (hb : Below w.heap.size w w') : codeAll w' a n := fun j hj => by
  obtain ⟨b, off, x, h1, h2, h3⟩ := h j hj
  exact ⟨b, off, x, h1, (hb.cell (p := ⟨b, off + j, none⟩) (World.block_lt_of_cell? _ _ h2)).trans h2, h3⟩
theorem codeAll.at {w : World} {a : Option Addr} {n : Nat} (h : codeAll w a n) : codeAt w a n w.heap.size := fun j hj => by
  obtain ⟨b, off, x, h1, h2, h3⟩ := h j hj
  exact ⟨b, off, x, h1, Nat.ne_of_lt (World.block_lt_of_cell? _ _ h2), h2, h3⟩
theorem open_code {H : Type} {enc : TypeId × Value → H} {w : World} {base : Nat} {spare : Nat → Bool} {held : Bool} {a : Option Addr} {len cap : Nat} {fuel : Nat} {x : DataW H × List MemPlace}
    (h : DataW.trod enc Try.prog w base spare held fuel 22 [.slice a len cap] = some x) : codeAll w a len ∧ len ≤ maxLen := by
  rcases Go.ChangeShapes.open_ints Try.underlying22 Try.underlying5 (by kernel_rfl) h with ⟨hcs, _⟩ | ⟨a', len', cap', zs, hcs, _, hl, hm, hz, _, hcell, hwf⟩
  · simp at hcs
    obtain ⟨rfl, rfl, rfl⟩ := hcs
    exact ⟨fun j hj => by omega, Nat.zero_le _⟩
  · simp at hcs
    obtain ⟨rfl, rfl, rfl⟩ := hcs
    refine ⟨fun j hj => ?_, Nat.le_trans hl hm⟩
    have hj' : j < zs.length := by rw [hz]; split <;> omega
    have hc := hcell j hj'
    have hmem : zs.getD j 0 ∈ zs := by rw [List.getD_eq_getElem?_getD, List.getElem?_eq_getElem hj']; exact List.getElem_mem hj'
    have hw := hwf _ hmem
    obtain ⟨b, off, sp⟩ := a'
    have h0 := hcell 0 (by omega)
    rw [show (⟨b, off, sp⟩ : Addr).add 0 = ⟨b, off, sp⟩ by unfold Addr.add; rw [if_pos rfl]] at h0
    obtain rfl : sp = none := cell_spot h0
    rw [Lib.add_plain] at hc
    have hw2 : 0 ≤ zs.getD j 0 ∧ zs.getD j 0 ≤ 255 := by simpa [Lit.wf, IntKind.min, IntKind.max, IntKind.signed, IntKind.bits] using hw
    exact ⟨b, off, zs.getD j 0, rfl, hc, hw2.1, by omega⟩
end Go.Proofs.Ytbihhcbbjdjhcaa

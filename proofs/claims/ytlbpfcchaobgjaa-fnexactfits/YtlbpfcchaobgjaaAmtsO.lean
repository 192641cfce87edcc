import Derived.Test.YtlbpfcchaobgjaaAmts2
import Derived.ChangeSame
import Derived.Laws.IdiomArrays
import Derived.OpenShut
import Derived.WideShapes
namespace Go.Proofs.Ytlbpfcchaobgjaa
open Go.ChangeShapes Go.WideShapes Go.ChangeAt Go.RowKit
set_option linter.unusedVariables false
/-! amounts that came in, opened -/
theorem list3 {α : Type} (l : List α) (h : (⟨l⟩ : Array α).size = 3) : ∃ a b c, l = [a, b, c] := by
  match l, h with
  | [a, b, c], _ => exact ⟨a, b, c, rfl⟩
theorem open_am {H : Type} {enc : TypeId × Value → H} {w : World} {base : Nat} {spare : Nat → Bool} {held : Bool} {cs : Array Value} {fuel : Nat} {x : DataW H × List MemPlace}
    (hsz : cs.size = Try.prog.cellsOf 44) (h : DataW.trod enc Try.prog w base spare held fuel 44 cs.toList = some x) :
    ∃ a b c : Int, cs = #[.int .i64 a, .int .i64 b, .int .i64 c] := by
  have hc : Try.prog.cellsOf 44 = 3 := by kernel_rfl
  have hc2 : Try.prog.cellsOf 34 = 3 := by kernel_rfl
  have hc3 : Try.prog.cellsOf 3 = 1 := by kernel_rfl
  rw [hc] at hsz
  obtain ⟨l⟩ := cs
  obtain ⟨c0, c1, c2, rfl⟩ := list3 l hsz
  obtain ⟨y, m, _, _, hy⟩ := trod_struct1 Try.underlying44 h
  simp only [hc2, List.drop_zero, List.take] at hy
  obtain ⟨y0, y1, y2, k, _, hy0, hy1, hy2⟩ := trod_array3 Try.underlying34 hc3 hy
  obtain ⟨x0, e0, _, w0⟩ := DataW.trod_int Try.underlying3 hy0
  obtain ⟨x1, e1, _, w1⟩ := DataW.trod_int Try.underlying3 hy1
  obtain ⟨x2, e2, _, w2⟩ := DataW.trod_int Try.underlying3 hy2
  simp at e0 e1 e2
  subst e0 e1 e2
  exact ⟨x0, x1, x2, rfl⟩
end Go.Proofs.Ytlbpfcchaobgjaa

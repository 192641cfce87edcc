import Derived.Test.YtlbpfcchaobgjaaAmtsT
namespace Go.Proofs.Ytlbpfcchaobgjaa
open Go.RowKit Go.BigFrame
set_option linter.unusedVariables false
/-- the return of three numbers in the result's cell, and a flag -/
theorem ret_am {fn : Func} {Q : Ending → World → Prop} {tmps : Array Value} {W : World} {B k j : Nat} {r s t : Int} {o : Bool} (hr : fn.results = #[.cell k 36, .tmp j])
    (h4 : tmps.getD k undef = .pointer (some ⟨B, 0, none⟩)) (h5 : tmps.getD j undef = .bool o) (h : Has3 W B r s t) (hQ : Q (.returned (.tuple #[.agg #[.int .i64 r, .int .i64 s, .int .i64 t], .bool o])) W) :
    bodyPost Try.prog fn Q .ret ⟨tmps, []⟩ W := by
  obtain ⟨a0, a1, a2, f0, f1, f2⟩ := h
  refine bodyPost_ret (v := .tuple #[.agg #[.int .i64 r, .int .i64 s, .int .i64 t], .bool o]) ?_ rfl hQ
  rw [results_cell_tmp hr, h4, h5]
  simp [go_sem, a0, a1, a2]
end Go.Proofs.Ytlbpfcchaobgjaa

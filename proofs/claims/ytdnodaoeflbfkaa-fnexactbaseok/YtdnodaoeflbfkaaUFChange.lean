/- Data as cells: the helpers of the laws over Change. -/
import Derived.Test.YtdnodaoeflbfkaaChecked
import Derived.Test.YtdnodaoeflbfkaaU5
import Derived.Deep.RegionHeld3
namespace Go.Proofs.Ytdnodaoeflbfkaa
open Go.RowKit Go.BigFrame
set_option linter.unusedVariables false

theorem Try.rChange_int : (Try.prog.underlying 3).map TypeDesc.isRow = some false := by kernel_rfl
theorem Try.zChange_int : (Try.prog.info? 3).map (·.size) = some 1 := by kernel_rfl
theorem Try.rChange_bool : (Try.prog.underlying 4).map TypeDesc.isRow = some false := by kernel_rfl
theorem Try.zChange_bool : (Try.prog.info? 4).map (·.size) = some 1 := by kernel_rfl
theorem Try.rChange_laws_Obj : (Try.prog.underlying 221).map TypeDesc.isRow = some true := by kernel_rfl
theorem Try.zChange_laws_Obj : (Try.prog.info? 221).map (·.size) = some 17 := by kernel_rfl
theorem Try.rChange_impl_Obj : (Try.prog.underlying 136).map TypeDesc.isRow = some true := by kernel_rfl
theorem Try.zChange_impl_Obj : (Try.prog.info? 136).map (·.size) = some 17 := by kernel_rfl
theorem Try.rChange_string : (Try.prog.underlying 9).map TypeDesc.isRow = some false := by kernel_rfl
theorem Try.zChange_string : (Try.prog.info? 9).map (·.size) = some 1 := by kernel_rfl
theorem Try.rChange_Lstring : (Try.prog.underlying 25).map TypeDesc.isRow = some false := by kernel_rfl
theorem Try.zChange_Lstring : (Try.prog.info? 25).map (·.size) = some 1 := by kernel_rfl
theorem Try.rChange_Limpl_Value : (Try.prog.underlying 132).map TypeDesc.isRow = some false := by kernel_rfl
theorem Try.zChange_Limpl_Value : (Try.prog.info? 132).map (·.size) = some 1 := by kernel_rfl
theorem Try.rChange_laws_Change : (Try.prog.underlying 224).map TypeDesc.isRow = some true := by kernel_rfl
theorem Try.zChange_laws_Change : (Try.prog.info? 224).map (·.size) = some 19 := by kernel_rfl
theorem Try.rChange_impl_Change : (Try.prog.underlying 138).map TypeDesc.isRow = some true := by kernel_rfl
theorem Try.zChange_impl_Change : (Try.prog.info? 138).map (·.size) = some 19 := by kernel_rfl
end Go.Proofs.Ytdnodaoeflbfkaa

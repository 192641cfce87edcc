/- Data as cells: the helpers of the laws over Obj. -/
import Derived.Test.YtdnodaoeflbfkaaChecked
import Derived.Test.YtdnodaoeflbfkaaU5
import Derived.Deep.RegionHeld3
namespace Go.Proofs.Ytdnodaoeflbfkaa
open Go.RowKit Go.BigFrame
set_option linter.unusedVariables false

theorem Try.rObj_int : (Try.prog.underlying 3).map TypeDesc.isRow = some false := by kernel_rfl
theorem Try.zObj_int : (Try.prog.info? 3).map (·.size) = some 1 := by kernel_rfl
theorem Try.rObj_string : (Try.prog.underlying 9).map TypeDesc.isRow = some false := by kernel_rfl
theorem Try.zObj_string : (Try.prog.info? 9).map (·.size) = some 1 := by kernel_rfl
theorem Try.rObj_bool : (Try.prog.underlying 4).map TypeDesc.isRow = some false := by kernel_rfl
theorem Try.zObj_bool : (Try.prog.info? 4).map (·.size) = some 1 := by kernel_rfl
theorem Try.rObj_Lstring : (Try.prog.underlying 25).map TypeDesc.isRow = some false := by kernel_rfl
theorem Try.zObj_Lstring : (Try.prog.info? 25).map (·.size) = some 1 := by kernel_rfl
theorem Try.rObj_laws_Value : (Try.prog.underlying 219).map TypeDesc.isRow = some true := by kernel_rfl
theorem Try.zObj_laws_Value : (Try.prog.info? 219).map (·.size) = some 5 := by kernel_rfl
theorem Try.rObj_impl_Value : (Try.prog.underlying 134).map TypeDesc.isRow = some true := by kernel_rfl
theorem Try.zObj_impl_Value : (Try.prog.info? 134).map (·.size) = some 5 := by kernel_rfl
theorem Try.rObj_Limpl_Value : (Try.prog.underlying 132).map TypeDesc.isRow = some false := by kernel_rfl
theorem Try.zObj_Limpl_Value : (Try.prog.info? 132).map (·.size) = some 1 := by kernel_rfl
theorem Try.rObj_laws_Obj : (Try.prog.underlying 221).map TypeDesc.isRow = some true := by kernel_rfl
theorem Try.zObj_laws_Obj : (Try.prog.info? 221).map (·.size) = some 17 := by kernel_rfl
theorem Try.rObj_impl_Obj : (Try.prog.underlying 136).map TypeDesc.isRow = some true := by kernel_rfl
theorem Try.zObj_impl_Obj : (Try.prog.info? 136).map (·.size) = some 17 := by kernel_rfl
end Go.Proofs.Ytdnodaoeflbfkaa

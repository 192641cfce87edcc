/- Data as cells: the helpers of the laws over Obj. -/
import Derived.Test.YtamlgjmboljcdaaChecked
import Derived.Test.YtamlgjmboljcdaaU5
import Derived.Deep.RegionHeld3
namespace Go.Proofs.Ytamlgjmboljcdaa
open Go.RowKit Go.BigFrame
set_option linter.unusedVariables false

theorem Try.rObj_int : (Try.prog.underlying 3).map TypeDesc.isRow = some false := by kernel_rfl
theorem Try.zObj_int : (Try.prog.info? 3).map (·.size) = some 1 := by kernel_rfl
theorem Try.rObj_string : (Try.prog.underlying 9).map TypeDesc.isRow = some false := by kernel_rfl
theorem Try.zObj_string : (Try.prog.info? 9).map (·.size) = some 1 := by kernel_rfl
theorem Try.rObj_bool : (Try.prog.underlying 4).map TypeDesc.isRow = some false := by kernel_rfl
theorem Try.zObj_bool : (Try.prog.info? 4).map (·.size) = some 1 := by kernel_rfl
theorem Try.rObj_Lstring : (Try.prog.underlying 38).map TypeDesc.isRow = some false := by kernel_rfl
theorem Try.zObj_Lstring : (Try.prog.info? 38).map (·.size) = some 1 := by kernel_rfl
theorem Try.rObj_laws_Value : (Try.prog.underlying 86).map TypeDesc.isRow = some true := by kernel_rfl
theorem Try.zObj_laws_Value : (Try.prog.info? 86).map (·.size) = some 5 := by kernel_rfl
theorem Try.rObj_impl_Value : (Try.prog.underlying 41).map TypeDesc.isRow = some true := by kernel_rfl
theorem Try.zObj_impl_Value : (Try.prog.info? 41).map (·.size) = some 5 := by kernel_rfl
theorem Try.rObj_Limpl_Value : (Try.prog.underlying 39).map TypeDesc.isRow = some false := by kernel_rfl
theorem Try.zObj_Limpl_Value : (Try.prog.info? 39).map (·.size) = some 1 := by kernel_rfl
theorem Try.rObj_laws_Obj : (Try.prog.underlying 88).map TypeDesc.isRow = some true := by kernel_rfl
theorem Try.zObj_laws_Obj : (Try.prog.info? 88).map (·.size) = some 17 := by kernel_rfl
theorem Try.rObj_impl_Obj : (Try.prog.underlying 43).map TypeDesc.isRow = some true := by kernel_rfl
theorem Try.zObj_impl_Obj : (Try.prog.info? 43).map (·.size) = some 17 := by kernel_rfl
end Go.Proofs.Ytamlgjmboljcdaa

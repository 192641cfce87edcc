/- Data as cells: the helpers of the laws over Obj. -/
import Derived.Test.YtamlgjmboljcdaaGreatChecked
import Derived.Test.YtamlgjmboljcdaaGreatU5
import Derived.Deep.RegionHeld3
namespace Go.Proofs.YtamlgjmboljcdaaGreat
open Go.RowKit Go.BigFrame
set_option linter.unusedVariables false

theorem Tryz.rObj_int : (Tryz.prog.underlying 3).map TypeDesc.isRow = some false := by kernel_rfl
theorem Tryz.zObj_int : (Tryz.prog.info? 3).map (·.size) = some 1 := by kernel_rfl
theorem Tryz.rObj_string : (Tryz.prog.underlying 9).map TypeDesc.isRow = some false := by kernel_rfl
theorem Tryz.zObj_string : (Tryz.prog.info? 9).map (·.size) = some 1 := by kernel_rfl
theorem Tryz.rObj_bool : (Tryz.prog.underlying 4).map TypeDesc.isRow = some false := by kernel_rfl
theorem Tryz.zObj_bool : (Tryz.prog.info? 4).map (·.size) = some 1 := by kernel_rfl
theorem Tryz.rObj_Lstring : (Tryz.prog.underlying 28).map TypeDesc.isRow = some false := by kernel_rfl
theorem Tryz.zObj_Lstring : (Tryz.prog.info? 28).map (·.size) = some 1 := by kernel_rfl
theorem Tryz.rObj_laws_Value : (Tryz.prog.underlying 67).map TypeDesc.isRow = some true := by kernel_rfl
theorem Tryz.zObj_laws_Value : (Tryz.prog.info? 67).map (·.size) = some 5 := by kernel_rfl
theorem Tryz.rObj_impl_Value : (Tryz.prog.underlying 31).map TypeDesc.isRow = some true := by kernel_rfl
theorem Tryz.zObj_impl_Value : (Tryz.prog.info? 31).map (·.size) = some 5 := by kernel_rfl
theorem Tryz.rObj_Limpl_Value : (Tryz.prog.underlying 29).map TypeDesc.isRow = some false := by kernel_rfl
theorem Tryz.zObj_Limpl_Value : (Tryz.prog.info? 29).map (·.size) = some 1 := by kernel_rfl
theorem Tryz.rObj_laws_Obj : (Tryz.prog.underlying 158).map TypeDesc.isRow = some true := by kernel_rfl
theorem Tryz.zObj_laws_Obj : (Tryz.prog.info? 158).map (·.size) = some 17 := by kernel_rfl
theorem Tryz.rObj_impl_Obj : (Tryz.prog.underlying 38).map TypeDesc.isRow = some true := by kernel_rfl
theorem Tryz.zObj_impl_Obj : (Tryz.prog.info? 38).map (·.size) = some 17 := by kernel_rfl
end Go.Proofs.YtamlgjmboljcdaaGreat

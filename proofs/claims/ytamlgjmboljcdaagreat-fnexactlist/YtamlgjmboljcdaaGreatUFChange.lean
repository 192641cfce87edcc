/- Data as cells: the helpers of the laws over Change. -/
import Derived.Test.YtamlgjmboljcdaaGreatChecked
import Derived.Test.YtamlgjmboljcdaaGreatU5
import Derived.Deep.RegionHeld3
namespace Go.Proofs.YtamlgjmboljcdaaGreat
open Go.RowKit Go.BigFrame
set_option linter.unusedVariables false

theorem Tryz.rChange_int : (Tryz.prog.underlying 3).map TypeDesc.isRow = some false := by kernel_rfl
theorem Tryz.zChange_int : (Tryz.prog.info? 3).map (·.size) = some 1 := by kernel_rfl
theorem Tryz.rChange_bool : (Tryz.prog.underlying 4).map TypeDesc.isRow = some false := by kernel_rfl
theorem Tryz.zChange_bool : (Tryz.prog.info? 4).map (·.size) = some 1 := by kernel_rfl
theorem Tryz.rChange_laws_Obj : (Tryz.prog.underlying 158).map TypeDesc.isRow = some true := by kernel_rfl
theorem Tryz.zChange_laws_Obj : (Tryz.prog.info? 158).map (·.size) = some 17 := by kernel_rfl
theorem Tryz.rChange_impl_Obj : (Tryz.prog.underlying 38).map TypeDesc.isRow = some true := by kernel_rfl
theorem Tryz.zChange_impl_Obj : (Tryz.prog.info? 38).map (·.size) = some 17 := by kernel_rfl
theorem Tryz.rChange_string : (Tryz.prog.underlying 9).map TypeDesc.isRow = some false := by kernel_rfl
theorem Tryz.zChange_string : (Tryz.prog.info? 9).map (·.size) = some 1 := by kernel_rfl
theorem Tryz.rChange_Lstring : (Tryz.prog.underlying 28).map TypeDesc.isRow = some false := by kernel_rfl
theorem Tryz.zChange_Lstring : (Tryz.prog.info? 28).map (·.size) = some 1 := by kernel_rfl
theorem Tryz.rChange_Limpl_Value : (Tryz.prog.underlying 29).map TypeDesc.isRow = some false := by kernel_rfl
theorem Tryz.zChange_Limpl_Value : (Tryz.prog.info? 29).map (·.size) = some 1 := by kernel_rfl
theorem Tryz.rChange_laws_Change : (Tryz.prog.underlying 160).map TypeDesc.isRow = some true := by kernel_rfl
theorem Tryz.zChange_laws_Change : (Tryz.prog.info? 160).map (·.size) = some 19 := by kernel_rfl
theorem Tryz.rChange_impl_Change : (Tryz.prog.underlying 137).map TypeDesc.isRow = some true := by kernel_rfl
theorem Tryz.zChange_impl_Change : (Tryz.prog.info? 137).map (·.size) = some 19 := by kernel_rfl
end Go.Proofs.YtamlgjmboljcdaaGreat

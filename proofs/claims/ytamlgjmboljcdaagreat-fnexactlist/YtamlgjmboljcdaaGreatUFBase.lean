/- Data as cells: the helpers of the laws over Base. -/
import Derived.Test.YtamlgjmboljcdaaGreatChecked
import Derived.Test.YtamlgjmboljcdaaGreatU5
import Derived.Deep.RegionHeld3
namespace Go.Proofs.YtamlgjmboljcdaaGreat
open Go.RowKit Go.BigFrame
set_option linter.unusedVariables false

theorem Tryz.rBase_Llaws_Obj : (Tryz.prog.underlying 61).map TypeDesc.isRow = some false := by kernel_rfl
theorem Tryz.zBase_Llaws_Obj : (Tryz.prog.info? 61).map (·.size) = some 1 := by kernel_rfl
theorem Tryz.rBase_Limpl_Obj : (Tryz.prog.underlying 24).map TypeDesc.isRow = some false := by kernel_rfl
theorem Tryz.zBase_Limpl_Obj : (Tryz.prog.info? 24).map (·.size) = some 1 := by kernel_rfl
theorem Tryz.rBase_int : (Tryz.prog.underlying 3).map TypeDesc.isRow = some false := by kernel_rfl
theorem Tryz.zBase_int : (Tryz.prog.info? 3).map (·.size) = some 1 := by kernel_rfl
theorem Tryz.rBase_Llaws_Change : (Tryz.prog.underlying 62).map TypeDesc.isRow = some false := by kernel_rfl
theorem Tryz.zBase_Llaws_Change : (Tryz.prog.info? 62).map (·.size) = some 1 := by kernel_rfl
theorem Tryz.rBase_Limpl_Change : (Tryz.prog.underlying 25).map TypeDesc.isRow = some false := by kernel_rfl
theorem Tryz.zBase_Limpl_Change : (Tryz.prog.info? 25).map (·.size) = some 1 := by kernel_rfl
theorem Tryz.rBase_laws_Base : (Tryz.prog.underlying 64).map TypeDesc.isRow = some true := by kernel_rfl
theorem Tryz.zBase_laws_Base : (Tryz.prog.info? 64).map (·.size) = some 4 := by kernel_rfl
theorem Tryz.rBase_impl_Base : (Tryz.prog.underlying 27).map TypeDesc.isRow = some true := by kernel_rfl
theorem Tryz.zBase_impl_Base : (Tryz.prog.info? 27).map (·.size) = some 4 := by kernel_rfl
end Go.Proofs.YtamlgjmboljcdaaGreat

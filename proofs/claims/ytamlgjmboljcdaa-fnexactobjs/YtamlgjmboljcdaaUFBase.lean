/- Data as cells: the helpers of the laws over Base. -/
import Derived.Test.YtamlgjmboljcdaaChecked
import Derived.Test.YtamlgjmboljcdaaU5
import Derived.Deep.RegionHeld3
namespace Go.Proofs.Ytamlgjmboljcdaa
open Go.RowKit Go.BigFrame
set_option linter.unusedVariables false

theorem Try.rBase_Llaws_Obj : (Try.prog.underlying 30).map TypeDesc.isRow = some false := by kernel_rfl
theorem Try.zBase_Llaws_Obj : (Try.prog.info? 30).map (·.size) = some 1 := by kernel_rfl
theorem Try.rBase_Limpl_Obj : (Try.prog.underlying 22).map TypeDesc.isRow = some false := by kernel_rfl
theorem Try.zBase_Limpl_Obj : (Try.prog.info? 22).map (·.size) = some 1 := by kernel_rfl
theorem Try.rBase_int : (Try.prog.underlying 3).map TypeDesc.isRow = some false := by kernel_rfl
theorem Try.zBase_int : (Try.prog.info? 3).map (·.size) = some 1 := by kernel_rfl
theorem Try.rBase_Llaws_Change : (Try.prog.underlying 31).map TypeDesc.isRow = some false := by kernel_rfl
theorem Try.zBase_Llaws_Change : (Try.prog.info? 31).map (·.size) = some 1 := by kernel_rfl
theorem Try.rBase_Limpl_Change : (Try.prog.underlying 23).map TypeDesc.isRow = some false := by kernel_rfl
theorem Try.zBase_Limpl_Change : (Try.prog.info? 23).map (·.size) = some 1 := by kernel_rfl
theorem Try.rBase_laws_Base : (Try.prog.underlying 33).map TypeDesc.isRow = some true := by kernel_rfl
theorem Try.zBase_laws_Base : (Try.prog.info? 33).map (·.size) = some 4 := by kernel_rfl
theorem Try.rBase_impl_Base : (Try.prog.underlying 25).map TypeDesc.isRow = some true := by kernel_rfl
theorem Try.zBase_impl_Base : (Try.prog.info? 25).map (·.size) = some 4 := by kernel_rfl
end Go.Proofs.Ytamlgjmboljcdaa

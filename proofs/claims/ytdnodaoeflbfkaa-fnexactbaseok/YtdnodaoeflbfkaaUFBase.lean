/- Data as cells: the helpers of the laws over Base. -/
import Derived.Test.YtdnodaoeflbfkaaChecked
import Derived.Test.YtdnodaoeflbfkaaU5
import Derived.Deep.RegionHeld3
namespace Go.Proofs.Ytdnodaoeflbfkaa
open Go.RowKit Go.BigFrame
set_option linter.unusedVariables false

theorem Try.rBase_Llaws_Obj : (Try.prog.underlying 58).map TypeDesc.isRow = some false := by kernel_rfl
theorem Try.zBase_Llaws_Obj : (Try.prog.info? 58).map (·.size) = some 1 := by kernel_rfl
theorem Try.rBase_Limpl_Obj : (Try.prog.underlying 64).map TypeDesc.isRow = some false := by kernel_rfl
theorem Try.zBase_Limpl_Obj : (Try.prog.info? 64).map (·.size) = some 1 := by kernel_rfl
theorem Try.rBase_int : (Try.prog.underlying 3).map TypeDesc.isRow = some false := by kernel_rfl
theorem Try.zBase_int : (Try.prog.info? 3).map (·.size) = some 1 := by kernel_rfl
theorem Try.rBase_Llaws_Change : (Try.prog.underlying 59).map TypeDesc.isRow = some false := by kernel_rfl
theorem Try.zBase_Llaws_Change : (Try.prog.info? 59).map (·.size) = some 1 := by kernel_rfl
theorem Try.rBase_Limpl_Change : (Try.prog.underlying 65).map TypeDesc.isRow = some false := by kernel_rfl
theorem Try.zBase_Limpl_Change : (Try.prog.info? 65).map (·.size) = some 1 := by kernel_rfl
theorem Try.rBase_laws_Base : (Try.prog.underlying 61).map TypeDesc.isRow = some true := by kernel_rfl
theorem Try.zBase_laws_Base : (Try.prog.info? 61).map (·.size) = some 4 := by kernel_rfl
theorem Try.rBase_impl_Base : (Try.prog.underlying 67).map TypeDesc.isRow = some true := by kernel_rfl
theorem Try.zBase_impl_Base : (Try.prog.info? 67).map (·.size) = some 4 := by kernel_rfl
end Go.Proofs.Ytdnodaoeflbfkaa

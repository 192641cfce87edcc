/- Data as cells: the helpers of the laws over Queue. -/
import Derived.Test.YtldabidmacghgaaChecked
import Derived.Test.YtldabidmacghgaaU5
import Derived.Deep.RegionHeld3
namespace Go.Proofs.Ytldabidmacghgaa
open Go.RowKit Go.BigFrame
set_option linter.unusedVariables false

theorem Try.rQueue_Llaws_Item : (Try.prog.underlying 41).map TypeDesc.isRow = some false := by kernel_rfl
theorem Try.zQueue_Llaws_Item : (Try.prog.info? 41).map (·.size) = some 1 := by kernel_rfl
theorem Try.rQueue_Limpl_Item : (Try.prog.underlying 24).map TypeDesc.isRow = some false := by kernel_rfl
theorem Try.zQueue_Limpl_Item : (Try.prog.info? 24).map (·.size) = some 1 := by kernel_rfl
theorem Try.rQueue_Lstring : (Try.prog.underlying 25).map TypeDesc.isRow = some false := by kernel_rfl
theorem Try.zQueue_Lstring : (Try.prog.info? 25).map (·.size) = some 1 := by kernel_rfl
theorem Try.rQueue_int : (Try.prog.underlying 3).map TypeDesc.isRow = some false := by kernel_rfl
theorem Try.zQueue_int : (Try.prog.info? 3).map (·.size) = some 1 := by kernel_rfl
theorem Try.rQueue_laws_Queue : (Try.prog.underlying 43).map TypeDesc.isRow = some true := by kernel_rfl
theorem Try.zQueue_laws_Queue : (Try.prog.info? 43).map (·.size) = some 4 := by kernel_rfl
theorem Try.rQueue_impl_Queue : (Try.prog.underlying 27).map TypeDesc.isRow = some true := by kernel_rfl
theorem Try.zQueue_impl_Queue : (Try.prog.info? 27).map (·.size) = some 4 := by kernel_rfl
end Go.Proofs.Ytldabidmacghgaa

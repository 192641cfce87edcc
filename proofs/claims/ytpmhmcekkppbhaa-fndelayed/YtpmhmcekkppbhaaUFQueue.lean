/- Data as cells: the helpers of the laws over Queue. -/
import Derived.Test.YtpmhmcekkppbhaaChecked
import Derived.Test.YtpmhmcekkppbhaaU5
import Derived.Deep.RegionHeld3
namespace Go.Proofs.Ytpmhmcekkppbhaa
open Go.RowKit Go.BigFrame
set_option linter.unusedVariables false

theorem Try.rQueue_Limpl_Item : (Try.prog.underlying 64).map TypeDesc.isRow = some false := by kernel_rfl
theorem Try.zQueue_Limpl_Item : (Try.prog.info? 64).map (·.size) = some 1 := by kernel_rfl
theorem Try.rQueue_Lstring : (Try.prog.underlying 32).map TypeDesc.isRow = some false := by kernel_rfl
theorem Try.zQueue_Lstring : (Try.prog.info? 32).map (·.size) = some 1 := by kernel_rfl
theorem Try.rQueue_int : (Try.prog.underlying 3).map TypeDesc.isRow = some false := by kernel_rfl
theorem Try.zQueue_int : (Try.prog.info? 3).map (·.size) = some 1 := by kernel_rfl
theorem Try.rQueue_impl_Queue : (Try.prog.underlying 66).map TypeDesc.isRow = some true := by kernel_rfl
theorem Try.zQueue_impl_Queue : (Try.prog.info? 66).map (·.size) = some 4 := by kernel_rfl
end Go.Proofs.Ytpmhmcekkppbhaa

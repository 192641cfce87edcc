/- Data as cells: the helpers of the laws over Mirror. -/
import Derived.Test.YtamlgjmboljcdaaGreatChecked
import Derived.Test.YtamlgjmboljcdaaGreatU5
import Derived.Deep.RegionHeld3
namespace Go.Proofs.YtamlgjmboljcdaaGreat
open Go.RowKit Go.BigFrame
set_option linter.unusedVariables false

theorem Tryz.rMirror_int : (Tryz.prog.underlying 3).map TypeDesc.isRow = some false := by kernel_rfl
theorem Tryz.zMirror_int : (Tryz.prog.info? 3).map (·.size) = some 1 := by kernel_rfl
theorem Tryz.rMirror_Llaws_Obj : (Tryz.prog.underlying 61).map TypeDesc.isRow = some false := by kernel_rfl
theorem Tryz.zMirror_Llaws_Obj : (Tryz.prog.info? 61).map (·.size) = some 1 := by kernel_rfl
theorem Tryz.rMirror_Limpl_Obj : (Tryz.prog.underlying 24).map TypeDesc.isRow = some false := by kernel_rfl
theorem Tryz.zMirror_Limpl_Obj : (Tryz.prog.info? 24).map (·.size) = some 1 := by kernel_rfl
theorem Tryz.rMirror_laws_Mirror : (Tryz.prog.underlying 86).map TypeDesc.isRow = some true := by kernel_rfl
theorem Tryz.zMirror_laws_Mirror : (Tryz.prog.info? 86).map (·.size) = some 2 := by kernel_rfl
theorem Tryz.rMirror_impl_Mirror : (Tryz.prog.underlying 48).map TypeDesc.isRow = some true := by kernel_rfl
theorem Tryz.zMirror_impl_Mirror : (Tryz.prog.info? 48).map (·.size) = some 2 := by kernel_rfl
end Go.Proofs.YtamlgjmboljcdaaGreat

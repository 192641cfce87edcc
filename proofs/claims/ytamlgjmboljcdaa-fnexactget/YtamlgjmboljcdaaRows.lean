/-
  NARROWER THAN 'FOR EVERY INPUT', by the rows' own cells (each row's printed sentence says how): FnExactBaseOk: loops · FnExactGet: loops · FnExactObjs: loops · FnExactMirrorOk: loops.
  DERIVED. THE GIVEN ROWS OF THIS SEAT. 5 by the template 'for every input the law returns true; each argument reads behind the call as it read before'; 0 by the template 'total and deterministic' (their statements: YtamlgjmboljcdaaTotals.lean).
  GIVEN WITH THE SEED: the statements are not yours to turn. If you find one false, say at which input.
  Laid BY PROGRAM, IN A SANDBOX (cutbox-rows.mjs): the forced cells as the released guide's own fill.sh prints them over the translation fb7f270cb25a2816… (all of the seat's roots in one cut). By AI agents, Wed Nov 11 2026. No macro, syntax, notation, axiom, sorry.
-/
import Derived.Test.YtamlgjmboljcdaaChecked
import GoSem.Claim
import GoSem.ClaimJoined
import GoSem.ClaimMapViews
import Derived.JoinedTies
import Derived.KernelRfl
namespace Go.Proofs.Ytamlgjmboljcdaa
/- THE CELL 'sum', in the pinned program and in every row, IS THE sha256 OF THE DUMP (.gsa) THAT YtamlgjmboljcdaaProg.lean LOADS. Nothing in Lean hashes anything: it is a label: what it is worth is what the hold of that sum in a sandbox is worth. -/
noncomputable def Try.pinned : Pinned := { name := "ytamlgjmboljcdaa", sum := "fb7f270cb25a281635c45b1a1559fff4f3af449ab6d2354ae98f5c186526fd2c", checked := Try.checked }
namespace Rows
def none {H : Type} : Left H := { results := [], args := [] }

/-- 'laws.FnExactBaseNew': WHATEVER THE INPUT: true; the input reads as it did. -/
def fnExactBaseNewSpec : ChangeSpec := { name := "fnExactBaseNew", fn := fun _ => fun
  | [] => { results := [.lit (.bool true)], args := [] }
  | _ => none }
def fnExactBaseNewRow : OpenClaim := { program := "ytamlgjmboljcdaa", sum := "fb7f270cb25a281635c45b1a1559fff4f3af449ab6d2354ae98f5c186526fd2c", func := "loop.example/g00119/laws.FnExactBaseNew", spec := "fnExactBaseNew", recurses := true, plainKeys := false, apart := false }
def FnExactBaseNewSaid : Prop := fnExactBaseNewRow.holds Try.pinned (OpenSpec.ofChange fnExactBaseNewSpec)

/-- ITS FALSE NEIGHBOUR: 'it returns false'. Refute it at one input. -/
def fnExactBaseNewWrong : ChangeSpec := { name := "fnExactBaseNew", fn := fun _ => fun
  | [] => { results := [.lit (.bool false)], args := [] }
  | _ => none }
def FnExactBaseNewWrongFalsely : Prop := fnExactBaseNewRow.holds Try.pinned (OpenSpec.ofChange fnExactBaseNewWrong)

/-- 'laws.FnExactBaseOk': WHATEVER THE INPUT: true; the input reads as it did. -/
def fnExactBaseOkSpec : ChangeSpec := { name := "fnExactBaseOk", fn := fun _ => fun
  | [d] => { results := [.lit (.bool true)], args := [d] }
  | _ => none }
def fnExactBaseOkRow : OpenClaim := { program := "ytamlgjmboljcdaa", sum := "fb7f270cb25a281635c45b1a1559fff4f3af449ab6d2354ae98f5c186526fd2c", func := "loop.example/g00119/laws.FnExactBaseOk", spec := "fnExactBaseOk", recurses := true, loops := true, plainKeys := false, apart := false }
def FnExactBaseOkSaid : Prop := fnExactBaseOkRow.holds Try.pinned (OpenSpec.ofChange fnExactBaseOkSpec)

/-- ITS FALSE NEIGHBOUR: 'it returns false'. Refute it at one input. -/
def fnExactBaseOkWrong : ChangeSpec := { name := "fnExactBaseOk", fn := fun _ => fun
  | [d] => { results := [.lit (.bool false)], args := [d] }
  | _ => none }
def FnExactBaseOkWrongFalsely : Prop := fnExactBaseOkRow.holds Try.pinned (OpenSpec.ofChange fnExactBaseOkWrong)

/-- 'laws.FnExactGet': WHATEVER THE INPUT: true; the input reads as it did. -/
def fnExactGetSpec : ChangeSpec := { name := "fnExactGet", fn := fun _ => fun
  | [d1, d2, d3] => { results := [.lit (.bool true)], args := [d1, d2, d3] }
  | _ => none }
def fnExactGetRow : OpenClaim := { program := "ytamlgjmboljcdaa", sum := "fb7f270cb25a281635c45b1a1559fff4f3af449ab6d2354ae98f5c186526fd2c", func := "loop.example/g00119/laws.FnExactGet", spec := "fnExactGet", recurses := true, loops := true, plainKeys := false, apart := false }
def FnExactGetSaid : Prop := fnExactGetRow.holds Try.pinned (OpenSpec.ofChange fnExactGetSpec)

/-- ITS FALSE NEIGHBOUR: 'it returns false'. Refute it at one input. -/
def fnExactGetWrong : ChangeSpec := { name := "fnExactGet", fn := fun _ => fun
  | [d1, d2, d3] => { results := [.lit (.bool false)], args := [d1, d2, d3] }
  | _ => none }
def FnExactGetWrongFalsely : Prop := fnExactGetRow.holds Try.pinned (OpenSpec.ofChange fnExactGetWrong)

/-- 'laws.FnExactObjs': WHATEVER THE INPUT: true; the input reads as it did. -/
def fnExactObjsSpec : ChangeSpec := { name := "fnExactObjs", fn := fun _ => fun
  | [d1, d2] => { results := [.lit (.bool true)], args := [d1, d2] }
  | _ => none }
def fnExactObjsRow : OpenClaim := { program := "ytamlgjmboljcdaa", sum := "fb7f270cb25a281635c45b1a1559fff4f3af449ab6d2354ae98f5c186526fd2c", func := "loop.example/g00119/laws.FnExactObjs", spec := "fnExactObjs", recurses := true, loops := true, plainKeys := false, apart := false }
def FnExactObjsSaid : Prop := fnExactObjsRow.holds Try.pinned (OpenSpec.ofChange fnExactObjsSpec)

/-- ITS FALSE NEIGHBOUR: 'it returns false'. Refute it at one input. -/
def fnExactObjsWrong : ChangeSpec := { name := "fnExactObjs", fn := fun _ => fun
  | [d1, d2] => { results := [.lit (.bool false)], args := [d1, d2] }
  | _ => none }
def FnExactObjsWrongFalsely : Prop := fnExactObjsRow.holds Try.pinned (OpenSpec.ofChange fnExactObjsWrong)

/-- 'laws.FnExactMirrorOk': WHATEVER THE INPUT: true; the input reads as it did. -/
def fnExactMirrorOkSpec : ChangeSpec := { name := "fnExactMirrorOk", fn := fun _ => fun
  | [d] => { results := [.lit (.bool true)], args := [d] }
  | _ => none }
def fnExactMirrorOkRow : OpenClaim := { program := "ytamlgjmboljcdaa", sum := "fb7f270cb25a281635c45b1a1559fff4f3af449ab6d2354ae98f5c186526fd2c", func := "loop.example/g00119/laws.FnExactMirrorOk", spec := "fnExactMirrorOk", recurses := true, loops := true, plainKeys := false, apart := false }
def FnExactMirrorOkSaid : Prop := fnExactMirrorOkRow.holds Try.pinned (OpenSpec.ofChange fnExactMirrorOkSpec)

/-- ITS FALSE NEIGHBOUR: 'it returns false'. Refute it at one input. -/
def fnExactMirrorOkWrong : ChangeSpec := { name := "fnExactMirrorOk", fn := fun _ => fun
  | [d] => { results := [.lit (.bool false)], args := [d] }
  | _ => none }
def FnExactMirrorOkWrongFalsely : Prop := fnExactMirrorOkRow.holds Try.pinned (OpenSpec.ofChange fnExactMirrorOkWrong)

/- THE SECOND FORM. 'bulk': how many values and letters a reading holds, each counted each time it is reached (what is shared counts as often as it is met; a slice's spare places count too). A statement '..UptoSaid' is the law's where the arguments, and the package variables that the reading takes, are together of bulk at most 1048576: NARROWER than '..Said'. Prove '..Said' where nothing that the law and all that it calls make is longer than what came in: it says more and counts as full. Else prove '..UptoSaid'. A law counts once. -/
mutual
def uptoBulk {H : Type} : DataW H → Nat
  | .lit (.string bytes) => bytes.length + 1
  | .lit _ => 1
  | .nil => 1
  | .ptr d => uptoBulk d + 1
  | .slice elems spare => uptoBulkAll elems + uptoBulkAll spare + 1
  | .agg parts => uptoBulkAll parts + 1
  | .iface _ d => uptoBulk d + 1
  | .map entries => uptoBulkEntries entries + 1
  | .held _ => 1
def uptoBulkAll {H : Type} : List (DataW H) → Nat
  | [] => 0
  | d :: r => uptoBulk d + uptoBulkAll r
def uptoBulkEntries {H : Type} : List (Lit × DataW H) → Nat
  | [] => 0
  | x :: r => uptoBulkEntry x + uptoBulkEntries r
def uptoBulkEntry {H : Type} : Lit × DataW H → Nat
  | (.string bytes, d) => bytes.length + uptoBulk d + 1
  | (_, d) => uptoBulk d + 1
 end
def uptoSmall : (H : Type) → List (DataW H) → Bool := fun _ ds => decide (uptoBulkAll ds ≤ 1048576)
def OpenSpec.upto (s : _root_.Go.ChangeSpec) : _root_.Go.OpenSpec := { _root_.Go.OpenSpec.ofChange s with cond := some uptoSmall }

/-- 'laws.FnExactBaseNew', WHERE WHAT IT READS IS OF BULK AT MOST 1048576: true; the input reads as it did. -/
def fnExactBaseNewUptoRow : OpenClaim := { program := "ytamlgjmboljcdaa", sum := "fb7f270cb25a281635c45b1a1559fff4f3af449ab6d2354ae98f5c186526fd2c", func := "loop.example/g00119/laws.FnExactBaseNew", spec := "fnExactBaseNew", recurses := true, plainKeys := false, apart := false, narrowed := true }
def FnExactBaseNewUptoSaid : Prop := fnExactBaseNewUptoRow.holds Try.pinned (OpenSpec.upto fnExactBaseNewSpec)

/-- 'laws.FnExactBaseOk', WHERE WHAT IT READS IS OF BULK AT MOST 1048576: true; the input reads as it did. -/
def fnExactBaseOkUptoRow : OpenClaim := { program := "ytamlgjmboljcdaa", sum := "fb7f270cb25a281635c45b1a1559fff4f3af449ab6d2354ae98f5c186526fd2c", func := "loop.example/g00119/laws.FnExactBaseOk", spec := "fnExactBaseOk", recurses := true, loops := true, plainKeys := false, apart := false, narrowed := true }
def FnExactBaseOkUptoSaid : Prop := fnExactBaseOkUptoRow.holds Try.pinned (OpenSpec.upto fnExactBaseOkSpec)

/-- 'laws.FnExactGet', WHERE WHAT IT READS IS OF BULK AT MOST 1048576: true; the input reads as it did. -/
def fnExactGetUptoRow : OpenClaim := { program := "ytamlgjmboljcdaa", sum := "fb7f270cb25a281635c45b1a1559fff4f3af449ab6d2354ae98f5c186526fd2c", func := "loop.example/g00119/laws.FnExactGet", spec := "fnExactGet", recurses := true, loops := true, plainKeys := false, apart := false, narrowed := true }
def FnExactGetUptoSaid : Prop := fnExactGetUptoRow.holds Try.pinned (OpenSpec.upto fnExactGetSpec)

/-- 'laws.FnExactObjs', WHERE WHAT IT READS IS OF BULK AT MOST 1048576: true; the input reads as it did. -/
def fnExactObjsUptoRow : OpenClaim := { program := "ytamlgjmboljcdaa", sum := "fb7f270cb25a281635c45b1a1559fff4f3af449ab6d2354ae98f5c186526fd2c", func := "loop.example/g00119/laws.FnExactObjs", spec := "fnExactObjs", recurses := true, loops := true, plainKeys := false, apart := false, narrowed := true }
def FnExactObjsUptoSaid : Prop := fnExactObjsUptoRow.holds Try.pinned (OpenSpec.upto fnExactObjsSpec)

/-- 'laws.FnExactMirrorOk', WHERE WHAT IT READS IS OF BULK AT MOST 1048576: true; the input reads as it did. -/
def fnExactMirrorOkUptoRow : OpenClaim := { program := "ytamlgjmboljcdaa", sum := "fb7f270cb25a281635c45b1a1559fff4f3af449ab6d2354ae98f5c186526fd2c", func := "loop.example/g00119/laws.FnExactMirrorOk", spec := "fnExactMirrorOk", recurses := true, loops := true, plainKeys := false, apart := false, narrowed := true }
def FnExactMirrorOkUptoSaid : Prop := fnExactMirrorOkUptoRow.holds Try.pinned (OpenSpec.upto fnExactMirrorOkSpec)

end Rows
end Go.Proofs.Ytamlgjmboljcdaa

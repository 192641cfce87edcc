/-
  NARROWER THAN 'FOR EVERY INPUT', by the rows' own cells (each row's printed sentence says how): FnExactCreate: loops · FnExactRemove: loops · FnExactFinish: loops · FnExactSince: loops · FnExactFollow: loops · FnExactList: loops · FnExactCatchUp: loops.
  DERIVED. THE GIVEN ROWS OF THIS SEAT. 11 by the template 'for every input the law returns true; each argument reads behind the call as it read before'; 0 by the template 'total and deterministic' (their statements: YtamlgjmboljcdaaGreatTotals.lean).
  GIVEN WITH THE SEED: the statements are not yours to turn. If you find one false, say at which input.
  Laid BY PROGRAM, IN A SANDBOX (cutbox-rows.mjs): the forced cells as the released guide's own fill.sh prints them over the translation edad223b1b12978c… (all of the seat's roots in one cut). By AI agents, Wed Nov 11 2026. No macro, syntax, notation, axiom, sorry.
-/
import Derived.Test.YtamlgjmboljcdaaGreatChecked
import GoSem.Claim
import GoSem.ClaimJoined
import GoSem.ClaimMapViews
import Derived.JoinedTies
import Derived.KernelRfl
namespace Go.Proofs.YtamlgjmboljcdaaGreat
/- THE CELL 'sum', in the pinned program and in every row, IS THE sha256 OF THE DUMP (.gsa) THAT YtamlgjmboljcdaaGreatProg.lean LOADS. Nothing in Lean hashes anything: it is a label: what it is worth is what the hold of that sum in a sandbox is worth. -/
noncomputable def Tryz.pinned : Pinned := { name := "ytamlgjmboljcdaagreat", sum := "edad223b1b12978ce212289d4fc5b0f4432a47e028aeac2c1f9dc0ce8aea18f0", checked := Tryz.checked }
namespace Rows
def none {H : Type} : Left H := { results := [], args := [] }

/-- 'laws.FnBorn': WHATEVER THE INPUT: true; the input reads as it did. -/
def fnBornSpec : ChangeSpec := { name := "fnBorn", fn := fun _ => fun
  | [d] => { results := [.lit (.bool true)], args := [d] }
  | _ => none }
def fnBornRow : OpenClaim := { program := "ytamlgjmboljcdaagreat", sum := "edad223b1b12978ce212289d4fc5b0f4432a47e028aeac2c1f9dc0ce8aea18f0", func := "loop.example/g00119/laws.FnBorn", spec := "fnBorn", inPlace := ["slices.overlaps[loop.example/g00119/impl.Obj]"], unfollowed := true, recurses := true, plainKeys := false, apart := false }
def FnBornSaid : Prop := fnBornRow.holds Tryz.pinned (OpenSpec.ofChange fnBornSpec)

/-- ITS FALSE NEIGHBOUR: 'it returns false'. Refute it at one input. -/
def fnBornWrong : ChangeSpec := { name := "fnBorn", fn := fun _ => fun
  | [d] => { results := [.lit (.bool false)], args := [d] }
  | _ => none }
def FnBornWrongFalsely : Prop := fnBornRow.holds Tryz.pinned (OpenSpec.ofChange fnBornWrong)

/-- 'laws.FnWaited': WHATEVER THE INPUT: true; the input reads as it did. -/
def fnWaitedSpec : ChangeSpec := { name := "fnWaited", fn := fun _ => fun
  | [d] => { results := [.lit (.bool true)], args := [d] }
  | _ => none }
def fnWaitedRow : OpenClaim := { program := "ytamlgjmboljcdaagreat", sum := "edad223b1b12978ce212289d4fc5b0f4432a47e028aeac2c1f9dc0ce8aea18f0", func := "loop.example/g00119/laws.FnWaited", spec := "fnWaited", unfollowed := true, recurses := true, plainKeys := false, apart := false }
def FnWaitedSaid : Prop := fnWaitedRow.holds Tryz.pinned (OpenSpec.ofChange fnWaitedSpec)

/-- ITS FALSE NEIGHBOUR: 'it returns false'. Refute it at one input. -/
def fnWaitedWrong : ChangeSpec := { name := "fnWaited", fn := fun _ => fun
  | [d] => { results := [.lit (.bool false)], args := [d] }
  | _ => none }
def FnWaitedWrongFalsely : Prop := fnWaitedRow.holds Tryz.pinned (OpenSpec.ofChange fnWaitedWrong)

/-- 'laws.FnCaught': WHATEVER THE INPUT: true; the input reads as it did. -/
def fnCaughtSpec : ChangeSpec := { name := "fnCaught", fn := fun _ => fun
  | [d] => { results := [.lit (.bool true)], args := [d] }
  | _ => none }
def fnCaughtRow : OpenClaim := { program := "ytamlgjmboljcdaagreat", sum := "edad223b1b12978ce212289d4fc5b0f4432a47e028aeac2c1f9dc0ce8aea18f0", func := "loop.example/g00119/laws.FnCaught", spec := "fnCaught", inPlace := ["slices.overlaps[loop.example/g00119/impl.Obj]"], unfollowed := true, recurses := true, plainKeys := false, apart := false }
def FnCaughtSaid : Prop := fnCaughtRow.holds Tryz.pinned (OpenSpec.ofChange fnCaughtSpec)

/-- ITS FALSE NEIGHBOUR: 'it returns false'. Refute it at one input. -/
def fnCaughtWrong : ChangeSpec := { name := "fnCaught", fn := fun _ => fun
  | [d] => { results := [.lit (.bool false)], args := [d] }
  | _ => none }
def FnCaughtWrongFalsely : Prop := fnCaughtRow.holds Tryz.pinned (OpenSpec.ofChange fnCaughtWrong)

/-- 'laws.FnSkipped': WHATEVER THE INPUT: true; the input reads as it did. -/
def fnSkippedSpec : ChangeSpec := { name := "fnSkipped", fn := fun _ => fun
  | [d] => { results := [.lit (.bool true)], args := [d] }
  | _ => none }
def fnSkippedRow : OpenClaim := { program := "ytamlgjmboljcdaagreat", sum := "edad223b1b12978ce212289d4fc5b0f4432a47e028aeac2c1f9dc0ce8aea18f0", func := "loop.example/g00119/laws.FnSkipped", spec := "fnSkipped", inPlace := ["slices.overlaps[loop.example/g00119/impl.Obj]"], unfollowed := true, recurses := true, plainKeys := false, apart := false }
def FnSkippedSaid : Prop := fnSkippedRow.holds Tryz.pinned (OpenSpec.ofChange fnSkippedSpec)

/-- ITS FALSE NEIGHBOUR: 'it returns false'. Refute it at one input. -/
def fnSkippedWrong : ChangeSpec := { name := "fnSkipped", fn := fun _ => fun
  | [d] => { results := [.lit (.bool false)], args := [d] }
  | _ => none }
def FnSkippedWrongFalsely : Prop := fnSkippedRow.holds Tryz.pinned (OpenSpec.ofChange fnSkippedWrong)

/-- 'laws.FnExactCreate': WHATEVER THE INPUT: true; the input reads as it did. -/
def fnExactCreateSpec : ChangeSpec := { name := "fnExactCreate", fn := fun _ => fun
  | [d1, d2, d3, d4, d5] => { results := [.lit (.bool true)], args := [d1, d2, d3, d4, d5] }
  | _ => none }
def fnExactCreateRow : OpenClaim := { program := "ytamlgjmboljcdaagreat", sum := "edad223b1b12978ce212289d4fc5b0f4432a47e028aeac2c1f9dc0ce8aea18f0", func := "loop.example/g00119/laws.FnExactCreate", spec := "fnExactCreate", inPlace := ["slices.overlaps[loop.example/g00119/impl.Obj]"], unfollowed := true, recurses := true, loops := true, plainKeys := false, apart := false }
def FnExactCreateSaid : Prop := fnExactCreateRow.holds Tryz.pinned (OpenSpec.ofChange fnExactCreateSpec)

/-- ITS FALSE NEIGHBOUR: 'it returns false'. Refute it at one input. -/
def fnExactCreateWrong : ChangeSpec := { name := "fnExactCreate", fn := fun _ => fun
  | [d1, d2, d3, d4, d5] => { results := [.lit (.bool false)], args := [d1, d2, d3, d4, d5] }
  | _ => none }
def FnExactCreateWrongFalsely : Prop := fnExactCreateRow.holds Tryz.pinned (OpenSpec.ofChange fnExactCreateWrong)

/-- 'laws.FnExactRemove': WHATEVER THE INPUT: true; the input reads as it did. -/
def fnExactRemoveSpec : ChangeSpec := { name := "fnExactRemove", fn := fun _ => fun
  | [d1, d2, d3] => { results := [.lit (.bool true)], args := [d1, d2, d3] }
  | _ => none }
def fnExactRemoveRow : OpenClaim := { program := "ytamlgjmboljcdaagreat", sum := "edad223b1b12978ce212289d4fc5b0f4432a47e028aeac2c1f9dc0ce8aea18f0", func := "loop.example/g00119/laws.FnExactRemove", spec := "fnExactRemove", unfollowed := true, recurses := true, loops := true, plainKeys := false, apart := false }
def FnExactRemoveSaid : Prop := fnExactRemoveRow.holds Tryz.pinned (OpenSpec.ofChange fnExactRemoveSpec)

/-- ITS FALSE NEIGHBOUR: 'it returns false'. Refute it at one input. -/
def fnExactRemoveWrong : ChangeSpec := { name := "fnExactRemove", fn := fun _ => fun
  | [d1, d2, d3] => { results := [.lit (.bool false)], args := [d1, d2, d3] }
  | _ => none }
def FnExactRemoveWrongFalsely : Prop := fnExactRemoveRow.holds Tryz.pinned (OpenSpec.ofChange fnExactRemoveWrong)

/-- 'laws.FnExactFinish': WHATEVER THE INPUT: true; the input reads as it did. -/
def fnExactFinishSpec : ChangeSpec := { name := "fnExactFinish", fn := fun _ => fun
  | [d1, d2, d3, d4] => { results := [.lit (.bool true)], args := [d1, d2, d3, d4] }
  | _ => none }
def fnExactFinishRow : OpenClaim := { program := "ytamlgjmboljcdaagreat", sum := "edad223b1b12978ce212289d4fc5b0f4432a47e028aeac2c1f9dc0ce8aea18f0", func := "loop.example/g00119/laws.FnExactFinish", spec := "fnExactFinish", unfollowed := true, recurses := true, loops := true, plainKeys := false, apart := false }
def FnExactFinishSaid : Prop := fnExactFinishRow.holds Tryz.pinned (OpenSpec.ofChange fnExactFinishSpec)

/-- ITS FALSE NEIGHBOUR: 'it returns false'. Refute it at one input. -/
def fnExactFinishWrong : ChangeSpec := { name := "fnExactFinish", fn := fun _ => fun
  | [d1, d2, d3, d4] => { results := [.lit (.bool false)], args := [d1, d2, d3, d4] }
  | _ => none }
def FnExactFinishWrongFalsely : Prop := fnExactFinishRow.holds Tryz.pinned (OpenSpec.ofChange fnExactFinishWrong)

/-- 'laws.FnExactSince': WHATEVER THE INPUT: true; the input reads as it did. -/
def fnExactSinceSpec : ChangeSpec := { name := "fnExactSince", fn := fun _ => fun
  | [d1, d2] => { results := [.lit (.bool true)], args := [d1, d2] }
  | _ => none }
def fnExactSinceRow : OpenClaim := { program := "ytamlgjmboljcdaagreat", sum := "edad223b1b12978ce212289d4fc5b0f4432a47e028aeac2c1f9dc0ce8aea18f0", func := "loop.example/g00119/laws.FnExactSince", spec := "fnExactSince", unfollowed := true, recurses := true, loops := true, plainKeys := false, apart := false }
def FnExactSinceSaid : Prop := fnExactSinceRow.holds Tryz.pinned (OpenSpec.ofChange fnExactSinceSpec)

/-- ITS FALSE NEIGHBOUR: 'it returns false'. Refute it at one input. -/
def fnExactSinceWrong : ChangeSpec := { name := "fnExactSince", fn := fun _ => fun
  | [d1, d2] => { results := [.lit (.bool false)], args := [d1, d2] }
  | _ => none }
def FnExactSinceWrongFalsely : Prop := fnExactSinceRow.holds Tryz.pinned (OpenSpec.ofChange fnExactSinceWrong)

/-- 'laws.FnExactFollow': WHATEVER THE INPUT: true; the input reads as it did. -/
def fnExactFollowSpec : ChangeSpec := { name := "fnExactFollow", fn := fun _ => fun
  | [d1, d2] => { results := [.lit (.bool true)], args := [d1, d2] }
  | _ => none }
def fnExactFollowRow : OpenClaim := { program := "ytamlgjmboljcdaagreat", sum := "edad223b1b12978ce212289d4fc5b0f4432a47e028aeac2c1f9dc0ce8aea18f0", func := "loop.example/g00119/laws.FnExactFollow", spec := "fnExactFollow", inPlace := ["slices.overlaps[loop.example/g00119/impl.Obj]"], unfollowed := true, recurses := true, loops := true, plainKeys := false, apart := false }
def FnExactFollowSaid : Prop := fnExactFollowRow.holds Tryz.pinned (OpenSpec.ofChange fnExactFollowSpec)

/-- ITS FALSE NEIGHBOUR: 'it returns false'. Refute it at one input. -/
def fnExactFollowWrong : ChangeSpec := { name := "fnExactFollow", fn := fun _ => fun
  | [d1, d2] => { results := [.lit (.bool false)], args := [d1, d2] }
  | _ => none }
def FnExactFollowWrongFalsely : Prop := fnExactFollowRow.holds Tryz.pinned (OpenSpec.ofChange fnExactFollowWrong)

/-- 'laws.FnExactList': WHATEVER THE INPUT: true; the input reads as it did. -/
def fnExactListSpec : ChangeSpec := { name := "fnExactList", fn := fun _ => fun
  | [d] => { results := [.lit (.bool true)], args := [d] }
  | _ => none }
def fnExactListRow : OpenClaim := { program := "ytamlgjmboljcdaagreat", sum := "edad223b1b12978ce212289d4fc5b0f4432a47e028aeac2c1f9dc0ce8aea18f0", func := "loop.example/g00119/laws.FnExactList", spec := "fnExactList", unfollowed := true, recurses := true, loops := true, plainKeys := false, apart := false }
def FnExactListSaid : Prop := fnExactListRow.holds Tryz.pinned (OpenSpec.ofChange fnExactListSpec)

/-- ITS FALSE NEIGHBOUR: 'it returns false'. Refute it at one input. -/
def fnExactListWrong : ChangeSpec := { name := "fnExactList", fn := fun _ => fun
  | [d] => { results := [.lit (.bool false)], args := [d] }
  | _ => none }
def FnExactListWrongFalsely : Prop := fnExactListRow.holds Tryz.pinned (OpenSpec.ofChange fnExactListWrong)

/-- 'laws.FnExactCatchUp': WHATEVER THE INPUT: true; the input reads as it did. -/
def fnExactCatchUpSpec : ChangeSpec := { name := "fnExactCatchUp", fn := fun _ => fun
  | [d1, d2] => { results := [.lit (.bool true)], args := [d1, d2] }
  | _ => none }
def fnExactCatchUpRow : OpenClaim := { program := "ytamlgjmboljcdaagreat", sum := "edad223b1b12978ce212289d4fc5b0f4432a47e028aeac2c1f9dc0ce8aea18f0", func := "loop.example/g00119/laws.FnExactCatchUp", spec := "fnExactCatchUp", inPlace := ["slices.overlaps[loop.example/g00119/impl.Obj]"], unfollowed := true, recurses := true, loops := true, plainKeys := false, apart := false }
def FnExactCatchUpSaid : Prop := fnExactCatchUpRow.holds Tryz.pinned (OpenSpec.ofChange fnExactCatchUpSpec)

/-- ITS FALSE NEIGHBOUR: 'it returns false'. Refute it at one input. -/
def fnExactCatchUpWrong : ChangeSpec := { name := "fnExactCatchUp", fn := fun _ => fun
  | [d1, d2] => { results := [.lit (.bool false)], args := [d1, d2] }
  | _ => none }
def FnExactCatchUpWrongFalsely : Prop := fnExactCatchUpRow.holds Tryz.pinned (OpenSpec.ofChange fnExactCatchUpWrong)

/- THE SECOND FORM. 'bulk': how many values and letters a reading holds, each counted each time it is reached (what is shared counts as often as it is met; a slice's spare places count too). A statement '..UptoSaid' is the law's where the arguments, and the package variables that the reading takes, are together of bulk at most 1048576: NARROWER than '..Said'. Prove '..Said' where nothing that the law and all that it calls make is longer than what came in: it says more and counts as full. Else prove '..UptoSaid'. A law counts once. -/
mutual
def uptoBulk {H : Type} : DataW H → Nat
  | .lit (.string bytes) => bytes.length + 1
  | .lit _ => 1
  | .nil => 1
  | .ptr d => uptoBulk d + 1
  | .slice elems spare => uptoBulkAll elems + uptoBulkAll spare + 1
  | .agg parts => uptoBulkAll parts + 1
  | .iface _ d => uptoBulk d + 1
  | .map entries => uptoBulkEntries entries + 1
  | .held _ => 1
def uptoBulkAll {H : Type} : List (DataW H) → Nat
  | [] => 0
  | d :: r => uptoBulk d + uptoBulkAll r
def uptoBulkEntries {H : Type} : List (Lit × DataW H) → Nat
  | [] => 0
  | x :: r => uptoBulkEntry x + uptoBulkEntries r
def uptoBulkEntry {H : Type} : Lit × DataW H → Nat
  | (.string bytes, d) => bytes.length + uptoBulk d + 1
  | (_, d) => uptoBulk d + 1
 end
def uptoSmall : (H : Type) → List (DataW H) → Bool := fun _ ds => decide (uptoBulkAll ds ≤ 1048576)
def OpenSpec.upto (s : _root_.Go.ChangeSpec) : _root_.Go.OpenSpec := { _root_.Go.OpenSpec.ofChange s with cond := some uptoSmall }

/-- 'laws.FnBorn', WHERE WHAT IT READS IS OF BULK AT MOST 1048576: true; the input reads as it did. -/
def fnBornUptoRow : OpenClaim := { program := "ytamlgjmboljcdaagreat", sum := "edad223b1b12978ce212289d4fc5b0f4432a47e028aeac2c1f9dc0ce8aea18f0", func := "loop.example/g00119/laws.FnBorn", spec := "fnBorn", inPlace := ["slices.overlaps[loop.example/g00119/impl.Obj]"], unfollowed := true, recurses := true, plainKeys := false, apart := false, narrowed := true }
def FnBornUptoSaid : Prop := fnBornUptoRow.holds Tryz.pinned (OpenSpec.upto fnBornSpec)

/-- 'laws.FnWaited', WHERE WHAT IT READS IS OF BULK AT MOST 1048576: true; the input reads as it did. -/
def fnWaitedUptoRow : OpenClaim := { program := "ytamlgjmboljcdaagreat", sum := "edad223b1b12978ce212289d4fc5b0f4432a47e028aeac2c1f9dc0ce8aea18f0", func := "loop.example/g00119/laws.FnWaited", spec := "fnWaited", unfollowed := true, recurses := true, plainKeys := false, apart := false, narrowed := true }
def FnWaitedUptoSaid : Prop := fnWaitedUptoRow.holds Tryz.pinned (OpenSpec.upto fnWaitedSpec)

/-- 'laws.FnCaught', WHERE WHAT IT READS IS OF BULK AT MOST 1048576: true; the input reads as it did. -/
def fnCaughtUptoRow : OpenClaim := { program := "ytamlgjmboljcdaagreat", sum := "edad223b1b12978ce212289d4fc5b0f4432a47e028aeac2c1f9dc0ce8aea18f0", func := "loop.example/g00119/laws.FnCaught", spec := "fnCaught", inPlace := ["slices.overlaps[loop.example/g00119/impl.Obj]"], unfollowed := true, recurses := true, plainKeys := false, apart := false, narrowed := true }
def FnCaughtUptoSaid : Prop := fnCaughtUptoRow.holds Tryz.pinned (OpenSpec.upto fnCaughtSpec)

/-- 'laws.FnSkipped', WHERE WHAT IT READS IS OF BULK AT MOST 1048576: true; the input reads as it did. -/
def fnSkippedUptoRow : OpenClaim := { program := "ytamlgjmboljcdaagreat", sum := "edad223b1b12978ce212289d4fc5b0f4432a47e028aeac2c1f9dc0ce8aea18f0", func := "loop.example/g00119/laws.FnSkipped", spec := "fnSkipped", inPlace := ["slices.overlaps[loop.example/g00119/impl.Obj]"], unfollowed := true, recurses := true, plainKeys := false, apart := false, narrowed := true }
def FnSkippedUptoSaid : Prop := fnSkippedUptoRow.holds Tryz.pinned (OpenSpec.upto fnSkippedSpec)

/-- 'laws.FnExactCreate', WHERE WHAT IT READS IS OF BULK AT MOST 1048576: true; the input reads as it did. -/
def fnExactCreateUptoRow : OpenClaim := { program := "ytamlgjmboljcdaagreat", sum := "edad223b1b12978ce212289d4fc5b0f4432a47e028aeac2c1f9dc0ce8aea18f0", func := "loop.example/g00119/laws.FnExactCreate", spec := "fnExactCreate", inPlace := ["slices.overlaps[loop.example/g00119/impl.Obj]"], unfollowed := true, recurses := true, loops := true, plainKeys := false, apart := false, narrowed := true }
def FnExactCreateUptoSaid : Prop := fnExactCreateUptoRow.holds Tryz.pinned (OpenSpec.upto fnExactCreateSpec)

/-- 'laws.FnExactRemove', WHERE WHAT IT READS IS OF BULK AT MOST 1048576: true; the input reads as it did. -/
def fnExactRemoveUptoRow : OpenClaim := { program := "ytamlgjmboljcdaagreat", sum := "edad223b1b12978ce212289d4fc5b0f4432a47e028aeac2c1f9dc0ce8aea18f0", func := "loop.example/g00119/laws.FnExactRemove", spec := "fnExactRemove", unfollowed := true, recurses := true, loops := true, plainKeys := false, apart := false, narrowed := true }
def FnExactRemoveUptoSaid : Prop := fnExactRemoveUptoRow.holds Tryz.pinned (OpenSpec.upto fnExactRemoveSpec)

/-- 'laws.FnExactFinish', WHERE WHAT IT READS IS OF BULK AT MOST 1048576: true; the input reads as it did. -/
def fnExactFinishUptoRow : OpenClaim := { program := "ytamlgjmboljcdaagreat", sum := "edad223b1b12978ce212289d4fc5b0f4432a47e028aeac2c1f9dc0ce8aea18f0", func := "loop.example/g00119/laws.FnExactFinish", spec := "fnExactFinish", unfollowed := true, recurses := true, loops := true, plainKeys := false, apart := false, narrowed := true }
def FnExactFinishUptoSaid : Prop := fnExactFinishUptoRow.holds Tryz.pinned (OpenSpec.upto fnExactFinishSpec)

/-- 'laws.FnExactSince', WHERE WHAT IT READS IS OF BULK AT MOST 1048576: true; the input reads as it did. -/
def fnExactSinceUptoRow : OpenClaim := { program := "ytamlgjmboljcdaagreat", sum := "edad223b1b12978ce212289d4fc5b0f4432a47e028aeac2c1f9dc0ce8aea18f0", func := "loop.example/g00119/laws.FnExactSince", spec := "fnExactSince", unfollowed := true, recurses := true, loops := true, plainKeys := false, apart := false, narrowed := true }
def FnExactSinceUptoSaid : Prop := fnExactSinceUptoRow.holds Tryz.pinned (OpenSpec.upto fnExactSinceSpec)

/-- 'laws.FnExactFollow', WHERE WHAT IT READS IS OF BULK AT MOST 1048576: true; the input reads as it did. -/
def fnExactFollowUptoRow : OpenClaim := { program := "ytamlgjmboljcdaagreat", sum := "edad223b1b12978ce212289d4fc5b0f4432a47e028aeac2c1f9dc0ce8aea18f0", func := "loop.example/g00119/laws.FnExactFollow", spec := "fnExactFollow", inPlace := ["slices.overlaps[loop.example/g00119/impl.Obj]"], unfollowed := true, recurses := true, loops := true, plainKeys := false, apart := false, narrowed := true }
def FnExactFollowUptoSaid : Prop := fnExactFollowUptoRow.holds Tryz.pinned (OpenSpec.upto fnExactFollowSpec)

/-- 'laws.FnExactList', WHERE WHAT IT READS IS OF BULK AT MOST 1048576: true; the input reads as it did. -/
def fnExactListUptoRow : OpenClaim := { program := "ytamlgjmboljcdaagreat", sum := "edad223b1b12978ce212289d4fc5b0f4432a47e028aeac2c1f9dc0ce8aea18f0", func := "loop.example/g00119/laws.FnExactList", spec := "fnExactList", unfollowed := true, recurses := true, loops := true, plainKeys := false, apart := false, narrowed := true }
def FnExactListUptoSaid : Prop := fnExactListUptoRow.holds Tryz.pinned (OpenSpec.upto fnExactListSpec)

/-- 'laws.FnExactCatchUp', WHERE WHAT IT READS IS OF BULK AT MOST 1048576: true; the input reads as it did. -/
def fnExactCatchUpUptoRow : OpenClaim := { program := "ytamlgjmboljcdaagreat", sum := "edad223b1b12978ce212289d4fc5b0f4432a47e028aeac2c1f9dc0ce8aea18f0", func := "loop.example/g00119/laws.FnExactCatchUp", spec := "fnExactCatchUp", inPlace := ["slices.overlaps[loop.example/g00119/impl.Obj]"], unfollowed := true, recurses := true, loops := true, plainKeys := false, apart := false, narrowed := true }
def FnExactCatchUpUptoSaid : Prop := fnExactCatchUpUptoRow.holds Tryz.pinned (OpenSpec.upto fnExactCatchUpSpec)

end Rows
end Go.Proofs.YtamlgjmboljcdaaGreat

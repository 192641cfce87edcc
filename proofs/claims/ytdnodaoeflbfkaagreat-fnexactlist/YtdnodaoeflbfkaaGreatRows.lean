/-
  NARROWER THAN 'FOR EVERY INPUT', by the rows' own cells (each row's printed sentence says how): FnExactList: loops · FnExactSince: loops · FnExactCreate: loops · FnExactRemove: loops · FnExactFinish: loops.
  DERIVED. THE GIVEN ROWS OF THIS SEAT. 7 by the template 'for every input the law returns true; each argument reads behind the call as it read before'; 0 by the template 'total and deterministic' (their statements: YtdnodaoeflbfkaaGreatTotals.lean).
  GIVEN WITH THE SEED: the statements are not yours to turn. If you find one false, say at which input.
  Laid BY PROGRAM, IN A SANDBOX (cutbox-rows.mjs): the forced cells as the released guide's own fill.sh prints them over the translation 40096abcad44169f… (all of the seat's roots in one cut). By AI agents, Wed Nov 11 2026. No macro, syntax, notation, axiom, sorry.
-/
import Derived.Test.YtdnodaoeflbfkaaGreatChecked
import GoSem.Claim
import GoSem.ClaimJoined
import GoSem.ClaimMapViews
import Derived.JoinedTies
import Derived.KernelRfl
namespace Go.Proofs.YtdnodaoeflbfkaaGreat
/- THE CELL 'sum', in the pinned program and in every row, IS THE sha256 OF THE DUMP (.gsa) THAT YtdnodaoeflbfkaaGreatProg.lean LOADS. Nothing in Lean hashes anything: it is a label: what it is worth is what the hold of that sum in a sandbox is worth. -/
noncomputable def Tryz.pinned : Pinned := { name := "ytdnodaoeflbfkaagreat", sum := "40096abcad44169f7d5412c44e1bf524a9162b15ae02c4d0392268c659ca6b00", checked := Tryz.checked }
namespace Rows
def none {H : Type} : Left H := { results := [], args := [] }

/-- 'laws.FnExactShares': WHATEVER THE INPUT: true; the input reads as it did. -/
def fnExactSharesSpec : ChangeSpec := { name := "fnExactShares", fn := fun _ => fun
  | [d1, d2, d3] => { results := [.lit (.bool true)], args := [d1, d2, d3] }
  | _ => none }
def fnExactSharesRow : OpenClaim := { program := "ytdnodaoeflbfkaagreat", sum := "40096abcad44169f7d5412c44e1bf524a9162b15ae02c4d0392268c659ca6b00", func := "loop.example/g00119/laws.FnExactShares", spec := "fnExactShares", unfollowed := true, recurses := true, plainKeys := false, apart := false }
def FnExactSharesSaid : Prop := fnExactSharesRow.holds Tryz.pinned (OpenSpec.ofChange fnExactSharesSpec)

/-- ITS FALSE NEIGHBOUR: 'it returns false'. Refute it at one input. -/
def fnExactSharesWrong : ChangeSpec := { name := "fnExactShares", fn := fun _ => fun
  | [d1, d2, d3] => { results := [.lit (.bool false)], args := [d1, d2, d3] }
  | _ => none }
def FnExactSharesWrongFalsely : Prop := fnExactSharesRow.holds Tryz.pinned (OpenSpec.ofChange fnExactSharesWrong)

/-- 'laws.FnExactPlans': WHATEVER THE INPUT: true; the input reads as it did. -/
def fnExactPlansSpec : ChangeSpec := { name := "fnExactPlans", fn := fun _ => fun
  | [d1, d2] => { results := [.lit (.bool true)], args := [d1, d2] }
  | _ => none }
def fnExactPlansRow : OpenClaim := { program := "ytdnodaoeflbfkaagreat", sum := "40096abcad44169f7d5412c44e1bf524a9162b15ae02c4d0392268c659ca6b00", func := "loop.example/g00119/laws.FnExactPlans", spec := "fnExactPlans", unfollowed := true, recurses := true, plainKeys := false, apart := false }
def FnExactPlansSaid : Prop := fnExactPlansRow.holds Tryz.pinned (OpenSpec.ofChange fnExactPlansSpec)

/-- ITS FALSE NEIGHBOUR: 'it returns false'. Refute it at one input. -/
def fnExactPlansWrong : ChangeSpec := { name := "fnExactPlans", fn := fun _ => fun
  | [d1, d2] => { results := [.lit (.bool false)], args := [d1, d2] }
  | _ => none }
def FnExactPlansWrongFalsely : Prop := fnExactPlansRow.holds Tryz.pinned (OpenSpec.ofChange fnExactPlansWrong)

/-- 'laws.FnExactList': WHATEVER THE INPUT: true; the input reads as it did. -/
def fnExactListSpec : ChangeSpec := { name := "fnExactList", fn := fun _ => fun
  | [d] => { results := [.lit (.bool true)], args := [d] }
  | _ => none }
def fnExactListRow : OpenClaim := { program := "ytdnodaoeflbfkaagreat", sum := "40096abcad44169f7d5412c44e1bf524a9162b15ae02c4d0392268c659ca6b00", func := "loop.example/g00119/laws.FnExactList", spec := "fnExactList", unfollowed := true, recurses := true, loops := true, plainKeys := false, apart := false }
def FnExactListSaid : Prop := fnExactListRow.holds Tryz.pinned (OpenSpec.ofChange fnExactListSpec)

/-- ITS FALSE NEIGHBOUR: 'it returns false'. Refute it at one input. -/
def fnExactListWrong : ChangeSpec := { name := "fnExactList", fn := fun _ => fun
  | [d] => { results := [.lit (.bool false)], args := [d] }
  | _ => none }
def FnExactListWrongFalsely : Prop := fnExactListRow.holds Tryz.pinned (OpenSpec.ofChange fnExactListWrong)

/-- 'laws.FnExactSince': WHATEVER THE INPUT: true; the input reads as it did. -/
def fnExactSinceSpec : ChangeSpec := { name := "fnExactSince", fn := fun _ => fun
  | [d1, d2] => { results := [.lit (.bool true)], args := [d1, d2] }
  | _ => none }
def fnExactSinceRow : OpenClaim := { program := "ytdnodaoeflbfkaagreat", sum := "40096abcad44169f7d5412c44e1bf524a9162b15ae02c4d0392268c659ca6b00", func := "loop.example/g00119/laws.FnExactSince", spec := "fnExactSince", unfollowed := true, recurses := true, loops := true, plainKeys := false, apart := false }
def FnExactSinceSaid : Prop := fnExactSinceRow.holds Tryz.pinned (OpenSpec.ofChange fnExactSinceSpec)

/-- ITS FALSE NEIGHBOUR: 'it returns false'. Refute it at one input. -/
def fnExactSinceWrong : ChangeSpec := { name := "fnExactSince", fn := fun _ => fun
  | [d1, d2] => { results := [.lit (.bool false)], args := [d1, d2] }
  | _ => none }
def FnExactSinceWrongFalsely : Prop := fnExactSinceRow.holds Tryz.pinned (OpenSpec.ofChange fnExactSinceWrong)

/-- 'laws.FnExactCreate': WHATEVER THE INPUT: true; the input reads as it did. -/
def fnExactCreateSpec : ChangeSpec := { name := "fnExactCreate", fn := fun _ => fun
  | [d1, d2, d3, d4, d5] => { results := [.lit (.bool true)], args := [d1, d2, d3, d4, d5] }
  | _ => none }
def fnExactCreateRow : OpenClaim := { program := "ytdnodaoeflbfkaagreat", sum := "40096abcad44169f7d5412c44e1bf524a9162b15ae02c4d0392268c659ca6b00", func := "loop.example/g00119/laws.FnExactCreate", spec := "fnExactCreate", inPlace := ["slices.overlaps[loop.example/g00119/impl.Obj]"], unfollowed := true, recurses := true, loops := true, plainKeys := false, apart := false }
def FnExactCreateSaid : Prop := fnExactCreateRow.holds Tryz.pinned (OpenSpec.ofChange fnExactCreateSpec)

/-- ITS FALSE NEIGHBOUR: 'it returns false'. Refute it at one input. -/
def fnExactCreateWrong : ChangeSpec := { name := "fnExactCreate", fn := fun _ => fun
  | [d1, d2, d3, d4, d5] => { results := [.lit (.bool false)], args := [d1, d2, d3, d4, d5] }
  | _ => none }
def FnExactCreateWrongFalsely : Prop := fnExactCreateRow.holds Tryz.pinned (OpenSpec.ofChange fnExactCreateWrong)

/-- 'laws.FnExactRemove': WHATEVER THE INPUT: true; the input reads as it did. -/
def fnExactRemoveSpec : ChangeSpec := { name := "fnExactRemove", fn := fun _ => fun
  | [d1, d2, d3] => { results := [.lit (.bool true)], args := [d1, d2, d3] }
  | _ => none }
def fnExactRemoveRow : OpenClaim := { program := "ytdnodaoeflbfkaagreat", sum := "40096abcad44169f7d5412c44e1bf524a9162b15ae02c4d0392268c659ca6b00", func := "loop.example/g00119/laws.FnExactRemove", spec := "fnExactRemove", unfollowed := true, recurses := true, loops := true, plainKeys := false, apart := false }
def FnExactRemoveSaid : Prop := fnExactRemoveRow.holds Tryz.pinned (OpenSpec.ofChange fnExactRemoveSpec)

/-- ITS FALSE NEIGHBOUR: 'it returns false'. Refute it at one input. -/
def fnExactRemoveWrong : ChangeSpec := { name := "fnExactRemove", fn := fun _ => fun
  | [d1, d2, d3] => { results := [.lit (.bool false)], args := [d1, d2, d3] }
  | _ => none }
def FnExactRemoveWrongFalsely : Prop := fnExactRemoveRow.holds Tryz.pinned (OpenSpec.ofChange fnExactRemoveWrong)

/-- 'laws.FnExactFinish': WHATEVER THE INPUT: true; the input reads as it did. -/
def fnExactFinishSpec : ChangeSpec := { name := "fnExactFinish", fn := fun _ => fun
  | [d1, d2, d3, d4] => { results := [.lit (.bool true)], args := [d1, d2, d3, d4] }
  | _ => none }
def fnExactFinishRow : OpenClaim := { program := "ytdnodaoeflbfkaagreat", sum := "40096abcad44169f7d5412c44e1bf524a9162b15ae02c4d0392268c659ca6b00", func := "loop.example/g00119/laws.FnExactFinish", spec := "fnExactFinish", unfollowed := true, recurses := true, loops := true, plainKeys := false, apart := false }
def FnExactFinishSaid : Prop := fnExactFinishRow.holds Tryz.pinned (OpenSpec.ofChange fnExactFinishSpec)

/-- ITS FALSE NEIGHBOUR: 'it returns false'. Refute it at one input. -/
def fnExactFinishWrong : ChangeSpec := { name := "fnExactFinish", fn := fun _ => fun
  | [d1, d2, d3, d4] => { results := [.lit (.bool false)], args := [d1, d2, d3, d4] }
  | _ => none }
def FnExactFinishWrongFalsely : Prop := fnExactFinishRow.holds Tryz.pinned (OpenSpec.ofChange fnExactFinishWrong)

/- THE SECOND FORM. 'bulk': how many values and letters a reading holds, each counted each time it is reached (what is shared counts as often as it is met; a slice's spare places count too). A statement '..UptoSaid' is the law's where the arguments, and the package variables that the reading takes, are together of bulk at most 1048576: NARROWER than '..Said'. Prove '..Said' where nothing that the law and all that it calls make is longer than what came in: it says more and counts as full. Else prove '..UptoSaid'. A law counts once. -/
mutual
def uptoBulk {H : Type} : DataW H → Nat
  | .lit (.string bytes) => bytes.length + 1
  | .lit _ => 1
  | .nil => 1
  | .ptr d => uptoBulk d + 1
  | .slice elems spare => uptoBulkAll elems + uptoBulkAll spare + 1
  | .agg parts => uptoBulkAll parts + 1
  | .iface _ d => uptoBulk d + 1
  | .map entries => uptoBulkEntries entries + 1
  | .held _ => 1
def uptoBulkAll {H : Type} : List (DataW H) → Nat
  | [] => 0
  | d :: r => uptoBulk d + uptoBulkAll r
def uptoBulkEntries {H : Type} : List (Lit × DataW H) → Nat
  | [] => 0
  | x :: r => uptoBulkEntry x + uptoBulkEntries r
def uptoBulkEntry {H : Type} : Lit × DataW H → Nat
  | (.string bytes, d) => bytes.length + uptoBulk d + 1
  | (_, d) => uptoBulk d + 1
 end
def uptoSmall : (H : Type) → List (DataW H) → Bool := fun _ ds => decide (uptoBulkAll ds ≤ 1048576)
def OpenSpec.upto (s : _root_.Go.ChangeSpec) : _root_.Go.OpenSpec := { _root_.Go.OpenSpec.ofChange s with cond := some uptoSmall }

/-- 'laws.FnExactShares', WHERE WHAT IT READS IS OF BULK AT MOST 1048576: true; the input reads as it did. -/
def fnExactSharesUptoRow : OpenClaim := { program := "ytdnodaoeflbfkaagreat", sum := "40096abcad44169f7d5412c44e1bf524a9162b15ae02c4d0392268c659ca6b00", func := "loop.example/g00119/laws.FnExactShares", spec := "fnExactShares", unfollowed := true, recurses := true, plainKeys := false, apart := false, narrowed := true }
def FnExactSharesUptoSaid : Prop := fnExactSharesUptoRow.holds Tryz.pinned (OpenSpec.upto fnExactSharesSpec)

/-- 'laws.FnExactPlans', WHERE WHAT IT READS IS OF BULK AT MOST 1048576: true; the input reads as it did. -/
def fnExactPlansUptoRow : OpenClaim := { program := "ytdnodaoeflbfkaagreat", sum := "40096abcad44169f7d5412c44e1bf524a9162b15ae02c4d0392268c659ca6b00", func := "loop.example/g00119/laws.FnExactPlans", spec := "fnExactPlans", unfollowed := true, recurses := true, plainKeys := false, apart := false, narrowed := true }
def FnExactPlansUptoSaid : Prop := fnExactPlansUptoRow.holds Tryz.pinned (OpenSpec.upto fnExactPlansSpec)

/-- 'laws.FnExactList', WHERE WHAT IT READS IS OF BULK AT MOST 1048576: true; the input reads as it did. -/
def fnExactListUptoRow : OpenClaim := { program := "ytdnodaoeflbfkaagreat", sum := "40096abcad44169f7d5412c44e1bf524a9162b15ae02c4d0392268c659ca6b00", func := "loop.example/g00119/laws.FnExactList", spec := "fnExactList", unfollowed := true, recurses := true, loops := true, plainKeys := false, apart := false, narrowed := true }
def FnExactListUptoSaid : Prop := fnExactListUptoRow.holds Tryz.pinned (OpenSpec.upto fnExactListSpec)

/-- 'laws.FnExactSince', WHERE WHAT IT READS IS OF BULK AT MOST 1048576: true; the input reads as it did. -/
def fnExactSinceUptoRow : OpenClaim := { program := "ytdnodaoeflbfkaagreat", sum := "40096abcad44169f7d5412c44e1bf524a9162b15ae02c4d0392268c659ca6b00", func := "loop.example/g00119/laws.FnExactSince", spec := "fnExactSince", unfollowed := true, recurses := true, loops := true, plainKeys := false, apart := false, narrowed := true }
def FnExactSinceUptoSaid : Prop := fnExactSinceUptoRow.holds Tryz.pinned (OpenSpec.upto fnExactSinceSpec)

/-- 'laws.FnExactCreate', WHERE WHAT IT READS IS OF BULK AT MOST 1048576: true; the input reads as it did. -/
def fnExactCreateUptoRow : OpenClaim := { program := "ytdnodaoeflbfkaagreat", sum := "40096abcad44169f7d5412c44e1bf524a9162b15ae02c4d0392268c659ca6b00", func := "loop.example/g00119/laws.FnExactCreate", spec := "fnExactCreate", inPlace := ["slices.overlaps[loop.example/g00119/impl.Obj]"], unfollowed := true, recurses := true, loops := true, plainKeys := false, apart := false, narrowed := true }
def FnExactCreateUptoSaid : Prop := fnExactCreateUptoRow.holds Tryz.pinned (OpenSpec.upto fnExactCreateSpec)

/-- 'laws.FnExactRemove', WHERE WHAT IT READS IS OF BULK AT MOST 1048576: true; the input reads as it did. -/
def fnExactRemoveUptoRow : OpenClaim := { program := "ytdnodaoeflbfkaagreat", sum := "40096abcad44169f7d5412c44e1bf524a9162b15ae02c4d0392268c659ca6b00", func := "loop.example/g00119/laws.FnExactRemove", spec := "fnExactRemove", unfollowed := true, recurses := true, loops := true, plainKeys := false, apart := false, narrowed := true }
def FnExactRemoveUptoSaid : Prop := fnExactRemoveUptoRow.holds Tryz.pinned (OpenSpec.upto fnExactRemoveSpec)

/-- 'laws.FnExactFinish', WHERE WHAT IT READS IS OF BULK AT MOST 1048576: true; the input reads as it did. -/
def fnExactFinishUptoRow : OpenClaim := { program := "ytdnodaoeflbfkaagreat", sum := "40096abcad44169f7d5412c44e1bf524a9162b15ae02c4d0392268c659ca6b00", func := "loop.example/g00119/laws.FnExactFinish", spec := "fnExactFinish", unfollowed := true, recurses := true, loops := true, plainKeys := false, apart := false, narrowed := true }
def FnExactFinishUptoSaid : Prop := fnExactFinishUptoRow.holds Tryz.pinned (OpenSpec.upto fnExactFinishSpec)

end Rows
end Go.Proofs.YtdnodaoeflbfkaaGreat

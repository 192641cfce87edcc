/-
  NARROWER THAN 'FOR EVERY INPUT', by the rows' own cells (each row's printed sentence says how): FnExactValueOk: loops · FnExactSameValue: loops · FnExactReach: loops · FnExactSizeOf: loops.
  DERIVED. THE GIVEN ROWS OF THIS SEAT. 10 by the template 'for every input the law returns true; each argument reads behind the call as it read before'; 0 by the template 'total and deterministic' (their statements: YtbadjopaocindaaTotals.lean).
  GIVEN WITH THE SEED: the statements are not yours to turn. If you find one false, say at which input.
  Laid BY PROGRAM, IN A SANDBOX (cutbox-rows.mjs): the forced cells as the released guide's own fill.sh prints them over the translation 668d806e7d9494d7… (all of the seat's roots in one cut). By AI agents, Wed Nov 11 2026. No macro, syntax, notation, axiom, sorry.
-/
import Derived.Test.YtbadjopaocindaaChecked
import GoSem.Claim
import GoSem.ClaimJoined
import GoSem.ClaimMapViews
import Derived.JoinedTies
import Derived.KernelRfl
namespace Go.Proofs.Ytbadjopaocindaa
/- THE CELL 'sum', in the pinned program and in every row, IS THE sha256 OF THE DUMP (.gsa) THAT YtbadjopaocindaaProg.lean LOADS. Nothing in Lean hashes anything: it is a label: what it is worth is what the hold of that sum in a sandbox is worth. -/
noncomputable def Try.pinned : Pinned := { name := "ytbadjopaocindaa", sum := "668d806e7d9494d71d8074ba3e54af65ec96b73de2d7911d4a746a0d51cd8603", checked := Try.checked }
namespace Rows
def none {H : Type} : Left H := { results := [], args := [] }

/-- 'laws.FnMatched': WHATEVER THE INPUT: true; the input reads as it did. -/
def fnMatchedSpec : ChangeSpec := { name := "fnMatched", fn := fun _ => fun
  | [d] => { results := [.lit (.bool true)], args := [d] }
  | _ => none }
def fnMatchedRow : OpenClaim := { program := "ytbadjopaocindaa", sum := "668d806e7d9494d71d8074ba3e54af65ec96b73de2d7911d4a746a0d51cd8603", func := "loop.example/g00119/laws.FnMatched", spec := "fnMatched", unfollowed := true, recurses := true, plainKeys := false, apart := false }
def FnMatchedSaid : Prop := fnMatchedRow.holds Try.pinned (OpenSpec.ofChange fnMatchedSpec)

/-- ITS FALSE NEIGHBOUR: 'it returns false'. Refute it at one input. -/
def fnMatchedWrong : ChangeSpec := { name := "fnMatched", fn := fun _ => fun
  | [d] => { results := [.lit (.bool false)], args := [d] }
  | _ => none }
def FnMatchedWrongFalsely : Prop := fnMatchedRow.holds Try.pinned (OpenSpec.ofChange fnMatchedWrong)

/-- 'laws.FnReached': WHATEVER THE INPUT: true; the input reads as it did. -/
def fnReachedSpec : ChangeSpec := { name := "fnReached", fn := fun _ => fun
  | [d] => { results := [.lit (.bool true)], args := [d] }
  | _ => none }
def fnReachedRow : OpenClaim := { program := "ytbadjopaocindaa", sum := "668d806e7d9494d71d8074ba3e54af65ec96b73de2d7911d4a746a0d51cd8603", func := "loop.example/g00119/laws.FnReached", spec := "fnReached", recurses := true, plainKeys := false, apart := false }
def FnReachedSaid : Prop := fnReachedRow.holds Try.pinned (OpenSpec.ofChange fnReachedSpec)

/-- ITS FALSE NEIGHBOUR: 'it returns false'. Refute it at one input. -/
def fnReachedWrong : ChangeSpec := { name := "fnReached", fn := fun _ => fun
  | [d] => { results := [.lit (.bool false)], args := [d] }
  | _ => none }
def FnReachedWrongFalsely : Prop := fnReachedRow.holds Try.pinned (OpenSpec.ofChange fnReachedWrong)

/-- 'laws.FnExactSelectorOk': WHATEVER THE INPUT: true; the input reads as it did. -/
def fnExactSelectorOkSpec : ChangeSpec := { name := "fnExactSelectorOk", fn := fun _ => fun
  | [d] => { results := [.lit (.bool true)], args := [d] }
  | _ => none }
def fnExactSelectorOkRow : OpenClaim := { program := "ytbadjopaocindaa", sum := "668d806e7d9494d71d8074ba3e54af65ec96b73de2d7911d4a746a0d51cd8603", func := "loop.example/g00119/laws.FnExactSelectorOk", spec := "fnExactSelectorOk", plainKeys := false, apart := false }
def FnExactSelectorOkSaid : Prop := fnExactSelectorOkRow.holds Try.pinned (OpenSpec.ofChange fnExactSelectorOkSpec)

/-- ITS FALSE NEIGHBOUR: 'it returns false'. Refute it at one input. -/
def fnExactSelectorOkWrong : ChangeSpec := { name := "fnExactSelectorOk", fn := fun _ => fun
  | [d] => { results := [.lit (.bool false)], args := [d] }
  | _ => none }
def FnExactSelectorOkWrongFalsely : Prop := fnExactSelectorOkRow.holds Try.pinned (OpenSpec.ofChange fnExactSelectorOkWrong)

/-- 'laws.FnExactMatches': WHATEVER THE INPUT: true; the input reads as it did. -/
def fnExactMatchesSpec : ChangeSpec := { name := "fnExactMatches", fn := fun _ => fun
  | [d1, d2] => { results := [.lit (.bool true)], args := [d1, d2] }
  | _ => none }
def fnExactMatchesRow : OpenClaim := { program := "ytbadjopaocindaa", sum := "668d806e7d9494d71d8074ba3e54af65ec96b73de2d7911d4a746a0d51cd8603", func := "loop.example/g00119/laws.FnExactMatches", spec := "fnExactMatches", unfollowed := true, recurses := true, plainKeys := false, apart := false }
def FnExactMatchesSaid : Prop := fnExactMatchesRow.holds Try.pinned (OpenSpec.ofChange fnExactMatchesSpec)

/-- ITS FALSE NEIGHBOUR: 'it returns false'. Refute it at one input. -/
def fnExactMatchesWrong : ChangeSpec := { name := "fnExactMatches", fn := fun _ => fun
  | [d1, d2] => { results := [.lit (.bool false)], args := [d1, d2] }
  | _ => none }
def FnExactMatchesWrongFalsely : Prop := fnExactMatchesRow.holds Try.pinned (OpenSpec.ofChange fnExactMatchesWrong)

/-- 'laws.FnExactSelectorText': WHATEVER THE INPUT: true; the input reads as it did. -/
def fnExactSelectorTextSpec : ChangeSpec := { name := "fnExactSelectorText", fn := fun _ => fun
  | [d] => { results := [.lit (.bool true)], args := [d] }
  | _ => none }
def fnExactSelectorTextRow : OpenClaim := { program := "ytbadjopaocindaa", sum := "668d806e7d9494d71d8074ba3e54af65ec96b73de2d7911d4a746a0d51cd8603", func := "loop.example/g00119/laws.FnExactSelectorText", spec := "fnExactSelectorText", inPlace := ["internal/abi.NoEscape", "internal/bytealg.MakeNoZero"], unfollowed := true, recurses := true, plainKeys := false, apart := false }
def FnExactSelectorTextSaid : Prop := fnExactSelectorTextRow.holds Try.pinned (OpenSpec.ofChange fnExactSelectorTextSpec)

/-- ITS FALSE NEIGHBOUR: 'it returns false'. Refute it at one input. -/
def fnExactSelectorTextWrong : ChangeSpec := { name := "fnExactSelectorText", fn := fun _ => fun
  | [d] => { results := [.lit (.bool false)], args := [d] }
  | _ => none }
def FnExactSelectorTextWrongFalsely : Prop := fnExactSelectorTextRow.holds Try.pinned (OpenSpec.ofChange fnExactSelectorTextWrong)

/-- 'laws.FnExactNever': WHATEVER THE INPUT: true; the input reads as it did. -/
def fnExactNeverSpec : ChangeSpec := { name := "fnExactNever", fn := fun _ => fun
  | [d] => { results := [.lit (.bool true)], args := [d] }
  | _ => none }
def fnExactNeverRow : OpenClaim := { program := "ytbadjopaocindaa", sum := "668d806e7d9494d71d8074ba3e54af65ec96b73de2d7911d4a746a0d51cd8603", func := "loop.example/g00119/laws.FnExactNever", spec := "fnExactNever", unfollowed := true, recurses := true, plainKeys := false, apart := false }
def FnExactNeverSaid : Prop := fnExactNeverRow.holds Try.pinned (OpenSpec.ofChange fnExactNeverSpec)

/-- ITS FALSE NEIGHBOUR: 'it returns false'. Refute it at one input. -/
def fnExactNeverWrong : ChangeSpec := { name := "fnExactNever", fn := fun _ => fun
  | [d] => { results := [.lit (.bool false)], args := [d] }
  | _ => none }
def FnExactNeverWrongFalsely : Prop := fnExactNeverRow.holds Try.pinned (OpenSpec.ofChange fnExactNeverWrong)

/-- 'laws.FnExactValueOk': WHATEVER THE INPUT: true; the input reads as it did. -/
def fnExactValueOkSpec : ChangeSpec := { name := "fnExactValueOk", fn := fun _ => fun
  | [d] => { results := [.lit (.bool true)], args := [d] }
  | _ => none }
def fnExactValueOkRow : OpenClaim := { program := "ytbadjopaocindaa", sum := "668d806e7d9494d71d8074ba3e54af65ec96b73de2d7911d4a746a0d51cd8603", func := "loop.example/g00119/laws.FnExactValueOk", spec := "fnExactValueOk", recurses := true, loops := true, plainKeys := false, apart := false }
def FnExactValueOkSaid : Prop := fnExactValueOkRow.holds Try.pinned (OpenSpec.ofChange fnExactValueOkSpec)

/-- ITS FALSE NEIGHBOUR: 'it returns false'. Refute it at one input. -/
def fnExactValueOkWrong : ChangeSpec := { name := "fnExactValueOk", fn := fun _ => fun
  | [d] => { results := [.lit (.bool false)], args := [d] }
  | _ => none }
def FnExactValueOkWrongFalsely : Prop := fnExactValueOkRow.holds Try.pinned (OpenSpec.ofChange fnExactValueOkWrong)

/-- 'laws.FnExactSameValue': WHATEVER THE INPUT: true; the input reads as it did. -/
def fnExactSameValueSpec : ChangeSpec := { name := "fnExactSameValue", fn := fun _ => fun
  | [d1, d2] => { results := [.lit (.bool true)], args := [d1, d2] }
  | _ => none }
def fnExactSameValueRow : OpenClaim := { program := "ytbadjopaocindaa", sum := "668d806e7d9494d71d8074ba3e54af65ec96b73de2d7911d4a746a0d51cd8603", func := "loop.example/g00119/laws.FnExactSameValue", spec := "fnExactSameValue", recurses := true, loops := true, plainKeys := false, apart := false }
def FnExactSameValueSaid : Prop := fnExactSameValueRow.holds Try.pinned (OpenSpec.ofChange fnExactSameValueSpec)

/-- ITS FALSE NEIGHBOUR: 'it returns false'. Refute it at one input. -/
def fnExactSameValueWrong : ChangeSpec := { name := "fnExactSameValue", fn := fun _ => fun
  | [d1, d2] => { results := [.lit (.bool false)], args := [d1, d2] }
  | _ => none }
def FnExactSameValueWrongFalsely : Prop := fnExactSameValueRow.holds Try.pinned (OpenSpec.ofChange fnExactSameValueWrong)

/-- 'laws.FnExactReach': WHATEVER THE INPUT: true; the input reads as it did. -/
def fnExactReachSpec : ChangeSpec := { name := "fnExactReach", fn := fun _ => fun
  | [d1, d2] => { results := [.lit (.bool true)], args := [d1, d2] }
  | _ => none }
def fnExactReachRow : OpenClaim := { program := "ytbadjopaocindaa", sum := "668d806e7d9494d71d8074ba3e54af65ec96b73de2d7911d4a746a0d51cd8603", func := "loop.example/g00119/laws.FnExactReach", spec := "fnExactReach", recurses := true, loops := true, plainKeys := false, apart := false }
def FnExactReachSaid : Prop := fnExactReachRow.holds Try.pinned (OpenSpec.ofChange fnExactReachSpec)

/-- ITS FALSE NEIGHBOUR: 'it returns false'. Refute it at one input. -/
def fnExactReachWrong : ChangeSpec := { name := "fnExactReach", fn := fun _ => fun
  | [d1, d2] => { results := [.lit (.bool false)], args := [d1, d2] }
  | _ => none }
def FnExactReachWrongFalsely : Prop := fnExactReachRow.holds Try.pinned (OpenSpec.ofChange fnExactReachWrong)

/-- 'laws.FnExactSizeOf': WHATEVER THE INPUT: true; the input reads as it did. -/
def fnExactSizeOfSpec : ChangeSpec := { name := "fnExactSizeOf", fn := fun _ => fun
  | [d] => { results := [.lit (.bool true)], args := [d] }
  | _ => none }
def fnExactSizeOfRow : OpenClaim := { program := "ytbadjopaocindaa", sum := "668d806e7d9494d71d8074ba3e54af65ec96b73de2d7911d4a746a0d51cd8603", func := "loop.example/g00119/laws.FnExactSizeOf", spec := "fnExactSizeOf", recurses := true, loops := true, plainKeys := false, apart := false }
def FnExactSizeOfSaid : Prop := fnExactSizeOfRow.holds Try.pinned (OpenSpec.ofChange fnExactSizeOfSpec)

/-- ITS FALSE NEIGHBOUR: 'it returns false'. Refute it at one input. -/
def fnExactSizeOfWrong : ChangeSpec := { name := "fnExactSizeOf", fn := fun _ => fun
  | [d] => { results := [.lit (.bool false)], args := [d] }
  | _ => none }
def FnExactSizeOfWrongFalsely : Prop := fnExactSizeOfRow.holds Try.pinned (OpenSpec.ofChange fnExactSizeOfWrong)

/- THE SECOND FORM. 'bulk': how many values and letters a reading holds, each counted each time it is reached (what is shared counts as often as it is met; a slice's spare places count too). A statement '..UptoSaid' is the law's where the arguments, and the package variables that the reading takes, are together of bulk at most 1048576: NARROWER than '..Said'. Prove '..Said' where nothing that the law and all that it calls make is longer than what came in: it says more and counts as full. Else prove '..UptoSaid'. A law counts once. -/
mutual
def uptoBulk {H : Type} : DataW H → Nat
  | .lit (.string bytes) => bytes.length + 1
  | .lit _ => 1
  | .nil => 1
  | .ptr d => uptoBulk d + 1
  | .slice elems spare => uptoBulkAll elems + uptoBulkAll spare + 1
  | .agg parts => uptoBulkAll parts + 1
  | .iface _ d => uptoBulk d + 1
  | .map entries => uptoBulkEntries entries + 1
  | .held _ => 1
def uptoBulkAll {H : Type} : List (DataW H) → Nat
  | [] => 0
  | d :: r => uptoBulk d + uptoBulkAll r
def uptoBulkEntries {H : Type} : List (Lit × DataW H) → Nat
  | [] => 0
  | x :: r => uptoBulkEntry x + uptoBulkEntries r
def uptoBulkEntry {H : Type} : Lit × DataW H → Nat
  | (.string bytes, d) => bytes.length + uptoBulk d + 1
  | (_, d) => uptoBulk d + 1
 end
def uptoSmall : (H : Type) → List (DataW H) → Bool := fun _ ds => decide (uptoBulkAll ds ≤ 1048576)
def OpenSpec.upto (s : _root_.Go.ChangeSpec) : _root_.Go.OpenSpec := { _root_.Go.OpenSpec.ofChange s with cond := some uptoSmall }

/-- 'laws.FnMatched', WHERE WHAT IT READS IS OF BULK AT MOST 1048576: true; the input reads as it did. -/
def fnMatchedUptoRow : OpenClaim := { program := "ytbadjopaocindaa", sum := "668d806e7d9494d71d8074ba3e54af65ec96b73de2d7911d4a746a0d51cd8603", func := "loop.example/g00119/laws.FnMatched", spec := "fnMatched", unfollowed := true, recurses := true, plainKeys := false, apart := false, narrowed := true }
def FnMatchedUptoSaid : Prop := fnMatchedUptoRow.holds Try.pinned (OpenSpec.upto fnMatchedSpec)

/-- 'laws.FnReached', WHERE WHAT IT READS IS OF BULK AT MOST 1048576: true; the input reads as it did. -/
def fnReachedUptoRow : OpenClaim := { program := "ytbadjopaocindaa", sum := "668d806e7d9494d71d8074ba3e54af65ec96b73de2d7911d4a746a0d51cd8603", func := "loop.example/g00119/laws.FnReached", spec := "fnReached", recurses := true, plainKeys := false, apart := false, narrowed := true }
def FnReachedUptoSaid : Prop := fnReachedUptoRow.holds Try.pinned (OpenSpec.upto fnReachedSpec)

/-- 'laws.FnExactSelectorOk', WHERE WHAT IT READS IS OF BULK AT MOST 1048576: true; the input reads as it did. -/
def fnExactSelectorOkUptoRow : OpenClaim := { program := "ytbadjopaocindaa", sum := "668d806e7d9494d71d8074ba3e54af65ec96b73de2d7911d4a746a0d51cd8603", func := "loop.example/g00119/laws.FnExactSelectorOk", spec := "fnExactSelectorOk", plainKeys := false, apart := false, narrowed := true }
def FnExactSelectorOkUptoSaid : Prop := fnExactSelectorOkUptoRow.holds Try.pinned (OpenSpec.upto fnExactSelectorOkSpec)

/-- 'laws.FnExactMatches', WHERE WHAT IT READS IS OF BULK AT MOST 1048576: true; the input reads as it did. -/
def fnExactMatchesUptoRow : OpenClaim := { program := "ytbadjopaocindaa", sum := "668d806e7d9494d71d8074ba3e54af65ec96b73de2d7911d4a746a0d51cd8603", func := "loop.example/g00119/laws.FnExactMatches", spec := "fnExactMatches", unfollowed := true, recurses := true, plainKeys := false, apart := false, narrowed := true }
def FnExactMatchesUptoSaid : Prop := fnExactMatchesUptoRow.holds Try.pinned (OpenSpec.upto fnExactMatchesSpec)

/-- 'laws.FnExactSelectorText', WHERE WHAT IT READS IS OF BULK AT MOST 1048576: true; the input reads as it did. -/
def fnExactSelectorTextUptoRow : OpenClaim := { program := "ytbadjopaocindaa", sum := "668d806e7d9494d71d8074ba3e54af65ec96b73de2d7911d4a746a0d51cd8603", func := "loop.example/g00119/laws.FnExactSelectorText", spec := "fnExactSelectorText", inPlace := ["internal/abi.NoEscape", "internal/bytealg.MakeNoZero"], unfollowed := true, recurses := true, plainKeys := false, apart := false, narrowed := true }
def FnExactSelectorTextUptoSaid : Prop := fnExactSelectorTextUptoRow.holds Try.pinned (OpenSpec.upto fnExactSelectorTextSpec)

/-- 'laws.FnExactNever', WHERE WHAT IT READS IS OF BULK AT MOST 1048576: true; the input reads as it did. -/
def fnExactNeverUptoRow : OpenClaim := { program := "ytbadjopaocindaa", sum := "668d806e7d9494d71d8074ba3e54af65ec96b73de2d7911d4a746a0d51cd8603", func := "loop.example/g00119/laws.FnExactNever", spec := "fnExactNever", unfollowed := true, recurses := true, plainKeys := false, apart := false, narrowed := true }
def FnExactNeverUptoSaid : Prop := fnExactNeverUptoRow.holds Try.pinned (OpenSpec.upto fnExactNeverSpec)

/-- 'laws.FnExactValueOk', WHERE WHAT IT READS IS OF BULK AT MOST 1048576: true; the input reads as it did. -/
def fnExactValueOkUptoRow : OpenClaim := { program := "ytbadjopaocindaa", sum := "668d806e7d9494d71d8074ba3e54af65ec96b73de2d7911d4a746a0d51cd8603", func := "loop.example/g00119/laws.FnExactValueOk", spec := "fnExactValueOk", recurses := true, loops := true, plainKeys := false, apart := false, narrowed := true }
def FnExactValueOkUptoSaid : Prop := fnExactValueOkUptoRow.holds Try.pinned (OpenSpec.upto fnExactValueOkSpec)

/-- 'laws.FnExactSameValue', WHERE WHAT IT READS IS OF BULK AT MOST 1048576: true; the input reads as it did. -/
def fnExactSameValueUptoRow : OpenClaim := { program := "ytbadjopaocindaa", sum := "668d806e7d9494d71d8074ba3e54af65ec96b73de2d7911d4a746a0d51cd8603", func := "loop.example/g00119/laws.FnExactSameValue", spec := "fnExactSameValue", recurses := true, loops := true, plainKeys := false, apart := false, narrowed := true }
def FnExactSameValueUptoSaid : Prop := fnExactSameValueUptoRow.holds Try.pinned (OpenSpec.upto fnExactSameValueSpec)

/-- 'laws.FnExactReach', WHERE WHAT IT READS IS OF BULK AT MOST 1048576: true; the input reads as it did. -/
def fnExactReachUptoRow : OpenClaim := { program := "ytbadjopaocindaa", sum := "668d806e7d9494d71d8074ba3e54af65ec96b73de2d7911d4a746a0d51cd8603", func := "loop.example/g00119/laws.FnExactReach", spec := "fnExactReach", recurses := true, loops := true, plainKeys := false, apart := false, narrowed := true }
def FnExactReachUptoSaid : Prop := fnExactReachUptoRow.holds Try.pinned (OpenSpec.upto fnExactReachSpec)

/-- 'laws.FnExactSizeOf', WHERE WHAT IT READS IS OF BULK AT MOST 1048576: true; the input reads as it did. -/
def fnExactSizeOfUptoRow : OpenClaim := { program := "ytbadjopaocindaa", sum := "668d806e7d9494d71d8074ba3e54af65ec96b73de2d7911d4a746a0d51cd8603", func := "loop.example/g00119/laws.FnExactSizeOf", spec := "fnExactSizeOf", recurses := true, loops := true, plainKeys := false, apart := false, narrowed := true }
def FnExactSizeOfUptoSaid : Prop := fnExactSizeOfUptoRow.holds Try.pinned (OpenSpec.upto fnExactSizeOfSpec)

end Rows
end Go.Proofs.Ytbadjopaocindaa

/-
  No cell of these rows narrows 'for every input' (looked for: loops, veiled, ifaces, maps, wideKeys, modest, calm, conditions, laid).
  DERIVED. THE GIVEN ROWS OF THIS SEAT. 6 by the template 'for every input the law returns true; each argument reads behind the call as it read before'; 0 by the template 'total and deterministic' (their statements: YtdcknajakmjniaaTotals.lean).
  GIVEN WITH THE SEED: the statements are not yours to turn. If you find one false, say at which input.
  Laid BY PROGRAM, IN A SANDBOX (cutbox-rows.mjs): the forced cells as the released guide's own fill.sh prints them over the translation 77fa09c658d3efe5… (all of the seat's roots in one cut). By AI agents, Wed Nov 11 2026. No macro, syntax, notation, axiom, sorry.
-/
import Derived.Test.YtdcknajakmjniaaChecked
import GoSem.Claim
import GoSem.ClaimJoined
import GoSem.ClaimMapViews
import Derived.JoinedTies
import Derived.KernelRfl
namespace Go.Proofs.Ytdcknajakmjniaa
/- THE CELL 'sum', in the pinned program and in every row, IS THE sha256 OF THE DUMP (.gsa) THAT YtdcknajakmjniaaProg.lean LOADS. Nothing in Lean hashes anything: it is a label: what it is worth is what the hold of that sum in a sandbox is worth. -/
noncomputable def Try.pinned : Pinned := { name := "ytdcknajakmjniaa", sum := "77fa09c658d3efe5b6b9d05ceb487e18243d39da74fbbf23b0902a47db69d1be", checked := Try.checked }
namespace Rows
def none {H : Type} : Left H := { results := [], args := [] }

/-- 'laws.FnExactNameOk': WHATEVER THE INPUT: true; the input reads as it did. -/
def fnExactNameOkSpec : ChangeSpec := { name := "fnExactNameOk", fn := fun _ => fun
  | [d] => { results := [.lit (.bool true)], args := [d] }
  | _ => none }
def fnExactNameOkRow : OpenClaim := { program := "ytdcknajakmjniaa", sum := "77fa09c658d3efe5b6b9d05ceb487e18243d39da74fbbf23b0902a47db69d1be", func := "loop.example/g00119/laws.FnExactNameOk", spec := "fnExactNameOk", apart := false }
def FnExactNameOkSaid : Prop := fnExactNameOkRow.holds Try.pinned (OpenSpec.ofChange fnExactNameOkSpec)

/-- ITS FALSE NEIGHBOUR: 'it returns false'. Refute it at one input. -/
def fnExactNameOkWrong : ChangeSpec := { name := "fnExactNameOk", fn := fun _ => fun
  | [d] => { results := [.lit (.bool false)], args := [d] }
  | _ => none }
def FnExactNameOkWrongFalsely : Prop := fnExactNameOkRow.holds Try.pinned (OpenSpec.ofChange fnExactNameOkWrong)

/-- 'laws.FnExactLabelsOk': WHATEVER THE INPUT: true; the input reads as it did. -/
def fnExactLabelsOkSpec : ChangeSpec := { name := "fnExactLabelsOk", fn := fun _ => fun
  | [d] => { results := [.lit (.bool true)], args := [d] }
  | _ => none }
def fnExactLabelsOkRow : OpenClaim := { program := "ytdcknajakmjniaa", sum := "77fa09c658d3efe5b6b9d05ceb487e18243d39da74fbbf23b0902a47db69d1be", func := "loop.example/g00119/laws.FnExactLabelsOk", spec := "fnExactLabelsOk", apart := false }
def FnExactLabelsOkSaid : Prop := fnExactLabelsOkRow.holds Try.pinned (OpenSpec.ofChange fnExactLabelsOkSpec)

/-- ITS FALSE NEIGHBOUR: 'it returns false'. Refute it at one input. -/
def fnExactLabelsOkWrong : ChangeSpec := { name := "fnExactLabelsOk", fn := fun _ => fun
  | [d] => { results := [.lit (.bool false)], args := [d] }
  | _ => none }
def FnExactLabelsOkWrongFalsely : Prop := fnExactLabelsOkRow.holds Try.pinned (OpenSpec.ofChange fnExactLabelsOkWrong)

/-- 'laws.FnExactLabelGet': WHATEVER THE INPUT: true; the input reads as it did. -/
def fnExactLabelGetSpec : ChangeSpec := { name := "fnExactLabelGet", fn := fun _ => fun
  | [d1, d2] => { results := [.lit (.bool true)], args := [d1, d2] }
  | _ => none }
def fnExactLabelGetRow : OpenClaim := { program := "ytdcknajakmjniaa", sum := "77fa09c658d3efe5b6b9d05ceb487e18243d39da74fbbf23b0902a47db69d1be", func := "loop.example/g00119/laws.FnExactLabelGet", spec := "fnExactLabelGet", apart := false }
def FnExactLabelGetSaid : Prop := fnExactLabelGetRow.holds Try.pinned (OpenSpec.ofChange fnExactLabelGetSpec)

/-- ITS FALSE NEIGHBOUR: 'it returns false'. Refute it at one input. -/
def fnExactLabelGetWrong : ChangeSpec := { name := "fnExactLabelGet", fn := fun _ => fun
  | [d1, d2] => { results := [.lit (.bool false)], args := [d1, d2] }
  | _ => none }
def FnExactLabelGetWrongFalsely : Prop := fnExactLabelGetRow.holds Try.pinned (OpenSpec.ofChange fnExactLabelGetWrong)

/-- 'laws.FnExactLabelSet': WHATEVER THE INPUT: true; the input reads as it did. -/
def fnExactLabelSetSpec : ChangeSpec := { name := "fnExactLabelSet", fn := fun _ => fun
  | [d1, d2, d3] => { results := [.lit (.bool true)], args := [d1, d2, d3] }
  | _ => none }
def fnExactLabelSetRow : OpenClaim := { program := "ytdcknajakmjniaa", sum := "77fa09c658d3efe5b6b9d05ceb487e18243d39da74fbbf23b0902a47db69d1be", func := "loop.example/g00119/laws.FnExactLabelSet", spec := "fnExactLabelSet", inPlace := ["internal/bytealg.abigen_runtime_cmpstring", "slices.overlaps[loop.example/g00119/impl.Label]"], unfollowed := true, recurses := true, apart := false }
def FnExactLabelSetSaid : Prop := fnExactLabelSetRow.holds Try.pinned (OpenSpec.ofChange fnExactLabelSetSpec)

/-- ITS FALSE NEIGHBOUR: 'it returns false'. Refute it at one input. -/
def fnExactLabelSetWrong : ChangeSpec := { name := "fnExactLabelSet", fn := fun _ => fun
  | [d1, d2, d3] => { results := [.lit (.bool false)], args := [d1, d2, d3] }
  | _ => none }
def FnExactLabelSetWrongFalsely : Prop := fnExactLabelSetRow.holds Try.pinned (OpenSpec.ofChange fnExactLabelSetWrong)

/-- 'laws.FnExactLabelDrop': WHATEVER THE INPUT: true; the input reads as it did. -/
def fnExactLabelDropSpec : ChangeSpec := { name := "fnExactLabelDrop", fn := fun _ => fun
  | [d1, d2] => { results := [.lit (.bool true)], args := [d1, d2] }
  | _ => none }
def fnExactLabelDropRow : OpenClaim := { program := "ytdcknajakmjniaa", sum := "77fa09c658d3efe5b6b9d05ceb487e18243d39da74fbbf23b0902a47db69d1be", func := "loop.example/g00119/laws.FnExactLabelDrop", spec := "fnExactLabelDrop", apart := false }
def FnExactLabelDropSaid : Prop := fnExactLabelDropRow.holds Try.pinned (OpenSpec.ofChange fnExactLabelDropSpec)

/-- ITS FALSE NEIGHBOUR: 'it returns false'. Refute it at one input. -/
def fnExactLabelDropWrong : ChangeSpec := { name := "fnExactLabelDrop", fn := fun _ => fun
  | [d1, d2] => { results := [.lit (.bool false)], args := [d1, d2] }
  | _ => none }
def FnExactLabelDropWrongFalsely : Prop := fnExactLabelDropRow.holds Try.pinned (OpenSpec.ofChange fnExactLabelDropWrong)

/-- 'laws.FnExactLabelsText': WHATEVER THE INPUT: true; the input reads as it did. -/
def fnExactLabelsTextSpec : ChangeSpec := { name := "fnExactLabelsText", fn := fun _ => fun
  | [d] => { results := [.lit (.bool true)], args := [d] }
  | _ => none }
def fnExactLabelsTextRow : OpenClaim := { program := "ytdcknajakmjniaa", sum := "77fa09c658d3efe5b6b9d05ceb487e18243d39da74fbbf23b0902a47db69d1be", func := "loop.example/g00119/laws.FnExactLabelsText", spec := "fnExactLabelsText", inPlace := ["internal/abi.NoEscape", "internal/bytealg.MakeNoZero"], apart := false }
def FnExactLabelsTextSaid : Prop := fnExactLabelsTextRow.holds Try.pinned (OpenSpec.ofChange fnExactLabelsTextSpec)

/-- ITS FALSE NEIGHBOUR: 'it returns false'. Refute it at one input. -/
def fnExactLabelsTextWrong : ChangeSpec := { name := "fnExactLabelsText", fn := fun _ => fun
  | [d] => { results := [.lit (.bool false)], args := [d] }
  | _ => none }
def FnExactLabelsTextWrongFalsely : Prop := fnExactLabelsTextRow.holds Try.pinned (OpenSpec.ofChange fnExactLabelsTextWrong)

/- THE SECOND FORM. 'bulk': how many values and letters a reading holds, each counted each time it is reached (what is shared counts as often as it is met; a slice's spare places count too). A statement '..UptoSaid' is the law's where the arguments, and the package variables that the reading takes, are together of bulk at most 1048576: NARROWER than '..Said'. Prove '..Said' where nothing that the law and all that it calls make is longer than what came in: it says more and counts as full. Else prove '..UptoSaid'. A law counts once. -/
mutual
def uptoBulk {H : Type} : DataW H → Nat
  | .lit (.string bytes) => bytes.length + 1
  | .lit _ => 1
  | .nil => 1
  | .ptr d => uptoBulk d + 1
  | .slice elems spare => uptoBulkAll elems + uptoBulkAll spare + 1
  | .agg parts => uptoBulkAll parts + 1
  | .iface _ d => uptoBulk d + 1
  | .map entries => uptoBulkEntries entries + 1
  | .held _ => 1
def uptoBulkAll {H : Type} : List (DataW H) → Nat
  | [] => 0
  | d :: r => uptoBulk d + uptoBulkAll r
def uptoBulkEntries {H : Type} : List (Lit × DataW H) → Nat
  | [] => 0
  | x :: r => uptoBulkEntry x + uptoBulkEntries r
def uptoBulkEntry {H : Type} : Lit × DataW H → Nat
  | (.string bytes, d) => bytes.length + uptoBulk d + 1
  | (_, d) => uptoBulk d + 1
 end
def uptoSmall : (H : Type) → List (DataW H) → Bool := fun _ ds => decide (uptoBulkAll ds ≤ 1048576)
def OpenSpec.upto (s : _root_.Go.ChangeSpec) : _root_.Go.OpenSpec := { _root_.Go.OpenSpec.ofChange s with cond := some uptoSmall }

/-- 'laws.FnExactNameOk', WHERE WHAT IT READS IS OF BULK AT MOST 1048576: true; the input reads as it did. -/
def fnExactNameOkUptoRow : OpenClaim := { program := "ytdcknajakmjniaa", sum := "77fa09c658d3efe5b6b9d05ceb487e18243d39da74fbbf23b0902a47db69d1be", func := "loop.example/g00119/laws.FnExactNameOk", spec := "fnExactNameOk", apart := false, narrowed := true }
def FnExactNameOkUptoSaid : Prop := fnExactNameOkUptoRow.holds Try.pinned (OpenSpec.upto fnExactNameOkSpec)

/-- 'laws.FnExactLabelsOk', WHERE WHAT IT READS IS OF BULK AT MOST 1048576: true; the input reads as it did. -/
def fnExactLabelsOkUptoRow : OpenClaim := { program := "ytdcknajakmjniaa", sum := "77fa09c658d3efe5b6b9d05ceb487e18243d39da74fbbf23b0902a47db69d1be", func := "loop.example/g00119/laws.FnExactLabelsOk", spec := "fnExactLabelsOk", apart := false, narrowed := true }
def FnExactLabelsOkUptoSaid : Prop := fnExactLabelsOkUptoRow.holds Try.pinned (OpenSpec.upto fnExactLabelsOkSpec)

/-- 'laws.FnExactLabelGet', WHERE WHAT IT READS IS OF BULK AT MOST 1048576: true; the input reads as it did. -/
def fnExactLabelGetUptoRow : OpenClaim := { program := "ytdcknajakmjniaa", sum := "77fa09c658d3efe5b6b9d05ceb487e18243d39da74fbbf23b0902a47db69d1be", func := "loop.example/g00119/laws.FnExactLabelGet", spec := "fnExactLabelGet", apart := false, narrowed := true }
def FnExactLabelGetUptoSaid : Prop := fnExactLabelGetUptoRow.holds Try.pinned (OpenSpec.upto fnExactLabelGetSpec)

/-- 'laws.FnExactLabelSet', WHERE WHAT IT READS IS OF BULK AT MOST 1048576: true; the input reads as it did. -/
def fnExactLabelSetUptoRow : OpenClaim := { program := "ytdcknajakmjniaa", sum := "77fa09c658d3efe5b6b9d05ceb487e18243d39da74fbbf23b0902a47db69d1be", func := "loop.example/g00119/laws.FnExactLabelSet", spec := "fnExactLabelSet", inPlace := ["internal/bytealg.abigen_runtime_cmpstring", "slices.overlaps[loop.example/g00119/impl.Label]"], unfollowed := true, recurses := true, apart := false, narrowed := true }
def FnExactLabelSetUptoSaid : Prop := fnExactLabelSetUptoRow.holds Try.pinned (OpenSpec.upto fnExactLabelSetSpec)

/-- 'laws.FnExactLabelDrop', WHERE WHAT IT READS IS OF BULK AT MOST 1048576: true; the input reads as it did. -/
def fnExactLabelDropUptoRow : OpenClaim := { program := "ytdcknajakmjniaa", sum := "77fa09c658d3efe5b6b9d05ceb487e18243d39da74fbbf23b0902a47db69d1be", func := "loop.example/g00119/laws.FnExactLabelDrop", spec := "fnExactLabelDrop", apart := false, narrowed := true }
def FnExactLabelDropUptoSaid : Prop := fnExactLabelDropUptoRow.holds Try.pinned (OpenSpec.upto fnExactLabelDropSpec)

/-- 'laws.FnExactLabelsText', WHERE WHAT IT READS IS OF BULK AT MOST 1048576: true; the input reads as it did. -/
def fnExactLabelsTextUptoRow : OpenClaim := { program := "ytdcknajakmjniaa", sum := "77fa09c658d3efe5b6b9d05ceb487e18243d39da74fbbf23b0902a47db69d1be", func := "loop.example/g00119/laws.FnExactLabelsText", spec := "fnExactLabelsText", inPlace := ["internal/abi.NoEscape", "internal/bytealg.MakeNoZero"], apart := false, narrowed := true }
def FnExactLabelsTextUptoSaid : Prop := fnExactLabelsTextUptoRow.holds Try.pinned (OpenSpec.upto fnExactLabelsTextSpec)

end Rows
end Go.Proofs.Ytdcknajakmjniaa

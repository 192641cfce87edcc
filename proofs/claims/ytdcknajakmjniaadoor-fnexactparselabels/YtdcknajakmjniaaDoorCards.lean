/-
  DERIVED. GIVEN WITH THE SEED: THE CARDS: each row of YtdcknajakmjniaaDoorRows.lean that lists a variable, with what it lists TIED to the program's text (the seventh form; the later family's looks); each row that meets fmt, with fmt's text TOLD by the authors' own Lean function (tested against real Go, not proved from fmt's source: count such statements apart). THE CARD IS WHAT COUNTS. Prove the row's statement (the work); the ties are given (YtdcknajakmjniaaDoorTie.lean); close each card by the builder's one call (the guide's Derived/Test/ToyasCard.lean, 'card_holds'). Laid BY PROGRAM, IN A SANDBOX (cutbox-door.mjs). By AI agents, Wed Nov 11 2026. No macro, syntax, notation, axiom, sorry.
-/
import Derived.Test.YtdcknajakmjniaaDoorRows
import GoSem.ClaimSeven
namespace Go.Proofs.YtdcknajakmjniaaDoor
namespace Rows

/-- THE TIED CARD OF 'laws.FnLabels'. -/
def fnLabelsCard : Claim7 := { stood := { row := fnLabelsRow, standIns := [], harness := (true, "b1271b8ed80fcfbc52dfd00c1b10bbd83472d027a8c211a69db7e5381f36ee15"), looks := false }, kinds := [], alts := [], laidByText := true, laidKinds := [.data, .pinned], laidTests := true, laidLooks := .later }
def FnLabelsCardSaid : Prop := Claim7.holds Tryd.pinned (.plain (OpenSpec.ofChange fnLabelsSpec)) fnLabelsCard

/-- THE TIED CARD OF 'laws.FnExactParseLabels'. -/
def fnExactParseLabelsCard : Claim7 := { stood := { row := fnExactParseLabelsRow, standIns := [], harness := (true, "b1271b8ed80fcfbc52dfd00c1b10bbd83472d027a8c211a69db7e5381f36ee15"), looks := false }, kinds := [], alts := [], laidByText := true, laidKinds := [.data, .pinned], laidTests := true, laidLooks := .later }
def FnExactParseLabelsCardSaid : Prop := Claim7.holds Tryd.pinned (.plain (OpenSpec.ofChange fnExactParseLabelsSpec)) fnExactParseLabelsCard

/-- THE SECOND FORM's CARD OF 'laws.FnLabels'. -/
def fnLabelsUptoCard : Claim7 := { stood := { row := fnLabelsUptoRow, standIns := [], harness := (true, "b1271b8ed80fcfbc52dfd00c1b10bbd83472d027a8c211a69db7e5381f36ee15"), looks := false }, kinds := [], alts := [], laidByText := true, laidKinds := [.data, .pinned], laidTests := true, laidLooks := .later }
def FnLabelsUptoCardSaid : Prop := Claim7.holds Tryd.pinned (.plain (OpenSpec.upto fnLabelsSpec)) fnLabelsUptoCard

/-- THE SECOND FORM's CARD OF 'laws.FnExactParseLabels'. -/
def fnExactParseLabelsUptoCard : Claim7 := { stood := { row := fnExactParseLabelsUptoRow, standIns := [], harness := (true, "b1271b8ed80fcfbc52dfd00c1b10bbd83472d027a8c211a69db7e5381f36ee15"), looks := false }, kinds := [], alts := [], laidByText := true, laidKinds := [.data, .pinned], laidTests := true, laidLooks := .later }
def FnExactParseLabelsUptoCardSaid : Prop := Claim7.holds Tryd.pinned (.plain (OpenSpec.upto fnExactParseLabelsSpec)) fnExactParseLabelsUptoCard
end Rows
end Go.Proofs.YtdcknajakmjniaaDoor

/-
  DERIVED. GIVEN WITH THE SEED: THE CARDS: each row of YtbecmnljflghkaaDoorRows.lean that lists a variable, with what it lists TIED to the program's text (the seventh form; the later family's looks); each row that meets fmt, with fmt's text TOLD by the authors' own Lean function (tested against real Go, not proved from fmt's source: count such statements apart). THE CARD IS WHAT COUNTS. Prove the row's statement (the work); the ties are given (YtbecmnljflghkaaDoorTie.lean); close each card by the builder's one call (the guide's Derived/Test/ToyasCard.lean, 'card_holds'). Laid BY PROGRAM, IN A SANDBOX (cutbox-door.mjs). By AI agents, Wed Nov 11 2026. No macro, syntax, notation, axiom, sorry.
-/
import Derived.Test.YtbecmnljflghkaaDoorRows
import GoSem.ClaimSeven
namespace Go.Proofs.YtbecmnljflghkaaDoor
namespace Rows

/-- THE TIED CARD OF 'laws.FnLabels'. -/
def fnLabelsCard : Claim7 := { stood := { row := fnLabelsRow, standIns := [], harness := (true, "249935d447a3a6aa55551792b68c85ea0a67a33efed2f1011b3a4e1be7f2dea4"), looks := true }, kinds := [], alts := [], laidByText := true, laidKinds := [.data, .pinned], laidTests := true, laidLooks := .later }
def FnLabelsCardSaid : Prop := Claim7.holds Tryd.pinned (.plain (OpenSpec.ofChange fnLabelsSpec)) fnLabelsCard

/-- THE TIED CARD OF 'laws.FnSelectors'. -/
def fnSelectorsCard : Claim7 := { stood := { row := fnSelectorsRow, standIns := [], harness := (true, "249935d447a3a6aa55551792b68c85ea0a67a33efed2f1011b3a4e1be7f2dea4"), looks := true }, kinds := [], alts := [], laidByText := true, laidKinds := [.data, .pinned], laidTests := true, laidLooks := .later }
def FnSelectorsCardSaid : Prop := Claim7.holds Tryd.pinned (.plain (OpenSpec.ofChange fnSelectorsSpec)) fnSelectorsCard

/-- THE TIED CARD OF 'laws.FnExactParseSelector'. -/
def fnExactParseSelectorCard : Claim7 := { stood := { row := fnExactParseSelectorRow, standIns := [], harness := (true, "249935d447a3a6aa55551792b68c85ea0a67a33efed2f1011b3a4e1be7f2dea4"), looks := true }, kinds := [], alts := [], laidByText := true, laidKinds := [.data, .pinned], laidTests := true, laidLooks := .later }
def FnExactParseSelectorCardSaid : Prop := Claim7.holds Tryd.pinned (.plain (OpenSpec.ofChange fnExactParseSelectorSpec)) fnExactParseSelectorCard

/-- THE SECOND FORM's CARD OF 'laws.FnLabels'. -/
def fnLabelsUptoCard : Claim7 := { stood := { row := fnLabelsUptoRow, standIns := [], harness := (true, "249935d447a3a6aa55551792b68c85ea0a67a33efed2f1011b3a4e1be7f2dea4"), looks := true }, kinds := [], alts := [], laidByText := true, laidKinds := [.data, .pinned], laidTests := true, laidLooks := .later }
def FnLabelsUptoCardSaid : Prop := Claim7.holds Tryd.pinned (.plain (OpenSpec.upto fnLabelsSpec)) fnLabelsUptoCard

/-- THE SECOND FORM's CARD OF 'laws.FnSelectors'. -/
def fnSelectorsUptoCard : Claim7 := { stood := { row := fnSelectorsUptoRow, standIns := [], harness := (true, "249935d447a3a6aa55551792b68c85ea0a67a33efed2f1011b3a4e1be7f2dea4"), looks := true }, kinds := [], alts := [], laidByText := true, laidKinds := [.data, .pinned], laidTests := true, laidLooks := .later }
def FnSelectorsUptoCardSaid : Prop := Claim7.holds Tryd.pinned (.plain (OpenSpec.upto fnSelectorsSpec)) fnSelectorsUptoCard

/-- THE SECOND FORM's CARD OF 'laws.FnExactParseSelector'. -/
def fnExactParseSelectorUptoCard : Claim7 := { stood := { row := fnExactParseSelectorUptoRow, standIns := [], harness := (true, "249935d447a3a6aa55551792b68c85ea0a67a33efed2f1011b3a4e1be7f2dea4"), looks := true }, kinds := [], alts := [], laidByText := true, laidKinds := [.data, .pinned], laidTests := true, laidLooks := .later }
def FnExactParseSelectorUptoCardSaid : Prop := Claim7.holds Tryd.pinned (.plain (OpenSpec.upto fnExactParseSelectorSpec)) fnExactParseSelectorUptoCard
end Rows
end Go.Proofs.YtbecmnljflghkaaDoor

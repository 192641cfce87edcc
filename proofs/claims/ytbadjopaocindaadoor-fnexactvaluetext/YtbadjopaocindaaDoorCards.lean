/-
  DERIVED. GIVEN WITH THE SEED: THE CARDS: each row of YtbadjopaocindaaDoorRows.lean that lists a variable, with what it lists TIED to the program's text (the seventh form; the later family's looks); each row that meets fmt, with fmt's text TOLD by the authors' own Lean function (tested against real Go, not proved from fmt's source: count such statements apart). THE CARD IS WHAT COUNTS. Prove the row's statement (the work); the ties are given (YtbadjopaocindaaDoorTie.lean); close each card by the builder's one call (the guide's Derived/Test/ToyasCard.lean, 'card_holds'). Laid BY PROGRAM, IN A SANDBOX (cutbox-door.mjs). By AI agents, Wed Nov 11 2026. No macro, syntax, notation, axiom, sorry.
-/
import Derived.Test.YtbadjopaocindaaDoorRows
import GoSem.ClaimSeven
namespace Go.Proofs.YtbadjopaocindaaDoor
namespace Rows

/-- THE TIED CARD OF 'laws.FnSelectors'. -/
def fnSelectorsCard : Claim7 := { stood := { row := fnSelectorsRow, standIns := [], harness := (true, "579ac855fbfc7e3cb7ece2ec381309a1f2c7c27193f40a2b662fa06a4261333d"), looks := true }, kinds := [], alts := [], laidByText := true, laidKinds := [.data, .pinned], laidTests := true, laidLooks := .later }
def FnSelectorsCardSaid : Prop := Claim7.holds Tryd.pinned (.plain (OpenSpec.ofChange fnSelectorsSpec)) fnSelectorsCard

/-- THE TIED CARD OF 'laws.FnExactParseSelector'. -/
def fnExactParseSelectorCard : Claim7 := { stood := { row := fnExactParseSelectorRow, standIns := [], harness := (true, "579ac855fbfc7e3cb7ece2ec381309a1f2c7c27193f40a2b662fa06a4261333d"), looks := true }, kinds := [], alts := [], laidByText := true, laidKinds := [.data, .pinned], laidTests := true, laidLooks := .later }
def FnExactParseSelectorCardSaid : Prop := Claim7.holds Tryd.pinned (.plain (OpenSpec.ofChange fnExactParseSelectorSpec)) fnExactParseSelectorCard

/-- THE TIED CARD OF 'laws.FnExactValueText'. -/
def fnExactValueTextCard : Claim7 := { stood := { row := fnExactValueTextRow, standIns := [], harness := (true, "579ac855fbfc7e3cb7ece2ec381309a1f2c7c27193f40a2b662fa06a4261333d"), looks := true }, kinds := [], alts := [], laidByText := true, laidKinds := [.data, .data, .data, .data, .pinned], laidTests := true, laidLooks := .later }
def FnExactValueTextCardSaid : Prop := Claim7.holds Tryd.pinned (.plain (OpenSpec.ofChange fnExactValueTextSpec)) fnExactValueTextCard

/-- THE SECOND FORM's CARD OF 'laws.FnSelectors'. -/
def fnSelectorsUptoCard : Claim7 := { stood := { row := fnSelectorsUptoRow, standIns := [], harness := (true, "579ac855fbfc7e3cb7ece2ec381309a1f2c7c27193f40a2b662fa06a4261333d"), looks := true }, kinds := [], alts := [], laidByText := true, laidKinds := [.data, .pinned], laidTests := true, laidLooks := .later }
def FnSelectorsUptoCardSaid : Prop := Claim7.holds Tryd.pinned (.plain (OpenSpec.upto fnSelectorsSpec)) fnSelectorsUptoCard

/-- THE SECOND FORM's CARD OF 'laws.FnExactParseSelector'. -/
def fnExactParseSelectorUptoCard : Claim7 := { stood := { row := fnExactParseSelectorUptoRow, standIns := [], harness := (true, "579ac855fbfc7e3cb7ece2ec381309a1f2c7c27193f40a2b662fa06a4261333d"), looks := true }, kinds := [], alts := [], laidByText := true, laidKinds := [.data, .pinned], laidTests := true, laidLooks := .later }
def FnExactParseSelectorUptoCardSaid : Prop := Claim7.holds Tryd.pinned (.plain (OpenSpec.upto fnExactParseSelectorSpec)) fnExactParseSelectorUptoCard

/-- THE SECOND FORM's CARD OF 'laws.FnExactValueText'. -/
def fnExactValueTextUptoCard : Claim7 := { stood := { row := fnExactValueTextUptoRow, standIns := [], harness := (true, "579ac855fbfc7e3cb7ece2ec381309a1f2c7c27193f40a2b662fa06a4261333d"), looks := true }, kinds := [], alts := [], laidByText := true, laidKinds := [.data, .data, .data, .data, .pinned], laidTests := true, laidLooks := .later }
def FnExactValueTextUptoCardSaid : Prop := Claim7.holds Tryd.pinned (.plain (OpenSpec.upto fnExactValueTextSpec)) fnExactValueTextUptoCard
end Rows
end Go.Proofs.YtbadjopaocindaaDoor

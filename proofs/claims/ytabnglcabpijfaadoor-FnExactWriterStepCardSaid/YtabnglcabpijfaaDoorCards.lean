/-
  DERIVED. GIVEN WITH THE SEED: THE CARDS: each row of YtabnglcabpijfaaDoorRows.lean that lists a variable, with what it lists TIED to the program's text (the seventh form; the later family's looks); each row that meets fmt, with fmt's text TOLD by the authors' own Lean function (tested against real Go, not proved from fmt's source: count such statements apart). THE CARD IS WHAT COUNTS. Prove the row's statement (the work); the ties are given (YtabnglcabpijfaaDoorTie.lean); close each card by the builder's one call (the guide's Derived/Test/ToyasCard.lean, 'card_holds'). Laid BY PROGRAM, IN A SANDBOX (cutbox-door.mjs). By AI agents, Wed Nov 11 2026. No macro, syntax, notation, axiom, sorry.
-/
import Derived.Test.YtabnglcabpijfaaDoorRows
import GoSem.ClaimSeven
namespace Go.Proofs.YtabnglcabpijfaaDoor
namespace Rows

/-- THE TIED CARD OF 'laws.FnExactWriterStep'. -/
def fnExactWriterStepCard : Claim7 := { stood := { row := fnExactWriterStepRow, standIns := [], harness := (true, "d5e3bcc32c0945b99f6a8373c0e936e9a3c5b21048a761dc65ae825b03f71fc0"), looks := true }, kinds := [], alts := [], laidByText := true, laidKinds := [.sentinel, .sentinel, .sentinel], laidTests := true, laidLooks := .later }
def FnExactWriterStepCardSaid : Prop := Claim7.holds Tryd.pinned (.plain (OpenSpec.ofChange fnExactWriterStepSpec)) fnExactWriterStepCard

/-- THE SECOND FORM's CARD OF 'laws.FnExactWriterStep'. -/
def fnExactWriterStepUptoCard : Claim7 := { stood := { row := fnExactWriterStepUptoRow, standIns := [], harness := (true, "d5e3bcc32c0945b99f6a8373c0e936e9a3c5b21048a761dc65ae825b03f71fc0"), looks := true }, kinds := [], alts := [], laidByText := true, laidKinds := [.sentinel, .sentinel, .sentinel], laidTests := true, laidLooks := .later }
def FnExactWriterStepUptoCardSaid : Prop := Claim7.holds Tryd.pinned (.plain (OpenSpec.upto fnExactWriterStepSpec)) fnExactWriterStepUptoCard
end Rows
end Go.Proofs.YtabnglcabpijfaaDoor

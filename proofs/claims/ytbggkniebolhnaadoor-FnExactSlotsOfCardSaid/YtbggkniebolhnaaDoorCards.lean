/-
  DERIVED. GIVEN WITH THE SEED: THE CARDS: each row of YtbggkniebolhnaaDoorRows.lean that lists a variable, with what it lists TIED to the program's text (the seventh form; the later family's looks); each row that meets fmt, with fmt's text TOLD by the authors' own Lean function (tested against real Go, not proved from fmt's source: count such statements apart). THE CARD IS WHAT COUNTS. Prove the row's statement (the work); the ties are given (YtbggkniebolhnaaDoorTie.lean); close each card by the builder's one call (the guide's Derived/Test/ToyasCard.lean, 'card_holds'). Laid BY PROGRAM, IN A SANDBOX (cutbox-door.mjs). By AI agents, Wed Nov 11 2026. No macro, syntax, notation, axiom, sorry.
-/
import Derived.Test.YtbggkniebolhnaaDoorRows
import GoSem.ClaimSeven
namespace Go.Proofs.YtbggkniebolhnaaDoor
namespace Rows

/-- THE TIED CARD OF 'laws.FnWaste'. -/
def fnWasteCard : Claim7 := { stood := { row := fnWasteRow, standIns := [], harness := (true, "79732e7af328e8569ef3e123a9013d25ede3c91fd0b3eaeac537605698faa451"), looks := false }, kinds := [], alts := [], laidByText := true, laidKinds := [.data], laidTests := true, laidLooks := .later }
def FnWasteCardSaid : Prop := Claim7.holds Tryd.pinned (.plain (OpenSpec.ofChange fnWasteSpec)) fnWasteCard

/-- THE TIED CARD OF 'laws.FnPages'. -/
def fnPagesCard : Claim7 := { stood := { row := fnPagesRow, standIns := [], harness := (true, "79732e7af328e8569ef3e123a9013d25ede3c91fd0b3eaeac537605698faa451"), looks := false }, kinds := [], alts := [], laidByText := true, laidKinds := [.data], laidTests := true, laidLooks := .later }
def FnPagesCardSaid : Prop := Claim7.holds Tryd.pinned (.plain (OpenSpec.ofChange fnPagesSpec)) fnPagesCard

/-- THE TIED CARD OF 'laws.FnExactClassOf'. -/
def fnExactClassOfCard : Claim7 := { stood := { row := fnExactClassOfRow, standIns := [], harness := (true, "79732e7af328e8569ef3e123a9013d25ede3c91fd0b3eaeac537605698faa451"), looks := false }, kinds := [], alts := [], laidByText := true, laidKinds := [.data], laidTests := true, laidLooks := .later }
def FnExactClassOfCardSaid : Prop := Claim7.holds Tryd.pinned (.plain (OpenSpec.ofChange fnExactClassOfSpec)) fnExactClassOfCard

/-- THE TIED CARD OF 'laws.FnExactClassSize'. -/
def fnExactClassSizeCard : Claim7 := { stood := { row := fnExactClassSizeRow, standIns := [], harness := (true, "79732e7af328e8569ef3e123a9013d25ede3c91fd0b3eaeac537605698faa451"), looks := false }, kinds := [], alts := [], laidByText := true, laidKinds := [.data], laidTests := true, laidLooks := .later }
def FnExactClassSizeCardSaid : Prop := Claim7.holds Tryd.pinned (.plain (OpenSpec.ofChange fnExactClassSizeSpec)) fnExactClassSizeCard

/-- THE TIED CARD OF 'laws.FnExactSlotsOf'. -/
def fnExactSlotsOfCard : Claim7 := { stood := { row := fnExactSlotsOfRow, standIns := [], harness := (true, "79732e7af328e8569ef3e123a9013d25ede3c91fd0b3eaeac537605698faa451"), looks := false }, kinds := [], alts := [], laidByText := true, laidKinds := [.data], laidTests := true, laidLooks := .later }
def FnExactSlotsOfCardSaid : Prop := Claim7.holds Tryd.pinned (.plain (OpenSpec.ofChange fnExactSlotsOfSpec)) fnExactSlotsOfCard

/-- THE TIED CARD OF 'laws.FnExactWaste'. -/
def fnExactWasteCard : Claim7 := { stood := { row := fnExactWasteRow, standIns := [], harness := (true, "79732e7af328e8569ef3e123a9013d25ede3c91fd0b3eaeac537605698faa451"), looks := false }, kinds := [], alts := [], laidByText := true, laidKinds := [.data], laidTests := true, laidLooks := .later }
def FnExactWasteCardSaid : Prop := Claim7.holds Tryd.pinned (.plain (OpenSpec.ofChange fnExactWasteSpec)) fnExactWasteCard

/-- THE SECOND FORM's CARD OF 'laws.FnWaste'. -/
def fnWasteUptoCard : Claim7 := { stood := { row := fnWasteUptoRow, standIns := [], harness := (true, "79732e7af328e8569ef3e123a9013d25ede3c91fd0b3eaeac537605698faa451"), looks := false }, kinds := [], alts := [], laidByText := true, laidKinds := [.data], laidTests := true, laidLooks := .later }
def FnWasteUptoCardSaid : Prop := Claim7.holds Tryd.pinned (.plain (OpenSpec.upto fnWasteSpec)) fnWasteUptoCard

/-- THE SECOND FORM's CARD OF 'laws.FnPages'. -/
def fnPagesUptoCard : Claim7 := { stood := { row := fnPagesUptoRow, standIns := [], harness := (true, "79732e7af328e8569ef3e123a9013d25ede3c91fd0b3eaeac537605698faa451"), looks := false }, kinds := [], alts := [], laidByText := true, laidKinds := [.data], laidTests := true, laidLooks := .later }
def FnPagesUptoCardSaid : Prop := Claim7.holds Tryd.pinned (.plain (OpenSpec.upto fnPagesSpec)) fnPagesUptoCard

/-- THE SECOND FORM's CARD OF 'laws.FnExactClassOf'. -/
def fnExactClassOfUptoCard : Claim7 := { stood := { row := fnExactClassOfUptoRow, standIns := [], harness := (true, "79732e7af328e8569ef3e123a9013d25ede3c91fd0b3eaeac537605698faa451"), looks := false }, kinds := [], alts := [], laidByText := true, laidKinds := [.data], laidTests := true, laidLooks := .later }
def FnExactClassOfUptoCardSaid : Prop := Claim7.holds Tryd.pinned (.plain (OpenSpec.upto fnExactClassOfSpec)) fnExactClassOfUptoCard

/-- THE SECOND FORM's CARD OF 'laws.FnExactClassSize'. -/
def fnExactClassSizeUptoCard : Claim7 := { stood := { row := fnExactClassSizeUptoRow, standIns := [], harness := (true, "79732e7af328e8569ef3e123a9013d25ede3c91fd0b3eaeac537605698faa451"), looks := false }, kinds := [], alts := [], laidByText := true, laidKinds := [.data], laidTests := true, laidLooks := .later }
def FnExactClassSizeUptoCardSaid : Prop := Claim7.holds Tryd.pinned (.plain (OpenSpec.upto fnExactClassSizeSpec)) fnExactClassSizeUptoCard

/-- THE SECOND FORM's CARD OF 'laws.FnExactSlotsOf'. -/
def fnExactSlotsOfUptoCard : Claim7 := { stood := { row := fnExactSlotsOfUptoRow, standIns := [], harness := (true, "79732e7af328e8569ef3e123a9013d25ede3c91fd0b3eaeac537605698faa451"), looks := false }, kinds := [], alts := [], laidByText := true, laidKinds := [.data], laidTests := true, laidLooks := .later }
def FnExactSlotsOfUptoCardSaid : Prop := Claim7.holds Tryd.pinned (.plain (OpenSpec.upto fnExactSlotsOfSpec)) fnExactSlotsOfUptoCard

/-- THE SECOND FORM's CARD OF 'laws.FnExactWaste'. -/
def fnExactWasteUptoCard : Claim7 := { stood := { row := fnExactWasteUptoRow, standIns := [], harness := (true, "79732e7af328e8569ef3e123a9013d25ede3c91fd0b3eaeac537605698faa451"), looks := false }, kinds := [], alts := [], laidByText := true, laidKinds := [.data], laidTests := true, laidLooks := .later }
def FnExactWasteUptoCardSaid : Prop := Claim7.holds Tryd.pinned (.plain (OpenSpec.upto fnExactWasteSpec)) fnExactWasteUptoCard
end Rows
end Go.Proofs.YtbggkniebolhnaaDoor

/-
  DERIVED. GIVEN WITH THE SEED: THE CARDS: each row of YthcgaeodcoidnaaDoorRows.lean that lists a variable, with what it lists TIED to the program's text (the seventh form; the later family's looks); each row that meets fmt, with fmt's text TOLD by the authors' own Lean function (tested against real Go, not proved from fmt's source: count such statements apart). THE CARD IS WHAT COUNTS. Prove the row's statement (the work); the ties are given (YthcgaeodcoidnaaDoorTie.lean); close each card by the builder's one call (the guide's Derived/Test/ToyasCard.lean, 'card_holds'). Laid BY PROGRAM, IN A SANDBOX (cutbox-door.mjs). By AI agents, Wed Nov 11 2026. No macro, syntax, notation, axiom, sorry.
-/
import Derived.Test.YthcgaeodcoidnaaDoorRows
import GoSem.ClaimSeven
namespace Go.Proofs.YthcgaeodcoidnaaDoor
namespace Rows

/-- THE TIED CARD OF 'laws.FnPairs'. -/
def fnPairsCard : Claim7 := { stood := { row := fnPairsRow, standIns := [], harness := (true, "c1d326269790ec4e46b75517593ce96516313a8e975c91351ec5fdd6d1c87ac5"), looks := false }, kinds := [], alts := [], laidByText := true, laidKinds := [.data, .data], laidTests := true, laidLooks := .later }
def FnPairsCardSaid : Prop := Claim7.holds Tryd.pinned (.plain (OpenSpec.ofChange fnPairsSpec)) fnPairsCard

/-- THE TIED CARD OF 'laws.FnAllTried'. -/
def fnAllTriedCard : Claim7 := { stood := { row := fnAllTriedRow, standIns := [], harness := (true, "c1d326269790ec4e46b75517593ce96516313a8e975c91351ec5fdd6d1c87ac5"), looks := false }, kinds := [], alts := [], laidByText := true, laidKinds := [.data, .data], laidTests := true, laidLooks := .later }
def FnAllTriedCardSaid : Prop := Claim7.holds Tryd.pinned (.plain (OpenSpec.ofChange fnAllTriedSpec)) fnAllTriedCard

/-- THE TIED CARD OF 'laws.FnExactSplitPairs'. -/
def fnExactSplitPairsCard : Claim7 := { stood := { row := fnExactSplitPairsRow, standIns := [], harness := (true, "c1d326269790ec4e46b75517593ce96516313a8e975c91351ec5fdd6d1c87ac5"), looks := false }, kinds := [], alts := [], laidByText := true, laidKinds := [.data, .data], laidTests := true, laidLooks := .later }
def FnExactSplitPairsCardSaid : Prop := Claim7.holds Tryd.pinned (.plain (OpenSpec.ofChange fnExactSplitPairsSpec)) fnExactSplitPairsCard

/-- THE TIED CARD OF 'laws.FnExactPairsOk'. -/
def fnExactPairsOkCard : Claim7 := { stood := { row := fnExactPairsOkRow, standIns := [], harness := (true, "c1d326269790ec4e46b75517593ce96516313a8e975c91351ec5fdd6d1c87ac5"), looks := false }, kinds := [], alts := [], laidByText := true, laidKinds := [.data, .data], laidTests := true, laidLooks := .later }
def FnExactPairsOkCardSaid : Prop := Claim7.holds Tryd.pinned (.plain (OpenSpec.ofChange fnExactPairsOkSpec)) fnExactPairsOkCard

/-- THE TIED CARD OF 'laws.FnExactBestPairs'. -/
def fnExactBestPairsCard : Claim7 := { stood := { row := fnExactBestPairsRow, standIns := [], harness := (true, "c1d326269790ec4e46b75517593ce96516313a8e975c91351ec5fdd6d1c87ac5"), looks := false }, kinds := [], alts := [], laidByText := true, laidKinds := [.data, .data], laidTests := true, laidLooks := .later }
def FnExactBestPairsCardSaid : Prop := Claim7.holds Tryd.pinned (.plain (OpenSpec.ofChange fnExactBestPairsSpec)) fnExactBestPairsCard

/-- THE TIED CARD OF 'laws.FnExactGreedyPairs'. -/
def fnExactGreedyPairsCard : Claim7 := { stood := { row := fnExactGreedyPairsRow, standIns := [], harness := (true, "c1d326269790ec4e46b75517593ce96516313a8e975c91351ec5fdd6d1c87ac5"), looks := false }, kinds := [], alts := [], laidByText := true, laidKinds := [.data, .data], laidTests := true, laidLooks := .later }
def FnExactGreedyPairsCardSaid : Prop := Claim7.holds Tryd.pinned (.plain (OpenSpec.ofChange fnExactGreedyPairsSpec)) fnExactGreedyPairsCard

/-- THE SECOND FORM's CARD OF 'laws.FnPairs'. -/
def fnPairsUptoCard : Claim7 := { stood := { row := fnPairsUptoRow, standIns := [], harness := (true, "c1d326269790ec4e46b75517593ce96516313a8e975c91351ec5fdd6d1c87ac5"), looks := false }, kinds := [], alts := [], laidByText := true, laidKinds := [.data, .data], laidTests := true, laidLooks := .later }
def FnPairsUptoCardSaid : Prop := Claim7.holds Tryd.pinned (.plain (OpenSpec.upto fnPairsSpec)) fnPairsUptoCard

/-- THE SECOND FORM's CARD OF 'laws.FnAllTried'. -/
def fnAllTriedUptoCard : Claim7 := { stood := { row := fnAllTriedUptoRow, standIns := [], harness := (true, "c1d326269790ec4e46b75517593ce96516313a8e975c91351ec5fdd6d1c87ac5"), looks := false }, kinds := [], alts := [], laidByText := true, laidKinds := [.data, .data], laidTests := true, laidLooks := .later }
def FnAllTriedUptoCardSaid : Prop := Claim7.holds Tryd.pinned (.plain (OpenSpec.upto fnAllTriedSpec)) fnAllTriedUptoCard

/-- THE SECOND FORM's CARD OF 'laws.FnExactSplitPairs'. -/
def fnExactSplitPairsUptoCard : Claim7 := { stood := { row := fnExactSplitPairsUptoRow, standIns := [], harness := (true, "c1d326269790ec4e46b75517593ce96516313a8e975c91351ec5fdd6d1c87ac5"), looks := false }, kinds := [], alts := [], laidByText := true, laidKinds := [.data, .data], laidTests := true, laidLooks := .later }
def FnExactSplitPairsUptoCardSaid : Prop := Claim7.holds Tryd.pinned (.plain (OpenSpec.upto fnExactSplitPairsSpec)) fnExactSplitPairsUptoCard

/-- THE SECOND FORM's CARD OF 'laws.FnExactPairsOk'. -/
def fnExactPairsOkUptoCard : Claim7 := { stood := { row := fnExactPairsOkUptoRow, standIns := [], harness := (true, "c1d326269790ec4e46b75517593ce96516313a8e975c91351ec5fdd6d1c87ac5"), looks := false }, kinds := [], alts := [], laidByText := true, laidKinds := [.data, .data], laidTests := true, laidLooks := .later }
def FnExactPairsOkUptoCardSaid : Prop := Claim7.holds Tryd.pinned (.plain (OpenSpec.upto fnExactPairsOkSpec)) fnExactPairsOkUptoCard

/-- THE SECOND FORM's CARD OF 'laws.FnExactBestPairs'. -/
def fnExactBestPairsUptoCard : Claim7 := { stood := { row := fnExactBestPairsUptoRow, standIns := [], harness := (true, "c1d326269790ec4e46b75517593ce96516313a8e975c91351ec5fdd6d1c87ac5"), looks := false }, kinds := [], alts := [], laidByText := true, laidKinds := [.data, .data], laidTests := true, laidLooks := .later }
def FnExactBestPairsUptoCardSaid : Prop := Claim7.holds Tryd.pinned (.plain (OpenSpec.upto fnExactBestPairsSpec)) fnExactBestPairsUptoCard

/-- THE SECOND FORM's CARD OF 'laws.FnExactGreedyPairs'. -/
def fnExactGreedyPairsUptoCard : Claim7 := { stood := { row := fnExactGreedyPairsUptoRow, standIns := [], harness := (true, "c1d326269790ec4e46b75517593ce96516313a8e975c91351ec5fdd6d1c87ac5"), looks := false }, kinds := [], alts := [], laidByText := true, laidKinds := [.data, .data], laidTests := true, laidLooks := .later }
def FnExactGreedyPairsUptoCardSaid : Prop := Claim7.holds Tryd.pinned (.plain (OpenSpec.upto fnExactGreedyPairsSpec)) fnExactGreedyPairsUptoCard
end Rows
end Go.Proofs.YthcgaeodcoidnaaDoor

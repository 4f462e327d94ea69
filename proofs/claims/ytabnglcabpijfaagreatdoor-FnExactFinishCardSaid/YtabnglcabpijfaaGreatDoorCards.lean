/-
  DERIVED. GIVEN WITH THE SEED: THE CARDS: each row of YtabnglcabpijfaaGreatDoorRows.lean that lists a variable, with what it lists TIED to the program's text (the seventh form; the later family's looks); each row that meets fmt, with fmt's text TOLD by the authors' own Lean function (tested against real Go, not proved from fmt's source: count such statements apart). THE CARD IS WHAT COUNTS. Prove the row's statement (the work); the ties are given (YtabnglcabpijfaaGreatDoorTie.lean); close each card by the builder's one call (the guide's Derived/Test/ToyasCard.lean, 'card_holds'). Laid BY PROGRAM, IN A SANDBOX (cutbox-door.mjs). By AI agents, Wed Nov 11 2026. No macro, syntax, notation, axiom, sorry.
-/
import Derived.Test.YtabnglcabpijfaaGreatDoorRows
import GoSem.ClaimSeven
namespace Go.Proofs.YtabnglcabpijfaaGreatDoor
namespace Rows

/-- THE TIED CARD OF 'laws.FnWriters'. -/
def fnWritersCard : Claim7 := { stood := { row := fnWritersRow, standIns := [], harness := (true, "b8f34f7fcbfa5e3ad11b4e984d0a0a0196695870191e3e50205284e8deb6740e"), looks := true }, kinds := [], alts := [], goes := true, laidByText := true, laidKinds := [.sentinel, .sentinel, .sentinel], laidTests := true, laidLooks := .later }
def FnWritersCardSaid : Prop := Claim7.holds Tryz.pinned (.plain (OpenSpec.ofChange fnWritersSpec)) fnWritersCard

/-- THE TIED CARD OF 'laws.FnWaits'. -/
def fnWaitsCard : Claim7 := { stood := { row := fnWaitsRow, standIns := [], harness := (true, "b8f34f7fcbfa5e3ad11b4e984d0a0a0196695870191e3e50205284e8deb6740e"), looks := true }, kinds := [], alts := [], goes := true, laidByText := true, laidKinds := [.sentinel, .sentinel, .sentinel], laidTests := true, laidLooks := .later }
def FnWaitsCardSaid : Prop := Claim7.holds Tryz.pinned (.plain (OpenSpec.ofChange fnWaitsSpec)) fnWaitsCard

/-- THE TIED CARD OF 'laws.FnExactInterleave'. -/
def fnExactInterleaveCard : Claim7 := { stood := { row := fnExactInterleaveRow, standIns := [], harness := (true, "b8f34f7fcbfa5e3ad11b4e984d0a0a0196695870191e3e50205284e8deb6740e"), looks := true }, kinds := [], alts := [], goes := true, laidByText := true, laidKinds := [.sentinel, .sentinel, .sentinel], laidTests := true, laidLooks := .later }
def FnExactInterleaveCardSaid : Prop := Claim7.holds Tryz.pinned (.plain (OpenSpec.ofChange fnExactInterleaveSpec)) fnExactInterleaveCard

/-- THE TIED CARD OF 'laws.FnExactFinish'. -/
def fnExactFinishCard : Claim7 := { stood := { row := fnExactFinishRow, standIns := [], harness := (true, "b8f34f7fcbfa5e3ad11b4e984d0a0a0196695870191e3e50205284e8deb6740e"), looks := true }, kinds := [], alts := [], goes := true, laidByText := true, laidKinds := [.sentinel, .sentinel, .sentinel], laidTests := true, laidLooks := .later }
def FnExactFinishCardSaid : Prop := Claim7.holds Tryz.pinned (.plain (OpenSpec.ofChange fnExactFinishSpec)) fnExactFinishCard

/-- THE SECOND FORM's CARD OF 'laws.FnWriters'. -/
def fnWritersUptoCard : Claim7 := { stood := { row := fnWritersUptoRow, standIns := [], harness := (true, "b8f34f7fcbfa5e3ad11b4e984d0a0a0196695870191e3e50205284e8deb6740e"), looks := true }, kinds := [], alts := [], goes := true, laidByText := true, laidKinds := [.sentinel, .sentinel, .sentinel], laidTests := true, laidLooks := .later }
def FnWritersUptoCardSaid : Prop := Claim7.holds Tryz.pinned (.plain (OpenSpec.upto fnWritersSpec)) fnWritersUptoCard

/-- THE SECOND FORM's CARD OF 'laws.FnWaits'. -/
def fnWaitsUptoCard : Claim7 := { stood := { row := fnWaitsUptoRow, standIns := [], harness := (true, "b8f34f7fcbfa5e3ad11b4e984d0a0a0196695870191e3e50205284e8deb6740e"), looks := true }, kinds := [], alts := [], goes := true, laidByText := true, laidKinds := [.sentinel, .sentinel, .sentinel], laidTests := true, laidLooks := .later }
def FnWaitsUptoCardSaid : Prop := Claim7.holds Tryz.pinned (.plain (OpenSpec.upto fnWaitsSpec)) fnWaitsUptoCard

/-- THE SECOND FORM's CARD OF 'laws.FnExactInterleave'. -/
def fnExactInterleaveUptoCard : Claim7 := { stood := { row := fnExactInterleaveUptoRow, standIns := [], harness := (true, "b8f34f7fcbfa5e3ad11b4e984d0a0a0196695870191e3e50205284e8deb6740e"), looks := true }, kinds := [], alts := [], goes := true, laidByText := true, laidKinds := [.sentinel, .sentinel, .sentinel], laidTests := true, laidLooks := .later }
def FnExactInterleaveUptoCardSaid : Prop := Claim7.holds Tryz.pinned (.plain (OpenSpec.upto fnExactInterleaveSpec)) fnExactInterleaveUptoCard

/-- THE SECOND FORM's CARD OF 'laws.FnExactFinish'. -/
def fnExactFinishUptoCard : Claim7 := { stood := { row := fnExactFinishUptoRow, standIns := [], harness := (true, "b8f34f7fcbfa5e3ad11b4e984d0a0a0196695870191e3e50205284e8deb6740e"), looks := true }, kinds := [], alts := [], goes := true, laidByText := true, laidKinds := [.sentinel, .sentinel, .sentinel], laidTests := true, laidLooks := .later }
def FnExactFinishUptoCardSaid : Prop := Claim7.holds Tryz.pinned (.plain (OpenSpec.upto fnExactFinishSpec)) fnExactFinishUptoCard
end Rows
end Go.Proofs.YtabnglcabpijfaaGreatDoor

/-
  DERIVED. GIVEN WITH THE SEED: THE CARDS: each row of YtfiofmaknndpcaaGreatDoorRows.lean that lists a variable, with what it lists TIED to the program's text (the seventh form; the later family's looks); each row that meets fmt, with fmt's text TOLD by the authors' own Lean function (tested against real Go, not proved from fmt's source: count such statements apart). THE CARD IS WHAT COUNTS. Prove the row's statement (the work); the ties are given (YtfiofmaknndpcaaGreatDoorTie.lean); close each card by the builder's one call (the guide's Derived/Test/ToyasCard.lean, 'card_holds'). Laid BY PROGRAM, IN A SANDBOX (cutbox-door.mjs). By AI agents, Wed Nov 11 2026. No macro, syntax, notation, axiom, sorry.
-/
import Derived.Test.YtfiofmaknndpcaaGreatDoorRows
import GoSem.ClaimSeven
namespace Go.Proofs.YtfiofmaknndpcaaGreatDoor
namespace Rows

/-- THE TIED CARD OF 'laws.FnWriters'. -/
def fnWritersCard : Claim7 := { stood := { row := fnWritersRow, standIns := [], harness := (true, "104fb6c33fceb17274ed019cd8abd730c9526012eb8d8f89a7edfbb85dd22ca1"), looks := true }, kinds := [], alts := [], goes := true, laidByText := true, laidKinds := [.sentinel, .sentinel, .sentinel], laidTests := true, laidLooks := .later }
def FnWritersCardSaid : Prop := Claim7.holds Tryz.pinned (.plain (OpenSpec.ofChange fnWritersSpec)) fnWritersCard

/-- THE TIED CARD OF 'laws.FnWaits'. -/
def fnWaitsCard : Claim7 := { stood := { row := fnWaitsRow, standIns := [], harness := (true, "104fb6c33fceb17274ed019cd8abd730c9526012eb8d8f89a7edfbb85dd22ca1"), looks := true }, kinds := [], alts := [], goes := true, laidByText := true, laidKinds := [.sentinel, .sentinel, .sentinel], laidTests := true, laidLooks := .later }
def FnWaitsCardSaid : Prop := Claim7.holds Tryz.pinned (.plain (OpenSpec.ofChange fnWaitsSpec)) fnWaitsCard

/-- THE TIED CARD OF 'laws.FnExactInterleave'. -/
def fnExactInterleaveCard : Claim7 := { stood := { row := fnExactInterleaveRow, standIns := [], harness := (true, "104fb6c33fceb17274ed019cd8abd730c9526012eb8d8f89a7edfbb85dd22ca1"), looks := true }, kinds := [], alts := [], goes := true, laidByText := true, laidKinds := [.sentinel, .sentinel, .sentinel], laidTests := true, laidLooks := .later }
def FnExactInterleaveCardSaid : Prop := Claim7.holds Tryz.pinned (.plain (OpenSpec.ofChange fnExactInterleaveSpec)) fnExactInterleaveCard

/-- THE SECOND FORM's CARD OF 'laws.FnWriters'. -/
def fnWritersUptoCard : Claim7 := { stood := { row := fnWritersUptoRow, standIns := [], harness := (true, "104fb6c33fceb17274ed019cd8abd730c9526012eb8d8f89a7edfbb85dd22ca1"), looks := true }, kinds := [], alts := [], goes := true, laidByText := true, laidKinds := [.sentinel, .sentinel, .sentinel], laidTests := true, laidLooks := .later }
def FnWritersUptoCardSaid : Prop := Claim7.holds Tryz.pinned (.plain (OpenSpec.upto fnWritersSpec)) fnWritersUptoCard

/-- THE SECOND FORM's CARD OF 'laws.FnWaits'. -/
def fnWaitsUptoCard : Claim7 := { stood := { row := fnWaitsUptoRow, standIns := [], harness := (true, "104fb6c33fceb17274ed019cd8abd730c9526012eb8d8f89a7edfbb85dd22ca1"), looks := true }, kinds := [], alts := [], goes := true, laidByText := true, laidKinds := [.sentinel, .sentinel, .sentinel], laidTests := true, laidLooks := .later }
def FnWaitsUptoCardSaid : Prop := Claim7.holds Tryz.pinned (.plain (OpenSpec.upto fnWaitsSpec)) fnWaitsUptoCard

/-- THE SECOND FORM's CARD OF 'laws.FnExactInterleave'. -/
def fnExactInterleaveUptoCard : Claim7 := { stood := { row := fnExactInterleaveUptoRow, standIns := [], harness := (true, "104fb6c33fceb17274ed019cd8abd730c9526012eb8d8f89a7edfbb85dd22ca1"), looks := true }, kinds := [], alts := [], goes := true, laidByText := true, laidKinds := [.sentinel, .sentinel, .sentinel], laidTests := true, laidLooks := .later }
def FnExactInterleaveUptoCardSaid : Prop := Claim7.holds Tryz.pinned (.plain (OpenSpec.upto fnExactInterleaveSpec)) fnExactInterleaveUptoCard
end Rows
end Go.Proofs.YtfiofmaknndpcaaGreatDoor

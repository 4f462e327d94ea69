/-
  DERIVED. GIVEN WITH THE SEED: THE CARDS: each row of YtlkkiopjknbomaaGreatDoorRows.lean that lists a variable, with what it lists TIED to the program's text (the seventh form; the later family's looks); each row that meets fmt, with fmt's text TOLD by the authors' own Lean function (tested against real Go, not proved from fmt's source: count such statements apart). THE CARD IS WHAT COUNTS. Prove the row's statement (the work); the ties are given (YtlkkiopjknbomaaGreatDoorTie.lean); close each card by the builder's one call (the guide's Derived/Test/ToyasCard.lean, 'card_holds'). Laid BY PROGRAM, IN A SANDBOX (cutbox-door.mjs). By AI agents, Wed Nov 11 2026. No macro, syntax, notation, axiom, sorry.
-/
import Derived.Test.YtlkkiopjknbomaaGreatDoorRows
import GoSem.ClaimSeven
namespace Go.Proofs.YtlkkiopjknbomaaGreatDoor
namespace Rows

/-- THE TIED CARD OF 'laws.FnJobs'. -/
def fnJobsCard : Claim7 := { stood := { row := fnJobsRow, standIns := [], harness := (true, "a827fffaca9fe3a7d317296bb88dcbc07700eaf17f4f640a69ad98c6092a6202"), looks := true }, kinds := [], alts := [], laidByText := true, laidKinds := [.sentinel, .sentinel, .sentinel], laidTests := true, laidLooks := .later }
def FnJobsCardSaid : Prop := Claim7.holds Tryz.pinned (.plain (OpenSpec.ofChange fnJobsSpec)) fnJobsCard

/-- THE TIED CARD OF 'laws.FnJobVisible'. -/
def fnJobVisibleCard : Claim7 := { stood := { row := fnJobVisibleRow, standIns := [], harness := (true, "a827fffaca9fe3a7d317296bb88dcbc07700eaf17f4f640a69ad98c6092a6202"), looks := true }, kinds := [], alts := [], laidByText := true, laidKinds := [.sentinel, .sentinel, .sentinel], laidTests := true, laidLooks := .later }
def FnJobVisibleCardSaid : Prop := Claim7.holds Tryz.pinned (.plain (OpenSpec.ofChange fnJobVisibleSpec)) fnJobVisibleCard

/-- THE TIED CARD OF 'laws.FnJobParts'. -/
def fnJobPartsCard : Claim7 := { stood := { row := fnJobPartsRow, standIns := [], harness := (true, "a827fffaca9fe3a7d317296bb88dcbc07700eaf17f4f640a69ad98c6092a6202"), looks := true }, kinds := [], alts := [], laidByText := true, laidKinds := [.sentinel, .sentinel, .sentinel], laidTests := true, laidLooks := .later }
def FnJobPartsCardSaid : Prop := Claim7.holds Tryz.pinned (.plain (OpenSpec.ofChange fnJobPartsSpec)) fnJobPartsCard

/-- THE TIED CARD OF 'laws.FnExactJobStep'. -/
def fnExactJobStepCard : Claim7 := { stood := { row := fnExactJobStepRow, standIns := [], harness := (true, "a827fffaca9fe3a7d317296bb88dcbc07700eaf17f4f640a69ad98c6092a6202"), looks := true }, kinds := [], alts := [], laidByText := true, laidKinds := [.sentinel, .sentinel, .sentinel], laidTests := true, laidLooks := .later }
def FnExactJobStepCardSaid : Prop := Claim7.holds Tryz.pinned (.plain (OpenSpec.ofChange fnExactJobStepSpec)) fnExactJobStepCard

/-- THE TIED CARD OF 'laws.FnExactJobRun'. -/
def fnExactJobRunCard : Claim7 := { stood := { row := fnExactJobRunRow, standIns := [], harness := (true, "a827fffaca9fe3a7d317296bb88dcbc07700eaf17f4f640a69ad98c6092a6202"), looks := true }, kinds := [], alts := [], laidByText := true, laidKinds := [.sentinel, .sentinel, .sentinel], laidTests := true, laidLooks := .later }
def FnExactJobRunCardSaid : Prop := Claim7.holds Tryz.pinned (.plain (OpenSpec.ofChange fnExactJobRunSpec)) fnExactJobRunCard

/-- THE SECOND FORM's CARD OF 'laws.FnJobs'. -/
def fnJobsUptoCard : Claim7 := { stood := { row := fnJobsUptoRow, standIns := [], harness := (true, "a827fffaca9fe3a7d317296bb88dcbc07700eaf17f4f640a69ad98c6092a6202"), looks := true }, kinds := [], alts := [], laidByText := true, laidKinds := [.sentinel, .sentinel, .sentinel], laidTests := true, laidLooks := .later }
def FnJobsUptoCardSaid : Prop := Claim7.holds Tryz.pinned (.plain (OpenSpec.upto fnJobsSpec)) fnJobsUptoCard

/-- THE SECOND FORM's CARD OF 'laws.FnJobVisible'. -/
def fnJobVisibleUptoCard : Claim7 := { stood := { row := fnJobVisibleUptoRow, standIns := [], harness := (true, "a827fffaca9fe3a7d317296bb88dcbc07700eaf17f4f640a69ad98c6092a6202"), looks := true }, kinds := [], alts := [], laidByText := true, laidKinds := [.sentinel, .sentinel, .sentinel], laidTests := true, laidLooks := .later }
def FnJobVisibleUptoCardSaid : Prop := Claim7.holds Tryz.pinned (.plain (OpenSpec.upto fnJobVisibleSpec)) fnJobVisibleUptoCard

/-- THE SECOND FORM's CARD OF 'laws.FnJobParts'. -/
def fnJobPartsUptoCard : Claim7 := { stood := { row := fnJobPartsUptoRow, standIns := [], harness := (true, "a827fffaca9fe3a7d317296bb88dcbc07700eaf17f4f640a69ad98c6092a6202"), looks := true }, kinds := [], alts := [], laidByText := true, laidKinds := [.sentinel, .sentinel, .sentinel], laidTests := true, laidLooks := .later }
def FnJobPartsUptoCardSaid : Prop := Claim7.holds Tryz.pinned (.plain (OpenSpec.upto fnJobPartsSpec)) fnJobPartsUptoCard

/-- THE SECOND FORM's CARD OF 'laws.FnExactJobStep'. -/
def fnExactJobStepUptoCard : Claim7 := { stood := { row := fnExactJobStepUptoRow, standIns := [], harness := (true, "a827fffaca9fe3a7d317296bb88dcbc07700eaf17f4f640a69ad98c6092a6202"), looks := true }, kinds := [], alts := [], laidByText := true, laidKinds := [.sentinel, .sentinel, .sentinel], laidTests := true, laidLooks := .later }
def FnExactJobStepUptoCardSaid : Prop := Claim7.holds Tryz.pinned (.plain (OpenSpec.upto fnExactJobStepSpec)) fnExactJobStepUptoCard

/-- THE SECOND FORM's CARD OF 'laws.FnExactJobRun'. -/
def fnExactJobRunUptoCard : Claim7 := { stood := { row := fnExactJobRunUptoRow, standIns := [], harness := (true, "a827fffaca9fe3a7d317296bb88dcbc07700eaf17f4f640a69ad98c6092a6202"), looks := true }, kinds := [], alts := [], laidByText := true, laidKinds := [.sentinel, .sentinel, .sentinel], laidTests := true, laidLooks := .later }
def FnExactJobRunUptoCardSaid : Prop := Claim7.holds Tryz.pinned (.plain (OpenSpec.upto fnExactJobRunSpec)) fnExactJobRunUptoCard
end Rows
end Go.Proofs.YtlkkiopjknbomaaGreatDoor

/-
  DERIVED. GIVEN WITH THE SEED: THE CARDS: each row of YthkjbjgpdapnpaaDoorRows.lean that lists a variable, with what it lists TIED to the program's text (the seventh form; the later family's looks); each row that meets fmt, with fmt's text TOLD by the authors' own Lean function (tested against real Go, not proved from fmt's source: count such statements apart). THE CARD IS WHAT COUNTS. Prove the row's statement (the work); the ties are given (YthkjbjgpdapnpaaDoorTie.lean); close each card by the builder's one call (the guide's Derived/Test/ToyasCard.lean, 'card_holds'). Laid BY PROGRAM, IN A SANDBOX (cutbox-door.mjs). By AI agents, Wed Nov 11 2026. No macro, syntax, notation, axiom, sorry.
-/
import Derived.Test.YthkjbjgpdapnpaaDoorRows
import GoSem.ClaimSeven
namespace Go.Proofs.YthkjbjgpdapnpaaDoor
namespace Rows

/-- THE TIED CARD OF 'laws.FnPlans'. -/
def fnPlansCard : Claim7 := { stood := { row := fnPlansRow, standIns := [], harness := (true, "6bbd543fe5a446aff3ffa998e9937326e0b1e775724a5b0bf1683d6ab40e56f3"), looks := false }, kinds := [], alts := [], laidByText := true, laidKinds := [.data, .data], laidTests := true, laidLooks := .later }
def FnPlansCardSaid : Prop := Claim7.holds Tryd.pinned (.plain (OpenSpec.ofChange fnPlansSpec)) fnPlansCard

/-- THE TIED CARD OF 'laws.FnExactPlanPair'. -/
def fnExactPlanPairCard : Claim7 := { stood := { row := fnExactPlanPairRow, standIns := [], harness := (true, "6bbd543fe5a446aff3ffa998e9937326e0b1e775724a5b0bf1683d6ab40e56f3"), looks := false }, kinds := [], alts := [], laidByText := true, laidKinds := [.data, .data], laidTests := true, laidLooks := .later }
def FnExactPlanPairCardSaid : Prop := Claim7.holds Tryd.pinned (.plain (OpenSpec.ofChange fnExactPlanPairSpec)) fnExactPlanPairCard

/-- THE SECOND FORM's CARD OF 'laws.FnPlans'. -/
def fnPlansUptoCard : Claim7 := { stood := { row := fnPlansUptoRow, standIns := [], harness := (true, "6bbd543fe5a446aff3ffa998e9937326e0b1e775724a5b0bf1683d6ab40e56f3"), looks := false }, kinds := [], alts := [], laidByText := true, laidKinds := [.data, .data], laidTests := true, laidLooks := .later }
def FnPlansUptoCardSaid : Prop := Claim7.holds Tryd.pinned (.plain (OpenSpec.upto fnPlansSpec)) fnPlansUptoCard

/-- THE SECOND FORM's CARD OF 'laws.FnExactPlanPair'. -/
def fnExactPlanPairUptoCard : Claim7 := { stood := { row := fnExactPlanPairUptoRow, standIns := [], harness := (true, "6bbd543fe5a446aff3ffa998e9937326e0b1e775724a5b0bf1683d6ab40e56f3"), looks := false }, kinds := [], alts := [], laidByText := true, laidKinds := [.data, .data], laidTests := true, laidLooks := .later }
def FnExactPlanPairUptoCardSaid : Prop := Claim7.holds Tryd.pinned (.plain (OpenSpec.upto fnExactPlanPairSpec)) fnExactPlanPairUptoCard
end Rows
end Go.Proofs.YthkjbjgpdapnpaaDoor

/-
  DERIVED. GIVEN WITH THE SEED: THE CARDS: each row of YtgeakpeodhhffaaGreatDoorRows.lean that lists a variable, with what it lists TIED to the program's text (the seventh form; the later family's looks); each row that meets fmt, with fmt's text TOLD by the authors' own Lean function (tested against real Go, not proved from fmt's source: count such statements apart). THE CARD IS WHAT COUNTS. Prove the row's statement (the work); the ties are given (YtgeakpeodhhffaaGreatDoorTie.lean); close each card by the builder's one call (the guide's Derived/Test/ToyasCard.lean, 'card_holds'). Laid BY PROGRAM, IN A SANDBOX (cutbox-door.mjs). By AI agents, Wed Nov 11 2026. No macro, syntax, notation, axiom, sorry.
-/
import Derived.Test.YtgeakpeodhhffaaGreatDoorRows
import GoSem.ClaimSeven
namespace Go.Proofs.YtgeakpeodhhffaaGreatDoor
namespace Rows

/-- THE TIED CARD OF 'laws.FnFrees'. -/
def fnFreesCard : Claim7 := { stood := { row := fnFreesRow, standIns := [], harness := (true, "094850fc47ee91fae3aedae9586423e7a7e6a2a9ca97d45e24e160aa64299f21"), looks := true }, kinds := [], alts := [], laidByText := true, laidKinds := [.data, .data, .sentinel, .sentinel, .sentinel], laidTests := true, laidLooks := .later }
def FnFreesCardSaid : Prop := Claim7.holds Tryz.pinned (.plain (OpenSpec.ofChange fnFreesSpec)) fnFreesCard

/-- THE TIED CARD OF 'laws.FnExactLateApply'. -/
def fnExactLateApplyCard : Claim7 := { stood := { row := fnExactLateApplyRow, standIns := [], harness := (true, "094850fc47ee91fae3aedae9586423e7a7e6a2a9ca97d45e24e160aa64299f21"), looks := true }, kinds := [], alts := [], laidByText := true, laidKinds := [.data, .data], laidTests := true, laidLooks := .later }
def FnExactLateApplyCardSaid : Prop := Claim7.holds Tryz.pinned (.plain (OpenSpec.ofChange fnExactLateApplySpec)) fnExactLateApplyCard

/-- THE SECOND FORM's CARD OF 'laws.FnFrees'. -/
def fnFreesUptoCard : Claim7 := { stood := { row := fnFreesUptoRow, standIns := [], harness := (true, "094850fc47ee91fae3aedae9586423e7a7e6a2a9ca97d45e24e160aa64299f21"), looks := true }, kinds := [], alts := [], laidByText := true, laidKinds := [.data, .data, .sentinel, .sentinel, .sentinel], laidTests := true, laidLooks := .later }
def FnFreesUptoCardSaid : Prop := Claim7.holds Tryz.pinned (.plain (OpenSpec.upto fnFreesSpec)) fnFreesUptoCard

/-- THE SECOND FORM's CARD OF 'laws.FnExactLateApply'. -/
def fnExactLateApplyUptoCard : Claim7 := { stood := { row := fnExactLateApplyUptoRow, standIns := [], harness := (true, "094850fc47ee91fae3aedae9586423e7a7e6a2a9ca97d45e24e160aa64299f21"), looks := true }, kinds := [], alts := [], laidByText := true, laidKinds := [.data, .data], laidTests := true, laidLooks := .later }
def FnExactLateApplyUptoCardSaid : Prop := Claim7.holds Tryz.pinned (.plain (OpenSpec.upto fnExactLateApplySpec)) fnExactLateApplyUptoCard
end Rows
end Go.Proofs.YtgeakpeodhhffaaGreatDoor

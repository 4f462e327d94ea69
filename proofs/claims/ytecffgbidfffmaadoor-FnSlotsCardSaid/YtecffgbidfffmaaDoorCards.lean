/-
  DERIVED. GIVEN WITH THE SEED: THE CARDS: each row of YtecffgbidfffmaaDoorRows.lean that lists a variable, with what it lists TIED to the program's text (the seventh form; the later family's looks); each row that meets fmt, with fmt's text TOLD by the authors' own Lean function (tested against real Go, not proved from fmt's source: count such statements apart). THE CARD IS WHAT COUNTS. Prove the row's statement (the work); the ties are given (YtecffgbidfffmaaDoorTie.lean); close each card by the builder's one call (the guide's Derived/Test/ToyasCard.lean, 'card_holds'). Laid BY PROGRAM, IN A SANDBOX (cutbox-door.mjs). By AI agents, Wed Nov 11 2026. No macro, syntax, notation, axiom, sorry.
-/
import Derived.Test.YtecffgbidfffmaaDoorRows
import GoSem.ClaimSeven
namespace Go.Proofs.YtecffgbidfffmaaDoor
namespace Rows

/-- THE TIED CARD OF 'laws.FnSlots'. -/
def fnSlotsCard : Claim7 := { stood := { row := fnSlotsRow, standIns := [], harness := (true, "a613e6b0f5b455aecac7fd2749d75eabd9bffa976e94a22a0bd7a563d41da5ff"), looks := false }, kinds := [], alts := [], laidByText := true, laidKinds := [.data], laidTests := true, laidLooks := .later }
def FnSlotsCardSaid : Prop := Claim7.holds Tryd.pinned (.plain (OpenSpec.ofChange fnSlotsSpec)) fnSlotsCard

/-- THE TIED CARD OF 'laws.FnFreeSlots'. -/
def fnFreeSlotsCard : Claim7 := { stood := { row := fnFreeSlotsRow, standIns := [], harness := (true, "a613e6b0f5b455aecac7fd2749d75eabd9bffa976e94a22a0bd7a563d41da5ff"), looks := false }, kinds := [], alts := [], laidByText := true, laidKinds := [.data], laidTests := true, laidLooks := .later }
def FnFreeSlotsCardSaid : Prop := Claim7.holds Tryd.pinned (.plain (OpenSpec.ofChange fnFreeSlotsSpec)) fnFreeSlotsCard

/-- THE TIED CARD OF 'laws.FnExactHasSlot'. -/
def fnExactHasSlotCard : Claim7 := { stood := { row := fnExactHasSlotRow, standIns := [], harness := (true, "a613e6b0f5b455aecac7fd2749d75eabd9bffa976e94a22a0bd7a563d41da5ff"), looks := false }, kinds := [], alts := [], laidByText := true, laidKinds := [.data], laidTests := true, laidLooks := .later }
def FnExactHasSlotCardSaid : Prop := Claim7.holds Tryd.pinned (.plain (OpenSpec.ofChange fnExactHasSlotSpec)) fnExactHasSlotCard

/-- THE TIED CARD OF 'laws.FnExactWithSlot'. -/
def fnExactWithSlotCard : Claim7 := { stood := { row := fnExactWithSlotRow, standIns := [], harness := (true, "a613e6b0f5b455aecac7fd2749d75eabd9bffa976e94a22a0bd7a563d41da5ff"), looks := false }, kinds := [], alts := [], laidByText := true, laidKinds := [.data], laidTests := true, laidLooks := .later }
def FnExactWithSlotCardSaid : Prop := Claim7.holds Tryd.pinned (.plain (OpenSpec.ofChange fnExactWithSlotSpec)) fnExactWithSlotCard

/-- THE TIED CARD OF 'laws.FnExactWithoutSlot'. -/
def fnExactWithoutSlotCard : Claim7 := { stood := { row := fnExactWithoutSlotRow, standIns := [], harness := (true, "a613e6b0f5b455aecac7fd2749d75eabd9bffa976e94a22a0bd7a563d41da5ff"), looks := false }, kinds := [], alts := [], laidByText := true, laidKinds := [.data], laidTests := true, laidLooks := .later }
def FnExactWithoutSlotCardSaid : Prop := Claim7.holds Tryd.pinned (.plain (OpenSpec.ofChange fnExactWithoutSlotSpec)) fnExactWithoutSlotCard

/-- THE TIED CARD OF 'laws.FnExactFreeSlots'. -/
def fnExactFreeSlotsCard : Claim7 := { stood := { row := fnExactFreeSlotsRow, standIns := [], harness := (true, "a613e6b0f5b455aecac7fd2749d75eabd9bffa976e94a22a0bd7a563d41da5ff"), looks := false }, kinds := [], alts := [], laidByText := true, laidKinds := [.data], laidTests := true, laidLooks := .later }
def FnExactFreeSlotsCardSaid : Prop := Claim7.holds Tryd.pinned (.plain (OpenSpec.ofChange fnExactFreeSlotsSpec)) fnExactFreeSlotsCard

/-- THE TIED CARD OF 'laws.FnExactFormatBitmap'. -/
def fnExactFormatBitmapCard : Claim7 := { stood := { row := fnExactFormatBitmapRow, standIns := [], harness := (true, "a613e6b0f5b455aecac7fd2749d75eabd9bffa976e94a22a0bd7a563d41da5ff"), looks := false }, kinds := [], alts := [], laidByText := true, laidKinds := [.data], laidTests := true, laidLooks := .later }
def FnExactFormatBitmapCardSaid : Prop := Claim7.holds Tryd.pinned (.plain (OpenSpec.ofChange fnExactFormatBitmapSpec)) fnExactFormatBitmapCard

/-- THE SECOND FORM's CARD OF 'laws.FnSlots'. -/
def fnSlotsUptoCard : Claim7 := { stood := { row := fnSlotsUptoRow, standIns := [], harness := (true, "a613e6b0f5b455aecac7fd2749d75eabd9bffa976e94a22a0bd7a563d41da5ff"), looks := false }, kinds := [], alts := [], laidByText := true, laidKinds := [.data], laidTests := true, laidLooks := .later }
def FnSlotsUptoCardSaid : Prop := Claim7.holds Tryd.pinned (.plain (OpenSpec.upto fnSlotsSpec)) fnSlotsUptoCard

/-- THE SECOND FORM's CARD OF 'laws.FnFreeSlots'. -/
def fnFreeSlotsUptoCard : Claim7 := { stood := { row := fnFreeSlotsUptoRow, standIns := [], harness := (true, "a613e6b0f5b455aecac7fd2749d75eabd9bffa976e94a22a0bd7a563d41da5ff"), looks := false }, kinds := [], alts := [], laidByText := true, laidKinds := [.data], laidTests := true, laidLooks := .later }
def FnFreeSlotsUptoCardSaid : Prop := Claim7.holds Tryd.pinned (.plain (OpenSpec.upto fnFreeSlotsSpec)) fnFreeSlotsUptoCard

/-- THE SECOND FORM's CARD OF 'laws.FnExactHasSlot'. -/
def fnExactHasSlotUptoCard : Claim7 := { stood := { row := fnExactHasSlotUptoRow, standIns := [], harness := (true, "a613e6b0f5b455aecac7fd2749d75eabd9bffa976e94a22a0bd7a563d41da5ff"), looks := false }, kinds := [], alts := [], laidByText := true, laidKinds := [.data], laidTests := true, laidLooks := .later }
def FnExactHasSlotUptoCardSaid : Prop := Claim7.holds Tryd.pinned (.plain (OpenSpec.upto fnExactHasSlotSpec)) fnExactHasSlotUptoCard

/-- THE SECOND FORM's CARD OF 'laws.FnExactWithSlot'. -/
def fnExactWithSlotUptoCard : Claim7 := { stood := { row := fnExactWithSlotUptoRow, standIns := [], harness := (true, "a613e6b0f5b455aecac7fd2749d75eabd9bffa976e94a22a0bd7a563d41da5ff"), looks := false }, kinds := [], alts := [], laidByText := true, laidKinds := [.data], laidTests := true, laidLooks := .later }
def FnExactWithSlotUptoCardSaid : Prop := Claim7.holds Tryd.pinned (.plain (OpenSpec.upto fnExactWithSlotSpec)) fnExactWithSlotUptoCard

/-- THE SECOND FORM's CARD OF 'laws.FnExactWithoutSlot'. -/
def fnExactWithoutSlotUptoCard : Claim7 := { stood := { row := fnExactWithoutSlotUptoRow, standIns := [], harness := (true, "a613e6b0f5b455aecac7fd2749d75eabd9bffa976e94a22a0bd7a563d41da5ff"), looks := false }, kinds := [], alts := [], laidByText := true, laidKinds := [.data], laidTests := true, laidLooks := .later }
def FnExactWithoutSlotUptoCardSaid : Prop := Claim7.holds Tryd.pinned (.plain (OpenSpec.upto fnExactWithoutSlotSpec)) fnExactWithoutSlotUptoCard

/-- THE SECOND FORM's CARD OF 'laws.FnExactFreeSlots'. -/
def fnExactFreeSlotsUptoCard : Claim7 := { stood := { row := fnExactFreeSlotsUptoRow, standIns := [], harness := (true, "a613e6b0f5b455aecac7fd2749d75eabd9bffa976e94a22a0bd7a563d41da5ff"), looks := false }, kinds := [], alts := [], laidByText := true, laidKinds := [.data], laidTests := true, laidLooks := .later }
def FnExactFreeSlotsUptoCardSaid : Prop := Claim7.holds Tryd.pinned (.plain (OpenSpec.upto fnExactFreeSlotsSpec)) fnExactFreeSlotsUptoCard

/-- THE SECOND FORM's CARD OF 'laws.FnExactFormatBitmap'. -/
def fnExactFormatBitmapUptoCard : Claim7 := { stood := { row := fnExactFormatBitmapUptoRow, standIns := [], harness := (true, "a613e6b0f5b455aecac7fd2749d75eabd9bffa976e94a22a0bd7a563d41da5ff"), looks := false }, kinds := [], alts := [], laidByText := true, laidKinds := [.data], laidTests := true, laidLooks := .later }
def FnExactFormatBitmapUptoCardSaid : Prop := Claim7.holds Tryd.pinned (.plain (OpenSpec.upto fnExactFormatBitmapSpec)) fnExactFormatBitmapUptoCard
end Rows
end Go.Proofs.YtecffgbidfffmaaDoor

/-
  DERIVED. GIVEN WITH THE SEED: THE CARDS: each row of YtgeakpeodhhffaaDoorRows.lean that lists a variable, with what it lists TIED to the program's text (the seventh form; the later family's looks); each row that meets fmt, with fmt's text TOLD by the authors' own Lean function (tested against real Go, not proved from fmt's source: count such statements apart). THE CARD IS WHAT COUNTS. Prove the row's statement (the work); the ties are given (YtgeakpeodhhffaaDoorTie.lean); close each card by the builder's one call (the guide's Derived/Test/ToyasCard.lean, 'card_holds'). Laid BY PROGRAM, IN A SANDBOX (cutbox-door.mjs). By AI agents, Wed Nov 11 2026. No macro, syntax, notation, axiom, sorry.
-/
import Derived.Test.YtgeakpeodhhffaaDoorRows
import GoSem.ClaimSeven
namespace Go.Proofs.YtgeakpeodhhffaaDoor
namespace Rows

/-- THE TIED CARD OF 'laws.FnLate'. -/
def fnLateCard : Claim7 := { stood := { row := fnLateRow, standIns := [], harness := (true, "219984d9a05e66b279e0dd1bb9dcc1c2fcc68a77b7a49a27cf5a9526893d4f0b"), looks := true }, kinds := [], alts := [], laidByText := true, laidKinds := [.data, .data], laidTests := true, laidLooks := .later }
def FnLateCardSaid : Prop := Claim7.holds Tryd.pinned (.plain (OpenSpec.ofChange fnLateSpec)) fnLateCard

/-- THE TIED CARD OF 'laws.FnExactFreeSlot'. -/
def fnExactFreeSlotCard : Claim7 := { stood := { row := fnExactFreeSlotRow, standIns := [], harness := (true, "219984d9a05e66b279e0dd1bb9dcc1c2fcc68a77b7a49a27cf5a9526893d4f0b"), looks := true }, kinds := [], alts := [], laidByText := true, laidKinds := [.data, .data], laidTests := true, laidLooks := .later }
def FnExactFreeSlotCardSaid : Prop := Claim7.holds Tryd.pinned (.plain (OpenSpec.ofChange fnExactFreeSlotSpec)) fnExactFreeSlotCard

/-- THE TIED CARD OF 'laws.FnExactSlotClear'. -/
def fnExactSlotClearCard : Claim7 := { stood := { row := fnExactSlotClearRow, standIns := [], harness := (true, "219984d9a05e66b279e0dd1bb9dcc1c2fcc68a77b7a49a27cf5a9526893d4f0b"), looks := true }, kinds := [], alts := [], laidByText := true, laidKinds := [.data, .sentinel, .sentinel, .sentinel], laidTests := true, laidLooks := .later }
def FnExactSlotClearCardSaid : Prop := Claim7.holds Tryd.pinned (.plain (OpenSpec.ofChange fnExactSlotClearSpec)) fnExactSlotClearCard

/-- THE SECOND FORM's CARD OF 'laws.FnLate'. -/
def fnLateUptoCard : Claim7 := { stood := { row := fnLateUptoRow, standIns := [], harness := (true, "219984d9a05e66b279e0dd1bb9dcc1c2fcc68a77b7a49a27cf5a9526893d4f0b"), looks := true }, kinds := [], alts := [], laidByText := true, laidKinds := [.data, .data], laidTests := true, laidLooks := .later }
def FnLateUptoCardSaid : Prop := Claim7.holds Tryd.pinned (.plain (OpenSpec.upto fnLateSpec)) fnLateUptoCard

/-- THE SECOND FORM's CARD OF 'laws.FnExactFreeSlot'. -/
def fnExactFreeSlotUptoCard : Claim7 := { stood := { row := fnExactFreeSlotUptoRow, standIns := [], harness := (true, "219984d9a05e66b279e0dd1bb9dcc1c2fcc68a77b7a49a27cf5a9526893d4f0b"), looks := true }, kinds := [], alts := [], laidByText := true, laidKinds := [.data, .data], laidTests := true, laidLooks := .later }
def FnExactFreeSlotUptoCardSaid : Prop := Claim7.holds Tryd.pinned (.plain (OpenSpec.upto fnExactFreeSlotSpec)) fnExactFreeSlotUptoCard

/-- THE SECOND FORM's CARD OF 'laws.FnExactSlotClear'. -/
def fnExactSlotClearUptoCard : Claim7 := { stood := { row := fnExactSlotClearUptoRow, standIns := [], harness := (true, "219984d9a05e66b279e0dd1bb9dcc1c2fcc68a77b7a49a27cf5a9526893d4f0b"), looks := true }, kinds := [], alts := [], laidByText := true, laidKinds := [.data, .sentinel, .sentinel, .sentinel], laidTests := true, laidLooks := .later }
def FnExactSlotClearUptoCardSaid : Prop := Claim7.holds Tryd.pinned (.plain (OpenSpec.upto fnExactSlotClearSpec)) fnExactSlotClearUptoCard
end Rows
end Go.Proofs.YtgeakpeodhhffaaDoor

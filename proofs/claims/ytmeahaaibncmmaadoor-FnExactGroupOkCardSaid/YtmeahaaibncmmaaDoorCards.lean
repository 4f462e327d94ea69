/-
  DERIVED. GIVEN WITH THE SEED: THE CARDS: each row of YtmeahaaibncmmaaDoorRows.lean that lists a variable, with what it lists TIED to the program's text (the seventh form; the later family's looks); each row that meets fmt, with fmt's text TOLD by the authors' own Lean function (tested against real Go, not proved from fmt's source: count such statements apart). THE CARD IS WHAT COUNTS. Prove the row's statement (the work); the ties are given (YtmeahaaibncmmaaDoorTie.lean); close each card by the builder's one call (the guide's Derived/Test/ToyasCard.lean, 'card_holds'). Laid BY PROGRAM, IN A SANDBOX (cutbox-door.mjs). By AI agents, Wed Nov 11 2026. No macro, syntax, notation, axiom, sorry.
-/
import Derived.Test.YtmeahaaibncmmaaDoorRows
import GoSem.ClaimSeven
namespace Go.Proofs.YtmeahaaibncmmaaDoor
namespace Rows

/-- THE TIED CARD OF 'laws.FnGroups'. -/
def fnGroupsCard : Claim7 := { stood := { row := fnGroupsRow, standIns := [], harness := (true, "5c8383fb064696332a17058c14b4aaae9bc3499dd0df0d20dc5b09e857f8d416"), looks := false }, kinds := [], alts := [], laidByText := true, laidKinds := [.data, .data], laidTests := true, laidLooks := .later }
def FnGroupsCardSaid : Prop := Claim7.holds Tryd.pinned (.plain (OpenSpec.ofChange fnGroupsSpec)) fnGroupsCard

/-- THE TIED CARD OF 'laws.FnMeshable'. -/
def fnMeshableCard : Claim7 := { stood := { row := fnMeshableRow, standIns := [], harness := (true, "5c8383fb064696332a17058c14b4aaae9bc3499dd0df0d20dc5b09e857f8d416"), looks := false }, kinds := [], alts := [], laidByText := true, laidKinds := [.data, .data], laidTests := true, laidLooks := .later }
def FnMeshableCardSaid : Prop := Claim7.holds Tryd.pinned (.plain (OpenSpec.ofChange fnMeshableSpec)) fnMeshableCard

/-- THE TIED CARD OF 'laws.FnEdges'. -/
def fnEdgesCard : Claim7 := { stood := { row := fnEdgesRow, standIns := [], harness := (true, "5c8383fb064696332a17058c14b4aaae9bc3499dd0df0d20dc5b09e857f8d416"), looks := false }, kinds := [], alts := [], laidByText := true, laidKinds := [.data, .data], laidTests := true, laidLooks := .later }
def FnEdgesCardSaid : Prop := Claim7.holds Tryd.pinned (.plain (OpenSpec.ofChange fnEdgesSpec)) fnEdgesCard

/-- THE TIED CARD OF 'laws.FnExactMeshable'. -/
def fnExactMeshableCard : Claim7 := { stood := { row := fnExactMeshableRow, standIns := [], harness := (true, "5c8383fb064696332a17058c14b4aaae9bc3499dd0df0d20dc5b09e857f8d416"), looks := false }, kinds := [], alts := [], laidByText := true, laidKinds := [.data, .data], laidTests := true, laidLooks := .later }
def FnExactMeshableCardSaid : Prop := Claim7.holds Tryd.pinned (.plain (OpenSpec.ofChange fnExactMeshableSpec)) fnExactMeshableCard

/-- THE TIED CARD OF 'laws.FnExactGroupOk'. -/
def fnExactGroupOkCard : Claim7 := { stood := { row := fnExactGroupOkRow, standIns := [], harness := (true, "5c8383fb064696332a17058c14b4aaae9bc3499dd0df0d20dc5b09e857f8d416"), looks := false }, kinds := [], alts := [], laidByText := true, laidKinds := [.data, .data], laidTests := true, laidLooks := .later }
def FnExactGroupOkCardSaid : Prop := Claim7.holds Tryd.pinned (.plain (OpenSpec.ofChange fnExactGroupOkSpec)) fnExactGroupOkCard

/-- THE TIED CARD OF 'laws.FnExactGroupBits'. -/
def fnExactGroupBitsCard : Claim7 := { stood := { row := fnExactGroupBitsRow, standIns := [], harness := (true, "5c8383fb064696332a17058c14b4aaae9bc3499dd0df0d20dc5b09e857f8d416"), looks := false }, kinds := [], alts := [], laidByText := true, laidKinds := [.data, .data], laidTests := true, laidLooks := .later }
def FnExactGroupBitsCardSaid : Prop := Claim7.holds Tryd.pinned (.plain (OpenSpec.ofChange fnExactGroupBitsSpec)) fnExactGroupBitsCard

/-- THE TIED CARD OF 'laws.FnExactGroupSlot'. -/
def fnExactGroupSlotCard : Claim7 := { stood := { row := fnExactGroupSlotRow, standIns := [], harness := (true, "5c8383fb064696332a17058c14b4aaae9bc3499dd0df0d20dc5b09e857f8d416"), looks := false }, kinds := [], alts := [], laidByText := true, laidKinds := [.data, .data], laidTests := true, laidLooks := .later }
def FnExactGroupSlotCardSaid : Prop := Claim7.holds Tryd.pinned (.plain (OpenSpec.ofChange fnExactGroupSlotSpec)) fnExactGroupSlotCard

/-- THE TIED CARD OF 'laws.FnExactMeshEdges'. -/
def fnExactMeshEdgesCard : Claim7 := { stood := { row := fnExactMeshEdgesRow, standIns := [], harness := (true, "5c8383fb064696332a17058c14b4aaae9bc3499dd0df0d20dc5b09e857f8d416"), looks := false }, kinds := [], alts := [], laidByText := true, laidKinds := [.data, .data], laidTests := true, laidLooks := .later }
def FnExactMeshEdgesCardSaid : Prop := Claim7.holds Tryd.pinned (.plain (OpenSpec.ofChange fnExactMeshEdgesSpec)) fnExactMeshEdgesCard

/-- THE SECOND FORM's CARD OF 'laws.FnGroups'. -/
def fnGroupsUptoCard : Claim7 := { stood := { row := fnGroupsUptoRow, standIns := [], harness := (true, "5c8383fb064696332a17058c14b4aaae9bc3499dd0df0d20dc5b09e857f8d416"), looks := false }, kinds := [], alts := [], laidByText := true, laidKinds := [.data, .data], laidTests := true, laidLooks := .later }
def FnGroupsUptoCardSaid : Prop := Claim7.holds Tryd.pinned (.plain (OpenSpec.upto fnGroupsSpec)) fnGroupsUptoCard

/-- THE SECOND FORM's CARD OF 'laws.FnMeshable'. -/
def fnMeshableUptoCard : Claim7 := { stood := { row := fnMeshableUptoRow, standIns := [], harness := (true, "5c8383fb064696332a17058c14b4aaae9bc3499dd0df0d20dc5b09e857f8d416"), looks := false }, kinds := [], alts := [], laidByText := true, laidKinds := [.data, .data], laidTests := true, laidLooks := .later }
def FnMeshableUptoCardSaid : Prop := Claim7.holds Tryd.pinned (.plain (OpenSpec.upto fnMeshableSpec)) fnMeshableUptoCard

/-- THE SECOND FORM's CARD OF 'laws.FnEdges'. -/
def fnEdgesUptoCard : Claim7 := { stood := { row := fnEdgesUptoRow, standIns := [], harness := (true, "5c8383fb064696332a17058c14b4aaae9bc3499dd0df0d20dc5b09e857f8d416"), looks := false }, kinds := [], alts := [], laidByText := true, laidKinds := [.data, .data], laidTests := true, laidLooks := .later }
def FnEdgesUptoCardSaid : Prop := Claim7.holds Tryd.pinned (.plain (OpenSpec.upto fnEdgesSpec)) fnEdgesUptoCard

/-- THE SECOND FORM's CARD OF 'laws.FnExactMeshable'. -/
def fnExactMeshableUptoCard : Claim7 := { stood := { row := fnExactMeshableUptoRow, standIns := [], harness := (true, "5c8383fb064696332a17058c14b4aaae9bc3499dd0df0d20dc5b09e857f8d416"), looks := false }, kinds := [], alts := [], laidByText := true, laidKinds := [.data, .data], laidTests := true, laidLooks := .later }
def FnExactMeshableUptoCardSaid : Prop := Claim7.holds Tryd.pinned (.plain (OpenSpec.upto fnExactMeshableSpec)) fnExactMeshableUptoCard

/-- THE SECOND FORM's CARD OF 'laws.FnExactGroupOk'. -/
def fnExactGroupOkUptoCard : Claim7 := { stood := { row := fnExactGroupOkUptoRow, standIns := [], harness := (true, "5c8383fb064696332a17058c14b4aaae9bc3499dd0df0d20dc5b09e857f8d416"), looks := false }, kinds := [], alts := [], laidByText := true, laidKinds := [.data, .data], laidTests := true, laidLooks := .later }
def FnExactGroupOkUptoCardSaid : Prop := Claim7.holds Tryd.pinned (.plain (OpenSpec.upto fnExactGroupOkSpec)) fnExactGroupOkUptoCard

/-- THE SECOND FORM's CARD OF 'laws.FnExactGroupBits'. -/
def fnExactGroupBitsUptoCard : Claim7 := { stood := { row := fnExactGroupBitsUptoRow, standIns := [], harness := (true, "5c8383fb064696332a17058c14b4aaae9bc3499dd0df0d20dc5b09e857f8d416"), looks := false }, kinds := [], alts := [], laidByText := true, laidKinds := [.data, .data], laidTests := true, laidLooks := .later }
def FnExactGroupBitsUptoCardSaid : Prop := Claim7.holds Tryd.pinned (.plain (OpenSpec.upto fnExactGroupBitsSpec)) fnExactGroupBitsUptoCard

/-- THE SECOND FORM's CARD OF 'laws.FnExactGroupSlot'. -/
def fnExactGroupSlotUptoCard : Claim7 := { stood := { row := fnExactGroupSlotUptoRow, standIns := [], harness := (true, "5c8383fb064696332a17058c14b4aaae9bc3499dd0df0d20dc5b09e857f8d416"), looks := false }, kinds := [], alts := [], laidByText := true, laidKinds := [.data, .data], laidTests := true, laidLooks := .later }
def FnExactGroupSlotUptoCardSaid : Prop := Claim7.holds Tryd.pinned (.plain (OpenSpec.upto fnExactGroupSlotSpec)) fnExactGroupSlotUptoCard

/-- THE SECOND FORM's CARD OF 'laws.FnExactMeshEdges'. -/
def fnExactMeshEdgesUptoCard : Claim7 := { stood := { row := fnExactMeshEdgesUptoRow, standIns := [], harness := (true, "5c8383fb064696332a17058c14b4aaae9bc3499dd0df0d20dc5b09e857f8d416"), looks := false }, kinds := [], alts := [], laidByText := true, laidKinds := [.data, .data], laidTests := true, laidLooks := .later }
def FnExactMeshEdgesUptoCardSaid : Prop := Claim7.holds Tryd.pinned (.plain (OpenSpec.upto fnExactMeshEdgesSpec)) fnExactMeshEdgesUptoCard
end Rows
end Go.Proofs.YtmeahaaibncmmaaDoor

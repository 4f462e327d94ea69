/-
  DERIVED. GIVEN WITH THE SEED: THE CARDS: each row of YtelcngiplpcalaaDoorRows.lean that lists a variable, with what it lists TIED to the program's text (the seventh form; the later family's looks); each row that meets fmt, with fmt's text TOLD by the authors' own Lean function (tested against real Go, not proved from fmt's source: count such statements apart). THE CARD IS WHAT COUNTS. Prove the row's statement (the work); the ties are given (YtelcngiplpcalaaDoorTie.lean); close each card by the builder's one call (the guide's Derived/Test/ToyasCard.lean, 'card_holds'). Laid BY PROGRAM, IN A SANDBOX (cutbox-door.mjs). By AI agents, Wed Nov 11 2026. No macro, syntax, notation, axiom, sorry.
-/
import Derived.Test.YtelcngiplpcalaaDoorRows
import GoSem.ClaimSeven
namespace Go.Proofs.YtelcngiplpcalaaDoor
namespace Rows

/-- THE TIED CARD OF 'laws.FnSpans'. -/
def fnSpansCard : Claim7 := { stood := { row := fnSpansRow, standIns := [], harness := (true, "351c091a5c7d007b52058facdbd1232e11235fe337bf1b995a38da8f4648ad18"), looks := false }, kinds := [], alts := [], laidByText := true, laidKinds := [.data, .data], laidTests := true, laidLooks := .later }
def FnSpansCardSaid : Prop := Claim7.holds Tryd.pinned (.plain (OpenSpec.ofChange fnSpansSpec)) fnSpansCard

/-- THE TIED CARD OF 'laws.FnSlotAddrs'. -/
def fnSlotAddrsCard : Claim7 := { stood := { row := fnSlotAddrsRow, standIns := [], harness := (true, "351c091a5c7d007b52058facdbd1232e11235fe337bf1b995a38da8f4648ad18"), looks := false }, kinds := [], alts := [], laidByText := true, laidKinds := [.data, .data], laidTests := true, laidLooks := .later }
def FnSlotAddrsCardSaid : Prop := Claim7.holds Tryd.pinned (.plain (OpenSpec.ofChange fnSlotAddrsSpec)) fnSlotAddrsCard

/-- THE TIED CARD OF 'laws.FnExactSpanOk'. -/
def fnExactSpanOkCard : Claim7 := { stood := { row := fnExactSpanOkRow, standIns := [], harness := (true, "351c091a5c7d007b52058facdbd1232e11235fe337bf1b995a38da8f4648ad18"), looks := false }, kinds := [], alts := [], laidByText := true, laidKinds := [.data], laidTests := true, laidLooks := .later }
def FnExactSpanOkCardSaid : Prop := Claim7.holds Tryd.pinned (.plain (OpenSpec.ofChange fnExactSpanOkSpec)) fnExactSpanOkCard

/-- THE TIED CARD OF 'laws.FnExactSpanTake'. -/
def fnExactSpanTakeCard : Claim7 := { stood := { row := fnExactSpanTakeRow, standIns := [], harness := (true, "351c091a5c7d007b52058facdbd1232e11235fe337bf1b995a38da8f4648ad18"), looks := false }, kinds := [], alts := [], laidByText := true, laidKinds := [.data, .data], laidTests := true, laidLooks := .later }
def FnExactSpanTakeCardSaid : Prop := Claim7.holds Tryd.pinned (.plain (OpenSpec.ofChange fnExactSpanTakeSpec)) fnExactSpanTakeCard

/-- THE TIED CARD OF 'laws.FnExactSpanGive'. -/
def fnExactSpanGiveCard : Claim7 := { stood := { row := fnExactSpanGiveRow, standIns := [], harness := (true, "351c091a5c7d007b52058facdbd1232e11235fe337bf1b995a38da8f4648ad18"), looks := false }, kinds := [], alts := [], laidByText := true, laidKinds := [.data, .data], laidTests := true, laidLooks := .later }
def FnExactSpanGiveCardSaid : Prop := Claim7.holds Tryd.pinned (.plain (OpenSpec.ofChange fnExactSpanGiveSpec)) fnExactSpanGiveCard

/-- THE TIED CARD OF 'laws.FnExactSpanAddr'. -/
def fnExactSpanAddrCard : Claim7 := { stood := { row := fnExactSpanAddrRow, standIns := [], harness := (true, "351c091a5c7d007b52058facdbd1232e11235fe337bf1b995a38da8f4648ad18"), looks := false }, kinds := [], alts := [], laidByText := true, laidKinds := [.data], laidTests := true, laidLooks := .later }
def FnExactSpanAddrCardSaid : Prop := Claim7.holds Tryd.pinned (.plain (OpenSpec.ofChange fnExactSpanAddrSpec)) fnExactSpanAddrCard

/-- THE TIED CARD OF 'laws.FnExactSlotAt'. -/
def fnExactSlotAtCard : Claim7 := { stood := { row := fnExactSlotAtRow, standIns := [], harness := (true, "351c091a5c7d007b52058facdbd1232e11235fe337bf1b995a38da8f4648ad18"), looks := false }, kinds := [], alts := [], laidByText := true, laidKinds := [.data], laidTests := true, laidLooks := .later }
def FnExactSlotAtCardSaid : Prop := Claim7.holds Tryd.pinned (.plain (OpenSpec.ofChange fnExactSlotAtSpec)) fnExactSlotAtCard

/-- THE TIED CARD OF 'laws.FnExactSpanCells'. -/
def fnExactSpanCellsCard : Claim7 := { stood := { row := fnExactSpanCellsRow, standIns := [], harness := (true, "351c091a5c7d007b52058facdbd1232e11235fe337bf1b995a38da8f4648ad18"), looks := false }, kinds := [], alts := [], laidByText := true, laidKinds := [.data, .data], laidTests := true, laidLooks := .later }
def FnExactSpanCellsCardSaid : Prop := Claim7.holds Tryd.pinned (.plain (OpenSpec.ofChange fnExactSpanCellsSpec)) fnExactSpanCellsCard

/-- THE TIED CARD OF 'laws.FnExactSpanFull'. -/
def fnExactSpanFullCard : Claim7 := { stood := { row := fnExactSpanFullRow, standIns := [], harness := (true, "351c091a5c7d007b52058facdbd1232e11235fe337bf1b995a38da8f4648ad18"), looks := false }, kinds := [], alts := [], laidByText := true, laidKinds := [.data, .data], laidTests := true, laidLooks := .later }
def FnExactSpanFullCardSaid : Prop := Claim7.holds Tryd.pinned (.plain (OpenSpec.ofChange fnExactSpanFullSpec)) fnExactSpanFullCard

/-- THE SECOND FORM's CARD OF 'laws.FnSpans'. -/
def fnSpansUptoCard : Claim7 := { stood := { row := fnSpansUptoRow, standIns := [], harness := (true, "351c091a5c7d007b52058facdbd1232e11235fe337bf1b995a38da8f4648ad18"), looks := false }, kinds := [], alts := [], laidByText := true, laidKinds := [.data, .data], laidTests := true, laidLooks := .later }
def FnSpansUptoCardSaid : Prop := Claim7.holds Tryd.pinned (.plain (OpenSpec.upto fnSpansSpec)) fnSpansUptoCard

/-- THE SECOND FORM's CARD OF 'laws.FnSlotAddrs'. -/
def fnSlotAddrsUptoCard : Claim7 := { stood := { row := fnSlotAddrsUptoRow, standIns := [], harness := (true, "351c091a5c7d007b52058facdbd1232e11235fe337bf1b995a38da8f4648ad18"), looks := false }, kinds := [], alts := [], laidByText := true, laidKinds := [.data, .data], laidTests := true, laidLooks := .later }
def FnSlotAddrsUptoCardSaid : Prop := Claim7.holds Tryd.pinned (.plain (OpenSpec.upto fnSlotAddrsSpec)) fnSlotAddrsUptoCard

/-- THE SECOND FORM's CARD OF 'laws.FnExactSpanOk'. -/
def fnExactSpanOkUptoCard : Claim7 := { stood := { row := fnExactSpanOkUptoRow, standIns := [], harness := (true, "351c091a5c7d007b52058facdbd1232e11235fe337bf1b995a38da8f4648ad18"), looks := false }, kinds := [], alts := [], laidByText := true, laidKinds := [.data], laidTests := true, laidLooks := .later }
def FnExactSpanOkUptoCardSaid : Prop := Claim7.holds Tryd.pinned (.plain (OpenSpec.upto fnExactSpanOkSpec)) fnExactSpanOkUptoCard

/-- THE SECOND FORM's CARD OF 'laws.FnExactSpanTake'. -/
def fnExactSpanTakeUptoCard : Claim7 := { stood := { row := fnExactSpanTakeUptoRow, standIns := [], harness := (true, "351c091a5c7d007b52058facdbd1232e11235fe337bf1b995a38da8f4648ad18"), looks := false }, kinds := [], alts := [], laidByText := true, laidKinds := [.data, .data], laidTests := true, laidLooks := .later }
def FnExactSpanTakeUptoCardSaid : Prop := Claim7.holds Tryd.pinned (.plain (OpenSpec.upto fnExactSpanTakeSpec)) fnExactSpanTakeUptoCard

/-- THE SECOND FORM's CARD OF 'laws.FnExactSpanGive'. -/
def fnExactSpanGiveUptoCard : Claim7 := { stood := { row := fnExactSpanGiveUptoRow, standIns := [], harness := (true, "351c091a5c7d007b52058facdbd1232e11235fe337bf1b995a38da8f4648ad18"), looks := false }, kinds := [], alts := [], laidByText := true, laidKinds := [.data, .data], laidTests := true, laidLooks := .later }
def FnExactSpanGiveUptoCardSaid : Prop := Claim7.holds Tryd.pinned (.plain (OpenSpec.upto fnExactSpanGiveSpec)) fnExactSpanGiveUptoCard

/-- THE SECOND FORM's CARD OF 'laws.FnExactSpanAddr'. -/
def fnExactSpanAddrUptoCard : Claim7 := { stood := { row := fnExactSpanAddrUptoRow, standIns := [], harness := (true, "351c091a5c7d007b52058facdbd1232e11235fe337bf1b995a38da8f4648ad18"), looks := false }, kinds := [], alts := [], laidByText := true, laidKinds := [.data], laidTests := true, laidLooks := .later }
def FnExactSpanAddrUptoCardSaid : Prop := Claim7.holds Tryd.pinned (.plain (OpenSpec.upto fnExactSpanAddrSpec)) fnExactSpanAddrUptoCard

/-- THE SECOND FORM's CARD OF 'laws.FnExactSlotAt'. -/
def fnExactSlotAtUptoCard : Claim7 := { stood := { row := fnExactSlotAtUptoRow, standIns := [], harness := (true, "351c091a5c7d007b52058facdbd1232e11235fe337bf1b995a38da8f4648ad18"), looks := false }, kinds := [], alts := [], laidByText := true, laidKinds := [.data], laidTests := true, laidLooks := .later }
def FnExactSlotAtUptoCardSaid : Prop := Claim7.holds Tryd.pinned (.plain (OpenSpec.upto fnExactSlotAtSpec)) fnExactSlotAtUptoCard

/-- THE SECOND FORM's CARD OF 'laws.FnExactSpanCells'. -/
def fnExactSpanCellsUptoCard : Claim7 := { stood := { row := fnExactSpanCellsUptoRow, standIns := [], harness := (true, "351c091a5c7d007b52058facdbd1232e11235fe337bf1b995a38da8f4648ad18"), looks := false }, kinds := [], alts := [], laidByText := true, laidKinds := [.data, .data], laidTests := true, laidLooks := .later }
def FnExactSpanCellsUptoCardSaid : Prop := Claim7.holds Tryd.pinned (.plain (OpenSpec.upto fnExactSpanCellsSpec)) fnExactSpanCellsUptoCard

/-- THE SECOND FORM's CARD OF 'laws.FnExactSpanFull'. -/
def fnExactSpanFullUptoCard : Claim7 := { stood := { row := fnExactSpanFullUptoRow, standIns := [], harness := (true, "351c091a5c7d007b52058facdbd1232e11235fe337bf1b995a38da8f4648ad18"), looks := false }, kinds := [], alts := [], laidByText := true, laidKinds := [.data, .data], laidTests := true, laidLooks := .later }
def FnExactSpanFullUptoCardSaid : Prop := Claim7.holds Tryd.pinned (.plain (OpenSpec.upto fnExactSpanFullSpec)) fnExactSpanFullUptoCard
end Rows
end Go.Proofs.YtelcngiplpcalaaDoor

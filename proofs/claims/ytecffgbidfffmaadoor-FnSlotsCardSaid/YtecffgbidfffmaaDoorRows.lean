/-
  NARROWER THAN 'FOR EVERY INPUT', by the rows' own cells (each row's printed sentence says how): FnSlots: laid · FnFreeSlots: laid · FnExactHasSlot: laid · FnExactWithSlot: laid · FnExactWithoutSlot: laid · FnExactFreeSlots: laid · FnExactFormatBitmap: laid.
  DERIVED. THE GIVEN ROWS OF THIS SEAT. 7 by the template 'for every input the law returns true; each argument reads behind the call as it read before'; 0 by the template 'total and deterministic' (their statements: YtecffgbidfffmaaDoorTotals.lean).
  GIVEN WITH THE SEED: the statements are not yours to turn. If you find one false, say at which input.
  Laid BY PROGRAM, IN A SANDBOX (cutbox-rows.mjs): the forced cells as the released guide's own fill.sh prints them over the translation 3c9dab98a34d692e… (all of the seat's roots in one cut). By AI agents, Wed Nov 11 2026. No macro, syntax, notation, axiom, sorry.
-/
import Derived.Test.YtecffgbidfffmaaDoorChecked
import GoSem.Claim
import GoSem.ClaimJoined
import GoSem.ClaimMapViews
import Derived.JoinedTies
import Derived.KernelRfl
namespace Go.Proofs.YtecffgbidfffmaaDoor
/- THE CELL 'sum', in the pinned program and in every row, IS THE sha256 OF THE DUMP (.gsa) THAT YtecffgbidfffmaaDoorProg.lean LOADS. Nothing in Lean hashes anything: it is a label: what it is worth is what the hold of that sum in a sandbox is worth. -/
noncomputable def Tryd.pinned : Pinned := { name := "ytecffgbidfffmaadoor", sum := "3c9dab98a34d692e0961f5122aad85f5c9b6a4a8c20612603b884504f46bc92b", checked := Tryd.checked }
namespace Rows
def none {H : Type} : Left H := { results := [], args := [] }

/- WHAT THE LISTED PACKAGE-LEVEL VARIABLES READ AS WHEN THE CALL BEGINS. Each datum BY PROGRAM (the guide's laid-datum.mjs) off the statement by which the dump's own 'gosem.cut.vars' lays the variable. In a bare row this is a premise. The card (YtecffgbidfffmaaDoorCards.lean) ties it to the program's text. -/
def laid_loop_example_g00978_impl_slotMasks {H : Type} : DataW H := .agg [.lit (.int .i64 1), .lit (.int .i64 2), .lit (.int .i64 4), .lit (.int .i64 8), .lit (.int .i64 16), .lit (.int .i64 32), .lit (.int .i64 64), .lit (.int .i64 128), .lit (.int .i64 256), .lit (.int .i64 512), .lit (.int .i64 1024), .lit (.int .i64 2048), .lit (.int .i64 4096), .lit (.int .i64 8192), .lit (.int .i64 16384), .lit (.int .i64 32768)]

/-- 'laws.FnSlots': WHATEVER THE INPUT: true; the input reads as it did. -/
def fnSlotsSpec : ChangeSpec := { name := "fnSlots", vars := ["loop.example/g00978/impl.slotMasks"], fn := fun _ => fun
  | [d, g1] => { results := [.lit (.bool true)], args := [d], vars := [g1] }
  | _ => none }
def fnSlotsRow : OpenClaim := { program := "ytecffgbidfffmaadoor", sum := "3c9dab98a34d692e0961f5122aad85f5c9b6a4a8c20612603b884504f46bc92b", func := "loop.example/g00978/laws.FnSlots", spec := "fnSlots", named := ["loop.example/g00978/impl.slotMasks"], apart := false, laid := [("loop.example/g00978/impl.slotMasks", laid_loop_example_g00978_impl_slotMasks)] }
def FnSlotsSaid : Prop := fnSlotsRow.holds Tryd.pinned (OpenSpec.ofChange fnSlotsSpec)

/-- ITS FALSE NEIGHBOUR: 'it returns false'. Refute it at one input. -/
def fnSlotsWrong : ChangeSpec := { name := "fnSlots", vars := ["loop.example/g00978/impl.slotMasks"], fn := fun _ => fun
  | [d, g1] => { results := [.lit (.bool false)], args := [d], vars := [g1] }
  | _ => none }
def FnSlotsWrongFalsely : Prop := fnSlotsRow.holds Tryd.pinned (OpenSpec.ofChange fnSlotsWrong)

/-- 'laws.FnFreeSlots': WHATEVER THE INPUT: true; the input reads as it did. -/
def fnFreeSlotsSpec : ChangeSpec := { name := "fnFreeSlots", vars := ["loop.example/g00978/impl.slotMasks"], fn := fun _ => fun
  | [d, g1] => { results := [.lit (.bool true)], args := [d], vars := [g1] }
  | _ => none }
def fnFreeSlotsRow : OpenClaim := { program := "ytecffgbidfffmaadoor", sum := "3c9dab98a34d692e0961f5122aad85f5c9b6a4a8c20612603b884504f46bc92b", func := "loop.example/g00978/laws.FnFreeSlots", spec := "fnFreeSlots", named := ["loop.example/g00978/impl.slotMasks"], apart := false, laid := [("loop.example/g00978/impl.slotMasks", laid_loop_example_g00978_impl_slotMasks)] }
def FnFreeSlotsSaid : Prop := fnFreeSlotsRow.holds Tryd.pinned (OpenSpec.ofChange fnFreeSlotsSpec)

/-- ITS FALSE NEIGHBOUR: 'it returns false'. Refute it at one input. -/
def fnFreeSlotsWrong : ChangeSpec := { name := "fnFreeSlots", vars := ["loop.example/g00978/impl.slotMasks"], fn := fun _ => fun
  | [d, g1] => { results := [.lit (.bool false)], args := [d], vars := [g1] }
  | _ => none }
def FnFreeSlotsWrongFalsely : Prop := fnFreeSlotsRow.holds Tryd.pinned (OpenSpec.ofChange fnFreeSlotsWrong)

/-- 'laws.FnExactHasSlot': WHATEVER THE INPUT: true; the input reads as it did. -/
def fnExactHasSlotSpec : ChangeSpec := { name := "fnExactHasSlot", vars := ["loop.example/g00978/impl.slotMasks"], fn := fun _ => fun
  | [d1, d2, g1] => { results := [.lit (.bool true)], args := [d1, d2], vars := [g1] }
  | _ => none }
def fnExactHasSlotRow : OpenClaim := { program := "ytecffgbidfffmaadoor", sum := "3c9dab98a34d692e0961f5122aad85f5c9b6a4a8c20612603b884504f46bc92b", func := "loop.example/g00978/laws.FnExactHasSlot", spec := "fnExactHasSlot", named := ["loop.example/g00978/impl.slotMasks"], apart := false, laid := [("loop.example/g00978/impl.slotMasks", laid_loop_example_g00978_impl_slotMasks)] }
def FnExactHasSlotSaid : Prop := fnExactHasSlotRow.holds Tryd.pinned (OpenSpec.ofChange fnExactHasSlotSpec)

/-- ITS FALSE NEIGHBOUR: 'it returns false'. Refute it at one input. -/
def fnExactHasSlotWrong : ChangeSpec := { name := "fnExactHasSlot", vars := ["loop.example/g00978/impl.slotMasks"], fn := fun _ => fun
  | [d1, d2, g1] => { results := [.lit (.bool false)], args := [d1, d2], vars := [g1] }
  | _ => none }
def FnExactHasSlotWrongFalsely : Prop := fnExactHasSlotRow.holds Tryd.pinned (OpenSpec.ofChange fnExactHasSlotWrong)

/-- 'laws.FnExactWithSlot': WHATEVER THE INPUT: true; the input reads as it did. -/
def fnExactWithSlotSpec : ChangeSpec := { name := "fnExactWithSlot", vars := ["loop.example/g00978/impl.slotMasks"], fn := fun _ => fun
  | [d1, d2, g1] => { results := [.lit (.bool true)], args := [d1, d2], vars := [g1] }
  | _ => none }
def fnExactWithSlotRow : OpenClaim := { program := "ytecffgbidfffmaadoor", sum := "3c9dab98a34d692e0961f5122aad85f5c9b6a4a8c20612603b884504f46bc92b", func := "loop.example/g00978/laws.FnExactWithSlot", spec := "fnExactWithSlot", named := ["loop.example/g00978/impl.slotMasks"], apart := false, laid := [("loop.example/g00978/impl.slotMasks", laid_loop_example_g00978_impl_slotMasks)] }
def FnExactWithSlotSaid : Prop := fnExactWithSlotRow.holds Tryd.pinned (OpenSpec.ofChange fnExactWithSlotSpec)

/-- ITS FALSE NEIGHBOUR: 'it returns false'. Refute it at one input. -/
def fnExactWithSlotWrong : ChangeSpec := { name := "fnExactWithSlot", vars := ["loop.example/g00978/impl.slotMasks"], fn := fun _ => fun
  | [d1, d2, g1] => { results := [.lit (.bool false)], args := [d1, d2], vars := [g1] }
  | _ => none }
def FnExactWithSlotWrongFalsely : Prop := fnExactWithSlotRow.holds Tryd.pinned (OpenSpec.ofChange fnExactWithSlotWrong)

/-- 'laws.FnExactWithoutSlot': WHATEVER THE INPUT: true; the input reads as it did. -/
def fnExactWithoutSlotSpec : ChangeSpec := { name := "fnExactWithoutSlot", vars := ["loop.example/g00978/impl.slotMasks"], fn := fun _ => fun
  | [d1, d2, g1] => { results := [.lit (.bool true)], args := [d1, d2], vars := [g1] }
  | _ => none }
def fnExactWithoutSlotRow : OpenClaim := { program := "ytecffgbidfffmaadoor", sum := "3c9dab98a34d692e0961f5122aad85f5c9b6a4a8c20612603b884504f46bc92b", func := "loop.example/g00978/laws.FnExactWithoutSlot", spec := "fnExactWithoutSlot", named := ["loop.example/g00978/impl.slotMasks"], apart := false, laid := [("loop.example/g00978/impl.slotMasks", laid_loop_example_g00978_impl_slotMasks)] }
def FnExactWithoutSlotSaid : Prop := fnExactWithoutSlotRow.holds Tryd.pinned (OpenSpec.ofChange fnExactWithoutSlotSpec)

/-- ITS FALSE NEIGHBOUR: 'it returns false'. Refute it at one input. -/
def fnExactWithoutSlotWrong : ChangeSpec := { name := "fnExactWithoutSlot", vars := ["loop.example/g00978/impl.slotMasks"], fn := fun _ => fun
  | [d1, d2, g1] => { results := [.lit (.bool false)], args := [d1, d2], vars := [g1] }
  | _ => none }
def FnExactWithoutSlotWrongFalsely : Prop := fnExactWithoutSlotRow.holds Tryd.pinned (OpenSpec.ofChange fnExactWithoutSlotWrong)

/-- 'laws.FnExactFreeSlots': WHATEVER THE INPUT: true; the input reads as it did. -/
def fnExactFreeSlotsSpec : ChangeSpec := { name := "fnExactFreeSlots", vars := ["loop.example/g00978/impl.slotMasks"], fn := fun _ => fun
  | [d1, d2, g1] => { results := [.lit (.bool true)], args := [d1, d2], vars := [g1] }
  | _ => none }
def fnExactFreeSlotsRow : OpenClaim := { program := "ytecffgbidfffmaadoor", sum := "3c9dab98a34d692e0961f5122aad85f5c9b6a4a8c20612603b884504f46bc92b", func := "loop.example/g00978/laws.FnExactFreeSlots", spec := "fnExactFreeSlots", named := ["loop.example/g00978/impl.slotMasks"], apart := false, laid := [("loop.example/g00978/impl.slotMasks", laid_loop_example_g00978_impl_slotMasks)] }
def FnExactFreeSlotsSaid : Prop := fnExactFreeSlotsRow.holds Tryd.pinned (OpenSpec.ofChange fnExactFreeSlotsSpec)

/-- ITS FALSE NEIGHBOUR: 'it returns false'. Refute it at one input. -/
def fnExactFreeSlotsWrong : ChangeSpec := { name := "fnExactFreeSlots", vars := ["loop.example/g00978/impl.slotMasks"], fn := fun _ => fun
  | [d1, d2, g1] => { results := [.lit (.bool false)], args := [d1, d2], vars := [g1] }
  | _ => none }
def FnExactFreeSlotsWrongFalsely : Prop := fnExactFreeSlotsRow.holds Tryd.pinned (OpenSpec.ofChange fnExactFreeSlotsWrong)

/-- 'laws.FnExactFormatBitmap': WHATEVER THE INPUT: true; the input reads as it did. -/
def fnExactFormatBitmapSpec : ChangeSpec := { name := "fnExactFormatBitmap", vars := ["loop.example/g00978/impl.slotMasks"], fn := fun _ => fun
  | [d1, d2, g1] => { results := [.lit (.bool true)], args := [d1, d2], vars := [g1] }
  | _ => none }
def fnExactFormatBitmapRow : OpenClaim := { program := "ytecffgbidfffmaadoor", sum := "3c9dab98a34d692e0961f5122aad85f5c9b6a4a8c20612603b884504f46bc92b", func := "loop.example/g00978/laws.FnExactFormatBitmap", spec := "fnExactFormatBitmap", named := ["loop.example/g00978/impl.slotMasks"], apart := false, laid := [("loop.example/g00978/impl.slotMasks", laid_loop_example_g00978_impl_slotMasks)] }
def FnExactFormatBitmapSaid : Prop := fnExactFormatBitmapRow.holds Tryd.pinned (OpenSpec.ofChange fnExactFormatBitmapSpec)

/-- ITS FALSE NEIGHBOUR: 'it returns false'. Refute it at one input. -/
def fnExactFormatBitmapWrong : ChangeSpec := { name := "fnExactFormatBitmap", vars := ["loop.example/g00978/impl.slotMasks"], fn := fun _ => fun
  | [d1, d2, g1] => { results := [.lit (.bool false)], args := [d1, d2], vars := [g1] }
  | _ => none }
def FnExactFormatBitmapWrongFalsely : Prop := fnExactFormatBitmapRow.holds Tryd.pinned (OpenSpec.ofChange fnExactFormatBitmapWrong)

/- THE SECOND FORM. 'bulk': how many values and letters a reading holds, each counted each time it is reached (what is shared counts as often as it is met; a slice's spare places count too). A statement '..UptoSaid' is the law's where the arguments, and the package variables that the reading takes, are together of bulk at most 1048576: NARROWER than '..Said'. Prove '..Said' where nothing that the law and all that it calls make is longer than what came in: it says more and counts as full. Else prove '..UptoSaid'. A law counts once. -/
mutual
def uptoBulk {H : Type} : DataW H → Nat
  | .lit (.string bytes) => bytes.length + 1
  | .lit _ => 1
  | .nil => 1
  | .ptr d => uptoBulk d + 1
  | .slice elems spare => uptoBulkAll elems + uptoBulkAll spare + 1
  | .agg parts => uptoBulkAll parts + 1
  | .iface _ d => uptoBulk d + 1
  | .map entries => uptoBulkEntries entries + 1
  | .held _ => 1
def uptoBulkAll {H : Type} : List (DataW H) → Nat
  | [] => 0
  | d :: r => uptoBulk d + uptoBulkAll r
def uptoBulkEntries {H : Type} : List (Lit × DataW H) → Nat
  | [] => 0
  | x :: r => uptoBulkEntry x + uptoBulkEntries r
def uptoBulkEntry {H : Type} : Lit × DataW H → Nat
  | (.string bytes, d) => bytes.length + uptoBulk d + 1
  | (_, d) => uptoBulk d + 1
 end
def uptoSmall : (H : Type) → List (DataW H) → Bool := fun _ ds => decide (uptoBulkAll ds ≤ 1048576)
def OpenSpec.upto (s : _root_.Go.ChangeSpec) : _root_.Go.OpenSpec := { _root_.Go.OpenSpec.ofChange s with cond := some uptoSmall }

/-- 'laws.FnSlots', WHERE WHAT IT READS IS OF BULK AT MOST 1048576: true; the input reads as it did. -/
def fnSlotsUptoRow : OpenClaim := { program := "ytecffgbidfffmaadoor", sum := "3c9dab98a34d692e0961f5122aad85f5c9b6a4a8c20612603b884504f46bc92b", func := "loop.example/g00978/laws.FnSlots", spec := "fnSlots", named := ["loop.example/g00978/impl.slotMasks"], apart := false, laid := [("loop.example/g00978/impl.slotMasks", laid_loop_example_g00978_impl_slotMasks)], narrowed := true }
def FnSlotsUptoSaid : Prop := fnSlotsUptoRow.holds Tryd.pinned (OpenSpec.upto fnSlotsSpec)

/-- 'laws.FnFreeSlots', WHERE WHAT IT READS IS OF BULK AT MOST 1048576: true; the input reads as it did. -/
def fnFreeSlotsUptoRow : OpenClaim := { program := "ytecffgbidfffmaadoor", sum := "3c9dab98a34d692e0961f5122aad85f5c9b6a4a8c20612603b884504f46bc92b", func := "loop.example/g00978/laws.FnFreeSlots", spec := "fnFreeSlots", named := ["loop.example/g00978/impl.slotMasks"], apart := false, laid := [("loop.example/g00978/impl.slotMasks", laid_loop_example_g00978_impl_slotMasks)], narrowed := true }
def FnFreeSlotsUptoSaid : Prop := fnFreeSlotsUptoRow.holds Tryd.pinned (OpenSpec.upto fnFreeSlotsSpec)

/-- 'laws.FnExactHasSlot', WHERE WHAT IT READS IS OF BULK AT MOST 1048576: true; the input reads as it did. -/
def fnExactHasSlotUptoRow : OpenClaim := { program := "ytecffgbidfffmaadoor", sum := "3c9dab98a34d692e0961f5122aad85f5c9b6a4a8c20612603b884504f46bc92b", func := "loop.example/g00978/laws.FnExactHasSlot", spec := "fnExactHasSlot", named := ["loop.example/g00978/impl.slotMasks"], apart := false, laid := [("loop.example/g00978/impl.slotMasks", laid_loop_example_g00978_impl_slotMasks)], narrowed := true }
def FnExactHasSlotUptoSaid : Prop := fnExactHasSlotUptoRow.holds Tryd.pinned (OpenSpec.upto fnExactHasSlotSpec)

/-- 'laws.FnExactWithSlot', WHERE WHAT IT READS IS OF BULK AT MOST 1048576: true; the input reads as it did. -/
def fnExactWithSlotUptoRow : OpenClaim := { program := "ytecffgbidfffmaadoor", sum := "3c9dab98a34d692e0961f5122aad85f5c9b6a4a8c20612603b884504f46bc92b", func := "loop.example/g00978/laws.FnExactWithSlot", spec := "fnExactWithSlot", named := ["loop.example/g00978/impl.slotMasks"], apart := false, laid := [("loop.example/g00978/impl.slotMasks", laid_loop_example_g00978_impl_slotMasks)], narrowed := true }
def FnExactWithSlotUptoSaid : Prop := fnExactWithSlotUptoRow.holds Tryd.pinned (OpenSpec.upto fnExactWithSlotSpec)

/-- 'laws.FnExactWithoutSlot', WHERE WHAT IT READS IS OF BULK AT MOST 1048576: true; the input reads as it did. -/
def fnExactWithoutSlotUptoRow : OpenClaim := { program := "ytecffgbidfffmaadoor", sum := "3c9dab98a34d692e0961f5122aad85f5c9b6a4a8c20612603b884504f46bc92b", func := "loop.example/g00978/laws.FnExactWithoutSlot", spec := "fnExactWithoutSlot", named := ["loop.example/g00978/impl.slotMasks"], apart := false, laid := [("loop.example/g00978/impl.slotMasks", laid_loop_example_g00978_impl_slotMasks)], narrowed := true }
def FnExactWithoutSlotUptoSaid : Prop := fnExactWithoutSlotUptoRow.holds Tryd.pinned (OpenSpec.upto fnExactWithoutSlotSpec)

/-- 'laws.FnExactFreeSlots', WHERE WHAT IT READS IS OF BULK AT MOST 1048576: true; the input reads as it did. -/
def fnExactFreeSlotsUptoRow : OpenClaim := { program := "ytecffgbidfffmaadoor", sum := "3c9dab98a34d692e0961f5122aad85f5c9b6a4a8c20612603b884504f46bc92b", func := "loop.example/g00978/laws.FnExactFreeSlots", spec := "fnExactFreeSlots", named := ["loop.example/g00978/impl.slotMasks"], apart := false, laid := [("loop.example/g00978/impl.slotMasks", laid_loop_example_g00978_impl_slotMasks)], narrowed := true }
def FnExactFreeSlotsUptoSaid : Prop := fnExactFreeSlotsUptoRow.holds Tryd.pinned (OpenSpec.upto fnExactFreeSlotsSpec)

/-- 'laws.FnExactFormatBitmap', WHERE WHAT IT READS IS OF BULK AT MOST 1048576: true; the input reads as it did. -/
def fnExactFormatBitmapUptoRow : OpenClaim := { program := "ytecffgbidfffmaadoor", sum := "3c9dab98a34d692e0961f5122aad85f5c9b6a4a8c20612603b884504f46bc92b", func := "loop.example/g00978/laws.FnExactFormatBitmap", spec := "fnExactFormatBitmap", named := ["loop.example/g00978/impl.slotMasks"], apart := false, laid := [("loop.example/g00978/impl.slotMasks", laid_loop_example_g00978_impl_slotMasks)], narrowed := true }
def FnExactFormatBitmapUptoSaid : Prop := fnExactFormatBitmapUptoRow.holds Tryd.pinned (OpenSpec.upto fnExactFormatBitmapSpec)

end Rows
end Go.Proofs.YtecffgbidfffmaaDoor

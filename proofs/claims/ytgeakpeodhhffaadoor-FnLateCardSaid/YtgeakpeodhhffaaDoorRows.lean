/-
  NARROWER THAN 'FOR EVERY INPUT', by the rows' own cells (each row's printed sentence says how): FnLate: laid · FnExactFreeSlot: laid · FnExactSlotClear: ifaces, laid.
  DERIVED. THE GIVEN ROWS OF THIS SEAT. 3 by the template 'for every input the law returns true; each argument reads behind the call as it read before'; 0 by the template 'total and deterministic' (their statements: YtgeakpeodhhffaaDoorTotals.lean).
  GIVEN WITH THE SEED: the statements are not yours to turn. If you find one false, say at which input.
  Laid BY PROGRAM, IN A SANDBOX (cutbox-rows.mjs): the forced cells as the released guide's own fill.sh prints them over the translation 62b1d2e35a7102da… (all of the seat's roots in one cut). By AI agents, Wed Nov 11 2026. No macro, syntax, notation, axiom, sorry.
-/
import Derived.Test.YtgeakpeodhhffaaDoorChecked
import GoSem.Claim
import GoSem.ClaimJoined
import GoSem.ClaimMapViews
import Derived.JoinedTies
import Derived.KernelRfl
namespace Go.Proofs.YtgeakpeodhhffaaDoor
/- THE CELL 'sum', in the pinned program and in every row, IS THE sha256 OF THE DUMP (.gsa) THAT YtgeakpeodhhffaaDoorProg.lean LOADS. Nothing in Lean hashes anything: it is a label: what it is worth is what the hold of that sum in a sandbox is worth. -/
noncomputable def Tryd.pinned : Pinned := { name := "ytgeakpeodhhffaadoor", sum := "62b1d2e35a7102da6e5c25da483345ed049b379aa3d1446315d5e1acf54244c9", checked := Tryd.checked }
namespace Rows
def none {H : Type} : Left H := { results := [], args := [] }

/- WHAT THE LISTED PACKAGE-LEVEL VARIABLES READ AS WHEN THE CALL BEGINS. Each datum BY PROGRAM (the guide's laid-datum.mjs) off the statement by which the dump's own 'gosem.cut.vars' lays the variable. In a bare row this is a premise. The card (YtgeakpeodhhffaaDoorCards.lean) ties it to the program's text. -/
def laid_loop_example_g00978_impl_slotMasks {H : Type} : DataW H := .agg [.lit (.int .i64 1), .lit (.int .i64 2), .lit (.int .i64 4), .lit (.int .i64 8), .lit (.int .i64 16), .lit (.int .i64 32), .lit (.int .i64 64), .lit (.int .i64 128), .lit (.int .i64 256), .lit (.int .i64 512), .lit (.int .i64 1024), .lit (.int .i64 2048), .lit (.int .i64 4096), .lit (.int .i64 8192), .lit (.int .i64 16384), .lit (.int .i64 32768)]
def laid_loop_example_g00978_impl_classSizes {H : Type} : DataW H := .agg [.lit (.int .i64 1), .lit (.int .i64 2), .lit (.int .i64 4), .lit (.int .i64 8)]
def laid_loop_example_g00978_impl_errPage {H : Type} : DataW H := .iface "*errors.errorString" (.ptr (.agg [.lit (.string [110, 111, 32, 112, 97, 103, 101, 32, 105, 115, 32, 109, 97, 112, 112, 101, 100, 32, 97, 116, 32, 116, 104, 101, 32, 97, 100, 100, 114, 101, 115, 115])]))
def laid_loop_example_g00978_impl_errWrite {H : Type} : DataW H := .iface "*errors.errorString" (.ptr (.agg [.lit (.string [116, 104, 101, 32, 112, 97, 103, 101, 32, 105, 115, 32, 109, 97, 112, 112, 101, 100, 32, 102, 111, 114, 32, 114, 101, 97, 100, 105, 110, 103, 32, 111, 110, 108, 121])]))
def laid_loop_example_g00978_impl_errValue {H : Type} : DataW H := .iface "*errors.errorString" (.ptr (.agg [.lit (.string [116, 104, 101, 32, 118, 97, 108, 117, 101, 32, 105, 115, 32, 111, 117, 116, 32, 111, 102, 32, 114, 97, 110, 103, 101])]))

/-- 'laws.FnLate': WHATEVER THE INPUT: true; the input reads as it did. -/
def fnLateSpec : ChangeSpec := { name := "fnLate", vars := ["loop.example/g00978/impl.classSizes", "loop.example/g00978/impl.slotMasks"], fn := fun _ => fun
  | [d, g1, g2] => { results := [.lit (.bool true)], args := [d], vars := [g1, g2] }
  | _ => none }
def fnLateRow : OpenClaim := { program := "ytgeakpeodhhffaadoor", sum := "62b1d2e35a7102da6e5c25da483345ed049b379aa3d1446315d5e1acf54244c9", func := "loop.example/g00978/laws.FnLate", spec := "fnLate", unfollowed := true, recurses := true, named := ["loop.example/g00978/impl.classSizes", "loop.example/g00978/impl.slotMasks"], apart := false, laid := [("loop.example/g00978/impl.slotMasks", laid_loop_example_g00978_impl_slotMasks), ("loop.example/g00978/impl.classSizes", laid_loop_example_g00978_impl_classSizes)] }
def FnLateSaid : Prop := fnLateRow.holds Tryd.pinned (OpenSpec.ofChange fnLateSpec)

/-- ITS FALSE NEIGHBOUR: 'it returns false'. Refute it at one input. -/
def fnLateWrong : ChangeSpec := { name := "fnLate", vars := ["loop.example/g00978/impl.classSizes", "loop.example/g00978/impl.slotMasks"], fn := fun _ => fun
  | [d, g1, g2] => { results := [.lit (.bool false)], args := [d], vars := [g1, g2] }
  | _ => none }
def FnLateWrongFalsely : Prop := fnLateRow.holds Tryd.pinned (OpenSpec.ofChange fnLateWrong)

/-- 'laws.FnExactFreeSlot': WHATEVER THE INPUT: true; the input reads as it did. -/
def fnExactFreeSlotSpec : ChangeSpec := { name := "fnExactFreeSlot", vars := ["loop.example/g00978/impl.classSizes", "loop.example/g00978/impl.slotMasks"], fn := fun _ => fun
  | [d1, d2, d3, g1, g2] => { results := [.lit (.bool true)], args := [d1, d2, d3], vars := [g1, g2] }
  | _ => none }
def fnExactFreeSlotRow : OpenClaim := { program := "ytgeakpeodhhffaadoor", sum := "62b1d2e35a7102da6e5c25da483345ed049b379aa3d1446315d5e1acf54244c9", func := "loop.example/g00978/laws.FnExactFreeSlot", spec := "fnExactFreeSlot", named := ["loop.example/g00978/impl.classSizes", "loop.example/g00978/impl.slotMasks"], apart := false, laid := [("loop.example/g00978/impl.slotMasks", laid_loop_example_g00978_impl_slotMasks), ("loop.example/g00978/impl.classSizes", laid_loop_example_g00978_impl_classSizes)] }
def FnExactFreeSlotSaid : Prop := fnExactFreeSlotRow.holds Tryd.pinned (OpenSpec.ofChange fnExactFreeSlotSpec)

/-- ITS FALSE NEIGHBOUR: 'it returns false'. Refute it at one input. -/
def fnExactFreeSlotWrong : ChangeSpec := { name := "fnExactFreeSlot", vars := ["loop.example/g00978/impl.classSizes", "loop.example/g00978/impl.slotMasks"], fn := fun _ => fun
  | [d1, d2, d3, g1, g2] => { results := [.lit (.bool false)], args := [d1, d2, d3], vars := [g1, g2] }
  | _ => none }
def FnExactFreeSlotWrongFalsely : Prop := fnExactFreeSlotRow.holds Tryd.pinned (OpenSpec.ofChange fnExactFreeSlotWrong)

/-- 'laws.FnExactSlotClear': WHATEVER THE INPUT: true; the input reads as it did. -/
def fnExactSlotClearSpec : ChangeSpec := { name := "fnExactSlotClear", vars := ["loop.example/g00978/impl.classSizes", "loop.example/g00978/impl.errPage", "loop.example/g00978/impl.errWrite", "loop.example/g00978/impl.errValue"], fn := fun _ => fun
  | [d1, d2, d3, g1, g2, g3, g4] => { results := [.lit (.bool true)], args := [d1, d2, d3], vars := [g1, g2, g3, g4] }
  | _ => none }
def fnExactSlotClearRow : OpenClaim := { program := "ytgeakpeodhhffaadoor", sum := "62b1d2e35a7102da6e5c25da483345ed049b379aa3d1446315d5e1acf54244c9", func := "loop.example/g00978/laws.FnExactSlotClear", spec := "fnExactSlotClear", inPlace := ["internal/reflectlite.TypeOf"], unfollowed := true, recurses := true, named := ["loop.example/g00978/impl.classSizes", "loop.example/g00978/impl.errPage", "loop.example/g00978/impl.errWrite", "loop.example/g00978/impl.errValue"], ifaces := true, apart := false, laid := [("loop.example/g00978/impl.classSizes", laid_loop_example_g00978_impl_classSizes), ("loop.example/g00978/impl.errPage", laid_loop_example_g00978_impl_errPage), ("loop.example/g00978/impl.errWrite", laid_loop_example_g00978_impl_errWrite), ("loop.example/g00978/impl.errValue", laid_loop_example_g00978_impl_errValue)] }
def FnExactSlotClearSaid : Prop := fnExactSlotClearRow.holds Tryd.pinned (OpenSpec.ofChange fnExactSlotClearSpec)

/-- ITS FALSE NEIGHBOUR: 'it returns false'. Refute it at one input. -/
def fnExactSlotClearWrong : ChangeSpec := { name := "fnExactSlotClear", vars := ["loop.example/g00978/impl.classSizes", "loop.example/g00978/impl.errPage", "loop.example/g00978/impl.errWrite", "loop.example/g00978/impl.errValue"], fn := fun _ => fun
  | [d1, d2, d3, g1, g2, g3, g4] => { results := [.lit (.bool false)], args := [d1, d2, d3], vars := [g1, g2, g3, g4] }
  | _ => none }
def FnExactSlotClearWrongFalsely : Prop := fnExactSlotClearRow.holds Tryd.pinned (OpenSpec.ofChange fnExactSlotClearWrong)

/- THE SECOND FORM. 'bulk': how many values and letters a reading holds, each counted each time it is reached (what is shared counts as often as it is met; a slice's spare places count too). A statement '..UptoSaid' is the law's where the arguments, and the package variables that the reading takes, are together of bulk at most 1048576: NARROWER than '..Said'. Prove '..Said' where nothing that the law and all that it calls make is longer than what came in: it says more and counts as full. Else prove '..UptoSaid'. A law counts once. -/
mutual
def uptoBulk {H : Type} : DataW H → Nat
  | .lit (.string bytes) => bytes.length + 1
  | .lit _ => 1
  | .nil => 1
  | .ptr d => uptoBulk d + 1
  | .slice elems spare => uptoBulkAll elems + uptoBulkAll spare + 1
  | .agg parts => uptoBulkAll parts + 1
  | .iface _ d => uptoBulk d + 1
  | .map entries => uptoBulkEntries entries + 1
  | .held _ => 1
def uptoBulkAll {H : Type} : List (DataW H) → Nat
  | [] => 0
  | d :: r => uptoBulk d + uptoBulkAll r
def uptoBulkEntries {H : Type} : List (Lit × DataW H) → Nat
  | [] => 0
  | x :: r => uptoBulkEntry x + uptoBulkEntries r
def uptoBulkEntry {H : Type} : Lit × DataW H → Nat
  | (.string bytes, d) => bytes.length + uptoBulk d + 1
  | (_, d) => uptoBulk d + 1
 end
def uptoSmall : (H : Type) → List (DataW H) → Bool := fun _ ds => decide (uptoBulkAll ds ≤ 1048576)
def OpenSpec.upto (s : _root_.Go.ChangeSpec) : _root_.Go.OpenSpec := { _root_.Go.OpenSpec.ofChange s with cond := some uptoSmall }

/-- 'laws.FnLate', WHERE WHAT IT READS IS OF BULK AT MOST 1048576: true; the input reads as it did. -/
def fnLateUptoRow : OpenClaim := { program := "ytgeakpeodhhffaadoor", sum := "62b1d2e35a7102da6e5c25da483345ed049b379aa3d1446315d5e1acf54244c9", func := "loop.example/g00978/laws.FnLate", spec := "fnLate", unfollowed := true, recurses := true, named := ["loop.example/g00978/impl.classSizes", "loop.example/g00978/impl.slotMasks"], apart := false, laid := [("loop.example/g00978/impl.slotMasks", laid_loop_example_g00978_impl_slotMasks), ("loop.example/g00978/impl.classSizes", laid_loop_example_g00978_impl_classSizes)], narrowed := true }
def FnLateUptoSaid : Prop := fnLateUptoRow.holds Tryd.pinned (OpenSpec.upto fnLateSpec)

/-- 'laws.FnExactFreeSlot', WHERE WHAT IT READS IS OF BULK AT MOST 1048576: true; the input reads as it did. -/
def fnExactFreeSlotUptoRow : OpenClaim := { program := "ytgeakpeodhhffaadoor", sum := "62b1d2e35a7102da6e5c25da483345ed049b379aa3d1446315d5e1acf54244c9", func := "loop.example/g00978/laws.FnExactFreeSlot", spec := "fnExactFreeSlot", named := ["loop.example/g00978/impl.classSizes", "loop.example/g00978/impl.slotMasks"], apart := false, laid := [("loop.example/g00978/impl.slotMasks", laid_loop_example_g00978_impl_slotMasks), ("loop.example/g00978/impl.classSizes", laid_loop_example_g00978_impl_classSizes)], narrowed := true }
def FnExactFreeSlotUptoSaid : Prop := fnExactFreeSlotUptoRow.holds Tryd.pinned (OpenSpec.upto fnExactFreeSlotSpec)

/-- 'laws.FnExactSlotClear', WHERE WHAT IT READS IS OF BULK AT MOST 1048576: true; the input reads as it did. -/
def fnExactSlotClearUptoRow : OpenClaim := { program := "ytgeakpeodhhffaadoor", sum := "62b1d2e35a7102da6e5c25da483345ed049b379aa3d1446315d5e1acf54244c9", func := "loop.example/g00978/laws.FnExactSlotClear", spec := "fnExactSlotClear", inPlace := ["internal/reflectlite.TypeOf"], unfollowed := true, recurses := true, named := ["loop.example/g00978/impl.classSizes", "loop.example/g00978/impl.errPage", "loop.example/g00978/impl.errWrite", "loop.example/g00978/impl.errValue"], ifaces := true, apart := false, laid := [("loop.example/g00978/impl.classSizes", laid_loop_example_g00978_impl_classSizes), ("loop.example/g00978/impl.errPage", laid_loop_example_g00978_impl_errPage), ("loop.example/g00978/impl.errWrite", laid_loop_example_g00978_impl_errWrite), ("loop.example/g00978/impl.errValue", laid_loop_example_g00978_impl_errValue)], narrowed := true }
def FnExactSlotClearUptoSaid : Prop := fnExactSlotClearUptoRow.holds Tryd.pinned (OpenSpec.upto fnExactSlotClearSpec)

end Rows
end Go.Proofs.YtgeakpeodhhffaaDoor

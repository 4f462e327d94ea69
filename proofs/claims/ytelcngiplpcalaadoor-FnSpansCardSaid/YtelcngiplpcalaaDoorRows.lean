/-
  NARROWER THAN 'FOR EVERY INPUT', by the rows' own cells (each row's printed sentence says how): FnSpans: laid · FnSlotAddrs: laid · FnExactSpanOk: laid · FnExactSpanTake: laid · FnExactSpanGive: laid · FnExactSpanAddr: laid · FnExactSlotAt: laid · FnExactSpanCells: laid · FnExactSpanFull: laid.
  DERIVED. THE GIVEN ROWS OF THIS SEAT. 9 by the template 'for every input the law returns true; each argument reads behind the call as it read before'; 0 by the template 'total and deterministic' (their statements: YtelcngiplpcalaaDoorTotals.lean).
  GIVEN WITH THE SEED: the statements are not yours to turn. If you find one false, say at which input.
  Laid BY PROGRAM, IN A SANDBOX (cutbox-rows.mjs): the forced cells as the released guide's own fill.sh prints them over the translation fbe17256caf454b5… (all of the seat's roots in one cut). By AI agents, Wed Nov 11 2026. No macro, syntax, notation, axiom, sorry.
-/
import Derived.Test.YtelcngiplpcalaaDoorChecked
import GoSem.Claim
import GoSem.ClaimJoined
import GoSem.ClaimMapViews
import Derived.JoinedTies
import Derived.KernelRfl
namespace Go.Proofs.YtelcngiplpcalaaDoor
/- THE CELL 'sum', in the pinned program and in every row, IS THE sha256 OF THE DUMP (.gsa) THAT YtelcngiplpcalaaDoorProg.lean LOADS. Nothing in Lean hashes anything: it is a label: what it is worth is what the hold of that sum in a sandbox is worth. -/
noncomputable def Tryd.pinned : Pinned := { name := "ytelcngiplpcalaadoor", sum := "fbe17256caf454b504ab215b4b583cb26e1070afe704b6a9d8a6f825e01a9db4", checked := Tryd.checked }
namespace Rows
def none {H : Type} : Left H := { results := [], args := [] }

/- WHAT THE LISTED PACKAGE-LEVEL VARIABLES READ AS WHEN THE CALL BEGINS. Each datum BY PROGRAM (the guide's laid-datum.mjs) off the statement by which the dump's own 'gosem.cut.vars' lays the variable. In a bare row this is a premise. The card (YtelcngiplpcalaaDoorCards.lean) ties it to the program's text. -/
def laid_loop_example_g00978_impl_slotMasks {H : Type} : DataW H := .agg [.lit (.int .i64 1), .lit (.int .i64 2), .lit (.int .i64 4), .lit (.int .i64 8), .lit (.int .i64 16), .lit (.int .i64 32), .lit (.int .i64 64), .lit (.int .i64 128), .lit (.int .i64 256), .lit (.int .i64 512), .lit (.int .i64 1024), .lit (.int .i64 2048), .lit (.int .i64 4096), .lit (.int .i64 8192), .lit (.int .i64 16384), .lit (.int .i64 32768)]
def laid_loop_example_g00978_impl_classSizes {H : Type} : DataW H := .agg [.lit (.int .i64 1), .lit (.int .i64 2), .lit (.int .i64 4), .lit (.int .i64 8)]

/-- 'laws.FnSpans': WHATEVER THE INPUT: true; the input reads as it did. -/
def fnSpansSpec : ChangeSpec := { name := "fnSpans", vars := ["loop.example/g00978/impl.classSizes", "loop.example/g00978/impl.slotMasks"], fn := fun _ => fun
  | [d, g1, g2] => { results := [.lit (.bool true)], args := [d], vars := [g1, g2] }
  | _ => none }
def fnSpansRow : OpenClaim := { program := "ytelcngiplpcalaadoor", sum := "fbe17256caf454b504ab215b4b583cb26e1070afe704b6a9d8a6f825e01a9db4", func := "loop.example/g00978/laws.FnSpans", spec := "fnSpans", named := ["loop.example/g00978/impl.classSizes", "loop.example/g00978/impl.slotMasks"], apart := false, laid := [("loop.example/g00978/impl.slotMasks", laid_loop_example_g00978_impl_slotMasks), ("loop.example/g00978/impl.classSizes", laid_loop_example_g00978_impl_classSizes)] }
def FnSpansSaid : Prop := fnSpansRow.holds Tryd.pinned (OpenSpec.ofChange fnSpansSpec)

/-- ITS FALSE NEIGHBOUR: 'it returns false'. Refute it at one input. -/
def fnSpansWrong : ChangeSpec := { name := "fnSpans", vars := ["loop.example/g00978/impl.classSizes", "loop.example/g00978/impl.slotMasks"], fn := fun _ => fun
  | [d, g1, g2] => { results := [.lit (.bool false)], args := [d], vars := [g1, g2] }
  | _ => none }
def FnSpansWrongFalsely : Prop := fnSpansRow.holds Tryd.pinned (OpenSpec.ofChange fnSpansWrong)

/-- 'laws.FnSlotAddrs': WHATEVER THE INPUT: true; the input reads as it did. -/
def fnSlotAddrsSpec : ChangeSpec := { name := "fnSlotAddrs", vars := ["loop.example/g00978/impl.classSizes", "loop.example/g00978/impl.slotMasks"], fn := fun _ => fun
  | [d, g1, g2] => { results := [.lit (.bool true)], args := [d], vars := [g1, g2] }
  | _ => none }
def fnSlotAddrsRow : OpenClaim := { program := "ytelcngiplpcalaadoor", sum := "fbe17256caf454b504ab215b4b583cb26e1070afe704b6a9d8a6f825e01a9db4", func := "loop.example/g00978/laws.FnSlotAddrs", spec := "fnSlotAddrs", named := ["loop.example/g00978/impl.classSizes", "loop.example/g00978/impl.slotMasks"], apart := false, laid := [("loop.example/g00978/impl.slotMasks", laid_loop_example_g00978_impl_slotMasks), ("loop.example/g00978/impl.classSizes", laid_loop_example_g00978_impl_classSizes)] }
def FnSlotAddrsSaid : Prop := fnSlotAddrsRow.holds Tryd.pinned (OpenSpec.ofChange fnSlotAddrsSpec)

/-- ITS FALSE NEIGHBOUR: 'it returns false'. Refute it at one input. -/
def fnSlotAddrsWrong : ChangeSpec := { name := "fnSlotAddrs", vars := ["loop.example/g00978/impl.classSizes", "loop.example/g00978/impl.slotMasks"], fn := fun _ => fun
  | [d, g1, g2] => { results := [.lit (.bool false)], args := [d], vars := [g1, g2] }
  | _ => none }
def FnSlotAddrsWrongFalsely : Prop := fnSlotAddrsRow.holds Tryd.pinned (OpenSpec.ofChange fnSlotAddrsWrong)

/-- 'laws.FnExactSpanOk': WHATEVER THE INPUT: true; the input reads as it did. -/
def fnExactSpanOkSpec : ChangeSpec := { name := "fnExactSpanOk", vars := ["loop.example/g00978/impl.classSizes"], fn := fun _ => fun
  | [d, g1] => { results := [.lit (.bool true)], args := [d], vars := [g1] }
  | _ => none }
def fnExactSpanOkRow : OpenClaim := { program := "ytelcngiplpcalaadoor", sum := "fbe17256caf454b504ab215b4b583cb26e1070afe704b6a9d8a6f825e01a9db4", func := "loop.example/g00978/laws.FnExactSpanOk", spec := "fnExactSpanOk", named := ["loop.example/g00978/impl.classSizes"], apart := false, laid := [("loop.example/g00978/impl.classSizes", laid_loop_example_g00978_impl_classSizes)] }
def FnExactSpanOkSaid : Prop := fnExactSpanOkRow.holds Tryd.pinned (OpenSpec.ofChange fnExactSpanOkSpec)

/-- ITS FALSE NEIGHBOUR: 'it returns false'. Refute it at one input. -/
def fnExactSpanOkWrong : ChangeSpec := { name := "fnExactSpanOk", vars := ["loop.example/g00978/impl.classSizes"], fn := fun _ => fun
  | [d, g1] => { results := [.lit (.bool false)], args := [d], vars := [g1] }
  | _ => none }
def FnExactSpanOkWrongFalsely : Prop := fnExactSpanOkRow.holds Tryd.pinned (OpenSpec.ofChange fnExactSpanOkWrong)

/-- 'laws.FnExactSpanTake': WHATEVER THE INPUT: true; the input reads as it did. -/
def fnExactSpanTakeSpec : ChangeSpec := { name := "fnExactSpanTake", vars := ["loop.example/g00978/impl.classSizes", "loop.example/g00978/impl.slotMasks"], fn := fun _ => fun
  | [d1, d2, g1, g2] => { results := [.lit (.bool true)], args := [d1, d2], vars := [g1, g2] }
  | _ => none }
def fnExactSpanTakeRow : OpenClaim := { program := "ytelcngiplpcalaadoor", sum := "fbe17256caf454b504ab215b4b583cb26e1070afe704b6a9d8a6f825e01a9db4", func := "loop.example/g00978/laws.FnExactSpanTake", spec := "fnExactSpanTake", named := ["loop.example/g00978/impl.classSizes", "loop.example/g00978/impl.slotMasks"], apart := false, laid := [("loop.example/g00978/impl.slotMasks", laid_loop_example_g00978_impl_slotMasks), ("loop.example/g00978/impl.classSizes", laid_loop_example_g00978_impl_classSizes)] }
def FnExactSpanTakeSaid : Prop := fnExactSpanTakeRow.holds Tryd.pinned (OpenSpec.ofChange fnExactSpanTakeSpec)

/-- ITS FALSE NEIGHBOUR: 'it returns false'. Refute it at one input. -/
def fnExactSpanTakeWrong : ChangeSpec := { name := "fnExactSpanTake", vars := ["loop.example/g00978/impl.classSizes", "loop.example/g00978/impl.slotMasks"], fn := fun _ => fun
  | [d1, d2, g1, g2] => { results := [.lit (.bool false)], args := [d1, d2], vars := [g1, g2] }
  | _ => none }
def FnExactSpanTakeWrongFalsely : Prop := fnExactSpanTakeRow.holds Tryd.pinned (OpenSpec.ofChange fnExactSpanTakeWrong)

/-- 'laws.FnExactSpanGive': WHATEVER THE INPUT: true; the input reads as it did. -/
def fnExactSpanGiveSpec : ChangeSpec := { name := "fnExactSpanGive", vars := ["loop.example/g00978/impl.classSizes", "loop.example/g00978/impl.slotMasks"], fn := fun _ => fun
  | [d1, d2, g1, g2] => { results := [.lit (.bool true)], args := [d1, d2], vars := [g1, g2] }
  | _ => none }
def fnExactSpanGiveRow : OpenClaim := { program := "ytelcngiplpcalaadoor", sum := "fbe17256caf454b504ab215b4b583cb26e1070afe704b6a9d8a6f825e01a9db4", func := "loop.example/g00978/laws.FnExactSpanGive", spec := "fnExactSpanGive", named := ["loop.example/g00978/impl.classSizes", "loop.example/g00978/impl.slotMasks"], apart := false, laid := [("loop.example/g00978/impl.slotMasks", laid_loop_example_g00978_impl_slotMasks), ("loop.example/g00978/impl.classSizes", laid_loop_example_g00978_impl_classSizes)] }
def FnExactSpanGiveSaid : Prop := fnExactSpanGiveRow.holds Tryd.pinned (OpenSpec.ofChange fnExactSpanGiveSpec)

/-- ITS FALSE NEIGHBOUR: 'it returns false'. Refute it at one input. -/
def fnExactSpanGiveWrong : ChangeSpec := { name := "fnExactSpanGive", vars := ["loop.example/g00978/impl.classSizes", "loop.example/g00978/impl.slotMasks"], fn := fun _ => fun
  | [d1, d2, g1, g2] => { results := [.lit (.bool false)], args := [d1, d2], vars := [g1, g2] }
  | _ => none }
def FnExactSpanGiveWrongFalsely : Prop := fnExactSpanGiveRow.holds Tryd.pinned (OpenSpec.ofChange fnExactSpanGiveWrong)

/-- 'laws.FnExactSpanAddr': WHATEVER THE INPUT: true; the input reads as it did. -/
def fnExactSpanAddrSpec : ChangeSpec := { name := "fnExactSpanAddr", vars := ["loop.example/g00978/impl.classSizes"], fn := fun _ => fun
  | [d1, d2, g1] => { results := [.lit (.bool true)], args := [d1, d2], vars := [g1] }
  | _ => none }
def fnExactSpanAddrRow : OpenClaim := { program := "ytelcngiplpcalaadoor", sum := "fbe17256caf454b504ab215b4b583cb26e1070afe704b6a9d8a6f825e01a9db4", func := "loop.example/g00978/laws.FnExactSpanAddr", spec := "fnExactSpanAddr", named := ["loop.example/g00978/impl.classSizes"], apart := false, laid := [("loop.example/g00978/impl.classSizes", laid_loop_example_g00978_impl_classSizes)] }
def FnExactSpanAddrSaid : Prop := fnExactSpanAddrRow.holds Tryd.pinned (OpenSpec.ofChange fnExactSpanAddrSpec)

/-- ITS FALSE NEIGHBOUR: 'it returns false'. Refute it at one input. -/
def fnExactSpanAddrWrong : ChangeSpec := { name := "fnExactSpanAddr", vars := ["loop.example/g00978/impl.classSizes"], fn := fun _ => fun
  | [d1, d2, g1] => { results := [.lit (.bool false)], args := [d1, d2], vars := [g1] }
  | _ => none }
def FnExactSpanAddrWrongFalsely : Prop := fnExactSpanAddrRow.holds Tryd.pinned (OpenSpec.ofChange fnExactSpanAddrWrong)

/-- 'laws.FnExactSlotAt': WHATEVER THE INPUT: true; the input reads as it did. -/
def fnExactSlotAtSpec : ChangeSpec := { name := "fnExactSlotAt", vars := ["loop.example/g00978/impl.classSizes"], fn := fun _ => fun
  | [d1, d2, g1] => { results := [.lit (.bool true)], args := [d1, d2], vars := [g1] }
  | _ => none }
def fnExactSlotAtRow : OpenClaim := { program := "ytelcngiplpcalaadoor", sum := "fbe17256caf454b504ab215b4b583cb26e1070afe704b6a9d8a6f825e01a9db4", func := "loop.example/g00978/laws.FnExactSlotAt", spec := "fnExactSlotAt", named := ["loop.example/g00978/impl.classSizes"], apart := false, laid := [("loop.example/g00978/impl.classSizes", laid_loop_example_g00978_impl_classSizes)] }
def FnExactSlotAtSaid : Prop := fnExactSlotAtRow.holds Tryd.pinned (OpenSpec.ofChange fnExactSlotAtSpec)

/-- ITS FALSE NEIGHBOUR: 'it returns false'. Refute it at one input. -/
def fnExactSlotAtWrong : ChangeSpec := { name := "fnExactSlotAt", vars := ["loop.example/g00978/impl.classSizes"], fn := fun _ => fun
  | [d1, d2, g1] => { results := [.lit (.bool false)], args := [d1, d2], vars := [g1] }
  | _ => none }
def FnExactSlotAtWrongFalsely : Prop := fnExactSlotAtRow.holds Tryd.pinned (OpenSpec.ofChange fnExactSlotAtWrong)

/-- 'laws.FnExactSpanCells': WHATEVER THE INPUT: true; the input reads as it did. -/
def fnExactSpanCellsSpec : ChangeSpec := { name := "fnExactSpanCells", vars := ["loop.example/g00978/impl.classSizes", "loop.example/g00978/impl.slotMasks"], fn := fun _ => fun
  | [d, g1, g2] => { results := [.lit (.bool true)], args := [d], vars := [g1, g2] }
  | _ => none }
def fnExactSpanCellsRow : OpenClaim := { program := "ytelcngiplpcalaadoor", sum := "fbe17256caf454b504ab215b4b583cb26e1070afe704b6a9d8a6f825e01a9db4", func := "loop.example/g00978/laws.FnExactSpanCells", spec := "fnExactSpanCells", named := ["loop.example/g00978/impl.classSizes", "loop.example/g00978/impl.slotMasks"], apart := false, laid := [("loop.example/g00978/impl.slotMasks", laid_loop_example_g00978_impl_slotMasks), ("loop.example/g00978/impl.classSizes", laid_loop_example_g00978_impl_classSizes)] }
def FnExactSpanCellsSaid : Prop := fnExactSpanCellsRow.holds Tryd.pinned (OpenSpec.ofChange fnExactSpanCellsSpec)

/-- ITS FALSE NEIGHBOUR: 'it returns false'. Refute it at one input. -/
def fnExactSpanCellsWrong : ChangeSpec := { name := "fnExactSpanCells", vars := ["loop.example/g00978/impl.classSizes", "loop.example/g00978/impl.slotMasks"], fn := fun _ => fun
  | [d, g1, g2] => { results := [.lit (.bool false)], args := [d], vars := [g1, g2] }
  | _ => none }
def FnExactSpanCellsWrongFalsely : Prop := fnExactSpanCellsRow.holds Tryd.pinned (OpenSpec.ofChange fnExactSpanCellsWrong)

/-- 'laws.FnExactSpanFull': WHATEVER THE INPUT: true; the input reads as it did. -/
def fnExactSpanFullSpec : ChangeSpec := { name := "fnExactSpanFull", vars := ["loop.example/g00978/impl.classSizes", "loop.example/g00978/impl.slotMasks"], fn := fun _ => fun
  | [d, g1, g2] => { results := [.lit (.bool true)], args := [d], vars := [g1, g2] }
  | _ => none }
def fnExactSpanFullRow : OpenClaim := { program := "ytelcngiplpcalaadoor", sum := "fbe17256caf454b504ab215b4b583cb26e1070afe704b6a9d8a6f825e01a9db4", func := "loop.example/g00978/laws.FnExactSpanFull", spec := "fnExactSpanFull", named := ["loop.example/g00978/impl.classSizes", "loop.example/g00978/impl.slotMasks"], apart := false, laid := [("loop.example/g00978/impl.slotMasks", laid_loop_example_g00978_impl_slotMasks), ("loop.example/g00978/impl.classSizes", laid_loop_example_g00978_impl_classSizes)] }
def FnExactSpanFullSaid : Prop := fnExactSpanFullRow.holds Tryd.pinned (OpenSpec.ofChange fnExactSpanFullSpec)

/-- ITS FALSE NEIGHBOUR: 'it returns false'. Refute it at one input. -/
def fnExactSpanFullWrong : ChangeSpec := { name := "fnExactSpanFull", vars := ["loop.example/g00978/impl.classSizes", "loop.example/g00978/impl.slotMasks"], fn := fun _ => fun
  | [d, g1, g2] => { results := [.lit (.bool false)], args := [d], vars := [g1, g2] }
  | _ => none }
def FnExactSpanFullWrongFalsely : Prop := fnExactSpanFullRow.holds Tryd.pinned (OpenSpec.ofChange fnExactSpanFullWrong)

/- THE SECOND FORM. 'bulk': how many values and letters a reading holds, each counted each time it is reached (what is shared counts as often as it is met; a slice's spare places count too). A statement '..UptoSaid' is the law's where the arguments, and the package variables that the reading takes, are together of bulk at most 1048576: NARROWER than '..Said'. Prove '..Said' where nothing that the law and all that it calls make is longer than what came in: it says more and counts as full. Else prove '..UptoSaid'. A law counts once. -/
mutual
def uptoBulk {H : Type} : DataW H → Nat
  | .lit (.string bytes) => bytes.length + 1
  | .lit _ => 1
  | .nil => 1
  | .ptr d => uptoBulk d + 1
  | .slice elems spare => uptoBulkAll elems + uptoBulkAll spare + 1
  | .agg parts => uptoBulkAll parts + 1
  | .iface _ d => uptoBulk d + 1
  | .map entries => uptoBulkEntries entries + 1
  | .held _ => 1
def uptoBulkAll {H : Type} : List (DataW H) → Nat
  | [] => 0
  | d :: r => uptoBulk d + uptoBulkAll r
def uptoBulkEntries {H : Type} : List (Lit × DataW H) → Nat
  | [] => 0
  | x :: r => uptoBulkEntry x + uptoBulkEntries r
def uptoBulkEntry {H : Type} : Lit × DataW H → Nat
  | (.string bytes, d) => bytes.length + uptoBulk d + 1
  | (_, d) => uptoBulk d + 1
 end
def uptoSmall : (H : Type) → List (DataW H) → Bool := fun _ ds => decide (uptoBulkAll ds ≤ 1048576)
def OpenSpec.upto (s : _root_.Go.ChangeSpec) : _root_.Go.OpenSpec := { _root_.Go.OpenSpec.ofChange s with cond := some uptoSmall }

/-- 'laws.FnSpans', WHERE WHAT IT READS IS OF BULK AT MOST 1048576: true; the input reads as it did. -/
def fnSpansUptoRow : OpenClaim := { program := "ytelcngiplpcalaadoor", sum := "fbe17256caf454b504ab215b4b583cb26e1070afe704b6a9d8a6f825e01a9db4", func := "loop.example/g00978/laws.FnSpans", spec := "fnSpans", named := ["loop.example/g00978/impl.classSizes", "loop.example/g00978/impl.slotMasks"], apart := false, laid := [("loop.example/g00978/impl.slotMasks", laid_loop_example_g00978_impl_slotMasks), ("loop.example/g00978/impl.classSizes", laid_loop_example_g00978_impl_classSizes)], narrowed := true }
def FnSpansUptoSaid : Prop := fnSpansUptoRow.holds Tryd.pinned (OpenSpec.upto fnSpansSpec)

/-- 'laws.FnSlotAddrs', WHERE WHAT IT READS IS OF BULK AT MOST 1048576: true; the input reads as it did. -/
def fnSlotAddrsUptoRow : OpenClaim := { program := "ytelcngiplpcalaadoor", sum := "fbe17256caf454b504ab215b4b583cb26e1070afe704b6a9d8a6f825e01a9db4", func := "loop.example/g00978/laws.FnSlotAddrs", spec := "fnSlotAddrs", named := ["loop.example/g00978/impl.classSizes", "loop.example/g00978/impl.slotMasks"], apart := false, laid := [("loop.example/g00978/impl.slotMasks", laid_loop_example_g00978_impl_slotMasks), ("loop.example/g00978/impl.classSizes", laid_loop_example_g00978_impl_classSizes)], narrowed := true }
def FnSlotAddrsUptoSaid : Prop := fnSlotAddrsUptoRow.holds Tryd.pinned (OpenSpec.upto fnSlotAddrsSpec)

/-- 'laws.FnExactSpanOk', WHERE WHAT IT READS IS OF BULK AT MOST 1048576: true; the input reads as it did. -/
def fnExactSpanOkUptoRow : OpenClaim := { program := "ytelcngiplpcalaadoor", sum := "fbe17256caf454b504ab215b4b583cb26e1070afe704b6a9d8a6f825e01a9db4", func := "loop.example/g00978/laws.FnExactSpanOk", spec := "fnExactSpanOk", named := ["loop.example/g00978/impl.classSizes"], apart := false, laid := [("loop.example/g00978/impl.classSizes", laid_loop_example_g00978_impl_classSizes)], narrowed := true }
def FnExactSpanOkUptoSaid : Prop := fnExactSpanOkUptoRow.holds Tryd.pinned (OpenSpec.upto fnExactSpanOkSpec)

/-- 'laws.FnExactSpanTake', WHERE WHAT IT READS IS OF BULK AT MOST 1048576: true; the input reads as it did. -/
def fnExactSpanTakeUptoRow : OpenClaim := { program := "ytelcngiplpcalaadoor", sum := "fbe17256caf454b504ab215b4b583cb26e1070afe704b6a9d8a6f825e01a9db4", func := "loop.example/g00978/laws.FnExactSpanTake", spec := "fnExactSpanTake", named := ["loop.example/g00978/impl.classSizes", "loop.example/g00978/impl.slotMasks"], apart := false, laid := [("loop.example/g00978/impl.slotMasks", laid_loop_example_g00978_impl_slotMasks), ("loop.example/g00978/impl.classSizes", laid_loop_example_g00978_impl_classSizes)], narrowed := true }
def FnExactSpanTakeUptoSaid : Prop := fnExactSpanTakeUptoRow.holds Tryd.pinned (OpenSpec.upto fnExactSpanTakeSpec)

/-- 'laws.FnExactSpanGive', WHERE WHAT IT READS IS OF BULK AT MOST 1048576: true; the input reads as it did. -/
def fnExactSpanGiveUptoRow : OpenClaim := { program := "ytelcngiplpcalaadoor", sum := "fbe17256caf454b504ab215b4b583cb26e1070afe704b6a9d8a6f825e01a9db4", func := "loop.example/g00978/laws.FnExactSpanGive", spec := "fnExactSpanGive", named := ["loop.example/g00978/impl.classSizes", "loop.example/g00978/impl.slotMasks"], apart := false, laid := [("loop.example/g00978/impl.slotMasks", laid_loop_example_g00978_impl_slotMasks), ("loop.example/g00978/impl.classSizes", laid_loop_example_g00978_impl_classSizes)], narrowed := true }
def FnExactSpanGiveUptoSaid : Prop := fnExactSpanGiveUptoRow.holds Tryd.pinned (OpenSpec.upto fnExactSpanGiveSpec)

/-- 'laws.FnExactSpanAddr', WHERE WHAT IT READS IS OF BULK AT MOST 1048576: true; the input reads as it did. -/
def fnExactSpanAddrUptoRow : OpenClaim := { program := "ytelcngiplpcalaadoor", sum := "fbe17256caf454b504ab215b4b583cb26e1070afe704b6a9d8a6f825e01a9db4", func := "loop.example/g00978/laws.FnExactSpanAddr", spec := "fnExactSpanAddr", named := ["loop.example/g00978/impl.classSizes"], apart := false, laid := [("loop.example/g00978/impl.classSizes", laid_loop_example_g00978_impl_classSizes)], narrowed := true }
def FnExactSpanAddrUptoSaid : Prop := fnExactSpanAddrUptoRow.holds Tryd.pinned (OpenSpec.upto fnExactSpanAddrSpec)

/-- 'laws.FnExactSlotAt', WHERE WHAT IT READS IS OF BULK AT MOST 1048576: true; the input reads as it did. -/
def fnExactSlotAtUptoRow : OpenClaim := { program := "ytelcngiplpcalaadoor", sum := "fbe17256caf454b504ab215b4b583cb26e1070afe704b6a9d8a6f825e01a9db4", func := "loop.example/g00978/laws.FnExactSlotAt", spec := "fnExactSlotAt", named := ["loop.example/g00978/impl.classSizes"], apart := false, laid := [("loop.example/g00978/impl.classSizes", laid_loop_example_g00978_impl_classSizes)], narrowed := true }
def FnExactSlotAtUptoSaid : Prop := fnExactSlotAtUptoRow.holds Tryd.pinned (OpenSpec.upto fnExactSlotAtSpec)

/-- 'laws.FnExactSpanCells', WHERE WHAT IT READS IS OF BULK AT MOST 1048576: true; the input reads as it did. -/
def fnExactSpanCellsUptoRow : OpenClaim := { program := "ytelcngiplpcalaadoor", sum := "fbe17256caf454b504ab215b4b583cb26e1070afe704b6a9d8a6f825e01a9db4", func := "loop.example/g00978/laws.FnExactSpanCells", spec := "fnExactSpanCells", named := ["loop.example/g00978/impl.classSizes", "loop.example/g00978/impl.slotMasks"], apart := false, laid := [("loop.example/g00978/impl.slotMasks", laid_loop_example_g00978_impl_slotMasks), ("loop.example/g00978/impl.classSizes", laid_loop_example_g00978_impl_classSizes)], narrowed := true }
def FnExactSpanCellsUptoSaid : Prop := fnExactSpanCellsUptoRow.holds Tryd.pinned (OpenSpec.upto fnExactSpanCellsSpec)

/-- 'laws.FnExactSpanFull', WHERE WHAT IT READS IS OF BULK AT MOST 1048576: true; the input reads as it did. -/
def fnExactSpanFullUptoRow : OpenClaim := { program := "ytelcngiplpcalaadoor", sum := "fbe17256caf454b504ab215b4b583cb26e1070afe704b6a9d8a6f825e01a9db4", func := "loop.example/g00978/laws.FnExactSpanFull", spec := "fnExactSpanFull", named := ["loop.example/g00978/impl.classSizes", "loop.example/g00978/impl.slotMasks"], apart := false, laid := [("loop.example/g00978/impl.slotMasks", laid_loop_example_g00978_impl_slotMasks), ("loop.example/g00978/impl.classSizes", laid_loop_example_g00978_impl_classSizes)], narrowed := true }
def FnExactSpanFullUptoSaid : Prop := fnExactSpanFullUptoRow.holds Tryd.pinned (OpenSpec.upto fnExactSpanFullSpec)

end Rows
end Go.Proofs.YtelcngiplpcalaaDoor

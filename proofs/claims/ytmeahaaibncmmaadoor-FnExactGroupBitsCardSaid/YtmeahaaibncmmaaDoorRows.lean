/-
  NARROWER THAN 'FOR EVERY INPUT', by the rows' own cells (each row's printed sentence says how): FnGroups: laid · FnMeshable: laid · FnEdges: laid · FnExactMeshable: laid · FnExactGroupOk: laid · FnExactGroupBits: laid · FnExactGroupSlot: laid · FnExactMeshEdges: laid.
  DERIVED. THE GIVEN ROWS OF THIS SEAT. 8 by the template 'for every input the law returns true; each argument reads behind the call as it read before'; 0 by the template 'total and deterministic' (their statements: YtmeahaaibncmmaaDoorTotals.lean).
  GIVEN WITH THE SEED: the statements are not yours to turn. If you find one false, say at which input.
  Laid BY PROGRAM, IN A SANDBOX (cutbox-rows.mjs): the forced cells as the released guide's own fill.sh prints them over the translation c0c363c6af17cad1… (all of the seat's roots in one cut). By AI agents, Wed Nov 11 2026. No macro, syntax, notation, axiom, sorry.
-/
import Derived.Test.YtmeahaaibncmmaaDoorChecked
import GoSem.Claim
import GoSem.ClaimJoined
import GoSem.ClaimMapViews
import Derived.JoinedTies
import Derived.KernelRfl
namespace Go.Proofs.YtmeahaaibncmmaaDoor
/- THE CELL 'sum', in the pinned program and in every row, IS THE sha256 OF THE DUMP (.gsa) THAT YtmeahaaibncmmaaDoorProg.lean LOADS. Nothing in Lean hashes anything: it is a label: what it is worth is what the hold of that sum in a sandbox is worth. -/
noncomputable def Tryd.pinned : Pinned := { name := "ytmeahaaibncmmaadoor", sum := "c0c363c6af17cad129fd8efffcd279262f16d4846d02a032ba8e46ee7e734737", checked := Tryd.checked }
namespace Rows
def none {H : Type} : Left H := { results := [], args := [] }

/- WHAT THE LISTED PACKAGE-LEVEL VARIABLES READ AS WHEN THE CALL BEGINS. Each datum BY PROGRAM (the guide's laid-datum.mjs) off the statement by which the dump's own 'gosem.cut.vars' lays the variable. In a bare row this is a premise. The card (YtmeahaaibncmmaaDoorCards.lean) ties it to the program's text. -/
def laid_loop_example_g00978_impl_slotMasks {H : Type} : DataW H := .agg [.lit (.int .i64 1), .lit (.int .i64 2), .lit (.int .i64 4), .lit (.int .i64 8), .lit (.int .i64 16), .lit (.int .i64 32), .lit (.int .i64 64), .lit (.int .i64 128), .lit (.int .i64 256), .lit (.int .i64 512), .lit (.int .i64 1024), .lit (.int .i64 2048), .lit (.int .i64 4096), .lit (.int .i64 8192), .lit (.int .i64 16384), .lit (.int .i64 32768)]
def laid_loop_example_g00978_impl_classSizes {H : Type} : DataW H := .agg [.lit (.int .i64 1), .lit (.int .i64 2), .lit (.int .i64 4), .lit (.int .i64 8)]

/-- 'laws.FnGroups': WHATEVER THE INPUT: true; the input reads as it did. -/
def fnGroupsSpec : ChangeSpec := { name := "fnGroups", vars := ["loop.example/g00978/impl.classSizes", "loop.example/g00978/impl.slotMasks"], fn := fun _ => fun
  | [d, g1, g2] => { results := [.lit (.bool true)], args := [d], vars := [g1, g2] }
  | _ => none }
def fnGroupsRow : OpenClaim := { program := "ytmeahaaibncmmaadoor", sum := "c0c363c6af17cad129fd8efffcd279262f16d4846d02a032ba8e46ee7e734737", func := "loop.example/g00978/laws.FnGroups", spec := "fnGroups", named := ["loop.example/g00978/impl.classSizes", "loop.example/g00978/impl.slotMasks"], apart := false, laid := [("loop.example/g00978/impl.slotMasks", laid_loop_example_g00978_impl_slotMasks), ("loop.example/g00978/impl.classSizes", laid_loop_example_g00978_impl_classSizes)] }
def FnGroupsSaid : Prop := fnGroupsRow.holds Tryd.pinned (OpenSpec.ofChange fnGroupsSpec)

/-- ITS FALSE NEIGHBOUR: 'it returns false'. Refute it at one input. -/
def fnGroupsWrong : ChangeSpec := { name := "fnGroups", vars := ["loop.example/g00978/impl.classSizes", "loop.example/g00978/impl.slotMasks"], fn := fun _ => fun
  | [d, g1, g2] => { results := [.lit (.bool false)], args := [d], vars := [g1, g2] }
  | _ => none }
def FnGroupsWrongFalsely : Prop := fnGroupsRow.holds Tryd.pinned (OpenSpec.ofChange fnGroupsWrong)

/-- 'laws.FnMeshable': WHATEVER THE INPUT: true; the input reads as it did. -/
def fnMeshableSpec : ChangeSpec := { name := "fnMeshable", vars := ["loop.example/g00978/impl.classSizes", "loop.example/g00978/impl.slotMasks"], fn := fun _ => fun
  | [d, g1, g2] => { results := [.lit (.bool true)], args := [d], vars := [g1, g2] }
  | _ => none }
def fnMeshableRow : OpenClaim := { program := "ytmeahaaibncmmaadoor", sum := "c0c363c6af17cad129fd8efffcd279262f16d4846d02a032ba8e46ee7e734737", func := "loop.example/g00978/laws.FnMeshable", spec := "fnMeshable", named := ["loop.example/g00978/impl.classSizes", "loop.example/g00978/impl.slotMasks"], apart := false, laid := [("loop.example/g00978/impl.slotMasks", laid_loop_example_g00978_impl_slotMasks), ("loop.example/g00978/impl.classSizes", laid_loop_example_g00978_impl_classSizes)] }
def FnMeshableSaid : Prop := fnMeshableRow.holds Tryd.pinned (OpenSpec.ofChange fnMeshableSpec)

/-- ITS FALSE NEIGHBOUR: 'it returns false'. Refute it at one input. -/
def fnMeshableWrong : ChangeSpec := { name := "fnMeshable", vars := ["loop.example/g00978/impl.classSizes", "loop.example/g00978/impl.slotMasks"], fn := fun _ => fun
  | [d, g1, g2] => { results := [.lit (.bool false)], args := [d], vars := [g1, g2] }
  | _ => none }
def FnMeshableWrongFalsely : Prop := fnMeshableRow.holds Tryd.pinned (OpenSpec.ofChange fnMeshableWrong)

/-- 'laws.FnEdges': WHATEVER THE INPUT: true; the input reads as it did. -/
def fnEdgesSpec : ChangeSpec := { name := "fnEdges", vars := ["loop.example/g00978/impl.classSizes", "loop.example/g00978/impl.slotMasks"], fn := fun _ => fun
  | [d, g1, g2] => { results := [.lit (.bool true)], args := [d], vars := [g1, g2] }
  | _ => none }
def fnEdgesRow : OpenClaim := { program := "ytmeahaaibncmmaadoor", sum := "c0c363c6af17cad129fd8efffcd279262f16d4846d02a032ba8e46ee7e734737", func := "loop.example/g00978/laws.FnEdges", spec := "fnEdges", named := ["loop.example/g00978/impl.classSizes", "loop.example/g00978/impl.slotMasks"], apart := false, laid := [("loop.example/g00978/impl.slotMasks", laid_loop_example_g00978_impl_slotMasks), ("loop.example/g00978/impl.classSizes", laid_loop_example_g00978_impl_classSizes)] }
def FnEdgesSaid : Prop := fnEdgesRow.holds Tryd.pinned (OpenSpec.ofChange fnEdgesSpec)

/-- ITS FALSE NEIGHBOUR: 'it returns false'. Refute it at one input. -/
def fnEdgesWrong : ChangeSpec := { name := "fnEdges", vars := ["loop.example/g00978/impl.classSizes", "loop.example/g00978/impl.slotMasks"], fn := fun _ => fun
  | [d, g1, g2] => { results := [.lit (.bool false)], args := [d], vars := [g1, g2] }
  | _ => none }
def FnEdgesWrongFalsely : Prop := fnEdgesRow.holds Tryd.pinned (OpenSpec.ofChange fnEdgesWrong)

/-- 'laws.FnExactMeshable': WHATEVER THE INPUT: true; the input reads as it did. -/
def fnExactMeshableSpec : ChangeSpec := { name := "fnExactMeshable", vars := ["loop.example/g00978/impl.classSizes", "loop.example/g00978/impl.slotMasks"], fn := fun _ => fun
  | [d1, d2, g1, g2] => { results := [.lit (.bool true)], args := [d1, d2], vars := [g1, g2] }
  | _ => none }
def fnExactMeshableRow : OpenClaim := { program := "ytmeahaaibncmmaadoor", sum := "c0c363c6af17cad129fd8efffcd279262f16d4846d02a032ba8e46ee7e734737", func := "loop.example/g00978/laws.FnExactMeshable", spec := "fnExactMeshable", named := ["loop.example/g00978/impl.classSizes", "loop.example/g00978/impl.slotMasks"], apart := false, laid := [("loop.example/g00978/impl.slotMasks", laid_loop_example_g00978_impl_slotMasks), ("loop.example/g00978/impl.classSizes", laid_loop_example_g00978_impl_classSizes)] }
def FnExactMeshableSaid : Prop := fnExactMeshableRow.holds Tryd.pinned (OpenSpec.ofChange fnExactMeshableSpec)

/-- ITS FALSE NEIGHBOUR: 'it returns false'. Refute it at one input. -/
def fnExactMeshableWrong : ChangeSpec := { name := "fnExactMeshable", vars := ["loop.example/g00978/impl.classSizes", "loop.example/g00978/impl.slotMasks"], fn := fun _ => fun
  | [d1, d2, g1, g2] => { results := [.lit (.bool false)], args := [d1, d2], vars := [g1, g2] }
  | _ => none }
def FnExactMeshableWrongFalsely : Prop := fnExactMeshableRow.holds Tryd.pinned (OpenSpec.ofChange fnExactMeshableWrong)

/-- 'laws.FnExactGroupOk': WHATEVER THE INPUT: true; the input reads as it did. -/
def fnExactGroupOkSpec : ChangeSpec := { name := "fnExactGroupOk", vars := ["loop.example/g00978/impl.classSizes", "loop.example/g00978/impl.slotMasks"], fn := fun _ => fun
  | [d, g1, g2] => { results := [.lit (.bool true)], args := [d], vars := [g1, g2] }
  | _ => none }
def fnExactGroupOkRow : OpenClaim := { program := "ytmeahaaibncmmaadoor", sum := "c0c363c6af17cad129fd8efffcd279262f16d4846d02a032ba8e46ee7e734737", func := "loop.example/g00978/laws.FnExactGroupOk", spec := "fnExactGroupOk", named := ["loop.example/g00978/impl.classSizes", "loop.example/g00978/impl.slotMasks"], apart := false, laid := [("loop.example/g00978/impl.slotMasks", laid_loop_example_g00978_impl_slotMasks), ("loop.example/g00978/impl.classSizes", laid_loop_example_g00978_impl_classSizes)] }
def FnExactGroupOkSaid : Prop := fnExactGroupOkRow.holds Tryd.pinned (OpenSpec.ofChange fnExactGroupOkSpec)

/-- ITS FALSE NEIGHBOUR: 'it returns false'. Refute it at one input. -/
def fnExactGroupOkWrong : ChangeSpec := { name := "fnExactGroupOk", vars := ["loop.example/g00978/impl.classSizes", "loop.example/g00978/impl.slotMasks"], fn := fun _ => fun
  | [d, g1, g2] => { results := [.lit (.bool false)], args := [d], vars := [g1, g2] }
  | _ => none }
def FnExactGroupOkWrongFalsely : Prop := fnExactGroupOkRow.holds Tryd.pinned (OpenSpec.ofChange fnExactGroupOkWrong)

/-- 'laws.FnExactGroupBits': WHATEVER THE INPUT: true; the input reads as it did. -/
def fnExactGroupBitsSpec : ChangeSpec := { name := "fnExactGroupBits", vars := ["loop.example/g00978/impl.classSizes", "loop.example/g00978/impl.slotMasks"], fn := fun _ => fun
  | [d, g1, g2] => { results := [.lit (.bool true)], args := [d], vars := [g1, g2] }
  | _ => none }
def fnExactGroupBitsRow : OpenClaim := { program := "ytmeahaaibncmmaadoor", sum := "c0c363c6af17cad129fd8efffcd279262f16d4846d02a032ba8e46ee7e734737", func := "loop.example/g00978/laws.FnExactGroupBits", spec := "fnExactGroupBits", named := ["loop.example/g00978/impl.classSizes", "loop.example/g00978/impl.slotMasks"], apart := false, laid := [("loop.example/g00978/impl.slotMasks", laid_loop_example_g00978_impl_slotMasks), ("loop.example/g00978/impl.classSizes", laid_loop_example_g00978_impl_classSizes)] }
def FnExactGroupBitsSaid : Prop := fnExactGroupBitsRow.holds Tryd.pinned (OpenSpec.ofChange fnExactGroupBitsSpec)

/-- ITS FALSE NEIGHBOUR: 'it returns false'. Refute it at one input. -/
def fnExactGroupBitsWrong : ChangeSpec := { name := "fnExactGroupBits", vars := ["loop.example/g00978/impl.classSizes", "loop.example/g00978/impl.slotMasks"], fn := fun _ => fun
  | [d, g1, g2] => { results := [.lit (.bool false)], args := [d], vars := [g1, g2] }
  | _ => none }
def FnExactGroupBitsWrongFalsely : Prop := fnExactGroupBitsRow.holds Tryd.pinned (OpenSpec.ofChange fnExactGroupBitsWrong)

/-- 'laws.FnExactGroupSlot': WHATEVER THE INPUT: true; the input reads as it did. -/
def fnExactGroupSlotSpec : ChangeSpec := { name := "fnExactGroupSlot", vars := ["loop.example/g00978/impl.classSizes", "loop.example/g00978/impl.slotMasks"], fn := fun _ => fun
  | [d1, d2, g1, g2] => { results := [.lit (.bool true)], args := [d1, d2], vars := [g1, g2] }
  | _ => none }
def fnExactGroupSlotRow : OpenClaim := { program := "ytmeahaaibncmmaadoor", sum := "c0c363c6af17cad129fd8efffcd279262f16d4846d02a032ba8e46ee7e734737", func := "loop.example/g00978/laws.FnExactGroupSlot", spec := "fnExactGroupSlot", named := ["loop.example/g00978/impl.classSizes", "loop.example/g00978/impl.slotMasks"], apart := false, laid := [("loop.example/g00978/impl.slotMasks", laid_loop_example_g00978_impl_slotMasks), ("loop.example/g00978/impl.classSizes", laid_loop_example_g00978_impl_classSizes)] }
def FnExactGroupSlotSaid : Prop := fnExactGroupSlotRow.holds Tryd.pinned (OpenSpec.ofChange fnExactGroupSlotSpec)

/-- ITS FALSE NEIGHBOUR: 'it returns false'. Refute it at one input. -/
def fnExactGroupSlotWrong : ChangeSpec := { name := "fnExactGroupSlot", vars := ["loop.example/g00978/impl.classSizes", "loop.example/g00978/impl.slotMasks"], fn := fun _ => fun
  | [d1, d2, g1, g2] => { results := [.lit (.bool false)], args := [d1, d2], vars := [g1, g2] }
  | _ => none }
def FnExactGroupSlotWrongFalsely : Prop := fnExactGroupSlotRow.holds Tryd.pinned (OpenSpec.ofChange fnExactGroupSlotWrong)

/-- 'laws.FnExactMeshEdges': WHATEVER THE INPUT: true; the input reads as it did. -/
def fnExactMeshEdgesSpec : ChangeSpec := { name := "fnExactMeshEdges", vars := ["loop.example/g00978/impl.classSizes", "loop.example/g00978/impl.slotMasks"], fn := fun _ => fun
  | [d, g1, g2] => { results := [.lit (.bool true)], args := [d], vars := [g1, g2] }
  | _ => none }
def fnExactMeshEdgesRow : OpenClaim := { program := "ytmeahaaibncmmaadoor", sum := "c0c363c6af17cad129fd8efffcd279262f16d4846d02a032ba8e46ee7e734737", func := "loop.example/g00978/laws.FnExactMeshEdges", spec := "fnExactMeshEdges", named := ["loop.example/g00978/impl.classSizes", "loop.example/g00978/impl.slotMasks"], apart := false, laid := [("loop.example/g00978/impl.slotMasks", laid_loop_example_g00978_impl_slotMasks), ("loop.example/g00978/impl.classSizes", laid_loop_example_g00978_impl_classSizes)] }
def FnExactMeshEdgesSaid : Prop := fnExactMeshEdgesRow.holds Tryd.pinned (OpenSpec.ofChange fnExactMeshEdgesSpec)

/-- ITS FALSE NEIGHBOUR: 'it returns false'. Refute it at one input. -/
def fnExactMeshEdgesWrong : ChangeSpec := { name := "fnExactMeshEdges", vars := ["loop.example/g00978/impl.classSizes", "loop.example/g00978/impl.slotMasks"], fn := fun _ => fun
  | [d, g1, g2] => { results := [.lit (.bool false)], args := [d], vars := [g1, g2] }
  | _ => none }
def FnExactMeshEdgesWrongFalsely : Prop := fnExactMeshEdgesRow.holds Tryd.pinned (OpenSpec.ofChange fnExactMeshEdgesWrong)

/- THE SECOND FORM. 'bulk': how many values and letters a reading holds, each counted each time it is reached (what is shared counts as often as it is met; a slice's spare places count too). A statement '..UptoSaid' is the law's where the arguments, and the package variables that the reading takes, are together of bulk at most 1048576: NARROWER than '..Said'. Prove '..Said' where nothing that the law and all that it calls make is longer than what came in: it says more and counts as full. Else prove '..UptoSaid'. A law counts once. -/
mutual
def uptoBulk {H : Type} : DataW H → Nat
  | .lit (.string bytes) => bytes.length + 1
  | .lit _ => 1
  | .nil => 1
  | .ptr d => uptoBulk d + 1
  | .slice elems spare => uptoBulkAll elems + uptoBulkAll spare + 1
  | .agg parts => uptoBulkAll parts + 1
  | .iface _ d => uptoBulk d + 1
  | .map entries => uptoBulkEntries entries + 1
  | .held _ => 1
def uptoBulkAll {H : Type} : List (DataW H) → Nat
  | [] => 0
  | d :: r => uptoBulk d + uptoBulkAll r
def uptoBulkEntries {H : Type} : List (Lit × DataW H) → Nat
  | [] => 0
  | x :: r => uptoBulkEntry x + uptoBulkEntries r
def uptoBulkEntry {H : Type} : Lit × DataW H → Nat
  | (.string bytes, d) => bytes.length + uptoBulk d + 1
  | (_, d) => uptoBulk d + 1
 end
def uptoSmall : (H : Type) → List (DataW H) → Bool := fun _ ds => decide (uptoBulkAll ds ≤ 1048576)
def OpenSpec.upto (s : _root_.Go.ChangeSpec) : _root_.Go.OpenSpec := { _root_.Go.OpenSpec.ofChange s with cond := some uptoSmall }

/-- 'laws.FnGroups', WHERE WHAT IT READS IS OF BULK AT MOST 1048576: true; the input reads as it did. -/
def fnGroupsUptoRow : OpenClaim := { program := "ytmeahaaibncmmaadoor", sum := "c0c363c6af17cad129fd8efffcd279262f16d4846d02a032ba8e46ee7e734737", func := "loop.example/g00978/laws.FnGroups", spec := "fnGroups", named := ["loop.example/g00978/impl.classSizes", "loop.example/g00978/impl.slotMasks"], apart := false, laid := [("loop.example/g00978/impl.slotMasks", laid_loop_example_g00978_impl_slotMasks), ("loop.example/g00978/impl.classSizes", laid_loop_example_g00978_impl_classSizes)], narrowed := true }
def FnGroupsUptoSaid : Prop := fnGroupsUptoRow.holds Tryd.pinned (OpenSpec.upto fnGroupsSpec)

/-- 'laws.FnMeshable', WHERE WHAT IT READS IS OF BULK AT MOST 1048576: true; the input reads as it did. -/
def fnMeshableUptoRow : OpenClaim := { program := "ytmeahaaibncmmaadoor", sum := "c0c363c6af17cad129fd8efffcd279262f16d4846d02a032ba8e46ee7e734737", func := "loop.example/g00978/laws.FnMeshable", spec := "fnMeshable", named := ["loop.example/g00978/impl.classSizes", "loop.example/g00978/impl.slotMasks"], apart := false, laid := [("loop.example/g00978/impl.slotMasks", laid_loop_example_g00978_impl_slotMasks), ("loop.example/g00978/impl.classSizes", laid_loop_example_g00978_impl_classSizes)], narrowed := true }
def FnMeshableUptoSaid : Prop := fnMeshableUptoRow.holds Tryd.pinned (OpenSpec.upto fnMeshableSpec)

/-- 'laws.FnEdges', WHERE WHAT IT READS IS OF BULK AT MOST 1048576: true; the input reads as it did. -/
def fnEdgesUptoRow : OpenClaim := { program := "ytmeahaaibncmmaadoor", sum := "c0c363c6af17cad129fd8efffcd279262f16d4846d02a032ba8e46ee7e734737", func := "loop.example/g00978/laws.FnEdges", spec := "fnEdges", named := ["loop.example/g00978/impl.classSizes", "loop.example/g00978/impl.slotMasks"], apart := false, laid := [("loop.example/g00978/impl.slotMasks", laid_loop_example_g00978_impl_slotMasks), ("loop.example/g00978/impl.classSizes", laid_loop_example_g00978_impl_classSizes)], narrowed := true }
def FnEdgesUptoSaid : Prop := fnEdgesUptoRow.holds Tryd.pinned (OpenSpec.upto fnEdgesSpec)

/-- 'laws.FnExactMeshable', WHERE WHAT IT READS IS OF BULK AT MOST 1048576: true; the input reads as it did. -/
def fnExactMeshableUptoRow : OpenClaim := { program := "ytmeahaaibncmmaadoor", sum := "c0c363c6af17cad129fd8efffcd279262f16d4846d02a032ba8e46ee7e734737", func := "loop.example/g00978/laws.FnExactMeshable", spec := "fnExactMeshable", named := ["loop.example/g00978/impl.classSizes", "loop.example/g00978/impl.slotMasks"], apart := false, laid := [("loop.example/g00978/impl.slotMasks", laid_loop_example_g00978_impl_slotMasks), ("loop.example/g00978/impl.classSizes", laid_loop_example_g00978_impl_classSizes)], narrowed := true }
def FnExactMeshableUptoSaid : Prop := fnExactMeshableUptoRow.holds Tryd.pinned (OpenSpec.upto fnExactMeshableSpec)

/-- 'laws.FnExactGroupOk', WHERE WHAT IT READS IS OF BULK AT MOST 1048576: true; the input reads as it did. -/
def fnExactGroupOkUptoRow : OpenClaim := { program := "ytmeahaaibncmmaadoor", sum := "c0c363c6af17cad129fd8efffcd279262f16d4846d02a032ba8e46ee7e734737", func := "loop.example/g00978/laws.FnExactGroupOk", spec := "fnExactGroupOk", named := ["loop.example/g00978/impl.classSizes", "loop.example/g00978/impl.slotMasks"], apart := false, laid := [("loop.example/g00978/impl.slotMasks", laid_loop_example_g00978_impl_slotMasks), ("loop.example/g00978/impl.classSizes", laid_loop_example_g00978_impl_classSizes)], narrowed := true }
def FnExactGroupOkUptoSaid : Prop := fnExactGroupOkUptoRow.holds Tryd.pinned (OpenSpec.upto fnExactGroupOkSpec)

/-- 'laws.FnExactGroupBits', WHERE WHAT IT READS IS OF BULK AT MOST 1048576: true; the input reads as it did. -/
def fnExactGroupBitsUptoRow : OpenClaim := { program := "ytmeahaaibncmmaadoor", sum := "c0c363c6af17cad129fd8efffcd279262f16d4846d02a032ba8e46ee7e734737", func := "loop.example/g00978/laws.FnExactGroupBits", spec := "fnExactGroupBits", named := ["loop.example/g00978/impl.classSizes", "loop.example/g00978/impl.slotMasks"], apart := false, laid := [("loop.example/g00978/impl.slotMasks", laid_loop_example_g00978_impl_slotMasks), ("loop.example/g00978/impl.classSizes", laid_loop_example_g00978_impl_classSizes)], narrowed := true }
def FnExactGroupBitsUptoSaid : Prop := fnExactGroupBitsUptoRow.holds Tryd.pinned (OpenSpec.upto fnExactGroupBitsSpec)

/-- 'laws.FnExactGroupSlot', WHERE WHAT IT READS IS OF BULK AT MOST 1048576: true; the input reads as it did. -/
def fnExactGroupSlotUptoRow : OpenClaim := { program := "ytmeahaaibncmmaadoor", sum := "c0c363c6af17cad129fd8efffcd279262f16d4846d02a032ba8e46ee7e734737", func := "loop.example/g00978/laws.FnExactGroupSlot", spec := "fnExactGroupSlot", named := ["loop.example/g00978/impl.classSizes", "loop.example/g00978/impl.slotMasks"], apart := false, laid := [("loop.example/g00978/impl.slotMasks", laid_loop_example_g00978_impl_slotMasks), ("loop.example/g00978/impl.classSizes", laid_loop_example_g00978_impl_classSizes)], narrowed := true }
def FnExactGroupSlotUptoSaid : Prop := fnExactGroupSlotUptoRow.holds Tryd.pinned (OpenSpec.upto fnExactGroupSlotSpec)

/-- 'laws.FnExactMeshEdges', WHERE WHAT IT READS IS OF BULK AT MOST 1048576: true; the input reads as it did. -/
def fnExactMeshEdgesUptoRow : OpenClaim := { program := "ytmeahaaibncmmaadoor", sum := "c0c363c6af17cad129fd8efffcd279262f16d4846d02a032ba8e46ee7e734737", func := "loop.example/g00978/laws.FnExactMeshEdges", spec := "fnExactMeshEdges", named := ["loop.example/g00978/impl.classSizes", "loop.example/g00978/impl.slotMasks"], apart := false, laid := [("loop.example/g00978/impl.slotMasks", laid_loop_example_g00978_impl_slotMasks), ("loop.example/g00978/impl.classSizes", laid_loop_example_g00978_impl_classSizes)], narrowed := true }
def FnExactMeshEdgesUptoSaid : Prop := fnExactMeshEdgesUptoRow.holds Tryd.pinned (OpenSpec.upto fnExactMeshEdgesSpec)

end Rows
end Go.Proofs.YtmeahaaibncmmaaDoor

/-
  NARROWER THAN 'FOR EVERY INPUT', by the rows' own cells (each row's printed sentence says how): FnPairs: laid · FnAllTried: laid · FnExactSplitPairs: laid · FnExactPairsOk: laid · FnExactBestPairs: laid · FnExactGreedyPairs: laid.
  DERIVED. THE GIVEN ROWS OF THIS SEAT. 6 by the template 'for every input the law returns true; each argument reads behind the call as it read before'; 0 by the template 'total and deterministic' (their statements: YthcgaeodcoidnaaDoorTotals.lean).
  GIVEN WITH THE SEED: the statements are not yours to turn. If you find one false, say at which input.
  Laid BY PROGRAM, IN A SANDBOX (cutbox-rows.mjs): the forced cells as the released guide's own fill.sh prints them over the translation eb4f1d27b7291735… (all of the seat's roots in one cut). By AI agents, Wed Nov 11 2026. No macro, syntax, notation, axiom, sorry.
-/
import Derived.Test.YthcgaeodcoidnaaDoorChecked
import GoSem.Claim
import GoSem.ClaimJoined
import GoSem.ClaimMapViews
import Derived.JoinedTies
import Derived.KernelRfl
namespace Go.Proofs.YthcgaeodcoidnaaDoor
/- THE CELL 'sum', in the pinned program and in every row, IS THE sha256 OF THE DUMP (.gsa) THAT YthcgaeodcoidnaaDoorProg.lean LOADS. Nothing in Lean hashes anything: it is a label: what it is worth is what the hold of that sum in a sandbox is worth. -/
noncomputable def Tryd.pinned : Pinned := { name := "ythcgaeodcoidnaadoor", sum := "eb4f1d27b72917353a5cca260a467461e907875afd0394ef7f1a0176fcb22c41", checked := Tryd.checked }
namespace Rows
def none {H : Type} : Left H := { results := [], args := [] }

/- WHAT THE LISTED PACKAGE-LEVEL VARIABLES READ AS WHEN THE CALL BEGINS. Each datum BY PROGRAM (the guide's laid-datum.mjs) off the statement by which the dump's own 'gosem.cut.vars' lays the variable. In a bare row this is a premise. The card (YthcgaeodcoidnaaDoorCards.lean) ties it to the program's text. -/
def laid_loop_example_g00978_impl_slotMasks {H : Type} : DataW H := .agg [.lit (.int .i64 1), .lit (.int .i64 2), .lit (.int .i64 4), .lit (.int .i64 8), .lit (.int .i64 16), .lit (.int .i64 32), .lit (.int .i64 64), .lit (.int .i64 128), .lit (.int .i64 256), .lit (.int .i64 512), .lit (.int .i64 1024), .lit (.int .i64 2048), .lit (.int .i64 4096), .lit (.int .i64 8192), .lit (.int .i64 16384), .lit (.int .i64 32768)]
def laid_loop_example_g00978_impl_classSizes {H : Type} : DataW H := .agg [.lit (.int .i64 1), .lit (.int .i64 2), .lit (.int .i64 4), .lit (.int .i64 8)]

/-- 'laws.FnPairs': WHATEVER THE INPUT: true; the input reads as it did. -/
def fnPairsSpec : ChangeSpec := { name := "fnPairs", vars := ["loop.example/g00978/impl.classSizes", "loop.example/g00978/impl.slotMasks"], fn := fun _ => fun
  | [d, g1, g2] => { results := [.lit (.bool true)], args := [d], vars := [g1, g2] }
  | _ => none }
def fnPairsRow : OpenClaim := { program := "ythcgaeodcoidnaadoor", sum := "eb4f1d27b72917353a5cca260a467461e907875afd0394ef7f1a0176fcb22c41", func := "loop.example/g00978/laws.FnPairs", spec := "fnPairs", unfollowed := true, recurses := true, named := ["loop.example/g00978/impl.classSizes", "loop.example/g00978/impl.slotMasks"], apart := false, laid := [("loop.example/g00978/impl.slotMasks", laid_loop_example_g00978_impl_slotMasks), ("loop.example/g00978/impl.classSizes", laid_loop_example_g00978_impl_classSizes)] }
def FnPairsSaid : Prop := fnPairsRow.holds Tryd.pinned (OpenSpec.ofChange fnPairsSpec)

/-- ITS FALSE NEIGHBOUR: 'it returns false'. Refute it at one input. -/
def fnPairsWrong : ChangeSpec := { name := "fnPairs", vars := ["loop.example/g00978/impl.classSizes", "loop.example/g00978/impl.slotMasks"], fn := fun _ => fun
  | [d, g1, g2] => { results := [.lit (.bool false)], args := [d], vars := [g1, g2] }
  | _ => none }
def FnPairsWrongFalsely : Prop := fnPairsRow.holds Tryd.pinned (OpenSpec.ofChange fnPairsWrong)

/-- 'laws.FnAllTried': WHATEVER THE INPUT: true; the input reads as it did. -/
def fnAllTriedSpec : ChangeSpec := { name := "fnAllTried", vars := ["loop.example/g00978/impl.classSizes", "loop.example/g00978/impl.slotMasks"], fn := fun _ => fun
  | [d, g1, g2] => { results := [.lit (.bool true)], args := [d], vars := [g1, g2] }
  | _ => none }
def fnAllTriedRow : OpenClaim := { program := "ythcgaeodcoidnaadoor", sum := "eb4f1d27b72917353a5cca260a467461e907875afd0394ef7f1a0176fcb22c41", func := "loop.example/g00978/laws.FnAllTried", spec := "fnAllTried", unfollowed := true, recurses := true, named := ["loop.example/g00978/impl.classSizes", "loop.example/g00978/impl.slotMasks"], apart := false, laid := [("loop.example/g00978/impl.slotMasks", laid_loop_example_g00978_impl_slotMasks), ("loop.example/g00978/impl.classSizes", laid_loop_example_g00978_impl_classSizes)] }
def FnAllTriedSaid : Prop := fnAllTriedRow.holds Tryd.pinned (OpenSpec.ofChange fnAllTriedSpec)

/-- ITS FALSE NEIGHBOUR: 'it returns false'. Refute it at one input. -/
def fnAllTriedWrong : ChangeSpec := { name := "fnAllTried", vars := ["loop.example/g00978/impl.classSizes", "loop.example/g00978/impl.slotMasks"], fn := fun _ => fun
  | [d, g1, g2] => { results := [.lit (.bool false)], args := [d], vars := [g1, g2] }
  | _ => none }
def FnAllTriedWrongFalsely : Prop := fnAllTriedRow.holds Tryd.pinned (OpenSpec.ofChange fnAllTriedWrong)

/-- 'laws.FnExactSplitPairs': WHATEVER THE INPUT: true; the input reads as it did. -/
def fnExactSplitPairsSpec : ChangeSpec := { name := "fnExactSplitPairs", vars := ["loop.example/g00978/impl.classSizes", "loop.example/g00978/impl.slotMasks"], fn := fun _ => fun
  | [d1, d2, d3, g1, g2] => { results := [.lit (.bool true)], args := [d1, d2, d3], vars := [g1, g2] }
  | _ => none }
def fnExactSplitPairsRow : OpenClaim := { program := "ythcgaeodcoidnaadoor", sum := "eb4f1d27b72917353a5cca260a467461e907875afd0394ef7f1a0176fcb22c41", func := "loop.example/g00978/laws.FnExactSplitPairs", spec := "fnExactSplitPairs", unfollowed := true, recurses := true, named := ["loop.example/g00978/impl.classSizes", "loop.example/g00978/impl.slotMasks"], apart := false, laid := [("loop.example/g00978/impl.slotMasks", laid_loop_example_g00978_impl_slotMasks), ("loop.example/g00978/impl.classSizes", laid_loop_example_g00978_impl_classSizes)] }
def FnExactSplitPairsSaid : Prop := fnExactSplitPairsRow.holds Tryd.pinned (OpenSpec.ofChange fnExactSplitPairsSpec)

/-- ITS FALSE NEIGHBOUR: 'it returns false'. Refute it at one input. -/
def fnExactSplitPairsWrong : ChangeSpec := { name := "fnExactSplitPairs", vars := ["loop.example/g00978/impl.classSizes", "loop.example/g00978/impl.slotMasks"], fn := fun _ => fun
  | [d1, d2, d3, g1, g2] => { results := [.lit (.bool false)], args := [d1, d2, d3], vars := [g1, g2] }
  | _ => none }
def FnExactSplitPairsWrongFalsely : Prop := fnExactSplitPairsRow.holds Tryd.pinned (OpenSpec.ofChange fnExactSplitPairsWrong)

/-- 'laws.FnExactPairsOk': WHATEVER THE INPUT: true; the input reads as it did. -/
def fnExactPairsOkSpec : ChangeSpec := { name := "fnExactPairsOk", vars := ["loop.example/g00978/impl.classSizes", "loop.example/g00978/impl.slotMasks"], fn := fun _ => fun
  | [d1, d2, g1, g2] => { results := [.lit (.bool true)], args := [d1, d2], vars := [g1, g2] }
  | _ => none }
def fnExactPairsOkRow : OpenClaim := { program := "ythcgaeodcoidnaadoor", sum := "eb4f1d27b72917353a5cca260a467461e907875afd0394ef7f1a0176fcb22c41", func := "loop.example/g00978/laws.FnExactPairsOk", spec := "fnExactPairsOk", unfollowed := true, recurses := true, named := ["loop.example/g00978/impl.classSizes", "loop.example/g00978/impl.slotMasks"], apart := false, laid := [("loop.example/g00978/impl.slotMasks", laid_loop_example_g00978_impl_slotMasks), ("loop.example/g00978/impl.classSizes", laid_loop_example_g00978_impl_classSizes)] }
def FnExactPairsOkSaid : Prop := fnExactPairsOkRow.holds Tryd.pinned (OpenSpec.ofChange fnExactPairsOkSpec)

/-- ITS FALSE NEIGHBOUR: 'it returns false'. Refute it at one input. -/
def fnExactPairsOkWrong : ChangeSpec := { name := "fnExactPairsOk", vars := ["loop.example/g00978/impl.classSizes", "loop.example/g00978/impl.slotMasks"], fn := fun _ => fun
  | [d1, d2, g1, g2] => { results := [.lit (.bool false)], args := [d1, d2], vars := [g1, g2] }
  | _ => none }
def FnExactPairsOkWrongFalsely : Prop := fnExactPairsOkRow.holds Tryd.pinned (OpenSpec.ofChange fnExactPairsOkWrong)

/-- 'laws.FnExactBestPairs': WHATEVER THE INPUT: true; the input reads as it did. -/
def fnExactBestPairsSpec : ChangeSpec := { name := "fnExactBestPairs", vars := ["loop.example/g00978/impl.classSizes", "loop.example/g00978/impl.slotMasks"], fn := fun _ => fun
  | [d, g1, g2] => { results := [.lit (.bool true)], args := [d], vars := [g1, g2] }
  | _ => none }
def fnExactBestPairsRow : OpenClaim := { program := "ythcgaeodcoidnaadoor", sum := "eb4f1d27b72917353a5cca260a467461e907875afd0394ef7f1a0176fcb22c41", func := "loop.example/g00978/laws.FnExactBestPairs", spec := "fnExactBestPairs", unfollowed := true, recurses := true, named := ["loop.example/g00978/impl.classSizes", "loop.example/g00978/impl.slotMasks"], apart := false, laid := [("loop.example/g00978/impl.slotMasks", laid_loop_example_g00978_impl_slotMasks), ("loop.example/g00978/impl.classSizes", laid_loop_example_g00978_impl_classSizes)] }
def FnExactBestPairsSaid : Prop := fnExactBestPairsRow.holds Tryd.pinned (OpenSpec.ofChange fnExactBestPairsSpec)

/-- ITS FALSE NEIGHBOUR: 'it returns false'. Refute it at one input. -/
def fnExactBestPairsWrong : ChangeSpec := { name := "fnExactBestPairs", vars := ["loop.example/g00978/impl.classSizes", "loop.example/g00978/impl.slotMasks"], fn := fun _ => fun
  | [d, g1, g2] => { results := [.lit (.bool false)], args := [d], vars := [g1, g2] }
  | _ => none }
def FnExactBestPairsWrongFalsely : Prop := fnExactBestPairsRow.holds Tryd.pinned (OpenSpec.ofChange fnExactBestPairsWrong)

/-- 'laws.FnExactGreedyPairs': WHATEVER THE INPUT: true; the input reads as it did. -/
def fnExactGreedyPairsSpec : ChangeSpec := { name := "fnExactGreedyPairs", vars := ["loop.example/g00978/impl.classSizes", "loop.example/g00978/impl.slotMasks"], fn := fun _ => fun
  | [d, g1, g2] => { results := [.lit (.bool true)], args := [d], vars := [g1, g2] }
  | _ => none }
def fnExactGreedyPairsRow : OpenClaim := { program := "ythcgaeodcoidnaadoor", sum := "eb4f1d27b72917353a5cca260a467461e907875afd0394ef7f1a0176fcb22c41", func := "loop.example/g00978/laws.FnExactGreedyPairs", spec := "fnExactGreedyPairs", unfollowed := true, recurses := true, named := ["loop.example/g00978/impl.classSizes", "loop.example/g00978/impl.slotMasks"], apart := false, laid := [("loop.example/g00978/impl.slotMasks", laid_loop_example_g00978_impl_slotMasks), ("loop.example/g00978/impl.classSizes", laid_loop_example_g00978_impl_classSizes)] }
def FnExactGreedyPairsSaid : Prop := fnExactGreedyPairsRow.holds Tryd.pinned (OpenSpec.ofChange fnExactGreedyPairsSpec)

/-- ITS FALSE NEIGHBOUR: 'it returns false'. Refute it at one input. -/
def fnExactGreedyPairsWrong : ChangeSpec := { name := "fnExactGreedyPairs", vars := ["loop.example/g00978/impl.classSizes", "loop.example/g00978/impl.slotMasks"], fn := fun _ => fun
  | [d, g1, g2] => { results := [.lit (.bool false)], args := [d], vars := [g1, g2] }
  | _ => none }
def FnExactGreedyPairsWrongFalsely : Prop := fnExactGreedyPairsRow.holds Tryd.pinned (OpenSpec.ofChange fnExactGreedyPairsWrong)

/- THE SECOND FORM. 'bulk': how many values and letters a reading holds, each counted each time it is reached (what is shared counts as often as it is met; a slice's spare places count too). A statement '..UptoSaid' is the law's where the arguments, and the package variables that the reading takes, are together of bulk at most 1048576: NARROWER than '..Said'. Prove '..Said' where nothing that the law and all that it calls make is longer than what came in: it says more and counts as full. Else prove '..UptoSaid'. A law counts once. -/
mutual
def uptoBulk {H : Type} : DataW H → Nat
  | .lit (.string bytes) => bytes.length + 1
  | .lit _ => 1
  | .nil => 1
  | .ptr d => uptoBulk d + 1
  | .slice elems spare => uptoBulkAll elems + uptoBulkAll spare + 1
  | .agg parts => uptoBulkAll parts + 1
  | .iface _ d => uptoBulk d + 1
  | .map entries => uptoBulkEntries entries + 1
  | .held _ => 1
def uptoBulkAll {H : Type} : List (DataW H) → Nat
  | [] => 0
  | d :: r => uptoBulk d + uptoBulkAll r
def uptoBulkEntries {H : Type} : List (Lit × DataW H) → Nat
  | [] => 0
  | x :: r => uptoBulkEntry x + uptoBulkEntries r
def uptoBulkEntry {H : Type} : Lit × DataW H → Nat
  | (.string bytes, d) => bytes.length + uptoBulk d + 1
  | (_, d) => uptoBulk d + 1
 end
def uptoSmall : (H : Type) → List (DataW H) → Bool := fun _ ds => decide (uptoBulkAll ds ≤ 1048576)
def OpenSpec.upto (s : _root_.Go.ChangeSpec) : _root_.Go.OpenSpec := { _root_.Go.OpenSpec.ofChange s with cond := some uptoSmall }

/-- 'laws.FnPairs', WHERE WHAT IT READS IS OF BULK AT MOST 1048576: true; the input reads as it did. -/
def fnPairsUptoRow : OpenClaim := { program := "ythcgaeodcoidnaadoor", sum := "eb4f1d27b72917353a5cca260a467461e907875afd0394ef7f1a0176fcb22c41", func := "loop.example/g00978/laws.FnPairs", spec := "fnPairs", unfollowed := true, recurses := true, named := ["loop.example/g00978/impl.classSizes", "loop.example/g00978/impl.slotMasks"], apart := false, laid := [("loop.example/g00978/impl.slotMasks", laid_loop_example_g00978_impl_slotMasks), ("loop.example/g00978/impl.classSizes", laid_loop_example_g00978_impl_classSizes)], narrowed := true }
def FnPairsUptoSaid : Prop := fnPairsUptoRow.holds Tryd.pinned (OpenSpec.upto fnPairsSpec)

/-- 'laws.FnAllTried', WHERE WHAT IT READS IS OF BULK AT MOST 1048576: true; the input reads as it did. -/
def fnAllTriedUptoRow : OpenClaim := { program := "ythcgaeodcoidnaadoor", sum := "eb4f1d27b72917353a5cca260a467461e907875afd0394ef7f1a0176fcb22c41", func := "loop.example/g00978/laws.FnAllTried", spec := "fnAllTried", unfollowed := true, recurses := true, named := ["loop.example/g00978/impl.classSizes", "loop.example/g00978/impl.slotMasks"], apart := false, laid := [("loop.example/g00978/impl.slotMasks", laid_loop_example_g00978_impl_slotMasks), ("loop.example/g00978/impl.classSizes", laid_loop_example_g00978_impl_classSizes)], narrowed := true }
def FnAllTriedUptoSaid : Prop := fnAllTriedUptoRow.holds Tryd.pinned (OpenSpec.upto fnAllTriedSpec)

/-- 'laws.FnExactSplitPairs', WHERE WHAT IT READS IS OF BULK AT MOST 1048576: true; the input reads as it did. -/
def fnExactSplitPairsUptoRow : OpenClaim := { program := "ythcgaeodcoidnaadoor", sum := "eb4f1d27b72917353a5cca260a467461e907875afd0394ef7f1a0176fcb22c41", func := "loop.example/g00978/laws.FnExactSplitPairs", spec := "fnExactSplitPairs", unfollowed := true, recurses := true, named := ["loop.example/g00978/impl.classSizes", "loop.example/g00978/impl.slotMasks"], apart := false, laid := [("loop.example/g00978/impl.slotMasks", laid_loop_example_g00978_impl_slotMasks), ("loop.example/g00978/impl.classSizes", laid_loop_example_g00978_impl_classSizes)], narrowed := true }
def FnExactSplitPairsUptoSaid : Prop := fnExactSplitPairsUptoRow.holds Tryd.pinned (OpenSpec.upto fnExactSplitPairsSpec)

/-- 'laws.FnExactPairsOk', WHERE WHAT IT READS IS OF BULK AT MOST 1048576: true; the input reads as it did. -/
def fnExactPairsOkUptoRow : OpenClaim := { program := "ythcgaeodcoidnaadoor", sum := "eb4f1d27b72917353a5cca260a467461e907875afd0394ef7f1a0176fcb22c41", func := "loop.example/g00978/laws.FnExactPairsOk", spec := "fnExactPairsOk", unfollowed := true, recurses := true, named := ["loop.example/g00978/impl.classSizes", "loop.example/g00978/impl.slotMasks"], apart := false, laid := [("loop.example/g00978/impl.slotMasks", laid_loop_example_g00978_impl_slotMasks), ("loop.example/g00978/impl.classSizes", laid_loop_example_g00978_impl_classSizes)], narrowed := true }
def FnExactPairsOkUptoSaid : Prop := fnExactPairsOkUptoRow.holds Tryd.pinned (OpenSpec.upto fnExactPairsOkSpec)

/-- 'laws.FnExactBestPairs', WHERE WHAT IT READS IS OF BULK AT MOST 1048576: true; the input reads as it did. -/
def fnExactBestPairsUptoRow : OpenClaim := { program := "ythcgaeodcoidnaadoor", sum := "eb4f1d27b72917353a5cca260a467461e907875afd0394ef7f1a0176fcb22c41", func := "loop.example/g00978/laws.FnExactBestPairs", spec := "fnExactBestPairs", unfollowed := true, recurses := true, named := ["loop.example/g00978/impl.classSizes", "loop.example/g00978/impl.slotMasks"], apart := false, laid := [("loop.example/g00978/impl.slotMasks", laid_loop_example_g00978_impl_slotMasks), ("loop.example/g00978/impl.classSizes", laid_loop_example_g00978_impl_classSizes)], narrowed := true }
def FnExactBestPairsUptoSaid : Prop := fnExactBestPairsUptoRow.holds Tryd.pinned (OpenSpec.upto fnExactBestPairsSpec)

/-- 'laws.FnExactGreedyPairs', WHERE WHAT IT READS IS OF BULK AT MOST 1048576: true; the input reads as it did. -/
def fnExactGreedyPairsUptoRow : OpenClaim := { program := "ythcgaeodcoidnaadoor", sum := "eb4f1d27b72917353a5cca260a467461e907875afd0394ef7f1a0176fcb22c41", func := "loop.example/g00978/laws.FnExactGreedyPairs", spec := "fnExactGreedyPairs", unfollowed := true, recurses := true, named := ["loop.example/g00978/impl.classSizes", "loop.example/g00978/impl.slotMasks"], apart := false, laid := [("loop.example/g00978/impl.slotMasks", laid_loop_example_g00978_impl_slotMasks), ("loop.example/g00978/impl.classSizes", laid_loop_example_g00978_impl_classSizes)], narrowed := true }
def FnExactGreedyPairsUptoSaid : Prop := fnExactGreedyPairsUptoRow.holds Tryd.pinned (OpenSpec.upto fnExactGreedyPairsSpec)

end Rows
end Go.Proofs.YthcgaeodcoidnaaDoor

/-
  NARROWER THAN 'FOR EVERY INPUT', by the rows' own cells (each row's printed sentence says how): FnPlans: laid · FnExactPlanPair: laid.
  DERIVED. THE GIVEN ROWS OF THIS SEAT. 2 by the template 'for every input the law returns true; each argument reads behind the call as it read before'; 0 by the template 'total and deterministic' (their statements: YthkjbjgpdapnpaaDoorTotals.lean).
  GIVEN WITH THE SEED: the statements are not yours to turn. If you find one false, say at which input.
  Laid BY PROGRAM, IN A SANDBOX (cutbox-rows.mjs): the forced cells as the released guide's own fill.sh prints them over the translation ba184bd06e912b31… (all of the seat's roots in one cut). By AI agents, Wed Nov 11 2026. No macro, syntax, notation, axiom, sorry.
-/
import Derived.Test.YthkjbjgpdapnpaaDoorChecked
import GoSem.Claim
import GoSem.ClaimJoined
import GoSem.ClaimMapViews
import Derived.JoinedTies
import Derived.KernelRfl
namespace Go.Proofs.YthkjbjgpdapnpaaDoor
/- THE CELL 'sum', in the pinned program and in every row, IS THE sha256 OF THE DUMP (.gsa) THAT YthkjbjgpdapnpaaDoorProg.lean LOADS. Nothing in Lean hashes anything: it is a label: what it is worth is what the hold of that sum in a sandbox is worth. -/
noncomputable def Tryd.pinned : Pinned := { name := "ythkjbjgpdapnpaadoor", sum := "ba184bd06e912b317d74239146b81a1cdcd0df565440f9af786971a144d7922d", checked := Tryd.checked }
namespace Rows
def none {H : Type} : Left H := { results := [], args := [] }

/- WHAT THE LISTED PACKAGE-LEVEL VARIABLES READ AS WHEN THE CALL BEGINS. Each datum BY PROGRAM (the guide's laid-datum.mjs) off the statement by which the dump's own 'gosem.cut.vars' lays the variable. In a bare row this is a premise. The card (YthkjbjgpdapnpaaDoorCards.lean) ties it to the program's text. -/
def laid_loop_example_g00978_impl_slotMasks {H : Type} : DataW H := .agg [.lit (.int .i64 1), .lit (.int .i64 2), .lit (.int .i64 4), .lit (.int .i64 8), .lit (.int .i64 16), .lit (.int .i64 32), .lit (.int .i64 64), .lit (.int .i64 128), .lit (.int .i64 256), .lit (.int .i64 512), .lit (.int .i64 1024), .lit (.int .i64 2048), .lit (.int .i64 4096), .lit (.int .i64 8192), .lit (.int .i64 16384), .lit (.int .i64 32768)]
def laid_loop_example_g00978_impl_classSizes {H : Type} : DataW H := .agg [.lit (.int .i64 1), .lit (.int .i64 2), .lit (.int .i64 4), .lit (.int .i64 8)]

/-- 'laws.FnPlans': WHATEVER THE INPUT: true; the input reads as it did. -/
def fnPlansSpec : ChangeSpec := { name := "fnPlans", vars := ["loop.example/g00978/impl.classSizes", "loop.example/g00978/impl.slotMasks"], fn := fun _ => fun
  | [d, g1, g2] => { results := [.lit (.bool true)], args := [d], vars := [g1, g2] }
  | _ => none }
def fnPlansRow : OpenClaim := { program := "ythkjbjgpdapnpaadoor", sum := "ba184bd06e912b317d74239146b81a1cdcd0df565440f9af786971a144d7922d", func := "loop.example/g00978/laws.FnPlans", spec := "fnPlans", named := ["loop.example/g00978/impl.classSizes", "loop.example/g00978/impl.slotMasks"], apart := false, laid := [("loop.example/g00978/impl.slotMasks", laid_loop_example_g00978_impl_slotMasks), ("loop.example/g00978/impl.classSizes", laid_loop_example_g00978_impl_classSizes)] }
def FnPlansSaid : Prop := fnPlansRow.holds Tryd.pinned (OpenSpec.ofChange fnPlansSpec)

/-- ITS FALSE NEIGHBOUR: 'it returns false'. Refute it at one input. -/
def fnPlansWrong : ChangeSpec := { name := "fnPlans", vars := ["loop.example/g00978/impl.classSizes", "loop.example/g00978/impl.slotMasks"], fn := fun _ => fun
  | [d, g1, g2] => { results := [.lit (.bool false)], args := [d], vars := [g1, g2] }
  | _ => none }
def FnPlansWrongFalsely : Prop := fnPlansRow.holds Tryd.pinned (OpenSpec.ofChange fnPlansWrong)

/-- 'laws.FnExactPlanPair': WHATEVER THE INPUT: true; the input reads as it did. -/
def fnExactPlanPairSpec : ChangeSpec := { name := "fnExactPlanPair", vars := ["loop.example/g00978/impl.classSizes", "loop.example/g00978/impl.slotMasks"], fn := fun _ => fun
  | [d1, d2, g1, g2] => { results := [.lit (.bool true)], args := [d1, d2], vars := [g1, g2] }
  | _ => none }
def fnExactPlanPairRow : OpenClaim := { program := "ythkjbjgpdapnpaadoor", sum := "ba184bd06e912b317d74239146b81a1cdcd0df565440f9af786971a144d7922d", func := "loop.example/g00978/laws.FnExactPlanPair", spec := "fnExactPlanPair", named := ["loop.example/g00978/impl.classSizes", "loop.example/g00978/impl.slotMasks"], apart := false, laid := [("loop.example/g00978/impl.slotMasks", laid_loop_example_g00978_impl_slotMasks), ("loop.example/g00978/impl.classSizes", laid_loop_example_g00978_impl_classSizes)] }
def FnExactPlanPairSaid : Prop := fnExactPlanPairRow.holds Tryd.pinned (OpenSpec.ofChange fnExactPlanPairSpec)

/-- ITS FALSE NEIGHBOUR: 'it returns false'. Refute it at one input. -/
def fnExactPlanPairWrong : ChangeSpec := { name := "fnExactPlanPair", vars := ["loop.example/g00978/impl.classSizes", "loop.example/g00978/impl.slotMasks"], fn := fun _ => fun
  | [d1, d2, g1, g2] => { results := [.lit (.bool false)], args := [d1, d2], vars := [g1, g2] }
  | _ => none }
def FnExactPlanPairWrongFalsely : Prop := fnExactPlanPairRow.holds Tryd.pinned (OpenSpec.ofChange fnExactPlanPairWrong)

/- THE SECOND FORM. 'bulk': how many values and letters a reading holds, each counted each time it is reached (what is shared counts as often as it is met; a slice's spare places count too). A statement '..UptoSaid' is the law's where the arguments, and the package variables that the reading takes, are together of bulk at most 1048576: NARROWER than '..Said'. Prove '..Said' where nothing that the law and all that it calls make is longer than what came in: it says more and counts as full. Else prove '..UptoSaid'. A law counts once. -/
mutual
def uptoBulk {H : Type} : DataW H → Nat
  | .lit (.string bytes) => bytes.length + 1
  | .lit _ => 1
  | .nil => 1
  | .ptr d => uptoBulk d + 1
  | .slice elems spare => uptoBulkAll elems + uptoBulkAll spare + 1
  | .agg parts => uptoBulkAll parts + 1
  | .iface _ d => uptoBulk d + 1
  | .map entries => uptoBulkEntries entries + 1
  | .held _ => 1
def uptoBulkAll {H : Type} : List (DataW H) → Nat
  | [] => 0
  | d :: r => uptoBulk d + uptoBulkAll r
def uptoBulkEntries {H : Type} : List (Lit × DataW H) → Nat
  | [] => 0
  | x :: r => uptoBulkEntry x + uptoBulkEntries r
def uptoBulkEntry {H : Type} : Lit × DataW H → Nat
  | (.string bytes, d) => bytes.length + uptoBulk d + 1
  | (_, d) => uptoBulk d + 1
 end
def uptoSmall : (H : Type) → List (DataW H) → Bool := fun _ ds => decide (uptoBulkAll ds ≤ 1048576)
def OpenSpec.upto (s : _root_.Go.ChangeSpec) : _root_.Go.OpenSpec := { _root_.Go.OpenSpec.ofChange s with cond := some uptoSmall }

/-- 'laws.FnPlans', WHERE WHAT IT READS IS OF BULK AT MOST 1048576: true; the input reads as it did. -/
def fnPlansUptoRow : OpenClaim := { program := "ythkjbjgpdapnpaadoor", sum := "ba184bd06e912b317d74239146b81a1cdcd0df565440f9af786971a144d7922d", func := "loop.example/g00978/laws.FnPlans", spec := "fnPlans", named := ["loop.example/g00978/impl.classSizes", "loop.example/g00978/impl.slotMasks"], apart := false, laid := [("loop.example/g00978/impl.slotMasks", laid_loop_example_g00978_impl_slotMasks), ("loop.example/g00978/impl.classSizes", laid_loop_example_g00978_impl_classSizes)], narrowed := true }
def FnPlansUptoSaid : Prop := fnPlansUptoRow.holds Tryd.pinned (OpenSpec.upto fnPlansSpec)

/-- 'laws.FnExactPlanPair', WHERE WHAT IT READS IS OF BULK AT MOST 1048576: true; the input reads as it did. -/
def fnExactPlanPairUptoRow : OpenClaim := { program := "ythkjbjgpdapnpaadoor", sum := "ba184bd06e912b317d74239146b81a1cdcd0df565440f9af786971a144d7922d", func := "loop.example/g00978/laws.FnExactPlanPair", spec := "fnExactPlanPair", named := ["loop.example/g00978/impl.classSizes", "loop.example/g00978/impl.slotMasks"], apart := false, laid := [("loop.example/g00978/impl.slotMasks", laid_loop_example_g00978_impl_slotMasks), ("loop.example/g00978/impl.classSizes", laid_loop_example_g00978_impl_classSizes)], narrowed := true }
def FnExactPlanPairUptoSaid : Prop := fnExactPlanPairUptoRow.holds Tryd.pinned (OpenSpec.upto fnExactPlanPairSpec)

end Rows
end Go.Proofs.YthkjbjgpdapnpaaDoor

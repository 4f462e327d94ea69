/-
  NARROWER THAN 'FOR EVERY INPUT', by the rows' own cells (each row's printed sentence says how): FnWaste: laid · FnPages: laid · FnExactClassOf: laid · FnExactClassSize: laid · FnExactSlotsOf: laid · FnExactWaste: laid.
  DERIVED. THE GIVEN ROWS OF THIS SEAT. 6 by the template 'for every input the law returns true; each argument reads behind the call as it read before'; 0 by the template 'total and deterministic' (their statements: YtbggkniebolhnaaDoorTotals.lean).
  GIVEN WITH THE SEED: the statements are not yours to turn. If you find one false, say at which input.
  Laid BY PROGRAM, IN A SANDBOX (cutbox-rows.mjs): the forced cells as the released guide's own fill.sh prints them over the translation 303078243615c34d… (all of the seat's roots in one cut). By AI agents, Wed Nov 11 2026. No macro, syntax, notation, axiom, sorry.
-/
import Derived.Test.YtbggkniebolhnaaDoorChecked
import GoSem.Claim
import GoSem.ClaimJoined
import GoSem.ClaimMapViews
import Derived.JoinedTies
import Derived.KernelRfl
namespace Go.Proofs.YtbggkniebolhnaaDoor
/- THE CELL 'sum', in the pinned program and in every row, IS THE sha256 OF THE DUMP (.gsa) THAT YtbggkniebolhnaaDoorProg.lean LOADS. Nothing in Lean hashes anything: it is a label: what it is worth is what the hold of that sum in a sandbox is worth. -/
noncomputable def Tryd.pinned : Pinned := { name := "ytbggkniebolhnaadoor", sum := "303078243615c34d53ecbddf8a5fe78731efc4ed2906948dd8447812ea2a3f63", checked := Tryd.checked }
namespace Rows
def none {H : Type} : Left H := { results := [], args := [] }

/- WHAT THE LISTED PACKAGE-LEVEL VARIABLES READ AS WHEN THE CALL BEGINS. Each datum BY PROGRAM (the guide's laid-datum.mjs) off the statement by which the dump's own 'gosem.cut.vars' lays the variable. In a bare row this is a premise. The card (YtbggkniebolhnaaDoorCards.lean) ties it to the program's text. -/
def laid_loop_example_g00978_impl_classSizes {H : Type} : DataW H := .agg [.lit (.int .i64 1), .lit (.int .i64 2), .lit (.int .i64 4), .lit (.int .i64 8)]

/-- 'laws.FnWaste': WHATEVER THE INPUT: true; the input reads as it did. -/
def fnWasteSpec : ChangeSpec := { name := "fnWaste", vars := ["loop.example/g00978/impl.classSizes"], fn := fun _ => fun
  | [d, g1] => { results := [.lit (.bool true)], args := [d], vars := [g1] }
  | _ => none }
def fnWasteRow : OpenClaim := { program := "ytbggkniebolhnaadoor", sum := "303078243615c34d53ecbddf8a5fe78731efc4ed2906948dd8447812ea2a3f63", func := "loop.example/g00978/laws.FnWaste", spec := "fnWaste", named := ["loop.example/g00978/impl.classSizes"], apart := false, laid := [("loop.example/g00978/impl.classSizes", laid_loop_example_g00978_impl_classSizes)] }
def FnWasteSaid : Prop := fnWasteRow.holds Tryd.pinned (OpenSpec.ofChange fnWasteSpec)

/-- ITS FALSE NEIGHBOUR: 'it returns false'. Refute it at one input. -/
def fnWasteWrong : ChangeSpec := { name := "fnWaste", vars := ["loop.example/g00978/impl.classSizes"], fn := fun _ => fun
  | [d, g1] => { results := [.lit (.bool false)], args := [d], vars := [g1] }
  | _ => none }
def FnWasteWrongFalsely : Prop := fnWasteRow.holds Tryd.pinned (OpenSpec.ofChange fnWasteWrong)

/-- 'laws.FnPages': WHATEVER THE INPUT: true; the input reads as it did. -/
def fnPagesSpec : ChangeSpec := { name := "fnPages", vars := ["loop.example/g00978/impl.classSizes"], fn := fun _ => fun
  | [d, g1] => { results := [.lit (.bool true)], args := [d], vars := [g1] }
  | _ => none }
def fnPagesRow : OpenClaim := { program := "ytbggkniebolhnaadoor", sum := "303078243615c34d53ecbddf8a5fe78731efc4ed2906948dd8447812ea2a3f63", func := "loop.example/g00978/laws.FnPages", spec := "fnPages", named := ["loop.example/g00978/impl.classSizes"], apart := false, laid := [("loop.example/g00978/impl.classSizes", laid_loop_example_g00978_impl_classSizes)] }
def FnPagesSaid : Prop := fnPagesRow.holds Tryd.pinned (OpenSpec.ofChange fnPagesSpec)

/-- ITS FALSE NEIGHBOUR: 'it returns false'. Refute it at one input. -/
def fnPagesWrong : ChangeSpec := { name := "fnPages", vars := ["loop.example/g00978/impl.classSizes"], fn := fun _ => fun
  | [d, g1] => { results := [.lit (.bool false)], args := [d], vars := [g1] }
  | _ => none }
def FnPagesWrongFalsely : Prop := fnPagesRow.holds Tryd.pinned (OpenSpec.ofChange fnPagesWrong)

/-- 'laws.FnExactClassOf': WHATEVER THE INPUT: true; the input reads as it did. -/
def fnExactClassOfSpec : ChangeSpec := { name := "fnExactClassOf", vars := ["loop.example/g00978/impl.classSizes"], fn := fun _ => fun
  | [d, g1] => { results := [.lit (.bool true)], args := [d], vars := [g1] }
  | _ => none }
def fnExactClassOfRow : OpenClaim := { program := "ytbggkniebolhnaadoor", sum := "303078243615c34d53ecbddf8a5fe78731efc4ed2906948dd8447812ea2a3f63", func := "loop.example/g00978/laws.FnExactClassOf", spec := "fnExactClassOf", named := ["loop.example/g00978/impl.classSizes"], apart := false, laid := [("loop.example/g00978/impl.classSizes", laid_loop_example_g00978_impl_classSizes)] }
def FnExactClassOfSaid : Prop := fnExactClassOfRow.holds Tryd.pinned (OpenSpec.ofChange fnExactClassOfSpec)

/-- ITS FALSE NEIGHBOUR: 'it returns false'. Refute it at one input. -/
def fnExactClassOfWrong : ChangeSpec := { name := "fnExactClassOf", vars := ["loop.example/g00978/impl.classSizes"], fn := fun _ => fun
  | [d, g1] => { results := [.lit (.bool false)], args := [d], vars := [g1] }
  | _ => none }
def FnExactClassOfWrongFalsely : Prop := fnExactClassOfRow.holds Tryd.pinned (OpenSpec.ofChange fnExactClassOfWrong)

/-- 'laws.FnExactClassSize': WHATEVER THE INPUT: true; the input reads as it did. -/
def fnExactClassSizeSpec : ChangeSpec := { name := "fnExactClassSize", vars := ["loop.example/g00978/impl.classSizes"], fn := fun _ => fun
  | [d, g1] => { results := [.lit (.bool true)], args := [d], vars := [g1] }
  | _ => none }
def fnExactClassSizeRow : OpenClaim := { program := "ytbggkniebolhnaadoor", sum := "303078243615c34d53ecbddf8a5fe78731efc4ed2906948dd8447812ea2a3f63", func := "loop.example/g00978/laws.FnExactClassSize", spec := "fnExactClassSize", named := ["loop.example/g00978/impl.classSizes"], apart := false, laid := [("loop.example/g00978/impl.classSizes", laid_loop_example_g00978_impl_classSizes)] }
def FnExactClassSizeSaid : Prop := fnExactClassSizeRow.holds Tryd.pinned (OpenSpec.ofChange fnExactClassSizeSpec)

/-- ITS FALSE NEIGHBOUR: 'it returns false'. Refute it at one input. -/
def fnExactClassSizeWrong : ChangeSpec := { name := "fnExactClassSize", vars := ["loop.example/g00978/impl.classSizes"], fn := fun _ => fun
  | [d, g1] => { results := [.lit (.bool false)], args := [d], vars := [g1] }
  | _ => none }
def FnExactClassSizeWrongFalsely : Prop := fnExactClassSizeRow.holds Tryd.pinned (OpenSpec.ofChange fnExactClassSizeWrong)

/-- 'laws.FnExactSlotsOf': WHATEVER THE INPUT: true; the input reads as it did. -/
def fnExactSlotsOfSpec : ChangeSpec := { name := "fnExactSlotsOf", vars := ["loop.example/g00978/impl.classSizes"], fn := fun _ => fun
  | [d, g1] => { results := [.lit (.bool true)], args := [d], vars := [g1] }
  | _ => none }
def fnExactSlotsOfRow : OpenClaim := { program := "ytbggkniebolhnaadoor", sum := "303078243615c34d53ecbddf8a5fe78731efc4ed2906948dd8447812ea2a3f63", func := "loop.example/g00978/laws.FnExactSlotsOf", spec := "fnExactSlotsOf", named := ["loop.example/g00978/impl.classSizes"], apart := false, laid := [("loop.example/g00978/impl.classSizes", laid_loop_example_g00978_impl_classSizes)] }
def FnExactSlotsOfSaid : Prop := fnExactSlotsOfRow.holds Tryd.pinned (OpenSpec.ofChange fnExactSlotsOfSpec)

/-- ITS FALSE NEIGHBOUR: 'it returns false'. Refute it at one input. -/
def fnExactSlotsOfWrong : ChangeSpec := { name := "fnExactSlotsOf", vars := ["loop.example/g00978/impl.classSizes"], fn := fun _ => fun
  | [d, g1] => { results := [.lit (.bool false)], args := [d], vars := [g1] }
  | _ => none }
def FnExactSlotsOfWrongFalsely : Prop := fnExactSlotsOfRow.holds Tryd.pinned (OpenSpec.ofChange fnExactSlotsOfWrong)

/-- 'laws.FnExactWaste': WHATEVER THE INPUT: true; the input reads as it did. -/
def fnExactWasteSpec : ChangeSpec := { name := "fnExactWaste", vars := ["loop.example/g00978/impl.classSizes"], fn := fun _ => fun
  | [d, g1] => { results := [.lit (.bool true)], args := [d], vars := [g1] }
  | _ => none }
def fnExactWasteRow : OpenClaim := { program := "ytbggkniebolhnaadoor", sum := "303078243615c34d53ecbddf8a5fe78731efc4ed2906948dd8447812ea2a3f63", func := "loop.example/g00978/laws.FnExactWaste", spec := "fnExactWaste", named := ["loop.example/g00978/impl.classSizes"], apart := false, laid := [("loop.example/g00978/impl.classSizes", laid_loop_example_g00978_impl_classSizes)] }
def FnExactWasteSaid : Prop := fnExactWasteRow.holds Tryd.pinned (OpenSpec.ofChange fnExactWasteSpec)

/-- ITS FALSE NEIGHBOUR: 'it returns false'. Refute it at one input. -/
def fnExactWasteWrong : ChangeSpec := { name := "fnExactWaste", vars := ["loop.example/g00978/impl.classSizes"], fn := fun _ => fun
  | [d, g1] => { results := [.lit (.bool false)], args := [d], vars := [g1] }
  | _ => none }
def FnExactWasteWrongFalsely : Prop := fnExactWasteRow.holds Tryd.pinned (OpenSpec.ofChange fnExactWasteWrong)

/- THE SECOND FORM. 'bulk': how many values and letters a reading holds, each counted each time it is reached (what is shared counts as often as it is met; a slice's spare places count too). A statement '..UptoSaid' is the law's where the arguments, and the package variables that the reading takes, are together of bulk at most 1048576: NARROWER than '..Said'. Prove '..Said' where nothing that the law and all that it calls make is longer than what came in: it says more and counts as full. Else prove '..UptoSaid'. A law counts once. -/
mutual
def uptoBulk {H : Type} : DataW H → Nat
  | .lit (.string bytes) => bytes.length + 1
  | .lit _ => 1
  | .nil => 1
  | .ptr d => uptoBulk d + 1
  | .slice elems spare => uptoBulkAll elems + uptoBulkAll spare + 1
  | .agg parts => uptoBulkAll parts + 1
  | .iface _ d => uptoBulk d + 1
  | .map entries => uptoBulkEntries entries + 1
  | .held _ => 1
def uptoBulkAll {H : Type} : List (DataW H) → Nat
  | [] => 0
  | d :: r => uptoBulk d + uptoBulkAll r
def uptoBulkEntries {H : Type} : List (Lit × DataW H) → Nat
  | [] => 0
  | x :: r => uptoBulkEntry x + uptoBulkEntries r
def uptoBulkEntry {H : Type} : Lit × DataW H → Nat
  | (.string bytes, d) => bytes.length + uptoBulk d + 1
  | (_, d) => uptoBulk d + 1
 end
def uptoSmall : (H : Type) → List (DataW H) → Bool := fun _ ds => decide (uptoBulkAll ds ≤ 1048576)
def OpenSpec.upto (s : _root_.Go.ChangeSpec) : _root_.Go.OpenSpec := { _root_.Go.OpenSpec.ofChange s with cond := some uptoSmall }

/-- 'laws.FnWaste', WHERE WHAT IT READS IS OF BULK AT MOST 1048576: true; the input reads as it did. -/
def fnWasteUptoRow : OpenClaim := { program := "ytbggkniebolhnaadoor", sum := "303078243615c34d53ecbddf8a5fe78731efc4ed2906948dd8447812ea2a3f63", func := "loop.example/g00978/laws.FnWaste", spec := "fnWaste", named := ["loop.example/g00978/impl.classSizes"], apart := false, laid := [("loop.example/g00978/impl.classSizes", laid_loop_example_g00978_impl_classSizes)], narrowed := true }
def FnWasteUptoSaid : Prop := fnWasteUptoRow.holds Tryd.pinned (OpenSpec.upto fnWasteSpec)

/-- 'laws.FnPages', WHERE WHAT IT READS IS OF BULK AT MOST 1048576: true; the input reads as it did. -/
def fnPagesUptoRow : OpenClaim := { program := "ytbggkniebolhnaadoor", sum := "303078243615c34d53ecbddf8a5fe78731efc4ed2906948dd8447812ea2a3f63", func := "loop.example/g00978/laws.FnPages", spec := "fnPages", named := ["loop.example/g00978/impl.classSizes"], apart := false, laid := [("loop.example/g00978/impl.classSizes", laid_loop_example_g00978_impl_classSizes)], narrowed := true }
def FnPagesUptoSaid : Prop := fnPagesUptoRow.holds Tryd.pinned (OpenSpec.upto fnPagesSpec)

/-- 'laws.FnExactClassOf', WHERE WHAT IT READS IS OF BULK AT MOST 1048576: true; the input reads as it did. -/
def fnExactClassOfUptoRow : OpenClaim := { program := "ytbggkniebolhnaadoor", sum := "303078243615c34d53ecbddf8a5fe78731efc4ed2906948dd8447812ea2a3f63", func := "loop.example/g00978/laws.FnExactClassOf", spec := "fnExactClassOf", named := ["loop.example/g00978/impl.classSizes"], apart := false, laid := [("loop.example/g00978/impl.classSizes", laid_loop_example_g00978_impl_classSizes)], narrowed := true }
def FnExactClassOfUptoSaid : Prop := fnExactClassOfUptoRow.holds Tryd.pinned (OpenSpec.upto fnExactClassOfSpec)

/-- 'laws.FnExactClassSize', WHERE WHAT IT READS IS OF BULK AT MOST 1048576: true; the input reads as it did. -/
def fnExactClassSizeUptoRow : OpenClaim := { program := "ytbggkniebolhnaadoor", sum := "303078243615c34d53ecbddf8a5fe78731efc4ed2906948dd8447812ea2a3f63", func := "loop.example/g00978/laws.FnExactClassSize", spec := "fnExactClassSize", named := ["loop.example/g00978/impl.classSizes"], apart := false, laid := [("loop.example/g00978/impl.classSizes", laid_loop_example_g00978_impl_classSizes)], narrowed := true }
def FnExactClassSizeUptoSaid : Prop := fnExactClassSizeUptoRow.holds Tryd.pinned (OpenSpec.upto fnExactClassSizeSpec)

/-- 'laws.FnExactSlotsOf', WHERE WHAT IT READS IS OF BULK AT MOST 1048576: true; the input reads as it did. -/
def fnExactSlotsOfUptoRow : OpenClaim := { program := "ytbggkniebolhnaadoor", sum := "303078243615c34d53ecbddf8a5fe78731efc4ed2906948dd8447812ea2a3f63", func := "loop.example/g00978/laws.FnExactSlotsOf", spec := "fnExactSlotsOf", named := ["loop.example/g00978/impl.classSizes"], apart := false, laid := [("loop.example/g00978/impl.classSizes", laid_loop_example_g00978_impl_classSizes)], narrowed := true }
def FnExactSlotsOfUptoSaid : Prop := fnExactSlotsOfUptoRow.holds Tryd.pinned (OpenSpec.upto fnExactSlotsOfSpec)

/-- 'laws.FnExactWaste', WHERE WHAT IT READS IS OF BULK AT MOST 1048576: true; the input reads as it did. -/
def fnExactWasteUptoRow : OpenClaim := { program := "ytbggkniebolhnaadoor", sum := "303078243615c34d53ecbddf8a5fe78731efc4ed2906948dd8447812ea2a3f63", func := "loop.example/g00978/laws.FnExactWaste", spec := "fnExactWaste", named := ["loop.example/g00978/impl.classSizes"], apart := false, laid := [("loop.example/g00978/impl.classSizes", laid_loop_example_g00978_impl_classSizes)], narrowed := true }
def FnExactWasteUptoSaid : Prop := fnExactWasteUptoRow.holds Tryd.pinned (OpenSpec.upto fnExactWasteSpec)

end Rows
end Go.Proofs.YtbggkniebolhnaaDoor

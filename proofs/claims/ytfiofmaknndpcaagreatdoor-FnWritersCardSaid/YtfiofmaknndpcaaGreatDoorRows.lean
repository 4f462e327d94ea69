/-
  NARROWER THAN 'FOR EVERY INPUT', by the rows' own cells (each row's printed sentence says how): FnWriters: ifaces, laid · FnWaits: ifaces, laid · FnExactInterleave: ifaces, laid.
  DERIVED. THE GIVEN ROWS OF THIS SEAT. 3 by the template 'for every input the law returns true; each argument reads behind the call as it read before'; 0 by the template 'total and deterministic' (their statements: YtfiofmaknndpcaaGreatDoorTotals.lean).
  GIVEN WITH THE SEED: the statements are not yours to turn. If you find one false, say at which input.
  Laid BY PROGRAM, IN A SANDBOX (cutbox-rows.mjs): the forced cells as the released guide's own fill.sh prints them over the translation 5b8480ea1b4f7130… (all of the seat's roots in one cut). By AI agents, Wed Nov 11 2026. No macro, syntax, notation, axiom, sorry.
-/
import Derived.Test.YtfiofmaknndpcaaGreatDoorChecked
import GoSem.Claim
import GoSem.ClaimJoined
import GoSem.ClaimMapViews
import Derived.JoinedTies
import Derived.KernelRfl
namespace Go.Proofs.YtfiofmaknndpcaaGreatDoor
/- THE CELL 'sum', in the pinned program and in every row, IS THE sha256 OF THE DUMP (.gsa) THAT YtfiofmaknndpcaaGreatDoorProg.lean LOADS. Nothing in Lean hashes anything: it is a label: what it is worth is what the hold of that sum in a sandbox is worth. -/
noncomputable def Tryz.pinned : Pinned := { name := "ytfiofmaknndpcaagreatdoor", sum := "5b8480ea1b4f7130512fe62eaa8810641e222c38e0f61ebba927bb5fb955dbf0", checked := Tryz.checked }
namespace Rows
def none {H : Type} : Left H := { results := [], args := [] }

/- WHAT THE LISTED PACKAGE-LEVEL VARIABLES READ AS WHEN THE CALL BEGINS. Each datum BY PROGRAM (the guide's laid-datum.mjs) off the statement by which the dump's own 'gosem.cut.vars' lays the variable. In a bare row this is a premise. The card (YtfiofmaknndpcaaGreatDoorCards.lean) ties it to the program's text. -/
def laid_loop_example_g00978_impl_errPage {H : Type} : DataW H := .iface "*errors.errorString" (.ptr (.agg [.lit (.string [110, 111, 32, 112, 97, 103, 101, 32, 105, 115, 32, 109, 97, 112, 112, 101, 100, 32, 97, 116, 32, 116, 104, 101, 32, 97, 100, 100, 114, 101, 115, 115])]))
def laid_loop_example_g00978_impl_errWrite {H : Type} : DataW H := .iface "*errors.errorString" (.ptr (.agg [.lit (.string [116, 104, 101, 32, 112, 97, 103, 101, 32, 105, 115, 32, 109, 97, 112, 112, 101, 100, 32, 102, 111, 114, 32, 114, 101, 97, 100, 105, 110, 103, 32, 111, 110, 108, 121])]))
def laid_loop_example_g00978_impl_errValue {H : Type} : DataW H := .iface "*errors.errorString" (.ptr (.agg [.lit (.string [116, 104, 101, 32, 118, 97, 108, 117, 101, 32, 105, 115, 32, 111, 117, 116, 32, 111, 102, 32, 114, 97, 110, 103, 101])]))

/-- 'laws.FnWriters': WHATEVER THE INPUT: true; the input reads as it did. -/
def fnWritersSpec : ChangeSpec := { name := "fnWriters", vars := ["loop.example/g00978/impl.errWrite", "loop.example/g00978/impl.errValue", "loop.example/g00978/impl.errPage"], fn := fun _ => fun
  | [d, g1, g2, g3] => { results := [.lit (.bool true)], args := [d], vars := [g1, g2, g3] }
  | _ => none }
def fnWritersRow : OpenClaim := { program := "ytfiofmaknndpcaagreatdoor", sum := "5b8480ea1b4f7130512fe62eaa8810641e222c38e0f61ebba927bb5fb955dbf0", func := "loop.example/g00978/laws.FnWriters", spec := "fnWriters", inPlace := ["internal/reflectlite.TypeOf"], unfollowed := true, recurses := true, named := ["loop.example/g00978/impl.errWrite", "loop.example/g00978/impl.errValue", "loop.example/g00978/impl.errPage"], ifaces := true, leaving := true, apart := false, laid := [("loop.example/g00978/impl.errPage", laid_loop_example_g00978_impl_errPage), ("loop.example/g00978/impl.errWrite", laid_loop_example_g00978_impl_errWrite), ("loop.example/g00978/impl.errValue", laid_loop_example_g00978_impl_errValue)] }
def FnWritersSaid : Prop := fnWritersRow.holds Tryz.pinned (OpenSpec.ofChange fnWritersSpec)

/-- ITS FALSE NEIGHBOUR: 'it returns false'. Refute it at one input. -/
def fnWritersWrong : ChangeSpec := { name := "fnWriters", vars := ["loop.example/g00978/impl.errWrite", "loop.example/g00978/impl.errValue", "loop.example/g00978/impl.errPage"], fn := fun _ => fun
  | [d, g1, g2, g3] => { results := [.lit (.bool false)], args := [d], vars := [g1, g2, g3] }
  | _ => none }
def FnWritersWrongFalsely : Prop := fnWritersRow.holds Tryz.pinned (OpenSpec.ofChange fnWritersWrong)

/-- 'laws.FnWaits': WHATEVER THE INPUT: true; the input reads as it did. -/
def fnWaitsSpec : ChangeSpec := { name := "fnWaits", vars := ["loop.example/g00978/impl.errWrite", "loop.example/g00978/impl.errValue", "loop.example/g00978/impl.errPage"], fn := fun _ => fun
  | [d, g1, g2, g3] => { results := [.lit (.bool true)], args := [d], vars := [g1, g2, g3] }
  | _ => none }
def fnWaitsRow : OpenClaim := { program := "ytfiofmaknndpcaagreatdoor", sum := "5b8480ea1b4f7130512fe62eaa8810641e222c38e0f61ebba927bb5fb955dbf0", func := "loop.example/g00978/laws.FnWaits", spec := "fnWaits", inPlace := ["internal/reflectlite.TypeOf"], unfollowed := true, recurses := true, named := ["loop.example/g00978/impl.errWrite", "loop.example/g00978/impl.errValue", "loop.example/g00978/impl.errPage"], ifaces := true, leaving := true, apart := false, laid := [("loop.example/g00978/impl.errPage", laid_loop_example_g00978_impl_errPage), ("loop.example/g00978/impl.errWrite", laid_loop_example_g00978_impl_errWrite), ("loop.example/g00978/impl.errValue", laid_loop_example_g00978_impl_errValue)] }
def FnWaitsSaid : Prop := fnWaitsRow.holds Tryz.pinned (OpenSpec.ofChange fnWaitsSpec)

/-- ITS FALSE NEIGHBOUR: 'it returns false'. Refute it at one input. -/
def fnWaitsWrong : ChangeSpec := { name := "fnWaits", vars := ["loop.example/g00978/impl.errWrite", "loop.example/g00978/impl.errValue", "loop.example/g00978/impl.errPage"], fn := fun _ => fun
  | [d, g1, g2, g3] => { results := [.lit (.bool false)], args := [d], vars := [g1, g2, g3] }
  | _ => none }
def FnWaitsWrongFalsely : Prop := fnWaitsRow.holds Tryz.pinned (OpenSpec.ofChange fnWaitsWrong)

/-- 'laws.FnExactInterleave': WHATEVER THE INPUT: true; the input reads as it did. -/
def fnExactInterleaveSpec : ChangeSpec := { name := "fnExactInterleave", vars := ["loop.example/g00978/impl.errWrite", "loop.example/g00978/impl.errValue", "loop.example/g00978/impl.errPage"], fn := fun _ => fun
  | [d1, d2, d3, d4, g1, g2, g3] => { results := [.lit (.bool true)], args := [d1, d2, d3, d4], vars := [g1, g2, g3] }
  | _ => none }
def fnExactInterleaveRow : OpenClaim := { program := "ytfiofmaknndpcaagreatdoor", sum := "5b8480ea1b4f7130512fe62eaa8810641e222c38e0f61ebba927bb5fb955dbf0", func := "loop.example/g00978/laws.FnExactInterleave", spec := "fnExactInterleave", inPlace := ["internal/reflectlite.TypeOf"], unfollowed := true, recurses := true, named := ["loop.example/g00978/impl.errWrite", "loop.example/g00978/impl.errValue", "loop.example/g00978/impl.errPage"], ifaces := true, leaving := true, apart := false, laid := [("loop.example/g00978/impl.errPage", laid_loop_example_g00978_impl_errPage), ("loop.example/g00978/impl.errWrite", laid_loop_example_g00978_impl_errWrite), ("loop.example/g00978/impl.errValue", laid_loop_example_g00978_impl_errValue)] }
def FnExactInterleaveSaid : Prop := fnExactInterleaveRow.holds Tryz.pinned (OpenSpec.ofChange fnExactInterleaveSpec)

/-- ITS FALSE NEIGHBOUR: 'it returns false'. Refute it at one input. -/
def fnExactInterleaveWrong : ChangeSpec := { name := "fnExactInterleave", vars := ["loop.example/g00978/impl.errWrite", "loop.example/g00978/impl.errValue", "loop.example/g00978/impl.errPage"], fn := fun _ => fun
  | [d1, d2, d3, d4, g1, g2, g3] => { results := [.lit (.bool false)], args := [d1, d2, d3, d4], vars := [g1, g2, g3] }
  | _ => none }
def FnExactInterleaveWrongFalsely : Prop := fnExactInterleaveRow.holds Tryz.pinned (OpenSpec.ofChange fnExactInterleaveWrong)

/- THE SECOND FORM. 'bulk': how many values and letters a reading holds, each counted each time it is reached (what is shared counts as often as it is met; a slice's spare places count too). A statement '..UptoSaid' is the law's where the arguments, and the package variables that the reading takes, are together of bulk at most 1048576: NARROWER than '..Said'. Prove '..Said' where nothing that the law and all that it calls make is longer than what came in: it says more and counts as full. Else prove '..UptoSaid'. A law counts once. -/
mutual
def uptoBulk {H : Type} : DataW H → Nat
  | .lit (.string bytes) => bytes.length + 1
  | .lit _ => 1
  | .nil => 1
  | .ptr d => uptoBulk d + 1
  | .slice elems spare => uptoBulkAll elems + uptoBulkAll spare + 1
  | .agg parts => uptoBulkAll parts + 1
  | .iface _ d => uptoBulk d + 1
  | .map entries => uptoBulkEntries entries + 1
  | .held _ => 1
def uptoBulkAll {H : Type} : List (DataW H) → Nat
  | [] => 0
  | d :: r => uptoBulk d + uptoBulkAll r
def uptoBulkEntries {H : Type} : List (Lit × DataW H) → Nat
  | [] => 0
  | x :: r => uptoBulkEntry x + uptoBulkEntries r
def uptoBulkEntry {H : Type} : Lit × DataW H → Nat
  | (.string bytes, d) => bytes.length + uptoBulk d + 1
  | (_, d) => uptoBulk d + 1
 end
def uptoSmall : (H : Type) → List (DataW H) → Bool := fun _ ds => decide (uptoBulkAll ds ≤ 1048576)
def OpenSpec.upto (s : _root_.Go.ChangeSpec) : _root_.Go.OpenSpec := { _root_.Go.OpenSpec.ofChange s with cond := some uptoSmall }

/-- 'laws.FnWriters', WHERE WHAT IT READS IS OF BULK AT MOST 1048576: true; the input reads as it did. -/
def fnWritersUptoRow : OpenClaim := { program := "ytfiofmaknndpcaagreatdoor", sum := "5b8480ea1b4f7130512fe62eaa8810641e222c38e0f61ebba927bb5fb955dbf0", func := "loop.example/g00978/laws.FnWriters", spec := "fnWriters", inPlace := ["internal/reflectlite.TypeOf"], unfollowed := true, recurses := true, named := ["loop.example/g00978/impl.errWrite", "loop.example/g00978/impl.errValue", "loop.example/g00978/impl.errPage"], ifaces := true, leaving := true, apart := false, laid := [("loop.example/g00978/impl.errPage", laid_loop_example_g00978_impl_errPage), ("loop.example/g00978/impl.errWrite", laid_loop_example_g00978_impl_errWrite), ("loop.example/g00978/impl.errValue", laid_loop_example_g00978_impl_errValue)], narrowed := true }
def FnWritersUptoSaid : Prop := fnWritersUptoRow.holds Tryz.pinned (OpenSpec.upto fnWritersSpec)

/-- 'laws.FnWaits', WHERE WHAT IT READS IS OF BULK AT MOST 1048576: true; the input reads as it did. -/
def fnWaitsUptoRow : OpenClaim := { program := "ytfiofmaknndpcaagreatdoor", sum := "5b8480ea1b4f7130512fe62eaa8810641e222c38e0f61ebba927bb5fb955dbf0", func := "loop.example/g00978/laws.FnWaits", spec := "fnWaits", inPlace := ["internal/reflectlite.TypeOf"], unfollowed := true, recurses := true, named := ["loop.example/g00978/impl.errWrite", "loop.example/g00978/impl.errValue", "loop.example/g00978/impl.errPage"], ifaces := true, leaving := true, apart := false, laid := [("loop.example/g00978/impl.errPage", laid_loop_example_g00978_impl_errPage), ("loop.example/g00978/impl.errWrite", laid_loop_example_g00978_impl_errWrite), ("loop.example/g00978/impl.errValue", laid_loop_example_g00978_impl_errValue)], narrowed := true }
def FnWaitsUptoSaid : Prop := fnWaitsUptoRow.holds Tryz.pinned (OpenSpec.upto fnWaitsSpec)

/-- 'laws.FnExactInterleave', WHERE WHAT IT READS IS OF BULK AT MOST 1048576: true; the input reads as it did. -/
def fnExactInterleaveUptoRow : OpenClaim := { program := "ytfiofmaknndpcaagreatdoor", sum := "5b8480ea1b4f7130512fe62eaa8810641e222c38e0f61ebba927bb5fb955dbf0", func := "loop.example/g00978/laws.FnExactInterleave", spec := "fnExactInterleave", inPlace := ["internal/reflectlite.TypeOf"], unfollowed := true, recurses := true, named := ["loop.example/g00978/impl.errWrite", "loop.example/g00978/impl.errValue", "loop.example/g00978/impl.errPage"], ifaces := true, leaving := true, apart := false, laid := [("loop.example/g00978/impl.errPage", laid_loop_example_g00978_impl_errPage), ("loop.example/g00978/impl.errWrite", laid_loop_example_g00978_impl_errWrite), ("loop.example/g00978/impl.errValue", laid_loop_example_g00978_impl_errValue)], narrowed := true }
def FnExactInterleaveUptoSaid : Prop := fnExactInterleaveUptoRow.holds Tryz.pinned (OpenSpec.upto fnExactInterleaveSpec)

end Rows
end Go.Proofs.YtfiofmaknndpcaaGreatDoor

/-
  NARROWER THAN 'FOR EVERY INPUT', by the rows' own cells (each row's printed sentence says how): FnStores: ifaces, laid · FnPageText: ifaces, laid · FnExactLoad: ifaces, laid · FnExactStore: ifaces, laid · FnExactPageText: ifaces, laid.
  DERIVED. THE GIVEN ROWS OF THIS SEAT. 5 by the template 'for every input the law returns true; each argument reads behind the call as it read before'; 0 by the template 'total and deterministic' (their statements: YtkmkpjpopobdbaaDoorTotals.lean).
  GIVEN WITH THE SEED: the statements are not yours to turn. If you find one false, say at which input.
  Laid BY PROGRAM, IN A SANDBOX (cutbox-rows.mjs): the forced cells as the released guide's own fill.sh prints them over the translation d0769adea0683731… (all of the seat's roots in one cut). By AI agents, Wed Nov 11 2026. No macro, syntax, notation, axiom, sorry.
-/
import Derived.Test.YtkmkpjpopobdbaaDoorChecked
import GoSem.Claim
import GoSem.ClaimJoined
import GoSem.ClaimMapViews
import Derived.JoinedTies
import Derived.KernelRfl
namespace Go.Proofs.YtkmkpjpopobdbaaDoor
/- THE CELL 'sum', in the pinned program and in every row, IS THE sha256 OF THE DUMP (.gsa) THAT YtkmkpjpopobdbaaDoorProg.lean LOADS. Nothing in Lean hashes anything: it is a label: what it is worth is what the hold of that sum in a sandbox is worth. -/
noncomputable def Tryd.pinned : Pinned := { name := "ytkmkpjpopobdbaadoor", sum := "d0769adea068373123845236929d334e5e5452dfe9540f0a22a9c847adef5e09", checked := Tryd.checked }
namespace Rows
def none {H : Type} : Left H := { results := [], args := [] }

/- WHAT THE LISTED PACKAGE-LEVEL VARIABLES READ AS WHEN THE CALL BEGINS. Each datum BY PROGRAM (the guide's laid-datum.mjs) off the statement by which the dump's own 'gosem.cut.vars' lays the variable. In a bare row this is a premise. The card (YtkmkpjpopobdbaaDoorCards.lean) ties it to the program's text. -/
def laid_loop_example_g00978_impl_errPage {H : Type} : DataW H := .iface "*errors.errorString" (.ptr (.agg [.lit (.string [110, 111, 32, 112, 97, 103, 101, 32, 105, 115, 32, 109, 97, 112, 112, 101, 100, 32, 97, 116, 32, 116, 104, 101, 32, 97, 100, 100, 114, 101, 115, 115])]))
def laid_loop_example_g00978_impl_errWrite {H : Type} : DataW H := .iface "*errors.errorString" (.ptr (.agg [.lit (.string [116, 104, 101, 32, 112, 97, 103, 101, 32, 105, 115, 32, 109, 97, 112, 112, 101, 100, 32, 102, 111, 114, 32, 114, 101, 97, 100, 105, 110, 103, 32, 111, 110, 108, 121])]))
def laid_loop_example_g00978_impl_errValue {H : Type} : DataW H := .iface "*errors.errorString" (.ptr (.agg [.lit (.string [116, 104, 101, 32, 118, 97, 108, 117, 101, 32, 105, 115, 32, 111, 117, 116, 32, 111, 102, 32, 114, 97, 110, 103, 101])]))

/-- 'laws.FnStores': WHATEVER THE INPUT: true; the input reads as it did. -/
def fnStoresSpec : ChangeSpec := { name := "fnStores", vars := ["loop.example/g00978/impl.errWrite", "loop.example/g00978/impl.errValue", "loop.example/g00978/impl.errPage"], fn := fun _ => fun
  | [d, g1, g2, g3] => { results := [.lit (.bool true)], args := [d], vars := [g1, g2, g3] }
  | _ => none }
def fnStoresRow : OpenClaim := { program := "ytkmkpjpopobdbaadoor", sum := "d0769adea068373123845236929d334e5e5452dfe9540f0a22a9c847adef5e09", func := "loop.example/g00978/laws.FnStores", spec := "fnStores", inPlace := ["internal/reflectlite.TypeOf"], unfollowed := true, recurses := true, named := ["loop.example/g00978/impl.errWrite", "loop.example/g00978/impl.errValue", "loop.example/g00978/impl.errPage"], ifaces := true, apart := false, laid := [("loop.example/g00978/impl.errPage", laid_loop_example_g00978_impl_errPage), ("loop.example/g00978/impl.errWrite", laid_loop_example_g00978_impl_errWrite), ("loop.example/g00978/impl.errValue", laid_loop_example_g00978_impl_errValue)] }
def FnStoresSaid : Prop := fnStoresRow.holds Tryd.pinned (OpenSpec.ofChange fnStoresSpec)

/-- ITS FALSE NEIGHBOUR: 'it returns false'. Refute it at one input. -/
def fnStoresWrong : ChangeSpec := { name := "fnStores", vars := ["loop.example/g00978/impl.errWrite", "loop.example/g00978/impl.errValue", "loop.example/g00978/impl.errPage"], fn := fun _ => fun
  | [d, g1, g2, g3] => { results := [.lit (.bool false)], args := [d], vars := [g1, g2, g3] }
  | _ => none }
def FnStoresWrongFalsely : Prop := fnStoresRow.holds Tryd.pinned (OpenSpec.ofChange fnStoresWrong)

/-- 'laws.FnPageText': WHATEVER THE INPUT: true; the input reads as it did. -/
def fnPageTextSpec : ChangeSpec := { name := "fnPageText", vars := ["loop.example/g00978/impl.errPage", "loop.example/g00978/impl.errWrite", "loop.example/g00978/impl.errValue"], fn := fun _ => fun
  | [d, g1, g2, g3] => { results := [.lit (.bool true)], args := [d], vars := [g1, g2, g3] }
  | _ => none }
def fnPageTextRow : OpenClaim := { program := "ytkmkpjpopobdbaadoor", sum := "d0769adea068373123845236929d334e5e5452dfe9540f0a22a9c847adef5e09", func := "loop.example/g00978/laws.FnPageText", spec := "fnPageText", inPlace := ["internal/reflectlite.TypeOf"], unfollowed := true, recurses := true, named := ["loop.example/g00978/impl.errPage", "loop.example/g00978/impl.errWrite", "loop.example/g00978/impl.errValue"], ifaces := true, apart := false, laid := [("loop.example/g00978/impl.errPage", laid_loop_example_g00978_impl_errPage), ("loop.example/g00978/impl.errWrite", laid_loop_example_g00978_impl_errWrite), ("loop.example/g00978/impl.errValue", laid_loop_example_g00978_impl_errValue)] }
def FnPageTextSaid : Prop := fnPageTextRow.holds Tryd.pinned (OpenSpec.ofChange fnPageTextSpec)

/-- ITS FALSE NEIGHBOUR: 'it returns false'. Refute it at one input. -/
def fnPageTextWrong : ChangeSpec := { name := "fnPageText", vars := ["loop.example/g00978/impl.errPage", "loop.example/g00978/impl.errWrite", "loop.example/g00978/impl.errValue"], fn := fun _ => fun
  | [d, g1, g2, g3] => { results := [.lit (.bool false)], args := [d], vars := [g1, g2, g3] }
  | _ => none }
def FnPageTextWrongFalsely : Prop := fnPageTextRow.holds Tryd.pinned (OpenSpec.ofChange fnPageTextWrong)

/-- 'laws.FnExactLoad': WHATEVER THE INPUT: true; the input reads as it did. -/
def fnExactLoadSpec : ChangeSpec := { name := "fnExactLoad", vars := ["loop.example/g00978/impl.errPage", "loop.example/g00978/impl.errWrite", "loop.example/g00978/impl.errValue"], fn := fun _ => fun
  | [d1, d2, g1, g2, g3] => { results := [.lit (.bool true)], args := [d1, d2], vars := [g1, g2, g3] }
  | _ => none }
def fnExactLoadRow : OpenClaim := { program := "ytkmkpjpopobdbaadoor", sum := "d0769adea068373123845236929d334e5e5452dfe9540f0a22a9c847adef5e09", func := "loop.example/g00978/laws.FnExactLoad", spec := "fnExactLoad", inPlace := ["internal/reflectlite.TypeOf"], unfollowed := true, recurses := true, named := ["loop.example/g00978/impl.errPage", "loop.example/g00978/impl.errWrite", "loop.example/g00978/impl.errValue"], ifaces := true, apart := false, laid := [("loop.example/g00978/impl.errPage", laid_loop_example_g00978_impl_errPage), ("loop.example/g00978/impl.errWrite", laid_loop_example_g00978_impl_errWrite), ("loop.example/g00978/impl.errValue", laid_loop_example_g00978_impl_errValue)] }
def FnExactLoadSaid : Prop := fnExactLoadRow.holds Tryd.pinned (OpenSpec.ofChange fnExactLoadSpec)

/-- ITS FALSE NEIGHBOUR: 'it returns false'. Refute it at one input. -/
def fnExactLoadWrong : ChangeSpec := { name := "fnExactLoad", vars := ["loop.example/g00978/impl.errPage", "loop.example/g00978/impl.errWrite", "loop.example/g00978/impl.errValue"], fn := fun _ => fun
  | [d1, d2, g1, g2, g3] => { results := [.lit (.bool false)], args := [d1, d2], vars := [g1, g2, g3] }
  | _ => none }
def FnExactLoadWrongFalsely : Prop := fnExactLoadRow.holds Tryd.pinned (OpenSpec.ofChange fnExactLoadWrong)

/-- 'laws.FnExactStore': WHATEVER THE INPUT: true; the input reads as it did. -/
def fnExactStoreSpec : ChangeSpec := { name := "fnExactStore", vars := ["loop.example/g00978/impl.errWrite", "loop.example/g00978/impl.errValue", "loop.example/g00978/impl.errPage"], fn := fun _ => fun
  | [d1, d2, d3, g1, g2, g3] => { results := [.lit (.bool true)], args := [d1, d2, d3], vars := [g1, g2, g3] }
  | _ => none }
def fnExactStoreRow : OpenClaim := { program := "ytkmkpjpopobdbaadoor", sum := "d0769adea068373123845236929d334e5e5452dfe9540f0a22a9c847adef5e09", func := "loop.example/g00978/laws.FnExactStore", spec := "fnExactStore", inPlace := ["internal/reflectlite.TypeOf"], unfollowed := true, recurses := true, named := ["loop.example/g00978/impl.errWrite", "loop.example/g00978/impl.errValue", "loop.example/g00978/impl.errPage"], ifaces := true, apart := false, laid := [("loop.example/g00978/impl.errPage", laid_loop_example_g00978_impl_errPage), ("loop.example/g00978/impl.errWrite", laid_loop_example_g00978_impl_errWrite), ("loop.example/g00978/impl.errValue", laid_loop_example_g00978_impl_errValue)] }
def FnExactStoreSaid : Prop := fnExactStoreRow.holds Tryd.pinned (OpenSpec.ofChange fnExactStoreSpec)

/-- ITS FALSE NEIGHBOUR: 'it returns false'. Refute it at one input. -/
def fnExactStoreWrong : ChangeSpec := { name := "fnExactStore", vars := ["loop.example/g00978/impl.errWrite", "loop.example/g00978/impl.errValue", "loop.example/g00978/impl.errPage"], fn := fun _ => fun
  | [d1, d2, d3, g1, g2, g3] => { results := [.lit (.bool false)], args := [d1, d2, d3], vars := [g1, g2, g3] }
  | _ => none }
def FnExactStoreWrongFalsely : Prop := fnExactStoreRow.holds Tryd.pinned (OpenSpec.ofChange fnExactStoreWrong)

/-- 'laws.FnExactPageText': WHATEVER THE INPUT: true; the input reads as it did. -/
def fnExactPageTextSpec : ChangeSpec := { name := "fnExactPageText", vars := ["loop.example/g00978/impl.errPage"], fn := fun _ => fun
  | [d1, d2, g1] => { results := [.lit (.bool true)], args := [d1, d2], vars := [g1] }
  | _ => none }
def fnExactPageTextRow : OpenClaim := { program := "ytkmkpjpopobdbaadoor", sum := "d0769adea068373123845236929d334e5e5452dfe9540f0a22a9c847adef5e09", func := "loop.example/g00978/laws.FnExactPageText", spec := "fnExactPageText", named := ["loop.example/g00978/impl.errPage"], ifaces := true, apart := false, laid := [("loop.example/g00978/impl.errPage", laid_loop_example_g00978_impl_errPage)] }
def FnExactPageTextSaid : Prop := fnExactPageTextRow.holds Tryd.pinned (OpenSpec.ofChange fnExactPageTextSpec)

/-- ITS FALSE NEIGHBOUR: 'it returns false'. Refute it at one input. -/
def fnExactPageTextWrong : ChangeSpec := { name := "fnExactPageText", vars := ["loop.example/g00978/impl.errPage"], fn := fun _ => fun
  | [d1, d2, g1] => { results := [.lit (.bool false)], args := [d1, d2], vars := [g1] }
  | _ => none }
def FnExactPageTextWrongFalsely : Prop := fnExactPageTextRow.holds Tryd.pinned (OpenSpec.ofChange fnExactPageTextWrong)

/- THE SECOND FORM. 'bulk': how many values and letters a reading holds, each counted each time it is reached (what is shared counts as often as it is met; a slice's spare places count too). A statement '..UptoSaid' is the law's where the arguments, and the package variables that the reading takes, are together of bulk at most 1048576: NARROWER than '..Said'. Prove '..Said' where nothing that the law and all that it calls make is longer than what came in: it says more and counts as full. Else prove '..UptoSaid'. A law counts once. -/
mutual
def uptoBulk {H : Type} : DataW H → Nat
  | .lit (.string bytes) => bytes.length + 1
  | .lit _ => 1
  | .nil => 1
  | .ptr d => uptoBulk d + 1
  | .slice elems spare => uptoBulkAll elems + uptoBulkAll spare + 1
  | .agg parts => uptoBulkAll parts + 1
  | .iface _ d => uptoBulk d + 1
  | .map entries => uptoBulkEntries entries + 1
  | .held _ => 1
def uptoBulkAll {H : Type} : List (DataW H) → Nat
  | [] => 0
  | d :: r => uptoBulk d + uptoBulkAll r
def uptoBulkEntries {H : Type} : List (Lit × DataW H) → Nat
  | [] => 0
  | x :: r => uptoBulkEntry x + uptoBulkEntries r
def uptoBulkEntry {H : Type} : Lit × DataW H → Nat
  | (.string bytes, d) => bytes.length + uptoBulk d + 1
  | (_, d) => uptoBulk d + 1
 end
def uptoSmall : (H : Type) → List (DataW H) → Bool := fun _ ds => decide (uptoBulkAll ds ≤ 1048576)
def OpenSpec.upto (s : _root_.Go.ChangeSpec) : _root_.Go.OpenSpec := { _root_.Go.OpenSpec.ofChange s with cond := some uptoSmall }

/-- 'laws.FnStores', WHERE WHAT IT READS IS OF BULK AT MOST 1048576: true; the input reads as it did. -/
def fnStoresUptoRow : OpenClaim := { program := "ytkmkpjpopobdbaadoor", sum := "d0769adea068373123845236929d334e5e5452dfe9540f0a22a9c847adef5e09", func := "loop.example/g00978/laws.FnStores", spec := "fnStores", inPlace := ["internal/reflectlite.TypeOf"], unfollowed := true, recurses := true, named := ["loop.example/g00978/impl.errWrite", "loop.example/g00978/impl.errValue", "loop.example/g00978/impl.errPage"], ifaces := true, apart := false, laid := [("loop.example/g00978/impl.errPage", laid_loop_example_g00978_impl_errPage), ("loop.example/g00978/impl.errWrite", laid_loop_example_g00978_impl_errWrite), ("loop.example/g00978/impl.errValue", laid_loop_example_g00978_impl_errValue)], narrowed := true }
def FnStoresUptoSaid : Prop := fnStoresUptoRow.holds Tryd.pinned (OpenSpec.upto fnStoresSpec)

/-- 'laws.FnPageText', WHERE WHAT IT READS IS OF BULK AT MOST 1048576: true; the input reads as it did. -/
def fnPageTextUptoRow : OpenClaim := { program := "ytkmkpjpopobdbaadoor", sum := "d0769adea068373123845236929d334e5e5452dfe9540f0a22a9c847adef5e09", func := "loop.example/g00978/laws.FnPageText", spec := "fnPageText", inPlace := ["internal/reflectlite.TypeOf"], unfollowed := true, recurses := true, named := ["loop.example/g00978/impl.errPage", "loop.example/g00978/impl.errWrite", "loop.example/g00978/impl.errValue"], ifaces := true, apart := false, laid := [("loop.example/g00978/impl.errPage", laid_loop_example_g00978_impl_errPage), ("loop.example/g00978/impl.errWrite", laid_loop_example_g00978_impl_errWrite), ("loop.example/g00978/impl.errValue", laid_loop_example_g00978_impl_errValue)], narrowed := true }
def FnPageTextUptoSaid : Prop := fnPageTextUptoRow.holds Tryd.pinned (OpenSpec.upto fnPageTextSpec)

/-- 'laws.FnExactLoad', WHERE WHAT IT READS IS OF BULK AT MOST 1048576: true; the input reads as it did. -/
def fnExactLoadUptoRow : OpenClaim := { program := "ytkmkpjpopobdbaadoor", sum := "d0769adea068373123845236929d334e5e5452dfe9540f0a22a9c847adef5e09", func := "loop.example/g00978/laws.FnExactLoad", spec := "fnExactLoad", inPlace := ["internal/reflectlite.TypeOf"], unfollowed := true, recurses := true, named := ["loop.example/g00978/impl.errPage", "loop.example/g00978/impl.errWrite", "loop.example/g00978/impl.errValue"], ifaces := true, apart := false, laid := [("loop.example/g00978/impl.errPage", laid_loop_example_g00978_impl_errPage), ("loop.example/g00978/impl.errWrite", laid_loop_example_g00978_impl_errWrite), ("loop.example/g00978/impl.errValue", laid_loop_example_g00978_impl_errValue)], narrowed := true }
def FnExactLoadUptoSaid : Prop := fnExactLoadUptoRow.holds Tryd.pinned (OpenSpec.upto fnExactLoadSpec)

/-- 'laws.FnExactStore', WHERE WHAT IT READS IS OF BULK AT MOST 1048576: true; the input reads as it did. -/
def fnExactStoreUptoRow : OpenClaim := { program := "ytkmkpjpopobdbaadoor", sum := "d0769adea068373123845236929d334e5e5452dfe9540f0a22a9c847adef5e09", func := "loop.example/g00978/laws.FnExactStore", spec := "fnExactStore", inPlace := ["internal/reflectlite.TypeOf"], unfollowed := true, recurses := true, named := ["loop.example/g00978/impl.errWrite", "loop.example/g00978/impl.errValue", "loop.example/g00978/impl.errPage"], ifaces := true, apart := false, laid := [("loop.example/g00978/impl.errPage", laid_loop_example_g00978_impl_errPage), ("loop.example/g00978/impl.errWrite", laid_loop_example_g00978_impl_errWrite), ("loop.example/g00978/impl.errValue", laid_loop_example_g00978_impl_errValue)], narrowed := true }
def FnExactStoreUptoSaid : Prop := fnExactStoreUptoRow.holds Tryd.pinned (OpenSpec.upto fnExactStoreSpec)

/-- 'laws.FnExactPageText', WHERE WHAT IT READS IS OF BULK AT MOST 1048576: true; the input reads as it did. -/
def fnExactPageTextUptoRow : OpenClaim := { program := "ytkmkpjpopobdbaadoor", sum := "d0769adea068373123845236929d334e5e5452dfe9540f0a22a9c847adef5e09", func := "loop.example/g00978/laws.FnExactPageText", spec := "fnExactPageText", named := ["loop.example/g00978/impl.errPage"], ifaces := true, apart := false, laid := [("loop.example/g00978/impl.errPage", laid_loop_example_g00978_impl_errPage)], narrowed := true }
def FnExactPageTextUptoSaid : Prop := fnExactPageTextUptoRow.holds Tryd.pinned (OpenSpec.upto fnExactPageTextSpec)

end Rows
end Go.Proofs.YtkmkpjpopobdbaaDoor

/-
  No cell of these rows narrows 'for every input' (looked for: loops, veiled, ifaces, maps, wideKeys, modest, calm, conditions, laid).
  DERIVED. THE GIVEN ROWS OF THIS SEAT. 10 by the template 'for every input the law returns true; each argument reads behind the call as it read before'; 0 by the template 'total and deterministic' (their statements: YtcdmijnlpapjaaaTotals.lean).
  GIVEN WITH THE SEED: the statements are not yours to turn. If you find one false, say at which input.
  Laid BY PROGRAM, IN A SANDBOX (cutbox-rows.mjs): the forced cells as the released guide's own fill.sh prints them over the translation c3b1b2f9bde29d07… (all of the seat's roots in one cut). By AI agents, Wed Nov 11 2026. No macro, syntax, notation, axiom, sorry.
-/
import Derived.Test.YtcdmijnlpapjaaaChecked
import GoSem.Claim
import GoSem.ClaimJoined
import GoSem.ClaimMapViews
import Derived.JoinedTies
import Derived.KernelRfl
namespace Go.Proofs.Ytcdmijnlpapjaaa
/- THE CELL 'sum', in the pinned program and in every row, IS THE sha256 OF THE DUMP (.gsa) THAT YtcdmijnlpapjaaaProg.lean LOADS. Nothing in Lean hashes anything: it is a label: what it is worth is what the hold of that sum in a sandbox is worth. -/
noncomputable def Try.pinned : Pinned := { name := "ytcdmijnlpapjaaa", sum := "c3b1b2f9bde29d07d6a0b063a29f28324a9754836aa9f303362d53fd3b7fc5c0", checked := Try.checked }
namespace Rows
def none {H : Type} : Left H := { results := [], args := [] }

/-- 'laws.FnKernel': WHATEVER THE INPUT: true; the input reads as it did. -/
def fnKernelSpec : ChangeSpec := { name := "fnKernel", fn := fun _ => fun
  | [d] => { results := [.lit (.bool true)], args := [d] }
  | _ => none }
def fnKernelRow : OpenClaim := { program := "ytcdmijnlpapjaaa", sum := "c3b1b2f9bde29d07d6a0b063a29f28324a9754836aa9f303362d53fd3b7fc5c0", func := "loop.example/g00978/laws.FnKernel", spec := "fnKernel", unfollowed := true, recurses := true, apart := false }
def FnKernelSaid : Prop := fnKernelRow.holds Try.pinned (OpenSpec.ofChange fnKernelSpec)

/-- ITS FALSE NEIGHBOUR: 'it returns false'. Refute it at one input. -/
def fnKernelWrong : ChangeSpec := { name := "fnKernel", fn := fun _ => fun
  | [d] => { results := [.lit (.bool false)], args := [d] }
  | _ => none }
def FnKernelWrongFalsely : Prop := fnKernelRow.holds Try.pinned (OpenSpec.ofChange fnKernelWrong)

/-- 'laws.FnShared': WHATEVER THE INPUT: true; the input reads as it did. -/
def fnSharedSpec : ChangeSpec := { name := "fnShared", fn := fun _ => fun
  | [d] => { results := [.lit (.bool true)], args := [d] }
  | _ => none }
def fnSharedRow : OpenClaim := { program := "ytcdmijnlpapjaaa", sum := "c3b1b2f9bde29d07d6a0b063a29f28324a9754836aa9f303362d53fd3b7fc5c0", func := "loop.example/g00978/laws.FnShared", spec := "fnShared", unfollowed := true, recurses := true, apart := false }
def FnSharedSaid : Prop := fnSharedRow.holds Try.pinned (OpenSpec.ofChange fnSharedSpec)

/-- ITS FALSE NEIGHBOUR: 'it returns false'. Refute it at one input. -/
def fnSharedWrong : ChangeSpec := { name := "fnShared", fn := fun _ => fun
  | [d] => { results := [.lit (.bool false)], args := [d] }
  | _ => none }
def FnSharedWrongFalsely : Prop := fnSharedRow.holds Try.pinned (OpenSpec.ofChange fnSharedWrong)

/-- 'laws.FnCallNumbers': WHATEVER THE INPUT: true; the input reads as it did. -/
def fnCallNumbersSpec : ChangeSpec := { name := "fnCallNumbers", fn := fun _ => fun
  | [d] => { results := [.lit (.bool true)], args := [d] }
  | _ => none }
def fnCallNumbersRow : OpenClaim := { program := "ytcdmijnlpapjaaa", sum := "c3b1b2f9bde29d07d6a0b063a29f28324a9754836aa9f303362d53fd3b7fc5c0", func := "loop.example/g00978/laws.FnCallNumbers", spec := "fnCallNumbers", unfollowed := true, recurses := true, apart := false }
def FnCallNumbersSaid : Prop := fnCallNumbersRow.holds Try.pinned (OpenSpec.ofChange fnCallNumbersSpec)

/-- ITS FALSE NEIGHBOUR: 'it returns false'. Refute it at one input. -/
def fnCallNumbersWrong : ChangeSpec := { name := "fnCallNumbers", fn := fun _ => fun
  | [d] => { results := [.lit (.bool false)], args := [d] }
  | _ => none }
def FnCallNumbersWrongFalsely : Prop := fnCallNumbersRow.holds Try.pinned (OpenSpec.ofChange fnCallNumbersWrong)

/-- 'laws.FnExactKernelNew': WHATEVER THE INPUT: true; the input reads as it did. -/
def fnExactKernelNewSpec : ChangeSpec := { name := "fnExactKernelNew", fn := fun _ => fun
  | [d1, d2, d3] => { results := [.lit (.bool true)], args := [d1, d2, d3] }
  | _ => none }
def fnExactKernelNewRow : OpenClaim := { program := "ytcdmijnlpapjaaa", sum := "c3b1b2f9bde29d07d6a0b063a29f28324a9754836aa9f303362d53fd3b7fc5c0", func := "loop.example/g00978/laws.FnExactKernelNew", spec := "fnExactKernelNew", apart := false }
def FnExactKernelNewSaid : Prop := fnExactKernelNewRow.holds Try.pinned (OpenSpec.ofChange fnExactKernelNewSpec)

/-- ITS FALSE NEIGHBOUR: 'it returns false'. Refute it at one input. -/
def fnExactKernelNewWrong : ChangeSpec := { name := "fnExactKernelNew", fn := fun _ => fun
  | [d1, d2, d3] => { results := [.lit (.bool false)], args := [d1, d2, d3] }
  | _ => none }
def FnExactKernelNewWrongFalsely : Prop := fnExactKernelNewRow.holds Try.pinned (OpenSpec.ofChange fnExactKernelNewWrong)

/-- 'laws.FnExactKernelOk': WHATEVER THE INPUT: true; the input reads as it did. -/
def fnExactKernelOkSpec : ChangeSpec := { name := "fnExactKernelOk", fn := fun _ => fun
  | [d] => { results := [.lit (.bool true)], args := [d] }
  | _ => none }
def fnExactKernelOkRow : OpenClaim := { program := "ytcdmijnlpapjaaa", sum := "c3b1b2f9bde29d07d6a0b063a29f28324a9754836aa9f303362d53fd3b7fc5c0", func := "loop.example/g00978/laws.FnExactKernelOk", spec := "fnExactKernelOk", apart := false }
def FnExactKernelOkSaid : Prop := fnExactKernelOkRow.holds Try.pinned (OpenSpec.ofChange fnExactKernelOkSpec)

/-- ITS FALSE NEIGHBOUR: 'it returns false'. Refute it at one input. -/
def fnExactKernelOkWrong : ChangeSpec := { name := "fnExactKernelOk", fn := fun _ => fun
  | [d] => { results := [.lit (.bool false)], args := [d] }
  | _ => none }
def FnExactKernelOkWrongFalsely : Prop := fnExactKernelOkRow.holds Try.pinned (OpenSpec.ofChange fnExactKernelOkWrong)

/-- 'laws.FnExactKMapNew': WHATEVER THE INPUT: true; the input reads as it did. -/
def fnExactKMapNewSpec : ChangeSpec := { name := "fnExactKMapNew", fn := fun _ => fun
  | [d1, d2] => { results := [.lit (.bool true)], args := [d1, d2] }
  | _ => none }
def fnExactKMapNewRow : OpenClaim := { program := "ytcdmijnlpapjaaa", sum := "c3b1b2f9bde29d07d6a0b063a29f28324a9754836aa9f303362d53fd3b7fc5c0", func := "loop.example/g00978/laws.FnExactKMapNew", spec := "fnExactKMapNew", unfollowed := true, recurses := true, apart := false }
def FnExactKMapNewSaid : Prop := fnExactKMapNewRow.holds Try.pinned (OpenSpec.ofChange fnExactKMapNewSpec)

/-- ITS FALSE NEIGHBOUR: 'it returns false'. Refute it at one input. -/
def fnExactKMapNewWrong : ChangeSpec := { name := "fnExactKMapNew", fn := fun _ => fun
  | [d1, d2] => { results := [.lit (.bool false)], args := [d1, d2] }
  | _ => none }
def FnExactKMapNewWrongFalsely : Prop := fnExactKMapNewRow.holds Try.pinned (OpenSpec.ofChange fnExactKMapNewWrong)

/-- 'laws.FnExactKMapOn': WHATEVER THE INPUT: true; the input reads as it did. -/
def fnExactKMapOnSpec : ChangeSpec := { name := "fnExactKMapOn", fn := fun _ => fun
  | [d1, d2, d3] => { results := [.lit (.bool true)], args := [d1, d2, d3] }
  | _ => none }
def fnExactKMapOnRow : OpenClaim := { program := "ytcdmijnlpapjaaa", sum := "c3b1b2f9bde29d07d6a0b063a29f28324a9754836aa9f303362d53fd3b7fc5c0", func := "loop.example/g00978/laws.FnExactKMapOn", spec := "fnExactKMapOn", unfollowed := true, recurses := true, apart := false }
def FnExactKMapOnSaid : Prop := fnExactKMapOnRow.holds Try.pinned (OpenSpec.ofChange fnExactKMapOnSpec)

/-- ITS FALSE NEIGHBOUR: 'it returns false'. Refute it at one input. -/
def fnExactKMapOnWrong : ChangeSpec := { name := "fnExactKMapOn", fn := fun _ => fun
  | [d1, d2, d3] => { results := [.lit (.bool false)], args := [d1, d2, d3] }
  | _ => none }
def FnExactKMapOnWrongFalsely : Prop := fnExactKMapOnRow.holds Try.pinned (OpenSpec.ofChange fnExactKMapOnWrong)

/-- 'laws.FnExactKProtect': WHATEVER THE INPUT: true; the input reads as it did. -/
def fnExactKProtectSpec : ChangeSpec := { name := "fnExactKProtect", fn := fun _ => fun
  | [d1, d2, d3] => { results := [.lit (.bool true)], args := [d1, d2, d3] }
  | _ => none }
def fnExactKProtectRow : OpenClaim := { program := "ytcdmijnlpapjaaa", sum := "c3b1b2f9bde29d07d6a0b063a29f28324a9754836aa9f303362d53fd3b7fc5c0", func := "loop.example/g00978/laws.FnExactKProtect", spec := "fnExactKProtect", unfollowed := true, recurses := true, apart := false }
def FnExactKProtectSaid : Prop := fnExactKProtectRow.holds Try.pinned (OpenSpec.ofChange fnExactKProtectSpec)

/-- ITS FALSE NEIGHBOUR: 'it returns false'. Refute it at one input. -/
def fnExactKProtectWrong : ChangeSpec := { name := "fnExactKProtect", fn := fun _ => fun
  | [d1, d2, d3] => { results := [.lit (.bool false)], args := [d1, d2, d3] }
  | _ => none }
def FnExactKProtectWrongFalsely : Prop := fnExactKProtectRow.holds Try.pinned (OpenSpec.ofChange fnExactKProtectWrong)

/-- 'laws.FnExactKUnmap': WHATEVER THE INPUT: true; the input reads as it did. -/
def fnExactKUnmapSpec : ChangeSpec := { name := "fnExactKUnmap", fn := fun _ => fun
  | [d1, d2] => { results := [.lit (.bool true)], args := [d1, d2] }
  | _ => none }
def fnExactKUnmapRow : OpenClaim := { program := "ytcdmijnlpapjaaa", sum := "c3b1b2f9bde29d07d6a0b063a29f28324a9754836aa9f303362d53fd3b7fc5c0", func := "loop.example/g00978/laws.FnExactKUnmap", spec := "fnExactKUnmap", apart := false }
def FnExactKUnmapSaid : Prop := fnExactKUnmapRow.holds Try.pinned (OpenSpec.ofChange fnExactKUnmapSpec)

/-- ITS FALSE NEIGHBOUR: 'it returns false'. Refute it at one input. -/
def fnExactKUnmapWrong : ChangeSpec := { name := "fnExactKUnmap", fn := fun _ => fun
  | [d1, d2] => { results := [.lit (.bool false)], args := [d1, d2] }
  | _ => none }
def FnExactKUnmapWrongFalsely : Prop := fnExactKUnmapRow.holds Try.pinned (OpenSpec.ofChange fnExactKUnmapWrong)

/-- 'laws.FnExactKCopy': WHATEVER THE INPUT: true; the input reads as it did. -/
def fnExactKCopySpec : ChangeSpec := { name := "fnExactKCopy", fn := fun _ => fun
  | [d1, d2, d3, d4] => { results := [.lit (.bool true)], args := [d1, d2, d3, d4] }
  | _ => none }
def fnExactKCopyRow : OpenClaim := { program := "ytcdmijnlpapjaaa", sum := "c3b1b2f9bde29d07d6a0b063a29f28324a9754836aa9f303362d53fd3b7fc5c0", func := "loop.example/g00978/laws.FnExactKCopy", spec := "fnExactKCopy", apart := false }
def FnExactKCopySaid : Prop := fnExactKCopyRow.holds Try.pinned (OpenSpec.ofChange fnExactKCopySpec)

/-- ITS FALSE NEIGHBOUR: 'it returns false'. Refute it at one input. -/
def fnExactKCopyWrong : ChangeSpec := { name := "fnExactKCopy", fn := fun _ => fun
  | [d1, d2, d3, d4] => { results := [.lit (.bool false)], args := [d1, d2, d3, d4] }
  | _ => none }
def FnExactKCopyWrongFalsely : Prop := fnExactKCopyRow.holds Try.pinned (OpenSpec.ofChange fnExactKCopyWrong)

/- THE SECOND FORM. 'bulk': how many values and letters a reading holds, each counted each time it is reached (what is shared counts as often as it is met; a slice's spare places count too). A statement '..UptoSaid' is the law's where the arguments, and the package variables that the reading takes, are together of bulk at most 1048576: NARROWER than '..Said'. Prove '..Said' where nothing that the law and all that it calls make is longer than what came in: it says more and counts as full. Else prove '..UptoSaid'. A law counts once. -/
mutual
def uptoBulk {H : Type} : DataW H → Nat
  | .lit (.string bytes) => bytes.length + 1
  | .lit _ => 1
  | .nil => 1
  | .ptr d => uptoBulk d + 1
  | .slice elems spare => uptoBulkAll elems + uptoBulkAll spare + 1
  | .agg parts => uptoBulkAll parts + 1
  | .iface _ d => uptoBulk d + 1
  | .map entries => uptoBulkEntries entries + 1
  | .held _ => 1
def uptoBulkAll {H : Type} : List (DataW H) → Nat
  | [] => 0
  | d :: r => uptoBulk d + uptoBulkAll r
def uptoBulkEntries {H : Type} : List (Lit × DataW H) → Nat
  | [] => 0
  | x :: r => uptoBulkEntry x + uptoBulkEntries r
def uptoBulkEntry {H : Type} : Lit × DataW H → Nat
  | (.string bytes, d) => bytes.length + uptoBulk d + 1
  | (_, d) => uptoBulk d + 1
 end
def uptoSmall : (H : Type) → List (DataW H) → Bool := fun _ ds => decide (uptoBulkAll ds ≤ 1048576)
def OpenSpec.upto (s : _root_.Go.ChangeSpec) : _root_.Go.OpenSpec := { _root_.Go.OpenSpec.ofChange s with cond := some uptoSmall }

/-- 'laws.FnKernel', WHERE WHAT IT READS IS OF BULK AT MOST 1048576: true; the input reads as it did. -/
def fnKernelUptoRow : OpenClaim := { program := "ytcdmijnlpapjaaa", sum := "c3b1b2f9bde29d07d6a0b063a29f28324a9754836aa9f303362d53fd3b7fc5c0", func := "loop.example/g00978/laws.FnKernel", spec := "fnKernel", unfollowed := true, recurses := true, apart := false, narrowed := true }
def FnKernelUptoSaid : Prop := fnKernelUptoRow.holds Try.pinned (OpenSpec.upto fnKernelSpec)

/-- 'laws.FnShared', WHERE WHAT IT READS IS OF BULK AT MOST 1048576: true; the input reads as it did. -/
def fnSharedUptoRow : OpenClaim := { program := "ytcdmijnlpapjaaa", sum := "c3b1b2f9bde29d07d6a0b063a29f28324a9754836aa9f303362d53fd3b7fc5c0", func := "loop.example/g00978/laws.FnShared", spec := "fnShared", unfollowed := true, recurses := true, apart := false, narrowed := true }
def FnSharedUptoSaid : Prop := fnSharedUptoRow.holds Try.pinned (OpenSpec.upto fnSharedSpec)

/-- 'laws.FnCallNumbers', WHERE WHAT IT READS IS OF BULK AT MOST 1048576: true; the input reads as it did. -/
def fnCallNumbersUptoRow : OpenClaim := { program := "ytcdmijnlpapjaaa", sum := "c3b1b2f9bde29d07d6a0b063a29f28324a9754836aa9f303362d53fd3b7fc5c0", func := "loop.example/g00978/laws.FnCallNumbers", spec := "fnCallNumbers", unfollowed := true, recurses := true, apart := false, narrowed := true }
def FnCallNumbersUptoSaid : Prop := fnCallNumbersUptoRow.holds Try.pinned (OpenSpec.upto fnCallNumbersSpec)

/-- 'laws.FnExactKernelNew', WHERE WHAT IT READS IS OF BULK AT MOST 1048576: true; the input reads as it did. -/
def fnExactKernelNewUptoRow : OpenClaim := { program := "ytcdmijnlpapjaaa", sum := "c3b1b2f9bde29d07d6a0b063a29f28324a9754836aa9f303362d53fd3b7fc5c0", func := "loop.example/g00978/laws.FnExactKernelNew", spec := "fnExactKernelNew", apart := false, narrowed := true }
def FnExactKernelNewUptoSaid : Prop := fnExactKernelNewUptoRow.holds Try.pinned (OpenSpec.upto fnExactKernelNewSpec)

/-- 'laws.FnExactKernelOk', WHERE WHAT IT READS IS OF BULK AT MOST 1048576: true; the input reads as it did. -/
def fnExactKernelOkUptoRow : OpenClaim := { program := "ytcdmijnlpapjaaa", sum := "c3b1b2f9bde29d07d6a0b063a29f28324a9754836aa9f303362d53fd3b7fc5c0", func := "loop.example/g00978/laws.FnExactKernelOk", spec := "fnExactKernelOk", apart := false, narrowed := true }
def FnExactKernelOkUptoSaid : Prop := fnExactKernelOkUptoRow.holds Try.pinned (OpenSpec.upto fnExactKernelOkSpec)

/-- 'laws.FnExactKMapNew', WHERE WHAT IT READS IS OF BULK AT MOST 1048576: true; the input reads as it did. -/
def fnExactKMapNewUptoRow : OpenClaim := { program := "ytcdmijnlpapjaaa", sum := "c3b1b2f9bde29d07d6a0b063a29f28324a9754836aa9f303362d53fd3b7fc5c0", func := "loop.example/g00978/laws.FnExactKMapNew", spec := "fnExactKMapNew", unfollowed := true, recurses := true, apart := false, narrowed := true }
def FnExactKMapNewUptoSaid : Prop := fnExactKMapNewUptoRow.holds Try.pinned (OpenSpec.upto fnExactKMapNewSpec)

/-- 'laws.FnExactKMapOn', WHERE WHAT IT READS IS OF BULK AT MOST 1048576: true; the input reads as it did. -/
def fnExactKMapOnUptoRow : OpenClaim := { program := "ytcdmijnlpapjaaa", sum := "c3b1b2f9bde29d07d6a0b063a29f28324a9754836aa9f303362d53fd3b7fc5c0", func := "loop.example/g00978/laws.FnExactKMapOn", spec := "fnExactKMapOn", unfollowed := true, recurses := true, apart := false, narrowed := true }
def FnExactKMapOnUptoSaid : Prop := fnExactKMapOnUptoRow.holds Try.pinned (OpenSpec.upto fnExactKMapOnSpec)

/-- 'laws.FnExactKProtect', WHERE WHAT IT READS IS OF BULK AT MOST 1048576: true; the input reads as it did. -/
def fnExactKProtectUptoRow : OpenClaim := { program := "ytcdmijnlpapjaaa", sum := "c3b1b2f9bde29d07d6a0b063a29f28324a9754836aa9f303362d53fd3b7fc5c0", func := "loop.example/g00978/laws.FnExactKProtect", spec := "fnExactKProtect", unfollowed := true, recurses := true, apart := false, narrowed := true }
def FnExactKProtectUptoSaid : Prop := fnExactKProtectUptoRow.holds Try.pinned (OpenSpec.upto fnExactKProtectSpec)

/-- 'laws.FnExactKUnmap', WHERE WHAT IT READS IS OF BULK AT MOST 1048576: true; the input reads as it did. -/
def fnExactKUnmapUptoRow : OpenClaim := { program := "ytcdmijnlpapjaaa", sum := "c3b1b2f9bde29d07d6a0b063a29f28324a9754836aa9f303362d53fd3b7fc5c0", func := "loop.example/g00978/laws.FnExactKUnmap", spec := "fnExactKUnmap", apart := false, narrowed := true }
def FnExactKUnmapUptoSaid : Prop := fnExactKUnmapUptoRow.holds Try.pinned (OpenSpec.upto fnExactKUnmapSpec)

/-- 'laws.FnExactKCopy', WHERE WHAT IT READS IS OF BULK AT MOST 1048576: true; the input reads as it did. -/
def fnExactKCopyUptoRow : OpenClaim := { program := "ytcdmijnlpapjaaa", sum := "c3b1b2f9bde29d07d6a0b063a29f28324a9754836aa9f303362d53fd3b7fc5c0", func := "loop.example/g00978/laws.FnExactKCopy", spec := "fnExactKCopy", apart := false, narrowed := true }
def FnExactKCopyUptoSaid : Prop := fnExactKCopyUptoRow.holds Try.pinned (OpenSpec.upto fnExactKCopySpec)

end Rows
end Go.Proofs.Ytcdmijnlpapjaaa

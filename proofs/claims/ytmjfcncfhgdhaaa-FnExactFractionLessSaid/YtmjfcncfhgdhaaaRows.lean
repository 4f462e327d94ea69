/-
  No cell of these rows narrows 'for every input' (looked for: loops, veiled, ifaces, maps, wideKeys, modest, calm, conditions, laid).
  DERIVED. THE GIVEN ROWS OF THIS SEAT. 8 by the template 'for every input the law returns true; each argument reads behind the call as it read before'; 0 by the template 'total and deterministic' (their statements: YtmjfcncfhgdhaaaTotals.lean).
  GIVEN WITH THE SEED: the statements are not yours to turn. If you find one false, say at which input.
  Laid BY PROGRAM, IN A SANDBOX (cutbox-rows.mjs): the forced cells as the released guide's own fill.sh prints them over the translation 9b2e94766b245ce9… (all of the seat's roots in one cut). By AI agents, Wed Nov 11 2026. No macro, syntax, notation, axiom, sorry.
-/
import Derived.Test.YtmjfcncfhgdhaaaChecked
import GoSem.Claim
import GoSem.ClaimJoined
import GoSem.ClaimMapViews
import Derived.JoinedTies
import Derived.KernelRfl
namespace Go.Proofs.Ytmjfcncfhgdhaaa
/- THE CELL 'sum', in the pinned program and in every row, IS THE sha256 OF THE DUMP (.gsa) THAT YtmjfcncfhgdhaaaProg.lean LOADS. Nothing in Lean hashes anything: it is a label: what it is worth is what the hold of that sum in a sandbox is worth. -/
noncomputable def Try.pinned : Pinned := { name := "ytmjfcncfhgdhaaa", sum := "9b2e94766b245ce903c609f5e39718c0fdfc07292dd894eac623084e5110a500", checked := Try.checked }
namespace Rows
def none {H : Type} : Left H := { results := [], args := [] }

/-- 'laws.FnChance': WHATEVER THE INPUT: true; the input reads as it did. -/
def fnChanceSpec : ChangeSpec := { name := "fnChance", fn := fun _ => fun
  | [d] => { results := [.lit (.bool true)], args := [d] }
  | _ => none }
def fnChanceRow : OpenClaim := { program := "ytmjfcncfhgdhaaa", sum := "9b2e94766b245ce903c609f5e39718c0fdfc07292dd894eac623084e5110a500", func := "loop.example/g00978/laws.FnChance", spec := "fnChance", apart := false }
def FnChanceSaid : Prop := fnChanceRow.holds Try.pinned (OpenSpec.ofChange fnChanceSpec)

/-- ITS FALSE NEIGHBOUR: 'it returns false'. Refute it at one input. -/
def fnChanceWrong : ChangeSpec := { name := "fnChance", fn := fun _ => fun
  | [d] => { results := [.lit (.bool false)], args := [d] }
  | _ => none }
def FnChanceWrongFalsely : Prop := fnChanceRow.holds Try.pinned (OpenSpec.ofChange fnChanceWrong)

/-- 'laws.FnFractions': WHATEVER THE INPUT: true; the input reads as it did. -/
def fnFractionsSpec : ChangeSpec := { name := "fnFractions", fn := fun _ => fun
  | [d] => { results := [.lit (.bool true)], args := [d] }
  | _ => none }
def fnFractionsRow : OpenClaim := { program := "ytmjfcncfhgdhaaa", sum := "9b2e94766b245ce903c609f5e39718c0fdfc07292dd894eac623084e5110a500", func := "loop.example/g00978/laws.FnFractions", spec := "fnFractions", apart := false }
def FnFractionsSaid : Prop := fnFractionsRow.holds Try.pinned (OpenSpec.ofChange fnFractionsSpec)

/-- ITS FALSE NEIGHBOUR: 'it returns false'. Refute it at one input. -/
def fnFractionsWrong : ChangeSpec := { name := "fnFractions", fn := fun _ => fun
  | [d] => { results := [.lit (.bool false)], args := [d] }
  | _ => none }
def FnFractionsWrongFalsely : Prop := fnFractionsRow.holds Try.pinned (OpenSpec.ofChange fnFractionsWrong)

/-- 'laws.FnPascal': WHATEVER THE INPUT: true; the input reads as it did. -/
def fnPascalSpec : ChangeSpec := { name := "fnPascal", fn := fun _ => fun
  | [d] => { results := [.lit (.bool true)], args := [d] }
  | _ => none }
def fnPascalRow : OpenClaim := { program := "ytmjfcncfhgdhaaa", sum := "9b2e94766b245ce903c609f5e39718c0fdfc07292dd894eac623084e5110a500", func := "loop.example/g00978/laws.FnPascal", spec := "fnPascal", apart := false }
def FnPascalSaid : Prop := fnPascalRow.holds Try.pinned (OpenSpec.ofChange fnPascalSpec)

/-- ITS FALSE NEIGHBOUR: 'it returns false'. Refute it at one input. -/
def fnPascalWrong : ChangeSpec := { name := "fnPascal", fn := fun _ => fun
  | [d] => { results := [.lit (.bool false)], args := [d] }
  | _ => none }
def FnPascalWrongFalsely : Prop := fnPascalRow.holds Try.pinned (OpenSpec.ofChange fnPascalWrong)

/-- 'laws.FnExactBinomial': WHATEVER THE INPUT: true; the input reads as it did. -/
def fnExactBinomialSpec : ChangeSpec := { name := "fnExactBinomial", fn := fun _ => fun
  | [d1, d2] => { results := [.lit (.bool true)], args := [d1, d2] }
  | _ => none }
def fnExactBinomialRow : OpenClaim := { program := "ytmjfcncfhgdhaaa", sum := "9b2e94766b245ce903c609f5e39718c0fdfc07292dd894eac623084e5110a500", func := "loop.example/g00978/laws.FnExactBinomial", spec := "fnExactBinomial", apart := false }
def FnExactBinomialSaid : Prop := fnExactBinomialRow.holds Try.pinned (OpenSpec.ofChange fnExactBinomialSpec)

/-- ITS FALSE NEIGHBOUR: 'it returns false'. Refute it at one input. -/
def fnExactBinomialWrong : ChangeSpec := { name := "fnExactBinomial", fn := fun _ => fun
  | [d1, d2] => { results := [.lit (.bool false)], args := [d1, d2] }
  | _ => none }
def FnExactBinomialWrongFalsely : Prop := fnExactBinomialRow.holds Try.pinned (OpenSpec.ofChange fnExactBinomialWrong)

/-- 'laws.FnExactReduced': WHATEVER THE INPUT: true; the input reads as it did. -/
def fnExactReducedSpec : ChangeSpec := { name := "fnExactReduced", fn := fun _ => fun
  | [d] => { results := [.lit (.bool true)], args := [d] }
  | _ => none }
def fnExactReducedRow : OpenClaim := { program := "ytmjfcncfhgdhaaa", sum := "9b2e94766b245ce903c609f5e39718c0fdfc07292dd894eac623084e5110a500", func := "loop.example/g00978/laws.FnExactReduced", spec := "fnExactReduced", apart := false }
def FnExactReducedSaid : Prop := fnExactReducedRow.holds Try.pinned (OpenSpec.ofChange fnExactReducedSpec)

/-- ITS FALSE NEIGHBOUR: 'it returns false'. Refute it at one input. -/
def fnExactReducedWrong : ChangeSpec := { name := "fnExactReduced", fn := fun _ => fun
  | [d] => { results := [.lit (.bool false)], args := [d] }
  | _ => none }
def FnExactReducedWrongFalsely : Prop := fnExactReducedRow.holds Try.pinned (OpenSpec.ofChange fnExactReducedWrong)

/-- 'laws.FnExactMeshChance': WHATEVER THE INPUT: true; the input reads as it did. -/
def fnExactMeshChanceSpec : ChangeSpec := { name := "fnExactMeshChance", fn := fun _ => fun
  | [d1, d2, d3] => { results := [.lit (.bool true)], args := [d1, d2, d3] }
  | _ => none }
def fnExactMeshChanceRow : OpenClaim := { program := "ytmjfcncfhgdhaaa", sum := "9b2e94766b245ce903c609f5e39718c0fdfc07292dd894eac623084e5110a500", func := "loop.example/g00978/laws.FnExactMeshChance", spec := "fnExactMeshChance", apart := false }
def FnExactMeshChanceSaid : Prop := fnExactMeshChanceRow.holds Try.pinned (OpenSpec.ofChange fnExactMeshChanceSpec)

/-- ITS FALSE NEIGHBOUR: 'it returns false'. Refute it at one input. -/
def fnExactMeshChanceWrong : ChangeSpec := { name := "fnExactMeshChance", fn := fun _ => fun
  | [d1, d2, d3] => { results := [.lit (.bool false)], args := [d1, d2, d3] }
  | _ => none }
def FnExactMeshChanceWrongFalsely : Prop := fnExactMeshChanceRow.holds Try.pinned (OpenSpec.ofChange fnExactMeshChanceWrong)

/-- 'laws.FnExactCountDisjoint': WHATEVER THE INPUT: true; the input reads as it did. -/
def fnExactCountDisjointSpec : ChangeSpec := { name := "fnExactCountDisjoint", fn := fun _ => fun
  | [d1, d2, d3] => { results := [.lit (.bool true)], args := [d1, d2, d3] }
  | _ => none }
def fnExactCountDisjointRow : OpenClaim := { program := "ytmjfcncfhgdhaaa", sum := "9b2e94766b245ce903c609f5e39718c0fdfc07292dd894eac623084e5110a500", func := "loop.example/g00978/laws.FnExactCountDisjoint", spec := "fnExactCountDisjoint", apart := false }
def FnExactCountDisjointSaid : Prop := fnExactCountDisjointRow.holds Try.pinned (OpenSpec.ofChange fnExactCountDisjointSpec)

/-- ITS FALSE NEIGHBOUR: 'it returns false'. Refute it at one input. -/
def fnExactCountDisjointWrong : ChangeSpec := { name := "fnExactCountDisjoint", fn := fun _ => fun
  | [d1, d2, d3] => { results := [.lit (.bool false)], args := [d1, d2, d3] }
  | _ => none }
def FnExactCountDisjointWrongFalsely : Prop := fnExactCountDisjointRow.holds Try.pinned (OpenSpec.ofChange fnExactCountDisjointWrong)

/-- 'laws.FnExactFractionLess': WHATEVER THE INPUT: true; the input reads as it did. -/
def fnExactFractionLessSpec : ChangeSpec := { name := "fnExactFractionLess", fn := fun _ => fun
  | [d1, d2] => { results := [.lit (.bool true)], args := [d1, d2] }
  | _ => none }
def fnExactFractionLessRow : OpenClaim := { program := "ytmjfcncfhgdhaaa", sum := "9b2e94766b245ce903c609f5e39718c0fdfc07292dd894eac623084e5110a500", func := "loop.example/g00978/laws.FnExactFractionLess", spec := "fnExactFractionLess", apart := false }
def FnExactFractionLessSaid : Prop := fnExactFractionLessRow.holds Try.pinned (OpenSpec.ofChange fnExactFractionLessSpec)

/-- ITS FALSE NEIGHBOUR: 'it returns false'. Refute it at one input. -/
def fnExactFractionLessWrong : ChangeSpec := { name := "fnExactFractionLess", fn := fun _ => fun
  | [d1, d2] => { results := [.lit (.bool false)], args := [d1, d2] }
  | _ => none }
def FnExactFractionLessWrongFalsely : Prop := fnExactFractionLessRow.holds Try.pinned (OpenSpec.ofChange fnExactFractionLessWrong)

/- THE SECOND FORM. 'bulk': how many values and letters a reading holds, each counted each time it is reached (what is shared counts as often as it is met; a slice's spare places count too). A statement '..UptoSaid' is the law's where the arguments, and the package variables that the reading takes, are together of bulk at most 1048576: NARROWER than '..Said'. Prove '..Said' where nothing that the law and all that it calls make is longer than what came in: it says more and counts as full. Else prove '..UptoSaid'. A law counts once. -/
mutual
def uptoBulk {H : Type} : DataW H → Nat
  | .lit (.string bytes) => bytes.length + 1
  | .lit _ => 1
  | .nil => 1
  | .ptr d => uptoBulk d + 1
  | .slice elems spare => uptoBulkAll elems + uptoBulkAll spare + 1
  | .agg parts => uptoBulkAll parts + 1
  | .iface _ d => uptoBulk d + 1
  | .map entries => uptoBulkEntries entries + 1
  | .held _ => 1
def uptoBulkAll {H : Type} : List (DataW H) → Nat
  | [] => 0
  | d :: r => uptoBulk d + uptoBulkAll r
def uptoBulkEntries {H : Type} : List (Lit × DataW H) → Nat
  | [] => 0
  | x :: r => uptoBulkEntry x + uptoBulkEntries r
def uptoBulkEntry {H : Type} : Lit × DataW H → Nat
  | (.string bytes, d) => bytes.length + uptoBulk d + 1
  | (_, d) => uptoBulk d + 1
 end
def uptoSmall : (H : Type) → List (DataW H) → Bool := fun _ ds => decide (uptoBulkAll ds ≤ 1048576)
def OpenSpec.upto (s : _root_.Go.ChangeSpec) : _root_.Go.OpenSpec := { _root_.Go.OpenSpec.ofChange s with cond := some uptoSmall }

/-- 'laws.FnChance', WHERE WHAT IT READS IS OF BULK AT MOST 1048576: true; the input reads as it did. -/
def fnChanceUptoRow : OpenClaim := { program := "ytmjfcncfhgdhaaa", sum := "9b2e94766b245ce903c609f5e39718c0fdfc07292dd894eac623084e5110a500", func := "loop.example/g00978/laws.FnChance", spec := "fnChance", apart := false, narrowed := true }
def FnChanceUptoSaid : Prop := fnChanceUptoRow.holds Try.pinned (OpenSpec.upto fnChanceSpec)

/-- 'laws.FnFractions', WHERE WHAT IT READS IS OF BULK AT MOST 1048576: true; the input reads as it did. -/
def fnFractionsUptoRow : OpenClaim := { program := "ytmjfcncfhgdhaaa", sum := "9b2e94766b245ce903c609f5e39718c0fdfc07292dd894eac623084e5110a500", func := "loop.example/g00978/laws.FnFractions", spec := "fnFractions", apart := false, narrowed := true }
def FnFractionsUptoSaid : Prop := fnFractionsUptoRow.holds Try.pinned (OpenSpec.upto fnFractionsSpec)

/-- 'laws.FnPascal', WHERE WHAT IT READS IS OF BULK AT MOST 1048576: true; the input reads as it did. -/
def fnPascalUptoRow : OpenClaim := { program := "ytmjfcncfhgdhaaa", sum := "9b2e94766b245ce903c609f5e39718c0fdfc07292dd894eac623084e5110a500", func := "loop.example/g00978/laws.FnPascal", spec := "fnPascal", apart := false, narrowed := true }
def FnPascalUptoSaid : Prop := fnPascalUptoRow.holds Try.pinned (OpenSpec.upto fnPascalSpec)

/-- 'laws.FnExactBinomial', WHERE WHAT IT READS IS OF BULK AT MOST 1048576: true; the input reads as it did. -/
def fnExactBinomialUptoRow : OpenClaim := { program := "ytmjfcncfhgdhaaa", sum := "9b2e94766b245ce903c609f5e39718c0fdfc07292dd894eac623084e5110a500", func := "loop.example/g00978/laws.FnExactBinomial", spec := "fnExactBinomial", apart := false, narrowed := true }
def FnExactBinomialUptoSaid : Prop := fnExactBinomialUptoRow.holds Try.pinned (OpenSpec.upto fnExactBinomialSpec)

/-- 'laws.FnExactReduced', WHERE WHAT IT READS IS OF BULK AT MOST 1048576: true; the input reads as it did. -/
def fnExactReducedUptoRow : OpenClaim := { program := "ytmjfcncfhgdhaaa", sum := "9b2e94766b245ce903c609f5e39718c0fdfc07292dd894eac623084e5110a500", func := "loop.example/g00978/laws.FnExactReduced", spec := "fnExactReduced", apart := false, narrowed := true }
def FnExactReducedUptoSaid : Prop := fnExactReducedUptoRow.holds Try.pinned (OpenSpec.upto fnExactReducedSpec)

/-- 'laws.FnExactMeshChance', WHERE WHAT IT READS IS OF BULK AT MOST 1048576: true; the input reads as it did. -/
def fnExactMeshChanceUptoRow : OpenClaim := { program := "ytmjfcncfhgdhaaa", sum := "9b2e94766b245ce903c609f5e39718c0fdfc07292dd894eac623084e5110a500", func := "loop.example/g00978/laws.FnExactMeshChance", spec := "fnExactMeshChance", apart := false, narrowed := true }
def FnExactMeshChanceUptoSaid : Prop := fnExactMeshChanceUptoRow.holds Try.pinned (OpenSpec.upto fnExactMeshChanceSpec)

/-- 'laws.FnExactCountDisjoint', WHERE WHAT IT READS IS OF BULK AT MOST 1048576: true; the input reads as it did. -/
def fnExactCountDisjointUptoRow : OpenClaim := { program := "ytmjfcncfhgdhaaa", sum := "9b2e94766b245ce903c609f5e39718c0fdfc07292dd894eac623084e5110a500", func := "loop.example/g00978/laws.FnExactCountDisjoint", spec := "fnExactCountDisjoint", apart := false, narrowed := true }
def FnExactCountDisjointUptoSaid : Prop := fnExactCountDisjointUptoRow.holds Try.pinned (OpenSpec.upto fnExactCountDisjointSpec)

/-- 'laws.FnExactFractionLess', WHERE WHAT IT READS IS OF BULK AT MOST 1048576: true; the input reads as it did. -/
def fnExactFractionLessUptoRow : OpenClaim := { program := "ytmjfcncfhgdhaaa", sum := "9b2e94766b245ce903c609f5e39718c0fdfc07292dd894eac623084e5110a500", func := "loop.example/g00978/laws.FnExactFractionLess", spec := "fnExactFractionLess", apart := false, narrowed := true }
def FnExactFractionLessUptoSaid : Prop := fnExactFractionLessUptoRow.holds Try.pinned (OpenSpec.upto fnExactFractionLessSpec)

end Rows
end Go.Proofs.Ytmjfcncfhgdhaaa

/- Meshing step by step: jobs. No program. -/
import Derived.Test.YtlkkiopjknbomaaM13
namespace Go.Proofs.Ytlkkiopjknbomaa
open Go.RowKit
set_option linter.unusedVariables false
set_option linter.unusedSimpArgs false
namespace Tr
def okJ (j : GJob) : Prop := plOk j.Plan ∧ (0 ≤ j.Phase ∧ j.Phase ≤ 5) ∧ 0 ≤ j.Next ∧ j.Next ≤ (j.Plan.Cells.length : Int)
instance (j : GJob) : Decidable (okJ j) := by unfold okJ; infer_instance
def pJobOk (j : GJob) : Bool := decide (okJ j)
def noJ : GJob := ⟨⟨0, 0, []⟩, 0, 0⟩
def pJobNew (p : GPlan) : GJob × Bool := if plOk p then (⟨p, 0, 0⟩, true) else (noJ, false)
def pJobActive (j : GJob) : Bool := decide (okJ j ∧ 1 ≤ j.Phase ∧ j.Phase ≤ 3)
def overJ (j : GJob) : Prop := j.Phase = 4 ∨ j.Phase = 5
instance (j : GJob) : Decidable (overJ j) := by unfold overJ; infer_instance
end Tr
end Go.Proofs.Ytlkkiopjknbomaa

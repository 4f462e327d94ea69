/- Plans and jobs that came in, as what is read. -/
import Derived.Test.YtlkkiopjknbomaaELj
import Derived.Test.YtlkkiopjknbomaaEArg
namespace Go.Proofs.Ytlkkiopjknbomaa
open Go.RowKit
set_option linter.unusedVariables false
set_option linter.unusedSimpArgs false
namespace Eng
open Tr
theorem rarg_Pn {w : World} {x : GPlan} {c2 : Value} (h : Raw w (ePlan x) [.int .i64 x.Keep, .int .i64 x.Move, c2]) : SRel (cxOf w) noEnv (.agg [(CV.lit (.int .i64 (x.Keep))), (CV.lit (.int .i64 (x.Move))), ro 3 1 Tr.eI x.Cells]) (.agg #[.int .i64 x.Keep, .int .i64 x.Move, c2]) ∧ mxPn x := by
  have h := raw_tail h
  have h := raw_tail h
  have h2 := raw_head h
  exact ⟨⟨_, rfl, raw_lit rfl, raw_lit rfl, raw_ro (by decide) (fun _ => trivial) h2.1, trivial⟩, ⟨raw_max h2.1⟩⟩
theorem rarg_J {w : World} {x : GJob} {c2 : Value} (h : Raw w (eJob x) [.int .i64 x.Plan.Keep, .int .i64 x.Plan.Move, c2, .int .i64 x.Phase, .int .i64 x.Next]) : SRel (cxOf w) noEnv (.agg [(CV.lit (.int .i64 (x.Plan.Keep))), (CV.lit (.int .i64 (x.Plan.Move))), ro 3 1 Tr.eI x.Plan.Cells, (CV.lit (.int .i64 (x.Phase))), (CV.lit (.int .i64 (x.Next)))]) (.agg #[.int .i64 x.Plan.Keep, .int .i64 x.Plan.Move, c2, .int .i64 x.Phase, .int .i64 x.Next]) ∧ mxJ x := by
  have h := raw_tail h
  have h := raw_tail h
  have h2 := raw_head h
  exact ⟨⟨_, rfl, raw_lit rfl, raw_lit rfl, raw_ro (by decide) (fun _ => trivial) h2.1, raw_lit rfl, raw_lit rfl, trivial⟩, ⟨⟨raw_max h2.1⟩⟩⟩
end Eng
end Go.Proofs.Ytlkkiopjknbomaa

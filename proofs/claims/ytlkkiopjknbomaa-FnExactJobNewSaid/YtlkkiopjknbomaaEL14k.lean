/- Meshing step by step: exact laws on jobs, at the functions. -/
import Derived.Test.YtlkkiopjknbomaaEL14j
import Derived.Test.YtlkkiopjknbomaaELaJ
import Derived.Test.YtlkkiopjknbomaaE14j
import Derived.Test.YtlkkiopjknbomaaEI14j
namespace Go.Proofs.Ytlkkiopjknbomaa
open Go.RowKit
set_option linter.unusedVariables false
set_option linter.unusedSimpArgs false
namespace Eng
open Tr
theorem fn_LJobNew (x0 : GPlan) (hm : mxPn x0) : Fn Try.prog (c_XJobNew [] x0) := by
  by_cases hs : smPn x0
  · have hl : (pJobNew x0).1.Plan.Cells.length ≤ 1048576 := by
      have := hs.hCells
      unfold pJobNew
      split
      · exact this
      · exact Nat.zero_le _
    exact fn_XJobNew [] x0 (pJobNew x0).1 (pJobNew x0).2 hm ⟨⟨hl⟩⟩ (by show (pJobNew x0).1.Plan.Cells.length ≤ 50000000; omega) (fun h => fn_JobNewS x0 h.hCells) (fun h => fn_JobNewI x0 h.hCells)
  · exact fn_XJobNew [] x0 noJ false hm ⟨⟨by decide⟩⟩ (by decide) (fun h => absurd h hs) (fun h => absurd h hs)
theorem fn_LJobOk (x0 : GJob) (hm : mxJ x0) : Fn Try.prog (c_XJobOk [] x0) :=
  fn_XJobOk [] x0 (pJobOk x0) hm (fun h => fn_JobOkS x0 h.hPlan.hCells) (fun h => fn_JobOkI x0 h.hPlan.hCells)
theorem fn_LJobAct (x0 : GJob) (hm : mxJ x0) : Fn Try.prog (c_XJobActive [] x0) :=
  fn_XJobActive [] x0 (pJobActive x0) hm (fun h => fn_ActS x0 h.hPlan.hCells) (fun h => fn_ActI x0 h.hPlan.hCells)
end Eng
end Go.Proofs.Ytlkkiopjknbomaa

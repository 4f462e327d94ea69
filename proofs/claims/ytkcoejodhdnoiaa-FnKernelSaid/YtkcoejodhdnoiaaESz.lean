/- How large a valid kernel is, for the symbolic run. -/
import Derived.Test.YtkcoejodhdnoiaaEI08
namespace Go.Proofs.Ytkcoejodhdnoiaa
open Go.RowKit
set_option linter.unusedVariables false
namespace Eng
open Tr
theorem okF_sz {f : GFrames} (h : okF f) : f.Cells.length ≤ 32 ∧ f.Used.length ≤ 32 ∧ ∀ r ∈ f.Cells, r.length ≤ 16 := by
  refine ⟨h.1.2, by have := h.1.2; have := h.2.1; omega, fun r hr => ?_⟩
  obtain ⟨i, hi⟩ := List.getElem?_of_mem hr
  have hl := (List.getElem?_eq_some_iff.1 hi).1
  have hu : f.Used[i]? = some (f.Used.getD i false) := getD_at (by have := h.2.1; omega)
  have := h.2.2 _ (List.mem_of_getElem? (zip_at hi hu))
  have := this.1
  show r.length ≤ 16
  simp only at this
  omega
theorem okK_sz {k : GKernel} (h : okK k) : szK k := by
  obtain ⟨h1, h2, h3⟩ := okF_sz h.1.1
  have h4 := h.1.2.1
  unfold pTableOk at h4
  have h5 := of_decide_eq_true h4
  exact ⟨⟨by omega, by omega, fun r hr => by have := h3 r hr; omega, by omega⟩, by have := h.2.2.2; omega⟩
end Eng
end Go.Proofs.Ytkcoejodhdnoiaa

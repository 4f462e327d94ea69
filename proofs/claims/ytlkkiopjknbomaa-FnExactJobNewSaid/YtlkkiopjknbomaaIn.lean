/- The arguments' types, opened. -/
import Derived.Test.YtlkkiopjknbomaaEnc
import Derived.Test.YtlkkiopjknbomaaTreeIn
import Derived.KernelRfl
namespace Go.Proofs.Ytlkkiopjknbomaa
open Go.RowKit Go.ChangeShapes Go.WideShapes
namespace Tr
section
variable {H : Type} {enc : TypeId × Value → H} {w : World} {base : Nat} {spare : Nat → Bool} {held : Bool}
def okIntS (l : List Int) : Prop := ∀ x ∈ l, okI x
theorem opens_IntS : Opens enc Try.prog w base spare held 22 eIntS okIntS := opens_slice Try.underlying22 (by kernel_rfl) (fun _ => rfl) (opens_int Try.underlying3)
def okPlan (x : GPlan) : Prop := okI x.Keep ∧ okI x.Move ∧ okIntS x.Cells
theorem cells_Plan : Try.prog.cellsOf 24 = 3 := by kernel_rfl
set_option maxRecDepth 100000 in
theorem opens_Plan : Opens enc Try.prog w base spare held 24 ePlan okPlan := by
  intro fuel cs x h
  obtain ⟨ys, n, _, _, hl, hyl, hf⟩ := DataW.trod_struct Try.underlying24 h
  rw [cells_Plan] at hl
  match cs, hl, ys, hyl with
  | [c0, c1, c2], _, [y0, y1, y2], _ =>
  have h0 : DataW.trod enc Try.prog w base spare held n 3 ([c0, c1, c2].drop 0 |>.take (Try.prog.cellsOf 3)) = some y0 := hf 0 _ rfl
  rw [show Try.prog.cellsOf 3 = 1 by kernel_rfl] at h0
  obtain ⟨a0, r0, k0⟩ := (opens_int Try.underlying3) _ _ _ h0
  have h1 : DataW.trod enc Try.prog w base spare held n 3 ([c0, c1, c2].drop 1 |>.take (Try.prog.cellsOf 3)) = some y1 := hf 1 _ rfl
  rw [show Try.prog.cellsOf 3 = 1 by kernel_rfl] at h1
  obtain ⟨a1, r1, k1⟩ := (opens_int Try.underlying3) _ _ _ h1
  have h2 : DataW.trod enc Try.prog w base spare held n 22 ([c0, c1, c2].drop 2 |>.take (Try.prog.cellsOf 22)) = some y2 := hf 2 _ rfl
  rw [show Try.prog.cellsOf 22 = 1 by kernel_rfl] at h2
  obtain ⟨a2, r2, k2⟩ := opens_IntS _ _ _ h2
  refine ⟨⟨a0, a1, a2⟩, ?_, ⟨k0, k1, k2⟩⟩
  exact (raw_app _ _).2 ⟨[c0], [c1, c2], rfl, r0, (raw_app _ _).2 ⟨[c1], [c2], rfl, r1, r2⟩⟩
def okJob (x : GJob) : Prop := okPlan x.Plan ∧ okI x.Phase ∧ okI x.Next
theorem cells_Job : Try.prog.cellsOf 38 = 5 := by kernel_rfl
set_option maxRecDepth 100000 in
theorem opens_Job : Opens enc Try.prog w base spare held 38 eJob okJob := by
  intro fuel cs x h
  obtain ⟨ys, n, _, _, hl, hyl, hf⟩ := DataW.trod_struct Try.underlying38 h
  rw [cells_Job] at hl
  match cs, hl, ys, hyl with
  | [c0, c1, c2, c3, c4], _, [y0, y1, y2], _ =>
  have h0 : DataW.trod enc Try.prog w base spare held n 24 ([c0, c1, c2, c3, c4].drop 0 |>.take (Try.prog.cellsOf 24)) = some y0 := hf 0 _ rfl
  rw [show Try.prog.cellsOf 24 = 3 by kernel_rfl] at h0
  obtain ⟨a0, r0, k0⟩ := opens_Plan _ _ _ h0
  have h1 : DataW.trod enc Try.prog w base spare held n 3 ([c0, c1, c2, c3, c4].drop 3 |>.take (Try.prog.cellsOf 3)) = some y1 := hf 1 _ rfl
  rw [show Try.prog.cellsOf 3 = 1 by kernel_rfl] at h1
  obtain ⟨a1, r1, k1⟩ := (opens_int Try.underlying3) _ _ _ h1
  have h2 : DataW.trod enc Try.prog w base spare held n 3 ([c0, c1, c2, c3, c4].drop 4 |>.take (Try.prog.cellsOf 3)) = some y2 := hf 2 _ rfl
  rw [show Try.prog.cellsOf 3 = 1 by kernel_rfl] at h2
  obtain ⟨a2, r2, k2⟩ := (opens_int Try.underlying3) _ _ _ h2
  refine ⟨⟨a0, a1, a2⟩, ?_, ⟨k0, k1, k2⟩⟩
  exact (raw_app _ _).2 ⟨[c0, c1, c2], [c3, c4], rfl, r0, (raw_app _ _).2 ⟨[c3], [c4], rfl, r1, r2⟩⟩
end
end Tr
end Go.Proofs.Ytlkkiopjknbomaa

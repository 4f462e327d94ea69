/- The arguments' types, opened. -/
import Derived.Test.YtgeakpeodhhffaaEnc
import Derived.Test.YtgeakpeodhhffaaTreeIn
import Derived.KernelRfl
namespace Go.Proofs.Ytgeakpeodhhffaa
open Go.RowKit Go.ChangeShapes Go.WideShapes
namespace Tr
section
variable {H : Type} {enc : TypeId × Value → H} {w : World} {base : Nat} {spare : Nat → Bool} {held : Bool}
def okLate (x : GLate) : Prop := okI x.Index ∧ okI x.Slot
theorem cells_Late : Try.prog.cellsOf 24 = 2 := by kernel_rfl
set_option maxRecDepth 100000 in
theorem opens_Late : Opens enc Try.prog w base spare held 24 eLate okLate := by
  intro fuel cs x h
  obtain ⟨ys, n, _, _, hl, hyl, hf⟩ := DataW.trod_struct Try.underlying24 h
  rw [cells_Late] at hl
  match cs, hl, ys, hyl with
  | [c0, c1], _, [y0, y1], _ =>
  have h0 : DataW.trod enc Try.prog w base spare held n 3 ([c0, c1].drop 0 |>.take (Try.prog.cellsOf 3)) = some y0 := hf 0 _ rfl
  rw [show Try.prog.cellsOf 3 = 1 by kernel_rfl] at h0
  obtain ⟨a0, r0, k0⟩ := (opens_int Try.underlying3) _ _ _ h0
  have h1 : DataW.trod enc Try.prog w base spare held n 3 ([c0, c1].drop 1 |>.take (Try.prog.cellsOf 3)) = some y1 := hf 1 _ rfl
  rw [show Try.prog.cellsOf 3 = 1 by kernel_rfl] at h1
  obtain ⟨a1, r1, k1⟩ := (opens_int Try.underlying3) _ _ _ h1
  refine ⟨⟨a0, a1⟩, ?_, ⟨k0, k1⟩⟩
  exact (raw_app _ _).2 ⟨[c0], [c1], rfl, r0, r1⟩
def okLateS (l : List GLate) : Prop := ∀ x ∈ l, okLate x
theorem opens_LateS : Opens enc Try.prog w base spare held 22 eLateS okLateS := opens_slice Try.underlying22 (by kernel_rfl) (fun _ => rfl) opens_Late
end
end Tr
end Go.Proofs.Ytgeakpeodhhffaa

/- The arguments' types, opened. -/
import Derived.Test.YtmjfcncfhgdhaaaEnc
import Derived.Test.YtmjfcncfhgdhaaaTreeIn
import Derived.KernelRfl
namespace Go.Proofs.Ytmjfcncfhgdhaaa
open Go.RowKit Go.ChangeShapes Go.WideShapes
namespace Tr
section
variable {H : Type} {enc : TypeId × Value → H} {w : World} {base : Nat} {spare : Nat → Bool} {held : Bool}
def okFraction (x : GFraction) : Prop := okI x.Num ∧ okI x.Den
theorem cells_Fraction : Try.prog.cellsOf 34 = 2 := by kernel_rfl
set_option maxRecDepth 100000 in
theorem opens_Fraction : Opens enc Try.prog w base spare held 34 eFraction okFraction := by
  intro fuel cs x h
  obtain ⟨ys, n, _, _, hl, hyl, hf⟩ := DataW.trod_struct Try.underlying34 h
  rw [cells_Fraction] at hl
  match cs, hl, ys, hyl with
  | [c0, c1], _, [y0, y1], _ =>
  have h0 : DataW.trod enc Try.prog w base spare held n 3 ([c0, c1].drop 0 |>.take (Try.prog.cellsOf 3)) = some y0 := hf 0 _ rfl
  rw [show Try.prog.cellsOf 3 = 1 by kernel_rfl] at h0
  obtain ⟨a0, r0, k0⟩ := (opens_int Try.underlying3) _ _ _ h0
  have h1 : DataW.trod enc Try.prog w base spare held n 3 ([c0, c1].drop 1 |>.take (Try.prog.cellsOf 3)) = some y1 := hf 1 _ rfl
  rw [show Try.prog.cellsOf 3 = 1 by kernel_rfl] at h1
  obtain ⟨a1, r1, k1⟩ := (opens_int Try.underlying3) _ _ _ h1
  refine ⟨⟨a0, a1⟩, ?_, ⟨k0, k1⟩⟩
  exact (raw_app _ _).2 ⟨[c0], [c1], rfl, r0, r1⟩
end
end Tr
end Go.Proofs.Ytmjfcncfhgdhaaa

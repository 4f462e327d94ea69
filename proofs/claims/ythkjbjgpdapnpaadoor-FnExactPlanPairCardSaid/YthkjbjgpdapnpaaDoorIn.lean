/- The arguments' types, opened. -/
import Derived.Test.YthkjbjgpdapnpaaDoorEnc
import Derived.Test.YthkjbjgpdapnpaaDoorTreeIn
import Derived.KernelRfl
namespace Go.Proofs.YthkjbjgpdapnpaaDoor
open Go.RowKit Go.ChangeShapes Go.WideShapes
namespace Tr
section
variable {H : Type} {enc : TypeId × Value → H} {w : World} {base : Nat} {spare : Nat → Bool} {held : Bool}
def okIntS (l : List Int) : Prop := ∀ x ∈ l, okI x
theorem opens_IntS : Opens enc Tryd.prog w base spare held 26 eIntS okIntS := opens_slice Tryd.underlying26 (by kernel_rfl) (fun _ => rfl) (opens_int Tryd.underlying3)
def okSpan (x : GSpan) : Prop := okI x.Page ∧ okI x.Class ∧ okI x.Bits
theorem cells_Span : Tryd.prog.cellsOf 45 = 3 := by kernel_rfl
set_option maxRecDepth 100000 in
theorem opens_Span : Opens enc Tryd.prog w base spare held 45 eSpan okSpan := by
  intro fuel cs x h
  obtain ⟨ys, n, _, _, hl, hyl, hf⟩ := DataW.trod_struct Tryd.underlying45 h
  rw [cells_Span] at hl
  match cs, hl, ys, hyl with
  | [c0, c1, c2], _, [y0, y1, y2], _ =>
  have h0 : DataW.trod enc Tryd.prog w base spare held n 3 ([c0, c1, c2].drop 0 |>.take (Tryd.prog.cellsOf 3)) = some y0 := hf 0 _ rfl
  rw [show Tryd.prog.cellsOf 3 = 1 by kernel_rfl] at h0
  obtain ⟨a0, r0, k0⟩ := (opens_int Tryd.underlying3) _ _ _ h0
  have h1 : DataW.trod enc Tryd.prog w base spare held n 3 ([c0, c1, c2].drop 1 |>.take (Tryd.prog.cellsOf 3)) = some y1 := hf 1 _ rfl
  rw [show Tryd.prog.cellsOf 3 = 1 by kernel_rfl] at h1
  obtain ⟨a1, r1, k1⟩ := (opens_int Tryd.underlying3) _ _ _ h1
  have h2 : DataW.trod enc Tryd.prog w base spare held n 3 ([c0, c1, c2].drop 2 |>.take (Tryd.prog.cellsOf 3)) = some y2 := hf 2 _ rfl
  rw [show Tryd.prog.cellsOf 3 = 1 by kernel_rfl] at h2
  obtain ⟨a2, r2, k2⟩ := (opens_int Tryd.underlying3) _ _ _ h2
  refine ⟨⟨a0, a1, a2⟩, ?_, ⟨k0, k1, k2⟩⟩
  exact (raw_app _ _).2 ⟨[c0], [c1, c2], rfl, r0, (raw_app _ _).2 ⟨[c1], [c2], rfl, r1, r2⟩⟩
end
end Tr
end Go.Proofs.YthkjbjgpdapnpaaDoor

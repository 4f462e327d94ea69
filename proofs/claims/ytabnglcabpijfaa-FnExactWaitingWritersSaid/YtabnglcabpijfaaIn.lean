/- The arguments' types, opened. -/
import Derived.Test.YtabnglcabpijfaaEnc
import Derived.Test.YtabnglcabpijfaaTreeIn
import Derived.KernelRfl
namespace Go.Proofs.Ytabnglcabpijfaa
open Go.RowKit Go.ChangeShapes Go.WideShapes
namespace Tr
section
variable {H : Type} {enc : TypeId × Value → H} {w : World} {base : Nat} {spare : Nat → Bool} {held : Bool}
def okWriter (x : GWriter) : Prop := okI x.Addr ∧ okI x.Value ∧ (fun _ => True) x.Done ∧ okI x.Waits
theorem cells_Writer : Try.prog.cellsOf 32 = 4 := by kernel_rfl
set_option maxRecDepth 100000 in
theorem opens_Writer : Opens enc Try.prog w base spare held 32 eWriter okWriter := by
  intro fuel cs x h
  obtain ⟨ys, n, _, _, hl, hyl, hf⟩ := DataW.trod_struct Try.underlying32 h
  rw [cells_Writer] at hl
  match cs, hl, ys, hyl with
  | [c0, c1, c2, c3], _, [y0, y1, y2, y3], _ =>
  have h0 : DataW.trod enc Try.prog w base spare held n 3 ([c0, c1, c2, c3].drop 0 |>.take (Try.prog.cellsOf 3)) = some y0 := hf 0 _ rfl
  rw [show Try.prog.cellsOf 3 = 1 by kernel_rfl] at h0
  obtain ⟨a0, r0, k0⟩ := (opens_int Try.underlying3) _ _ _ h0
  have h1 : DataW.trod enc Try.prog w base spare held n 3 ([c0, c1, c2, c3].drop 1 |>.take (Try.prog.cellsOf 3)) = some y1 := hf 1 _ rfl
  rw [show Try.prog.cellsOf 3 = 1 by kernel_rfl] at h1
  obtain ⟨a1, r1, k1⟩ := (opens_int Try.underlying3) _ _ _ h1
  have h2 : DataW.trod enc Try.prog w base spare held n 4 ([c0, c1, c2, c3].drop 2 |>.take (Try.prog.cellsOf 4)) = some y2 := hf 2 _ rfl
  rw [show Try.prog.cellsOf 4 = 1 by kernel_rfl] at h2
  obtain ⟨a2, r2, k2⟩ := (opens_bool Try.underlying4) _ _ _ h2
  have h3 : DataW.trod enc Try.prog w base spare held n 3 ([c0, c1, c2, c3].drop 3 |>.take (Try.prog.cellsOf 3)) = some y3 := hf 3 _ rfl
  rw [show Try.prog.cellsOf 3 = 1 by kernel_rfl] at h3
  obtain ⟨a3, r3, k3⟩ := (opens_int Try.underlying3) _ _ _ h3
  refine ⟨⟨a0, a1, a2, a3⟩, ?_, ⟨k0, k1, k2, k3⟩⟩
  exact (raw_app _ _).2 ⟨[c0], [c1, c2, c3], rfl, r0, (raw_app _ _).2 ⟨[c1], [c2, c3], rfl, r1, (raw_app _ _).2 ⟨[c2], [c3], rfl, r2, r3⟩⟩⟩
def okWriterS (l : List GWriter) : Prop := ∀ x ∈ l, okWriter x
theorem opens_WriterS : Opens enc Try.prog w base spare held 22 eWriterS okWriterS := opens_slice Try.underlying22 (by kernel_rfl) (fun _ => rfl) opens_Writer
end
end Tr
end Go.Proofs.Ytabnglcabpijfaa

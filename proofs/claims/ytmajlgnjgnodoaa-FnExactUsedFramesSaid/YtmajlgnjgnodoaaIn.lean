/- The arguments' types, opened. -/
import Derived.Test.YtmajlgnjgnodoaaEnc
import Derived.Test.YtmajlgnjgnodoaaTreeIn
import Derived.KernelRfl
namespace Go.Proofs.Ytmajlgnjgnodoaa
open Go.RowKit Go.ChangeShapes Go.WideShapes
namespace Tr
section
variable {H : Type} {enc : TypeId × Value → H} {w : World} {base : Nat} {spare : Nat → Bool} {held : Bool}
def okBoolS (l : List Bool) : Prop := ∀ x ∈ l, (fun _ => True) x
theorem opens_BoolS : Opens enc Try.prog w base spare held 25 eBoolS okBoolS := opens_slice Try.underlying25 (by kernel_rfl) (fun _ => rfl) (opens_bool Try.underlying4)
def okIntS (l : List Int) : Prop := ∀ x ∈ l, okI x
theorem opens_IntS : Opens enc Try.prog w base spare held 38 eIntS okIntS := opens_slice Try.underlying38 (by kernel_rfl) (fun _ => rfl) (opens_int Try.underlying3)
def okIntSS (l : List (List Int)) : Prop := ∀ x ∈ l, okIntS x
theorem opens_IntSS : Opens enc Try.prog w base spare held 24 eIntSS okIntSS := opens_slice Try.underlying24 (by kernel_rfl) (fun _ => rfl) opens_IntS
def okFrames (x : GFrames) : Prop := okIntSS x.Cells ∧ okBoolS x.Used
theorem cells_Frames : Try.prog.cellsOf 44 = 2 := by kernel_rfl
theorem opens_Frames : Opens enc Try.prog w base spare held 44 eFrames okFrames := by
  intro fuel cs x h
  obtain ⟨ys, n, _, _, hl, hyl, hf⟩ := DataW.trod_struct Try.underlying44 h
  rw [cells_Frames] at hl
  match cs, hl, ys, hyl with
  | [c0, c1], _, [y0, y1], _ =>
  have h0 : DataW.trod enc Try.prog w base spare held n 24 ([c0, c1].drop 0 |>.take (Try.prog.cellsOf 24)) = some y0 := hf 0 _ rfl
  rw [show Try.prog.cellsOf 24 = 1 by kernel_rfl] at h0
  obtain ⟨a0, r0, k0⟩ := opens_IntSS _ _ _ h0
  have h1 : DataW.trod enc Try.prog w base spare held n 25 ([c0, c1].drop 1 |>.take (Try.prog.cellsOf 25)) = some y1 := hf 1 _ rfl
  rw [show Try.prog.cellsOf 25 = 1 by kernel_rfl] at h1
  obtain ⟨a1, r1, k1⟩ := opens_BoolS _ _ _ h1
  refine ⟨⟨a0, a1⟩, ?_, ⟨k0, k1⟩⟩
  exact (raw_app _ _).2 ⟨[c0], [c1], rfl, r0, r1⟩
end
end Tr
end Go.Proofs.Ytmajlgnjgnodoaa

/- The arguments' types, opened. -/
import Derived.Test.YtbfdopnbclkfcaaEnc
import Derived.Test.YtbfdopnbclkfcaaTreeIn
import Derived.KernelRfl
namespace Go.Proofs.Ytbfdopnbclkfcaa
open Go.RowKit Go.ChangeShapes Go.WideShapes
namespace Tr
section
variable {H : Type} {enc : TypeId × Value → H} {w : World} {base : Nat} {spare : Nat → Bool} {held : Bool}
def okEntry (x : GEntry) : Prop := okI x.Mode ∧ okI x.Frame
theorem cells_Entry : Try.prog.cellsOf 47 = 2 := by kernel_rfl
set_option maxRecDepth 100000 in
theorem opens_Entry : Opens enc Try.prog w base spare held 47 eEntry okEntry := by
  intro fuel cs x h
  obtain ⟨ys, n, _, _, hl, hyl, hf⟩ := DataW.trod_struct Try.underlying47 h
  rw [cells_Entry] at hl
  match cs, hl, ys, hyl with
  | [c0, c1], _, [y0, y1], _ =>
  have h0 : DataW.trod enc Try.prog w base spare held n 3 ([c0, c1].drop 0 |>.take (Try.prog.cellsOf 3)) = some y0 := hf 0 _ rfl
  rw [show Try.prog.cellsOf 3 = 1 by kernel_rfl] at h0
  obtain ⟨a0, r0, k0⟩ := (opens_int Try.underlying3) _ _ _ h0
  have h1 : DataW.trod enc Try.prog w base spare held n 3 ([c0, c1].drop 1 |>.take (Try.prog.cellsOf 3)) = some y1 := hf 1 _ rfl
  rw [show Try.prog.cellsOf 3 = 1 by kernel_rfl] at h1
  obtain ⟨a1, r1, k1⟩ := (opens_int Try.underlying3) _ _ _ h1
  refine ⟨⟨a0, a1⟩, ?_, ⟨k0, k1⟩⟩
  exact (raw_app _ _).2 ⟨[c0], [c1], rfl, r0, r1⟩
def okEntryS (l : List GEntry) : Prop := ∀ x ∈ l, okEntry x
theorem opens_EntryS : Opens enc Try.prog w base spare held 41 eEntryS okEntryS := opens_slice Try.underlying41 (by kernel_rfl) (fun _ => rfl) opens_Entry
def okIntS (l : List Int) : Prop := ∀ x ∈ l, okI x
theorem opens_IntS : Opens enc Try.prog w base spare held 24 eIntS okIntS := opens_slice Try.underlying24 (by kernel_rfl) (fun _ => rfl) (opens_int Try.underlying3)
def okTable (x : GTable) : Prop := okEntryS x.Entries
theorem cells_Table : Try.prog.cellsOf 43 = 1 := by kernel_rfl
set_option maxRecDepth 100000 in
theorem opens_Table : Opens enc Try.prog w base spare held 43 eTable okTable := by
  intro fuel cs x h
  obtain ⟨ys, n, _, _, hl, hyl, hf⟩ := DataW.trod_struct Try.underlying43 h
  rw [cells_Table] at hl
  match cs, hl, ys, hyl with
  | [c0], _, [y0], _ =>
  have h0 : DataW.trod enc Try.prog w base spare held n 41 ([c0].drop 0 |>.take (Try.prog.cellsOf 41)) = some y0 := hf 0 _ rfl
  rw [show Try.prog.cellsOf 41 = 1 by kernel_rfl] at h0
  obtain ⟨a0, r0, k0⟩ := opens_EntryS _ _ _ h0
  refine ⟨⟨a0⟩, ?_, k0⟩
  exact r0
end
end Tr
end Go.Proofs.Ytbfdopnbclkfcaa

/- The arguments' types, opened. -/
import Derived.Test.YthcgaeodcoidnaaDoorEnc
import Derived.Test.YthcgaeodcoidnaaDoorTreeIn
import Derived.KernelRfl
namespace Go.Proofs.YthcgaeodcoidnaaDoor
open Go.RowKit Go.ChangeShapes Go.WideShapes
namespace Tr
section
variable {H : Type} {enc : TypeId × Value → H} {w : World} {base : Nat} {spare : Nat → Bool} {held : Bool}
def okPair (x : GPair) : Prop := okI x.A ∧ okI x.B
theorem cells_Pair : Tryd.prog.cellsOf 71 = 2 := by kernel_rfl
set_option maxRecDepth 100000 in
theorem opens_Pair : Opens enc Tryd.prog w base spare held 71 ePair okPair := by
  intro fuel cs x h
  obtain ⟨ys, n, _, _, hl, hyl, hf⟩ := DataW.trod_struct Tryd.underlying71 h
  rw [cells_Pair] at hl
  match cs, hl, ys, hyl with
  | [c0, c1], _, [y0, y1], _ =>
  have h0 : DataW.trod enc Tryd.prog w base spare held n 3 ([c0, c1].drop 0 |>.take (Tryd.prog.cellsOf 3)) = some y0 := hf 0 _ rfl
  rw [show Tryd.prog.cellsOf 3 = 1 by kernel_rfl] at h0
  obtain ⟨a0, r0, k0⟩ := (opens_int Tryd.underlying3) _ _ _ h0
  have h1 : DataW.trod enc Tryd.prog w base spare held n 3 ([c0, c1].drop 1 |>.take (Tryd.prog.cellsOf 3)) = some y1 := hf 1 _ rfl
  rw [show Tryd.prog.cellsOf 3 = 1 by kernel_rfl] at h1
  obtain ⟨a1, r1, k1⟩ := (opens_int Tryd.underlying3) _ _ _ h1
  refine ⟨⟨a0, a1⟩, ?_, ⟨k0, k1⟩⟩
  exact (raw_app _ _).2 ⟨[c0], [c1], rfl, r0, r1⟩
def okPairS (l : List GPair) : Prop := ∀ x ∈ l, okPair x
theorem opens_PairS : Opens enc Tryd.prog w base spare held 47 ePairS okPairS := opens_slice Tryd.underlying47 (by kernel_rfl) (fun _ => rfl) opens_Pair
def okSpan (x : GSpan) : Prop := okI x.Page ∧ okI x.Class ∧ okI x.Bits
theorem cells_Span : Tryd.prog.cellsOf 68 = 3 := by kernel_rfl
set_option maxRecDepth 100000 in
theorem opens_Span : Opens enc Tryd.prog w base spare held 68 eSpan okSpan := by
  intro fuel cs x h
  obtain ⟨ys, n, _, _, hl, hyl, hf⟩ := DataW.trod_struct Tryd.underlying68 h
  rw [cells_Span] at hl
  match cs, hl, ys, hyl with
  | [c0, c1, c2], _, [y0, y1, y2], _ =>
  have h0 : DataW.trod enc Tryd.prog w base spare held n 3 ([c0, c1, c2].drop 0 |>.take (Tryd.prog.cellsOf 3)) = some y0 := hf 0 _ rfl
  rw [show Tryd.prog.cellsOf 3 = 1 by kernel_rfl] at h0
  obtain ⟨a0, r0, k0⟩ := (opens_int Tryd.underlying3) _ _ _ h0
  have h1 : DataW.trod enc Tryd.prog w base spare held n 3 ([c0, c1, c2].drop 1 |>.take (Tryd.prog.cellsOf 3)) = some y1 := hf 1 _ rfl
  rw [show Tryd.prog.cellsOf 3 = 1 by kernel_rfl] at h1
  obtain ⟨a1, r1, k1⟩ := (opens_int Tryd.underlying3) _ _ _ h1
  have h2 : DataW.trod enc Tryd.prog w base spare held n 3 ([c0, c1, c2].drop 2 |>.take (Tryd.prog.cellsOf 3)) = some y2 := hf 2 _ rfl
  rw [show Tryd.prog.cellsOf 3 = 1 by kernel_rfl] at h2
  obtain ⟨a2, r2, k2⟩ := (opens_int Tryd.underlying3) _ _ _ h2
  refine ⟨⟨a0, a1, a2⟩, ?_, ⟨k0, k1, k2⟩⟩
  exact (raw_app _ _).2 ⟨[c0], [c1, c2], rfl, r0, (raw_app _ _).2 ⟨[c1], [c2], rfl, r1, r2⟩⟩
def okSpanS (l : List GSpan) : Prop := ∀ x ∈ l, okSpan x
theorem opens_SpanS : Opens enc Tryd.prog w base spare held 39 eSpanS okSpanS := opens_slice Tryd.underlying39 (by kernel_rfl) (fun _ => rfl) opens_Span
end
end Tr
end Go.Proofs.YthcgaeodcoidnaaDoor

/- The arguments' types, opened. -/
import Derived.Test.YtkmkpjpopobdbaaDoorEnc
import Derived.Test.YtkmkpjpopobdbaaDoorTreeIn
import Derived.KernelRfl
namespace Go.Proofs.YtkmkpjpopobdbaaDoor
open Go.RowKit Go.ChangeShapes Go.WideShapes
namespace Tr
section
variable {H : Type} {enc : TypeId × Value → H} {w : World} {base : Nat} {spare : Nat → Bool} {held : Bool}
def okBoolS (l : List Bool) : Prop := ∀ x ∈ l, (fun _ => True) x
theorem opens_BoolS : Opens enc Tryd.prog w base spare held 25 eBoolS okBoolS := opens_slice Tryd.underlying25 (by kernel_rfl) (fun _ => rfl) (opens_bool Tryd.underlying4)
def okEntry (x : GEntry) : Prop := okI x.Mode ∧ okI x.Frame
theorem cells_Entry : Tryd.prog.cellsOf 120 = 2 := by kernel_rfl
set_option maxRecDepth 100000 in
theorem opens_Entry : Opens enc Tryd.prog w base spare held 120 eEntry okEntry := by
  intro fuel cs x h
  obtain ⟨ys, n, _, _, hl, hyl, hf⟩ := DataW.trod_struct Tryd.underlying120 h
  rw [cells_Entry] at hl
  match cs, hl, ys, hyl with
  | [c0, c1], _, [y0, y1], _ =>
  have h0 : DataW.trod enc Tryd.prog w base spare held n 3 ([c0, c1].drop 0 |>.take (Tryd.prog.cellsOf 3)) = some y0 := hf 0 _ rfl
  rw [show Tryd.prog.cellsOf 3 = 1 by kernel_rfl] at h0
  obtain ⟨a0, r0, k0⟩ := (opens_int Tryd.underlying3) _ _ _ h0
  have h1 : DataW.trod enc Tryd.prog w base spare held n 3 ([c0, c1].drop 1 |>.take (Tryd.prog.cellsOf 3)) = some y1 := hf 1 _ rfl
  rw [show Tryd.prog.cellsOf 3 = 1 by kernel_rfl] at h1
  obtain ⟨a1, r1, k1⟩ := (opens_int Tryd.underlying3) _ _ _ h1
  refine ⟨⟨a0, a1⟩, ?_, ⟨k0, k1⟩⟩
  exact (raw_app _ _).2 ⟨[c0], [c1], rfl, r0, r1⟩
def okEntryS (l : List GEntry) : Prop := ∀ x ∈ l, okEntry x
theorem opens_EntryS : Opens enc Tryd.prog w base spare held 46 eEntryS okEntryS := opens_slice Tryd.underlying46 (by kernel_rfl) (fun _ => rfl) opens_Entry
def okIntS (l : List Int) : Prop := ∀ x ∈ l, okI x
theorem opens_IntS : Opens enc Tryd.prog w base spare held 34 eIntS okIntS := opens_slice Tryd.underlying34 (by kernel_rfl) (fun _ => rfl) (opens_int Tryd.underlying3)
def okIntSS (l : List (List Int)) : Prop := ∀ x ∈ l, okIntS x
theorem opens_IntSS : Opens enc Tryd.prog w base spare held 24 eIntSS okIntSS := opens_slice Tryd.underlying24 (by kernel_rfl) (fun _ => rfl) opens_IntS
def okFrames (x : GFrames) : Prop := okIntSS x.Cells ∧ okBoolS x.Used
theorem cells_Frames : Tryd.prog.cellsOf 45 = 2 := by kernel_rfl
set_option maxRecDepth 100000 in
theorem opens_Frames : Opens enc Tryd.prog w base spare held 45 eFrames okFrames := by
  intro fuel cs x h
  obtain ⟨ys, n, _, _, hl, hyl, hf⟩ := DataW.trod_struct Tryd.underlying45 h
  rw [cells_Frames] at hl
  match cs, hl, ys, hyl with
  | [c0, c1], _, [y0, y1], _ =>
  have h0 : DataW.trod enc Tryd.prog w base spare held n 24 ([c0, c1].drop 0 |>.take (Tryd.prog.cellsOf 24)) = some y0 := hf 0 _ rfl
  rw [show Tryd.prog.cellsOf 24 = 1 by kernel_rfl] at h0
  obtain ⟨a0, r0, k0⟩ := opens_IntSS _ _ _ h0
  have h1 : DataW.trod enc Tryd.prog w base spare held n 25 ([c0, c1].drop 1 |>.take (Tryd.prog.cellsOf 25)) = some y1 := hf 1 _ rfl
  rw [show Tryd.prog.cellsOf 25 = 1 by kernel_rfl] at h1
  obtain ⟨a1, r1, k1⟩ := opens_BoolS _ _ _ h1
  refine ⟨⟨a0, a1⟩, ?_, ⟨k0, k1⟩⟩
  exact (raw_app _ _).2 ⟨[c0], [c1], rfl, r0, r1⟩
def okTable (x : GTable) : Prop := okEntryS x.Entries
theorem cells_Table : Tryd.prog.cellsOf 48 = 1 := by kernel_rfl
set_option maxRecDepth 100000 in
theorem opens_Table : Opens enc Tryd.prog w base spare held 48 eTable okTable := by
  intro fuel cs x h
  obtain ⟨ys, n, _, _, hl, hyl, hf⟩ := DataW.trod_struct Tryd.underlying48 h
  rw [cells_Table] at hl
  match cs, hl, ys, hyl with
  | [c0], _, [y0], _ =>
  have h0 : DataW.trod enc Tryd.prog w base spare held n 46 ([c0].drop 0 |>.take (Tryd.prog.cellsOf 46)) = some y0 := hf 0 _ rfl
  rw [show Tryd.prog.cellsOf 46 = 1 by kernel_rfl] at h0
  obtain ⟨a0, r0, k0⟩ := opens_EntryS _ _ _ h0
  refine ⟨⟨a0⟩, ?_, k0⟩
  exact r0
def okMachine (x : GMachine) : Prop := okFrames x.Frames ∧ okTable x.Table
theorem cells_Machine : Tryd.prog.cellsOf 50 = 3 := by kernel_rfl
set_option maxRecDepth 100000 in
theorem opens_Machine : Opens enc Tryd.prog w base spare held 50 eMachine okMachine := by
  intro fuel cs x h
  obtain ⟨ys, n, _, _, hl, hyl, hf⟩ := DataW.trod_struct Tryd.underlying50 h
  rw [cells_Machine] at hl
  match cs, hl, ys, hyl with
  | [c0, c1, c2], _, [y0, y1], _ =>
  have h0 : DataW.trod enc Tryd.prog w base spare held n 45 ([c0, c1, c2].drop 0 |>.take (Tryd.prog.cellsOf 45)) = some y0 := hf 0 _ rfl
  rw [show Tryd.prog.cellsOf 45 = 2 by kernel_rfl] at h0
  obtain ⟨a0, r0, k0⟩ := opens_Frames _ _ _ h0
  have h1 : DataW.trod enc Tryd.prog w base spare held n 48 ([c0, c1, c2].drop 2 |>.take (Tryd.prog.cellsOf 48)) = some y1 := hf 1 _ rfl
  rw [show Tryd.prog.cellsOf 48 = 1 by kernel_rfl] at h1
  obtain ⟨a1, r1, k1⟩ := opens_Table _ _ _ h1
  refine ⟨⟨a0, a1⟩, ?_, ⟨k0, k1⟩⟩
  exact (raw_app _ _).2 ⟨[c0, c1], [c2], rfl, r0, r1⟩
end
end Tr
end Go.Proofs.YtkmkpjpopobdbaaDoor

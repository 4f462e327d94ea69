/- What the exact laws take of a statement that draws its order and makes a variable. No program. -/
import Derived.Test.YtcdmijnlpapjaaaTreeOps
import Derived.WalkKit
import Derived.Deep.RegionHeld3
import Derived.Deep.DeepCutAuto
namespace Go.Proofs.Ytcdmijnlpapjaaa
open Go.RowKit
set_option linter.unusedVariables false
namespace Tr
theorem below_al {w W : World} {o : Obj} (h : Below w.heap.size w W) : Below w.heap.size w (W.alloc o) := h.alloc h.size o
theorem below_al0 {w : World} {o : Obj} : Below w.heap.size w (w.alloc o).drew := ((Below.refl _ _).alloc (Nat.le_refl _) o).drew
/-- a variable that the statement made (block g), its slices in the blocks from lo on, below hi -/
structure BoxIn (w : World) (T : TypeId) (d : D) (cs : List Value) (lo hi g : Nat) (w' : World) : Prop where
  below : Below w.heap.size w w'
  block : w'.heap[g]? = some (.cells cs.toArray T (0, 0))
  own : OwnIn w' lo hi d cs
  ilo : w.heap.size ≤ lo
  ihi : lo ≤ hi
  top : hi ≤ w'.heap.size
  ge : w.heap.size ≤ g
  lt : g < w'.heap.size
  apart : g < lo ∨ hi ≤ g
theorem boxin_new {w wf : World} {T : TypeId} {d : D} {cs : List Value} {lo : Nat} (hb : Below w.heap.size w wf) (ho : Owned wf lo d cs) (hlo : w.heap.size ≤ lo) (hlf : lo ≤ wf.heap.size) : BoxIn w T d cs lo wf.heap.size wf.heap.size (wf.alloc (.cells cs.toArray T)) :=
  ⟨hb.alloc hb.size _, heap_alloc_new _ _, (ho.toIn (Nat.le_refl _)).below ((Below.refl _ _).alloc (Nat.le_refl _) _), hlo, hlf, by simp, hb.size, by simp, .inr (Nat.le_refl _)⟩
theorem boxin_old {w wf w' : World} {T : TypeId} {d : D} {cs : List Value} {lo g : Nat} (hb : Below w.heap.size w wf) (ho : Owned wf lo d cs) (hlo : w.heap.size ≤ lo) (hlf : lo ≤ wf.heap.size) (hg : w.heap.size ≤ g) (hl : g < lo) (hx : w'.heap[g]? = some (.cells cs.toArray T (0, 0))) (hs : w'.heap.size = wf.heap.size) (hbw : Below g wf w') (hf : ∀ y, y ≠ g → w'.heap[y]? = wf.heap[y]?) : BoxIn w T d cs lo wf.heap.size g w' := by
  obtain ⟨bs, h1, h2, h3⟩ := ho
  exact ⟨hb.trans (hbw.mono hg), hx, ⟨bs, own_same _ h1 (fun b hb => hf b (by have := h3 b hb; omega)), h2, fun b hb => ⟨h3 b hb, own_lt _ h1 b hb⟩⟩, hlo, hlf, by omega, hg, by omega, .inl hl⟩
theorem boxin_old1 {w wf : World} {T : TypeId} {d : D} {a z0 : Value} {lo g : Nat} (hb : Below w.heap.size w wf) (hx : wf.heap[g]? = some (.cells #[z0] T (0, 0))) (hg : w.heap.size ≤ g) (ho : Owned wf lo d [a]) (hlo : w.heap.size ≤ lo) (hlf : lo ≤ wf.heap.size) (hl : g < lo) :
    wf.cell? ⟨g, 0, none⟩ = some z0 ∧ wf.frozen? ⟨g, 0, none⟩ = false ∧ Hid (BoxIn w T d [a] lo wf.heap.size g (wf.setCell ⟨g, 0, none⟩ a)) := by
  have h1 := block_set hx 0 a
  exact ⟨cell_of_block hx 0, free_of_block hx 0, boxin_old hb ho hlo hlf hg hl h1 (by simp) ((Below.refl _ _).setCell (p := ⟨g, 0, none⟩) (Nat.le_refl _) a) (fun y hy => Below.heap_setCell _ _ _ _ hy)⟩
theorem boxin_old2 {w wf : World} {T : TypeId} {d : D} {a b z0 z1 : Value} {lo g : Nat} (hb : Below w.heap.size w wf) (hx : wf.heap[g]? = some (.cells #[z0, z1] T (0, 0))) (hg : w.heap.size ≤ g) (ho : Owned wf lo d [a, b]) (hlo : w.heap.size ≤ lo) (hlf : lo ≤ wf.heap.size) (hl : g < lo) :
    wf.cell? ⟨g, 0, none⟩ = some z0 ∧ wf.frozen? ⟨g, 0, none⟩ = false ∧ (wf.setCell ⟨g, 0, none⟩ a).cell? ⟨g, 1, none⟩ = some z1 ∧ (wf.setCell ⟨g, 0, none⟩ a).frozen? ⟨g, 1, none⟩ = false ∧ Hid (BoxIn w T d [a, b] lo wf.heap.size g ((wf.setCell ⟨g, 0, none⟩ a).setCell ⟨g, 1, none⟩ b)) := by
  have h1 := block_set hx 0 a
  have h2 := block_set h1 1 b
  exact ⟨cell_of_block hx 0, free_of_block hx 0, cell_of_block h1 1, free_of_block h1 1, boxin_old hb ho hlo hlf hg hl h2 (by simp) (((Below.refl _ _).setCell (p := ⟨g, 0, none⟩) (Nat.le_refl _) a).setCell (p := ⟨g, 1, none⟩) (Nat.le_refl _) b) (fun y hy => (Below.heap_setCell _ _ _ _ hy).trans (Below.heap_setCell _ _ _ _ hy))⟩
theorem boxin_old3 {w wf : World} {T : TypeId} {d : D} {a0 a1 a2 z0 z1 z2 : Value} {lo g : Nat} (hb : Below w.heap.size w wf) (hx : wf.heap[g]? = some (.cells #[z0, z1, z2] T (0, 0))) (hg : w.heap.size ≤ g) (ho : Owned wf lo d [a0, a1, a2]) (hlo : w.heap.size ≤ lo) (hlf : lo ≤ wf.heap.size) (hl : g < lo) :
    wf.cell? ⟨g, 0, none⟩ = some z0 ∧ wf.frozen? ⟨g, 0, none⟩ = false ∧ (wf.setCell ⟨g, 0, none⟩ a0).cell? ⟨g, 1, none⟩ = some z1 ∧ (wf.setCell ⟨g, 0, none⟩ a0).frozen? ⟨g, 1, none⟩ = false ∧ ((wf.setCell ⟨g, 0, none⟩ a0).setCell ⟨g, 1, none⟩ a1).cell? ⟨g, 2, none⟩ = some z2 ∧ ((wf.setCell ⟨g, 0, none⟩ a0).setCell ⟨g, 1, none⟩ a1).frozen? ⟨g, 2, none⟩ = false ∧ Hid (BoxIn w T d [a0, a1, a2] lo wf.heap.size g (((wf.setCell ⟨g, 0, none⟩ a0).setCell ⟨g, 1, none⟩ a1).setCell ⟨g, 2, none⟩ a2)) := by
  have h1 := block_set hx 0 a0
  have h2 := block_set h1 1 a1
  have h3 := block_set h2 2 a2
  exact ⟨cell_of_block hx 0, free_of_block hx 0, cell_of_block h1 1, free_of_block h1 1, cell_of_block h2 2, free_of_block h2 2, boxin_old hb ho hlo hlf hg hl h3 (by simp) ((((Below.refl _ _).setCell (p := ⟨g, 0, none⟩) (Nat.le_refl _) a0).setCell (p := ⟨g, 1, none⟩) (Nat.le_refl _) a1).setCell (p := ⟨g, 2, none⟩) (Nat.le_refl _) a2) (fun y hy => ((Below.heap_setCell _ _ _ _ hy).trans (Below.heap_setCell _ _ _ _ hy)).trans (Below.heap_setCell _ _ _ _ hy))⟩
theorem boxin_old4 {w wf : World} {T : TypeId} {d : D} {a0 a1 a2 a3 z0 z1 z2 z3 : Value} {lo g : Nat} (hb : Below w.heap.size w wf) (hx : wf.heap[g]? = some (.cells #[z0, z1, z2, z3] T (0, 0))) (hg : w.heap.size ≤ g) (ho : Owned wf lo d [a0, a1, a2, a3]) (hlo : w.heap.size ≤ lo) (hlf : lo ≤ wf.heap.size) (hl : g < lo) :
    wf.cell? ⟨g, 0, none⟩ = some z0 ∧ wf.frozen? ⟨g, 0, none⟩ = false ∧ (wf.setCell ⟨g, 0, none⟩ a0).cell? ⟨g, 1, none⟩ = some z1 ∧ (wf.setCell ⟨g, 0, none⟩ a0).frozen? ⟨g, 1, none⟩ = false ∧ ((wf.setCell ⟨g, 0, none⟩ a0).setCell ⟨g, 1, none⟩ a1).cell? ⟨g, 2, none⟩ = some z2 ∧ ((wf.setCell ⟨g, 0, none⟩ a0).setCell ⟨g, 1, none⟩ a1).frozen? ⟨g, 2, none⟩ = false ∧ (((wf.setCell ⟨g, 0, none⟩ a0).setCell ⟨g, 1, none⟩ a1).setCell ⟨g, 2, none⟩ a2).cell? ⟨g, 3, none⟩ = some z3 ∧ (((wf.setCell ⟨g, 0, none⟩ a0).setCell ⟨g, 1, none⟩ a1).setCell ⟨g, 2, none⟩ a2).frozen? ⟨g, 3, none⟩ = false ∧ Hid (BoxIn w T d [a0, a1, a2, a3] lo wf.heap.size g ((((wf.setCell ⟨g, 0, none⟩ a0).setCell ⟨g, 1, none⟩ a1).setCell ⟨g, 2, none⟩ a2).setCell ⟨g, 3, none⟩ a3)) := by
  have h1 := block_set hx 0 a0
  have h2 := block_set h1 1 a1
  have h3 := block_set h2 2 a2
  have h4 := block_set h3 3 a3
  exact ⟨cell_of_block hx 0, free_of_block hx 0, cell_of_block h1 1, free_of_block h1 1, cell_of_block h2 2, free_of_block h2 2, cell_of_block h3 3, free_of_block h3 3, boxin_old hb ho hlo hlf hg hl h4 (by simp) (((((Below.refl _ _).setCell (p := ⟨g, 0, none⟩) (Nat.le_refl _) a0).setCell (p := ⟨g, 1, none⟩) (Nat.le_refl _) a1).setCell (p := ⟨g, 2, none⟩) (Nat.le_refl _) a2).setCell (p := ⟨g, 3, none⟩) (Nat.le_refl _) a3) (fun y hy => (((Below.heap_setCell _ _ _ _ hy).trans (Below.heap_setCell _ _ _ _ hy)).trans (Below.heap_setCell _ _ _ _ hy)).trans (Below.heap_setCell _ _ _ _ hy))⟩
theorem boxin_old5 {w wf : World} {T : TypeId} {d : D} {a0 a1 a2 a3 a4 z0 z1 z2 z3 z4 : Value} {lo g : Nat} (hb : Below w.heap.size w wf) (hx : wf.heap[g]? = some (.cells #[z0, z1, z2, z3, z4] T (0, 0))) (hg : w.heap.size ≤ g) (ho : Owned wf lo d [a0, a1, a2, a3, a4]) (hlo : w.heap.size ≤ lo) (hlf : lo ≤ wf.heap.size) (hl : g < lo) :
    wf.cell? ⟨g, 0, none⟩ = some z0 ∧ wf.frozen? ⟨g, 0, none⟩ = false ∧ (wf.setCell ⟨g, 0, none⟩ a0).cell? ⟨g, 1, none⟩ = some z1 ∧ (wf.setCell ⟨g, 0, none⟩ a0).frozen? ⟨g, 1, none⟩ = false ∧ ((wf.setCell ⟨g, 0, none⟩ a0).setCell ⟨g, 1, none⟩ a1).cell? ⟨g, 2, none⟩ = some z2 ∧ ((wf.setCell ⟨g, 0, none⟩ a0).setCell ⟨g, 1, none⟩ a1).frozen? ⟨g, 2, none⟩ = false ∧ (((wf.setCell ⟨g, 0, none⟩ a0).setCell ⟨g, 1, none⟩ a1).setCell ⟨g, 2, none⟩ a2).cell? ⟨g, 3, none⟩ = some z3 ∧ (((wf.setCell ⟨g, 0, none⟩ a0).setCell ⟨g, 1, none⟩ a1).setCell ⟨g, 2, none⟩ a2).frozen? ⟨g, 3, none⟩ = false ∧ ((((wf.setCell ⟨g, 0, none⟩ a0).setCell ⟨g, 1, none⟩ a1).setCell ⟨g, 2, none⟩ a2).setCell ⟨g, 3, none⟩ a3).cell? ⟨g, 4, none⟩ = some z4 ∧ ((((wf.setCell ⟨g, 0, none⟩ a0).setCell ⟨g, 1, none⟩ a1).setCell ⟨g, 2, none⟩ a2).setCell ⟨g, 3, none⟩ a3).frozen? ⟨g, 4, none⟩ = false ∧ Hid (BoxIn w T d [a0, a1, a2, a3, a4] lo wf.heap.size g (((((wf.setCell ⟨g, 0, none⟩ a0).setCell ⟨g, 1, none⟩ a1).setCell ⟨g, 2, none⟩ a2).setCell ⟨g, 3, none⟩ a3).setCell ⟨g, 4, none⟩ a4)) := by
  have h1 := block_set hx 0 a0
  have h2 := block_set h1 1 a1
  have h3 := block_set h2 2 a2
  have h4 := block_set h3 3 a3
  have h5 := block_set h4 4 a4
  exact ⟨cell_of_block hx 0, free_of_block hx 0, cell_of_block h1 1, free_of_block h1 1, cell_of_block h2 2, free_of_block h2 2, cell_of_block h3 3, free_of_block h3 3, cell_of_block h4 4, free_of_block h4 4, boxin_old hb ho hlo hlf hg hl h5 (by simp) ((((((Below.refl _ _).setCell (p := ⟨g, 0, none⟩) (Nat.le_refl _) a0).setCell (p := ⟨g, 1, none⟩) (Nat.le_refl _) a1).setCell (p := ⟨g, 2, none⟩) (Nat.le_refl _) a2).setCell (p := ⟨g, 3, none⟩) (Nat.le_refl _) a3).setCell (p := ⟨g, 4, none⟩) (Nat.le_refl _) a4) (fun y hy => ((((Below.heap_setCell _ _ _ _ hy).trans (Below.heap_setCell _ _ _ _ hy)).trans (Below.heap_setCell _ _ _ _ hy)).trans (Below.heap_setCell _ _ _ _ hy)).trans (Below.heap_setCell _ _ _ _ hy))⟩
end Tr
end Go.Proofs.Ytcdmijnlpapjaaa

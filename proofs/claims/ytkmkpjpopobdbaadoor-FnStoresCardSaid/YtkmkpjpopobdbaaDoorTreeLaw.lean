/- What the walks of the laws take of worlds that lie one behind another. No program. -/
import Derived.Test.YtkmkpjpopobdbaaDoorTreeOps
import Derived.WalkKit
import Derived.Deep.RegionHeld3
import Derived.Deep.DeepCutAuto
namespace Go.Proofs.YtkmkpjpopobdbaaDoor
open Go.RowKit
set_option linter.unusedVariables false
namespace Tr
theorem cell_at {w w' : World} {g : Nat} {cur : Array Value} {T : TypeId} (hb : Below w.heap.size w w') (hx : w.heap[g]? = some (.cells cur T (0, 0))) (j : Nat) : w'.cell? ⟨g, j, none⟩ = cur[j]? :=
  cell_of_block ((hb.block g (lt_of_block hx)).trans hx) j
/-- a variable of two cells that a statement makes and fills: its block, and what its cells hold -/
def Boxed (w : World) (T : TypeId) (d : D) (a b : Value) (g : Nat) (w' : World) : Prop := Below w.heap.size w w' ∧ w'.heap[g]? = some (.cells #[a, b] T (0, 0)) ∧ Rd w' d [a, b]
/-- .. made behind the call that gives the value -/
theorem boxed_new {w wu : World} {T : TypeId} {d : D} {a b : Value} (hb : Below w.heap.size w wu) (hr : Rd wu d [a, b]) : Boxed w T d a b wu.heap.size (wu.alloc (.cells #[a, b] T)) :=
  ⟨hb.alloc hb.size _, heap_alloc_new _ _, hr.alloc _⟩
/-- .. made ahead of it -/
theorem boxed_old {w wu : World} {T : TypeId} {d : D} {a b z0 z1 : Value} {g lo : Nat} (hb : Below w.heap.size w wu) (hx : wu.heap[g]? = some (.cells #[z0, z1] T (0, 0))) (hg : w.heap.size ≤ g) (ho : Owned wu lo d [a, b]) (hl : g < lo) :
    wu.cell? ⟨g, 0, none⟩ = some z0 ∧ wu.frozen? ⟨g, 0, none⟩ = false ∧ (wu.setCell ⟨g, 0, none⟩ a).cell? ⟨g, 1, none⟩ = some z1 ∧ (wu.setCell ⟨g, 0, none⟩ a).frozen? ⟨g, 1, none⟩ = false ∧
      Hid (Boxed w T d a b g ((wu.setCell ⟨g, 0, none⟩ a).setCell ⟨g, 1, none⟩ b)) := by
  have h1 := block_set hx 0 a
  have h2 := block_set h1 1 b
  exact ⟨cell_of_block hx 0, free_of_block hx 0, cell_of_block h1 1, free_of_block h1 1, (hb.setCell (p := ⟨g, 0, none⟩) hg a).setCell (p := ⟨g, 1, none⟩) hg b, h2, ((ho.setCell (p := ⟨g, 0, none⟩) hl a).setCell (p := ⟨g, 1, none⟩) hl b).rd⟩
/-- .. of three cells -/
def Boxed3 (w : World) (T : TypeId) (d : D) (a b c : Value) (g : Nat) (w' : World) : Prop := Below w.heap.size w w' ∧ w'.heap[g]? = some (.cells #[a, b, c] T (0, 0)) ∧ Rd w' d [a, b, c]
theorem boxed3_new {w wu : World} {T : TypeId} {d : D} {a b c : Value} (hb : Below w.heap.size w wu) (hr : Rd wu d [a, b, c]) : Boxed3 w T d a b c wu.heap.size (wu.alloc (.cells #[a, b, c] T)) :=
  ⟨hb.alloc hb.size _, heap_alloc_new _ _, hr.alloc _⟩
theorem boxed3_old {w wu : World} {T : TypeId} {d : D} {a b c z0 z1 z2 : Value} {g lo : Nat} (hb : Below w.heap.size w wu) (hx : wu.heap[g]? = some (.cells #[z0, z1, z2] T (0, 0))) (hg : w.heap.size ≤ g) (ho : Owned wu lo d [a, b, c]) (hl : g < lo) :
    wu.cell? ⟨g, 0, none⟩ = some z0 ∧ wu.frozen? ⟨g, 0, none⟩ = false ∧ (wu.setCell ⟨g, 0, none⟩ a).cell? ⟨g, 1, none⟩ = some z1 ∧ (wu.setCell ⟨g, 0, none⟩ a).frozen? ⟨g, 1, none⟩ = false ∧
      ((wu.setCell ⟨g, 0, none⟩ a).setCell ⟨g, 1, none⟩ b).cell? ⟨g, 2, none⟩ = some z2 ∧ ((wu.setCell ⟨g, 0, none⟩ a).setCell ⟨g, 1, none⟩ b).frozen? ⟨g, 2, none⟩ = false ∧
      Hid (Boxed3 w T d a b c g (((wu.setCell ⟨g, 0, none⟩ a).setCell ⟨g, 1, none⟩ b).setCell ⟨g, 2, none⟩ c)) := by
  have h1 := block_set hx 0 a
  have h2 := block_set h1 1 b
  have h3 := block_set h2 2 c
  exact ⟨cell_of_block hx 0, free_of_block hx 0, cell_of_block h1 1, free_of_block h1 1, cell_of_block h2 2, free_of_block h2 2, ((hb.setCell (p := ⟨g, 0, none⟩) hg a).setCell (p := ⟨g, 1, none⟩) hg b).setCell (p := ⟨g, 2, none⟩) hg c, h3, (((ho.setCell (p := ⟨g, 0, none⟩) hl a).setCell (p := ⟨g, 1, none⟩) hl b).setCell (p := ⟨g, 2, none⟩) hl c).rd⟩
end Tr
end Go.Proofs.YtkmkpjpopobdbaaDoor

/- Data in memory: several cells of one block turned at once. No program. -/
import Derived.Test.YtgeakpeodhhffaaTreeOps
import Derived.Laws.IdiomCopy
namespace Go.Proofs.Ytgeakpeodhhffaa
open Go.RowKit
set_option linter.unusedVariables false
namespace Tr
theorem cells_own {g T : Nat} : ∀ (vs : List Value) (o : Nat) (w : World) (cur : Array Value), w.heap[g]? = some (.cells cur T (0, 0)) → o + vs.length ≤ cur.size →
    ∃ cur', (w.setCells g o vs).heap[g]? = some (.cells cur' T (0, 0)) ∧ Mid cur cur' o vs.length vs
  | [], o, w, cur, h, hl => ⟨cur, h, rfl, hl, rfl, by simp⟩
  | v :: r, o, w, cur, h, hl => by
    have hl' : o + 1 + r.length ≤ cur.size := by rw [List.length_cons] at hl; omega
    have hcl : cur.toList.length = cur.size := Array.length_toList
    obtain ⟨cur', h1, h2, h3, h4, h5⟩ := cells_own r (o + 1) (w.setCell ⟨g, o, none⟩ v) (cur.setIfInBounds o v) (block_set h o v) (by rw [Array.size_setIfInBounds]; exact hl')
    refine ⟨cur', h1, rfl, hl, by rw [h4, Array.size_setIfInBounds], ?_⟩
    rw [h5, Array.toList_setIfInBounds, List.length_cons, List.drop_set_of_lt (by omega), List.take_add_one, List.take_set_of_le (Nat.le_refl _), List.getElem?_set_self (by omega), show o + 1 + r.length = o + (r.length + 1) by omega]
    simp
theorem cells_far {g : Nat} : ∀ (vs : List Value) (o : Nat) (w : World) (y : Nat), y ≠ g → (w.setCells g o vs).heap[y]? = w.heap[y]?
  | [], _, _, _, _ => rfl
  | v :: r, o, w, y, h => (cells_far r (o + 1) _ y h).trans (Below.heap_setCell _ _ _ _ h)
theorem cells_below {B g : Nat} (hg : B ≤ g) : ∀ (vs : List Value) (o : Nat) {w0 w : World}, Below B w0 w → Below B w0 (w.setCells g o vs)
  | [], _, _, _, h => h
  | v :: r, o, _, _, h => cells_below hg r (o + 1) (h.setCell (p := ⟨g, o, none⟩) hg v)
end Tr
end Go.Proofs.Ytgeakpeodhhffaa

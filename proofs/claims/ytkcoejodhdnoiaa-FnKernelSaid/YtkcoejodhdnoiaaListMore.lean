/- Lists. No program. -/
import Derived.WalkKit
namespace Go.Proofs.Ytkcoejodhdnoiaa
namespace Tr
theorem countP_take {α : Type} (p : α → Bool) (l : List α) (i : Nat) (x : α) (h : l[i]? = some x) : (l.take (i + 1)).countP p = (l.take i).countP p + (if p x then 1 else 0) := by
  rw [List.take_add_one, h, List.countP_append]
  simp [List.countP_cons]
theorem mem_take_succ {α : Type} {P : α → Prop} {l : List α} {i : Nat} {x : α} (h : l[i]? = some x) (hl : ∀ y ∈ l.take i, P y) (hx : P x) : ∀ y ∈ l.take (i + 1), P y := by
  intro y hy
  rw [List.take_add_one, h, List.mem_append] at hy
  rcases hy with hy | hy
  · exact hl y hy
  · obtain rfl : y = x := by simpa using hy
    exact hx
end Tr
end Go.Proofs.Ytkcoejodhdnoiaa

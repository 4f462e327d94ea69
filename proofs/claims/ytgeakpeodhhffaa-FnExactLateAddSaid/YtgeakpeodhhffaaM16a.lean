/- Frees that wait: what the chapter says. No program. -/
import Derived.Test.YtgeakpeodhhffaaMod
namespace Go.Proofs.Ytgeakpeodhhffaa
namespace Tr
def noLt : GLate := ⟨0, 0⟩
instance : DecidableEq GLate := fun a b => decidable_of_iff (a.Index = b.Index ∧ a.Slot = b.Slot) ⟨fun h => by obtain ⟨_, _⟩ := a; obtain ⟨_, _⟩ := b; obtain ⟨rfl, rfl⟩ := h; rfl, fun h => by rw [h]; exact ⟨rfl, rfl⟩⟩
def pLateAdd (l : List GLate) (x : GLate) : List GLate × Bool := if x ∈ l ∨ 40 ≤ l.length then (l, false) else (l ++ [x], true)
end Tr
end Go.Proofs.Ytgeakpeodhhffaa

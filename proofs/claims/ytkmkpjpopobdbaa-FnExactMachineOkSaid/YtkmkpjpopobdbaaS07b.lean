/- The machine: the specification's functions that read, more. -/
import Derived.Test.YtkmkpjpopobdbaaS07
namespace Go.Proofs.Ytkmkpjpopobdbaa
open Go.RowKit
set_option linter.unusedVariables false
namespace Tr
/-- a result's variable of two plain cells -/
theorem ent_ret {w wr : World} {C : Nat} {T : TypeId} {a b z0 z1 : Value} (hw : w.heap.size ≤ C) (hb : Below w.heap.size w wr) (hx : wr.heap[C]? = some (.cells #[z0, z1] T (0, 0))) :
    wr.cell? ⟨C, 0, none⟩ = some z0 ∧ wr.frozen? ⟨C, 0, none⟩ = false ∧ (wr.setCell ⟨C, 0, none⟩ a).cell? ⟨C, 1, none⟩ = some z1 ∧ (wr.setCell ⟨C, 0, none⟩ a).frozen? ⟨C, 1, none⟩ = false ∧
      Hid (((wr.setCell ⟨C, 0, none⟩ a).setCell ⟨C, 1, none⟩ b).heap[C]? = some (.cells #[a, b] T (0, 0))) ∧ Hid (Below w.heap.size w ((wr.setCell ⟨C, 0, none⟩ a).setCell ⟨C, 1, none⟩ b)) := by
  have h1 := block_set hx 0 a
  exact ⟨cell_of_block hx 0, free_of_block hx 0, cell_of_block h1 1, free_of_block h1 1, block_set h1 1 b, (hb.setCell (p := ⟨C, 0, none⟩) hw a).setCell (p := ⟨C, 1, none⟩) hw b⟩
theorem inv_machine {w : World} {m : GMachine} {c0 c1 c2 : Value} (h : Rd w (eMachine m) [c0, c1, c2]) : ∃ (A : Option Addr) (n cap : Nat) (A2 : Option Addr) (n2 cap2 : Nat) (A3 : Option Addr) (n3 cap3 : Nat), c0 = .slice A n cap ∧ c1 = .slice A2 n2 cap2 ∧ c2 = .slice A3 n3 cap3 := by
  obtain ⟨bs, h⟩ := h
  obtain ⟨A, n, cap, A2, n2, cap2, A3, n3, cap3, e⟩ := sinv_Machine h
  obtain ⟨rfl, rfl, rfl⟩ : c0 = .slice A n cap ∧ c1 = .slice A2 n2 cap2 ∧ c2 = .slice A3 n3 cap3 := by simpa using e
  exact ⟨_, _, _, _, _, _, _, _, _, rfl, rfl, rfl⟩
end Tr
end Go.Proofs.Ytkmkpjpopobdbaa

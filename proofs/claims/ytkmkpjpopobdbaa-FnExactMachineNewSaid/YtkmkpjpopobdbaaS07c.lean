/- The machine: the specification's functions that make machines. -/
import Derived.Test.YtkmkpjpopobdbaaS07b
import Derived.Test.YtkmkpjpopobdbaaS05d
import Derived.Test.YtkmkpjpopobdbaaS05n
namespace Go.Proofs.Ytkmkpjpopobdbaa
open Go.RowKit
set_option linter.unusedVariables false
namespace Tr
/-- a result's variable of three cells -/
theorem ret3 {w wr : World} {C lo : Nat} {T : TypeId} {d : D} {a b c z0 z1 z2 : Value} (hw : w.heap.size ≤ C) (hb : Below w.heap.size w wr) (ho : Owned wr lo d [a, b, c]) (hl : C < lo) (hx : wr.heap[C]? = some (.cells #[z0, z1, z2] T (0, 0))) :
    wr.cell? ⟨C, 0, none⟩ = some z0 ∧ wr.frozen? ⟨C, 0, none⟩ = false ∧ (wr.setCell ⟨C, 0, none⟩ a).cell? ⟨C, 1, none⟩ = some z1 ∧ (wr.setCell ⟨C, 0, none⟩ a).frozen? ⟨C, 1, none⟩ = false ∧
      ((wr.setCell ⟨C, 0, none⟩ a).setCell ⟨C, 1, none⟩ b).cell? ⟨C, 2, none⟩ = some z2 ∧ ((wr.setCell ⟨C, 0, none⟩ a).setCell ⟨C, 1, none⟩ b).frozen? ⟨C, 2, none⟩ = false ∧
      Hid ((((wr.setCell ⟨C, 0, none⟩ a).setCell ⟨C, 1, none⟩ b).setCell ⟨C, 2, none⟩ c).heap[C]? = some (.cells #[a, b, c] T (0, 0))) ∧ Hid (Owned (((wr.setCell ⟨C, 0, none⟩ a).setCell ⟨C, 1, none⟩ b).setCell ⟨C, 2, none⟩ c) w.heap.size d [a, b, c]) ∧
      Hid (Below w.heap.size w (((wr.setCell ⟨C, 0, none⟩ a).setCell ⟨C, 1, none⟩ b).setCell ⟨C, 2, none⟩ c)) := by
  have h1 := block_set hx 0 a
  have h2 := block_set h1 1 b
  have h3 := block_set h2 2 c
  exact ⟨cell_of_block hx 0, free_of_block hx 0, cell_of_block h1 1, free_of_block h1 1, cell_of_block h2 2, free_of_block h2 2, h3,
    (((ho.setCell (p := ⟨C, 0, none⟩) hl a).setCell (p := ⟨C, 1, none⟩) hl b).setCell (p := ⟨C, 2, none⟩) hl c).mono (by omega), ((hb.setCell (p := ⟨C, 0, none⟩) hw a).setCell (p := ⟨C, 1, none⟩) hw b).setCell (p := ⟨C, 2, none⟩) hw c⟩
theorem owned_join' {w0 w : World} {B : Nat} {d e : D} {v1 v2 : List Value} (h1 : Owned w0 B d v1) (hb : Below w0.heap.size w0 w) (h2 : Owned w w0.heap.size e v2) (hB : B ≤ w0.heap.size) : Owned w B (d.app e) (v1 ++ v2) := by
  obtain ⟨q1, o1, d1, l1⟩ := h1
  obtain ⟨q2, o2, d2, l2⟩ := h2
  refine ⟨q1 ++ q2, (own_app _ _).2 ⟨_, _, q1, q2, rfl, rfl, own_below o1 hb (own_lt _ o1), o2⟩, ?_, ?_⟩
  · rw [List.nodup_append]
    exact ⟨d1, d2, fun a ha c hc e => by have h1 := own_lt _ o1 a ha; have h2 := l2 c hc; omega⟩
  · intro b hb
    rw [List.mem_append] at hb
    rcases hb with hb | hb
    · exact l1 b hb
    · have := l2 b hb; omega
end Tr
end Go.Proofs.Ytkmkpjpopobdbaa

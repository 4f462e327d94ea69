/- Merge plans of two spans: what the chapter says. -/
import Derived.Test.YthkjbjgpdapnpaaDoorM13
import Derived.Test.YthkjbjgpdapnpaaDoorM10
namespace Go.Proofs.YthkjbjgpdapnpaaDoor
open Go.RowKit
set_option linter.unusedVariables false
namespace Tr
def fewer (a b : GSpan) : Prop := (pSpanCells a).length < (pSpanCells b).length
instance (a b : GSpan) : Decidable (fewer a b) := by unfold fewer; infer_instance
def pKeep (a b : GSpan) : GSpan := if fewer a b then b else a
def pMove (a b : GSpan) : GSpan := if fewer a b then a else b
def pPlan (a b : GSpan) : GPlan := ⟨(pKeep a b).Page, (pMove a b).Page, pSpanCells (pMove a b)⟩
def pPlanPair (a b : GSpan) : GPlan × Bool := if pMesh a b = true then (pPlan a b, true) else (⟨0, 0, []⟩, false)
theorem cells_len (s : GSpan) : (pSpanCells s).length ≤ 16 := by
  unfold pSpanCells
  split
  · exact inUse_len s 16
  · exact Nat.zero_le _
theorem inUse_mem {s : GSpan} {n : Nat} {x : Int} : x ∈ inUse s n ↔ ∃ j : Nat, j < n ∧ x = (j : Int) ∧ Bm.has s.Bits ((j : Int).tdiv (Cl.csz s.Class)) = true := by
  unfold inUse
  simp only [List.mem_map, List.mem_filter, List.mem_range]
  constructor
  · rintro ⟨j, ⟨h1, h2⟩, rfl⟩; exact ⟨j, h1, rfl, h2⟩
  · rintro ⟨j, h1, rfl, h2⟩; exact ⟨j, ⟨h1, h2⟩, rfl⟩
theorem asc_snoc {l : List Int} {x : Int} (h : asc l) (hx : ∀ y ∈ l, y < x) (h0 : 0 ≤ x ∧ x ≤ 15) : asc (l ++ [x]) := by
  intro i hi
  rw [List.length_append, List.length_cons, List.length_nil] at hi
  have hg : ∀ j, j < l.length → (l ++ [x]).getD j 0 = l.getD j 0 := fun j hj => by
    rw [List.getD_eq_getElem?_getD, List.getElem?_append_left hj, ← List.getD_eq_getElem?_getD]
  have hl : ∀ j, j ≤ l.length → lastV (l ++ [x]) j = lastV l j := fun j hj => by
    cases j with
    | zero => rfl
    | succ j => exact hg j (by omega)
  unfold okAt
  rw [hl i (by omega)]
  by_cases e : i < l.length
  · rw [hg i e]; exact h i e
  · obtain rfl : i = l.length := by omega
    have hv : (l ++ [x]).getD l.length 0 = x := by rw [List.getD_eq_getElem?_getD, List.getElem?_append_right (Nat.le_refl _), Nat.sub_self]; rfl
    rw [hv]
    refine ⟨?_, h0⟩
    cases hn : l.length with
    | zero => show (-1 : Int) < x; omega
    | succ j =>
      refine hx _ ?_
      show l.getD j 0 ∈ l
      rw [List.getD_eq_getElem?_getD, List.getElem?_eq_getElem (by omega)]
      exact List.getElem_mem _
theorem inUse_asc (s : GSpan) : ∀ n, n ≤ 16 → asc (inUse s n)
  | 0, _ => fun i hi => by have : (inUse s 0).length = 0 := rfl; omega
  | n + 1, hn => by
    have ih := inUse_asc s n (by omega)
    rw [inUse_succ]
    split
    · refine asc_snoc ih (fun y hy => ?_) (by omega)
      obtain ⟨j, h1, rfl, _⟩ := inUse_mem.1 hy
      omega
    · exact ih
theorem cells_asc (s : GSpan) : asc (pSpanCells s) := by
  unfold pSpanCells
  split
  · exact inUse_asc s 16 (Nat.le_refl _)
  · exact fun i hi => by have : ([] : List Int).length = 0 := rfl; omega
theorem cells_mem {s : GSpan} (h : pSpanOk s = true) {j : Nat} (hj : j < 16) : (∃ k, k < (pSpanCells s).length ∧ (pSpanCells s).getD k 0 = (j : Int)) ↔ Bm.has s.Bits ((j : Int).tdiv (Cl.csz s.Class)) = true := by
  have e : pSpanCells s = inUse s 16 := if_pos h
  rw [e]
  constructor
  · rintro ⟨k, h1, h2⟩
    have hm : (inUse s 16).getD k 0 ∈ inUse s 16 := by
      rw [List.getD_eq_getElem?_getD, List.getElem?_eq_getElem h1]
      exact List.getElem_mem _
    obtain ⟨j', _, h4, h5⟩ := inUse_mem.1 hm
    rw [h2] at h4
    rwa [← h4] at h5
  · intro hh
    have hm : ((j : Nat) : Int) ∈ inUse s 16 := inUse_mem.2 ⟨j, hj, rfl, hh⟩
    obtain ⟨k, h1, h2⟩ := List.getElem_of_mem hm
    exact ⟨k, h1, by rw [List.getD_eq_getElem?_getD, List.getElem?_eq_getElem h1, h2]; rfl⟩
/-- the plan of two meshable spans is valid -/
theorem plan_ok {a b : GSpan} (h : pMesh a b = true) : plOk (pPlan a b) := by
  obtain ⟨h1, h2, h3, h4, h5⟩ := mesh_ok h
  have ha := (span_parts h1).1
  have hb := (span_parts h2).1
  unfold plOk pPlan pKeep pMove
  split
  · exact ⟨fun e => h4 e.symm, hb, ha, cells_asc _⟩
  · exact ⟨h4, ha, hb, cells_asc _⟩
end Tr
end Go.Proofs.YthkjbjgpdapnpaaDoor

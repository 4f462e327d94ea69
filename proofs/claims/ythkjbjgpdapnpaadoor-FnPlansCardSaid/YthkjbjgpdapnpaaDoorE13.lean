/- Merge plans: the specification's functions, by the symbolic run. -/
import Derived.Test.YthkjbjgpdapnpaaDoorE2b
import Derived.Test.YthkjbjgpdapnpaaDoorM13
import Derived.Test.YthkjbjgpdapnpaaDoorEngZ
namespace Go.Proofs.YthkjbjgpdapnpaaDoor
open Go.RowKit
set_option linter.unusedVariables false
set_option linter.unusedSimpArgs false
set_option maxRecDepth 100000
namespace Eng
open Tr
theorem ok_next {l : List Int} {i : Nat} (hi : ∀ k, k < i → okAt l k) (h : okAt l i) : ∀ k, k < i + 1 → okAt l k := fun k hk => by
  by_cases e : k = i
  · exact e ▸ h
  · exact hi k (by omega)
theorem plan_no {p : GPlan} {i : Nat} (hi : i < p.Cells.length) (h : ¬ okAt p.Cells i) : pPlanOk p = false := decide_eq_false fun hp => h (hp.2.2.2 i hi)
theorem okAt_iff {l : List Int} {i : Nat} : okAt l i ↔ (0 ≤ l.getD i 0 ∧ l.getD i 0 ≤ 15) ∧ ((i : Int) ≤ 0 ∨ l.getD (i - 1) 0 < l.getD i 0) := by
  cases i with
  | zero =>
    show (-1 < _ ∧ _) ↔ _
    omega
  | succ i =>
    show (l.getD i 0 < _ ∧ _) ↔ _
    rw [Nat.add_sub_cancel]
    omega
theorem plan_yes {p : GPlan} {i : Nat} (h : ∀ k, k < i → okAt p.Cells k) (hi : p.Cells.length ≤ i) : pPlanOk p = (bif bif inB p.Keep 0 31 then inB p.Move 0 31 else false then p.Keep != p.Move else false) := by
  have ha : asc p.Cells := fun k hk => h k (by omega)
  rw [Bool.eq_iff_iff]
  unfold pPlanOk
  rw [decide_eq_true_eq]
  simp only [inB, Bool.cond_false_right, Bool.and_eq_true, decide_eq_true_eq, bne_iff_ne]
  unfold plOk
  exact ⟨fun h => ⟨⟨h.2.1, h.2.2.1⟩, h.1⟩, fun h => ⟨h.2, h.1.1, h.1.2, ha⟩⟩
theorem mg_next {keep move cells : List Int} {i : Nat} : ((mgTo keep move cells i).map Tr.eI).set (cells.getD i 0).toNat (Tr.eI (move.getD (cells.getD i 0).toNat 0)) = (mgTo keep move cells (i + 1)).map Tr.eI := by
  rw [← List.map_set]; rfl
end Eng
end Go.Proofs.YthkjbjgpdapnpaaDoor

/- Merge plans: what the chapter says. -/
import Derived.Test.YtlkkiopjknbomaaMod
namespace Go.Proofs.Ytlkkiopjknbomaa
open Go.RowKit
set_option linter.unusedVariables false
namespace Tr
/-- the cell before number i -/
def lastV (l : List Int) : Nat → Int
  | 0 => -1
  | i + 1 => l.getD i 0
def okAt (l : List Int) (i : Nat) : Prop := lastV l i < l.getD i 0 ∧ 0 ≤ l.getD i 0 ∧ l.getD i 0 ≤ 15
instance (l : List Int) (i : Nat) : Decidable (okAt l i) := by unfold okAt; infer_instance
def asc (l : List Int) : Prop := ∀ i, i < l.length → okAt l i
instance (l : List Int) : Decidable (asc l) := by unfold asc; infer_instance
def plOk (p : GPlan) : Prop := p.Keep ≠ p.Move ∧ (0 ≤ p.Keep ∧ p.Keep ≤ 31) ∧ (0 ≤ p.Move ∧ p.Move ≤ 31) ∧ asc p.Cells
instance (p : GPlan) : Decidable (plOk p) := by unfold plOk; infer_instance
def pPlanOk (p : GPlan) : Bool := decide (plOk p)
/-- the first i cells taken from move -/
def mgTo (keep move cells : List Int) : Nat → List Int
  | 0 => keep
  | i + 1 => (mgTo keep move cells i).set (cells.getD i 0).toNat (move.getD (cells.getD i 0).toNat 0)
def mgOk (keep move : List Int) (p : GPlan) : Prop := plOk p ∧ keep.length = 16 ∧ move.length = 16
instance (keep move : List Int) (p : GPlan) : Decidable (mgOk keep move p) := by unfold mgOk; infer_instance
def pMergedText (keep move : List Int) (p : GPlan) : List Int := if mgOk keep move p then mgTo keep move p.Cells p.Cells.length else []
def pPlanSaves (p : GPlan) : Int := if plOk p then 16 - (p.Cells.length : Int) else 0
theorem mgTo_len (keep move cells : List Int) : ∀ i, (mgTo keep move cells i).length = keep.length
  | 0 => rfl
  | i + 1 => by unfold mgTo; rw [List.length_set, mgTo_len keep move cells i]
theorem merged_len (keep move : List Int) (p : GPlan) : (pMergedText keep move p).length ≤ 16 := by
  unfold pMergedText
  split
  · rename_i h
    rw [mgTo_len, h.2.1]; exact Nat.le_refl _
  · exact Nat.zero_le _
theorem asc_at {l : List Int} (h : asc l) {i : Nat} (hi : i < l.length) : 0 ≤ l.getD i 0 ∧ l.getD i 0 ≤ 15 := (h i hi).2
theorem asc_ge {l : List Int} (h : asc l) : ∀ i, i < l.length → (i : Int) ≤ l.getD i 0
  | 0, hi => (h 0 hi).2.1
  | i + 1, hi => by
    have h1 := asc_ge h i (by omega)
    have h2 : l.getD i 0 < l.getD (i + 1) 0 := (h (i + 1) hi).1
    omega
theorem asc_len {l : List Int} (h : asc l) : l.length ≤ 16 := by
  rcases Nat.lt_or_ge 16 l.length with h1 | h1
  · have h2 := asc_ge h 16 h1
    have h3 := (asc_at h h1).2
    omega
  · exact h1
/-- what a merged text holds -/
theorem mgTo_at {keep move cells : List Int} (hk : keep.length = 16) (hc : asc cells) {j : Nat} (hj : j < 16) : ∀ i, i ≤ cells.length → (mgTo keep move cells i).getD j 0 = if (∃ k, k < i ∧ cells.getD k 0 = (j : Int)) then move.getD j 0 else keep.getD j 0
  | 0, _ => by rw [if_neg (fun ⟨_, h, _⟩ => by omega)]; rfl
  | i + 1, hi => by
    have ih := mgTo_at (move := move) hk hc hj i (by omega)
    have hr := asc_at hc (i := i) (by omega)
    have hl := mgTo_len keep move cells i
    show ((mgTo keep move cells i).set (cells.getD i 0).toNat (move.getD (cells.getD i 0).toNat 0)).getD j 0 = _
    by_cases e : cells.getD i 0 = (j : Int)
    · rw [if_pos ⟨i, by omega, e⟩, e, Int.toNat_natCast, List.getD_eq_getElem?_getD, List.getElem?_set_self (by omega)]
      rfl
    · rw [List.getD_eq_getElem?_getD, List.getElem?_set_ne (by omega), ← List.getD_eq_getElem?_getD, ih]
      by_cases h : ∃ k, k < i ∧ cells.getD k 0 = (j : Int)
      · obtain ⟨k, h1, h2⟩ := h
        rw [if_pos ⟨k, h1, h2⟩, if_pos ⟨k, by omega, h2⟩]
      · rw [if_neg h, if_neg]
        rintro ⟨k, h1, h2⟩
        by_cases ek : k = i
        · exact e (ek ▸ h2)
        · exact h ⟨k, by omega, h2⟩
theorem asc_snoc {l : List Int} {x : Int} (h : asc l) (hx : ∀ y ∈ l, y < x) (h0 : 0 ≤ x ∧ x ≤ 15) : asc (l ++ [x]) := by
  intro i hi
  rw [List.length_append, List.length_cons, List.length_nil] at hi
  have hg : ∀ j, j < l.length → (l ++ [x]).getD j 0 = l.getD j 0 := fun j hj => by
    rw [List.getD_eq_getElem?_getD, List.getElem?_append_left hj, ← List.getD_eq_getElem?_getD]
  have hl : ∀ j, j ≤ l.length → lastV (l ++ [x]) j = lastV l j := fun j hj => by
    cases j with
    | zero => rfl
    | succ j => exact hg j (by omega)
  unfold okAt
  rw [hl i (by omega)]
  by_cases e : i < l.length
  · rw [hg i e]; exact h i e
  · obtain rfl : i = l.length := by omega
    have hv : (l ++ [x]).getD l.length 0 = x := by rw [List.getD_eq_getElem?_getD, List.getElem?_append_right (Nat.le_refl _), Nat.sub_self]; rfl
    rw [hv]
    refine ⟨?_, h0⟩
    cases hn : l.length with
    | zero => show (-1 : Int) < x; omega
    | succ j =>
      refine hx _ ?_
      show l.getD j 0 ∈ l
      rw [List.getD_eq_getElem?_getD, List.getElem?_eq_getElem (by omega)]
      exact List.getElem_mem _
end Tr
end Go.Proofs.Ytlkkiopjknbomaa

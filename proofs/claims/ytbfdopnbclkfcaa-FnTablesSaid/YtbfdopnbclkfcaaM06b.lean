/- Page tables: what the law on tables says. No program. -/
import Derived.Test.YtbfdopnbclkfcaaM06
namespace Go.Proofs.Ytbfdopnbclkfcaa
open Go.RowKit
set_option linter.unusedVariables false
namespace Tr
def tab0 (n : Nat) : GTable := ⟨List.replicate n ⟨0, 0⟩⟩
def tab1 (n a : Nat) : GTable := ⟨(List.replicate n ⟨0, 0⟩).set a ⟨1, 3⟩⟩
def tab2 (n a b : Nat) : GTable := ⟨((List.replicate n ⟨0, 0⟩).set a ⟨1, 3⟩).set b ⟨2, 3⟩⟩
theorem tab_new {n : Nat} (h1 : 2 ≤ n) (h2 : n ≤ 9) : pTableNew (n : Int) = (tab0 n, true) := by
  unfold pTableNew
  rw [if_pos (by omega), Int.toNat_natCast]; rfl
theorem tab_set1 {n a : Nat} (ha : a < n) : pSetPage (tab0 n) (a : Int) ⟨1, 3⟩ = (tab1 n a, true) := by
  unfold pSetPage
  rw [if_pos ⟨⟨by omega, by show (a : Int) < ((List.replicate n _).length : Int); rw [List.length_replicate]; omega⟩, .inr ⟨.inl rfl, by show (0 : Int) ≤ 3; omega⟩⟩, Int.toNat_natCast]; rfl
theorem tab_set2 {n a b : Nat} (hb : b < n) : pSetPage (tab1 n a) (b : Int) ⟨2, 3⟩ = (tab2 n a b, true) := by
  unfold pSetPage
  rw [if_pos ⟨⟨by omega, by show (b : Int) < (((List.replicate n _).set a _).length : Int); rw [List.length_set, List.length_replicate]; omega⟩, .inr ⟨.inr rfl, by show (0 : Int) ≤ 3; omega⟩⟩, Int.toNat_natCast]; rfl
def tabB (n a b : Nat) : Bool := decide ((pPagesOn (tab2 n a b) 3).length = (if a = b then 1 else 2)) && (decide (pMappedPages (tab2 n a b) = (if a = b then 1 else 2)) && (decide ((pPageEntry (tab2 n a b) (b : Int)).Mode = 2) && (decide ((pPageEntry (tab2 n a b) (b : Int)).Frame = 3) && (pTableOk (tab2 n a b) 4 && !pTableOk (tab2 n a b) 3))))
set_option maxRecDepth 100000 in
theorem tab_dec : ((List.range 10).all fun n => (List.range 9).all fun a => (List.range 9).all fun b => !(decide (2 ≤ n ∧ a < n ∧ b < n)) || tabB n a b) = true := by decide +kernel
theorem tab_all {n a b : Nat} (h1 : 2 ≤ n) (h2 : n ≤ 9) (ha : a < n) (hb : b < n) : (pPagesOn (tab2 n a b) 3).length = (if a = b then 1 else 2) ∧ pMappedPages (tab2 n a b) = (if a = b then 1 else 2) ∧ (pPageEntry (tab2 n a b) (b : Int)).Mode = 2 ∧ (pPageEntry (tab2 n a b) (b : Int)).Frame = 3 ∧ pTableOk (tab2 n a b) 4 = true ∧ pTableOk (tab2 n a b) 3 = false := by
  have h := tab_dec
  rw [List.all_eq_true] at h
  have h := h n (List.mem_range.2 (by omega))
  rw [List.all_eq_true] at h
  have h := h a (List.mem_range.2 (by omega))
  rw [List.all_eq_true] at h
  have h := h b (List.mem_range.2 (by omega))
  rw [Bool.or_eq_true, Bool.not_eq_true', decide_eq_false_iff_not] at h
  rcases h with h | h
  · exact absurd ⟨h1, ha, hb⟩ h
  · unfold tabB at h
    simp only [Bool.and_eq_true, decide_eq_true_eq, Bool.not_eq_true'] at h
    exact h
theorem tab_sz0 {n : Nat} : ((tab0 n).Entries).length = n := by show (List.replicate n _).length = n; rw [List.length_replicate]
theorem tab_sz1 {n a : Nat} : ((tab1 n a).Entries).length = n := by show ((List.replicate n _).set a _).length = n; rw [List.length_set, List.length_replicate]
theorem tab_sz2 {n a b : Nat} : ((tab2 n a b).Entries).length = n := by show (((List.replicate n _).set a _).set b _).length = n; rw [List.length_set, List.length_set, List.length_replicate]
end Tr
end Go.Proofs.Ytbfdopnbclkfcaa

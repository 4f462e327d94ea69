/- Meshable spans: what the chapter's three laws ask. No program. -/
import Derived.Test.YthkjbjgpdapnpaaDoorM10
namespace Go.Proofs.YthkjbjgpdapnpaaDoor
open Go.RowKit
set_option linter.unusedVariables false
set_option linter.unusedSimpArgs false
namespace Tr
open Bm Cl Sd
theorem cnt_or {a b : Nat} (h : a &&& b = 0) : ∀ k, cnt (a ||| b) k = cnt a k + cnt b k
  | 0 => rfl
  | k + 1 => by
    have hk : (a.testBit k && b.testBit k) = false := by rw [← Nat.testBit_and, h, Nat.zero_testBit]
    rw [cnt_succ, cnt_succ, cnt_succ, cnt_or h k, Nat.testBit_or]
    cases ha : a.testBit k <;> cases hb : b.testBit k <;> simp_all <;> omega
theorem bitsTo_off {l : List GSpan} (h : gOk l) {i : Nat} (hi : i < l.length) : ∀ j, j ≤ i → bitsTo l j &&& (l.getD i spD).Bits.toNat = 0
  | 0, _ => by show 0 &&& _ = 0; exact Nat.zero_and _
  | j + 1, hj => by
    show (bitsTo l j ||| (l.getD j spD).Bits.toNat) &&& _ = 0
    rw [Nat.and_or_distrib_right, bitsTo_off h hi j (by omega), (mesh_ok (h.1 i hi j (by omega))).2.2.2.2, Nat.or_zero]
/-- the slots in use, counted span by span -/
def cntsTo (l : List GSpan) : Nat → Int
  | 0 => 0
  | i + 1 => cntsTo l i + count (l.getD i spD).Bits
theorem count_nat (n : Nat) : count (n : Int) = (cnt n 16 : Nat) := by
  unfold count
  rw [if_pos (Int.natCast_nonneg _), Int.toNat_natCast]
theorem cntsTo_eq {l : List GSpan} (h : gOk l) : ∀ i, i ≤ l.length → cntsTo l i = count ((bitsTo l i : Nat) : Int)
  | 0, _ => by rw [count_nat]; show (0 : Int) = ((cnt 0 16 : Nat) : Int); rw [show cnt 0 16 = 0 by decide +kernel]; rfl
  | i + 1, hi => by
    have hb := bitsN_nat (gOk_valid h (i := i) (by omega))
    show cntsTo l i + count (l.getD i spD).Bits = count ((bitsTo l i ||| (l.getD i spD).Bits.toNat : Nat) : Int)
    rw [cntsTo_eq h i (by omega), count_nat, count_nat, cnt_or (bitsTo_off h (i := i) (by omega) i (Nat.le_refl _)), hb.1, count_nat, Int.toNat_natCast]
    omega
theorem cntsTo_le {l : List GSpan} : ∀ i, 0 ≤ cntsTo l i ∧ cntsTo l i ≤ 16 * i
  | 0 => by show (0 : Int) ≤ 0 ∧ (0 : Int) ≤ 16 * 0; omega
  | i + 1 => by
    have h1 := cntsTo_le (l := l) i
    have h2 : 0 ≤ count (l.getD i spD).Bits ∧ count (l.getD i spD).Bits ≤ 16 := by
      unfold count
      split
      · have : cnt (l.getD i spD).Bits.toNat 16 ≤ 16 := by
          unfold cnt
          exact Nat.le_trans (List.length_filter_le _ _) (by rw [List.length_range]; exact Nat.le_refl _)
        omega
      · omega
    show 0 ≤ cntsTo l i + _ ∧ cntsTo l i + _ ≤ _
    omega
/-- a slot is found, or no span has it -/
theorem firstH_cases (slot : Int) : ∀ (i : Nat) (l : List GSpan), (firstH slot i l = -1 ∧ ∀ s ∈ l, has s.Bits slot = false) ∨ ∃ j, j < l.length ∧ firstH slot i l = ((i + j : Nat) : Int) ∧ has (l.getD j spD).Bits slot = true
  | i, [] => .inl ⟨rfl, by simp⟩
  | i, s :: l => by
    by_cases hs : has s.Bits slot = true
    · exact .inr ⟨0, by simp, if_pos hs, hs⟩
    · have e : firstH slot i (s :: l) = firstH slot (i + 1) l := if_neg hs
      rcases firstH_cases slot (i + 1) l with ⟨h1, h2⟩ | ⟨j, h1, h2, h3⟩
      · refine .inl ⟨e.trans h1, fun x hx => ?_⟩
        rcases List.mem_cons.1 hx with rfl | hx
        · simpa using hs
        · exact h2 x hx
      · exact .inr ⟨j + 1, by simp only [List.length_cons]; omega, by rw [e, h2]; omega, h3⟩
theorem has_or (a b k : Nat) (hk : k ≤ 15) : has ((a ||| b : Nat) : Int) k = (has (a : Int) k || has (b : Int) k) := by
  rw [has_nat _ _ hk, has_nat _ _ hk, has_nat _ _ hk, Nat.testBit_or]
theorem has_bitsTo {l : List GSpan} (h : gOk l) (k : Nat) (hk : k ≤ 15) : ∀ i, i ≤ l.length → (has ((bitsTo l i : Nat) : Int) k = true ↔ ∃ j, j < i ∧ has (l.getD j spD).Bits k = true)
  | 0, _ => by
    show has ((0 : Nat) : Int) k = true ↔ _
    rw [has_nat _ _ hk, Nat.zero_testBit]
    simp
  | i + 1, hi => by
    have hb := bitsN_nat (gOk_valid h (i := i) (by omega))
    show has ((bitsTo l i ||| (l.getD i spD).Bits.toNat : Nat) : Int) k = true ↔ _
    rw [has_or _ _ _ hk, Bool.or_eq_true, has_bitsTo h k hk i (by omega), ← hb.1]
    constructor
    · rintro (⟨j, h1, h2⟩ | h1)
      · exact ⟨j, by omega, h2⟩
      · exact ⟨i, by omega, h1⟩
    · rintro ⟨j, h1, h2⟩
      by_cases e : j = i
      · exact .inr (e ▸ h2)
      · exact .inl ⟨j, by omega, h2⟩
/-- what FnGroups asks of one slot -/
theorem group_slot {l : List GSpan} (h : gOk l) (k : Nat) (hk : k ≤ 15) : (decide (0 ≤ pGroupSlot l k)) = has (pGroupBits l) k ∧ pGroupSlot l k < l.length ∧ (0 ≤ pGroupSlot l k → (pGroupSlot l k).toNat < l.length ∧ has (l.getD (pGroupSlot l k).toNat spD).Bits k = true) := by
  have e1 : pGroupSlot l k = firstH k 0 l := if_pos h
  have e2 : pGroupBits l = ((bitsTo l l.length : Nat) : Int) := if_pos h
  have hb := has_bitsTo h k hk l.length (Nat.le_refl _)
  rw [e1, e2]
  rcases firstH_cases k 0 l with ⟨h1, h2⟩ | ⟨j, h1, h2, h3⟩
  · rw [h1]
    refine ⟨?_, by omega, fun hn => by omega⟩
    rw [decide_eq_false (by omega)]
    cases hc : has ((bitsTo l l.length : Nat) : Int) k with
    | false => rfl
    | true =>
      obtain ⟨j, g1, g2⟩ := hb.1 hc
      have := h2 (l.getD j spD) (by rw [show l.getD j spD = l[j] by simp [List.getD, g1]]; exact List.getElem_mem _)
      rw [this] at g2; cases g2
  · rw [h2, Nat.zero_add]
    refine ⟨?_, by omega, fun _ => ⟨by omega, by rw [Int.toNat_natCast]; exact h3⟩⟩
    rw [decide_eq_true (by omega), hb.2 ⟨j, h1, h3⟩]
/-- meshing is symmetric -/
theorem mesh_symm (a b : GSpan) : pMesh a b = pMesh b a := by
  unfold pMesh
  rw [show (a.Class == b.Class) = (b.Class == a.Class) by rw [Bool.eq_iff_iff, beq_iff_eq, beq_iff_eq]; exact eq_comm, show (a.Page != b.Page) = (b.Page != a.Page) by rw [Bool.eq_iff_iff, bne_iff_ne, bne_iff_ne]; exact ne_comm, Nat.and_comm, Bool.and_comm (pSpanOk a)]
theorem mesh_self (a : GSpan) : pMesh a a = false := by
  unfold pMesh
  simp
/-- the pairs of a list, counted -/
theorem edg_tri (l : List GSpan) : ∀ n, 2 * edgTo l n + n ≤ n * n
  | 0 => Nat.le_refl _
  | n + 1 => by
    have h1 := edg_tri l n
    have h2 := cntTo_le l n n
    have e : (n + 1) * (n + 1) = n * n + 2 * n + 1 := by rw [Nat.add_mul, Nat.mul_add]; omega
    rw [e]
    show 2 * (edgTo l n + cntTo l n n) + (n + 1) ≤ _
    omega
theorem cntTo_take (l : List GSpan) (m i : Nat) (hi : i < m) : ∀ k, k ≤ i → cntTo (l.take m) i k = cntTo l i k
  | 0, _ => rfl
  | k + 1, hk => by
    have e : ∀ j, j < m → (l.take m).getD j spD = l.getD j spD := fun j hj => by
      rw [List.getD_eq_getElem?_getD, List.getElem?_take, if_pos hj, ← List.getD_eq_getElem?_getD]
    unfold cntTo
    rw [cntTo_take l m i hi k (by omega), e k (by omega), e i hi]
theorem edgTo_take (l : List GSpan) (m : Nat) : ∀ i, i ≤ m → edgTo (l.take m) i = edgTo l i
  | 0, _ => rfl
  | i + 1, hi => by
    unfold edgTo
    rw [edgTo_take l m i (by omega), cntTo_take l m i (by omega) i (Nat.le_refl _)]
theorem edgTo_mono (l : List GSpan) {m n : Nat} (h : m ≤ n) : edgTo l m ≤ edgTo l n := by
  induction n with
  | zero => rw [Nat.le_zero.1 h]; exact Nat.le_refl _
  | succ n ih =>
    by_cases e : m = n + 1
    · rw [e]; exact Nat.le_refl _
    · exact Nat.le_trans (ih (by omega)) (Nat.le_add_right _ _)
theorem edges_take (l : List GSpan) (m : Nat) (h : m ≤ l.length) : pMeshEdges (l.take m) ≤ pMeshEdges l := by
  unfold pMeshEdges
  rw [List.length_take, Nat.min_eq_left h, edgTo_take l m m (Nat.le_refl _)]
  have := edgTo_mono l h
  omega
theorem edges_tri (l : List GSpan) : 0 ≤ pMeshEdges l ∧ 2 * pMeshEdges l ≤ (l.length : Int) * ((l.length : Int) - 1) := by
  have := edg_tri l l.length
  unfold pMeshEdges
  refine ⟨Int.natCast_nonneg _, ?_⟩
  rw [Int.mul_sub, Int.mul_one]
  have e : ((l.length * l.length : Nat) : Int) = (l.length : Int) * (l.length : Int) := Int.natCast_mul _ _
  generalize (l.length : Int) * (l.length : Int) = q at *
  omega
theorem edges_two : pMeshEdges [⟨0, 0, 0⟩, ⟨1, 0, 0⟩] = 1 := by decide +kernel
theorem edges_none {l : List GSpan} (h : l.length = 0) : pMeshEdges l = 0 := by
  unfold pMeshEdges
  rw [h]; rfl
end Tr
end Go.Proofs.YthkjbjgpdapnpaaDoor

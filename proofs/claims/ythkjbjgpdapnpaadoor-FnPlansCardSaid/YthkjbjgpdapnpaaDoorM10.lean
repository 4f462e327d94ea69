/- Meshable spans: what the chapter says. -/
import Derived.Test.YthkjbjgpdapnpaaDoorM09
import Derived.Test.YthkjbjgpdapnpaaDoorBit2
namespace Go.Proofs.YthkjbjgpdapnpaaDoor
open Go.RowKit
set_option linter.unusedVariables false
set_option linter.unusedSimpArgs false
namespace Tr
open Bm Cl Sd
def spD : GSpan := ⟨0, 0, 0⟩
def pMesh (a b : GSpan) : Bool := pSpanOk a && pSpanOk b && (a.Class == b.Class) && (a.Page != b.Page) && ((a.Bits.toNat &&& b.Bits.toNat) == 0)
/-- every two are meshable; the first one is valid -/
def gOk (l : List GSpan) : Prop := (∀ i, i < l.length → ∀ k, k < i → pMesh (l.getD k spD) (l.getD i spD) = true) ∧ 0 < l.length ∧ pSpanOk (l.getD 0 spD) = true
instance (l : List GSpan) : Decidable (gOk l) := by unfold gOk; infer_instance
def pGroupOk (l : List GSpan) : Bool := decide (gOk l)
/-- the slots in use of the first i spans -/
def bitsTo (l : List GSpan) : Nat → Nat
  | 0 => 0
  | i + 1 => bitsTo l i ||| (l.getD i spD).Bits.toNat
def pGroupBits (l : List GSpan) : Int := if gOk l then ((bitsTo l l.length : Nat) : Int) else 0
/-- the first span, from number i on, that has a slot -/
def firstH (slot : Int) : Nat → List GSpan → Int
  | _, [] => -1
  | i, s :: l => if has s.Bits slot = true then (i : Int) else firstH slot (i + 1) l
def pGroupSlot (l : List GSpan) (slot : Int) : Int := if gOk l then firstH slot 0 l else -1
def cntTo (l : List GSpan) (i : Nat) : Nat → Nat
  | 0 => 0
  | k + 1 => cntTo l i k + if pMesh (l.getD k spD) (l.getD i spD) = true then 1 else 0
def edgTo (l : List GSpan) : Nat → Nat
  | 0 => 0
  | i + 1 => edgTo l i + cntTo l i i
def pMeshEdges (l : List GSpan) : Int := ((edgTo l l.length : Nat) : Int)
theorem cntTo_le (l : List GSpan) (i : Nat) : ∀ k, cntTo l i k ≤ k
  | 0 => Nat.le_refl _
  | k + 1 => by have := cntTo_le l i k; unfold cntTo; split <;> omega
theorem edgTo_le (l : List GSpan) : ∀ n, edgTo l n ≤ n * n
  | 0 => Nat.le_refl _
  | n + 1 => by
    have h1 := edgTo_le l n
    have h2 := cntTo_le l n n
    have e : (n + 1) * (n + 1) = n * n + 2 * n + 1 := by rw [Nat.add_mul, Nat.mul_add]; omega
    rw [e]
    unfold edgTo
    omega
theorem mesh_ok {a b : GSpan} (h : pMesh a b = true) : pSpanOk a = true ∧ pSpanOk b = true ∧ a.Class = b.Class ∧ a.Page ≠ b.Page ∧ a.Bits.toNat &&& b.Bits.toNat = 0 := by
  unfold pMesh at h
  simp only [Bool.and_eq_true, beq_iff_eq, bne_iff_ne] at h
  exact ⟨h.1.1.1.1, h.1.1.1.2, h.1.1.2, h.1.2, h.2⟩
theorem gOk_valid {l : List GSpan} (h : gOk l) {i : Nat} (hi : i < l.length) : pSpanOk (l.getD i spD) = true := by
  cases i with
  | zero => exact h.2.2
  | succ i => exact (mesh_ok (h.1 (i + 1) hi 0 (by omega))).2.1
theorem bitsN_nat {s : GSpan} (h : pSpanOk s = true) : s.Bits = ((s.Bits.toNat : Nat) : Int) ∧ s.Bits.toNat < 65536 := by
  have := bits_bd h
  omega
theorem bitsTo_lt {l : List GSpan} (h : gOk l) : ∀ i, i ≤ l.length → bitsTo l i < 65536
  | 0, _ => by show (0 : Nat) < 65536; decide
  | i + 1, hi => by
    have h1 := bitsTo_lt h i (by omega)
    have h2 := (bitsN_nat (gOk_valid h (i := i) (by omega))).2
    exact Nat.or_lt_two_pow (n := 16) h1 h2
theorem firstH_skip (slot : Int) : ∀ (i : Nat) (a b : List GSpan), (∀ s ∈ a, has s.Bits slot = false) → firstH slot i (a ++ b) = firstH slot (i + a.length) b
  | _, [], _, _ => rfl
  | i, s :: a, b, h => by
    have hs := h s (by simp)
    show (if has s.Bits slot = true then _ else _) = _
    rw [if_neg (by rw [hs]; exact Bool.false_ne_true)]
    show firstH slot (i + 1) (a ++ b) = _
    rw [firstH_skip slot (i + 1) a b (fun x hx => h x (by simp [hx])), show i + 1 + a.length = i + (s :: a).length by simp only [List.length_cons]; omega]
theorem firstH_hit (slot : Int) (l : List GSpan) {i : Nat} (hi : i < l.length) (h : has (l.getD i spD).Bits slot = true) (ha : ∀ s ∈ l.take i, has s.Bits slot = false) : firstH slot 0 l = (i : Int) := by
  have e : l = l.take i ++ (l.getD i spD) :: l.drop (i + 1) := by
    rw [show l.getD i spD = l[i] by simp [List.getD, hi]]
    simp
  rw [e, firstH_skip slot 0 _ _ ha, List.length_take, Nat.min_eq_left (by omega), Nat.zero_add]
  exact if_pos h
theorem firstH_none (slot : Int) (l : List GSpan) (ha : ∀ s ∈ l, has s.Bits slot = false) : firstH slot 0 l = -1 := by
  have := firstH_skip slot 0 l [] ha
  rw [List.append_nil] at this
  rw [this]; rfl
end Tr
end Go.Proofs.YthkjbjgpdapnpaaDoor

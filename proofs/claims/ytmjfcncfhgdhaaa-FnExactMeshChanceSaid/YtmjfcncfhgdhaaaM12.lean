/- Exact chances: what the chapter says. -/
import Derived.Test.YtmjfcncfhgdhaaaMod
import Derived.Test.YtmjfcncfhgdhaaaBit2
namespace Go.Proofs.Ytmjfcncfhgdhaaa
open Go.RowKit
set_option linter.unusedVariables false
set_option linter.unusedSimpArgs false
namespace Tr
open Bm
/-- the number of subsets, multiplied up from below: after i steps -/
def bnS (n k : Nat) : Nat → Nat
  | 0 => 1
  | i + 1 => bnS n k i * (n - k + (i + 1)) / (i + 1)
/-- the number of subsets with i elements -/
def bnI (n : Nat) : Nat → Nat
  | 0 => 1
  | i + 1 => bnI n i * (n - i) / (i + 1)
theorem bn_tab : ∀ n, n < 17 → ∀ k, k < n + 1 → bnS n k k = bnI n k ∧ ∀ i, i < k + 1 → bnS n k i ≤ 12870 ∧ bnI n i ≤ 12870 ∧ 0 < bnI n i := by decide +kernel
def bnOk (n k : Int) : Prop := 0 ≤ n ∧ n ≤ 16 ∧ 0 ≤ k ∧ k ≤ n
instance (n k : Int) : Decidable (bnOk n k) := by unfold bnOk; infer_instance
def pBinomial (n k : Int) : Int := if bnOk n k then ((bnI n.toNat k.toNat : Nat) : Int) else 0
/-- the division of two numbers, again and again -/
def eu (a b : Nat) : Nat → Nat × Nat
  | 0 => (a, b)
  | i + 1 => ((eu a b i).2, (eu a b i).1 % (eu a b i).2)
theorem eu_gcd (a b : Nat) : ∀ i, Nat.gcd (eu a b i).1 (eu a b i).2 = Nat.gcd a b
  | 0 => rfl
  | i + 1 => by
    rw [← eu_gcd a b i]
    show Nat.gcd (eu a b i).2 ((eu a b i).1 % (eu a b i).2) = _
    rw [Nat.gcd_comm _ ((eu a b i).1 % (eu a b i).2), ← Nat.gcd_rec, Nat.gcd_comm]
theorem eu_less {a b i : Nat} (h : (eu a b i).2 ≠ 0) : (eu a b (i + 1)).2 < (eu a b i).2 := Nat.mod_lt _ (by omega)
theorem eu_end {a b i : Nat} (h : (eu a b i).2 = 0) : (eu a b i).1 = Nat.gcd a b := by
  rw [← eu_gcd a b i, h, Nat.gcd_zero_right]
def frOk (f : GFraction) : Prop := 0 ≤ f.Num ∧ 1 ≤ f.Den
instance (f : GFraction) : Decidable (frOk f) := by unfold frOk; infer_instance
def gN (f : GFraction) : Nat := Nat.gcd f.Num.toNat f.Den.toNat
def pReduced (f : GFraction) : GFraction := if frOk f then ⟨((f.Num.toNat / gN f : Nat) : Int), ((f.Den.toNat / gN f : Nat) : Int)⟩ else ⟨0, 0⟩
def chOk (n a b : Int) : Prop := 1 ≤ n ∧ n ≤ 16 ∧ 0 ≤ a ∧ a ≤ n ∧ 0 ≤ b ∧ b ≤ n
instance (n a b : Int) : Decidable (chOk n a b) := by unfold chOk; infer_instance
def pMeshChance (n a b : Int) : GFraction := if chOk n a b then pReduced ⟨pBinomial (n - a) b, pBinomial n b⟩ else ⟨0, 0⟩
/-- the bitmaps below x with b slots in use and none below a -/
def dj (a b : Nat) : Nat → Nat
  | 0 => 0
  | x + 1 => dj a b x + bif Nat.beq (Nat.land x (2 ^ a - 1)) 0 && Nat.beq (cnt x 16) b then 1 else 0
theorem dj_le (a b : Nat) : ∀ x, dj a b x ≤ x
  | 0 => Nat.le_refl _
  | x + 1 => by
    have := dj_le a b x
    show dj a b x + (bif _ then 1 else 0) ≤ _
    cases Nat.beq (Nat.land x (2 ^ a - 1)) 0 && Nat.beq (cnt x 16) b
    · show dj a b x + 0 ≤ _; omega
    · show dj a b x + 1 ≤ _; omega
def djOk (n a b : Int) : Prop := chOk n a b ∧ n ≤ 10
instance (n a b : Int) : Decidable (djOk n a b) := by unfold djOk; infer_instance
def pCountDisjoint (n a b : Int) : Int := if djOk n a b then ((dj a.toNat b.toNat (2 ^ n.toNat) : Nat) : Int) else 0
def flOk (f : GFraction) : Bool := decide (0 ≤ f.Num) && decide (f.Num ≤ 1000000) && decide (1 ≤ f.Den) && decide (f.Den ≤ 1000000)
def pFractionLess (f g : GFraction) : Bool := flOk f && flOk g && decide (f.Num * g.Den < g.Num * f.Den)
end Tr
end Go.Proofs.Ytmjfcncfhgdhaaa

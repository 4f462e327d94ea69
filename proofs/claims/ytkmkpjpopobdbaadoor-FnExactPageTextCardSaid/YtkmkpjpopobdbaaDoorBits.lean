/- Bitmaps: the model's functions of chapter 2. -/
import Derived.Test.YtkmkpjpopobdbaaDoorBitMath
import Derived.Test.YtkmkpjpopobdbaaDoorIntList
import Derived.WalkKit
import Derived.ProofKit
import Derived.Below
import Derived.Outline
import Derived.Lib.Hide
import Derived.OwnWalk
namespace Go.Proofs.YtkmkpjpopobdbaaDoor
open Go.RowKit
namespace Bm
theorem in_yes (x a b : Int) (w : World) (h1 : a ≤ x) (h2 : x ≤ b) : Calls Tryd.prog 33 #[.int .i64 x, .int .i64 a, .int .i64 b] w fun e w' => e = .returned (.bool true) ∧ w = w' := by
  go_enter Tryd.func33, Tryd.ntmps33
  go_wp2
  go_ret
  exact ⟨rfl, rfl⟩
theorem in_no (x a b : Int) (w : World) (h : ¬ (a ≤ x ∧ x ≤ b)) : Calls Tryd.prog 33 #[.int .i64 x, .int .i64 a, .int .i64 b] w fun e w' => e = .returned (.bool false) ∧ w = w' := by
  by_cases h1 : a ≤ x
  · have h2 : decide (x ≤ b) = false := by simp; omega
    clear h
    go_enter Tryd.func33, Tryd.ntmps33
    go_wp2
    go_ret
    exact ⟨rfl, rfl⟩
  · have h2 : decide (a ≤ x) = false := by simp; omega
    clear h
    go_enter Tryd.func33, Tryd.ntmps33
    go_wp2
    go_ret
    exact ⟨rfl, rfl⟩
def okB (b i : Int) : Prop := 0 ≤ b ∧ 0 ≤ i ∧ i ≤ 15
theorem wf_le {n : Int} (h : (Lit.int .i64 n).wf = true) : n ≤ 9223372036854775807 := by
  have hb : -9223372036854775808 ≤ n ∧ n ≤ 9223372036854775807 := by simpa [Lit.wf, IntKind.min, IntKind.max, IntKind.signed, IntKind.bits] using h
  exact hb.2
/-- is slot i of b in use: what the chapter says, for all whole numbers -/
def has (b i : Int) : Bool := decide (0 ≤ b ∧ 0 ≤ i ∧ i ≤ 15) && b.toNat.testBit i.toNat
theorem has_nat (b i : Nat) (hi : i ≤ 15) : has (b : Int) (i : Int) = b.testBit i := by
  unfold has
  rw [decide_eq_true (show (0 : Int) ≤ (b : Int) ∧ (0 : Int) ≤ (i : Int) ∧ (i : Int) ≤ 15 by omega)]
  simp
def BoolP (b : Bool) (w : World) (e : Ending) (w' : World) : Prop := e = .returned (.bool b) ∧ w = w'
def NumP (x : Int) (w : World) (e : Ending) (w' : World) : Prop := e = .returned (.int .i64 x) ∧ w = w'
/-- b with slot i in use -/
def set (b i : Int) : Int := if 0 ≤ b ∧ 0 ≤ i ∧ i ≤ 15 then ((b.toNat ||| 2 ^ i.toNat : Nat) : Int) else b
/-- b with slot i free -/
def unset (b i : Int) : Int := if 0 ≤ b ∧ 0 ≤ i ∧ i ≤ 15 then ((clr b.toNat i.toNat : Nat) : Int) else b
/-- is b a bitmap of n slots -/
def isMap (n b : Int) : Bool := decide (1 ≤ n ∧ n ≤ 16 ∧ 0 ≤ b ∧ b < 2 ^ n.toNat)
/-- how many of the slots below 16 are in use -/
def count (b : Int) : Int := if 0 ≤ b then (cnt b.toNat 16 : Int) else 0
end Bm
end Go.Proofs.YtkmkpjpopobdbaaDoor

/- Bitmaps as natural numbers: a bit asked, set, cleared, counted. No program. -/
import Derived.WalkKit
import Derived.Laws.BitsLemmas
import Derived.RowKit
namespace Go.Proofs.YtmeahaaibncmmaaDoor
open Go.RowKit
namespace Bm
theorem wraps_i64 (n : Int) (h0 : 0 ≤ n) (h1 : n < 2 ^ 63) : IntKind.i64.wrap n = n := by rw [IntKind.wrap_i64]; omega
theorem and_nat (a b : Nat) (ha : a < 2 ^ 63) (hb : b < 2 ^ 63) : bits .and .i64 (a : Int) (b : Int) = ((a &&& b : Nat) : Int) := (bits_nat .i64 63 (by decide) wraps_i64 a b ha hb).1
theorem or_nat (a b : Nat) (ha : a < 2 ^ 63) (hb : b < 2 ^ 63) : bits .or .i64 (a : Int) (b : Int) = ((a ||| b : Nat) : Int) := (bits_nat .i64 63 (by decide) wraps_i64 a b ha hb).2
/-- bit i of b, cleared -/
def clr (b i : Nat) : Nat := b &&& (18446744073709551615 - 2 ^ i)
theorem pow_lt {i : Nat} (h : i ≤ 15) : 2 ^ i ≤ 32768 := Nat.pow_le_pow_right (by decide) h (n := 2)
theorem andNot_nat (b i : Nat) (hb : b < 2 ^ 63) (hi : i ≤ 15) : bits .andNot .i64 (b : Int) ((2 ^ i : Nat) : Int) = ((clr b i : Nat) : Int) := by
  have hp := pow_lt hi
  have hb' : b % 2 ^ IntKind.i64.bits = b := Nat.mod_eq_of_lt (by show b < 2 ^ 64; omega)
  have hm' : (2 ^ i) % 2 ^ IntKind.i64.bits = 2 ^ i := Nat.mod_eq_of_lt (by show 2 ^ i < 2 ^ 64; omega)
  have e64 : 2 ^ IntKind.i64.bits - 1 - 2 ^ i = 18446744073709551615 - 2 ^ i := rfl
  simp only [bits, BitVec.ofInt_natCast, BitVec.toNat_and, BitVec.toNat_not, BitVec.toNat_ofNat, hb', hm', e64]
  refine wraps_i64 _ (Int.natCast_nonneg _) ?_
  have h := Nat.and_le_left (n := b) (m := 18446744073709551615 - 2 ^ i)
  omega
theorem test_set (b i j : Nat) : (b ||| 2 ^ i).testBit j = (b.testBit j || decide (i = j)) := by
  rw [Nat.testBit_or, Nat.testBit_two_pow]
theorem test_clr (b i j : Nat) (hi : i ≤ 15) (hj : j < 64) : (clr b i).testBit j = (b.testBit j && !decide (i = j)) := by
  have hp := pow_lt hi
  have e : 18446744073709551615 - 2 ^ i = 2 ^ 64 - (2 ^ i + 1) := by omega
  unfold clr
  rw [Nat.testBit_and, e, Nat.testBit_two_pow_sub_succ (by omega), Nat.testBit_two_pow]
  simp [hj]
/-- how a walk spells 'b >> uint(i) & 1 == 1' -/
theorem shr_test (b i : Nat) (hb : b < 2 ^ 63) : (bits .and .i64 ((b : Int) / 2 ^ i) 1 == 1) = b.testBit i := by
  have e : ((b : Int) / 2 ^ i) = ((b / 2 ^ i : Nat) : Int) := by simp
  have hd : b / 2 ^ i < 2 ^ 63 := Nat.lt_of_le_of_lt (Nat.div_le_self _ _) hb
  have h1 : bits .and .i64 ((b : Int) / 2 ^ i) 1 = ((b / 2 ^ i % 2 : Nat) : Int) := by
    rw [e]
    have := and_nat (b / 2 ^ i) 1 hd (by decide)
    rw [show ((1 : Nat) : Int) = 1 from rfl, Nat.and_one_is_mod] at this
    exact this
  rw [h1, Nat.testBit_eq_decide_div_mod_eq]
  rcases Nat.mod_two_eq_zero_or_one (b / 2 ^ i) with h | h <;> simp [h]
theorem wrap_pow (i : Nat) (hi : i ≤ 15) : wrap64 (2 ^ i) = ((2 ^ i : Nat) : Int) := by
  have hp := pow_lt hi
  have e : (2 : Int) ^ i = ((2 ^ i : Nat) : Int) := by simp
  rw [e]
  generalize 2 ^ i = p at *
  unfold wrap64; omega
/-- the slots from 0 to 15 that are in use -/
def used (b : Nat) : List Nat := (List.range 16).filter fun j => b.testBit j
def free (n b : Nat) : List Nat := (List.range n).filter fun j => !b.testBit j
def cnt (b k : Nat) : Nat := ((List.range k).filter fun j => b.testBit j).length
theorem cnt_succ (b k : Nat) : cnt b (k + 1) = cnt b k + if b.testBit k then 1 else 0 := by
  unfold cnt
  rw [List.range_succ, List.filter_append, List.length_append]
  cases h : b.testBit k <;> simp [h]
theorem cnt_le (b k : Nat) : cnt b k ≤ k := by
  unfold cnt
  have := List.length_filter_le (fun j => b.testBit j) (List.range k)
  simpa using this
def freeTo (b k : Nat) : List Nat := (List.range k).filter fun j => !b.testBit j
theorem freeTo_succ (b k : Nat) : freeTo b (k + 1) = freeTo b k ++ if b.testBit k then [] else [k] := by
  unfold freeTo
  rw [List.range_succ, List.filter_append]
  cases h : b.testBit k <;> simp [h]
theorem freeTo_le (b k : Nat) : (freeTo b k).length ≤ k := by
  unfold freeTo
  have := List.length_filter_le (fun j => !b.testBit j) (List.range k)
  simpa using this
theorem cnt_free (b k : Nat) : (freeTo b k).length + cnt b k = k := by
  induction k with
  | zero => rfl
  | succ k ih =>
    rw [freeTo_succ, cnt_succ, List.length_append]
    cases h : b.testBit k <;> simp <;> omega
/-- the text of a bitmap -/
def pic (b k : Nat) : List UInt8 := (List.range k).map fun j => if b.testBit j then 120 else 46
theorem pic_succ (b k : Nat) : pic b (k + 1) = pic b k ++ [if b.testBit k then 120 else 46] := by simp [pic, List.range_succ]
theorem pic_len (b k : Nat) : (pic b k).length = k := by simp [pic]
theorem high (b n j : Nat) (h : b < 2 ^ n) (hj : n ≤ j) : b.testBit j = false := Nat.testBit_lt_two_pow (Nat.lt_of_lt_of_le h (Nat.pow_le_pow_right (by decide) hj))
end Bm
end Go.Proofs.YtmeahaaibncmmaaDoor

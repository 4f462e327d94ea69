/- The bits of a number below 65536, counted in parallel and one by one. No program. -/
import Derived.Test.YtmeahaaibncmmaaDoorBitMath
namespace Go.Proofs.YtmeahaaibncmmaaDoor
open Go.RowKit
namespace Bm
def m0 : Nat := 6148914691236517205
def m1 : Nat := 3689348814741910323
def m2 : Nat := 1085102592571150095
def q1 (x : Nat) : Nat := Nat.add (Nat.land (Nat.div x 2) 6148914691236517205) (Nat.land x 6148914691236517205)
def q2 (x : Nat) : Nat := Nat.add (Nat.land (Nat.div x 4) 3689348814741910323) (Nat.land x 3689348814741910323)
def q3 (x : Nat) : Nat := Nat.land (Nat.add (Nat.div x 16) x) 1085102592571150095
def q4 (x : Nat) : Nat := Nat.add x (Nat.div x 256)
def q5 (x : Nat) : Nat := Nat.add x (Nat.div x 65536)
def q6 (x : Nat) : Nat := Nat.add x (Nat.div x 4294967296)
def q7 (x : Nat) : Nat := Nat.land x 127
def popN (x : Nat) : Nat := q7 (q6 (q5 (q4 (q3 (q2 (q1 x))))))
def okTo : Nat → Nat → Nat → Bool
  | 0, b, c => Nat.beq (popN b) c
  | d + 1, b, c => okTo d (Nat.mul 2 b) c && okTo d (Nat.succ (Nat.mul 2 b)) (Nat.succ c)
set_option maxRecDepth 100000 in
theorem okAll : okTo 16 0 0 = true := by decide +kernel
theorem cnt_low (b k : Nat) : cnt b (k + 1) = b % 2 + cnt (b / 2) k := by
  induction k with
  | zero =>
    have h : b.testBit 0 = decide (b % 2 = 1) := Nat.testBit_zero b
    rw [cnt_succ, h]
    rcases Nat.mod_two_eq_zero_or_one b with e | e <;> simp [e, cnt]
  | succ k ih =>
    rw [cnt_succ, ih, cnt_succ (b / 2) k, Nat.testBit_div_two]; omega
theorem pop_of : ∀ (d b c x : Nat), okTo d b c = true → x < 2 ^ d → popN (b * 2 ^ d + x) = c + cnt x d
  | 0, b, c, x, h, hx => by
    have e : popN b = c := Nat.eq_of_beq_eq_true h
    obtain rfl : x = 0 := by simpa using hx
    simpa [cnt] using e
  | d + 1, b, c, x, h, hx => by
    have h2 : okTo d (Nat.mul 2 b) c = true ∧ okTo d (Nat.succ (Nat.mul 2 b)) (Nat.succ c) = true := by
      have h' : (okTo d (Nat.mul 2 b) c && okTo d (Nat.succ (Nat.mul 2 b)) (Nat.succ c)) = true := h
      simpa using h'
    have e2 : 2 ^ (d + 1) = 2 * 2 ^ d := by rw [Nat.pow_succ]; omega
    rw [cnt_succ]
    by_cases hl : x < 2 ^ d
    · have := pop_of d (2 * b) c x h2.1 hl
      rw [Nat.testBit_lt_two_pow hl]
      rw [show b * 2 ^ (d + 1) + x = 2 * b * 2 ^ d + x by rw [e2, Nat.mul_left_comm, Nat.mul_assoc], this]
      simp
    · have hx' : x - 2 ^ d < 2 ^ d := by omega
      have h3 := pop_of d (2 * b + 1) (c + 1) (x - 2 ^ d) h2.2 hx'
      have ex : x = 2 ^ d + (x - 2 ^ d) := by omega
      have ht : x.testBit d = true := by
        rw [ex, Nat.testBit_two_pow_add_eq, Nat.testBit_lt_two_pow hx']; rfl
      have hc : cnt x d = cnt (x - 2 ^ d) d := by
        unfold cnt
        congr 1
        apply List.filter_congr
        intro j hj
        rw [List.mem_range] at hj
        conv => lhs; rw [ex]
        rw [Nat.testBit_two_pow_add_gt hj]
      rw [ht, hc, show b * 2 ^ (d + 1) + x = (2 * b + 1) * 2 ^ d + (x - 2 ^ d) by rw [e2, Nat.add_mul, Nat.mul_left_comm, Nat.mul_assoc]; omega, h3]
      simp; omega
theorem pop_cnt (x : Nat) (h : x < 65536) : popN x = cnt x 16 := by
  have := pop_of 16 0 0 x okAll (by simpa using h)
  simpa using this
theorem wraps_u64 (n : Int) (h0 : 0 ≤ n) (h1 : n < 2 ^ 64) : IntKind.u64.wrap n = n := by rw [IntKind.wrap_u64]; omega
theorem and_u (a b : Nat) (ha : a < 2 ^ 64) (hb : b < 2 ^ 64) : bits .and .u64 (a : Int) (b : Int) = ((Nat.land a b : Nat) : Int) := (bits_nat .u64 64 (by decide) wraps_u64 a b ha hb).1
theorem wrap_u (n : Nat) (h : n < 2 ^ 64) : IntKind.u64.wrap (n : Int) = (n : Int) := wraps_u64 _ (by omega) (by omega)
theorem land_le (a m : Nat) : Nat.land a m ≤ m := Nat.and_le_right
def z1 (x : Int) : Int := IntKind.u64.wrap (bits BinOp.and IntKind.u64 (x / 2) 6148914691236517205 + bits BinOp.and IntKind.u64 x 6148914691236517205)
def z2 (x : Int) : Int := IntKind.u64.wrap (bits BinOp.and IntKind.u64 (x / 4) 3689348814741910323 + bits BinOp.and IntKind.u64 x 3689348814741910323)
def z3 (x : Int) : Int := bits BinOp.and IntKind.u64 (IntKind.u64.wrap (x / 16 + x)) 1085102592571150095
def z4 (x : Int) : Int := IntKind.u64.wrap (x + x / 256)
def z5 (x : Int) : Int := IntKind.u64.wrap (x + x / 65536)
def z6 (x : Int) : Int := IntKind.u64.wrap (x + x / 4294967296)
def z7 (x : Int) : Int := bits BinOp.and IntKind.i64 (wrap64 x) 127
theorem q1_le (x : Nat) : q1 x ≤ 2 * m0 := by have h1 := land_le (Nat.div x 2) m0; have h2 := land_le x m0; show Nat.land _ m0 + Nat.land _ m0 ≤ _; omega
theorem q2_le (x : Nat) : q2 x ≤ 2 * m1 := by have h1 := land_le (Nat.div x 4) m1; have h2 := land_le x m1; show Nat.land _ m1 + Nat.land _ m1 ≤ _; omega
theorem q3_le (x : Nat) : q3 x ≤ m2 := land_le _ m2
theorem z1_nat (x : Nat) (h : x < 2 ^ 64) : z1 (x : Int) = (q1 x : Int) := by
  have hq := q1_le x
  have h1 := and_u (x / 2) m0 (by omega) (by decide)
  have h2 := and_u x m0 h (by decide)
  unfold z1
  have e : bits BinOp.and IntKind.u64 ((x : Int) / 2) 6148914691236517205 + bits BinOp.and IntKind.u64 (x : Int) 6148914691236517205 = ((q1 x : Nat) : Int) := by
    rw [show ((x : Int) / 2) = ((x / 2 : Nat) : Int) by simp]
    show bits BinOp.and IntKind.u64 ((x / 2 : Nat) : Int) ((m0 : Nat) : Int) + bits BinOp.and IntKind.u64 (x : Int) ((m0 : Nat) : Int) = _
    rw [h1, h2]; rfl
  rw [e]
  exact wrap_u _ (by have : m0 = 6148914691236517205 := rfl; omega)
theorem z2_nat (x : Nat) (h : x < 2 ^ 64) : z2 (x : Int) = (q2 x : Int) := by
  have hq := q2_le x
  have h1 := and_u (x / 4) m1 (by omega) (by decide)
  have h2 := and_u x m1 h (by decide)
  unfold z2
  have e : bits BinOp.and IntKind.u64 ((x : Int) / 4) 3689348814741910323 + bits BinOp.and IntKind.u64 (x : Int) 3689348814741910323 = ((q2 x : Nat) : Int) := by
    rw [show ((x : Int) / 4) = ((x / 4 : Nat) : Int) by simp]
    show bits BinOp.and IntKind.u64 ((x / 4 : Nat) : Int) ((m1 : Nat) : Int) + bits BinOp.and IntKind.u64 (x : Int) ((m1 : Nat) : Int) = _
    rw [h1, h2]; rfl
  rw [e]
  exact wrap_u _ (by have : m1 = 3689348814741910323 := rfl; omega)
theorem z3_nat (x : Nat) (h : x ≤ 2 * m1) : z3 (x : Int) = (q3 x : Int) := by
  have hm : m1 = 3689348814741910323 := rfl
  unfold z3
  rw [show ((x : Int) / 16 + x) = ((x / 16 + x : Nat) : Int) by simp, wrap_u _ (by omega)]
  exact and_u (x / 16 + x) m2 (by omega) (by decide)
theorem z4_nat (x : Nat) (h : x ≤ 2 * m2) : z4 (x : Int) = (q4 x : Int) := by
  have hm : m2 = 1085102592571150095 := rfl
  unfold z4
  rw [show ((x : Int) + (x : Int) / 256) = ((x + x / 256 : Nat) : Int) by simp, wrap_u _ (by omega)]; rfl
theorem z5_nat (x : Nat) (h : x ≤ 4 * m2) : z5 (x : Int) = (q5 x : Int) := by
  have hm : m2 = 1085102592571150095 := rfl
  unfold z5
  rw [show ((x : Int) + (x : Int) / 65536) = ((x + x / 65536 : Nat) : Int) by simp, wrap_u _ (by omega)]; rfl
theorem z6_nat (x : Nat) (h : x ≤ 6 * m2) : z6 (x : Int) = (q6 x : Int) := by
  have hm : m2 = 1085102592571150095 := rfl
  unfold z6
  rw [show ((x : Int) + (x : Int) / 4294967296) = ((x + x / 4294967296 : Nat) : Int) by simp, wrap_u _ (by omega)]; rfl
theorem z7_nat (x : Nat) (h : x ≤ 7 * m2) : z7 (x : Int) = (q7 x : Int) := by
  have hm : m2 = 1085102592571150095 := rfl
  unfold z7
  rw [show wrap64 (x : Int) = (x : Int) by unfold wrap64; omega]
  exact and_nat x 127 (by omega) (by decide)
theorem q4_le (x : Nat) (h : x ≤ m2) : q4 x ≤ 2 * m2 := by show x + x / 256 ≤ _; omega
theorem q5_le (x : Nat) (h : x ≤ 2 * m2) : q5 x ≤ 4 * m2 := by show x + x / 65536 ≤ _; omega
theorem q6_le (x : Nat) (h : x ≤ 4 * m2) : q6 x ≤ 6 * m2 := by show x + x / 4294967296 ≤ _; have : m2 = 1085102592571150095 := rfl; omega
/-- how a walk spells the count of the bits -/
def pop (x : Int) : Int := z7 (z6 (z5 (z4 (z3 (z2 (z1 x))))))
theorem pop_nat (x : Nat) (h : x < 65536) : pop (x : Int) = (cnt x 16 : Int) := by
  unfold pop
  have h1 := q1_le x
  have h2 := q2_le (q1 x)
  have h3 := q3_le (q2 (q1 x))
  have h4 := q4_le _ h3
  have h5 := q5_le _ h4
  have h6 := q6_le _ h5
  have e0 : m0 = 6148914691236517205 := rfl
  have e2 : m2 = 1085102592571150095 := rfl
  rw [z1_nat x (by omega), z2_nat _ (by omega), z3_nat _ h2, z4_nat _ (by omega), z5_nat _ (by omega), z6_nat _ (by omega), z7_nat _ (by omega)]
  exact congrArg _ (pop_cnt x h)
end Bm
end Go.Proofs.YtmeahaaibncmmaaDoor

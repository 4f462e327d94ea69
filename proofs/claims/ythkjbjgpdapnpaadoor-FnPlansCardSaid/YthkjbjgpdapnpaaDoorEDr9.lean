/- Spans as they are drawn, by a symbolic run. -/
import Derived.Test.YthkjbjgpdapnpaaDoorEDw
import Derived.Test.YthkjbjgpdapnpaaDoorE2b
import Derived.Test.YthkjbjgpdapnpaaDoorM09
import Derived.Test.YthkjbjgpdapnpaaDoorBit2
namespace Go.Proofs.YthkjbjgpdapnpaaDoor
open Go.RowKit
set_option linter.unusedVariables false
set_option linter.unusedSimpArgs false
set_option maxRecDepth 100000
namespace Eng
open Tr
/-- a bitmap's first slots, and the cursor -/
def mSt (bs : List Int) (c : Cu) (k : Int) : Nat → Nat × Cu
  | 0 => (0, c)
  | i + 1 => (if (dBelow bs (mSt bs c k i).2 k).1 = 0 then (mSt bs c k i).1 ||| 2 ^ i else (mSt bs c k i).1, (dBelow bs (mSt bs c k i).2 k).2)
theorem mSt_lt (bs : List Int) (c : Cu) (k : Int) : ∀ i, (mSt bs c k i).1 < 2 ^ i
  | 0 => Nat.one_pos
  | i + 1 => by
    have h := mSt_lt bs c k i
    have h2 : 2 ^ (i + 1) = 2 ^ i + 2 ^ i := by rw [Nat.pow_succ]; omega
    show (if _ then _ else _) < _
    split
    · exact Nat.or_lt_two_pow (by omega) (by omega)
    · omega
theorem mSt_ok {bs : List Int} {c : Cu} (k : Int) (h : okCu bs c) : ∀ i, okCu bs (mSt bs c k i).2
  | 0 => h
  | i + 1 => dBelow_ok _ (mSt_ok k h i)
def dMap (bs : List Int) (c : Cu) (n : Int) : Int × Cu := (((mSt bs (dBelow bs c 4).2 (1 + (dBelow bs c 4).1) n.toNat).1 : Int), (mSt bs (dBelow bs c 4).2 (1 + (dBelow bs c 4).1) n.toNat).2)
theorem dMap_ok {bs : List Int} {c : Cu} (n : Int) (h : okCu bs c) : okCu bs (dMap bs c n).2 := mSt_ok _ (dBelow_ok _ h) _
theorem dMap_bd (bs : List Int) (c : Cu) (n : Int) : 0 ≤ (dMap bs c n).1 ∧ (dMap bs c n).1 < ((2 ^ n.toNat : Nat) : Int) := by
  have := mSt_lt bs (dBelow bs c 4).2 (1 + (dBelow bs c 4).1) n.toNat
  unfold dMap
  simp only
  omega
theorem or_bit {b i : Nat} (hb : b < 2 ^ i) (hi : i ≤ 15) : b ||| 2 ^ i < 65536 := by
  have h1 := Bm.pow_lt hi
  exact Nat.or_lt_two_pow (n := 16) (by omega) (by omega)
theorem or_step {b i : Nat} (hb : b < 2 ^ i) (hi : i ≤ 15) : IntKind.i64.wrap ((BitVec.ofInt IntKind.i64.bits (b : Int) ||| BitVec.ofInt IntKind.i64.bits (IntKind.i64.wrap (1 * 2 ^ min (IntKind.u64.wrap (i : Int)).toNat IntKind.i64.bits))).toNat : Int) = ((b ||| 2 ^ i : Nat) : Int) := by
  have h1 := Bm.pow_lt hi
  have e1 : IntKind.u64.wrap (i : Int) = (i : Int) := by rw [IntKind.wrap_u64]; omega
  have e2 : min i IntKind.i64.bits = i := Nat.min_eq_left (by show i ≤ 64; omega)
  have e3 : IntKind.i64.wrap (1 * 2 ^ i) = ((2 ^ i : Nat) : Int) := by
    rw [Int.one_mul, show (2 : Int) ^ i = ((2 ^ i : Nat) : Int) by simp]
    exact Bm.wraps_i64 _ (by omega) (by omega)
  rw [e1, Int.toNat_natCast, e2, e3]
  exact Bm.or_nat b (2 ^ i) (by omega) (by omega)
theorem shl1 {n : Int} (h0 : 0 ≤ n) (h1 : n ≤ 16) : IntKind.i64.wrap (1 * 2 ^ min (IntKind.u64.wrap n).toNat IntKind.i64.bits) = ((2 ^ n.toNat : Nat) : Int) := by
  obtain ⟨i, rfl⟩ := Int.eq_ofNat_of_zero_le h0
  have hp : 2 ^ i ≤ 65536 := Nat.pow_le_pow_right (n := 2) (by decide) (show i ≤ 16 by omega)
  have e1 : IntKind.u64.wrap (i : Int) = (i : Int) := by rw [IntKind.wrap_u64]; omega
  have e2 : min i IntKind.i64.bits = i := Nat.min_eq_left (by show i ≤ 64; omega)
  rw [e1, Int.toNat_natCast, e2, Int.one_mul, show (2 : Int) ^ i = ((2 ^ i : Nat) : Int) by simp]
  generalize 2 ^ i = P at *
  exact Bm.wraps_i64 _ (by omega) (by omega)
/-- a span -/
def dSpan (bs : List Int) (c : Cu) : GSpan × Cu :=
  let p := dBelow bs c 8
  let k := dBelow bs p.2 4
  let m := dMap bs k.2 (Cl.slots k.1)
  let o := dBelow bs m.2 8
  (⟨p.1, k.1, if o.1 = 0 then ((2 ^ (Cl.slots k.1).toNat - 1 : Nat) : Int) else m.1⟩, o.2)
theorem dSpan_ok {bs : List Int} {c : Cu} (h : okCu bs c) : okCu bs (dSpan bs c).2 := dBelow_ok _ (dMap_ok _ (dBelow_ok _ (dBelow_ok _ h)))
theorem dSpan_valid (bs : List Int) (c : Cu) : pSpanOk (dSpan bs c).1 = true := by
  have h1 := dBelow_lt bs c 8 (by decide)
  have h2 := dBelow_lt bs (dBelow bs c 8).2 4 (by decide)
  unfold dSpan
  simp only
  generalize dBelow bs c 8 = p at h1 h2
  generalize dBelow bs p.2 4 = k at h2
  have hs : 2 ≤ Cl.slots k.1 ∧ Cl.slots k.1 ≤ 16 := by
    unfold Cl.slots
    repeat' split
    all_goals omega
  have hm := dMap_bd bs k.2 (Cl.slots k.1)
  generalize dMap bs k.2 (Cl.slots k.1) = m at hm
  unfold pSpanOk Bm.isMap
  rw [Bool.and_eq_true, decide_eq_true_eq, decide_eq_true_eq]
  have hp : 0 < 2 ^ (Cl.slots k.1).toNat := Nat.two_pow_pos _
  have e : (2 : Int) ^ (Cl.slots k.1).toNat = ((2 ^ (Cl.slots k.1).toNat : Nat) : Int) := by simp
  refine ⟨⟨h1.1, by show p.1 ≤ 31; omega⟩, by show 1 ≤ Cl.slots k.1; omega, hs.2, ?_, ?_⟩
  · simp only; split <;> omega
  · simp only; rw [e]; split <;> omega
end Eng
end Go.Proofs.YthkjbjgpdapnpaaDoor

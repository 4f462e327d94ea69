/- The program's HasSlot, WithSlot, WithoutSlot, FreeSlots, FormatBitmap, where the table of masks holds what the program's text lays. -/
import Derived.Test.YtmeahaaibncmmaaDoorBitsImpl
import Derived.Test.YtmeahaaibncmmaaDoorBitLists
import Derived.Lib.LaidTab
import Derived.ProofKit
import Derived.WalkSmall
namespace Go.Proofs.YtmeahaaibncmmaaDoor
open Go.RowKit
namespace Bm
open Own Il
theorem lt_of_var {P : Program} {w : World} {n : String} {g : Nat} {cs : Array Value} (hg : P.globalNamed n = some g) (h : w.var? P n = some cs) : g < w.heap.size := by
  unfold World.var? at h
  simp only [hg, Option.bind_some] at h
  rcases Nat.lt_or_ge g w.heap.size with h1 | h1
  · exact h1
  · simp [Array.getElem?_eq_none h1] at h
def masks : List Int := [1, 2, 4, 8, 16, 32, 64, 128, 256, 512, 1024, 2048, 4096, 8192, 16384, 32768]
/-- the table of masks holds what the program's text lays -/
def Masks (w : World) : Prop := Lib.TabIs Tryd.prog w "loop.example/g00978/impl.slotMasks" .i64 masks
theorem gMasks : Tryd.prog.globalNamed "loop.example/g00978/impl.slotMasks" = some 0 := by kernel_rfl
theorem Masks.below {w w' : World} (h : Masks w) (hb : Below w.heap.size w w') : Masks w' := var?_below hb gMasks (lt_of_var gMasks h) h
theorem Masks.at {w : World} (h : Masks w) (i : Nat) (hi : i ≤ 15) : w.cell? ⟨0, i, none⟩ = some (.int .i64 ((2 ^ i : Nat) : Int)) := by
  rw [Lib.TabIs.cell h gMasks i (by show i < 16; omega)]
  have e : ∀ j : Nat, j < 16 → masks.getD j 0 = ((2 ^ j : Nat) : Int) := by decide
  rw [e i (by omega)]
theorem wf_ge {n : Int} (h : (Lit.int .i64 n).wf = true) : -9223372036854775808 ≤ n := by
  have hb : -9223372036854775808 ≤ n ∧ n ≤ 9223372036854775807 := by simpa [Lit.wf, IntKind.min, IntKind.max, IntKind.signed, IntKind.bits] using h
  exact hb.1
/-- the mask of slot i, or 0 -/
def maskN (b i : Int) : Int := if 0 ≤ b ∧ 0 ≤ i ∧ i ≤ 15 then ((2 ^ i.toNat : Nat) : Int) else 0
theorem implMask (b i : Int) (w : World) (hM : Masks w) : Calls Tryd.prog 51 #[.int .i64 b, .int .i64 i] w (NumP (maskN b i) w) := by
  by_cases h : 0 ≤ b ∧ 0 ≤ i ∧ i ≤ 15
  · have hm : maskN b i = ((2 ^ i.toNat : Nat) : Int) := if_pos h
    rw [hm]
    obtain ⟨h0, h1, h2⟩ := h
    obtain ⟨I, rfl⟩ := Int.eq_ofNat_of_zero_le h1
    have hc := hM.at I (by omega)
    rw [Int.toNat_natCast]
    generalize ((2 ^ I : Nat) : Int) = m at *
    clear hm hM
    go_enter Tryd.func51, Tryd.ntmps51
    go_wp2
    go_ret
    exact ⟨rfl, rfl⟩
  · have hm : maskN b i = 0 := if_neg h
    have hd : (decide (b < 0) || decide (i < 0) || decide (16 ≤ i)) = true := by
      simp only [Bool.or_eq_true, decide_eq_true_eq]; omega
    rw [hm]
    clear hm hM h
    go_enter Tryd.func51, Tryd.ntmps51
    go_wp2
    all_goals (go_ret; exact ⟨rfl, rfl⟩)
theorem and_pow (b i : Nat) : b &&& 2 ^ i = if b.testBit i then 2 ^ i else 0 := by
  apply Nat.eq_of_testBit_eq
  intro j
  rw [Nat.testBit_and, Nat.testBit_two_pow]
  by_cases h : i = j
  · subst h; cases hh : b.testBit i <;> simp
  · cases hh : b.testBit i <;> simp [h]
theorem and_zero (b : Int) : bits .and .i64 b 0 = 0 := by
  simp [bits]; rfl
theorem or_zero (b : Int) (h0 : -9223372036854775808 ≤ b) (h1 : b ≤ 9223372036854775807) : bits .or .i64 b 0 = b := by
  have e : IntKind.i64.bits = 64 := rfl
  simp [bits, BitVec.toNat_ofInt]
  rw [IntKind.wrap_i64]
  simp [IntKind.bits] at *
  omega
theorem andNot_zero (b : Int) (h0 : -9223372036854775808 ≤ b) (h1 : b ≤ 9223372036854775807) : bits .andNot .i64 b 0 = b := by
  simp [bits, BitVec.toNat_ofInt]
  rw [IntKind.wrap_i64]
  simp [IntKind.bits] at *
  omega
theorem mask_has (b i : Int) (hb : b ≤ 9223372036854775807) : (bits .and .i64 b (maskN b i) != 0) = has b i := by
  by_cases h : 0 ≤ b ∧ 0 ≤ i ∧ i ≤ 15
  · unfold maskN
    rw [if_pos h]
    obtain ⟨h0, h1, h2⟩ := h
    obtain ⟨B, rfl⟩ := Int.eq_ofNat_of_zero_le h0
    obtain ⟨I, rfl⟩ := Int.eq_ofNat_of_zero_le h1
    have hp := pow_lt (i := I) (by omega)
    rw [has_nat B I (by omega), Int.toNat_natCast, and_nat B (2 ^ I) (by omega) (by omega), and_pow]
    cases hh : B.testBit I
    · rfl
    · rw [if_pos rfl]
      have h2 := Nat.two_pow_pos I
      generalize 2 ^ I = p at *
      simp; omega
  · unfold maskN has
    rw [if_neg h, decide_eq_false h, and_zero]; rfl
theorem mask_set (b i : Int) (h0 : -9223372036854775808 ≤ b) (hb : b ≤ 9223372036854775807) : bits .or .i64 b (maskN b i) = set b i := by
  by_cases h : 0 ≤ b ∧ 0 ≤ i ∧ i ≤ 15
  · unfold maskN set
    rw [if_pos h, if_pos h]
    obtain ⟨h0, h1, h2⟩ := h
    obtain ⟨B, rfl⟩ := Int.eq_ofNat_of_zero_le h0
    obtain ⟨I, rfl⟩ := Int.eq_ofNat_of_zero_le h1
    have hp := pow_lt (i := I) (by omega)
    rw [Int.toNat_natCast, Int.toNat_natCast]
    exact or_nat B (2 ^ I) (by omega) (by omega)
  · unfold maskN set
    rw [if_neg h, if_neg h]
    exact or_zero b h0 hb
theorem mask_unset (b i : Int) (h0 : -9223372036854775808 ≤ b) (hb : b ≤ 9223372036854775807) : bits .andNot .i64 b (maskN b i) = unset b i := by
  by_cases h : 0 ≤ b ∧ 0 ≤ i ∧ i ≤ 15
  · unfold maskN unset
    rw [if_pos h, if_pos h]
    obtain ⟨h0, h1, h2⟩ := h
    obtain ⟨B, rfl⟩ := Int.eq_ofNat_of_zero_le h0
    obtain ⟨I, rfl⟩ := Int.eq_ofNat_of_zero_le h1
    rw [Int.toNat_natCast, Int.toNat_natCast]
    exact andNot_nat B I (by omega) (by omega)
  · unfold maskN unset
    rw [if_neg h, if_neg h]
    exact andNot_zero b h0 hb
theorem implHas (b i : Int) (w : World) (hb : b ≤ 9223372036854775807) (hM : Masks w) : Calls Tryd.prog 39 #[.int .i64 b, .int .i64 i] w (BoolP (has b i) w) := by
  have HM := Lib.hid (implMask b i w hM)
  have HF := Lib.hid (mask_has b i hb)
  clear hb hM
  go_enter Tryd.func39, Tryd.ntmps39
  go_wp2_with fail
  refine HM.out.mono ?_
  rintro e w' ⟨rfl, rfl⟩
  go_wp2
  go_ret
  exact ⟨by rw [← HF.out]; rfl, rfl⟩
end Bm
end Go.Proofs.YtmeahaaibncmmaaDoor

/- Bitmaps: the model's functions of chapter 2. -/
import Derived.Test.YtmeahaaibncmmaaDoorBitMath
import Derived.Test.YtmeahaaibncmmaaDoorIntList
import Derived.WalkKit
import Derived.ProofKit
import Derived.Below
import Derived.Outline
import Derived.Lib.Hide
import Derived.OwnWalk
namespace Go.Proofs.YtmeahaaibncmmaaDoor
open Go.RowKit
namespace Bm
theorem in_yes (x a b : Int) (w : World) (h1 : a ≤ x) (h2 : x ≤ b) : Calls Tryd.prog 42 #[.int .i64 x, .int .i64 a, .int .i64 b] w fun e w' => e = .returned (.bool true) ∧ w = w' := by
  go_enter Tryd.func42, Tryd.ntmps42
  go_wp2
  go_ret
  exact ⟨rfl, rfl⟩
theorem in_no (x a b : Int) (w : World) (h : ¬ (a ≤ x ∧ x ≤ b)) : Calls Tryd.prog 42 #[.int .i64 x, .int .i64 a, .int .i64 b] w fun e w' => e = .returned (.bool false) ∧ w = w' := by
  by_cases h1 : a ≤ x
  · have h2 : decide (x ≤ b) = false := by simp; omega
    clear h
    go_enter Tryd.func42, Tryd.ntmps42
    go_wp2
    go_ret
    exact ⟨rfl, rfl⟩
  · have h2 : decide (a ≤ x) = false := by simp; omega
    clear h
    go_enter Tryd.func42, Tryd.ntmps42
    go_wp2
    go_ret
    exact ⟨rfl, rfl⟩
def okB (b i : Int) : Prop := 0 ≤ b ∧ 0 ≤ i ∧ i ≤ 15
theorem bit_yes (b i : Int) (w : World) (h0 : 0 ≤ b) (h1 : 0 ≤ i) (h2 : i ≤ 15) : Calls Tryd.prog 40 #[.int .i64 b, .int .i64 i] w fun e w' => e = .returned (.bool true) ∧ w = w' := by
  go_enter Tryd.func40, Tryd.ntmps40
  go_wp2_with fail
  refine (in_yes _ _ _ _ h1 h2).mono ?_
  rintro e w' ⟨rfl, rfl⟩
  go_wp2
  go_ret
  exact ⟨rfl, rfl⟩
theorem bit_no (b i : Int) (w : World) (h : ¬ (0 ≤ b ∧ 0 ≤ i ∧ i ≤ 15)) : Calls Tryd.prog 40 #[.int .i64 b, .int .i64 i] w fun e w' => e = .returned (.bool false) ∧ w = w' := by
  by_cases h0 : 0 ≤ b
  · go_enter Tryd.func40, Tryd.ntmps40
    have H := Lib.hid h; clear h
    go_wp2_with fail
    refine (in_no _ _ _ _ (fun h => H.out ⟨h0, h⟩)).mono ?_
    rintro e w' ⟨rfl, rfl⟩
    go_wp2
    go_ret
    exact ⟨rfl, rfl⟩
  · have h2 : decide (0 ≤ b) = false := by simp; omega
    clear h
    go_enter Tryd.func40, Tryd.ntmps40
    go_wp2
    go_ret
    exact ⟨rfl, rfl⟩
theorem wf_le {n : Int} (h : (Lit.int .i64 n).wf = true) : n ≤ 9223372036854775807 := by
  have hb : -9223372036854775808 ≤ n ∧ n ≤ 9223372036854775807 := by simpa [Lit.wf, IntKind.min, IntKind.max, IntKind.signed, IntKind.bits] using h
  exact hb.2
/-- is slot i of b in use: what the chapter says, for all whole numbers -/
def has (b i : Int) : Bool := decide (0 ≤ b ∧ 0 ≤ i ∧ i ≤ 15) && b.toNat.testBit i.toNat
theorem has_nat (b i : Nat) (hi : i ≤ 15) : has (b : Int) (i : Int) = b.testBit i := by
  unfold has
  rw [decide_eq_true (show (0 : Int) ≤ (b : Int) ∧ (0 : Int) ≤ (i : Int) ∧ (i : Int) ≤ 15 by omega)]
  simp
def BoolP (b : Bool) (w : World) (e : Ending) (w' : World) : Prop := e = .returned (.bool b) ∧ w = w'
def NumP (x : Int) (w : World) (e : Ending) (w' : World) : Prop := e = .returned (.int .i64 x) ∧ w = w'
theorem specHas (b i : Int) (w : World) (hb : b ≤ 9223372036854775807) : Calls Tryd.prog 18 #[.int .i64 b, .int .i64 i] w (BoolP (has b i) w) := by
  have HB := Lib.hid hb; clear hb
  by_cases h : 0 ≤ b ∧ 0 ≤ i ∧ i ≤ 15
  · obtain ⟨h0, h1, h2⟩ := h
    have hh : Hid ((bits BinOp.and IntKind.i64 (b / 2 ^ i.toNat) 1 == 1) = has b i) := by
      show _ = _
      obtain ⟨B, rfl⟩ := Int.eq_ofNat_of_zero_le h0
      obtain ⟨I, rfl⟩ := Int.eq_ofNat_of_zero_le h1
      rw [has_nat B I (by omega)]
      exact shr_test B I (by have := HB.out; omega)
    go_enter Tryd.func18, Tryd.ntmps18
    go_wp2_with fail
    refine (bit_yes _ _ _ h0 h1 h2).mono ?_
    rintro e w' ⟨rfl, rfl⟩
    go_wp2
    go_ret
    exact ⟨by rw [← hh.out]; rfl, rfl⟩
  · have H := Lib.hid h
    have hh : Hid (has b i = false) := by show _ = _; unfold has; rw [decide_eq_false h]; rfl
    clear h
    go_enter Tryd.func18, Tryd.ntmps18
    go_wp2_with fail
    refine (bit_no _ _ _ H.out).mono ?_
    rintro e w' ⟨rfl, rfl⟩
    go_wp2
    go_ret
    exact ⟨by rw [hh.out]; rfl, rfl⟩
/-- b with slot i in use -/
def set (b i : Int) : Int := if 0 ≤ b ∧ 0 ≤ i ∧ i ≤ 15 then ((b.toNat ||| 2 ^ i.toNat : Nat) : Int) else b
/-- b with slot i free -/
def unset (b i : Int) : Int := if 0 ≤ b ∧ 0 ≤ i ∧ i ≤ 15 then ((clr b.toNat i.toNat : Nat) : Int) else b
theorem specWith (b i : Int) (w : World) (hb : b ≤ 9223372036854775807) : Calls Tryd.prog 53 #[.int .i64 b, .int .i64 i] w (NumP (set b i) w) := by
  have HB := Lib.hid hb; clear hb
  by_cases h : 0 ≤ b ∧ 0 ≤ i ∧ i ≤ 15
  · have hs : set b i = ((b.toNat ||| 2 ^ i.toNat : Nat) : Int) := by unfold set; rw [if_pos h]
    obtain ⟨h0, h1, h2⟩ := h
    have hh : Hid (bits BinOp.or IntKind.i64 b (wrap64 (2 ^ i.toNat)) = set b i) := by
      show _ = _
      rw [hs]
      obtain ⟨B, rfl⟩ := Int.eq_ofNat_of_zero_le h0
      obtain ⟨I, rfl⟩ := Int.eq_ofNat_of_zero_le h1
      rw [Int.toNat_natCast, Int.toNat_natCast, wrap_pow I (by omega)]
      exact or_nat B (2 ^ I) (by have := HB.out; omega) (by have := pow_lt (i := I) (by omega); omega)
    clear hs
    go_enter Tryd.func53, Tryd.ntmps53
    go_wp2_with fail
    refine (bit_yes _ _ _ h0 h1 h2).mono ?_
    rintro e w' ⟨rfl, rfl⟩
    go_wp2
    go_ret
    exact ⟨by rw [← hh.out]; rfl, rfl⟩
  · have H := Lib.hid h
    have hh : Hid (set b i = b) := by show _ = _; unfold set; rw [if_neg h]
    clear h
    go_enter Tryd.func53, Tryd.ntmps53
    go_wp2_with fail
    refine (bit_no _ _ _ H.out).mono ?_
    rintro e w' ⟨rfl, rfl⟩
    go_wp2
    go_ret
    exact ⟨by rw [hh.out]; rfl, rfl⟩
/-- is b a bitmap of n slots -/
def isMap (n b : Int) : Bool := decide (1 ≤ n ∧ n ≤ 16 ∧ 0 ≤ b ∧ b < 2 ^ n.toNat)
theorem specOk (n b : Int) (w : World) : Calls Tryd.prog 48 #[.int .i64 n, .int .i64 b] w (BoolP (isMap n b) w) := by
  by_cases h : 1 ≤ n ∧ n ≤ 16
  · have hp : ((2 : Int) ^ n.toNat) ≤ 65536 ∧ 1 ≤ ((2 : Int) ^ n.toNat) := by
      obtain ⟨N, rfl⟩ := Int.eq_ofNat_of_zero_le (show 0 ≤ n by omega)
      have h1 : 2 ^ N ≤ 2 ^ 16 := Nat.pow_le_pow_right (by decide) (by omega) (n := 2)
      have h2 : 0 < 2 ^ N := Nat.two_pow_pos N
      have e : ((2 : Int) ^ N) = ((2 ^ N : Nat) : Int) := by simp
      rw [Int.toNat_natCast, e]
      generalize 2 ^ N = p at *
      omega
    have hw : wrap64 (2 ^ n.toNat) = 2 ^ n.toNat := by generalize (2 : Int) ^ n.toNat = p at *; unfold wrap64; omega
    have HM : Hid (isMap n b = decide (0 ≤ b ∧ b ≤ 2 ^ n.toNat - 1)) := by
      show _ = _
      unfold isMap
      have : (1 ≤ n ∧ n ≤ 16 ∧ 0 ≤ b ∧ b < 2 ^ n.toNat) ↔ (0 ≤ b ∧ b ≤ 2 ^ n.toNat - 1) := by
        generalize (2 : Int) ^ n.toNat = p at *
        omega
      simp only [this]
    obtain ⟨h0, h1⟩ := h
    obtain ⟨hp0, hp1⟩ := hp
    have hn0 : 0 ≤ n := by omega
    go_enter Tryd.func48, Tryd.ntmps48
    go_wp2_with fail
    refine (in_yes _ _ _ _ h0 h1).mono ?_
    rintro e w' ⟨rfl, rfl⟩
    go_wp2_with fail
    by_cases hb : 0 ≤ b ∧ b ≤ 2 ^ n.toNat - 1
    · have HT : Hid (isMap n b = true) := by show _ = _; rw [HM.out, decide_eq_true hb]
      refine (in_yes _ _ _ _ hb.1 hb.2).mono ?_
      rintro e w' ⟨rfl, rfl⟩
      clear hb
      go_wp2
      go_ret
      exact ⟨by rw [HT.out]; rfl, rfl⟩
    · have HT : Hid (isMap n b = false) := by show _ = _; rw [HM.out, decide_eq_false hb]
      refine (in_no _ _ _ _ hb).mono ?_
      rintro e w' ⟨rfl, rfl⟩
      clear hb
      go_wp2
      go_ret
      exact ⟨by rw [HT.out]; rfl, rfl⟩
  · have H := Lib.hid h
    have hh : Hid (isMap n b = false) := by show _ = _; unfold isMap; rw [decide_eq_false (fun hx => h ⟨hx.1, hx.2.1⟩)]
    clear h
    go_enter Tryd.func48, Tryd.ntmps48
    go_wp2_with fail
    refine (in_no _ _ _ _ H.out).mono ?_
    rintro e w' ⟨rfl, rfl⟩
    go_wp2
    go_ret
    exact ⟨by rw [hh.out]; rfl, rfl⟩
/-- how many of the slots below 16 are in use -/
def count (b : Int) : Int := if 0 ≤ b then (cnt b.toNat 16 : Int) else 0
theorem specCount (b : Int) (w : World) (hb : b ≤ 9223372036854775807) : Calls Tryd.prog 17 #[.int .i64 b] w (NumP (count b) w) := by
  have HB := Lib.hid hb; clear hb
  have HK : Hid (∀ k : Nat, k < 16 → has b k = if 0 ≤ b then b.toNat.testBit k else false) := fun k hk => by
    unfold has
    by_cases h : 0 ≤ b
    · rw [decide_eq_true (show 0 ≤ b ∧ (0 : Int) ≤ k ∧ (k : Int) ≤ 15 by omega), if_pos h]; simp
    · rw [decide_eq_false (show ¬ (0 ≤ b ∧ (0 : Int) ≤ k ∧ (k : Int) ≤ 15) by omega), if_neg h]; rfl
  go_enter Tryd.func17, Tryd.ntmps17
  go_wp2
  go_loop [3, 4] (fun v c => ∃ (k m : Nat), k ≤ 16 ∧ m ≤ k ∧ c = .int .i64 k ∧ v = .int .i64 m ∧ Hid (m = if 0 ≤ b then cnt b.toNat k else 0)) (fun _ c => 16 - (intOf c).toNat)
  case atStart => exact ⟨0, 0, by omega, by omega, rfl, rfl, by show _ = _; split <;> rfl⟩
  case round =>
    obtain ⟨k, m, hk, hm, rfl, rfl, HM⟩ := hrel
    by_cases hlt : (k : Int) < 16
    · go_wp2_with fail
      refine (specHas b k w HB.out).mono ?_
      rintro e w' ⟨rfl, rfl⟩
      cases hh : has b k
      · have HN : Hid (m = if 0 ≤ b then cnt b.toNat (k + 1) else 0) := by
          show _ = _
          have h1 := HK.out k (by omega); rw [hh] at h1
          rw [HM.out]
          split
          · rename_i h0; rw [if_pos h0] at h1; rw [cnt_succ, ← h1]; rfl
          · rfl
        clear hh
        go_wp2
        go_round
        case rel => exact ⟨k + 1, m, by omega, by omega, by go_num, rfl, HN.out⟩
        case measure => simp [intOf]; omega
      · have HN : Hid (m + 1 = if 0 ≤ b then cnt b.toNat (k + 1) else 0) := by
          show _ = _
          have h1 := HK.out k (by omega); rw [hh] at h1
          split
          · rename_i h0; rw [if_pos h0] at h1; rw [cnt_succ, ← h1, HM.out, if_pos h0]; rfl
          · rename_i h0; rw [if_neg h0] at h1; cases h1
        clear hh
        go_wp2
        go_round
        case rel => exact ⟨k + 1, m + 1, by omega, by omega, by go_num, by go_num, HN.out⟩
        case measure => simp [intOf]; omega
    · obtain rfl : k = 16 := by omega
      have HF : Hid (count b = (m : Int)) := by show _ = _; unfold count; rw [HM.out]; split <;> rfl
      go_wp2
      go_ret
      exact ⟨by rw [HF.out]; rfl, rfl⟩
end Bm
end Go.Proofs.YtmeahaaibncmmaaDoor

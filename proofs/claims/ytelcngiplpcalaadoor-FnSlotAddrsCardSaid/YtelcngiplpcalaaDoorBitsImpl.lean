/- The program's BitmapOk and CountSlots. -/
import Derived.Test.YtelcngiplpcalaaDoorBits
import Derived.Test.YtelcngiplpcalaaDoorPop
namespace Go.Proofs.YtelcngiplpcalaaDoor
open Go.RowKit
namespace Bm
theorem pow_form (n : Int) (h0 : 0 ≤ n) (h1 : n ≤ 16) : wrap64 (2 ^ n.toNat) = 2 ^ n.toNat := by
  obtain ⟨N, rfl⟩ := Int.eq_ofNat_of_zero_le h0
  have hp : 2 ^ N ≤ 2 ^ 16 := Nat.pow_le_pow_right (by decide) (by omega)
  have e : (2 : Int) ^ N = ((2 ^ N : Nat) : Int) := by simp
  rw [Int.toNat_natCast, e]
  generalize 2 ^ N = p at *
  unfold wrap64; omega
theorem implOk (n b : Int) (w : World) : Calls Tryd.prog 49 #[.int .i64 n, .int .i64 b] w (BoolP (isMap n b) w) := by
  by_cases h1 : 1 ≤ n
  · by_cases h2 : n ≤ 16
    · by_cases h3 : 0 ≤ b
      · have HF : Hid (decide (b < wrap64 (2 ^ n.toNat)) = isMap n b) := by
          show _ = _
          rw [pow_form n (by omega) h2]
          unfold isMap
          simp only [h1, h2, h3, true_and]
        go_enter Tryd.func49, Tryd.ntmps49
        go_wp2
        go_ret
        exact ⟨by rw [← HF.out]; rfl, rfl⟩
      · have HF : Hid (isMap n b = false) := by show _ = _; unfold isMap; exact decide_eq_false (fun h => h3 h.2.2.1)
        have hd : decide (0 ≤ b) = false := by simp; omega
        clear h3
        go_enter Tryd.func49, Tryd.ntmps49
        go_wp2
        go_ret
        exact ⟨by rw [HF.out]; rfl, rfl⟩
    · have HF : Hid (isMap n b = false) := by show _ = _; unfold isMap; exact decide_eq_false (fun h => h2 h.2.1)
      go_enter Tryd.func49, Tryd.ntmps49
      go_wp2
      go_ret
      exact ⟨by rw [HF.out]; rfl, rfl⟩
  · have HF : Hid (isMap n b = false) := by show _ = _; unfold isMap; exact decide_eq_false (fun h => h1 h.1)
    go_enter Tryd.func49, Tryd.ntmps49
    go_wp2
    go_ret
    exact ⟨by rw [HF.out]; rfl, rfl⟩
theorem ones64 (x : Int) (w : World) (h0 : 0 ≤ x) (h1 : x < 65536) : Calls Tryd.prog 71 #[.int .u64 x] w (NumP (cnt x.toNat 16) w) := by
  have HF : Hid (pop x = cnt x.toNat 16) := by
    show _ = _
    obtain ⟨X, rfl⟩ := Int.eq_ofNat_of_zero_le h0
    exact pop_nat X (by omega)
  clear h0 h1
  obtain ⟨y1, h1⟩ : ∃ y, z1 x = y := ⟨_, rfl⟩
  obtain ⟨y2, h2⟩ : ∃ y, z2 y1 = y := ⟨_, rfl⟩
  obtain ⟨y3, h3⟩ : ∃ y, z3 y2 = y := ⟨_, rfl⟩
  obtain ⟨y4, h4⟩ : ∃ y, z4 y3 = y := ⟨_, rfl⟩
  obtain ⟨y5, h5⟩ : ∃ y, z5 y4 = y := ⟨_, rfl⟩
  obtain ⟨y6, h6⟩ : ∃ y, z6 y5 = y := ⟨_, rfl⟩
  obtain ⟨y7, h7⟩ : ∃ y, z7 y6 = y := ⟨_, rfl⟩
  have HY : Hid (y7 = (cnt x.toNat 16 : Int)) := by show _ = _; rw [← HF.out]; unfold pop; rw [h1, h2, h3, h4, h5, h6, h7]
  clear HF
  unfold z1 at h1; unfold z2 at h2; unfold z3 at h3; unfold z4 at h4; unfold z5 at h5; unfold z6 at h6; unfold z7 at h7
  go_enter Tryd.func71, Tryd.ntmps71
  go_wp2
  go_ret
  exact ⟨by rw [← HY.out]; rfl, rfl⟩
theorem ones (x : Int) (w : World) (h0 : 0 ≤ x) (h1 : x < 65536) : Calls Tryd.prog 69 #[.int .u64 x] w (NumP (cnt x.toNat 16) w) := by
  have HO : Hid (∀ w, Calls Tryd.prog 71 #[.int .u64 x] w (NumP (cnt x.toNat 16) w)) := fun w => ones64 x w h0 h1
  generalize (cnt x.toNat 16 : Int) = c at *
  clear h0 h1
  go_enter Tryd.func69, Tryd.ntmps69
  go_wp2_with fail
  refine (HO.out _).mono ?_
  rintro e w' ⟨rfl, rfl⟩
  go_wp2
  go_ret
  exact ⟨rfl, rfl⟩
theorem low16 (b : Nat) (h : b < 2 ^ 63) : bits .and .i64 (b : Int) 65535 = ((b % 65536 : Nat) : Int) := by
  have h1 := and_nat b 65535 h (by decide)
  have h2 : b &&& 65535 = b % 65536 := Nat.and_two_pow_sub_one_eq_mod b 16
  rw [h2] at h1
  exact h1
theorem cnt_low16 (b : Nat) : cnt (b % 65536) 16 = cnt b 16 := by
  unfold cnt
  congr 1
  apply List.filter_congr
  intro j hj
  rw [List.mem_range] at hj
  have := Nat.testBit_mod_two_pow b 16 j
  rw [show (2 : Nat) ^ 16 = 65536 from rfl] at this
  rw [this]; simp [hj]
theorem implCount (b : Int) (w : World) (hb : b ≤ 9223372036854775807) : Calls Tryd.prog 54 #[.int .i64 b] w (NumP (count b) w) := by
  by_cases h0 : 0 ≤ b
  · obtain ⟨B, rfl⟩ := Int.eq_ofNat_of_zero_le h0
    have h1 := low16 B (by omega)
    have h2 : Hid (IntKind.u64.wrap (bits .and .i64 (B : Int) 65535) = ((B % 65536 : Nat) : Int)) := by show _ = _; rw [h1]; exact wrap_u _ (by omega)
    have HX : Hid ((B % 65536 : Nat) < (65536 : Int)) := by show _ < _; omega
    have HF : Hid (count (B : Int) = (cnt (((B % 65536 : Nat) : Int)).toNat 16 : Int)) := by
      show _ = _
      unfold count
      rw [if_pos h0, Int.toNat_natCast, Int.toNat_natCast, cnt_low16]
    clear h1 hb
    rw [HF.out]
    have HO : Hid (∀ w, Calls Tryd.prog 69 #[.int .u64 ((B % 65536 : Nat) : Int)] w (NumP (cnt (((B % 65536 : Nat) : Int)).toNat 16) w)) := fun w => ones _ w (Int.natCast_nonneg _) HX.out
    generalize (cnt (((B % 65536 : Nat) : Int)).toNat 16 : Int) = c at *
    clear HF HX
    go_enter Tryd.func54, Tryd.ntmps54
    go_wp2_with fail
    rw [h2.out]
    refine (HO.out _).mono ?_
    rintro e w' ⟨rfl, rfl⟩
    go_wp2
    go_ret
    exact ⟨rfl, rfl⟩
  · have HF : Hid (count b = 0) := by show _ = _; unfold count; rw [if_neg h0]
    go_enter Tryd.func54, Tryd.ntmps54
    go_wp2
    go_ret
    exact ⟨by rw [HF.out]; rfl, rfl⟩
end Bm
end Go.Proofs.YtelcngiplpcalaaDoor

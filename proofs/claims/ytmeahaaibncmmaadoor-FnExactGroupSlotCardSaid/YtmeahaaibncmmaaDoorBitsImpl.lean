/- The program's BitmapOk and CountSlots. -/
import Derived.Test.YtmeahaaibncmmaaDoorBits
import Derived.Test.YtmeahaaibncmmaaDoorPop
namespace Go.Proofs.YtmeahaaibncmmaaDoor
open Go.RowKit
namespace Bm
theorem pow_form (n : Int) (h0 : 0 ≤ n) (h1 : n ≤ 16) : wrap64 (2 ^ n.toNat) = 2 ^ n.toNat := by
  obtain ⟨N, rfl⟩ := Int.eq_ofNat_of_zero_le h0
  have hp : 2 ^ N ≤ 2 ^ 16 := Nat.pow_le_pow_right (by decide) (by omega)
  have e : (2 : Int) ^ N = ((2 ^ N : Nat) : Int) := by simp
  rw [Int.toNat_natCast, e]
  generalize 2 ^ N = p at *
  unfold wrap64; omega
theorem implOk (n b : Int) (w : World) : Calls Tryd.prog 49 #[.int .i64 n, .int .i64 b] w (BoolP (isMap n b) w) := by
  by_cases h1 : 1 ≤ n
  · by_cases h2 : n ≤ 16
    · by_cases h3 : 0 ≤ b
      · have HF : Hid (decide (b < wrap64 (2 ^ n.toNat)) = isMap n b) := by
          show _ = _
          rw [pow_form n (by omega) h2]
          unfold isMap
          simp only [h1, h2, h3, true_and]
        go_enter Tryd.func49, Tryd.ntmps49
        go_wp2
        go_ret
        exact ⟨by rw [← HF.out]; rfl, rfl⟩
      · have HF : Hid (isMap n b = false) := by show _ = _; unfold isMap; exact decide_eq_false (fun h => h3 h.2.2.1)
        have hd : decide (0 ≤ b) = false := by simp; omega
        clear h3
        go_enter Tryd.func49, Tryd.ntmps49
        go_wp2
        go_ret
        exact ⟨by rw [HF.out]; rfl, rfl⟩
    · have HF : Hid (isMap n b = false) := by show _ = _; unfold isMap; exact decide_eq_false (fun h => h2 h.2.1)
      go_enter Tryd.func49, Tryd.ntmps49
      go_wp2
      go_ret
      exact ⟨by rw [HF.out]; rfl, rfl⟩
  · have HF : Hid (isMap n b = false) := by show _ = _; unfold isMap; exact decide_eq_false (fun h => h1 h.1)
    go_enter Tryd.func49, Tryd.ntmps49
    go_wp2
    go_ret
    exact ⟨by rw [HF.out]; rfl, rfl⟩
theorem low16 (b : Nat) (h : b < 2 ^ 63) : bits .and .i64 (b : Int) 65535 = ((b % 65536 : Nat) : Int) := by
  have h1 := and_nat b 65535 h (by decide)
  have h2 : b &&& 65535 = b % 65536 := Nat.and_two_pow_sub_one_eq_mod b 16
  rw [h2] at h1
  exact h1
theorem cnt_low16 (b : Nat) : cnt (b % 65536) 16 = cnt b 16 := by
  unfold cnt
  congr 1
  apply List.filter_congr
  intro j hj
  rw [List.mem_range] at hj
  have := Nat.testBit_mod_two_pow b 16 j
  rw [show (2 : Nat) ^ 16 = 65536 from rfl] at this
  rw [this]; simp [hj]
end Bm
end Go.Proofs.YtmeahaaibncmmaaDoor

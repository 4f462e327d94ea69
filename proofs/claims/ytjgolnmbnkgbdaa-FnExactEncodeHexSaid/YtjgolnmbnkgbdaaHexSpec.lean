/- EncodeHex of the model returns the digits of the bytes, for every string of at most 20000 bytes, and rejects longer ones. -/
import Derived.Test.YtjgolnmbnkgbdaaHex
namespace Go.Proofs.Ytjgolnmbnkgbdaa
open Go.RowKit
namespace Hex
open Own

theorem figure (x : Int) (w : World) (h0 : 0 ≤ x) (h1 : x < 16) : Calls Try.prog 25 #[.int .i64 x] w fun e w' => e = .returned (.int .u8 ((dig x.toNat).toNat : Int)) ∧ w = w' := by
  have hd : ∀ n : Fin 16, ((dig n.val).toNat : Int) = if n.val < 10 then 48 + (n.val : Int) else 87 + (n.val : Int) := by decide
  have hx := hd ⟨x.toNat, by omega⟩
  by_cases h : x < 10
  · rw [if_pos (by simp; omega)] at hx
    have e : ((dig x.toNat).toNat : Int) = 48 + x := by rw [hx]; simp; omega
    clear hx hd
    have E := Lib.hid e; clear e
    go_enter Try.func25, Try.ntmps25
    go_wp2
    go_ret
    exact ⟨by rw [E.out]; rfl, rfl⟩
  · rw [if_neg (by simp; omega)] at hx
    have e : ((dig x.toNat).toNat : Int) = 97 + x - 10 := by rw [hx]; simp; omega
    clear hx hd
    have E := Lib.hid e; clear e
    go_enter Try.func25, Try.ntmps25
    go_wp2
    go_ret
    exact ⟨by rw [E.out]; rfl, rfl⟩

theorem spec_long (s : ByteArray) (w : World) (h : 20000 < s.size) : Calls Try.prog 11 #[.string s] w (RetS [] false w) := by
  have h' : (20000 : Int) < s.size := by omega
  go_enter Try.func11, Try.ntmps11
  go_wp2
  go_ret2
  exact ⟨rfl, Below.refl _ _⟩

theorem spec_short (s : ByteArray) (w : World) (h : s.size ≤ 20000) : Calls Try.prog 11 #[.string s] w (RetS (hexL s.data.toList) true w) := by
  have h' : (s.size : Int) ≤ 20000 := by omega
  obtain ⟨i0, hi, hz0, hz1, hz2⟩ := info_parts info_u8
  go_enter Try.func11, Try.ntmps11
  go_wp2
  have hown0 := World.ownsRow_made (e := 5) (size := 1) w #[] 0 (Nat.le_refl w.heap.size) (by unfold maxLen; omega) rfl
  have hb0 := (Below.refl w.heap.size w).alloc (Nat.le_refl _) (.cells #[] 5)
  go_loopw [4, 5] (fun d c wr => ∃ k : Nat, k ≤ s.size ∧ c = .int .i64 k ∧ Hid (wr.ownsRow w.heap.size 5 1 d (2 * k) (bys (hexL (s.data.toList.take k)))) ∧ Hid (Below w.heap.size w wr)) (fun _ c _ => s.size - (intOf c).toNat)
  case atStart => exact ⟨0, Nat.zero_le _, rfl, hown0, hb0⟩
  case round =>
    clear hown0 hb0
    obtain ⟨k, hk, rfl, HO, HB⟩ := hrel
    by_cases hlt : k < s.size
    · have hk0 : (0 : Int) ≤ k := by omega
      have hki : (k : Int) < s.size := by omega
      go_wp2_with fail
      have hb1 : (s[k]).toNat < 256 := (s[k]).toNat_lt
      have v1 : IntKind.i64.wrap ((s[k]).toNat : Int) = ((s[k]).toNat : Int) := IntWalk.i64_in _ (by omega)
      have v2 : (((s[k]).toNat : Int)).tdiv 16 = ((s[k]).toNat : Int) / 16 := Int.tdiv_eq_ediv_of_nonneg (by omega)
      have v3 : IntKind.i64.wrap (((s[k]).toNat : Int) / 16) = ((s[k]).toNat : Int) / 16 := IntWalk.i64_in _ (by omega)
      have v4 : IntKind.i64.wrap (((s[k]).toNat : Int) % 16) = ((s[k]).toNat : Int) % 16 := IntWalk.i64_in _ (by omega)
      have t2 : (((s[k]).toNat : Int)).tmod 16 = ((s[k]).toNat : Int) % 16 := Int.tmod_eq_emod_of_nonneg (by omega)
      have l1 : ((s[k]).toNat : Int) / 16 < 16 := by omega
      have l2 : ((s[k]).toNat : Int) % 16 < 16 := by omega
      have m1 : 0 ≤ ((s[k]).toNat : Int) / 16 := by omega
      have m2 : 0 ≤ ((s[k]).toNat : Int) % 16 := by omega
      go_region_law (first
        | ((refine Own.step_append_own rfl (.tmp 16) (.tmp 29) 22 rfl w.heap.size 5 i0 (.int .u8 0) 1 1 Try.underlying22 hi hz0 hz1 hz2 rfl (by decide) u4 (2 * k) _ (by simp [Act.eval]) ((HO.out.alloc _).drew) ⟨wr.heap.size, 0, none⟩ 2 2 [_, _] (by simp [Act.eval]) rfl (World.news_of_block (cs := #[_, _]) (heap_alloc_new wr _)) (by simp [Value.oneCell']) (by unfold maxLen; omega) (by omega) (by simp; have := HB.out.size; omega) ?_); intro v1 w1 ho1 hg1)
        | (go_simp; go_at_call 25; refine (figure _ _ (by omega) (by omega)).mono ?_; rintro e w' ⟨rfl, rfl⟩))
      all_goals
        have HO1 := Lib.hid (rel_next s k hlt ho1 rfl rfl)
        have HB1 := Lib.hid (((HB.out.alloc HB.out.size _).drew).grown hg1 (by simp; have := HB.out.size; omega) (fun j hj => (HO.out.lt j hj).1))
        clear ho1 hg1
        go_wp2
        go_roundw
        case rel => exact ⟨k + 1, by omega, by go_num, HO1.out, HB1.out⟩
        case measure => simp [intOf]; omega
    · obtain rfl : k = s.size := by omega
      have ho := HO.out
      rw [List.take_of_length_le (by simp)] at ho
      have hl : 2 * s.size = (hexL s.data.toList).length := by rw [hexL_length]; simp
      rw [hl] at ho
      have hcv := Own.to_string (P := Try.prog) 22 9 5 ho Try.underlying22 Try.underlying5 Try.underlying9
      clear ho hl
      go_wp2
      go_ret2
      exact ⟨rfl, HB.out⟩
end Hex
end Go.Proofs.Ytjgolnmbnkgbdaa

/- The specification's functions of chapter 4. -/
import Derived.Test.YtbggkniebolhnaaDoorBits
import Derived.Test.YtbggkniebolhnaaDoorClassMath
namespace Go.Proofs.YtbggkniebolhnaaDoor
open Go.RowKit
namespace Cl
open Bm
theorem ret_int {a b : Int} (h : a = b) : Ending.returned (.int .i64 a) = .returned (.int .i64 b) := by rw [h]
theorem specClassOf (s : Int) (w : World) : Calls Tryd.prog 16 #[.int .i64 s] w (NumP (cls s) w) := by
  by_cases h : 1 ≤ s ∧ s ≤ 8
  · obtain ⟨h1, h8⟩ := h
    have HC : Hid (0 ≤ cls s) := (cls_le s h1 h8).1
    go_enter Tryd.func16, Tryd.ntmps16
    go_wp2_with fail
    refine (in_yes _ _ _ _ h1 h8).mono ?_
    rintro e w' ⟨rfl, rfl⟩
    go_wp2
    go_loop [3] (fun c => ∃ k : Int, 0 ≤ k ∧ Hid (k ≤ cls s) ∧ c = .int .i64 k) (fun c => (3 - intOf c).toNat)
    case atStart => exact ⟨0, by omega, HC.out, rfl⟩
    case round =>
      obtain ⟨k, hk0, HK, rfl⟩ := hrel
      have hk := HK.out
      have hc : (s = 1 ∧ k = 0) ∨ (s = 2 ∧ k = 0) ∨ (s = 2 ∧ k = 1) ∨ ((3 ≤ s ∧ s ≤ 4) ∧ k = 0) ∨ ((3 ≤ s ∧ s ≤ 4) ∧ k = 1) ∨ ((3 ≤ s ∧ s ≤ 4) ∧ k = 2) ∨ ((5 ≤ s ∧ s ≤ 8) ∧ k = 0) ∨ ((5 ≤ s ∧ s ≤ 8) ∧ k = 1) ∨ ((5 ≤ s ∧ s ≤ 8) ∧ k = 2) ∨ ((5 ≤ s ∧ s ≤ 8) ∧ k = 3) := by
        unfold cls at hk; omega
      clear hk HK HC
      rcases hc with ⟨rfl, rfl⟩ | ⟨rfl, rfl⟩ | ⟨rfl, rfl⟩ | ⟨⟨h3, h4⟩, rfl⟩ | ⟨⟨h3, h4⟩, rfl⟩ | ⟨⟨h3, h4⟩, rfl⟩ | ⟨⟨h3, h4⟩, rfl⟩ | ⟨⟨h3, h4⟩, rfl⟩ | ⟨⟨h3, h4⟩, rfl⟩ | ⟨⟨h3, h4⟩, rfl⟩
      all_goals
        go_wp2
        first
        | (go_ret; exact ⟨ret_int (by unfold cls; omega), rfl⟩)
        | (go_round
           case rel => exact ⟨_, by omega, by show _ ≤ _; unfold cls; omega, rfl⟩
           case measure => simp [intOf])
  · have H := Lib.hid h
    have HF : Hid (cls s = -1) := by show _ = _; unfold cls; omega
    clear h
    go_enter Tryd.func16, Tryd.ntmps16
    go_wp2_with fail
    refine (in_no _ _ _ _ H.out).mono ?_
    rintro e w' ⟨rfl, rfl⟩
    go_wp2
    go_ret
    exact ⟨by rw [HF.out]; rfl, rfl⟩
theorem specClassSize (k : Int) (w : World) : Calls Tryd.prog 17 #[.int .i64 k] w (NumP (csz k) w) := by
  by_cases h : 0 ≤ k ∧ k ≤ 3
  · have hc : k = 0 ∨ k = 1 ∨ k = 2 ∨ k = 3 := by omega
    obtain ⟨h0, h3⟩ := h
    rcases hc with rfl | rfl | rfl | rfl
    all_goals
      go_enter Tryd.func17, Tryd.ntmps17
      go_wp2_with fail
      refine (in_yes _ _ _ _ h0 h3).mono ?_
      rintro e w' ⟨rfl, rfl⟩
      go_wp2
      go_ret
      exact ⟨rfl, rfl⟩
  · have H := Lib.hid h
    have HF : Hid (csz k = 0) := by show _ = _; unfold csz; omega
    clear h
    go_enter Tryd.func17, Tryd.ntmps17
    go_wp2_with fail
    refine (in_no _ _ _ _ H.out).mono ?_
    rintro e w' ⟨rfl, rfl⟩
    go_wp2
    go_ret
    exact ⟨by rw [HF.out]; rfl, rfl⟩
theorem specSlotsOf (k : Int) (w : World) : Calls Tryd.prog 18 #[.int .i64 k] w (NumP (slots k) w) := by
  by_cases h : 0 ≤ k ∧ k ≤ 3
  · have hc : k = 0 ∨ k = 1 ∨ k = 2 ∨ k = 3 := by omega
    obtain ⟨h0, h3⟩ := h
    rcases hc with rfl | rfl | rfl | rfl
    all_goals
      go_enter Tryd.func18, Tryd.ntmps18
      go_wp2_with fail
      refine (in_yes _ _ _ _ h0 h3).mono ?_
      rintro e w' ⟨rfl, rfl⟩
      go_wp2
      go_ret
      exact ⟨rfl, rfl⟩
  · have H := Lib.hid h
    have HF : Hid (slots k = 0) := by show _ = _; unfold slots; omega
    clear h
    go_enter Tryd.func18, Tryd.ntmps18
    go_wp2_with fail
    refine (in_no _ _ _ _ H.out).mono ?_
    rintro e w' ⟨rfl, rfl⟩
    go_wp2
    go_ret
    exact ⟨by rw [HF.out]; rfl, rfl⟩
theorem specWaste (s : Int) (w : World) : Calls Tryd.prog 19 #[.int .i64 s] w (NumP (waste s) w) := by
  have HC : Hid (∀ w, Calls Tryd.prog 16 #[.int .i64 s] w (NumP (cls s) w)) := fun w => specClassOf s w
  by_cases h : 1 ≤ s ∧ s ≤ 8
  · have h3 := cls_le s h.1 h.2
    have HZ : Hid (∀ w, Calls Tryd.prog 17 #[.int .i64 (cls s)] w (NumP (csz (cls s)) w)) := fun w => specClassSize (cls s) w
    have HF : Hid (waste s = csz (cls s) - s) := by show _ = _; unfold waste; rw [if_pos h]
    have hz : 0 ≤ csz (cls s) ∧ csz (cls s) ≤ 8 := by unfold csz; omega
    obtain ⟨h1, h8⟩ := h
    obtain ⟨hz0, hz8⟩ := hz
    obtain ⟨hc0, hc3⟩ := h3
    generalize csz (cls s) = z at *
    generalize cls s = c at *
    go_enter Tryd.func19, Tryd.ntmps19
    go_wp2_with fail
    refine (HC.out _).mono ?_
    rintro e w' ⟨rfl, rfl⟩
    go_wp2_with fail
    refine (HZ.out _).mono ?_
    rintro e w' ⟨rfl, rfl⟩
    go_wp2
    go_ret
    exact ⟨by rw [HF.out]; rfl, rfl⟩
  · have HF : Hid (waste s = 0) := by show _ = _; unfold waste; rw [if_neg h]
    have HN : Hid (cls s = -1) := by show _ = _; unfold cls; omega
    go_enter Tryd.func19, Tryd.ntmps19
    clear h
    go_wp2_with fail
    refine (HC.out _).mono ?_
    rintro e w' ⟨rfl, rfl⟩
    rw [HN.out]
    go_wp2
    go_ret
    exact ⟨by rw [HF.out]; rfl, rfl⟩
end Cl
end Go.Proofs.YtbggkniebolhnaaDoor

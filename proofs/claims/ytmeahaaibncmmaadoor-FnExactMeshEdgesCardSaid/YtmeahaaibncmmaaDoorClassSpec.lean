/- The specification's functions of chapter 4. -/
import Derived.Test.YtmeahaaibncmmaaDoorBits
import Derived.Test.YtmeahaaibncmmaaDoorClassMath
namespace Go.Proofs.YtmeahaaibncmmaaDoor
open Go.RowKit
namespace Cl
open Bm
theorem ret_int {a b : Int} (h : a = b) : Ending.returned (.int .i64 a) = .returned (.int .i64 b) := by rw [h]
theorem specSlotsOf (k : Int) (w : World) : Calls Tryd.prog 20 #[.int .i64 k] w (NumP (slots k) w) := by
  by_cases h : 0 ≤ k ∧ k ≤ 3
  · have hc : k = 0 ∨ k = 1 ∨ k = 2 ∨ k = 3 := by omega
    obtain ⟨h0, h3⟩ := h
    rcases hc with rfl | rfl | rfl | rfl
    all_goals
      go_enter Tryd.func20, Tryd.ntmps20
      go_wp2_with fail
      refine (in_yes _ _ _ _ h0 h3).mono ?_
      rintro e w' ⟨rfl, rfl⟩
      go_wp2
      go_ret
      exact ⟨rfl, rfl⟩
  · have H := Lib.hid h
    have HF : Hid (slots k = 0) := by show _ = _; unfold slots; omega
    clear h
    go_enter Tryd.func20, Tryd.ntmps20
    go_wp2_with fail
    refine (in_no _ _ _ _ H.out).mono ?_
    rintro e w' ⟨rfl, rfl⟩
    go_wp2
    go_ret
    exact ⟨by rw [HF.out]; rfl, rfl⟩
end Cl
end Go.Proofs.YtmeahaaibncmmaaDoor

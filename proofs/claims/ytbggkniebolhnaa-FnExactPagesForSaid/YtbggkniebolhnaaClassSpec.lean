/- The specification's functions of chapter 4. -/
import Derived.Test.YtbggkniebolhnaaBits
import Derived.Test.YtbggkniebolhnaaClassMath
namespace Go.Proofs.Ytbggkniebolhnaa
open Go.RowKit
namespace Cl
open Bm
theorem ret_int {a b : Int} (h : a = b) : Ending.returned (.int .i64 a) = .returned (.int .i64 b) := by rw [h]
theorem specPages (s : Int) (w : World) : Calls Try.prog 4 #[.int .i64 s] w (NumP (pages s) w) := by
  by_cases h : 9 ≤ s ∧ s ≤ 1000
  · have HF : Hid (pages s = (s + 15) / 16) := by show _ = _; unfold pages; rw [if_pos h]
    obtain ⟨h1, h8⟩ := h
    go_enter Try.func4, Try.ntmps4
    go_wp2_with fail
    refine (in_yes _ _ _ _ h1 h8).mono ?_
    rintro e w' ⟨rfl, rfl⟩
    go_wp2
    go_ret
    exact ⟨ret_int (by rw [HF.out]; omega), rfl⟩
  · have H := Lib.hid h
    have HF : Hid (pages s = 0) := by show _ = _; unfold pages; rw [if_neg h]
    clear h
    go_enter Try.func4, Try.ntmps4
    go_wp2_with fail
    refine (in_no _ _ _ _ H.out).mono ?_
    rintro e w' ⟨rfl, rfl⟩
    go_wp2
    go_ret
    exact ⟨by rw [HF.out]; rfl, rfl⟩
end Cl
end Go.Proofs.Ytbggkniebolhnaa

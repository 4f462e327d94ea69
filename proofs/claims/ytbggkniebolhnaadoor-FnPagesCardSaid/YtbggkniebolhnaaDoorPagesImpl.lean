/- The program's PagesFor. -/
import Derived.Test.YtbggkniebolhnaaDoorClassSpec
namespace Go.Proofs.YtbggkniebolhnaaDoor
open Go.RowKit
namespace Cl
open Bm
theorem implPages (s : Int) (w : World) : Calls Tryd.prog 15 #[.int .i64 s] w (NumP (pages s) w) := by
  by_cases h : 9 ≤ s ∧ s ≤ 1000
  · have HF : Hid (pages s = (s + 15) / 16) := by show _ = _; unfold pages; rw [if_pos h]
    obtain ⟨h1, h8⟩ := h
    have d1 : decide (s ≤ 8) = false := by simp; omega
    have d2 : decide (1000 < s) = false := by simp; omega
    go_enter Tryd.func15, Tryd.ntmps15
    go_wp2
    go_ret
    exact ⟨ret_int (by rw [HF.out]; omega), rfl⟩
  · have HF : Hid (pages s = 0) := by show _ = _; unfold pages; rw [if_neg h]
    by_cases h8 : s ≤ 8
    · clear h
      go_enter Tryd.func15, Tryd.ntmps15
      go_wp2
      go_ret
      exact ⟨by rw [HF.out]; rfl, rfl⟩
    · have h1 : 1000 < s := by omega
      have d1 : decide (s ≤ 8) = false := by simp; omega
      clear h
      go_enter Tryd.func15, Tryd.ntmps15
      go_wp2
      go_ret
      exact ⟨by rw [HF.out]; rfl, rfl⟩
end Cl
end Go.Proofs.YtbggkniebolhnaaDoor

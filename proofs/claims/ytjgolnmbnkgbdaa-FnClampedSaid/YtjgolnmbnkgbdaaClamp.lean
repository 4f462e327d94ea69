/- The three numbers given, Clamp of the program and Clamp of the model return one and the same value, and write nothing. No condition. -/
import Derived.Test.YtjgolnmbnkgbdaaRows
import Derived.WalkKit
import Derived.ProofKit
import Derived.OpenShut
namespace Go.Proofs.Ytjgolnmbnkgbdaa
open Go.RowKit
namespace Cl
/-- the clamped number -/
def clampM (n lo hi : Int) : Int := max lo (min n hi)
theorem ret {a b : Int} (h : a = b) : Ending.returned (.int .i64 a) = .returned (.int .i64 b) := by rw [h]
theorem implClamp (n lo hi : Int) (w : World) :
    Calls Try.prog 10 #[.int .i64 n, .int .i64 lo, .int .i64 hi] w fun e w' => e = .returned (.int .i64 (clampM n lo hi)) ∧ w = w' := by
  go_enter Try.func10, Try.ntmps10
  go_wp2
  all_goals (go_ret; exact ⟨ret (by unfold clampM; omega), rfl⟩)
theorem specClamp (n lo hi : Int) (w : World) :
    Calls Try.prog 20 #[.int .i64 n, .int .i64 lo, .int .i64 hi] w fun e w' => e = .returned (.int .i64 (clampM n lo hi)) ∧ w = w' := by
  by_cases h1 : hi < lo
  · go_enter Try.func20, Try.ntmps20
    go_wp2
    all_goals (go_ret; exact ⟨ret (by unfold clampM; omega), rfl⟩)
  · go_enter Try.func20, Try.ntmps20
    go_wp2
    all_goals (go_ret; exact ⟨ret (by unfold clampM; omega), rfl⟩)
end Cl
end Go.Proofs.Ytjgolnmbnkgbdaa

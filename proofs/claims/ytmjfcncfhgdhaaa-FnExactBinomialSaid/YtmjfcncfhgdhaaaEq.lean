/- The laws' comparisons. -/
import Derived.Test.YtmjfcncfhgdhaaaEnc
import Derived.WalkKit
import Derived.ProofKit
import Derived.BigQuiet
import Derived.Deep.QuietTactic
import Derived.Deep.RegionHeld3
import Derived.Lib.Hide
namespace Go.Proofs.Ytmjfcncfhgdhaaa
open Go.RowKit
namespace Tr
theorem h_eqFraction (x : GFraction) (w : World) :
    Calls Try.prog 21 #[.agg #[.int .i64 x.Num, .int .i64 x.Den], .agg #[.int .i64 x.Num, .int .i64 x.Den]] w (TrueP w) := by
  have hq0 : (x.Num != x.Num) = false := by simp
  have hq1 : (x.Den != x.Den) = false := by simp
  generalize x.Num = y0 at *
  generalize x.Den = y1 at *
  go_enter Try.func21, Try.ntmps21
  go_wp2
  go_ret
  exact ⟨rfl, ((Below.refl _ _).alloc (Nat.le_refl _) _).alloc (by simp) _⟩
end Tr
end Go.Proofs.Ytmjfcncfhgdhaaa

/- The laws' copies of what came in. -/
import Derived.Test.YtmjfcncfhgdhaaaEnc
import Derived.OwnWalk
import Derived.WalkKit
import Derived.ProofKit
import Derived.BigQuiet
import Derived.Deep.QuietTactic
import Derived.Deep.RegionHeld3
import Derived.Lib.Hide
namespace Go.Proofs.Ytmjfcncfhgdhaaa
open Go.RowKit
namespace Tr
theorem h_toFraction (x : GFraction) (w : World) : Calls Try.prog 20 #[.agg #[.int .i64 x.Num, .int .i64 x.Den]] w fun e w' => e = .returned (.agg #[.int .i64 x.Num, .int .i64 x.Den]) ∧ Below w.heap.size w w' := by
  generalize x.Num = y0 at *
  generalize x.Den = y1 at *
  go_enter Try.func20, Try.ntmps20
  go_wp2
  refine bodyPost_ret (v := .agg #[.int .i64 y0, .int .i64 y1]) ?_ rfl ⟨rfl, ?_⟩
  · rw [results_c rfl]; go_simp
  · repeat' (first | exact Below.refl _ _ | refine Below.drew ?_ | refine Below.alloc ?_ (by simp <;> omega) _)
end Tr
end Go.Proofs.Ytmjfcncfhgdhaaa

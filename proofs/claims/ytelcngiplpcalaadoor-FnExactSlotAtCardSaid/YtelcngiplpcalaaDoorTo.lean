/- The laws' copies of what came in. -/
import Derived.Test.YtelcngiplpcalaaDoorEnc
import Derived.OwnWalk
import Derived.WalkKit
import Derived.ProofKit
import Derived.BigQuiet
import Derived.Deep.QuietTactic
import Derived.Deep.RegionHeld3
import Derived.Lib.Hide
namespace Go.Proofs.YtelcngiplpcalaaDoor
open Go.RowKit
namespace Tr
theorem h_toSpan (x : GSpan) (w : World) : Calls Tryd.prog 28 #[.agg #[.int .i64 x.Page, .int .i64 x.Class, .int .i64 x.Bits]] w fun e w' => e = .returned (.agg #[.int .i64 x.Page, .int .i64 x.Class, .int .i64 x.Bits]) ∧ Below w.heap.size w w' := by
  generalize x.Page = y0 at *
  generalize x.Class = y1 at *
  generalize x.Bits = y2 at *
  go_enter Tryd.func28, Tryd.ntmps28
  go_wp2
  refine bodyPost_ret (v := .agg #[.int .i64 y0, .int .i64 y1, .int .i64 y2]) ?_ rfl ⟨rfl, ?_⟩
  · rw [results_c rfl]; go_simp
  · repeat' (first | exact Below.refl _ _ | refine Below.drew ?_ | refine Below.alloc ?_ (by simp <;> omega) _)
end Tr
end Go.Proofs.YtelcngiplpcalaaDoor

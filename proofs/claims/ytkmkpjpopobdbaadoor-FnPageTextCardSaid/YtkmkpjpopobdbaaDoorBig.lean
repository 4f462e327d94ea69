/- The test of the laws for a long draw: it asks whether there are more than 1048576 bytes. -/
import Derived.Test.YtkmkpjpopobdbaaDoorRows
import Derived.WalkKit
import Derived.ProofKit
namespace Go.Proofs.YtkmkpjpopobdbaaDoor
open Go.RowKit
namespace Dr
theorem bigYes {w : World} {a : Option Addr} {len cap : Nat} (h : (1048576 : Int) < len) : Calls Tryd.prog 8 #[.slice a len cap] w fun e w' => e = .returned (.bool true) ∧ w = w' := by
  go_enter Tryd.func8, Tryd.ntmps8
  go_wp2
  go_ret
  exact ⟨rfl, rfl⟩
theorem bigNo {w : World} {a : Option Addr} {len cap : Nat} (h : (len : Int) ≤ 1048576) : Calls Tryd.prog 8 #[.slice a len cap] w fun e w' => e = .returned (.bool false) ∧ w = w' := by
  have hd : decide ((1048576 : Int) < len) = false := by simp; omega
  go_enter Tryd.func8, Tryd.ntmps8
  go_wp2
  go_ret
  exact ⟨rfl, rfl⟩
end Dr
end Go.Proofs.YtkmkpjpopobdbaaDoor

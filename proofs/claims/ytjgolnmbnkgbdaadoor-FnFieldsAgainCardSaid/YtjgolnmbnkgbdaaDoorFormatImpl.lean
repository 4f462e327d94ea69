/- FormatInt of the program returns the decimal text of every number, where the table of powers holds what the program's text lays. -/
import Derived.Test.YtjgolnmbnkgbdaaDoorFormat
import Derived.Test.YtjgolnmbnkgbdaaDoorLaid
import Derived.Test.YtjgolnmbnkgbdaaDoorShelf
namespace Go.Proofs.YtjgolnmbnkgbdaaDoor
open Go.RowKit
namespace Fmt
open Own Hex
theorem below_grow (w : World) (k : Nat) (os : Array Obj) : Below w.heap.size w (Go.Sort.grow (w.drewN k) os) :=
  ⟨rfl, rfl, rfl, by show _ ≤ (w.heap ++ os).size; simp, fun j hj => by show (w.heap ++ os)[j]? = _; rw [Array.getElem?_append_left hj]⟩

theorem implFormat (n : Int) (w : World) (hw : (Lit.int .i64 n).wf = true) (hT : Laid.Has w) : Calls Tryd.prog 11 #[.int .i64 n] w (RetT (Lib.itoa n) w) := by
  have hb : -9223372036854775808 ≤ n ∧ n ≤ 9223372036854775807 := by simpa [Lit.wf, IntKind.min, IntKind.max, IntKind.signed, IntKind.bits] using hw
  have HB := Lib.hid hb; clear hb hw
  have HT := Lib.hid hT; clear hT
  go_enter Tryd.func11, Tryd.ntmps11
  go_wp2_with fail
  refine (Tryd.strconv_Itoa n HB.out.1 HB.out.2 _ HT.out.pow).mono ?_
  rintro e w1 ⟨rfl, k, os, hw1⟩
  have HW : Hid (Below w.heap.size w w1) := by rw [hw1]; exact below_grow w k os
  clear hw1
  go_wp2
  go_ret
  exact ⟨rfl, HW.out⟩
end Fmt
end Go.Proofs.YtjgolnmbnkgbdaaDoor

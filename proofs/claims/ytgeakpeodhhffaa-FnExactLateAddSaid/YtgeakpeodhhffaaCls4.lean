/- A symbolic run (Cls4). No program. -/
import Derived.Test.YtgeakpeodhhffaaRows
import Derived.Test.YtgeakpeodhhffaaBit2
import Derived.Lib.LaidTab
import Derived.ProofKit
import Derived.WalkSmall
namespace Go.Proofs.Ytgeakpeodhhffaa
namespace Cl
/-- the smallest class whose objects have at least s cells, or -1 -/
def cls (s : Int) : Int := if s < 1 then -1 else if s ≤ 1 then 0 else if s ≤ 2 then 1 else if s ≤ 4 then 2 else if s ≤ 8 then 3 else -1
/-- the cells of the objects of class k, or 0 -/
def csz (k : Int) : Int := if k = 0 then 1 else if k = 1 then 2 else if k = 2 then 4 else if k = 3 then 8 else 0
/-- how many objects of class k fit into a page, or 0 -/
def slots (k : Int) : Int := if k = 0 then 16 else if k = 1 then 8 else if k = 2 then 4 else if k = 3 then 2 else 0
/-- the unused cells of an object of s cells, or 0 -/
def waste (s : Int) : Int := if 1 ≤ s ∧ s ≤ 8 then csz (cls s) - s else 0
/-- the pages for an object of s cells, or 0 -/
def pages (s : Int) : Int := if 9 ≤ s ∧ s ≤ 1000 then (s + 15) / 16 else 0
theorem cls_in (s : Int) : (s < 1 ∨ 8 < s) ∧ cls s = -1 ∨ (1 ≤ s ∧ s ≤ 8) ∧ 0 ≤ cls s ∧ cls s ≤ 3 := by unfold cls; omega
theorem cls_le (s : Int) (h1 : 1 ≤ s) (h8 : s ≤ 8) : 0 ≤ cls s ∧ cls s ≤ 3 := by unfold cls; omega
end Cl
end Go.Proofs.Ytgeakpeodhhffaa
namespace Go.Proofs.Ytgeakpeodhhffaa
open Go.RowKit
namespace Cl
open Bm
theorem ret_int {a b : Int} (h : a = b) : Ending.returned (.int .i64 a) = .returned (.int .i64 b) := by rw [h]
end Cl
end Go.Proofs.Ytgeakpeodhhffaa
namespace Go.Proofs.Ytgeakpeodhhffaa
open Go.RowKit
namespace Cl
open Bm
def sizes : List Int := [1, 2, 4, 8]
/-- the table of sizes holds what the program's text lays -/
def Sizes (w : World) : Prop := Lib.TabIs Try.prog w "loop.example/g00978/impl.classSizes" .i64 sizes
end Cl
end Go.Proofs.Ytgeakpeodhhffaa

/- The specification's NextSeed, Choose and Shuffled. -/
import Derived.Test.YtmeahaaibncmmaaDoorBits
import Derived.Test.YtmeahaaibncmmaaDoorSeedMath
namespace Go.Proofs.YtmeahaaibncmmaaDoor
open Go.RowKit
namespace Sd
open Own Il
def PairP (a b : Int) (w : World) (e : Ending) (w' : World) : Prop := e = .returned (.tuple #[.int .i64 a, .int .i64 b]) ∧ w = w'
/-- a shuffle's answer: the numbers in memory of the call's own, and a seed -/
def ShufP (l : List Int) (t : Int) (w : World) (e : Ending) (w' : World) : Prop := ∃ v, e = .returned (.tuple #[v, .int .i64 t]) ∧ w'.ownsRow w.heap.size 3 1 v l.length (ints l) ∧ Below w.heap.size w w'
theorem info_int : (Tryd.prog.info? 3).map (fun i => (i.zero, i.size, i.bytes)) = some (some (.int .i64 0), 1, 8) := by kernel_rfl
theorem info_bool : (Tryd.prog.info? 4).map (fun i => (i.zero, i.size, i.bytes)) = some (some (.bool false), 1, 1) := by kernel_rfl
theorem made0 (w0 w : World) (h : w0.heap.size ≤ w.heap.size) : (w.alloc (.cells #[] 3)).ownsRow w0.heap.size 3 1 (.slice (some ⟨w.heap.size, 0, none⟩) 0 0) 0 [] :=
  World.ownsRow_made (e := 3) (size := 1) w #[] 0 h (by unfold maxLen; omega) rfl
theorem ints_set (l : List Int) (i : Nat) (x : Int) : (ints l).set i (.int .i64 x) = ints (l.set i x) := by unfold ints; rw [List.map_set]
theorem row_at (n : Nat) (f : Nat → Nat) (i : Nat) (h : i < n) : (ints (rowF n f))[i]? = some (.int .i64 (f i : Int)) := by
  unfold ints; rw [List.getElem?_map, rowF_at n f i h]; rfl
theorem row_sw (n : Nat) (f : Nat → Nat) (i k : Nat) : ((ints (rowF n f)).set i (.int .i64 (f k : Int))).set k (.int .i64 (f i : Int)) = ints (rowF n (sw f i k)) := by
  rw [ints_set, ints_set, rowF_sw]
theorem st_succ (n : Nat) (s : Int) (m i k : Nat) (hi : n - 1 - m = i) (hk : pickK (st n s m).2 ((i + 1 : Nat) : Int) = (k : Int)) : st n s (m + 1) = (sw (st n s m).1 i k, nextN (st n s m).2) := by
  show (sw _ _ _, _) = _
  rw [hi, hk, Int.toNat_natCast]
end Sd
end Go.Proofs.YtmeahaaibncmmaaDoor

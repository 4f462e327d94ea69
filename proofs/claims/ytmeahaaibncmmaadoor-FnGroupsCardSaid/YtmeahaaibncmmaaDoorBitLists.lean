/- The model's FreeSlots and FormatBitmap. -/
import Derived.Test.YtmeahaaibncmmaaDoorBits
namespace Go.Proofs.YtmeahaaibncmmaaDoor
open Go.RowKit
namespace Bm
open Own Il
theorem info_int : (Tryd.prog.info? 3).map (fun i => (i.zero, i.size, i.bytes)) = some (some (.int .i64 0), 1, 8) := by kernel_rfl
/-- a list of whole numbers in memory of the call's own -/
def ListP (l : List Int) (w : World) (e : Ending) (w' : World) : Prop := ∃ v, e = .returned v ∧ w'.ownsRow w.heap.size 3 1 v l.length (ints l) ∧ Below w.heap.size w w'
def freeL (n b : Int) : List Int := if isMap n b then (freeTo b.toNat n.toNat).map (fun (j : Nat) => (j : Int)) else []
theorem made0 (w0 w : World) (h : w0.heap.size ≤ w.heap.size) : (w.alloc (.cells #[] 3)).ownsRow w0.heap.size 3 1 (.slice (some ⟨w.heap.size, 0, none⟩) 0 0) 0 [] :=
  World.ownsRow_made (e := 3) (size := 1) w #[] 0 h (by unfold maxLen; omega) rfl
theorem map_bd {n b : Int} (h : isMap n b = true) : 1 ≤ n ∧ n ≤ 16 ∧ 0 ≤ b ∧ b < 2 ^ n.toNat := by
  unfold isMap at h; exact of_decide_eq_true h
theorem freeL_le (n b : Int) : (freeL n b).length ≤ 16 := by
  unfold freeL
  cases h : isMap n b
  · simp
  · have h1 := map_bd h
    have h2 := freeTo_le b.toNat n.toNat
    simp only [if_pos, List.length_map]
    omega
theorem free_snoc (B k : Nat) : ints ((freeTo B (k + 1)).map (fun (j : Nat) => (j : Int))) = ints ((freeTo B k).map (fun (j : Nat) => (j : Int))) ++ if B.testBit k then [] else [Value.int .i64 (k : Int)] := by
  rw [freeTo_succ]
  cases h : B.testBit k <;> simp [ints]
def textL (n b : Int) : List UInt8 := if isMap n b then pic b.toNat n.toNat else []
def TextP (l : List UInt8) (w : World) (e : Ending) (w' : World) : Prop := e = .returned (.string ⟨l.toArray⟩) ∧ w = w'
theorem joined (a b : List UInt8) : (ByteArray.mk a.toArray ++ ByteArray.mk b.toArray) = ByteArray.mk (a ++ b).toArray := by
  apply ByteArray.ext
  simp
end Bm
end Go.Proofs.YtmeahaaibncmmaaDoor

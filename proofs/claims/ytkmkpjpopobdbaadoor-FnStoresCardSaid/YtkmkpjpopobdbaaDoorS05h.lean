/- Physical frames: how large the results are. -/
import Derived.Test.YtkmkpjpopobdbaaDoorS05d
namespace Go.Proofs.YtkmkpjpopobdbaaDoor
open Go.RowKit
set_option linter.unusedVariables false
namespace Tr
theorem szs_set_le : ∀ (l : List D) (i : Nat) (d : D), szs (l.set i d) ≤ szs l + d.sz
  | [], _, _ => by simp [szs]
  | a :: l, 0, d => by show d.sz + szs l ≤ a.sz + szs l + d.sz; omega
  | a :: l, i + 1, d => by
    have := szs_set_le l i d
    show a.sz + szs (l.set i d) ≤ a.sz + szs l + d.sz
    omega
theorem sz_ints (l : List Int) : (eIntS l).sz = l.length := by
  unfold eIntS; rw [rowD_sz, szs_zero (fun _ => rfl)]; rfl
theorem sz_bools (l : List Bool) : (eBoolS l).sz = l.length := by
  unfold eBoolS; rw [rowD_sz, szs_zero (fun _ => rfl)]; rfl
theorem sz_set (l : List (List Int)) (i : Nat) (r : List Int) : (eIntSS (l.set i r)).sz ≤ (eIntSS l).sz + r.length := by
  unfold eIntSS
  rw [rowD_sz, rowD_sz, List.length_set, List.map_set]
  have := szs_set_le (l.map eIntS) i (eIntS r)
  rw [sz_ints] at this
  omega
theorem bound_FrameTake (f : GFrames) (h : (eFrames f).sz ≤ 1048576) : (eFrames (pFrameTake f).1).sz ≤ 50000000 := by
  unfold pFrameTake
  split
  · rw [sz_Frames, sz_bools] at h ⊢
    show (eIntSS f.Cells).sz + (List.set _ _ _).length ≤ _
    rw [List.length_set]; omega
  · show (eFrames f).sz ≤ _; omega
theorem bound_FrameGive (f : GFrames) (i : Int) (h : (eFrames f).sz ≤ 1048576) : (eFrames (pFrameGive f i).1).sz ≤ 50000000 := by
  unfold pFrameGive
  split
  · rw [sz_Frames, sz_bools] at h ⊢
    have h1 := sz_set f.Cells i.toNat (List.replicate 16 0)
    rw [List.length_replicate] at h1
    show _ + (List.set _ _ _).length ≤ _
    rw [List.length_set]
    show (eIntSS (f.Cells.set i.toNat (List.replicate 16 0))).sz + _ ≤ _
    omega
  · show (eFrames f).sz ≤ _; omega
theorem bound_FrameWrite (f : GFrames) (i at_ v : Int) (h : (eFrames f).sz ≤ 1048576) : (eFrames (pFrameWrite f i at_ v).1).sz ≤ 50000000 := by
  unfold pFrameWrite
  split
  · rw [sz_Frames, sz_bools] at h ⊢
    have h1 := sz_set f.Cells i.toNat ((f.Cells.getD i.toNat []).set at_.toNat v)
    rw [List.length_set] at h1
    have h2 : (f.Cells.getD i.toNat []).length ≤ 1048576 := by
      rw [List.getD_eq_getElem?_getD]
      cases hr : f.Cells[i.toNat]? with
      | none => simp
      | some r =>
        have := sz_elem (T := 34) (k := 1) (E := eIntS) (l := f.Cells) (n := 1048576) (by show (eIntSS f.Cells).sz ≤ _; omega) hr
        rw [sz_ints] at this
        exact this
    show (eIntSS (f.Cells.set i.toNat ((f.Cells.getD i.toNat []).set at_.toNat v))).sz + f.Used.length ≤ _
    omega
  · show (eFrames f).sz ≤ _; omega
theorem szs_replicate (n : Nat) (d : D) : szs (List.replicate n d) = n * d.sz := by
  induction n with
  | zero => simp [szs]
  | succ n ih =>
    rw [List.replicate_succ, Nat.succ_mul]
    show d.sz + szs (List.replicate n d) = _
    omega
theorem bound_FramesNew (n : Int) : (eFrames (pFramesNew n).1).sz ≤ 50000000 := by
  unfold pFramesNew
  split
  · rw [sz_Frames, sz_bools]
    show (eIntSS (List.replicate n.toNat (List.replicate 16 0))).sz + (List.replicate n.toNat false).length ≤ _
    unfold eIntSS
    rw [rowD_sz, List.map_replicate, szs_replicate, sz_ints, List.length_replicate, List.length_replicate, List.length_replicate]
    omega
  · rw [sz_Frames, sz_bools]
    show (eIntSS []).sz + 0 ≤ _
    unfold eIntSS
    rw [rowD_sz]; simp [szs]
end Tr
end Go.Proofs.YtkmkpjpopobdbaaDoor

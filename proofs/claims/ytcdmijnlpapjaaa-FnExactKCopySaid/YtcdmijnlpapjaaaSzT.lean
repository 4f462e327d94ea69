/- How large data is. -/
import Derived.Test.YtcdmijnlpapjaaaEnc
import Derived.Test.YtcdmijnlpapjaaaM07
namespace Go.Proofs.Ytcdmijnlpapjaaa
open Go.RowKit
set_option linter.unusedVariables false
namespace Tr
theorem szs_set_le : ∀ (l : List D) (i : Nat) (d : D), szs (l.set i d) ≤ szs l + d.sz
  | [], _, _ => by simp [szs]
  | a :: l, 0, d => by show d.sz + szs l ≤ a.sz + szs l + d.sz; omega
  | a :: l, i + 1, d => by
    have := szs_set_le l i d
    show a.sz + szs (l.set i d) ≤ a.sz + szs l + d.sz
    omega
theorem sz_ints (l : List Int) : (eIntS l).sz = l.length := by
  unfold eIntS; rw [rowD_sz, szs_zero (fun _ => rfl)]; rfl
theorem sz_bools (l : List Bool) : (eBoolS l).sz = l.length := by
  unfold eBoolS; rw [rowD_sz, szs_zero (fun _ => rfl)]; rfl
theorem sz_set (l : List (List Int)) (i : Nat) (r : List Int) : (eIntSS (l.set i r)).sz ≤ (eIntSS l).sz + r.length := by
  unfold eIntSS
  rw [rowD_sz, rowD_sz, List.length_set, List.map_set]
  have := szs_set_le (l.map eIntS) i (eIntS r)
  rw [sz_ints] at this
  omega
theorem sz_Table_len (t : GTable) : (eTable t).sz = t.Entries.length := by
  show (rowD _ _ eEntry t.Entries).sz = _
  rw [rowD_sz, szs_zero (fun _ => rfl)]; rfl
theorem sz_machine {m : GMachine} (hs : (eMachine m).sz ≤ 1048576) : (eFrames m.Frames).sz ≤ 1048576 ∧ (eTable m.Table).sz ≤ 1048576 ∧ (eIntSS m.Frames.Cells).sz ≤ 1048576 ∧ (eBoolS m.Frames.Used).sz ≤ 1048576 := by
  rw [sz_Machine] at hs
  have h1 := sz_Frames m.Frames
  exact ⟨by omega, by omega, by omega, by omega⟩
theorem szs_replicate (n : Nat) (d : D) : szs (List.replicate n d) = n * d.sz := by
  induction n with
  | zero => simp [szs]
  | succ n ih =>
    rw [List.replicate_succ, Nat.succ_mul]
    show d.sz + szs (List.replicate n d) = _
    omega
theorem szb_FramesNew (n : Int) : (eFrames (pFramesNew n).1).sz ≤ 1000000 := by
  unfold pFramesNew
  split
  · rw [sz_Frames, sz_bools]
    show (eIntSS (List.replicate n.toNat (List.replicate 16 0))).sz + (List.replicate n.toNat false).length ≤ _
    unfold eIntSS
    rw [rowD_sz, List.map_replicate, szs_replicate, sz_ints, List.length_replicate, List.length_replicate, List.length_replicate]
    omega
  · rw [sz_Frames, sz_bools]
    show (eIntSS []).sz + 0 ≤ _
    unfold eIntSS
    rw [rowD_sz]; simp [szs]
end Tr
end Go.Proofs.Ytcdmijnlpapjaaa

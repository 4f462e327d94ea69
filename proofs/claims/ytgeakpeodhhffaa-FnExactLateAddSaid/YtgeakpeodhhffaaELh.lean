/- What the exact laws call: copies, comparisons and marks of slices of numbers, by the symbolic run. -/
import Derived.Test.YtgeakpeodhhffaaE2b
import Derived.Test.YtgeakpeodhhffaaEArg
import Derived.Test.YtgeakpeodhhffaaEngZ
namespace Go.Proofs.Ytgeakpeodhhffaa
open Go.RowKit
set_option linter.unusedVariables false
set_option linter.unusedSimpArgs false
set_option maxRecDepth 100000
namespace Eng
open Tr
/-- the numbers from k on -/
def mkI (k n : Nat) : List Int := (List.range n).map fun i => ((k + i : Nat) : Int)
theorem mkI_len (k n : Nat) : (mkI k n).length = n := by unfold mkI; rw [List.length_map, List.length_range]
theorem mkI_at {k n i : Nat} (h : i < n) : (mkI k n).getD i 0 = ((k + i : Nat) : Int) := by
  unfold mkI
  rw [List.getD_eq_getElem?_getD, List.getElem?_map, List.getElem?_range h]
  rfl
theorem mkI_succ (k n : Nat) : mkI k (n + 1) = mkI k n ++ [((k + n : Nat) : Int)] := by unfold mkI; rw [List.range_succ, List.map_append]; rfl
theorem mid_set {α : Type} (a b : List α) {i : Nat} (x : α) (ha : a.length = i) (hb : i < a.length + b.length) : (a ++ b).set i x = a ++ [x] ++ b.drop 1 := by
  subst ha
  cases b with
  | nil => simp at hb
  | cons y b => simp
theorem mkI_set {l : List Int} {k i : Nat} (hi : i < l.length) : ((mkI k i ++ l.drop i).map Tr.eI).set i (Tr.eI ((k + i : Nat) : Int)) = (mkI k (i + 1) ++ l.drop (i + 1)).map Tr.eI := by
  rw [← List.map_set, mid_set _ _ _ (mkI_len k i) (by rw [mkI_len, List.length_drop]; omega), mkI_succ, List.drop_drop, Nat.add_comm i 1]
theorem to_set {α : Type} {E : α → D} {l : List α} {z d : α} {i : Nat} (hi : i < l.length) : ((l.take i ++ List.replicate (l.length - i) z).map E).set i (E (l.getD i d)) = (l.take (i + 1) ++ List.replicate (l.length - (i + 1)) z).map E := by
  rw [← List.map_set, mid_set _ _ _ (by rw [List.length_take]; omega) (by rw [List.length_take, List.length_replicate]; omega), take_getD l d hi]
  congr 2
  rw [List.drop_replicate, Nat.sub_sub]
theorem raw_max {α : Type} {w : World} {T k : Nat} {E : α → D} {l : List α} {v : Value} (h : Raw w (rowD T k E l) [v]) : l.length ≤ 9223372036854775807 := by
  obtain ⟨_, _, _, _, h⟩ := h
  rcases h with ⟨_, h, _⟩ | ⟨_, cap, _, _, h1, h2, _⟩
  · rw [List.length_map] at h; omega
  · rw [List.length_map] at h1
    have : maxLen = 9223372036854775807 := rfl
    omega
end Eng
end Go.Proofs.Ytgeakpeodhhffaa

/- What the exact laws call over slices of slices, by the symbolic run. -/
import Derived.Test.YtlkkiopjknbomaaELk
namespace Go.Proofs.Ytlkkiopjknbomaa
open Go.RowKit
set_option linter.unusedVariables false
set_option linter.unusedSimpArgs false
set_option maxRecDepth 100000
namespace Eng
open Tr
theorem ii_set {α : Type} {E : α → D} {l : List α} {z : D} {d : α} {i : Nat} (hi : i < l.length) : ((l.take i).map E ++ List.replicate (l.length - i) z).set i (E (l.getD i d)) = (l.take (i + 1)).map E ++ List.replicate (l.length - (i + 1)) z := by
  have hl : ((l.take i).map E).length = i := by rw [List.length_map, List.length_take]; omega
  rw [mid_set _ _ _ hl (by rw [hl, List.length_replicate]; omega), take_getD l d hi, List.map_append, List.drop_replicate, Nat.sub_sub]; rfl
theorem mkII_get {l : List (List Int)} {k i : Nat} (hi : i < l.length) : (mkII k l)[i]? = some (mkI (k + cntII (l.take i)) (l.getD i []).length) := by
  have h : mkII k (l.take (i + 1) ++ l.drop (i + 1)) = _ := mkII_app _ _ _
  rw [List.take_append_drop] at h
  have hl : (mkII k (l.take i)).length = i := by rw [mkII_len, List.length_take]; omega
  rw [h, mkII_take k l hi, List.append_assoc, List.getElem?_append_right (by omega), hl, Nat.sub_self]
  rfl
theorem mkII_set {l : List (List Int)} {k i : Nat} (hi : i < l.length) : ((mkII k (l.take i) ++ l.drop i).map eIntS).set i (eIntS (mkI (k + cntII (l.take i)) (l.getD i []).length)) = (mkII k (l.take (i + 1)) ++ l.drop (i + 1)).map eIntS := by
  have hl : (mkII k (l.take i)).length = i := by rw [mkII_len, List.length_take]; omega
  rw [← List.map_set, mid_set _ _ _ hl (by rw [hl, List.length_drop]; omega), mkII_take k l hi, List.drop_drop, Nat.add_comm i 1]
theorem mkII_at {l : List (List Int)} {k i : Nat} (hi : i < l.length) : (mkII k (l.take i) ++ l.drop i).getD i [] = l.getD i [] := by
  have hl : (mkII k (l.take i)).length = i := by rw [mkII_len, List.length_take]; omega
  rw [List.getD_eq_getElem?_getD, List.getElem?_append_right (by omega), hl, Nat.sub_self, List.getElem?_drop, Nat.add_zero, ← List.getD_eq_getElem?_getD]
theorem cntII_mem : ∀ {l : List (List Int)} {r : List Int}, r ∈ l → r.length ≤ cntII l
  | x :: l, r, h => by
    show r.length ≤ x.length + cntII l
    rcases List.mem_cons.1 h with rfl | h
    · omega
    · have := cntII_mem h; omega
end Eng
end Go.Proofs.Ytlkkiopjknbomaa

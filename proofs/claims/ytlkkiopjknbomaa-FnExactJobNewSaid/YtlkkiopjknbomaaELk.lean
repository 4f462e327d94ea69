/- What the exact laws call over the machine's slices: copies, comparisons, marks, by the symbolic run. -/
import Derived.Test.YtlkkiopjknbomaaELh
namespace Go.Proofs.Ytlkkiopjknbomaa
open Go.RowKit
set_option linter.unusedVariables false
set_option linter.unusedSimpArgs false
set_option maxRecDepth 100000
namespace Eng
open Tr
/-- rows with marks from k on -/
def mkII : Nat → List (List Int) → List (List Int)
  | _, [] => []
  | k, r :: l => mkI k r.length :: mkII (k + r.length) l
def cntII : List (List Int) → Nat
  | [] => 0
  | r :: l => r.length + cntII l
theorem mkII_len : ∀ (k : Nat) (l : List (List Int)), (mkII k l).length = l.length
  | _, [] => rfl
  | k, r :: l => by show (mkII _ l).length + 1 = l.length + 1; rw [mkII_len]
theorem cntII_app : ∀ (a b : List (List Int)), cntII (a ++ b) = cntII a + cntII b
  | [], b => by rw [List.nil_append]; show _ = 0 + _; omega
  | r :: a, b => by show r.length + cntII (a ++ b) = r.length + cntII a + cntII b; rw [cntII_app a b]; omega
theorem mkII_app : ∀ (k : Nat) (a b : List (List Int)), mkII k (a ++ b) = mkII k a ++ mkII (k + cntII a) b
  | k, [], b => by rw [List.nil_append]; rfl
  | k, r :: a, b => by
    show mkI k r.length :: mkII (k + r.length) (a ++ b) = mkI k r.length :: (mkII (k + r.length) a ++ mkII (k + (r.length + cntII a)) b)
    rw [mkII_app (k + r.length) a b, Nat.add_assoc]
theorem cntII_take (l : List (List Int)) {i : Nat} (hi : i < l.length) : cntII (l.take (i + 1)) = cntII (l.take i) + (l.getD i []).length := by
  rw [take_getD l [] hi, cntII_app]; rfl
theorem mkII_take (k : Nat) (l : List (List Int)) {i : Nat} (hi : i < l.length) : mkII k (l.take (i + 1)) = mkII k (l.take i) ++ [mkI (k + cntII (l.take i)) (l.getD i []).length] := by
  rw [take_getD l [] hi, mkII_app]; rfl
theorem cntII_le (l : List (List Int)) : ∀ i, cntII (l.take i) ≤ cntII l
  | i => by
    have h : cntII (l.take i ++ l.drop i) = _ := cntII_app _ _
    rw [List.take_append_drop] at h
    rw [h]; exact Nat.le_add_right _ _
/-- truth values with marks -/
def mkB (k n : Nat) : List Bool := (List.range n).map fun i => decide ((k + i) % 3 = 0)
theorem mkB_len (k n : Nat) : (mkB k n).length = n := by unfold mkB; rw [List.length_map, List.length_range]
theorem mkB_at {k n i : Nat} (h : i < n) : (mkB k n).getD i false = decide ((k + i) % 3 = 0) := by
  unfold mkB
  rw [List.getD_eq_getElem?_getD, List.getElem?_map, List.getElem?_range h]
  rfl
theorem mkB_succ (k n : Nat) : mkB k (n + 1) = mkB k n ++ [decide ((k + n) % 3 = 0)] := by unfold mkB; rw [List.range_succ, List.map_append]; rfl
theorem mkB_set {l : List Bool} {k i : Nat} (hi : i < l.length) : ((mkB k i ++ l.drop i).map Tr.eB).set i (Tr.eB (decide ((k + i) % 3 = 0))) = (mkB k (i + 1) ++ l.drop (i + 1)).map Tr.eB := by
  rw [← List.map_set, mid_set _ _ _ (mkB_len k i) (by rw [mkB_len, List.length_drop]; omega), mkB_succ, List.drop_drop, Nat.add_comm i 1]
theorem raw_max2 {w : World} {T T2 k : Nat} {l : List (List Int)} {v : Value} (h : Raw w (rowD T k (fun r => rowD T2 1 eI r) l) [v]) : ∀ r ∈ l, r.length ≤ 9223372036854775807 := by
  obtain ⟨_, _, _, _, h⟩ := h
  rcases h with ⟨_, h, _⟩ | ⟨_, cap, us, _, _, _, _, _, hc⟩
  · rw [List.length_map] at h
    intro r hr
    rw [List.length_eq_zero_iff.1 h] at hr
    cases hr
  · intro r hr
    obtain ⟨i, hi, rfl⟩ := List.getElem_of_mem hr
    have hk : ∀ d ∈ l.map (fun r => rowD T2 1 eI r), d.len = 1 := fun d hd => by
      obtain ⟨x, _, rfl⟩ := List.mem_map.1 hd; rfl
    have hr := raw_cat 1 _ hk hc i (by rw [List.length_map]; exact hi)
    rw [List.getElem_map] at hr
    obtain ⟨x, hx⟩ : ∃ x, ((us.drop (i * 1)).take 1) = [x] := by
      have h1 := raw_len _ hr
      have h2 : (rowD T2 1 eI l[i]).len = 1 := rfl
      rw [h2] at h1
      exact List.length_eq_one_iff.1 h1
    rw [hx] at hr
    exact raw_max hr
theorem mod3 (n : Nat) : (((n : Nat) : Int).tmod 3 == 0) = decide (n % 3 = 0) := by
  rw [Int.tmod_eq_emod_of_nonneg (by omega), Bool.eq_iff_iff, beq_iff_eq, decide_eq_true_eq]
  omega
end Eng
end Go.Proofs.Ytlkkiopjknbomaa

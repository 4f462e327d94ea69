/- The program's NextSeed, Choose and Shuffled. -/
import Derived.Test.YtmeahaaibncmmaaDoorSeeds
namespace Go.Proofs.YtmeahaaibncmmaaDoor
open Go.RowKit
namespace Sd
open Own Il
theorem own_mono {w : World} {b b' : Nat} {e : TypeId} {size : Nat} {v : Value} {n : Nat} {xs : List Value} (h : w.ownsRow b e size v n xs) (hb : b' ≤ b) : w.ownsRow b' e size v n xs := by
  obtain ⟨h1, h2⟩ := h
  refine ⟨h1, ?_⟩
  rcases h2 with h2 | ⟨g, cap, cur, hv, hg, r⟩
  · exact Or.inl h2
  · exact Or.inr ⟨g, cap, cur, hv, Nat.le_trans hb hg, r⟩
/-- the places below k numbered, the others zero -/
def upN (k : Nat) : Nat → Nat := fun j => if j < k then j else 0
theorem row_zero (n : Nat) : List.replicate n (Value.int .i64 0) = ints (rowF n (upN 0)) := by
  apply List.ext_getElem?
  intro j
  by_cases hj : j < n
  · simp [ints, rowF, upN, hj]
  · simp [ints, rowF, hj]
theorem row_up (n k : Nat) : (ints (rowF n (upN k))).set k (.int .i64 (k : Int)) = ints (rowF n (upN (k + 1))) := by
  rw [ints_set, rowF_set]
  have e : (fun j => if j = k then k else upN k j) = upN (k + 1) := by
    funext j
    unfold upN
    by_cases h : j = k
    · subst h; rw [if_pos rfl, if_pos (Nat.lt_succ_self _)]
    · rw [if_neg h]
      by_cases h2 : j < k
      · rw [if_pos h2, if_pos (by omega)]
      · rw [if_neg h2, if_neg (by omega)]
  rw [e]
theorem row_all (n : Nat) : rowF n (upN n) = rowF n (fun j => j) := by
  unfold rowF
  apply List.map_congr_left
  intro j hj
  rw [List.mem_range] at hj
  unfold upN
  rw [if_pos hj]
end Sd
end Go.Proofs.YtmeahaaibncmmaaDoor

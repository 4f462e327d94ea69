/- Bitmaps: what the chapter's two laws ask of has, set, unset, count and isMap. No program. -/
import Derived.Test.YtmeahaaibncmmaaDoorBitLists
namespace Go.Proofs.YtmeahaaibncmmaaDoor
open Go.RowKit
namespace Bm
theorem set_nat (b i : Nat) (hi : i ≤ 15) : set (b : Int) (i : Int) = ((b ||| 2 ^ i : Nat) : Int) := by
  unfold set; rw [if_pos (by omega)]; simp
theorem unset_nat (b i : Nat) (hi : i ≤ 15) : unset (b : Int) (i : Int) = ((clr b i : Nat) : Int) := by
  unfold unset; rw [if_pos (by omega)]; simp
theorem has_set (b i k : Nat) (hi : i ≤ 15) (hk : k ≤ 15) (hne : k ≠ i) : has (set (b : Int) i) k = has b k := by
  rw [set_nat b i hi, has_nat _ k hk, has_nat _ k hk, test_set]
  simp; intro h; exact absurd h.symm hne
theorem has_unset (b i k : Nat) (hi : i ≤ 15) (hk : k ≤ 15) (hne : k ≠ i) : has (unset (b : Int) i) k = has b k := by
  rw [unset_nat b i hi, has_nat _ k hk, has_nat _ k hk, test_clr _ _ _ hi (by omega)]
  simp; intro _ h; exact absurd h.symm hne
theorem has_set_self (b i : Nat) (hi : i ≤ 15) : has (set (b : Int) i) i = true := by
  rw [set_nat b i hi, has_nat _ i hi, test_set]; simp
theorem has_unset_self (b i : Nat) (hi : i ≤ 15) : has (unset (b : Int) i) i = false := by
  rw [unset_nat b i hi, has_nat _ i hi, test_clr _ _ _ hi (by omega)]; simp
theorem cnt_set (b i : Nat) (hi : i ≤ 15) (k : Nat) (hk : k ≤ 16) : cnt (b ||| 2 ^ i) k = cnt (clr b i) k + if i < k then 1 else 0 := by
  induction k with
  | zero => simp [cnt]
  | succ k ih =>
    have ih := ih (by omega)
    rw [cnt_succ, cnt_succ, ih, test_set, test_clr _ _ _ hi (by omega)]
    by_cases h : i = k
    · subst h; simp
    · cases b.testBit k
      · by_cases h2 : i < k
        · have h3 : i < k + 1 := by omega
          simp [h, h2, h3]
        · have h3 : ¬ i < k + 1 := by omega
          simp [h, h2, h3]
      · by_cases h2 : i < k
        · have h3 : i < k + 1 := by omega
          simp [h, h2, h3]
        · have h3 : ¬ i < k + 1 := by omega
          simp [h, h2, h3]
theorem count_set (b i : Nat) (hi : i ≤ 15) : count (set (b : Int) i) = count (unset (b : Int) i) + 1 := by
  rw [set_nat b i hi, unset_nat b i hi]
  unfold count
  rw [if_pos (Int.natCast_nonneg _), if_pos (Int.natCast_nonneg _), Int.toNat_natCast, Int.toNat_natCast, cnt_set b i hi 16 (by omega), if_pos (by omega)]
  omega
theorem ok_set (n b i : Nat) (h1 : 1 ≤ n) (h2 : n ≤ 16) (hb : b < 2 ^ n) (hi : i < n) : isMap n (set (b : Int) i) = true := by
  rw [set_nat b i (by omega)]
  have hp : 2 ^ i < 2 ^ n := Nat.pow_lt_pow_right (by decide) hi
  have ho : (b ||| 2 ^ i) < 2 ^ n := Nat.or_lt_two_pow hb hp
  have e : ((2 : Int) ^ n) = ((2 ^ n : Nat) : Int) := by simp
  unfold isMap
  rw [Int.toNat_natCast, e]
  generalize 2 ^ n = p at *
  generalize b ||| 2 ^ i = q at *
  simp; omega
theorem small {n b : Nat} (h2 : n ≤ 16) (hb : b < 2 ^ n) : b < 65536 :=
  Nat.lt_of_lt_of_le hb (Nat.pow_le_pow_right (by decide) h2 (n := 2))
theorem set_le (n b i : Nat) (h2 : n ≤ 16) (hb : b < 2 ^ n) (hi : i < n) : set (b : Int) i ≤ 9223372036854775807 := by
  rw [set_nat b i (by omega)]
  have ho : (b ||| 2 ^ i) < 2 ^ n := Nat.or_lt_two_pow hb (Nat.pow_lt_pow_right (by decide) hi)
  have := small h2 ho
  omega
theorem unset_le (n b i : Nat) (h2 : n ≤ 16) (hb : b < 2 ^ n) (hi : i < n) : unset (b : Int) i ≤ 9223372036854775807 := by
  rw [unset_nat b i (by omega)]
  have h := Nat.and_le_left (n := b) (m := 18446744073709551615 - 2 ^ i)
  have := small h2 hb
  unfold clr
  omega
theorem cnt_high (b n : Nat) (hb : b < 2 ^ n) (hn : n ≤ 16) : cnt b 16 = cnt b n := by
  have h : ∀ d, cnt b (n + d) = cnt b n := by
    intro d
    induction d with
    | zero => rfl
    | succ d ih => rw [← Nat.add_assoc, cnt_succ, ih, high b n (n + d) hb (by omega)]; rfl
  have := h (16 - n)
  rwa [show n + (16 - n) = 16 by omega] at this
/-- the free slots stand in ascending order, below k, and are free -/
theorem freeTo_lt (b k j : Nat) (h : j < (freeTo b k).length) : (freeTo b k)[j] < k := by
  have := List.getElem_mem h
  unfold freeTo at this
  rw [List.mem_filter, List.mem_range] at this
  exact this.1
theorem freeTo_free (b k j : Nat) (h : j < (freeTo b k).length) : b.testBit ((freeTo b k)[j]) = false := by
  have := List.getElem_mem h
  unfold freeTo at this
  rw [List.mem_filter] at this
  have h2 : (!b.testBit ((freeTo b k)[j])) = true := this.2
  simpa using h2
theorem freeTo_up (b k i j : Nat) (hij : i < j) (h : j < (freeTo b k).length) : (freeTo b k)[i]'(by omega) < (freeTo b k)[j] := by
  have hp : List.Pairwise (· < ·) (freeTo b k) := by
    unfold freeTo
    exact List.Pairwise.filter _ List.pairwise_lt_range
  exact List.pairwise_iff_getElem.1 hp i j (by omega) h hij
theorem isMap_nat (n b : Nat) (h1 : 1 ≤ n) (h2 : n ≤ 16) (hb : b < 2 ^ n) : isMap n b = true := by
  have e : ((2 : Int) ^ n) = ((2 ^ n : Nat) : Int) := by simp
  unfold isMap
  rw [Int.toNat_natCast, e]
  generalize 2 ^ n = p at *
  simp; omega
theorem count_nonneg (b : Int) : 0 ≤ count b := by unfold count; split <;> omega
/-- what stands in the list of the free slots: free slots below n, in ascending order, as many as are not counted -/
theorem free_facts (n b : Nat) (h1 : 1 ≤ n) (h2 : n ≤ 16) (hb : b < 2 ^ n) : ∃ L : List Int, freeL n b = L ∧
    (∀ (j : Nat) (x : Int), L[j]? = some x → has b x = false ∧ 0 ≤ x ∧ x < n) ∧
    (∀ (i j : Nat) (x y : Int), i < j → L[i]? = some x → L[j]? = some y → x < y) ∧
    (L.length : Int) + count b = n := by
  refine ⟨(freeTo b n).map (fun (j : Nat) => (j : Int)), ?_, ?_, ?_, ?_⟩
  · unfold freeL; rw [if_pos (isMap_nat n b h1 h2 hb), Int.toNat_natCast, Int.toNat_natCast]
  · intro j x h
    rw [List.getElem?_map, Option.map_eq_some_iff] at h
    obtain ⟨y, hy, rfl⟩ := h
    obtain ⟨hj, rfl⟩ := List.getElem?_eq_some_iff.1 hy
    have e1 := freeTo_lt b n j hj
    have e2 := freeTo_free b n j hj
    exact ⟨by rw [has_nat _ _ (by omega)]; exact e2, by omega, by omega⟩
  · intro i j x y hij hx hy
    rw [List.getElem?_map, Option.map_eq_some_iff] at hx hy
    obtain ⟨x', hx, rfl⟩ := hx
    obtain ⟨y', hy, rfl⟩ := hy
    obtain ⟨hi, rfl⟩ := List.getElem?_eq_some_iff.1 hx
    obtain ⟨hj, rfl⟩ := List.getElem?_eq_some_iff.1 hy
    have := freeTo_up b n i j hij hj
    omega
  · have e1 := cnt_free b n
    have e2 : count (b : Int) = cnt b n := by
      unfold count; rw [if_pos (Int.natCast_nonneg _), Int.toNat_natCast, cnt_high b n hb h2]
    rw [List.length_map]
    omega
theorem text_facts (n b : Nat) (h1 : 1 ≤ n) (h2 : n ≤ 16) (hb : b < 2 ^ n) : (textL n b).length = n := by
  unfold textL; rw [if_pos (isMap_nat n b h1 h2 hb), pic_len, Int.toNat_natCast]
theorem text45 : textL 4 5 = [120, 46, 120, 46] := by decide
end Bm
end Go.Proofs.YtmeahaaibncmmaaDoor

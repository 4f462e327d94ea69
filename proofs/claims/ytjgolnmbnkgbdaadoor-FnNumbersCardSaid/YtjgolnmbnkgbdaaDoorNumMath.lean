/- The decimal text of a number, read again, gives the number. No program. -/
import Derived.Lib.ItoaNum
import Derived.Lib.AtoiAll
import Derived.WalkKit
import Derived.Below
namespace Go.Proofs.YtjgolnmbnkgbdaaDoor
open Go.RowKit
namespace Num
open Go.Lib
theorem ofNat_toNat {n : Nat} (h : n < 256) : (UInt8.ofNat n).toNat = n := by simp; omega
theorem pu_append : ∀ (l r : List UInt8) (acc u : Nat), parseUint10 acc l = .ok u → parseUint10 acc (l ++ r) = parseUint10 u r
  | [], r, acc, u, h => by
    simp only [parseUint10, NumEnd.ok.injEq] at h
    subst h; rfl
  | c :: l, r, acc, u, h => by
    simp only [parseUint10, List.cons_append] at h ⊢
    by_cases h1 : 48 ≤ c.toNat ∧ c.toNat ≤ 57
    · rw [if_pos h1] at h ⊢
      by_cases h2 : 1844674407370955162 ≤ acc
      · rw [if_pos h2] at h; cases h
      · rw [if_neg h2] at h ⊢
        by_cases h3 : 18446744073709551616 ≤ acc * 10 + (c.toNat - 48)
        · rw [if_pos h3] at h; cases h
        · rw [if_neg h3] at h ⊢
          exact pu_append l r _ u h
    · rw [if_neg h1] at h; cases h
theorem pu_one (a d : Nat) (hd : d < 10) (ha : a < 1000000000000000000) : parseUint10 a [UInt8.ofNat (48 + d)] = .ok (a * 10 + d) := by
  have e : (UInt8.ofNat (48 + d)).toNat = 48 + d := ofNat_toNat (by omega)
  simp only [parseUint10, e]
  rw [if_pos (by omega), if_neg (by omega), if_neg (by omega), show 48 + d - 48 = d by omega]
theorem pu_dec (m : Nat) (h : m < 1000000000000000000) : parseUint10 0 (decDigits m) = .ok m := by
  induction m using Nat.strongRecOn with
  | _ m ih =>
    by_cases h1 : m < 10
    · rw [decDigits, dif_pos h1, pu_one 0 m h1 (by omega)]; simp
    · rw [decDigits, dif_neg h1, pu_append _ _ _ _ (ih (m / 10) (by omega) (by omega)), pu_one _ _ (by omega) (by omega)]
      congr 1; omega
theorem dec_head (m : Nat) : ∃ c r, decDigits m = c :: r ∧ 48 ≤ c.toNat ∧ c.toNat ≤ 57 := by
  induction m using Nat.strongRecOn with
  | _ m ih =>
    by_cases h1 : m < 10
    · rw [decDigits, dif_pos h1]
      exact ⟨_, [], rfl, by rw [ofNat_toNat (by omega)]; omega, by rw [ofNat_toNat (by omega)]; omega⟩
    · rw [decDigits, dif_neg h1]
      obtain ⟨c, r, e, h2, h3⟩ := ih (m / 10) (by omega)
      exact ⟨c, r ++ [UInt8.ofNat (48 + m % 10)], by rw [e]; rfl, h2, h3⟩
theorem dec_all (m : Nat) : ∀ c ∈ decDigits m, 48 ≤ c.toNat ∧ c.toNat ≤ 57 := by
  induction m using Nat.strongRecOn with
  | _ m ih =>
    intro c hc
    by_cases h1 : m < 10
    · rw [decDigits, dif_pos h1] at hc
      simp only [List.mem_cons, List.not_mem_nil, or_false] at hc
      subst hc
      rw [ofNat_toNat (by omega)]; omega
    · rw [decDigits, dif_neg h1] at hc
      rcases List.mem_append.1 hc with hc | hc
      · exact ih (m / 10) (by omega) c hc
      · simp only [List.mem_cons, List.not_mem_nil, or_false] at hc
        subst hc
        rw [ofNat_toNat (by omega)]; omega
theorem dec_len (m k : Nat) (h : m < 10 ^ k) (hk : 0 < k) : (decDigits m).length ≤ k := by
  induction k generalizing m with
  | zero => omega
  | succ k ih =>
    by_cases h1 : m < 10
    · rw [decDigits, dif_pos h1]; simp
    · rw [decDigits, dif_neg h1, List.length_append]
      have h2 : 0 < k := by
        rcases Nat.eq_zero_or_pos k with e | e
        · subst e; simp at h; omega
        · exact e
      have := ih (m / 10) (by rw [Nat.pow_succ] at h; omega) h2
      simp; omega
theorem itoa_nat (m : Nat) : itoa (m : Int) = decDigits m := by unfold itoa; rw [if_neg (by omega)]; simp
theorem atoi_itoa (m : Nat) (h : m < 1000000000000000000) : atoiAll (itoa (m : Int)) = .ok (m : Int) := by
  rw [itoa_nat]
  have hp := pu_dec m h
  obtain ⟨c, r, e, h2, h3⟩ := dec_head m
  rw [e] at hp ⊢
  unfold atoiAll
  have h43 : ¬ (c.toNat = 43 ∨ c.toNat = 45) := by omega
  have h45 : ¬ c.toNat = 45 := by omega
  simp only [if_neg h43, parseMag, if_neg (List.cons_ne_nil c r), hp]
  rw [if_neg (by omega), if_neg (by omega)]
  simp [h45]

/-- the number that digits spell -/
def valL (l : List UInt8) : Int := l.foldl (fun a c => 10 * a + (c.toNat : Int) - 48) 0
theorem valL_snoc (l : List UInt8) (c : UInt8) : valL (l ++ [c]) = 10 * valL l + (c.toNat : Int) - 48 := by simp [valL]
theorem valL_dec (m : Nat) : valL (decDigits m) = m := by
  induction m using Nat.strongRecOn with
  | _ m ih =>
    by_cases h1 : m < 10
    · rw [decDigits, dif_pos h1]
      show 10 * 0 + ((UInt8.ofNat (48 + m)).toNat : Int) - 48 = m
      rw [ofNat_toNat (by omega)]; omega
    · rw [decDigits, dif_neg h1, valL_snoc, ih (m / 10) (by omega), ofNat_toNat (by omega)]
      omega
theorem valL_bd (l : List UInt8) (h : ∀ c ∈ l, 48 ≤ c.toNat ∧ c.toNat ≤ 57) : 0 ≤ valL l ∧ valL l < (10 : Int) ^ l.length := by
  suffices H : ∀ (l : List UInt8) (a : Int), (∀ c ∈ l, 48 ≤ c.toNat ∧ c.toNat ≤ 57) → 0 ≤ a → 0 ≤ l.foldl (fun a c => 10 * a + (c.toNat : Int) - 48) a ∧ l.foldl (fun a c => 10 * a + (c.toNat : Int) - 48) a < (a + 1) * (10 : Int) ^ l.length by
    have := H l 0 h (by omega)
    simpa [valL] using this
  intro l
  induction l with
  | nil => intro a _ ha; simp; omega
  | cons c l ih =>
    intro a hc ha
    have h1 := hc c (by simp)
    have h2 := ih (10 * a + (c.toNat : Int) - 48) (fun d hd => hc d (by simp [hd])) (by omega)
    simp only [List.foldl_cons, List.length_cons]
    refine ⟨h2.1, Int.lt_of_lt_of_le h2.2 ?_⟩
    rw [show (10 : Int) ^ (l.length + 1) = 10 * 10 ^ l.length by rw [Int.pow_succ, Int.mul_comm], ← Int.mul_assoc]
    refine Int.mul_le_mul_of_nonneg_right (by omega) ?_
    exact Int.pow_nonneg (by omega)

/-- l is the text of n, a number from 0 to 1000000000 -/
def Canon (l : List UInt8) (n : Int) : Prop := 0 ≤ n ∧ n ≤ 1000000000 ∧ itoa n = l
theorem Canon.dec {l : List UInt8} {n : Int} (h : Canon l n) : ∃ m : Nat, n = m ∧ m ≤ 1000000000 ∧ l = decDigits m := by
  obtain ⟨h0, h1, h2⟩ := h
  obtain ⟨m, rfl⟩ := Int.eq_ofNat_of_zero_le h0
  exact ⟨m, rfl, by omega, by rw [← h2, itoa_nat]⟩
theorem Canon.len {l : List UInt8} {n : Int} (h : Canon l n) : l.length ≤ 10 := by
  obtain ⟨m, rfl, h1, rfl⟩ := h.dec
  exact dec_len m 10 (by omega) (by omega)
theorem Canon.all {l : List UInt8} {n : Int} (h : Canon l n) : ∀ c ∈ l, 48 ≤ c.toNat ∧ c.toNat ≤ 57 := by
  obtain ⟨m, rfl, h1, rfl⟩ := h.dec
  exact dec_all m
theorem Canon.val {l : List UInt8} {n : Int} (h : Canon l n) : valL l = n := by
  obtain ⟨m, rfl, h1, rfl⟩ := h.dec
  exact valL_dec m
theorem Canon.atoi {l : List UInt8} {n : Int} (h : Canon l n) : atoiAll l = .ok n := by
  obtain ⟨m, rfl, h1, rfl⟩ := h.dec
  rw [← itoa_nat]
  exact atoi_itoa m (by omega)
/-- what ParseUint returns -/
def RetU (l : List UInt8) (w : World) (e : Ending) (w' : World) : Prop :=
  ((∃ n, Canon l n ∧ e = .returned (.tuple #[.int .i64 n, .bool true])) ∨ ((∀ n, ¬ Canon l n) ∧ e = .returned (.tuple #[.int .i64 0, .bool false]))) ∧ Below w.heap.size w w'
theorem RetU.one (l : List UInt8) : ∃ (n : Int) (b : Bool), ∀ w e w', RetU l w e w' → e = .returned (.tuple #[.int .i64 n, .bool b]) ∧ Below w.heap.size w w' := by
  by_cases h : ∃ n, Canon l n
  · obtain ⟨n, hn⟩ := h
    refine ⟨n, true, fun w e w' hr => ⟨?_, hr.2⟩⟩
    rcases hr.1 with ⟨m, hm, rfl⟩ | ⟨hno, _⟩
    · rw [← hm.val, ← hn.val]
    · exact absurd hn (hno n)
  · refine ⟨0, false, fun w e w' hr => ⟨?_, hr.2⟩⟩
    rcases hr.1 with ⟨m, hm, _⟩ | ⟨_, rfl⟩
    · exact absurd ⟨m, hm⟩ h
    · rfl
end Num
end Go.Proofs.YtjgolnmbnkgbdaaDoor

/- ParseUint of the program and of the model return one and the same value, for every string of at most 2^48 bytes. -/
import Derived.Test.YtjgolnmbnkgbdaaDoorFormatImpl
import Derived.Test.YtjgolnmbnkgbdaaDoorNumMath
import Derived.Lib.AtoiAllCases
namespace Go.Proofs.YtjgolnmbnkgbdaaDoor
open Go.RowKit
namespace Num
open Own Hex Fmt

theorem RetU.no {l : List UInt8} {w w' : World} (h : ∀ n, ¬ Canon l n) (hb : Below w.heap.size w w') : RetU l w (.returned (.tuple #[.int .i64 0, .bool false])) w' := ⟨.inr ⟨h, rfl⟩, hb⟩
theorem RetU.yes {l : List UInt8} {n : Int} {w w' : World} (h : Canon l n) (hb : Below w.heap.size w w') : RetU l w (.returned (.tuple #[.int .i64 n, .bool true])) w' := ⟨.inl ⟨n, h, rfl⟩, hb⟩
theorem len_eq (s : ByteArray) : s.data.toList.length = s.size := by simp
theorem take_mem {s : ByteArray} {k : Nat} (h : k < s.size) : s[k] ∈ s.data.toList := by
  have : s.data.toList[k]'(by simpa using h) = s[k] := rfl
  rw [← this]; exact List.getElem_mem _
theorem bytes_eq {s : ByteArray} {l : List UInt8} : ByteArray.mk l.toArray = s ↔ l = s.data.toList := by
  constructor
  · rintro rfl; simp
  · rintro rfl; simp
theorem pow10_le (n : Nat) (h : n ≤ 10) : (10 : Int) ^ n ≤ 10000000000 := by
  have h1 : (10 : Nat) ^ n ≤ 10 ^ 10 := Nat.pow_le_pow_right (by omega) h
  have h2 : (10 : Int) ^ n = ((10 ^ n : Nat) : Int) := by simp
  rw [h2]
  generalize (10 : Nat) ^ n = p at h1
  omega
theorem beq_bytes {a b : ByteArray} (h : a ≠ b) : (a.toList == b.toList) = false := by
  rw [beq_eq_false_iff_ne]
  intro e
  apply h
  rw [ByteArray.toList_eq, ByteArray.toList_eq] at e
  exact Go.WideShapes.bytes_inj e

theorem next_dig (s : ByteArray) (k : Nat) (hlt : k < s.size) {x : Int} (hv : x = valL (s.data.toList.take k)) (hd : ∀ b ∈ s.data.toList.take k, 48 ≤ b.toNat ∧ b.toNat ≤ 57)
    (h1 : 48 ≤ ((s[k]).toNat : Int)) (h2 : ((s[k]).toNat : Int) ≤ 57) :
    Hid (10 * x + ((s[k]).toNat : Int) - 48 = valL (s.data.toList.take (k + 1))) ∧ Hid (∀ b ∈ s.data.toList.take (k + 1), 48 ≤ b.toNat ∧ b.toNat ≤ 57) := by
  rw [take_snoc s k hlt]
  refine ⟨by rw [valL_snoc, ← hv]; rfl, ?_⟩
  intro b hb
  rcases List.mem_append.1 hb with hb | hb
  · exact hd b hb
  · simp only [List.mem_cons, List.not_mem_nil, or_false] at hb; subst hb; omega
theorem spec_parse (s : ByteArray) (w : World) : Calls Tryd.prog 20 #[.string s] w (RetU s.data.toList w) := by
  by_cases h1 : 10 < s.size
  · have h' : (10 : Int) < s.size := by omega
    go_enter Tryd.func20, Tryd.ntmps20
    go_wp2
    go_ret2
    exact RetU.no (fun n hn => by have := hn.len; rw [len_eq] at this; omega) (Below.refl _ _)
  · have h' : (s.size : Int) ≤ 10 := by omega
    go_enter Tryd.func20, Tryd.ntmps20
    go_wp2
    go_loop [4, 5] (fun v c => ∃ (k : Nat) (x : Int), k ≤ s.size ∧ c = .int .i64 k ∧ v = .int .i64 x ∧ Hid (x = valL (s.data.toList.take k)) ∧ Hid (∀ b ∈ s.data.toList.take k, 48 ≤ b.toNat ∧ b.toNat ≤ 57)) (fun _ c => s.size - (intOf c).toNat)
    case atStart => exact ⟨0, 0, Nat.zero_le _, rfl, rfl, rfl, by intro b hb; simp at hb⟩
    case round =>
      obtain ⟨k, x, hk, rfl, rfl, HV, HD⟩ := hrel
      have hxb : 0 ≤ x ∧ x < 10000000000 := by
        have h := valL_bd _ HD.out
        rw [← HV.out] at h
        refine ⟨h.1, Int.lt_of_lt_of_le h.2 ?_⟩
        have hl : (s.data.toList.take k).length ≤ 10 := by simp; omega
        exact pow10_le _ hl
      obtain ⟨hx0, hx1⟩ := hxb
      by_cases hlt : k < s.size
      · have hk0 : (0 : Int) ≤ k := by omega
        have hki : (k : Int) < s.size := by omega
        have hb1 : (s[k]).toNat < 256 := (s[k]).toNat_lt
        have HM := Lib.hid (take_mem hlt)
        have HS := Lib.hid (next_dig s k hlt HV.out HD.out)
        go_wp2
        all_goals first
          | (go_ret2; exact RetU.no (fun n hn => by have := hn.all _ HM.out; omega) (Below.refl _ _))
          | (go_round
             case rel => exact ⟨k + 1, _, by omega, by go_num, rfl, HS.out (by omega) (by omega)⟩
             case measure => simp [intOf]; omega)
      · obtain rfl : k = s.size := by omega
        have HV1 : Hid (x = valL s.data.toList) := by have h := HV.out; rw [List.take_of_length_le (by simp)] at h; exact h
        by_cases hmx : 1000000000 < x
        · go_wp2
          go_ret2
          exact RetU.no (fun n hn => by have h2 := hn.val; have h3 := hn.2.1; rw [← HV1.out] at h2; omega) (Below.refl _ _)
        · go_wp2_with fail
          refine (specFormat x w (by go_wf2)).mono ?_
          rintro e w1 ⟨rfl, hb1⟩
          have HB := Lib.hid hb1; clear hb1
          by_cases he : ByteArray.mk (Lib.itoa x).toArray = s
          · have HC : Hid (Canon s.data.toList x) := ⟨hx0, by omega, bytes_eq.1 he⟩
            have hne : ((ByteArray.mk (Lib.itoa x).toArray).toList == s.toList) = true := by rw [he]; simp
            have HE := Lib.hid he; clear he
            generalize ByteArray.mk (Lib.itoa x).toArray = t at *
            go_wp2
            go_ret2
            exact RetU.yes HC.out HB.out
          · have hne : ((ByteArray.mk (Lib.itoa x).toArray).toList == s.toList) = false := beq_bytes he
            have HN : Hid (∀ n, ¬ Canon s.data.toList n) := fun n hn => he (bytes_eq.2 (by have h2 := hn.val; rw [← HV1.out] at h2; subst h2; exact hn.2.2))
            clear he
            generalize ByteArray.mk (Lib.itoa x).toArray = t at *
            go_wp2
            go_ret2
            exact RetU.no HN.out HB.out
end Num
end Go.Proofs.YtjgolnmbnkgbdaaDoor

/- The program's NextSeed, Choose and Shuffled. -/
import Derived.Test.YtelcngiplpcalaaDoorSeeds
namespace Go.Proofs.YtelcngiplpcalaaDoor
open Go.RowKit
namespace Sd
open Own Il
theorem in_yes (s : Int) (w : World) (h0 : 0 ≤ s) (h1 : s ≤ 1073741823) : Calls Tryd.prog 43 #[.int .i64 s] w fun e w' => e = .returned (.bool true) ∧ w = w' := by
  go_enter Tryd.func43, Tryd.ntmps43
  go_wp2
  go_ret
  exact ⟨rfl, rfl⟩
theorem in_no (s : Int) (w : World) (h : ¬ (0 ≤ s ∧ s ≤ 1073741823)) : Calls Tryd.prog 43 #[.int .i64 s] w fun e w' => e = .returned (.bool false) ∧ w = w' := by
  by_cases h1 : 0 ≤ s
  · have h2 : decide (s ≤ 1073741823) = false := by simp; omega
    clear h
    go_enter Tryd.func43, Tryd.ntmps43
    go_wp2
    go_ret
    exact ⟨rfl, rfl⟩
  · have h2 : decide (0 ≤ s) = false := by simp; omega
    clear h
    go_enter Tryd.func43, Tryd.ntmps43
    go_wp2
    go_ret
    exact ⟨rfl, rfl⟩
theorem implNext (s : Int) (w : World) : Calls Tryd.prog 64 #[.int .i64 s] w (Bm.NumP (nextN s) w) := by
  by_cases h : 0 ≤ s ∧ s ≤ 1073741823
  · obtain ⟨h0, h1⟩ := h
    have HF : Hid (nextN s = (1103515245 * s + 12345) % 1073741824) := by show _ = _; unfold nextN; rw [if_pos ⟨h0, h1⟩]
    go_enter Tryd.func64, Tryd.ntmps64
    go_wp2_with fail
    refine (in_yes _ _ h0 h1).mono ?_
    rintro e w' ⟨rfl, rfl⟩
    go_wp2
    go_ret
    exact ⟨by rw [HF.out]; rfl, rfl⟩
  · have H := Lib.hid h
    have HF : Hid (nextN s = 0) := by show _ = _; unfold nextN; rw [if_neg h]
    clear h
    go_enter Tryd.func64, Tryd.ntmps64
    go_wp2_with fail
    refine (in_no _ _ H.out).mono ?_
    rintro e w' ⟨rfl, rfl⟩
    go_wp2
    go_ret
    exact ⟨by rw [HF.out]; rfl, rfl⟩
theorem implChoose (s n : Int) (w : World) : Calls Tryd.prog 44 #[.int .i64 s, .int .i64 n] w (PairP (pickK s n) (pickS s n) w) := by
  by_cases hn : 1 ≤ n ∧ n ≤ 1000
  · by_cases hs : 0 ≤ s ∧ s ≤ 1073741823
    · have HK : Hid (pickK s n = nextN s / 1024 % n) := by show _ = _; unfold pickK; rw [if_pos ⟨hn, hs⟩]
      have HS : Hid (pickS s n = nextN s) := by show _ = _; unfold pickS; rw [if_pos ⟨hn, hs⟩]
      obtain ⟨h0, h1⟩ := nextN_in s
      have HN : Hid (∀ w, Calls Tryd.prog 64 #[.int .i64 s] w (Bm.NumP (nextN s) w)) := fun w => implNext s w
      generalize nextN s = t at *
      have hne : (n == 0) = false := by simp; omega
      have hn0 : 0 ≤ n := by omega
      obtain ⟨hn1, hn2⟩ := hn
      go_enter Tryd.func44, Tryd.ntmps44
      go_wp2_with fail
      refine (in_yes _ _ hs.1 hs.2).mono ?_
      rintro e w' ⟨rfl, rfl⟩
      go_wp2_with fail
      refine (HN.out _).mono ?_
      rintro e w' ⟨rfl, rfl⟩
      go_wp2
      go_ret2
      exact ⟨by rw [HK.out, HS.out]; rfl, rfl⟩
    · have HK : Hid (pickK s n = 0) := by show _ = _; unfold pickK; rw [if_neg (fun h => hs h.2)]
      have HS : Hid (pickS s n = s) := by show _ = _; unfold pickS; rw [if_neg (fun h => hs h.2)]
      have H := Lib.hid hs; clear hs
      obtain ⟨hn1, hn2⟩ := hn
      go_enter Tryd.func44, Tryd.ntmps44
      go_wp2_with fail
      refine (in_no _ _ H.out).mono ?_
      rintro e w' ⟨rfl, rfl⟩
      go_wp2
      go_ret2
      exact ⟨by rw [HK.out, HS.out]; rfl, rfl⟩
  · have HK : Hid (pickK s n = 0) := by show _ = _; unfold pickK; rw [if_neg (fun h => hn h.1)]
    have HS : Hid (pickS s n = s) := by show _ = _; unfold pickS; rw [if_neg (fun h => hn h.1)]
    by_cases h1 : n < 1
    · clear hn
      go_enter Tryd.func44, Tryd.ntmps44
      go_wp2
      go_ret2
      exact ⟨by rw [HK.out, HS.out]; rfl, rfl⟩
    · have h2 : 1000 < n := by omega
      clear hn
      go_enter Tryd.func44, Tryd.ntmps44
      go_wp2
      go_ret2
      exact ⟨by rw [HK.out, HS.out]; rfl, rfl⟩
theorem own_mono {w : World} {b b' : Nat} {e : TypeId} {size : Nat} {v : Value} {n : Nat} {xs : List Value} (h : w.ownsRow b e size v n xs) (hb : b' ≤ b) : w.ownsRow b' e size v n xs := by
  obtain ⟨h1, h2⟩ := h
  refine ⟨h1, ?_⟩
  rcases h2 with h2 | ⟨g, cap, cur, hv, hg, r⟩
  · exact Or.inl h2
  · exact Or.inr ⟨g, cap, cur, hv, Nat.le_trans hb hg, r⟩
/-- the places below k numbered, the others zero -/
def upN (k : Nat) : Nat → Nat := fun j => if j < k then j else 0
theorem row_zero (n : Nat) : List.replicate n (Value.int .i64 0) = ints (rowF n (upN 0)) := by
  apply List.ext_getElem?
  intro j
  by_cases hj : j < n
  · simp [ints, rowF, upN, hj]
  · simp [ints, rowF, hj]
theorem row_up (n k : Nat) : (ints (rowF n (upN k))).set k (.int .i64 (k : Int)) = ints (rowF n (upN (k + 1))) := by
  rw [ints_set, rowF_set]
  have e : (fun j => if j = k then k else upN k j) = upN (k + 1) := by
    funext j
    unfold upN
    by_cases h : j = k
    · subst h; rw [if_pos rfl, if_pos (Nat.lt_succ_self _)]
    · rw [if_neg h]
      by_cases h2 : j < k
      · rw [if_pos h2, if_pos (by omega)]
      · rw [if_neg h2, if_neg (by omega)]
  rw [e]
theorem row_all (n : Nat) : rowF n (upN n) = rowF n (fun j => j) := by
  unfold rowF
  apply List.map_congr_left
  intro j hj
  rw [List.mem_range] at hj
  unfold upN
  rw [if_pos hj]
end Sd
end Go.Proofs.YtelcngiplpcalaaDoor

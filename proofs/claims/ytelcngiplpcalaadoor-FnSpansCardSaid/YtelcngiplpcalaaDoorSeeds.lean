/- The specification's NextSeed, Choose and Shuffled. -/
import Derived.Test.YtelcngiplpcalaaDoorBits
import Derived.Test.YtelcngiplpcalaaDoorSeedMath
namespace Go.Proofs.YtelcngiplpcalaaDoor
open Go.RowKit
namespace Sd
open Own Il
def PairP (a b : Int) (w : World) (e : Ending) (w' : World) : Prop := e = .returned (.tuple #[.int .i64 a, .int .i64 b]) ∧ w = w'
theorem specNext (s : Int) (w : World) : Calls Tryd.prog 20 #[.int .i64 s] w (Bm.NumP (nextN s) w) := by
  by_cases h : 0 ≤ s ∧ s ≤ 1073741823
  · obtain ⟨h0, h1⟩ := h
    have HF : Hid (nextN s = (1103515245 * s + 12345) % 1073741824) := by show _ = _; unfold nextN; rw [if_pos ⟨h0, h1⟩]
    go_enter Tryd.func20, Tryd.ntmps20
    go_wp2_with fail
    refine (Bm.in_yes _ _ _ _ h0 h1).mono ?_
    rintro e w' ⟨rfl, rfl⟩
    go_wp2
    go_ret
    exact ⟨by rw [HF.out]; rfl, rfl⟩
  · have H := Lib.hid h
    have HF : Hid (nextN s = 0) := by show _ = _; unfold nextN; rw [if_neg h]
    clear h
    go_enter Tryd.func20, Tryd.ntmps20
    go_wp2_with fail
    refine (Bm.in_no _ _ _ _ H.out).mono ?_
    rintro e w' ⟨rfl, rfl⟩
    go_wp2
    go_ret
    exact ⟨by rw [HF.out]; rfl, rfl⟩
theorem specChoose (s n : Int) (w : World) : Calls Tryd.prog 57 #[.int .i64 s, .int .i64 n] w (PairP (pickK s n) (pickS s n) w) := by
  by_cases hn : 1 ≤ n ∧ n ≤ 1000
  · by_cases hs : 0 ≤ s ∧ s ≤ 1073741823
    · have HK : Hid (pickK s n = nextN s / 1024 % n) := by show _ = _; unfold pickK; rw [if_pos ⟨hn, hs⟩]
      have HS : Hid (pickS s n = nextN s) := by show _ = _; unfold pickS; rw [if_pos ⟨hn, hs⟩]
      obtain ⟨h0, h1⟩ := nextN_in s
      have HN : Hid (∀ w, Calls Tryd.prog 20 #[.int .i64 s] w (Bm.NumP (nextN s) w)) := fun w => specNext s w
      generalize nextN s = t at *
      have hne : (n == 0) = false := by simp; omega
      have hn0 : 0 ≤ n := by omega
      go_enter Tryd.func57, Tryd.ntmps57
      go_wp2_with fail
      refine (Bm.in_yes _ _ _ _ hn.1 hn.2).mono ?_
      rintro e w' ⟨rfl, rfl⟩
      go_wp2_with fail
      refine (Bm.in_yes _ _ _ _ hs.1 hs.2).mono ?_
      rintro e w' ⟨rfl, rfl⟩
      obtain ⟨hn1, hn2⟩ := hn
      go_wp2_with fail
      refine (HN.out _).mono ?_
      rintro e w' ⟨rfl, rfl⟩
      go_wp2
      go_ret2
      exact ⟨by rw [HK.out, HS.out]; rfl, rfl⟩
    · have HK : Hid (pickK s n = 0) := by show _ = _; unfold pickK; rw [if_neg (fun h => hs h.2)]
      have HS : Hid (pickS s n = s) := by show _ = _; unfold pickS; rw [if_neg (fun h => hs h.2)]
      have H := Lib.hid hs; clear hs
      go_enter Tryd.func57, Tryd.ntmps57
      go_wp2_with fail
      refine (Bm.in_yes _ _ _ _ hn.1 hn.2).mono ?_
      rintro e w' ⟨rfl, rfl⟩
      go_wp2_with fail
      refine (Bm.in_no _ _ _ _ H.out).mono ?_
      rintro e w' ⟨rfl, rfl⟩
      go_wp2
      go_ret2
      exact ⟨by rw [HK.out, HS.out]; rfl, rfl⟩
  · have HK : Hid (pickK s n = 0) := by show _ = _; unfold pickK; rw [if_neg (fun h => hn h.1)]
    have HS : Hid (pickS s n = s) := by show _ = _; unfold pickS; rw [if_neg (fun h => hn h.1)]
    have H := Lib.hid hn; clear hn
    go_enter Tryd.func57, Tryd.ntmps57
    go_wp2_with fail
    refine (Bm.in_no _ _ _ _ H.out).mono ?_
    rintro e w' ⟨rfl, rfl⟩
    go_wp2
    go_ret2
    exact ⟨by rw [HK.out, HS.out]; rfl, rfl⟩
/-- a shuffle's answer: the numbers in memory of the call's own, and a seed -/
def ShufP (l : List Int) (t : Int) (w : World) (e : Ending) (w' : World) : Prop := ∃ v, e = .returned (.tuple #[v, .int .i64 t]) ∧ w'.ownsRow w.heap.size 3 1 v l.length (ints l) ∧ Below w.heap.size w w'
theorem info_int : (Tryd.prog.info? 3).map (fun i => (i.zero, i.size, i.bytes)) = some (some (.int .i64 0), 1, 8) := by kernel_rfl
theorem info_bool : (Tryd.prog.info? 4).map (fun i => (i.zero, i.size, i.bytes)) = some (some (.bool false), 1, 1) := by kernel_rfl
theorem made0 (w0 w : World) (h : w0.heap.size ≤ w.heap.size) : (w.alloc (.cells #[] 3)).ownsRow w0.heap.size 3 1 (.slice (some ⟨w.heap.size, 0, none⟩) 0 0) 0 [] :=
  World.ownsRow_made (e := 3) (size := 1) w #[] 0 h (by unfold maxLen; omega) rfl
theorem ints_set (l : List Int) (i : Nat) (x : Int) : (ints l).set i (.int .i64 x) = ints (l.set i x) := by unfold ints; rw [List.map_set]
theorem row_at (n : Nat) (f : Nat → Nat) (i : Nat) (h : i < n) : (ints (rowF n f))[i]? = some (.int .i64 (f i : Int)) := by
  unfold ints; rw [List.getElem?_map, rowF_at n f i h]; rfl
theorem row_sw (n : Nat) (f : Nat → Nat) (i k : Nat) : ((ints (rowF n f)).set i (.int .i64 (f k : Int))).set k (.int .i64 (f i : Int)) = ints (rowF n (sw f i k)) := by
  rw [ints_set, ints_set, rowF_sw]
theorem st_succ (n : Nat) (s : Int) (m i k : Nat) (hi : n - 1 - m = i) (hk : pickK (st n s m).2 ((i + 1 : Nat) : Int) = (k : Int)) : st n s (m + 1) = (sw (st n s m).1 i k, nextN (st n s m).2) := by
  show (sw _ _ _, _) = _
  rw [hi, hk, Int.toNat_natCast]
end Sd
end Go.Proofs.YtelcngiplpcalaaDoor

/- A symbolic run (Cls4). No program. -/
import Derived.Test.YthkjbjgpdapnpaaDoorRows
import Derived.Test.YthkjbjgpdapnpaaDoorBit2
import Derived.Lib.LaidTab
import Derived.ProofKit
import Derived.WalkSmall
namespace Go.Proofs.YthkjbjgpdapnpaaDoor
namespace Cl
/-- the smallest class whose objects have at least s cells, or -1 -/
def cls (s : Int) : Int := if s < 1 then -1 else if s ≤ 1 then 0 else if s ≤ 2 then 1 else if s ≤ 4 then 2 else if s ≤ 8 then 3 else -1
/-- the cells of the objects of class k, or 0 -/
def csz (k : Int) : Int := if k = 0 then 1 else if k = 1 then 2 else if k = 2 then 4 else if k = 3 then 8 else 0
/-- how many objects of class k fit into a page, or 0 -/
def slots (k : Int) : Int := if k = 0 then 16 else if k = 1 then 8 else if k = 2 then 4 else if k = 3 then 2 else 0
/-- the unused cells of an object of s cells, or 0 -/
def waste (s : Int) : Int := if 1 ≤ s ∧ s ≤ 8 then csz (cls s) - s else 0
/-- the pages for an object of s cells, or 0 -/
def pages (s : Int) : Int := if 9 ≤ s ∧ s ≤ 1000 then (s + 15) / 16 else 0
theorem cls_in (s : Int) : (s < 1 ∨ 8 < s) ∧ cls s = -1 ∨ (1 ≤ s ∧ s ≤ 8) ∧ 0 ≤ cls s ∧ cls s ≤ 3 := by unfold cls; omega
theorem cls_le (s : Int) (h1 : 1 ≤ s) (h8 : s ≤ 8) : 0 ≤ cls s ∧ cls s ≤ 3 := by unfold cls; omega
end Cl
end Go.Proofs.YthkjbjgpdapnpaaDoor
namespace Go.Proofs.YthkjbjgpdapnpaaDoor
open Go.RowKit
namespace Cl
open Bm
theorem ret_int {a b : Int} (h : a = b) : Ending.returned (.int .i64 a) = .returned (.int .i64 b) := by rw [h]
theorem specClassSize (k : Int) (w : World) : Calls Tryd.prog 14 #[.int .i64 k] w (NumP (csz k) w) := by
  by_cases h : 0 ≤ k ∧ k ≤ 3
  · have hc : k = 0 ∨ k = 1 ∨ k = 2 ∨ k = 3 := by omega
    obtain ⟨h0, h3⟩ := h
    rcases hc with rfl | rfl | rfl | rfl
    all_goals
      go_enter Tryd.func14, Tryd.ntmps14
      go_wp2_with fail
      refine (in_yes _ _ _ _ h0 h3).mono ?_
      rintro e w' ⟨rfl, rfl⟩
      go_wp2
      go_ret
      exact ⟨rfl, rfl⟩
  · have H := Lib.hid h
    have HF : Hid (csz k = 0) := by show _ = _; unfold csz; omega
    clear h
    go_enter Tryd.func14, Tryd.ntmps14
    go_wp2_with fail
    refine (in_no _ _ _ _ H.out).mono ?_
    rintro e w' ⟨rfl, rfl⟩
    go_wp2
    go_ret
    exact ⟨by rw [HF.out]; rfl, rfl⟩
theorem specSlotsOf (k : Int) (w : World) : Calls Tryd.prog 37 #[.int .i64 k] w (NumP (slots k) w) := by
  by_cases h : 0 ≤ k ∧ k ≤ 3
  · have hc : k = 0 ∨ k = 1 ∨ k = 2 ∨ k = 3 := by omega
    obtain ⟨h0, h3⟩ := h
    rcases hc with rfl | rfl | rfl | rfl
    all_goals
      go_enter Tryd.func37, Tryd.ntmps37
      go_wp2_with fail
      refine (in_yes _ _ _ _ h0 h3).mono ?_
      rintro e w' ⟨rfl, rfl⟩
      go_wp2
      go_ret
      exact ⟨rfl, rfl⟩
  · have H := Lib.hid h
    have HF : Hid (slots k = 0) := by show _ = _; unfold slots; omega
    clear h
    go_enter Tryd.func37, Tryd.ntmps37
    go_wp2_with fail
    refine (in_no _ _ _ _ H.out).mono ?_
    rintro e w' ⟨rfl, rfl⟩
    go_wp2
    go_ret
    exact ⟨by rw [HF.out]; rfl, rfl⟩
end Cl
end Go.Proofs.YthkjbjgpdapnpaaDoor
namespace Go.Proofs.YthkjbjgpdapnpaaDoor
open Go.RowKit
namespace Cl
open Bm
def sizes : List Int := [1, 2, 4, 8]
/-- the table of sizes holds what the program's text lays -/
def Sizes (w : World) : Prop := Lib.TabIs Tryd.prog w "loop.example/g00978/impl.classSizes" .i64 sizes
theorem gSizes : Tryd.prog.globalNamed "loop.example/g00978/impl.classSizes" = some 0 := by kernel_rfl
theorem Sizes.at {w : World} (h : Sizes w) (i : Nat) (hi : i < 4) : w.cell? ⟨0, i, none⟩ = some (.int .i64 (sizes.getD i 0)) :=
  Lib.TabIs.cell h gSizes i hi
theorem existsYes (k : Int) (w : World) (h0 : 0 ≤ k) (h3 : k < 4) : Calls Tryd.prog 48 #[.int .i64 k] w (BoolP true w) := by
  go_enter Tryd.func48, Tryd.ntmps48
  go_wp2
  go_ret
  exact ⟨rfl, rfl⟩
theorem existsNo (k : Int) (w : World) (h : ¬ (0 ≤ k ∧ k < 4)) : Calls Tryd.prog 48 #[.int .i64 k] w (BoolP false w) := by
  by_cases h0 : 0 ≤ k
  · have h1 : decide (k < 4) = false := by simp; omega
    clear h
    go_enter Tryd.func48, Tryd.ntmps48
    go_wp2
    go_ret
    exact ⟨rfl, rfl⟩
  · have h1 : decide (0 ≤ k) = false := by simp; omega
    clear h
    go_enter Tryd.func48, Tryd.ntmps48
    go_wp2
    go_ret
    exact ⟨rfl, rfl⟩
theorem implClassSize (k : Int) (w : World) (hT : Sizes w) : Calls Tryd.prog 41 #[.int .i64 k] w (NumP (csz k) w) := by
  by_cases h : 0 ≤ k ∧ k < 4
  · have c0 := hT.at 0 (by omega)
    have c1 := hT.at 1 (by omega)
    have c2 := hT.at 2 (by omega)
    have c3 := hT.at 3 (by omega)
    rw [show sizes.getD 0 0 = 1 from rfl] at c0
    rw [show sizes.getD 1 0 = 2 from rfl] at c1
    rw [show sizes.getD 2 0 = 4 from rfl] at c2
    rw [show sizes.getD 3 0 = 8 from rfl] at c3
    clear hT
    obtain ⟨h0, h3⟩ := h
    have hc : k = 0 ∨ k = 1 ∨ k = 2 ∨ k = 3 := by omega
    rcases hc with rfl | rfl | rfl | rfl
    all_goals
      go_enter Tryd.func41, Tryd.ntmps41
      go_wp2_with fail
      refine (existsYes _ _ h0 h3).mono ?_
      rintro e w' ⟨rfl, rfl⟩
      go_wp2
      go_ret
      exact ⟨rfl, rfl⟩
  · have H := Lib.hid h
    have HF : Hid (csz k = 0) := by show _ = _; unfold csz; omega
    clear h hT
    go_enter Tryd.func41, Tryd.ntmps41
    go_wp2_with fail
    refine (existsNo _ _ H.out).mono ?_
    rintro e w' ⟨rfl, rfl⟩
    go_wp2
    go_ret
    exact ⟨by rw [HF.out]; rfl, rfl⟩
theorem implSlotsOf (k : Int) (w : World) (hT : Sizes w) : Calls Tryd.prog 47 #[.int .i64 k] w (NumP (slots k) w) := by
  by_cases h : 0 ≤ k ∧ k < 4
  · have HZ : Hid (∀ w, Sizes w → Calls Tryd.prog 41 #[.int .i64 k] w (NumP (csz k) w)) := fun w h => implClassSize k w h
    have HT := Lib.hid hT; clear hT
    obtain ⟨h0, h3⟩ := h
    have hc : k = 0 ∨ k = 1 ∨ k = 2 ∨ k = 3 := by omega
    rcases hc with rfl | rfl | rfl | rfl
    all_goals
      go_enter Tryd.func47, Tryd.ntmps47
      go_wp2_with fail
      refine (existsYes _ _ h0 h3).mono ?_
      rintro e w' ⟨rfl, rfl⟩
      go_wp2_with fail
      refine (HZ.out _ HT.out).mono ?_
      rintro e w' ⟨rfl, rfl⟩
      first | rw [show csz 0 = 1 from rfl] | rw [show csz 1 = 2 from rfl] | rw [show csz 2 = 4 from rfl] | rw [show csz 3 = 8 from rfl]
      go_wp2
      go_ret
      exact ⟨rfl, rfl⟩
  · have H := Lib.hid h
    have HF : Hid (slots k = 0) := by show _ = _; unfold slots; omega
    clear h hT
    go_enter Tryd.func47, Tryd.ntmps47
    go_wp2_with fail
    refine (existsNo _ _ H.out).mono ?_
    rintro e w' ⟨rfl, rfl⟩
    go_wp2
    go_ret
    exact ⟨by rw [HF.out]; rfl, rfl⟩
end Cl
end Go.Proofs.YthkjbjgpdapnpaaDoor

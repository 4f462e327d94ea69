/- The program's functions of chapter 4, where its table of sizes holds what its text lays. -/
import Derived.Test.YtbggkniebolhnaaDoorClassSpec
import Derived.Lib.LaidTab
import Derived.ProofKit
import Derived.WalkSmall
namespace Go.Proofs.YtbggkniebolhnaaDoor
open Go.RowKit
namespace Cl
open Bm
def sizes : List Int := [1, 2, 4, 8]
/-- the table of sizes holds what the program's text lays -/
def Sizes (w : World) : Prop := Lib.TabIs Tryd.prog w "loop.example/g00978/impl.classSizes" .i64 sizes
theorem gSizes : Tryd.prog.globalNamed "loop.example/g00978/impl.classSizes" = some 0 := by kernel_rfl
theorem Sizes.at {w : World} (h : Sizes w) (i : Nat) (hi : i < 4) : w.cell? ⟨0, i, none⟩ = some (.int .i64 (sizes.getD i 0)) :=
  Lib.TabIs.cell h gSizes i hi
theorem existsYes (k : Int) (w : World) (h0 : 0 ≤ k) (h3 : k < 4) : Calls Tryd.prog 22 #[.int .i64 k] w (BoolP true w) := by
  go_enter Tryd.func22, Tryd.ntmps22
  go_wp2
  go_ret
  exact ⟨rfl, rfl⟩
theorem existsNo (k : Int) (w : World) (h : ¬ (0 ≤ k ∧ k < 4)) : Calls Tryd.prog 22 #[.int .i64 k] w (BoolP false w) := by
  by_cases h0 : 0 ≤ k
  · have h1 : decide (k < 4) = false := by simp; omega
    clear h
    go_enter Tryd.func22, Tryd.ntmps22
    go_wp2
    go_ret
    exact ⟨rfl, rfl⟩
  · have h1 : decide (0 ≤ k) = false := by simp; omega
    clear h
    go_enter Tryd.func22, Tryd.ntmps22
    go_wp2
    go_ret
    exact ⟨rfl, rfl⟩
theorem implClassOf (s : Int) (w : World) (hT : Sizes w) : Calls Tryd.prog 11 #[.int .i64 s] w (NumP (cls s) w) := by
  have c0 := hT.at 0 (by omega)
  have c1 := hT.at 1 (by omega)
  have c2 := hT.at 2 (by omega)
  have c3 := hT.at 3 (by omega)
  rw [show sizes.getD 0 0 = 1 from rfl] at c0
  rw [show sizes.getD 1 0 = 2 from rfl] at c1
  rw [show sizes.getD 2 0 = 4 from rfl] at c2
  rw [show sizes.getD 3 0 = 8 from rfl] at c3
  clear hT
  by_cases h : 1 ≤ s
  · have i0 : ∀ w, (Instr.index 31 (.agg #[.int .i64 1, .int .i64 2, .int .i64 4, .int .i64 8]) (.int .i64 0)).run Tryd.prog w = .ok (.int .i64 1) w := fun _ => by kernel_rfl
    have i1 : ∀ w, (Instr.index 31 (.agg #[.int .i64 1, .int .i64 2, .int .i64 4, .int .i64 8]) (.int .i64 1)).run Tryd.prog w = .ok (.int .i64 2) w := fun _ => by kernel_rfl
    have i2 : ∀ w, (Instr.index 31 (.agg #[.int .i64 1, .int .i64 2, .int .i64 4, .int .i64 8]) (.int .i64 2)).run Tryd.prog w = .ok (.int .i64 4) w := fun _ => by kernel_rfl
    have i3 : ∀ w, (Instr.index 31 (.agg #[.int .i64 1, .int .i64 2, .int .i64 4, .int .i64 8]) (.int .i64 3)).run Tryd.prog w = .ok (.int .i64 8) w := fun _ => by kernel_rfl
    go_enter Tryd.func11, Tryd.ntmps11
    go_wp2
    go_loop [8] (fun c => ∃ k : Int, 0 ≤ k ∧ k ≤ 4 ∧ c = .int .i64 k ∧ Hid (k = 0 ∨ (k = 1 ∧ 1 < s) ∨ (k = 2 ∧ 2 < s) ∨ (k = 3 ∧ 4 < s) ∨ (k = 4 ∧ 8 < s))) (fun c => (4 - intOf c).toNat)
    case atStart => exact ⟨0, by omega, by omega, rfl, Or.inl rfl⟩
    case round =>
      obtain ⟨k, hk0, hk4, rfl, HK⟩ := hrel
      rcases HK.out with rfl | ⟨rfl, h1⟩ | ⟨rfl, h1⟩ | ⟨rfl, h1⟩ | ⟨rfl, h1⟩
      all_goals
        go_wp2
        all_goals first
        | (go_ret; exact ⟨ret_int (by unfold cls; omega), rfl⟩)
        | (go_round
           case rel => exact ⟨_, by omega, by omega, rfl, by show _ ∨ _; omega⟩
           case measure => simp [intOf])
  · have HF : Hid (cls s = -1) := by show _ = _; unfold cls; omega
    go_enter Tryd.func11, Tryd.ntmps11
    go_wp2
    go_ret
    exact ⟨by rw [HF.out]; rfl, rfl⟩
theorem implClassSize (k : Int) (w : World) (hT : Sizes w) : Calls Tryd.prog 13 #[.int .i64 k] w (NumP (csz k) w) := by
  by_cases h : 0 ≤ k ∧ k < 4
  · have c0 := hT.at 0 (by omega)
    have c1 := hT.at 1 (by omega)
    have c2 := hT.at 2 (by omega)
    have c3 := hT.at 3 (by omega)
    rw [show sizes.getD 0 0 = 1 from rfl] at c0
    rw [show sizes.getD 1 0 = 2 from rfl] at c1
    rw [show sizes.getD 2 0 = 4 from rfl] at c2
    rw [show sizes.getD 3 0 = 8 from rfl] at c3
    clear hT
    obtain ⟨h0, h3⟩ := h
    have hc : k = 0 ∨ k = 1 ∨ k = 2 ∨ k = 3 := by omega
    rcases hc with rfl | rfl | rfl | rfl
    all_goals
      go_enter Tryd.func13, Tryd.ntmps13
      go_wp2_with fail
      refine (existsYes _ _ h0 h3).mono ?_
      rintro e w' ⟨rfl, rfl⟩
      go_wp2
      go_ret
      exact ⟨rfl, rfl⟩
  · have H := Lib.hid h
    have HF : Hid (csz k = 0) := by show _ = _; unfold csz; omega
    clear h hT
    go_enter Tryd.func13, Tryd.ntmps13
    go_wp2_with fail
    refine (existsNo _ _ H.out).mono ?_
    rintro e w' ⟨rfl, rfl⟩
    go_wp2
    go_ret
    exact ⟨by rw [HF.out]; rfl, rfl⟩
theorem implSlotsOf (k : Int) (w : World) (hT : Sizes w) : Calls Tryd.prog 14 #[.int .i64 k] w (NumP (slots k) w) := by
  by_cases h : 0 ≤ k ∧ k < 4
  · have HZ : Hid (∀ w, Sizes w → Calls Tryd.prog 13 #[.int .i64 k] w (NumP (csz k) w)) := fun w h => implClassSize k w h
    have HT := Lib.hid hT; clear hT
    obtain ⟨h0, h3⟩ := h
    have hc : k = 0 ∨ k = 1 ∨ k = 2 ∨ k = 3 := by omega
    rcases hc with rfl | rfl | rfl | rfl
    all_goals
      go_enter Tryd.func14, Tryd.ntmps14
      go_wp2_with fail
      refine (existsYes _ _ h0 h3).mono ?_
      rintro e w' ⟨rfl, rfl⟩
      go_wp2_with fail
      refine (HZ.out _ HT.out).mono ?_
      rintro e w' ⟨rfl, rfl⟩
      first | rw [show csz 0 = 1 from rfl] | rw [show csz 1 = 2 from rfl] | rw [show csz 2 = 4 from rfl] | rw [show csz 3 = 8 from rfl]
      go_wp2
      go_ret
      exact ⟨rfl, rfl⟩
  · have H := Lib.hid h
    have HF : Hid (slots k = 0) := by show _ = _; unfold slots; omega
    clear h hT
    go_enter Tryd.func14, Tryd.ntmps14
    go_wp2_with fail
    refine (existsNo _ _ H.out).mono ?_
    rintro e w' ⟨rfl, rfl⟩
    go_wp2
    go_ret
    exact ⟨by rw [HF.out]; rfl, rfl⟩
theorem implWaste (s : Int) (w : World) (hT : Sizes w) : Calls Tryd.prog 12 #[.int .i64 s] w (NumP (waste s) w) := by
  have HC : Hid (∀ w, Sizes w → Calls Tryd.prog 11 #[.int .i64 s] w (NumP (cls s) w)) := fun w h => implClassOf s w h
  have HT := Lib.hid hT; clear hT
  by_cases h : 1 ≤ s ∧ s ≤ 8
  · have h3 := cls_le s h.1 h.2
    have HZ : Hid (∀ w, Sizes w → Calls Tryd.prog 13 #[.int .i64 (cls s)] w (NumP (csz (cls s)) w)) := fun w h => implClassSize (cls s) w h
    have HF : Hid (waste s = csz (cls s) - s) := by show _ = _; unfold waste; rw [if_pos h]
    have hz : 0 ≤ csz (cls s) ∧ csz (cls s) ≤ 8 := by unfold csz; omega
    obtain ⟨h1, h8⟩ := h
    obtain ⟨hz0, hz8⟩ := hz
    obtain ⟨hc0, hc3⟩ := h3
    generalize csz (cls s) = z at *
    generalize cls s = c at *
    go_enter Tryd.func12, Tryd.ntmps12
    go_wp2_with fail
    refine (HC.out _ HT.out).mono ?_
    rintro e w' ⟨rfl, rfl⟩
    go_wp2_with fail
    refine (existsYes _ _ hc0 (by omega)).mono ?_
    rintro e w' ⟨rfl, rfl⟩
    go_wp2_with fail
    refine (HZ.out _ HT.out).mono ?_
    rintro e w' ⟨rfl, rfl⟩
    go_wp2
    go_ret
    exact ⟨by rw [HF.out]; rfl, rfl⟩
  · have HF : Hid (waste s = 0) := by show _ = _; unfold waste; rw [if_neg h]
    have HN : Hid (cls s = -1) := by show _ = _; unfold cls; omega
    clear h
    go_enter Tryd.func12, Tryd.ntmps12
    go_wp2_with fail
    refine (HC.out _ HT.out).mono ?_
    rintro e w' ⟨rfl, rfl⟩
    rw [HN.out]
    go_wp2_with fail
    refine (existsNo _ _ (by omega)).mono ?_
    rintro e w' ⟨rfl, rfl⟩
    go_wp2
    go_ret
    exact ⟨by rw [HF.out]; rfl, rfl⟩
end Cl
end Go.Proofs.YtbggkniebolhnaaDoor

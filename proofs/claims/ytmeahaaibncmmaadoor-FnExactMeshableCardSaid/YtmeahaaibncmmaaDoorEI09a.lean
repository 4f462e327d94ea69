/- Free slots: the program's function, by the symbolic run. -/
import Derived.Test.YtmeahaaibncmmaaDoorEI02
import Derived.Test.YtmeahaaibncmmaaDoorE09a
import Derived.Test.YtmeahaaibncmmaaDoorBitFacts
namespace Go.Proofs.YtmeahaaibncmmaaDoor
open Go.RowKit
set_option linter.unusedVariables false
set_option linter.unusedSimpArgs false
set_option maxRecDepth 100000
namespace Eng
open Tr
theorem count_le {n b : Int} (h : Bm.isMap n b = true) : 0 ≤ Bm.count b ∧ Bm.count b ≤ n := by
  obtain ⟨h1, h2, h3, h4⟩ := Bm.map_bd h
  obtain ⟨N, rfl⟩ := Int.eq_ofNat_of_zero_le (show 0 ≤ n by omega)
  obtain ⟨B, rfl⟩ := Int.eq_ofNat_of_zero_le h3
  have hb : B < 2 ^ N := by
    rw [Int.toNat_natCast] at h4
    have e : ((2 : Int) ^ N) = ((2 ^ N : Nat) : Int) := by simp
    rw [e] at h4; omega
  have e := Bm.cnt_high B N hb (by omega)
  have := Bm.cnt_le B N
  unfold Bm.count
  rw [if_pos h3, Int.toNat_natCast, e]
  omega
end Eng
end Go.Proofs.YtmeahaaibncmmaaDoor

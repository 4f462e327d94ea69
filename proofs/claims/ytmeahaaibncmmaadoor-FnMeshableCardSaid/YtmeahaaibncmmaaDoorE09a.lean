/- Free slots: the specification's function, by the symbolic run. -/
import Derived.Test.YtmeahaaibncmmaaDoorE02
import Derived.Test.YtmeahaaibncmmaaDoorM09
import Derived.Test.YtmeahaaibncmmaaDoorEngX
namespace Go.Proofs.YtmeahaaibncmmaaDoor
open Go.RowKit
set_option linter.unusedVariables false
set_option linter.unusedSimpArgs false
set_option maxRecDepth 100000
namespace Eng
open Tr
theorem isMap_le {n b : Int} (h : Bm.isMap n b = true) : b ≤ 9223372036854775807 := by
  obtain ⟨h1, h2, h3, h4⟩ := Bm.map_bd h
  have : (2 : Int) ^ n.toNat ≤ 2 ^ 16 := by
    have := Nat.pow_le_pow_right (show 0 < 2 by decide) (show n.toNat ≤ 16 by omega)
    exact_mod_cast this
  omega
/-- the free slots below i -/
def freeI (b : Int) (i : Nat) : List Int := (Bm.freeTo b.toNat i).map fun (j : Nat) => (j : Int)
theorem freeI_len (b : Int) (i : Nat) : (freeI b i).length ≤ i := by unfold freeI; rw [List.length_map]; exact Bm.freeTo_le _ _
theorem freeI_succ {b : Int} (h0 : 0 ≤ b) {i : Nat} (hi : i ≤ 15) : freeI b (i + 1) = if Bm.has b (i : Int) = true then freeI b i else freeI b i ++ [(i : Int)] := by
  obtain ⟨B, rfl⟩ := Int.eq_ofNat_of_zero_le h0
  rw [Bm.has_nat B i hi]
  unfold freeI
  rw [Int.toNat_natCast, Bm.freeTo_succ, List.map_append]
  split <;> simp
theorem freeL_yes {n b : Int} (h : Bm.isMap n b = true) : Bm.freeL n b = freeI b n.toNat := by unfold Bm.freeL; rw [if_pos h]; rfl
theorem freeL_no {n b : Int} (h : ¬ Bm.isMap n b = true) : Bm.freeL n b = [] := by unfold Bm.freeL; rw [if_neg h]
end Eng
end Go.Proofs.YtmeahaaibncmmaaDoor

/- Searching pairs: small facts for the walks. -/
import Derived.Test.YthkjbjgpdapnpaaDoorE2b
import Derived.Test.YthkjbjgpdapnpaaDoorM11
namespace Go.Proofs.YthkjbjgpdapnpaaDoor
open Go.RowKit
set_option linter.unusedVariables false
set_option linter.unusedSimpArgs false
set_option maxRecDepth 100000
namespace Eng
open Tr
theorem flat_bools (u : List Bool) : ∀ d ∈ u.map Tr.eB, d.len = 1 ∧ d.flat := by
  intro d hd
  obtain ⟨b, _, rfl⟩ := List.mem_map.1 hd
  exact ⟨rfl, rfl, trivial⟩
theorem max_int (a b : Nat) : mmI false (a : Int) (1 + (b : Int)) = ((max a (1 + b) : Nat) : Int) := by
  simp only [mmI]
  split <;> omega
theorem eb_set (u : List Bool) (i : Nat) (x : Bool) : (u.map Tr.eB).set i (dPut (Tr.eB x) 0 (.lit (.bool true) .nil)) = (u.set i true).map Tr.eB := by rw [List.map_set]; rfl
theorem eb_at (u : List Bool) (i k : Nat) (x : Bool) (hk : k < u.length) : ((u.map Tr.eB).set i (dPut (Tr.eB x) 0 (.lit (.bool true) .nil)))[k]? = some (Tr.eB ((u.set i true).getD k false)) := by
  rw [eb_set]
  exact map_at (by rw [List.length_set]; exact hk)
theorem takes_n {l : List GSpan} {u : List Bool} {p : GPair} (h : (((((p.A < 0 ∨ (l.length : Int) - 1 < p.A) ∨ p.B < 0 ∨ (l.length : Int) - 1 < p.B) ∨ p.A = p.B) ∨ u.getD p.A.toNat false = true) ∨ u.getD p.B.toNat false = true) ∨ pMesh (l.getD p.A.toNat spD) (l.getD p.B.toNat spD) = false) : takes l u p = false := by
  cases e : takes l u p with
  | false => rfl
  | true =>
    exfalso
    obtain ⟨h1, h2, h3, h4⟩ := takes_at e
    obtain ⟨g1, g2, g3, g4, g5⟩ := inN_at h1
    have h4' : pMesh (l.getD p.A.toNat spD) (l.getD p.B.toNat spD) = true := h4
    rcases h with ((((h | h) | h) | h) | h) | h
    · omega
    · omega
    · exact g1 h
    · rw [h2] at h; cases h
    · rw [h3] at h; cases h
    · rw [h4'] at h; cases h
theorem takes_y {l : List GSpan} {u : List Bool} {p : GPair} (h : (((((0 ≤ p.A ∧ p.A ≤ (l.length : Int) - 1) ∧ 0 ≤ p.B ∧ p.B ≤ (l.length : Int) - 1) ∧ ¬p.A = p.B) ∧ u.getD p.A.toNat false = false) ∧ u.getD p.B.toNat false = false) ∧ pMesh (l.getD p.A.toNat spD) (l.getD p.B.toNat spD) = true) : takes l u p = true := by
  obtain ⟨⟨⟨⟨⟨h1, h2⟩, h3⟩, h4⟩, h5⟩, h6⟩ := h
  unfold takes meshAt
  rw [h4, h5, h6, inN_of ⟨h3, by omega, by omega, by omega, by omega⟩]
  rfl
/-- of indices that are known -/
theorem takes_n2 {l : List GSpan} {u : List Bool} {p : GPair} (h : (u.getD p.A.toNat false = true ∨ u.getD p.B.toNat false = true) ∨ pMesh (l.getD p.A.toNat spD) (l.getD p.B.toNat spD) = false) : takes l u p = false := takes_n (h.imp (fun h => h.imp .inr id) id)
theorem takes_y2 {l : List GSpan} {u : List Bool} {p : GPair} (hp : inN l.length p = true) (h : (u.getD p.A.toNat false = false ∧ u.getD p.B.toNat false = false) ∧ pMesh (l.getD p.A.toNat spD) (l.getD p.B.toNat spD) = true) : takes l u p = true := by
  obtain ⟨h3, g2, g3, g4, g5⟩ := inN_at hp
  exact takes_y ⟨⟨⟨⟨⟨by omega, by omega⟩, h3⟩, h.1.1⟩, h.1.2⟩, h.2⟩
end Eng
end Go.Proofs.YthkjbjgpdapnpaaDoor

/- Spans: what the chapter says. -/
import Derived.Test.YthkjbjgpdapnpaaDoorMod
import Derived.Test.YthkjbjgpdapnpaaDoorBit2
import Derived.Test.YthkjbjgpdapnpaaDoorCls4
import Derived.Test.YthkjbjgpdapnpaaDoorSed3
namespace Go.Proofs.YthkjbjgpdapnpaaDoor
open Go.RowKit
set_option linter.unusedVariables false
namespace Tr
open Bm Cl Sd
def pSpanOk (s : GSpan) : Bool := decide (0 ≤ s.Page ∧ s.Page ≤ 31) && isMap (slots s.Class) s.Bits
def sFree (s : GSpan) : List Int := freeL (slots s.Class) s.Bits
def canTake (s : GSpan) (seed : Int) : Prop := pSpanOk s = true ∧ (sFree s).length ≠ 0 ∧ 0 ≤ seed ∧ seed ≤ 1073741823
instance (s : GSpan) (seed : Int) : Decidable (canTake s seed) := by unfold canTake; infer_instance
def sSlot (s : GSpan) (seed : Int) : Int := (sFree s).getD (pickK seed (sFree s).length).toNat 0
def pSpanTake (s : GSpan) (seed : Int) : GSpan × Int × Int × Bool :=
  if canTake s seed then (⟨s.Page, s.Class, Bm.set s.Bits (sSlot s seed)⟩, sSlot s seed, pickS seed (sFree s).length, true) else (s, -1, seed, false)
def pSpanGive (s : GSpan) (slot : Int) : GSpan × Bool := if pSpanOk s = true ∧ has s.Bits slot = true then (⟨s.Page, s.Class, unset s.Bits slot⟩, true) else (s, false)
def pSpanAddr (s : GSpan) (slot : Int) : Int := if pSpanOk s = true ∧ 0 ≤ slot ∧ slot < slots s.Class then s.Page * 16 + slot * csz s.Class else -1
def pSlotAt (s : GSpan) (addr : Int) : Int × Int := if pSpanOk s = true ∧ 0 ≤ addr ∧ addr.tdiv 16 = s.Page then ((addr.tmod 16).tdiv (csz s.Class), (addr.tmod 16).tmod (csz s.Class)) else (-1, -1)
/-- the cells below n that lie in slots in use -/
def inUse (s : GSpan) (n : Nat) : List Int := ((List.range n).filter fun (i : Nat) => has s.Bits ((i : Int).tdiv (csz s.Class))).map fun (i : Nat) => (i : Int)
def pSpanCells (s : GSpan) : List Int := if pSpanOk s = true then inUse s 16 else []
def pSpanFull (s : GSpan) : Bool := pSpanOk s && decide ((sFree s).length = 0)
theorem span_parts {s : GSpan} (h : pSpanOk s = true) : (0 ≤ s.Page ∧ s.Page ≤ 31) ∧ isMap (slots s.Class) s.Bits = true := by
  unfold pSpanOk at h
  rw [Bool.and_eq_true, decide_eq_true_eq] at h
  exact h
theorem inUse_succ (s : GSpan) (n : Nat) : inUse s (n + 1) = if has s.Bits ((n : Int).tdiv (csz s.Class)) = true then inUse s n ++ [(n : Int)] else inUse s n := by
  unfold inUse
  rw [List.range_succ, List.filter_append, List.map_append]
  by_cases h : has s.Bits ((n : Int).tdiv (csz s.Class)) = true
  · rw [if_pos h, show List.filter (fun (i : Nat) => has s.Bits ((i : Int).tdiv (csz s.Class))) [n] = [n] from List.filter_cons_of_pos h]; rfl
  · rw [if_neg h, show List.filter (fun (i : Nat) => has s.Bits ((i : Int).tdiv (csz s.Class))) [n] = [] from List.filter_cons_of_neg h]; exact List.append_nil _
/-- a span that is valid has one of the four classes -/
theorem span_class {s : GSpan} (h : pSpanOk s = true) : s.Class = 0 ∨ s.Class = 1 ∨ s.Class = 2 ∨ s.Class = 3 := by
  have h2 := (map_bd (span_parts h).2).1
  unfold slots at h2
  repeat' split at h2
  all_goals omega
theorem csz_pos {k : Int} (h : k = 0 ∨ k = 1 ∨ k = 2 ∨ k = 3) : 1 ≤ csz k ∧ csz k ≤ 8 := by rcases h with rfl | rfl | rfl | rfl <;> decide
theorem slots_bd (k : Int) : 0 ≤ slots k ∧ slots k ≤ 16 := by unfold slots; repeat' split <;> omega
theorem csz_bd (k : Int) : 0 ≤ csz k ∧ csz k ≤ 8 := by unfold csz; repeat' split <;> omega
theorem slots_csz {k : Int} (h : k = 0 ∨ k = 1 ∨ k = 2 ∨ k = 3) : slots k * csz k = 16 := by rcases h with rfl | rfl | rfl | rfl <;> decide
theorem bits_bd {s : GSpan} (h : pSpanOk s = true) : 0 ≤ s.Bits ∧ s.Bits < 65536 := by
  obtain ⟨h1, h2, h3, h4⟩ := map_bd (span_parts h).2
  refine ⟨h3, ?_⟩
  have : (2 : Int) ^ (slots s.Class).toNat ≤ 2 ^ 16 := by
    have := Nat.pow_le_pow_right (show 0 < 2 by decide) (show (slots s.Class).toNat ≤ 16 by omega)
    exact_mod_cast this
  omega
theorem freeL_len (n b : Int) : (freeL n b).length ≤ 16 := by
  unfold freeL
  split
  · rename_i h
    have := map_bd h
    unfold freeTo
    rw [List.length_map]
    have := List.length_filter_le (fun j => !b.toNat.testBit j) (List.range n.toNat)
    rw [List.length_range] at this
    omega
  · simp
theorem freeL_mem {n b x : Int} (h : x ∈ freeL n b) : 0 ≤ x ∧ x < n ∧ x ≤ 15 ∧ isMap n b = true ∧ has b x = false := by
  unfold freeL at h
  split at h
  · rename_i hm
    have hb := map_bd hm
    simp only [freeTo, List.mem_map, List.mem_filter, List.mem_range, Bool.not_eq_eq_eq_not, Bool.not_true] at h
    obtain ⟨j, ⟨h1, h2⟩, rfl⟩ := h
    refine ⟨by omega, by omega, by omega, hm, ?_⟩
    unfold has
    rw [Int.toNat_natCast, h2, Bool.and_false]
  · cases h
theorem pick_bd {s n : Int} (h1 : 1 ≤ n) : 0 ≤ pickK s n ∧ pickK s n < n := by
  unfold pickK
  split
  · exact ⟨Int.emod_nonneg _ (by omega), Int.emod_lt_of_pos _ (by omega)⟩
  · omega
theorem slot_mem {s : GSpan} {k : Int} (h : (sFree s).length ≠ 0) : (pickK k (sFree s).length).toNat < (sFree s).length := by
  have := pick_bd (s := k) (n := ((sFree s).length : Int)) (by omega)
  omega
theorem slot_in {s : GSpan} {k : Int} (h : (sFree s).length ≠ 0) : sSlot s k ∈ sFree s := by
  unfold sSlot
  rw [List.getD_eq_getElem?_getD, List.getElem?_eq_getElem (slot_mem h)]
  exact List.getElem_mem _
theorem tdiv_bd {a : Int} (h0 : 0 ≤ a) {c : Int} (hc : 1 ≤ c) : 0 ≤ a.tdiv c ∧ a.tdiv c ≤ a := by
  rw [Int.tdiv_eq_ediv_of_nonneg h0]
  exact ⟨Int.ediv_nonneg h0 (by omega), Int.ediv_le_self _ h0⟩
theorem tmod_bd {a : Int} (h0 : 0 ≤ a) {c : Int} (hc : 1 ≤ c) : 0 ≤ a.tmod c ∧ a.tmod c < c := by
  rw [Int.tmod_eq_emod_of_nonneg h0]
  exact ⟨Int.emod_nonneg _ (by omega), Int.emod_lt_of_pos _ (by omega)⟩
theorem inUse_len (s : GSpan) (n : Nat) : (inUse s n).length ≤ n := by
  unfold inUse
  rw [List.length_map]
  exact Nat.le_trans (List.length_filter_le _ _) (by rw [List.length_range]; exact Nat.le_refl _)
end Tr
end Go.Proofs.YthkjbjgpdapnpaaDoor

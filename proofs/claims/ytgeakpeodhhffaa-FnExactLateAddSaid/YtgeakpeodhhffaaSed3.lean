/- A symbolic run (Sed3). No program. -/
import Derived.WalkKit
import Derived.RowKit
import Derived.Test.YtgeakpeodhhffaaBit2
namespace Go.Proofs.Ytgeakpeodhhffaa
open Go.RowKit
namespace Sd
/-- the next seed -/
def nextN (s : Int) : Int := if 0 ≤ s ∧ s ≤ 1073741823 then (1103515245 * s + 12345) % 1073741824 else 0
theorem nextN_in (s : Int) : 0 ≤ nextN s ∧ nextN s ≤ 1073741823 := by unfold nextN; split <;> omega
/-- the number that a choice among n gives -/
def pickK (s n : Int) : Int := if (1 ≤ n ∧ n ≤ 1000) ∧ 0 ≤ s ∧ s ≤ 1073741823 then nextN s / 1024 % n else 0
def pickS (s n : Int) : Int := if (1 ≤ n ∧ n ≤ 1000) ∧ 0 ≤ s ∧ s ≤ 1073741823 then nextN s else s
theorem pickK_yes (s : Int) (n : Nat) (h0 : 1 ≤ n) (h1 : n ≤ 1000) (hs : 0 ≤ s ∧ s ≤ 1073741823) : ∃ k : Nat, pickK s n = k ∧ k < n := by
  unfold pickK
  rw [if_pos ⟨by omega, hs⟩]
  have h2 := Int.emod_nonneg (nextN s / 1024) (show (n : Int) ≠ 0 by omega)
  have h3 := Int.emod_lt_of_pos (nextN s / 1024) (show (0 : Int) < n by omega)
  exact ⟨(nextN s / 1024 % n).toNat, by omega, by omega⟩
theorem pickS_yes (s : Int) (n : Nat) (h0 : 1 ≤ n) (h1 : n ≤ 1000) (hs : 0 ≤ s ∧ s ≤ 1073741823) : pickS s n = nextN s := by
  unfold pickS; rw [if_pos ⟨by omega, hs⟩]
/-- two places exchanged -/
def sw (f : Nat → Nat) (i k : Nat) : Nat → Nat := fun j => if j = k then f i else if j = i then f k else f j
/-- behind m exchanges of a shuffle of n numbers -/
def st (n : Nat) (s : Int) : Nat → (Nat → Nat) × Int
  | 0 => (fun j => j, s)
  | m + 1 => (sw (st n s m).1 (n - 1 - m) (pickK (st n s m).2 ((n - 1 - m + 1 : Nat) : Int)).toNat, nextN (st n s m).2)
theorem st_seed (n : Nat) (s : Int) (hs : 0 ≤ s ∧ s ≤ 1073741823) : ∀ m, 0 ≤ (st n s m).2 ∧ (st n s m).2 ≤ 1073741823
  | 0 => hs
  | _ + 1 => nextN_in _
theorem sw_lt {n : Nat} {f : Nat → Nat} {i k : Nat} (h : ∀ j, j < n → f j < n) (hi : i < n) (hk : k < n) : ∀ j, j < n → sw f i k j < n := by
  intro j hj
  unfold sw
  split
  · exact h i hi
  · split
    · exact h k hk
    · exact h j hj
theorem sw_inj {n : Nat} {f : Nat → Nat} {i k : Nat} (h : ∀ a b, a < n → b < n → f a = f b → a = b) (hi : i < n) (hk : k < n) : ∀ a b, a < n → b < n → sw f i k a = sw f i k b → a = b := by
  intro a b ha hb e
  unfold sw at e
  split at e <;> split at e <;> (try split at e) <;> (try split at e) <;> first
    | omega
    | (have := h _ _ (by assumption) (by assumption) e; omega)
theorem st_perm (n : Nat) (s : Int) (hn : n ≤ 64) (hs : 0 ≤ s ∧ s ≤ 1073741823) : ∀ m, m ≤ n - 1 → (∀ j, j < n → (st n s m).1 j < n) ∧ (∀ a b, a < n → b < n → (st n s m).1 a = (st n s m).1 b → a = b)
  | 0, _ => ⟨fun _ h => h, fun _ _ _ _ e => e⟩
  | m + 1, hm => by
    obtain ⟨h1, h2⟩ := st_perm n s hn hs m (by omega)
    obtain ⟨k, hk, hkn⟩ := pickK_yes (st n s m).2 (n - 1 - m + 1) (by omega) (by omega) (st_seed n s hs m)
    have e : (st n s (m + 1)).1 = sw (st n s m).1 (n - 1 - m) k := by
      show sw _ _ _ = _
      rw [hk, Int.toNat_natCast]
    rw [e]
    exact ⟨sw_lt h1 (by omega) (by omega), sw_inj h2 (by omega) (by omega)⟩
/-- the numbers of a shuffle -/
def rowF (n : Nat) (f : Nat → Nat) : List Int := (List.range n).map fun j => (f j : Int)
theorem rowF_len (n : Nat) (f : Nat → Nat) : (rowF n f).length = n := by simp [rowF]
theorem rowF_at (n : Nat) (f : Nat → Nat) (i : Nat) (h : i < n) : (rowF n f)[i]? = some (f i : Int) := by simp [rowF, h]
theorem rowF_set (n : Nat) (f : Nat → Nat) (i v : Nat) : (rowF n f).set i (v : Int) = rowF n (fun j => if j = i then v else f j) := by
  apply List.ext_getElem?
  intro j
  rw [List.getElem?_set]
  by_cases hj : j < n
  · by_cases h : i = j
    · subst h; simp [rowF, hj]
    · have h' : ¬ j = i := fun e => h e.symm
      simp [rowF, hj, h, h']
  · simp [rowF, hj]; intro h; omega
theorem rowF_sw (n : Nat) (f : Nat → Nat) (i k : Nat) : ((rowF n f).set i (f k : Int)).set k (f i : Int) = rowF n (sw f i k) := by
  rw [rowF_set, rowF_set]; rfl
theorem rowF_id_succ (k : Nat) : rowF (k + 1) (fun j => j) = rowF k (fun j => j) ++ [(k : Int)] := by simp [rowF, List.range_succ]
def shufF (n : Nat) (s : Int) : Nat → Nat := (st n s (n - 1)).1
def shufS (n : Nat) (s : Int) : Int := (st n s (n - 1)).2
/-- what Shuffled returns -/
def outL (s n : Int) : List Int := if (0 ≤ n ∧ n ≤ 64) ∧ 0 ≤ s ∧ s ≤ 1073741823 then rowF n.toNat (shufF n.toNat s) else []
def outS (s n : Int) : Int := if (0 ≤ n ∧ n ≤ 64) ∧ 0 ≤ s ∧ s ≤ 1073741823 then shufS n.toNat s else s
theorem outL_le (s n : Int) : (outL s n).length ≤ 64 := by
  unfold outL
  split
  · rw [rowF_len]; omega
  · simp
/-- the seeds below 16: none comes back within 15 steps -/
def g16 (x : Nat) : Nat := (13 * x + 9) % 16
def it16 : Nat → Nat → Nat
  | 0, x => x
  | m + 1, x => g16 (it16 m x)
theorem it16_ne : ∀ x, x < 16 → ∀ m, m < 15 → it16 (m + 1) x ≠ x := by decide
theorem next16 (s : Int) (h : 0 ≤ s ∧ s ≤ 1073741823) : (nextN s % 16).toNat = g16 (s % 16).toNat := by
  obtain ⟨S, rfl⟩ := Int.eq_ofNat_of_zero_le h.1
  have e : nextN (S : Int) = (((1103515245 * S + 12345) % 1073741824 : Nat) : Int) := by unfold nextN; rw [if_pos h]; simp
  have e2 : (((1103515245 * S + 12345) % 1073741824 : Nat) : Int) % 16 = (((1103515245 * S + 12345) % 1073741824 % 16 : Nat) : Int) := by simp
  have e3 : (S : Int) % 16 = ((S % 16 : Nat) : Int) := by simp
  rw [e, e2, e3, Int.toNat_natCast, Int.toNat_natCast, Nat.mod_mod_of_dvd _ (by decide : 16 ∣ 1073741824)]
  unfold g16
  omega
theorem st16 (n : Nat) (s : Int) (hs : 0 ≤ s ∧ s ≤ 1073741823) : ∀ m, ((st n s m).2 % 16).toNat = it16 m (s % 16).toNat
  | 0 => rfl
  | m + 1 => by
    show (nextN (st n s m).2 % 16).toNat = g16 (it16 m _)
    rw [next16 _ (st_seed n s hs m), st16 n s hs m]
theorem shufS_ne (n : Nat) (s : Int) (h2 : 2 ≤ n) (hn : n ≤ 16) (hs : 0 ≤ s ∧ s ≤ 1073741823) : shufS n s ≠ s := by
  intro e
  have h := st16 n s hs (n - 1)
  obtain ⟨m, hm⟩ : ∃ m, n - 1 = m + 1 := ⟨n - 2, by omega⟩
  have e' : (st n s (n - 1)).2 = s := e
  rw [e', hm] at h
  exact it16_ne (s % 16).toNat (by omega) m (by omega) h.symm
/-- has j been seen among the first i of f? -/
def seen (f : Nat → Nat) (i j : Nat) : Bool := (List.range i).any fun a => f a == j
theorem seen_succ (f : Nat → Nat) (i j : Nat) : seen f (i + 1) j = (seen f i j || (f i == j)) := by simp [seen, List.range_succ]
theorem seen_no (f : Nat → Nat) (n i : Nat) (hf : ∀ a b, a < n → b < n → f a = f b → a = b) (hi : i < n) : seen f i (f i) = false := by
  cases h : seen f i (f i)
  · rfl
  · unfold seen at h
    rw [List.any_eq_true] at h
    obtain ⟨a, ha, e⟩ := h
    rw [List.mem_range] at ha
    have := hf a i (by omega) hi (by simpa using e)
    omega
def rowB (n : Nat) (g : Nat → Bool) : List Value := (List.range n).map fun j => Value.bool (g j)
theorem rowB_at (n : Nat) (g : Nat → Bool) (i : Nat) (h : i < n) : (rowB n g)[i]? = some (.bool (g i)) := by simp [rowB, h]
theorem rowB_len (n : Nat) (g : Nat → Bool) : (rowB n g).length = n := by simp [rowB]
theorem rowB_zero (n : Nat) (f : Nat → Nat) : List.replicate n (Value.bool false) = rowB n (seen f 0) := by
  apply List.ext_getElem?
  intro j
  by_cases hj : j < n
  · simp [rowB, seen, hj]
  · simp [rowB, hj]
theorem rowB_set (n : Nat) (f : Nat → Nat) (i : Nat) : (rowB n (seen f i)).set (f i) (.bool true) = rowB n (seen f (i + 1)) := by
  apply List.ext_getElem?
  intro j
  rw [List.getElem?_set]
  by_cases hj : j < n
  · by_cases h : f i = j
    · subst h; simp [rowB, hj, seen_succ]
    · have h' : (f i == j) = false := by simpa using h
      simp [rowB, hj, h, seen_succ, h']
  · simp [rowB, hj]; intro h; omega
end Sd
end Go.Proofs.Ytgeakpeodhhffaa
namespace Go.Proofs.Ytgeakpeodhhffaa
open Go.RowKit
namespace Sd
open Own Il
def PairP (a b : Int) (w : World) (e : Ending) (w' : World) : Prop := e = .returned (.tuple #[.int .i64 a, .int .i64 b]) ∧ w = w'
/-- a shuffle's answer: the numbers in memory of the call's own, and a seed -/
def ShufP (l : List Int) (t : Int) (w : World) (e : Ending) (w' : World) : Prop := ∃ v, e = .returned (.tuple #[v, .int .i64 t]) ∧ w'.ownsRow w.heap.size 3 1 v l.length (ints l) ∧ Below w.heap.size w w'
theorem info_int : (Try.prog.info? 3).map (fun i => (i.zero, i.size, i.bytes)) = some (some (.int .i64 0), 1, 8) := by kernel_rfl
theorem info_bool : (Try.prog.info? 4).map (fun i => (i.zero, i.size, i.bytes)) = some (some (.bool false), 1, 1) := by kernel_rfl
theorem made0 (w0 w : World) (h : w0.heap.size ≤ w.heap.size) : (w.alloc (.cells #[] 3)).ownsRow w0.heap.size 3 1 (.slice (some ⟨w.heap.size, 0, none⟩) 0 0) 0 [] :=
  World.ownsRow_made (e := 3) (size := 1) w #[] 0 h (by unfold maxLen; omega) rfl
theorem ints_set (l : List Int) (i : Nat) (x : Int) : (ints l).set i (.int .i64 x) = ints (l.set i x) := by unfold ints; rw [List.map_set]
theorem row_at (n : Nat) (f : Nat → Nat) (i : Nat) (h : i < n) : (ints (rowF n f))[i]? = some (.int .i64 (f i : Int)) := by
  unfold ints; rw [List.getElem?_map, rowF_at n f i h]; rfl
theorem row_sw (n : Nat) (f : Nat → Nat) (i k : Nat) : ((ints (rowF n f)).set i (.int .i64 (f k : Int))).set k (.int .i64 (f i : Int)) = ints (rowF n (sw f i k)) := by
  rw [ints_set, ints_set, rowF_sw]
theorem st_succ (n : Nat) (s : Int) (m i k : Nat) (hi : n - 1 - m = i) (hk : pickK (st n s m).2 ((i + 1 : Nat) : Int) = (k : Int)) : st n s (m + 1) = (sw (st n s m).1 i k, nextN (st n s m).2) := by
  show (sw _ _ _, _) = _
  rw [hi, hk, Int.toNat_natCast]
end Sd
end Go.Proofs.Ytgeakpeodhhffaa
namespace Go.Proofs.Ytgeakpeodhhffaa
open Go.RowKit
namespace Sd
open Own Il
theorem own_mono {w : World} {b b' : Nat} {e : TypeId} {size : Nat} {v : Value} {n : Nat} {xs : List Value} (h : w.ownsRow b e size v n xs) (hb : b' ≤ b) : w.ownsRow b' e size v n xs := by
  obtain ⟨h1, h2⟩ := h
  refine ⟨h1, ?_⟩
  rcases h2 with h2 | ⟨g, cap, cur, hv, hg, r⟩
  · exact Or.inl h2
  · exact Or.inr ⟨g, cap, cur, hv, Nat.le_trans hb hg, r⟩
/-- the places below k numbered, the others zero -/
def upN (k : Nat) : Nat → Nat := fun j => if j < k then j else 0
theorem row_zero (n : Nat) : List.replicate n (Value.int .i64 0) = ints (rowF n (upN 0)) := by
  apply List.ext_getElem?
  intro j
  by_cases hj : j < n
  · simp [ints, rowF, upN, hj]
  · simp [ints, rowF, hj]
theorem row_up (n k : Nat) : (ints (rowF n (upN k))).set k (.int .i64 (k : Int)) = ints (rowF n (upN (k + 1))) := by
  rw [ints_set, rowF_set]
  have e : (fun j => if j = k then k else upN k j) = upN (k + 1) := by
    funext j
    unfold upN
    by_cases h : j = k
    · subst h; rw [if_pos rfl, if_pos (Nat.lt_succ_self _)]
    · rw [if_neg h]
      by_cases h2 : j < k
      · rw [if_pos h2, if_pos (by omega)]
      · rw [if_neg h2, if_neg (by omega)]
  rw [e]
theorem row_all (n : Nat) : rowF n (upN n) = rowF n (fun j => j) := by
  unfold rowF
  apply List.map_congr_left
  intro j hj
  rw [List.mem_range] at hj
  unfold upN
  rw [if_pos hj]
end Sd
end Go.Proofs.Ytgeakpeodhhffaa

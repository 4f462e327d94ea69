/- Searching pairs: what the chapter says. -/
import Derived.Test.YthkjbjgpdapnpaaDoorM10b
import Derived.Test.YthkjbjgpdapnpaaDoorMost
import Derived.Test.YthkjbjgpdapnpaaDoorSed3
namespace Go.Proofs.YthkjbjgpdapnpaaDoor
open Go.RowKit
set_option linter.unusedVariables false
set_option linter.unusedSimpArgs false
namespace Tr
open Sd
def prD : GPair := ⟨0, 0⟩
/-- a pair of two indices below n -/
def inN (n : Nat) (p : GPair) : Bool := p.A != p.B && decide (0 ≤ p.A ∧ 0 ≤ p.B ∧ p.A < n ∧ p.B < n)
theorem inN_at {n : Nat} {p : GPair} (h : inN n p = true) : p.A ≠ p.B ∧ 0 ≤ p.A ∧ 0 ≤ p.B ∧ p.A < n ∧ p.B < n := by
  unfold inN at h
  simp only [Bool.and_eq_true, bne_iff_ne, decide_eq_true_eq] at h
  exact h
theorem inN_of {n : Nat} {p : GPair} (h : p.A ≠ p.B ∧ 0 ≤ p.A ∧ 0 ≤ p.B ∧ p.A < n ∧ p.B < n) : inN n p = true := by
  unfold inN
  simp only [Bool.and_eq_true, bne_iff_ne, decide_eq_true_eq]
  exact h
def meshAt (l : List GSpan) (i j : Nat) : Bool := pMesh (l.getD i spD) (l.getD j spD)
/-- a pair is taken -/
def takes (l : List GSpan) (u : List Bool) (p : GPair) : Bool := inN l.length p && !(u.getD p.A.toNat false) && !(u.getD p.B.toNat false) && meshAt l p.A.toNat p.B.toNat
def stepP (l : List GSpan) (s : List Bool × List GPair) (p : GPair) : List Bool × List GPair := if takes l s.1 p = true then ((s.1.set p.A.toNat true).set p.B.toNat true, s.2 ++ [p]) else s
def foldP (l : List GSpan) (s : List Bool × List GPair) (ps : List GPair) : List Bool × List GPair := ps.foldl (stepP l) s
/-- which spans are in a pair, and the pairs, behind the examination of some -/
def runP (l : List GSpan) (ps : List GPair) : List Bool × List GPair := foldP l (List.replicate l.length false, []) ps
theorem foldP_snoc (l : List GSpan) (s : List Bool × List GPair) (ps : List GPair) (p : GPair) : foldP l s (ps ++ [p]) = stepP l (foldP l s ps) p := by unfold foldP; rw [List.foldl_append]; rfl
theorem runP_snoc (l : List GSpan) (ps : List GPair) (p : GPair) : runP l (ps ++ [p]) = stepP l (runP l ps) p := foldP_snoc l _ ps p
theorem take_snoc {α : Type} (d : α) (l : List α) {i : Nat} (hi : i < l.length) : l.take (i + 1) = l.take i ++ [l.getD i d] := by
  rw [List.take_add_one, List.getD_eq_getElem?_getD, List.getElem?_eq_getElem hi]
  rfl
theorem runP_take (l : List GSpan) (ps : List GPair) {i : Nat} (hi : i < ps.length) : runP l (ps.take (i + 1)) = stepP l (runP l (ps.take i)) (ps.getD i prD) := by
  rw [take_snoc prD ps hi, runP_snoc]
theorem step_yes {l : List GSpan} {s : List Bool × List GPair} {p : GPair} (h : takes l s.1 p = true) : stepP l s p = ((s.1.set p.A.toNat true).set p.B.toNat true, s.2 ++ [p]) := if_pos h
theorem step_no {l : List GSpan} {s : List Bool × List GPair} {p : GPair} (h : takes l s.1 p = false) : stepP l s p = s := if_neg (by rw [h]; exact Bool.false_ne_true)
theorem takes_at {l : List GSpan} {u : List Bool} {p : GPair} (h : takes l u p = true) : inN l.length p = true ∧ u.getD p.A.toNat false = false ∧ u.getD p.B.toNat false = false ∧ meshAt l p.A.toNat p.B.toNat = true := by
  unfold takes at h
  simp only [Bool.and_eq_true, Bool.not_eq_true'] at h
  exact ⟨h.1.1.1, h.1.1.2, h.1.2, h.2⟩
def idx (p : GPair) : Nat × Nat := (p.A.toNat, p.B.toNat)
structure RunOk (l : List GSpan) (s : List Bool × List GPair) : Prop where
  len : s.1.length = l.length
  rest : ∃ rest : List Nat, (List.range l.length).Perm (flat2 (s.2.map idx) ++ rest) ∧ ∀ i, i < l.length → (s.1.getD i false = false ↔ i ∈ rest)
  fits : ∀ p ∈ s.2, inN l.length p = true ∧ meshAt l p.A.toNat p.B.toNat = true
theorem getD_set (u : List Bool) (i j : Nat) (h : j < u.length) : (u.set j true).getD i false = if j = i then true else u.getD i false := by
  simp only [List.getD_eq_getElem?_getD, List.getElem?_set]
  by_cases e : j = i
  · rw [if_pos e, if_pos e, if_pos h]; rfl
  · rw [if_neg e, if_neg e]
theorem RunOk.step {l : List GSpan} {s : List Bool × List GPair} (h : RunOk l s) (p : GPair) : RunOk l (stepP l s p) := by
  by_cases ht : takes l s.1 p = true
  · rw [step_yes ht]
    obtain ⟨h1, h2, h3, h4⟩ := takes_at ht
    obtain ⟨h5, h6, h7, h8, h9⟩ := inN_at h1
    obtain ⟨rest, hp, hr⟩ := h.rest
    have hA := (hr p.A.toNat (by omega)).1 h2
    have hB := (hr p.B.toNat (by omega)).1 h3
    obtain ⟨r1, hr1⟩ := mem_split_perm hA
    have hB1 : p.B.toNat ∈ r1 := by
      have := hr1.mem_iff.1 hB
      rw [List.mem_cons] at this
      rcases this with e | h
      · omega
      · exact h
    obtain ⟨r2, hr2⟩ := mem_split_perm hB1
    have hr3 : rest.Perm (p.A.toNat :: p.B.toNat :: r2) := hr1.trans (hr2.cons _)
    have hnd : rest.Nodup := by
      have := hp.nodup_iff.1 List.nodup_range
      rw [List.nodup_append] at this
      exact this.2.1
    have hnd2 := hr3.nodup_iff.1 hnd
    rw [List.nodup_cons, List.nodup_cons] at hnd2
    obtain ⟨n1, n2, _⟩ := hnd2
    have n1' : p.A.toNat ∉ r2 := fun h => n1 (by simp [h])
    refine ⟨by rw [List.length_set, List.length_set]; exact h.len, ⟨r2, ?_, fun i hi => ?_⟩, ?_⟩
    · rw [List.map_append, flat2_append]
      have : flat2 ([p].map idx) = [p.A.toNat, p.B.toNat] := rfl
      rw [this, List.append_assoc]
      exact hp.trans (List.Perm.append_left _ hr3)
    · rw [getD_set _ _ _ (by rw [List.length_set, h.len]; omega), getD_set _ _ _ (by rw [h.len]; omega)]
      by_cases e1 : p.B.toNat = i
      · rw [if_pos e1, ← e1]
        exact ⟨fun h => (by cases h), fun h => absurd h n2⟩
      · rw [if_neg e1]
        by_cases e2 : p.A.toNat = i
        · rw [if_pos e2, ← e2]
          exact ⟨fun h => (by cases h), fun h => absurd h n1'⟩
        · rw [if_neg e2, hr i hi, hr3.mem_iff, List.mem_cons, List.mem_cons]
          constructor
          · rintro (e | e | h)
            · exact absurd e.symm e2
            · exact absurd e.symm e1
            · exact h
          · exact fun h => .inr (.inr h)
    · intro q hq
      rw [List.mem_append, List.mem_singleton] at hq
      rcases hq with hq | rfl
      · exact h.fits q hq
      · exact ⟨h1, h4⟩
  · rw [step_no (by simpa using ht)]
    exact h
theorem RunOk.start (l : List GSpan) : RunOk l (List.replicate l.length false, []) := by
  refine ⟨by simp, ⟨List.range l.length, .refl _, fun i hi => ?_⟩, by simp⟩
  rw [List.getD_eq_getElem?_getD, List.getElem?_replicate, if_pos hi]
  simpa using hi
theorem fold_ok {l : List GSpan} : ∀ (ps : List GPair) {s : List Bool × List GPair}, RunOk l s → RunOk l (foldP l s ps)
  | [], _, h => h
  | p :: ps, s, h => fold_ok ps (h.step p)
theorem run_ok (l : List GSpan) (ps : List GPair) : RunOk l (runP l ps) := fold_ok ps (RunOk.start l)
theorem mesh_comm (a b : GSpan) : pMesh a b = pMesh b a := by
  rw [Bool.eq_iff_iff]
  have key : ∀ a b : GSpan, pMesh a b = true → pMesh b a = true := by
    intro a b h
    obtain ⟨h1, h2, h3, h4, h5⟩ := mesh_ok h
    unfold pMesh
    rw [h1, h2, h3, Nat.and_comm, h5]
    simp [Ne.symm h4]
  exact ⟨key a b, key b a⟩
theorem most_idx (l : List GSpan) : most pMesh l = most (meshAt l) (List.range l.length) := by
  have e : l = (List.range l.length).map (fun i => l.getD i spD) := by
    apply List.ext_getElem?
    intro j
    rw [List.getElem?_map]
    by_cases hj : j < l.length
    · rw [List.getElem?_range hj, List.getElem?_eq_getElem hj]
      simp [List.getD, hj]
    · rw [List.getElem?_eq_none (by omega), List.getElem?_eq_none (by simpa using hj)]; rfl
  conv => lhs; rw [e]
  rw [most_map]
  rfl
/-- no disjoint meshable pairs are more than the maximum -/
theorem run_le (l : List GSpan) (ps : List GPair) : (runP l ps).2.length ≤ most pMesh l := by
  obtain ⟨rest, hp, _⟩ := (run_ok l ps).rest
  rw [most_idx]
  have := most_ge (meshAt l) (fun a b => mesh_comm _ _) _ _ (Nat.le_refl _) _ _ hp (by
    intro q hq
    obtain ⟨p, hp, rfl⟩ := List.mem_map.1 hq
    exact ((run_ok l ps).fits p hp).2)
  rwa [List.length_map] at this
theorem run_count (l : List GSpan) (ps : List GPair) : (List.range l.length).countP (fun i => (runP l ps).1.getD i false) = 2 * (runP l ps).2.length := by
  obtain ⟨rest, hp, hr⟩ := (run_ok l ps).rest
  have hlt : ∀ i, i ∈ flat2 ((runP l ps).2.map idx) ++ rest → i < l.length := fun i hi => List.mem_range.1 (hp.mem_iff.2 hi)
  have hnd := hp.nodup_iff.1 List.nodup_range
  rw [List.nodup_append] at hnd
  rw [hp.countP_eq, List.countP_append]
  have h1 : (flat2 ((runP l ps).2.map idx)).countP (fun i => (runP l ps).1.getD i false) = (flat2 ((runP l ps).2.map idx)).length := by
    rw [List.countP_eq_length]
    intro i hi
    cases e : (runP l ps).1.getD i false with
    | true => rfl
    | false => exact absurd rfl (hnd.2.2 i hi i ((hr i (hlt i (by simp [hi]))).1 e))
  have h2 : rest.countP (fun i => (runP l ps).1.getD i false) = 0 := by
    rw [List.countP_eq_zero]
    intro i hi
    rw [(hr i (hlt i (by simp [hi]))).2 hi]
    exact Bool.false_ne_true
  rw [h1, h2, flat2_len, List.length_map, Nat.add_zero]
theorem step_mono {l : List GSpan} {s : List Bool × List GPair} (hs : s.1.length = l.length) (p : GPair) {i : Nat} (h : s.1.getD i false = true) : (stepP l s p).1.getD i false = true := by
  by_cases ht : takes l s.1 p = true
  · rw [step_yes ht]
    obtain ⟨h5, h6, h7, h8, h9⟩ := inN_at (takes_at ht).1
    show ((s.1.set _ true).set _ true).getD i false = true
    rw [getD_set _ _ _ (by rw [List.length_set, hs]; omega), getD_set _ _ _ (by rw [hs]; omega), h]
    simp
  · rw [step_no (by simpa using ht)]; exact h
theorem fold_mono {l : List GSpan} {i : Nat} : ∀ (ps : List GPair) {s : List Bool × List GPair}, RunOk l s → s.1.getD i false = true → (foldP l s ps).1.getD i false = true
  | [], _, _, h => h
  | p :: ps, s, hs, h => fold_mono ps (hs.step p) (step_mono hs.len p h)
theorem step_block {l : List GSpan} {s : List Bool × List GPair} (hs : s.1.length = l.length) {p : GPair} (h1 : inN l.length p = true) (h2 : meshAt l p.A.toNat p.B.toNat = true) : (stepP l s p).1.getD p.A.toNat false = true ∨ (stepP l s p).1.getD p.B.toNat false = true := by
  obtain ⟨h5, h6, h7, h8, h9⟩ := inN_at h1
  by_cases ht : takes l s.1 p = true
  · rw [step_yes ht]
    right
    show ((s.1.set _ true).set _ true).getD _ false = true
    rw [getD_set _ _ _ (by rw [List.length_set, hs]; omega), if_pos rfl]
  · have hn : takes l s.1 p = false := by simpa using ht
    rw [step_no hn]
    unfold takes at hn
    rw [h1, h2] at hn
    cases ha : s.1.getD p.A.toNat false
    · cases hb : s.1.getD p.B.toNat false
      · rw [ha, hb] at hn; cases hn
      · exact .inr rfl
    · exact .inl rfl
/-- of each examined pair that would fit, a part is in a pair -/
theorem fold_block {l : List GSpan} {p : GPair} (h1 : inN l.length p = true) (h2 : meshAt l p.A.toNat p.B.toNat = true) : ∀ (ps : List GPair) {s : List Bool × List GPair}, RunOk l s → p ∈ ps → (foldP l s ps).1.getD p.A.toNat false = true ∨ (foldP l s ps).1.getD p.B.toNat false = true
  | [], _, _, h => by cases h
  | q :: ps, s, hs, h => by
    rw [List.mem_cons] at h
    rcases h with rfl | h
    · exact (step_block hs.len h1 h2).imp (fold_mono ps (hs.step p)) (fold_mono ps (hs.step p))
    · exact fold_block h1 h2 ps (hs.step q) h
theorem fold_sub {l : List GSpan} : ∀ (ps : List GPair) {s : List Bool × List GPair} {p : GPair}, p ∈ (foldP l s ps).2 → p ∈ s.2 ∨ p ∈ ps
  | [], _, _, h => .inl h
  | q :: ps, s, p, h => by
    rcases fold_sub ps h with h | h
    · by_cases ht : takes l s.1 q = true
      · rw [step_yes ht] at h
        rcases List.mem_append.1 h with h | h
        · exact .inl h
        · obtain rfl := List.mem_singleton.1 h
          exact .inr (by simp)
      · rw [step_no (by simpa using ht)] at h; exact .inl h
    · exact .inr (by simp [h])
/-- some pair is taken, if and only if some pair would fit -/
theorem run_any (l : List GSpan) (ps : List GPair) : 0 < (runP l ps).2.length ↔ ∃ p ∈ ps, inN l.length p = true ∧ meshAt l p.A.toNat p.B.toNat = true := by
  constructor
  · intro h
    obtain ⟨p, hp⟩ := List.exists_mem_of_length_pos h
    rcases fold_sub ps hp with h | h
    · cases h
    · exact ⟨p, h, (run_ok l ps).fits p hp⟩
  · rintro ⟨p, hp, h1, h2⟩
    obtain ⟨h5, h6, h7, h8, h9⟩ := inN_at h1
    have hb : (runP l ps).1.getD p.A.toNat false = true ∨ (runP l ps).1.getD p.B.toNat false = true := fold_block h1 h2 ps (RunOk.start l) hp
    have hc := run_count l ps
    have : 0 < (List.range l.length).countP (fun i => (runP l ps).1.getD i false) := by
      rw [List.countP_pos_iff]
      rcases hb with h | h
      · exact ⟨_, List.mem_range.2 (by omega), h⟩
      · exact ⟨_, List.mem_range.2 (by omega), h⟩
    omega
/-- all pairs a < b, in lexicographic order -/
def gRow (a : Nat) : Nat → List GPair
  | 0 => []
  | k + 1 => gRow a k ++ [⟨(a : Nat), ((a + 1 + k : Nat) : Int)⟩]
def gTo (n : Nat) : Nat → List GPair
  | 0 => []
  | a + 1 => gTo n a ++ gRow a (n - 1 - a)
theorem gRow_len (a : Nat) : ∀ k, (gRow a k).length = k
  | 0 => rfl
  | k + 1 => by show (gRow a k ++ [_]).length = _; rw [List.length_append, gRow_len a k]; rfl
theorem gTo_len (n : Nat) : ∀ a, (gTo n a).length ≤ a * n
  | 0 => Nat.zero_le _
  | a + 1 => by
    show (gTo n a ++ gRow a _).length ≤ _
    rw [List.length_append, gRow_len, Nat.succ_mul]
    have := gTo_len n a
    omega
theorem mem_gRow {a b : Nat} : ∀ {k : Nat}, a < b → b < a + 1 + k → (⟨(a : Int), (b : Int)⟩ : GPair) ∈ gRow a k
  | 0, h1, h2 => by omega
  | k + 1, h1, h2 => by
    show _ ∈ gRow a k ++ [_]
    rw [List.mem_append]
    by_cases e : b = a + 1 + k
    · right; rw [List.mem_singleton, e]
    · exact .inl (mem_gRow h1 (by omega))
theorem mem_gTo {n a b : Nat} : ∀ {c : Nat}, a < c → a < b → b < n → (⟨(a : Int), (b : Int)⟩ : GPair) ∈ gTo n c
  | 0, h, _, _ => by omega
  | c + 1, h, h1, h2 => by
    show _ ∈ gTo n c ++ gRow c _
    rw [List.mem_append]
    by_cases e : a = c
    · right; subst e; exact mem_gRow h1 (by omega)
    · exact .inl (mem_gTo (by omega) h1 h2)
def allP (l : List GSpan) : List GPair := gTo l.length l.length
def pGreedy (l : List GSpan) : List GPair := if l.length ≤ 16 then (runP l (allP l)).2 else []
/-- the maximum is at most twice the pairs that are taken in any order of all -/
theorem greedy_half (l : List GSpan) : most pMesh l ≤ 2 * (runP l (allP l)).2.length := by
  rw [most_idx, ← run_count]
  refine most_cover (meshAt l) _ _ _ (Nat.le_refl _) ?_
  intro a ha b hb h
  rw [List.mem_range] at ha hb
  have hne : a ≠ b := by
    rintro rfl
    have := mesh_self (l.getD a spD)
    rw [show pMesh (l.getD a spD) (l.getD a spD) = true from h] at this; cases this
  rcases Nat.lt_or_gt_of_ne hne with hab | hab
  · exact fold_block (p := ⟨(a : Int), (b : Int)⟩) (inN_of ⟨by show (a : Int) ≠ b; omega, by show (0 : Int) ≤ a; omega, by show (0 : Int) ≤ b; omega, by show (a : Int) < _; omega, by show (b : Int) < _; omega⟩) h _ (RunOk.start l) (mem_gTo (by omega) hab hb)
  · have h' : meshAt l b a = true := (mesh_comm _ _).trans h
    exact (fold_block (p := ⟨(b : Int), (a : Int)⟩) (inN_of ⟨by show (b : Int) ≠ a; omega, by show (0 : Int) ≤ b; omega, by show (0 : Int) ≤ a; omega, by show (b : Int) < _; omega, by show (a : Int) < _; omega⟩) h' _ (RunOk.start l) (mem_gTo (by omega) hab ha)).symm
/-- the pair that is compared at i in try t -/
def sAt (p : List Int) (t i : Nat) : GPair := ⟨p.getD i 0, p.getD (p.length / 2 + (i + t) % (p.length - p.length / 2)) 0⟩
def sRow (p : List Int) (t : Nat) : Nat → List GPair
  | 0 => []
  | k + 1 => sRow p t k ++ [sAt p t k]
def sTo (p : List Int) : Nat → List GPair
  | 0 => []
  | t + 1 => sTo p t ++ sRow p t (p.length / 2)
theorem sRow_len (p : List Int) (t : Nat) : ∀ k, (sRow p t k).length = k
  | 0 => rfl
  | k + 1 => by show (sRow p t k ++ [_]).length = _; rw [List.length_append, sRow_len p t k]; rfl
theorem sTo_len (p : List Int) : ∀ t, (sTo p t).length = t * (p.length / 2)
  | 0 => by rw [Nat.zero_mul]; rfl
  | t + 1 => by show (sTo p t ++ sRow p t _).length = _; rw [List.length_append, sRow_len, sTo_len p t, Nat.succ_mul]
theorem mem_sRow {p : List Int} {t : Nat} {q : GPair} : ∀ {k : Nat}, q ∈ sRow p t k ↔ ∃ i, i < k ∧ q = sAt p t i
  | 0 => ⟨fun h => (nomatch h), fun ⟨i, h, _⟩ => by omega⟩
  | k + 1 => by
    show q ∈ sRow p t k ++ [_] ↔ _
    rw [List.mem_append, mem_sRow, List.mem_singleton]
    constructor
    · rintro (⟨i, h, e⟩ | e)
      · exact ⟨i, by omega, e⟩
      · exact ⟨k, by omega, e⟩
    · rintro ⟨i, h, e⟩
      by_cases hk : i = k
      · exact .inr (hk ▸ e)
      · exact .inl ⟨i, by omega, e⟩
theorem mem_sTo {p : List Int} {q : GPair} : ∀ {T : Nat}, q ∈ sTo p T ↔ ∃ t i, t < T ∧ i < p.length / 2 ∧ q = sAt p t i
  | 0 => ⟨fun h => (nomatch h), fun ⟨t, i, h, _⟩ => by omega⟩
  | T + 1 => by
    show q ∈ sTo p T ++ sRow p T _ ↔ _
    rw [List.mem_append, mem_sTo, mem_sRow]
    constructor
    · rintro (⟨t, i, h, h2, e⟩ | ⟨i, h, e⟩)
      · exact ⟨t, i, by omega, h2, e⟩
      · exact ⟨T, i, by omega, h, e⟩
    · rintro ⟨t, i, h, h2, e⟩
      by_cases hk : t = T
      · exact .inr ⟨i, h2, hk ▸ e⟩
      · exact .inl ⟨t, i, by omega, h2, e⟩
def splitOk (n : Nat) (s tries : Int) : Prop := n ≤ 16 ∧ (0 ≤ tries ∧ tries ≤ 16) ∧ 0 ≤ s ∧ s ≤ 1073741823
instance (n : Nat) (s tries : Int) : Decidable (splitOk n s tries) := by unfold splitOk; infer_instance
def pSplit (l : List GSpan) (s tries : Int) : List GPair := if splitOk l.length s tries then (runP l (sTo (outL s l.length) tries.toNat)).2 else []
def pSplitS (l : List GSpan) (s tries : Int) : Int := if splitOk l.length s tries then outS s l.length else s
theorem outL_yes {n : Nat} {s : Int} (hn : n ≤ 16) (hs : 0 ≤ s ∧ s ≤ 1073741823) : outL s n = rowF n (shufF n s) ∧ outS s n = shufS n s := by
  unfold outL outS
  rw [if_pos ⟨by omega, hs⟩, if_pos ⟨by omega, hs⟩, Int.toNat_natCast]
  exact ⟨rfl, rfl⟩
/-- a permutation's numbers -/
structure PermOk (n : Nat) (p : List Int) : Prop where
  len : p.length = n
  in_ : ∀ i, i < n → 0 ≤ p.getD i 0 ∧ p.getD i 0 < n
  inj : ∀ i k, i < n → k < n → p.getD i 0 = p.getD k 0 → i = k
theorem rowF_getD (n : Nat) (f : Nat → Nat) (i : Nat) (h : i < n) : (rowF n f).getD i 0 = (f i : Int) := by
  rw [List.getD_eq_getElem?_getD, rowF_at n f i h]; rfl
theorem shuf_perm {n : Nat} {s : Int} (hn : n ≤ 16) (hs : 0 ≤ s ∧ s ≤ 1073741823) : PermOk n (outL s n) := by
  obtain ⟨h1, h2⟩ := st_perm n s (by omega) hs (n - 1) (Nat.le_refl _)
  rw [(outL_yes hn hs).1]
  refine ⟨rowF_len _ _, fun i hi => ?_, fun i k hi hk e => ?_⟩
  · have := h1 i hi
    rw [rowF_getD n _ i hi]
    show 0 ≤ ((st n s (n - 1)).1 i : Int) ∧ ((st n s (n - 1)).1 i : Int) < n
    omega
  · rw [rowF_getD n _ i hi, rowF_getD n _ k hk] at e
    have e' : ((st n s (n - 1)).1 i : Int) = ((st n s (n - 1)).1 k : Int) := e
    exact h2 i k hi hk (by omega)
theorem sAt_in {n : Nat} {p : List Int} (h : PermOk n p) {t i : Nat} (hi : i < p.length / 2) : inN n (sAt p t i) = true := by
  have hl := h.len
  have hm := Nat.mod_lt (i + t) (show 0 < p.length - p.length / 2 by omega)
  have h1 := h.in_ i (by omega)
  have h2 := h.in_ (p.length / 2 + (i + t) % (p.length - p.length / 2)) (by omega)
  refine inN_of ⟨fun e => ?_, h1.1, h2.1, h1.2, h2.2⟩
  have := h.inj i _ (by omega) (by omega) e
  omega
/-- with as many tries as there are right ones, all are compared -/
theorem all_tried {n : Nat} {p : List Int} (h : PermOk n p) {T : Nat} (hT : n ≤ T) (l : List GSpan) (hl : l.length = n) : 0 < (runP l (sTo p T)).2.length ↔ ∃ i k, i < n / 2 ∧ n / 2 ≤ k ∧ k < n ∧ meshAt l (p.getD i 0).toNat (p.getD k 0).toNat = true := by
  have hpl := h.len
  rw [run_any]
  constructor
  · rintro ⟨q, hq, _, hm⟩
    obtain ⟨t, i, ht, hi, rfl⟩ := mem_sTo.1 hq
    have hml := Nat.mod_lt (i + t) (show 0 < p.length - p.length / 2 by omega)
    exact ⟨i, p.length / 2 + (i + t) % (p.length - p.length / 2), by omega, by omega, by omega, hm⟩
  · rintro ⟨i, k, hi, hk, hkn, hm⟩
    have key : ∃ t, t < T ∧ (i + t) % (n - n / 2) = k - n / 2 := by
      by_cases hik : i ≤ k - n / 2
      · exact ⟨k - n / 2 - i, by omega, by rw [show i + (k - n / 2 - i) = k - n / 2 by omega]; exact Nat.mod_eq_of_lt (by omega)⟩
      · exact ⟨k - n / 2 + (n - n / 2) - i, by omega, by rw [show i + (k - n / 2 + (n - n / 2) - i) = k - n / 2 + (n - n / 2) by omega, Nat.add_mod_right]; exact Nat.mod_eq_of_lt (by omega)⟩
    obtain ⟨t, ht, e⟩ := key
    have e2 : sAt p t i = ⟨p.getD i 0, p.getD k 0⟩ := by
      unfold sAt
      rw [hpl, e, show n / 2 + (k - n / 2) = k by omega]
    refine ⟨sAt p t i, mem_sTo.2 ⟨t, i, ht, by omega, rfl⟩, by rw [hl]; exact sAt_in h (by omega), ?_⟩
    rw [e2]; exact hm
def pPairsOk (l : List GSpan) (ps : List GPair) : Bool := decide ((runP l ps).2.length = ps.length)
theorem run_len (l : List GSpan) : ∀ (ps : List GPair) (s : List Bool × List GPair), (foldP l s ps).2.length ≤ s.2.length + ps.length
  | [], s => Nat.le_refl _
  | p :: ps, s => by
    have h := run_len l ps (stepP l s p)
    have h2 : (stepP l s p).2.length ≤ s.2.length + 1 := by
      unfold stepP
      split
      · rw [List.length_append]; exact Nat.le_refl _
      · omega
    show (foldP l (stepP l s p) ps).2.length ≤ _
    simp only [List.length_cons]; omega
/-- all that was examined was taken -/
theorem all_taken {l : List GSpan} {ps : List GPair} : ∀ {k : Nat}, k ≤ ps.length → (∀ i, i < k → takes l (runP l (ps.take i)).1 (ps.getD i prD) = true) → (runP l (ps.take k)).2 = ps.take k
  | 0, _, _ => rfl
  | k + 1, hk, h => by
    rw [runP_take l ps (by omega), step_yes (h k (by omega)), take_snoc prD ps (by omega)]
    show (runP l (ps.take k)).2 ++ _ = _
    rw [all_taken (by omega) (fun i hi => h i (by omega))]
theorem ok_all {l : List GSpan} {ps : List GPair} (h : ∀ i, i < ps.length → takes l (runP l (ps.take i)).1 (ps.getD i prD) = true) : pPairsOk l ps = true := by
  have := all_taken (Nat.le_refl _) h
  rw [List.take_of_length_le (Nat.le_refl _)] at this
  exact decide_eq_true (by rw [this])
theorem foldP_append (l : List GSpan) (s : List Bool × List GPair) (a b : List GPair) : foldP l s (a ++ b) = foldP l (foldP l s a) b := by unfold foldP; rw [List.foldl_append]
theorem ok_not {l : List GSpan} {ps : List GPair} {i : Nat} (hi : i < ps.length) (h : takes l (runP l (ps.take i)).1 (ps.getD i prD) = false) : pPairsOk l ps = false := by
  refine decide_eq_false fun e => ?_
  have e1 : ps = ps.take (i + 1) ++ ps.drop (i + 1) := (List.take_append_drop _ _).symm
  have e2 : runP l ps = foldP l (runP l (ps.take (i + 1))) (ps.drop (i + 1)) := by
    conv => lhs; rw [e1]
    exact foldP_append l _ _ _
  have h1 := run_len l (ps.drop (i + 1)) (runP l (ps.take (i + 1)))
  rw [← e2, e, runP_take l ps hi, step_no h] at h1
  have h3 : (runP l (ps.take i)).2.length ≤ 0 + (ps.take i).length := run_len l (ps.take i) (List.replicate l.length false, [])
  rw [List.length_take] at h3
  rw [List.length_drop] at h1
  omega
theorem ok_le {l : List GSpan} {ps : List GPair} (h : pPairsOk l ps = true) : ps.length ≤ most pMesh l := by
  have := run_le l ps
  rw [of_decide_eq_true h] at this
  exact this
/-- what was taken is taken again -/
theorem run_again {l : List GSpan} : ∀ (ps : List GPair) {s : List Bool × List GPair}, foldP l (List.replicate l.length false, []) s.2 = s → foldP l (List.replicate l.length false, []) (foldP l s ps).2 = foldP l s ps
  | [], _, h => h
  | p :: ps, s, h => by
    refine run_again ps ?_
    by_cases ht : takes l s.1 p = true
    · rw [step_yes ht]
      show foldP l _ (s.2 ++ [p]) = _
      rw [foldP_snoc, h, step_yes ht]
    · rw [step_no (by simpa using ht)]; exact h
theorem taken_ok (l : List GSpan) (ps : List GPair) : pPairsOk l (runP l ps).2 = true := by
  refine decide_eq_true ?_
  have := run_again (l := l) ps (s := (List.replicate l.length false, [])) rfl
  show (foldP l _ (foldP l _ ps).2).2.length = _
  rw [this]
  rfl
def pBest (l : List GSpan) : Int := if l.length ≤ 10 then ((most pMesh l : Nat) : Int) else 0
/-- the spans that are not used -/
def frl : List GSpan → List Bool → List GSpan
  | x :: l, b :: u => if b = true then frl l u else x :: frl l u
  | _, _ => []
def fr (l : List GSpan) (u : List Bool) (f : Nat) : List GSpan := frl (l.drop f) (u.drop f)
/-- how many of the first k are not used -/
def cf (u : List Bool) : Nat → Nat
  | 0 => 0
  | k + 1 => cf u k + if u.getD k false = true then 0 else 1
theorem cf_cons (b : Bool) (u : List Bool) : ∀ k, cf (b :: u) (k + 1) = (if b = true then 0 else 1) + cf u k
  | 0 => by show 0 + _ = _ + 0; rw [Nat.zero_add, Nat.add_zero]; rfl
  | k + 1 => by
    show cf (b :: u) (k + 1) + (if (b :: u).getD (k + 1) false = true then 0 else 1) = _
    rw [cf_cons b u k, Nat.add_assoc]; rfl
theorem fr_end {l : List GSpan} {u : List Bool} {f : Nat} (h : l.length ≤ f) : fr l u f = [] := by
  unfold fr
  rw [List.drop_of_length_le h]
  cases u.drop f <;> rfl
theorem fr_cons {l : List GSpan} {u : List Bool} {f : Nat} (h : f < l.length) (hu : u.length = l.length) : fr l u f = if u.getD f false = true then fr l u (f + 1) else l.getD f spD :: fr l u (f + 1) := by
  unfold fr
  rw [List.drop_eq_getElem_cons h, List.drop_eq_getElem_cons (show f < u.length by omega)]
  show (if u[f] = true then _ else _) = _
  rw [show u.getD f false = u[f] by simp [List.getD, show f < u.length by omega], show l.getD f spD = l[f] by simp [List.getD, h]]
theorem frl_at : ∀ {l : List GSpan} {u : List Bool} {k : Nat} {x : GSpan}, l.length = u.length → l[k]? = some x → u[k]? = some false → (frl l u)[cf u k]? = some x ∧ frl l (u.set k true) = (frl l u).eraseIdx (cf u k)
  | [], _, k, _, _, hl, _ => by simp at hl
  | _ :: _, [], _, _, _, _, hu => by simp at hu
  | y :: l, b :: u, 0, x, h, hl, hu => by
    obtain rfl : y = x := by simpa using hl
    obtain rfl : b = false := by simpa using hu
    exact ⟨rfl, rfl⟩
  | y :: l, b :: u, k + 1, x, h, hl, hu => by
    have ih := frl_at (l := l) (u := u) (k := k) (x := x) (by simpa using h) (by simpa using hl) (by simpa using hu)
    rw [cf_cons]
    cases b with
    | true =>
      rw [if_pos rfl, Nat.zero_add]
      exact ih
    | false =>
      rw [if_neg Bool.false_ne_true, Nat.add_comm]
      refine ⟨ih.1, ?_⟩
      show (y :: frl l (u.set k true)) = y :: (frl l u).eraseIdx (cf u k)
      rw [ih.2]
theorem frl_len : ∀ {l : List GSpan} {u : List Bool}, l.length = u.length → (frl l u).length = cf u u.length
  | [], [], _ => rfl
  | [], _ :: _, h => by simp at h
  | _ :: _, [], h => by simp at h
  | x :: l, b :: u, h => by
    have ih := frl_len (l := l) (u := u) (by simpa using h)
    show _ = cf (b :: u) (u.length + 1)
    rw [cf_cons, ← ih]
    cases b with
    | true => rw [if_pos rfl, Nat.zero_add]; rfl
    | false => rw [if_neg Bool.false_ne_true, Nat.add_comm]; rfl
/-- the best of the pairs of number f with those from f + 1 on, the first k of them -/
def bTo (l : List GSpan) (u : List Bool) (f k : Nat) : Nat := mTo pMesh (most pMesh) (l.getD f spD) (fr l u (f + 1)) (cf (u.drop (f + 1)) k)
theorem bTo_zero (l : List GSpan) (u : List Bool) (f : Nat) : bTo l u f 0 = most pMesh (fr l u (f + 1)) := rfl
theorem drop_getD (u : List Bool) (f k : Nat) : (u.drop f).getD k false = u.getD (f + k) false := by
  rw [List.getD_eq_getElem?_getD, List.getD_eq_getElem?_getD, List.getElem?_drop]
theorem bTo_used {l : List GSpan} {u : List Bool} {f k : Nat} (h : u.getD (f + 1 + k) false = true) : bTo l u f (k + 1) = bTo l u f k := by
  unfold bTo
  show mTo _ _ _ _ (cf _ k + if _ then 0 else 1) = _
  rw [drop_getD, if_pos h]; rfl
theorem bTo_free {l : List GSpan} {u : List Bool} {f k : Nat} (hu : u.length = l.length) (hk : f + 1 + k < l.length) (h : u.getD (f + 1 + k) false = false) : bTo l u f (k + 1) = if pMesh (l.getD f spD) (l.getD (f + 1 + k) spD) = true then max (bTo l u f k) (1 + most pMesh (fr l (u.set (f + 1 + k) true) (f + 1))) else bTo l u f k := by
  have h1 := frl_at (l := l.drop (f + 1)) (u := u.drop (f + 1)) (k := k) (x := l.getD (f + 1 + k) spD) (by rw [List.length_drop, List.length_drop, hu]) (by rw [List.getElem?_drop]; simp [List.getD, hk]) (by
    rw [List.getElem?_drop]
    rw [List.getD_eq_getElem?_getD, List.getElem?_eq_getElem (by omega)] at h
    rw [List.getElem?_eq_getElem (by omega)]
    exact congrArg some h)
  have e2 : fr l (u.set (f + 1 + k) true) (f + 1) = (fr l u (f + 1)).eraseIdx (cf (u.drop (f + 1)) k) := by
    unfold fr
    rw [List.drop_set, if_neg (by omega), show f + 1 + k - (f + 1) = k by omega]
    exact h1.2
  unfold bTo
  show mTo _ _ _ _ (cf _ k + if _ then 0 else 1) = _
  rw [drop_getD, if_neg (by rw [h]; exact Bool.false_ne_true), mTo_some _ _ _ _ _ _ (show (fr l u (f + 1))[cf (u.drop (f + 1)) k]? = _ from h1.1), e2]
theorem bTo_end {l : List GSpan} {u : List Bool} {f : Nat} (hu : u.length = l.length) (hf : f < l.length) (h : u.getD f false = false) : bTo l u f (l.length - (f + 1)) = most pMesh (fr l u f) := by
  rw [fr_cons hf hu, if_neg (by rw [h]; exact Bool.false_ne_true), most_cons]
  unfold bTo
  congr 1
  unfold fr
  rw [frl_len (by rw [List.length_drop, List.length_drop, hu]), List.length_drop, hu]
theorem fr_start (l : List GSpan) : fr l (List.replicate l.length false) 0 = l := by
  have : ∀ l : List GSpan, frl l (List.replicate l.length false) = l := by
    intro l
    induction l with
    | nil => rfl
    | cons x l ih => show (if false = true then _ else x :: frl l (List.replicate l.length false)) = _; rw [if_neg Bool.false_ne_true, ih]
  exact this l
theorem fr_len (l : List GSpan) (u : List Bool) (f : Nat) : (fr l u f).length ≤ l.length := by
  have : ∀ (l : List GSpan) (u : List Bool), (frl l u).length ≤ l.length := by
    intro l
    induction l with
    | nil => intro u; exact Nat.le_refl _
    | cons x l ih =>
      intro u
      cases u with
      | nil => exact Nat.zero_le _
      | cons b u =>
        have := ih u
        show (if b = true then _ else _ : List GSpan).length ≤ _
        split
        · simp only [List.length_cons]; omega
        · simp only [List.length_cons]; omega
  exact Nat.le_trans (this _ _) (by rw [List.length_drop]; omega)
end Tr
end Go.Proofs.YthkjbjgpdapnpaaDoor

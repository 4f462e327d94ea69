/- The fields of a line, joined by single spaces, have the same fields. No program. -/
import Derived.Test.YtjgolnmbnkgbdaaDoorFields
namespace Go.Proofs.YtjgolnmbnkgbdaaDoor
open Go.RowKit
namespace Spl
open Own
/-- one byte more: the fields that have ended, and the field under way -/
def stepC (p : List (List UInt8) × List UInt8) (c : UInt8) : List (List UInt8) × List UInt8 :=
  if c.toNat = 32 then ((if p.2 = [] then p.1 else p.1 ++ [p.2]), []) else (p.1, p.2 ++ [c])
def run (l : List UInt8) : List (List UInt8) × List UInt8 := l.foldl stepC ([], [])
theorem run_snoc (l : List UInt8) (c : UInt8) : run (l ++ [c]) = stepC (run l) c := by simp [run]
theorem run_append (a b : List UInt8) : run (a ++ b) = b.foldl stepC (run a) := by simp [run]
theorem sub_self (s : ByteArray) (i : Nat) : sub s i i = [] := by simp [sub]
theorem sub_len (s : ByteArray) (a b : Nat) (h : b ≤ s.size) : (sub s a b).length = b - a := by
  simp only [sub, List.length_take, List.length_drop]
  have : s.data.toList.length = s.size := by simp
  omega
theorem sub_snoc (s : ByteArray) (a k : Nat) (h : k < s.size) (ha : a ≤ k) : sub s a (k + 1) = sub s a k ++ [s.data.toList.getD k 0] := by
  have hl : s.data.toList.length = s.size := by simp
  have hk : k < s.data.toList.length := by omega
  unfold sub
  rw [show k + 1 - a = (k - a) + 1 by omega, List.take_succ_eq_append_getElem (by rw [List.length_drop]; omega)]
  congr 1
  simp only [List.getElem_drop, List.cons.injEq, and_true]
  have e : a + (k - a) = k := by omega
  simp only [e]
  simp [List.getD, List.getElem?_eq_getElem hk]
theorem take_get (s : ByteArray) (k : Nat) (h : k < s.size) : s.data.toList.take (k + 1) = s.data.toList.take k ++ [s.data.toList.getD k 0] := by
  have hk : k < s.data.toList.length := by simpa using h
  rw [List.take_succ_eq_append_getElem hk]
  congr 1
  simp [List.getD, List.getElem?_eq_getElem hk]
theorem run_fs (s : ByteArray) : ∀ k, k ≤ s.size → run (s.data.toList.take k) = (fs s k, sub s (st s k) k)
  | 0, _ => by simp [run, fs, st, sub]
  | k + 1, h => by
    have ih := run_fs s k (by omega)
    have hst := st_le s k
    rw [take_get s k (by omega), run_snoc, ih]
    unfold stepC
    by_cases h32 : (s.data.toList.getD k 0).toNat = 32
    · rw [if_pos h32]
      simp only [fs, st, if_pos h32, sub_self]
      by_cases hlt : st s k < k
      · have hne : sub s (st s k) k ≠ [] := fun e => by have := sub_len s (st s k) k (by omega); rw [e] at this; simp at this; omega
        rw [if_neg hne, if_pos hlt]
      · have he : sub s (st s k) k = [] := by rw [show st s k = k by omega, sub_self]
        rw [if_pos he, if_neg hlt]
    · rw [if_neg h32]
      simp only [fs, st, if_neg h32]
      rw [sub_snoc s (st s k) k (by omega) hst]
def ends (p : List (List UInt8) × List UInt8) : List (List UInt8) := if p.2 = [] then p.1 else p.1 ++ [p.2]
theorem fin_run (s : ByteArray) : fin s = ends (run s.data.toList) := by
  have h := run_fs s s.size (Nat.le_refl _)
  rw [List.take_of_length_le (by simp)] at h
  rw [h]
  unfold fin ends
  have hst := st_le s s.size
  by_cases hlt : st s s.size < s.size
  · have hne : sub s (st s s.size) s.size ≠ [] := fun e => by have := sub_len s (st s s.size) s.size (Nat.le_refl _); rw [e] at this; simp at this; omega
    rw [if_pos hlt, if_neg hne]
  · have he : sub s (st s s.size) s.size = [] := by rw [show st s s.size = s.size by omega, sub_self]
    rw [if_neg hlt, if_pos he]
/-- a field: not empty, without a space, of bytes from 33 to 126 -/
def Fld (f : List UInt8) : Prop := f ≠ [] ∧ ∀ c ∈ f, 33 ≤ c.toNat ∧ c.toNat ≤ 126
theorem run_good (l : List UInt8) (h : ∀ c ∈ l, 32 ≤ c.toNat ∧ c.toNat ≤ 126) : (∀ f ∈ (run l).1, Fld f) ∧ ∀ c ∈ (run l).2, 33 ≤ c.toNat ∧ c.toNat ≤ 126 := by
  suffices H : ∀ (l : List UInt8) (p : List (List UInt8) × List UInt8), (∀ c ∈ l, 32 ≤ c.toNat ∧ c.toNat ≤ 126) → (∀ f ∈ p.1, Fld f) → (∀ c ∈ p.2, 33 ≤ c.toNat ∧ c.toNat ≤ 126) →
      (∀ f ∈ (l.foldl stepC p).1, Fld f) ∧ ∀ c ∈ (l.foldl stepC p).2, 33 ≤ c.toNat ∧ c.toNat ≤ 126 from H l ([], []) h (by simp) (by simp)
  intro l
  induction l with
  | nil => intro p _ h1 h2; exact ⟨h1, h2⟩
  | cons c l ih =>
    intro p hc h1 h2
    rw [List.foldl_cons]
    refine ih _ (fun d hd => hc d (by simp [hd])) ?_ ?_
    · intro f hf
      unfold stepC at hf
      by_cases h32 : c.toNat = 32
      · rw [if_pos h32] at hf
        by_cases he : p.2 = []
        · simp only [if_pos he] at hf; exact h1 f hf
        · simp only [if_neg he] at hf
          rcases List.mem_append.1 hf with hf | hf
          · exact h1 f hf
          · simp only [List.mem_cons, List.not_mem_nil, or_false] at hf
            subst hf; exact ⟨he, h2⟩
      · rw [if_neg h32] at hf; exact h1 f hf
    · intro d hd
      unfold stepC at hd
      by_cases h32 : c.toNat = 32
      · rw [if_pos h32] at hd; simp at hd
      · rw [if_neg h32] at hd
        rcases List.mem_append.1 hd with hd | hd
        · exact h2 d hd
        · simp only [List.mem_cons, List.not_mem_nil, or_false] at hd
          subst hd
          have := hc d (by simp)
          omega
theorem okAt_mem {s : ByteArray} (h : ∀ i, i < s.size → okAt s i) : ∀ c ∈ s.data.toList, 32 ≤ c.toNat ∧ c.toNat ≤ 126 := by
  intro c hc
  obtain ⟨i, hi, rfl⟩ := List.getElem_of_mem hc
  have := h i (by simpa using hi)
  unfold okAt at this
  simpa [List.getD, List.getElem?_eq_getElem hi] using this
theorem mem_okAt {s : ByteArray} (h : ∀ c ∈ s.data.toList, 32 ≤ c.toNat ∧ c.toNat ≤ 126) : ∀ i, i < s.size → okAt s i := by
  intro i hi
  have hi' : i < s.data.toList.length := by simpa using hi
  have := h _ (List.getElem_mem hi')
  unfold okAt
  simpa [List.getD, List.getElem?_eq_getElem hi'] using this
theorem fin_fields {s : ByteArray} (h : ∀ i, i < s.size → okAt s i) : ∀ f ∈ fin s, Fld f := by
  have hg := run_good _ (okAt_mem h)
  rw [fin_run]
  unfold ends
  intro f hf
  by_cases he : (run s.data.toList).2 = []
  · rw [if_pos he] at hf; exact hg.1 f hf
  · rw [if_neg he] at hf
    rcases List.mem_append.1 hf with hf | hf
    · exact hg.1 f hf
    · simp only [List.mem_cons, List.not_mem_nil, or_false] at hf
      subst hf; exact ⟨he, hg.2⟩
theorem run_short (l : List UInt8) : (∀ f ∈ (run l).1, f.length ≤ l.length) ∧ (run l).2.length ≤ l.length := by
  suffices H : ∀ (l : List UInt8) (p : List (List UInt8) × List UInt8) (m : Nat), (∀ f ∈ p.1, f.length ≤ m) → p.2.length ≤ m →
      (∀ f ∈ (l.foldl stepC p).1, f.length ≤ m + l.length) ∧ (l.foldl stepC p).2.length ≤ m + l.length by
    have := H l ([], []) 0 (by simp) (by simp)
    simpa [run] using this
  intro l
  induction l with
  | nil => intro p m h1 h2; exact ⟨h1, h2⟩
  | cons c l ih =>
    intro p m h1 h2
    rw [List.foldl_cons, List.length_cons, show m + (l.length + 1) = (m + 1) + l.length by omega]
    refine ih _ (m + 1) ?_ ?_
    · intro f hf
      unfold stepC at hf
      by_cases h32 : c.toNat = 32
      · rw [if_pos h32] at hf
        by_cases he : p.2 = []
        · simp only [if_pos he] at hf; have := h1 f hf; omega
        · simp only [if_neg he] at hf
          rcases List.mem_append.1 hf with hf | hf
          · have := h1 f hf; omega
          · simp only [List.mem_cons, List.not_mem_nil, or_false] at hf
            subst hf; omega
      · rw [if_neg h32] at hf; have := h1 f hf; omega
    · unfold stepC
      by_cases h32 : c.toNat = 32
      · rw [if_pos h32]; simp
      · rw [if_neg h32]; simp; omega
theorem fin_short {s : ByteArray} (h : s.size ≤ 600) : ∀ f ∈ fin s, f.length ≤ 600 := by
  have hg := run_short s.data.toList
  have hl : s.data.toList.length = s.size := by simp
  rw [hl] at hg
  rw [fin_run]
  unfold ends
  intro f hf
  by_cases he : (run s.data.toList).2 = []
  · rw [if_pos he] at hf; have := hg.1 f hf; omega
  · rw [if_neg he] at hf
    rcases List.mem_append.1 hf with hf | hf
    · have := hg.1 f hf; omega
    · simp only [List.mem_cons, List.not_mem_nil, or_false] at hf
      subst hf; omega
theorem RetF.two (s : ByteArray) : ∃ (l : List (List UInt8)) (b : Bool), ((b = true ∧ (∀ f ∈ l, Fld f ∧ f.length ≤ 600) ∧ l.length ≤ 24) ∨ (b = false ∧ l = [])) ∧ ∀ w e w', RetF s w e w' → ∃ v, e = .returned (.tuple #[v, .bool b]) ∧ w'.ownsRow w.heap.size 9 1 v l.length (strs l) ∧ Below w.heap.size w w' := by
  by_cases h : s.size ≤ 600 ∧ (∀ i, i < s.size → okAt s i) ∧ (fin s).length ≤ 24
  · refine ⟨fin s, true, .inl ⟨rfl, fun f hf => ⟨fin_fields h.2.1 f hf, fin_short h.1 f hf⟩, h.2.2⟩, ?_⟩
    rintro w e w' ⟨v, l, b, rfl, ho, hb, ⟨_, _, _, rfl, rfl⟩ | ⟨hn, _⟩⟩
    · exact ⟨v, rfl, ho, hb⟩
    · exact absurd h hn
  · refine ⟨[], false, .inr ⟨rfl, rfl⟩, ?_⟩
    rintro w e w' ⟨v, l, b, rfl, ho, hb, ⟨h1, h2, h3, _⟩ | ⟨_, rfl, rfl⟩⟩
    · exact absurd ⟨h1, h2, h3⟩ h
    · exact ⟨v, rfl, ho, hb⟩
/-- the fields, each with a space behind it -/
def joinS (l : List (List UInt8)) : List UInt8 := l.flatMap fun f => f ++ [32]
theorem joinS_snoc (l : List (List UInt8)) (f : List UInt8) : joinS (l ++ [f]) = joinS l ++ f ++ [32] := by simp [joinS]
theorem fold_field (f : List UInt8) (p : List (List UInt8) × List UInt8) (h : ∀ c ∈ f, 33 ≤ c.toNat ∧ c.toNat ≤ 126) : f.foldl stepC p = (p.1, p.2 ++ f) := by
  induction f generalizing p with
  | nil => simp
  | cons c f ih =>
    have hc := h c (by simp)
    rw [List.foldl_cons, ih _ (fun d hd => h d (by simp [hd]))]
    unfold stepC
    rw [if_neg (by omega)]
    simp
theorem run_join (l : List (List UInt8)) (h : ∀ f ∈ l, Fld f) : run (joinS l) = (l, []) := by
  suffices H : ∀ (l d : List (List UInt8)), (∀ f ∈ l, Fld f) → (joinS l).foldl stepC (d, []) = (d ++ l, []) by
    have := H l [] h
    simpa [run] using this
  intro l
  induction l with
  | nil => intro d _; simp [joinS]
  | cons f l ih =>
    intro d hf
    have hh := hf f (by simp)
    have e : joinS (f :: l) = f ++ ([32] ++ joinS l) := by simp [joinS]
    rw [e, List.foldl_append, fold_field f _ hh.2, List.foldl_append]
    have e2 : [32].foldl stepC (d, [] ++ f) = (d ++ [f], []) := by
      simp only [List.foldl_cons, List.foldl_nil, List.nil_append]
      unfold stepC
      rw [if_pos (by rfl)]
      simp [hh.1]
    rw [e2, ih _ (fun g hg => hf g (by simp [hg]))]
    simp
theorem join_bytes (l : List (List UInt8)) (h : ∀ f ∈ l, Fld f) : ∀ c ∈ joinS l, 32 ≤ c.toNat ∧ c.toNat ≤ 126 := by
  intro c hc
  simp only [joinS, List.mem_flatMap] at hc
  obtain ⟨f, hf, hc⟩ := hc
  rcases List.mem_append.1 hc with hc | hc
  · have := (h f hf).2 c hc; omega
  · simp only [List.mem_cons, List.not_mem_nil, or_false] at hc
    subst hc; decide
theorem fin_join (l : List (List UInt8)) (h : ∀ f ∈ l, Fld f) : fin ⟨(joinS l).toArray⟩ = l := by
  rw [fin_run]
  show ends (run (joinS l)) = l
  rw [run_join l h]; rfl
/-- SplitFields again, of the joined fields -/
theorem again {l : List (List UInt8)} (h : ∀ f ∈ l, Fld f) (h24 : l.length ≤ 24) (hs : (ByteArray.mk (joinS l).toArray).size ≤ 600) {w w' : World} {e : Ending} (hr : RetF ⟨(joinS l).toArray⟩ w e w') :
    ∃ v, e = .returned (.tuple #[v, .bool true]) ∧ w'.ownsRow w.heap.size 9 1 v l.length (strs l) ∧ Below w.heap.size w w' := by
  have hok : ∀ i, i < (ByteArray.mk (joinS l).toArray).size → okAt ⟨(joinS l).toArray⟩ i := mem_okAt (join_bytes l h)
  obtain ⟨v, l2, b, rfl, ho, hb, ⟨_, _, _, rfl, rfl⟩ | ⟨hn, _⟩⟩ := hr
  · rw [fin_join l h] at ho
    exact ⟨v, rfl, ho, hb⟩
  · exact absurd ⟨hs, hok, by rw [fin_join l h]; exact h24⟩ hn
theorem join_len (l : List (List UInt8)) (m : Nat) (h : ∀ f ∈ l, f.length ≤ m) : (joinS l).length ≤ l.length * (m + 1) := by
  induction l with
  | nil => simp [joinS]
  | cons f l ih =>
    have e : joinS (f :: l) = f ++ ([32] ++ joinS l) := by simp [joinS]
    rw [e]
    have h1 := h f (by simp)
    have h2 := ih (fun g hg => h g (by simp [hg]))
    simp only [List.length_append, List.length_cons, List.length_nil]
    rw [Nat.add_mul]
    omega
theorem joined (a b : List UInt8) : (ByteArray.mk a.toArray ++ ByteArray.mk b.toArray) = ByteArray.mk (a ++ b).toArray := by
  apply ByteArray.ext
  simp
theorem join_next (l : List (List UInt8)) (i : Nat) (h : i < l.length) (hs : ∀ f ∈ l, f.length ≤ 600) (h24 : l.length ≤ 24) :
    ∃ f : ByteArray, (strs l)[i]? = some (.string f) ∧ f.size ≤ 600 ∧ (ByteArray.mk (joinS (l.take i)).toArray).size ≤ 24 * 601 ∧
      (ByteArray.mk (joinS (l.take i)).toArray ++ f) ++ ByteArray.mk #[32] = ByteArray.mk (joinS (l.take (i + 1))).toArray := by
  refine ⟨⟨(l[i]).toArray⟩, by simp [strs, h], ?_, ?_, ?_⟩
  · have h1 := hs (l[i]) (List.getElem_mem _)
    have h2 : (ByteArray.mk (l[i]).toArray).size = (l[i]).length := by show (l[i]).toArray.size = _; simp
    omega
  · have h1 := join_len (l.take i) 600 (fun f hf => hs f (List.mem_of_mem_take hf))
    have h2 : (ByteArray.mk (joinS (l.take i)).toArray).size = (joinS (l.take i)).length := by show (joinS (l.take i)).toArray.size = _; simp
    rw [h2]
    refine Nat.le_trans h1 (Nat.mul_le_mul_right _ ?_)
    rw [List.length_take]; omega
  · have e : (ByteArray.mk #[32]) = ByteArray.mk [32].toArray := rfl
    rw [e, List.take_succ_eq_append_getElem h, joinS_snoc]
    apply ByteArray.ext
    simp
end Spl
end Go.Proofs.YtjgolnmbnkgbdaaDoor

/- The greatest number of disjoint pairs of a list that fit. No program. -/
import Derived.WalkKit
import Derived.RowKit
namespace Go.Proofs.YthkjbjgpdapnpaaDoor
namespace Tr
section
variable {α β : Type} (fit : α → α → Bool)
def mTo (f : List α → Nat) (x : α) (xs : List α) : Nat → Nat
  | 0 => f xs
  | k + 1 => match xs[k]? with
    | some y => if fit x y = true then max (mTo f x xs k) (1 + f (xs.eraseIdx k)) else mTo f x xs k
    | none => mTo f x xs k
def mostF : Nat → List α → Nat
  | 0, _ => 0
  | _ + 1, [] => 0
  | n + 1, x :: xs => mTo fit (mostF n) x xs xs.length
def most (l : List α) : Nat := mostF fit l.length l
theorem mTo_none (f : List α → Nat) (x : α) (xs : List α) (k : Nat) (h : xs[k]? = none) : mTo fit f x xs (k + 1) = mTo fit f x xs k := by
  show (match xs[k]? with | some y => _ | none => _) = _
  rw [h]
theorem mTo_some (f : List α → Nat) (x y : α) (xs : List α) (k : Nat) (h : xs[k]? = some y) : mTo fit f x xs (k + 1) = if fit x y = true then max (mTo fit f x xs k) (1 + f (xs.eraseIdx k)) else mTo fit f x xs k := by
  show (match xs[k]? with | some y => _ | none => _) = _
  rw [h]
theorem mTo_congr (f g : List α → Nat) (x : α) (xs : List α) (h : ∀ ys : List α, ys.length ≤ xs.length → f ys = g ys) : ∀ k, mTo fit f x xs k = mTo fit g x xs k
  | 0 => h xs (Nat.le_refl _)
  | k + 1 => by
    cases e : xs[k]? with
    | none => rw [mTo_none _ _ _ _ _ e, mTo_none _ _ _ _ _ e, mTo_congr f g x xs h k]
    | some y => rw [mTo_some _ _ _ _ _ _ e, mTo_some _ _ _ _ _ _ e, mTo_congr f g x xs h k, h _ (List.length_eraseIdx_le _ _)]
theorem mostF_stable : ∀ (n m : Nat) (l : List α), l.length ≤ n → l.length ≤ m → mostF fit n l = mostF fit m l
  | 0, 0, _, _, _ => rfl
  | 0, _ + 1, [], _, _ => rfl
  | _ + 1, 0, [], _, _ => rfl
  | _ + 1, _ + 1, [], _, _ => rfl
  | n + 1, m + 1, x :: xs, h1, h2 => by
    simp only [List.length_cons] at h1 h2
    exact mTo_congr fit _ _ x xs (fun ys hy => mostF_stable n m ys (by omega) (by omega)) _
theorem most_nil : most fit [] = 0 := rfl
theorem most_cons (x : α) (xs : List α) : most fit (x :: xs) = mTo fit (most fit) x xs xs.length := by
  show mTo fit (mostF fit xs.length) x xs xs.length = _
  exact mTo_congr fit _ _ x xs (fun ys hy => mostF_stable fit _ _ ys hy (Nat.le_refl _)) _
theorem mTo_le (f : List α → Nat) (x : α) (xs : List α) (B : Nat) (h0 : f xs ≤ B) (h : ∀ (j : Nat) (y : α), xs[j]? = some y → fit x y = true → 1 + f (xs.eraseIdx j) ≤ B) : ∀ k, mTo fit f x xs k ≤ B
  | 0 => h0
  | k + 1 => by
    have ih := mTo_le f x xs B h0 h k
    cases e : xs[k]? with
    | none => rw [mTo_none _ _ _ _ _ e]; exact ih
    | some y =>
      rw [mTo_some _ _ _ _ _ _ e]
      split
      · rename_i hf
        exact Nat.max_le.2 ⟨ih, h k y e hf⟩
      · exact ih
theorem mTo_base (f : List α → Nat) (x : α) (xs : List α) : ∀ k, f xs ≤ mTo fit f x xs k
  | 0 => Nat.le_refl _
  | k + 1 => by
    have ih := mTo_base f x xs k
    cases e : xs[k]? with
    | none => rw [mTo_none _ _ _ _ _ e]; exact ih
    | some y =>
      rw [mTo_some _ _ _ _ _ _ e]
      split
      · exact Nat.le_trans ih (Nat.le_max_left _ _)
      · exact ih
theorem mTo_ge (f : List α → Nat) (x y : α) (xs : List α) (j : Nat) (hj : xs[j]? = some y) (hf : fit x y = true) : ∀ k, j < k → 1 + f (xs.eraseIdx j) ≤ mTo fit f x xs k
  | k + 1, hk => by
    by_cases e : j = k
    · subst e
      rw [mTo_some _ _ _ _ _ _ hj, if_pos hf]
      exact Nat.le_max_right _ _
    · have ih := mTo_ge f x y xs j hj hf k (by omega)
      cases e : xs[k]? with
      | none => rw [mTo_none _ _ _ _ _ e]; exact ih
      | some y =>
        rw [mTo_some _ _ _ _ _ _ e]
        split
        · exact Nat.le_trans ih (Nat.le_max_left _ _)
        · exact ih
theorem erase_perm (xs : List α) (k : Nat) (y : α) (h : xs[k]? = some y) : (y :: xs.eraseIdx k).Perm xs := by
  induction xs generalizing k with
  | nil => simp at h
  | cons x xs ih =>
    cases k with
    | zero => obtain rfl := Option.some.inj h; exact .refl _
    | succ k => exact (List.Perm.swap _ _ _).trans ((ih k h).cons x)
theorem erase_map (g : β → α) : ∀ (xs : List β) (k : Nat), (xs.map g).eraseIdx k = (xs.eraseIdx k).map g
  | [], _ => rfl
  | _ :: _, 0 => rfl
  | x :: xs, k + 1 => congrArg (g x :: ·) (erase_map g xs k)
/-- whatever meets each pair that fits is no fewer -/
theorem most_cover (m : α → Bool) : ∀ (n : Nat) (l : List α), l.length ≤ n → (∀ a ∈ l, ∀ b ∈ l, fit a b = true → m a = true ∨ m b = true) → most fit l ≤ l.countP m
  | _, [], _, _ => Nat.zero_le _
  | 0, _ :: _, h, _ => by simp at h
  | n + 1, x :: xs, h, hc => by
    simp only [List.length_cons] at h
    rw [most_cons]
    refine mTo_le fit _ x xs _ ?_ ?_ _
    · refine Nat.le_trans (most_cover m n xs (by omega) fun a ha b hb => hc a (by simp [ha]) b (by simp [hb])) ?_
      rw [List.countP_cons]; omega
    · intro j y hj hf
      have hp := erase_perm xs j y hj
      have hy : y ∈ xs := hp.mem_iff.1 (by simp)
      have hsub : ∀ a ∈ xs.eraseIdx j, a ∈ xs := fun a ha => hp.mem_iff.1 (by simp [ha])
      have h1 := most_cover m n (xs.eraseIdx j) (by have := List.length_eraseIdx_le xs j; omega) fun a ha b hb => hc a (by simp [hsub a ha]) b (by simp [hsub b hb])
      have h2 := hp.countP_eq m
      rw [List.countP_cons] at h2
      rw [List.countP_cons]
      rcases hc x (by simp) y (by simp [hy]) hf with e | e
      · rw [if_pos e]; omega
      · rw [if_pos e] at h2; omega
theorem most_le (l : List α) : most fit l ≤ l.length := Nat.le_trans (most_cover fit (fun _ => true) l.length l (Nat.le_refl _) fun _ _ _ _ _ => .inl rfl) List.countP_le_length
/-- the elements of pairs -/
def flat2 : List (α × α) → List α
  | [] => []
  | q :: qs => q.1 :: q.2 :: flat2 qs
theorem flat2_append (a b : List (α × α)) : flat2 (a ++ b) = flat2 a ++ flat2 b := by
  induction a with
  | nil => rfl
  | cons q a ih => simp [flat2, ih]
theorem flat2_len (a : List (α × α)) : (flat2 a).length = 2 * a.length := by
  induction a with
  | nil => rfl
  | cons q a ih => simp only [flat2, List.length_cons, ih]; omega
theorem mem_flat2 {qs : List (α × α)} {x : α} (h : x ∈ flat2 qs) : ∃ q ∈ qs, x = q.1 ∨ x = q.2 := by
  induction qs with
  | nil => cases h
  | cons q qs ih =>
    simp only [flat2, List.mem_cons] at h
    rcases h with h | h | h
    · exact ⟨q, by simp, .inl h⟩
    · exact ⟨q, by simp, .inr h⟩
    · obtain ⟨r, hr, e⟩ := ih h
      exact ⟨r, by simp [hr], e⟩
theorem flat2_perm {a b : List (α × α)} (h : a.Perm b) : (flat2 a).Perm (flat2 b) := by
  induction h with
  | nil => exact .nil
  | cons q _ ih => exact (ih.cons _).cons _
  | swap p q l =>
    show (q.1 :: q.2 :: p.1 :: p.2 :: flat2 l).Perm (p.1 :: p.2 :: q.1 :: q.2 :: flat2 l)
    have h := (List.perm_append_comm (l₁ := [q.1, q.2]) (l₂ := [p.1, p.2])).append_right (flat2 l)
    exact h
  | trans _ _ h1 h2 => exact h1.trans h2
theorem mem_split_perm {l : List β} {x : β} (h : x ∈ l) : ∃ r, l.Perm (x :: r) := by
  obtain ⟨a, b, rfl⟩ := List.append_of_mem h
  exact ⟨a ++ b, List.perm_middle⟩
/-- no disjoint pairs that fit are more -/
theorem most_ge (hs : ∀ a b, fit a b = fit b a) : ∀ (n : Nat) (l : List α), l.length ≤ n → ∀ (qs : List (α × α)) (rest : List α), l.Perm (flat2 qs ++ rest) → (∀ q ∈ qs, fit q.1 q.2 = true) → qs.length ≤ most fit l
  | _, [], _, qs, rest, hp, _ => by
    have := hp.length_eq
    simp only [List.length_nil, List.length_append, flat2_len] at this
    omega
  | 0, _ :: _, h, _, _, _, _ => by simp at h
  | n + 1, x :: xs, h, qs, rest, hp, hf => by
    simp only [List.length_cons] at h
    have key : ∀ (y : α) (qs' : List (α × α)), xs.Perm (y :: (flat2 qs' ++ rest)) → fit x y = true → (∀ q ∈ qs', fit q.1 q.2 = true) → qs'.length + 1 ≤ most fit (x :: xs) := by
      intro y qs' hp' hxy hf'
      have hy : y ∈ xs := hp'.mem_iff.2 (by simp)
      obtain ⟨k, hk, rfl⟩ := List.getElem_of_mem hy
      have he := erase_perm xs k xs[k] (List.getElem?_eq_getElem hk)
      have h1 : (xs.eraseIdx k).Perm (flat2 qs' ++ rest) := (he.trans hp').cons_inv
      have h2 := most_ge hs n (xs.eraseIdx k) (by have := List.length_eraseIdx_le xs k; omega) qs' rest h1 hf'
      have h3 := mTo_ge fit (most fit) x xs[k] xs k (List.getElem?_eq_getElem hk) hxy xs.length hk
      rw [most_cons]; omega
    have hx : x ∈ flat2 qs ++ rest := hp.mem_iff.1 (by simp)
    rw [List.mem_append] at hx
    rcases hx with hx | hx
    · obtain ⟨q, hq, e⟩ := mem_flat2 hx
      obtain ⟨qs', hqs⟩ := mem_split_perm hq
      have hp2 := hp.trans ((flat2_perm hqs).append_right rest)
      have hf' : ∀ r ∈ qs', fit r.1 r.2 = true := fun r hr => hf r (hqs.mem_iff.2 (by simp [hr]))
      have hl := hqs.length_eq
      have hqf := hf q hq
      rw [hl]
      rcases e with e | e
      · subst e
        exact key q.2 qs' (List.Perm.cons_inv hp2) hqf hf'
      · subst e
        refine key q.1 qs' (List.Perm.cons_inv (a := q.2) (hp2.trans ?_)) (by rw [hs]; exact hqf) hf'
        exact List.Perm.swap _ _ _
    · obtain ⟨r, hr⟩ := mem_split_perm hx
      have h1 : xs.Perm (flat2 qs ++ r) := List.Perm.cons_inv (hp.trans ((List.Perm.append_left _ hr).trans List.perm_middle))
      have h2 := most_ge hs n xs (by omega) qs r h1 hf
      rw [most_cons]
      exact Nat.le_trans h2 (mTo_base fit _ x xs _)
theorem mTo_map (g : β → α) (f : List α → Nat) (f' : List β → Nat) (hf : ∀ l, f (l.map g) = f' l) (x : β) (xs : List β) : ∀ k, mTo fit f (g x) (xs.map g) k = mTo (fun a b => fit (g a) (g b)) f' x xs k
  | 0 => hf xs
  | k + 1 => by
    have ih := mTo_map g f f' hf x xs k
    cases e : xs[k]? with
    | none => rw [mTo_none _ _ _ _ _ (by rw [List.getElem?_map, e]; rfl), mTo_none _ _ _ _ _ e, ih]
    | some y => rw [mTo_some _ _ _ (g y) _ _ (by rw [List.getElem?_map, e]; rfl), mTo_some _ _ _ _ _ _ e, ih, erase_map, hf]
theorem mostF_map (g : β → α) : ∀ (n : Nat) (l : List β), mostF fit n (l.map g) = mostF (fun a b => fit (g a) (g b)) n l
  | 0, _ => rfl
  | _ + 1, [] => rfl
  | n + 1, x :: xs => by
    show mTo fit (mostF fit n) (g x) (xs.map g) (xs.map g).length = _
    rw [mTo_map fit g _ _ (mostF_map g n) x xs, List.length_map]; rfl
theorem most_map (g : β → α) (l : List β) : most fit (l.map g) = most (fun a b => fit (g a) (g b)) l := by
  unfold most
  rw [List.length_map, mostF_map]
end
end Tr
end Go.Proofs.YthkjbjgpdapnpaaDoor

/- Data in memory: a list of cells, each a plain value or a slice whose block the call owns. No program. -/
import Derived.OneCell
import Derived.OwnWalk
import Derived.Below
import Derived.RowKit
import Derived.Lib.Hide
namespace Go.Proofs.Ytgeakpeodhhffaa
open Go.RowKit
set_option linter.unusedVariables false
set_option linter.unusedSimpArgs false
namespace Tr
/-- a list of cells: nothing more; a plain value, then more; a slice of n elements of type T (k cells each, all of them in c), then more -/
inductive D where
  | nil
  | lit (v : Value) (r : D)
  | row (T k n : Nat) (c r : D)
def D.app : D → D → D
  | .nil, d => d
  | .lit v r, d => .lit v (r.app d)
  | .row T k n c r, d => .row T k n c (r.app d)
def D.len : D → Nat
  | .nil => 0
  | .lit _ r => r.len + 1
  | .row _ _ _ _ r => r.len + 1
def D.cat : List D → D
  | [] => .nil
  | d :: l => d.app (D.cat l)
theorem D.app_nil : ∀ d : D, d.app .nil = d
  | .nil => rfl
  | .lit _ r => by show D.lit _ (r.app .nil) = _; rw [D.app_nil r]
  | .row _ _ _ _ r => by show D.row _ _ _ _ (r.app .nil) = _; rw [D.app_nil r]
theorem D.app_assoc : ∀ a b c : D, (a.app b).app c = a.app (b.app c)
  | .nil, _, _ => rfl
  | .lit _ r, b, c => by show D.lit _ ((r.app b).app c) = D.lit _ (r.app (b.app c)); rw [D.app_assoc r]
  | .row _ _ _ _ r, b, c => by show D.row _ _ _ _ ((r.app b).app c) = D.row _ _ _ _ (r.app (b.app c)); rw [D.app_assoc r]
theorem D.len_app : ∀ a b : D, (a.app b).len = a.len + b.len
  | .nil, _ => by show _ = 0 + _; rw [Nat.zero_add]; rfl
  | .lit _ r, b => by show (r.app b).len + 1 = r.len + 1 + _; rw [D.len_app r]; omega
  | .row _ _ _ _ r, b => by show (r.app b).len + 1 = r.len + 1 + _; rw [D.len_app r]; omega
theorem D.cat_append : ∀ l m : List D, D.cat (l ++ m) = (D.cat l).app (D.cat m)
  | [], _ => rfl
  | d :: l, m => by show d.app (D.cat (l ++ m)) = (d.app (D.cat l)).app (D.cat m); rw [D.cat_append l, D.app_assoc]
theorem D.len_cat (k : Nat) : ∀ l : List D, (∀ d ∈ l, d.len = k) → (D.cat l).len = l.length * k
  | [], _ => by simp [D.cat, D.len]
  | d :: l, h => by
    show (d.app (D.cat l)).len = _
    rw [D.len_app, h d (by simp), D.len_cat k l (fun x hx => h x (by simp [hx])), List.length_cons, Nat.succ_mul]
    omega
/-- the cells vs hold the data d; the slices among them lie in the blocks bs, in their order (an empty slice without room may point anywhere) -/
def Own (w : World) : D → List Value → List Nat → Prop
  | .nil, vs, bs => vs = [] ∧ bs = []
  | .lit x r, vs, bs => ∃ vs', vs = x :: vs' ∧ Own w r vs' bs
  | .row T k n c r, vs, bs => ∃ v vs' b1 b2, vs = v :: vs' ∧ bs = b1 ++ b2 ∧ Own w r vs' b2 ∧
      (((∃ a, v = .slice a 0 0) ∧ n = 0 ∧ c = .nil ∧ b1 = []) ∨
       ∃ g o cap cur b, v = .slice (some ⟨g, o, none⟩) n cap ∧ b1 = g :: b ∧ w.heap[g]? = some (.cells cur T (0, 0)) ∧ n ≤ cap ∧ cap ≤ maxLen ∧ o + cap * k ≤ cur.size ∧ Own w c ((cur.toList.drop o).take (n * k)) b)
/-- the cells are read: whatever their blocks -/
def Rd (w : World) (d : D) (vs : List Value) : Prop := ∃ bs, Own w d vs bs
/-- the cells are the call's own: no block twice, none below B -/
def Owned (w : World) (B : Nat) (d : D) (vs : List Value) : Prop := ∃ bs, Own w d vs bs ∧ bs.Nodup ∧ ∀ b ∈ bs, B ≤ b
theorem Owned.rd {w : World} {B : Nat} {d : D} {vs : List Value} (h : Owned w B d vs) : Rd w d vs := h.imp fun _ h => h.1
theorem Owned.mono {w : World} {B B' : Nat} {d : D} {vs : List Value} (h : Owned w B d vs) (hb : B' ≤ B) : Owned w B' d vs := by
  obtain ⟨bs, h1, h2, h3⟩ := h
  exact ⟨bs, h1, h2, fun b hb' => Nat.le_trans hb (h3 b hb')⟩
theorem own_len {w : World} : ∀ (d : D) {vs : List Value} {bs : List Nat}, Own w d vs bs → vs.length = d.len
  | .nil, _, _, h => by rw [h.1]; rfl
  | .lit _ r, _, _, h => by obtain ⟨vs', rfl, h⟩ := h; show vs'.length + 1 = _; rw [own_len r h]; rfl
  | .row _ _ _ _ r, _, _, h => by obtain ⟨v, vs', b1, b2, rfl, rfl, h, _⟩ := h; show vs'.length + 1 = _; rw [own_len r h]; rfl
theorem own_lt {w : World} : ∀ (d : D) {vs : List Value} {bs : List Nat}, Own w d vs bs → ∀ b ∈ bs, b < w.heap.size
  | .nil, _, _, h, b, hb => by rw [h.2] at hb; cases hb
  | .lit _ r, _, _, h, b, hb => by obtain ⟨vs', rfl, h⟩ := h; exact own_lt r h b hb
  | .row _ _ _ c r, _, _, h, x, hb => by
    obtain ⟨v, vs', b1, b2, rfl, rfl, h, h2⟩ := h
    rw [List.mem_append] at hb
    rcases hb with hb | hb
    · rcases h2 with ⟨_, _, _, rfl⟩ | ⟨g, o, cap, cur, b, rfl, rfl, hg, _, _, _, hc⟩
      · cases hb
      · rw [List.mem_cons] at hb
        rcases hb with rfl | hb
        · exact lt_of_block hg
        · exact own_lt c hc x hb
    · exact own_lt r h x hb
/-- what holds in one world holds in every world whose blocks bs are the same -/
theorem own_same {w w' : World} : ∀ (d : D) {vs : List Value} {bs : List Nat}, Own w d vs bs → (∀ b ∈ bs, w'.heap[b]? = w.heap[b]?) → Own w' d vs bs
  | .nil, _, _, h, _ => h
  | .lit _ r, _, _, h, hs => by obtain ⟨vs', rfl, h⟩ := h; exact ⟨vs', rfl, own_same r h hs⟩
  | .row _ _ _ c r, _, _, h, hs => by
    obtain ⟨v, vs', b1, b2, rfl, rfl, h, h2⟩ := h
    refine ⟨v, vs', b1, b2, rfl, rfl, own_same r h (fun b hb => hs b (by simp [hb])), ?_⟩
    rcases h2 with h2 | ⟨g, o, cap, cur, b, rfl, rfl, hg, h3, h4, h5, hc⟩
    · exact Or.inl h2
    · exact Or.inr ⟨g, o, cap, cur, b, rfl, rfl, (hs g (by simp)).trans hg, h3, h4, h5, own_same c hc (fun x hx => hs x (by simp [hx]))⟩
theorem own_below {w w' : World} {B : Nat} {d : D} {vs : List Value} {bs : List Nat} (h : Own w d vs bs) (hb : Below B w w') (hl : ∀ b ∈ bs, b < B) : Own w' d vs bs :=
  own_same d h (fun b hb' => hb.block b (hl b hb'))
theorem Rd.below {w w' : World} {d : D} {vs : List Value} (h : Rd w d vs) (hb : Below w.heap.size w w') : Rd w' d vs := by
  obtain ⟨bs, h⟩ := h
  exact ⟨bs, own_below h hb (own_lt d h)⟩
theorem Owned.below {w w' : World} {B : Nat} {d : D} {vs : List Value} (h : Owned w B d vs) (hb : Below w.heap.size w w') : Owned w' B d vs := by
  obtain ⟨bs, h, h2⟩ := h
  exact ⟨bs, own_below h hb (own_lt d h), h2⟩
theorem own_app {w : World} : ∀ (d e : D) {vs : List Value} {bs : List Nat}, Own w (d.app e) vs bs ↔ ∃ v1 v2 b1 b2, vs = v1 ++ v2 ∧ bs = b1 ++ b2 ∧ Own w d v1 b1 ∧ Own w e v2 b2
  | .nil, e, vs, bs => by
    constructor
    · intro h; exact ⟨[], vs, [], bs, rfl, rfl, ⟨rfl, rfl⟩, h⟩
    · rintro ⟨v1, v2, b1, b2, rfl, rfl, ⟨rfl, rfl⟩, h⟩; exact h
  | .lit x r, e, vs, bs => by
    constructor
    · rintro ⟨vs', rfl, h⟩
      obtain ⟨v1, v2, b1, b2, rfl, rfl, h1, h2⟩ := (own_app r e).1 h
      exact ⟨x :: v1, v2, b1, b2, rfl, rfl, ⟨v1, rfl, h1⟩, h2⟩
    · rintro ⟨v1, v2, b1, b2, rfl, rfl, ⟨v1', rfl, h1⟩, h2⟩
      exact ⟨v1' ++ v2, rfl, (own_app r e).2 ⟨v1', v2, b1, b2, rfl, rfl, h1, h2⟩⟩
  | .row T k n c r, e, vs, bs => by
    constructor
    · rintro ⟨v, vs', b1, b2, rfl, rfl, h, h2⟩
      obtain ⟨v1, v2, c1, c2, rfl, rfl, h1, h3⟩ := (own_app r e).1 h
      exact ⟨v :: v1, v2, b1 ++ c1, c2, rfl, (List.append_assoc _ _ _).symm, ⟨v, v1, b1, c1, rfl, rfl, h1, h2⟩, h3⟩
    · rintro ⟨v1, v2, b1, b2, rfl, rfl, ⟨v, v1', c1, c2, rfl, rfl, h1, h3⟩, h2⟩
      exact ⟨v, v1' ++ v2, c1, c2 ++ b2, rfl, List.append_assoc _ _ _, (own_app r e).2 ⟨v1', v2, c2, b2, rfl, rfl, h1, h2⟩, h3⟩
theorem Rd.app {w : World} {d e : D} {v1 v2 : List Value} (h1 : Rd w d v1) (h2 : Rd w e v2) : Rd w (d.app e) (v1 ++ v2) := by
  obtain ⟨b1, h1⟩ := h1
  obtain ⟨b2, h2⟩ := h2
  exact ⟨_, (own_app d e).2 ⟨_, _, _, _, rfl, rfl, h1, h2⟩⟩
/-- two parts of the call's own, the second in blocks from M on, the first in blocks below M -/
theorem Owned.app {w : World} {B M : Nat} {d e : D} {v1 v2 : List Value} (h1 : Owned w B d v1) (h2 : Owned w M e v2) (hm : ∀ bs, Own w d v1 bs → ∀ b ∈ bs, b < M) (hB : B ≤ M) : Owned w B (d.app e) (v1 ++ v2) := by
  obtain ⟨b1, h1, n1, l1⟩ := h1
  obtain ⟨b2, h2, n2, l2⟩ := h2
  refine ⟨b1 ++ b2, (own_app d e).2 ⟨_, _, _, _, rfl, rfl, h1, h2⟩, ?_, ?_⟩
  · rw [List.nodup_append]
    exact ⟨n1, n2, fun a ha b hb e => by subst e; have := hm b1 h1 a ha; have := l2 a hb; omega⟩
  · intro b hb
    rw [List.mem_append] at hb
    rcases hb with hb | hb
    · exact l1 b hb
    · exact Nat.le_trans hB (l2 b hb)
/-- element i of a row's cells: its own cells, its own blocks; and what the row is behind a turn of that element alone -/
theorem own_cat {w : World} (k : Nat) : ∀ (l : List D) {us : List Value} {bs : List Nat}, (∀ d ∈ l, d.len = k) → Own w (D.cat l) us bs → ∀ i (hi : i < l.length),
    ∃ pre b post, bs = pre ++ (b ++ post) ∧ us.length = l.length * k ∧ Own w l[i] ((us.drop (i * k)).take k) b ∧
      ∀ (w' : World) (d' : D) (us' : List Value) (b' : List Nat), (∀ x ∈ pre ++ post, w'.heap[x]? = w.heap[x]?) → Own w' d' us' b' →
        Own w' (D.cat (l.set i d')) (us.take (i * k) ++ (us' ++ us.drop (i * k + k))) (pre ++ (b' ++ post))
  | [], _, _, _, _, i, hi => by cases hi
  | d :: l, us, bs, hk, h, 0, _ => by
    obtain ⟨v1, v2, b1, b2, rfl, rfl, h1, h2⟩ := (own_app d (D.cat l)).1 h
    have hl1 : v1.length = k := (own_len d h1).trans (hk d (by simp))
    have hl2 : v2.length = l.length * k := (own_len _ h2).trans (D.len_cat k l (fun x hx => hk x (by simp [hx])))
    refine ⟨[], b1, b2, rfl, by simp [hl1, hl2, Nat.succ_mul, Nat.add_comm], ?_, ?_⟩
    · simp only [Nat.zero_mul, List.drop_zero]
      rw [List.take_left' hl1]
      exact h1
    · intro w' d' us' b' hs h'
      simp only [Nat.zero_mul, List.take_zero, List.nil_append, Nat.zero_add]
      rw [List.drop_left' hl1]
      exact (own_app d' (D.cat l)).2 ⟨_, _, _, _, rfl, rfl, h', own_same _ h2 (fun x hx => hs x (by simpa using hx))⟩
  | d :: l, us, bs, hk, h, i + 1, hi => by
    obtain ⟨v1, v2, b1, b2, rfl, rfl, h1, h2⟩ := (own_app d (D.cat l)).1 h
    have hl1 : v1.length = k := (own_len d h1).trans (hk d (by simp))
    obtain ⟨pre, b, post, rfl, hlen, hi', hset⟩ := own_cat k l (fun x hx => hk x (by simp [hx])) h2 i (by simpa using hi)
    have e1 : (i + 1) * k = v1.length + i * k := by rw [Nat.succ_mul, hl1]; omega
    refine ⟨b1 ++ pre, b, post, by simp, by simp [hl1, hlen, Nat.succ_mul, Nat.add_comm], ?_, ?_⟩
    · rw [e1, ← List.drop_drop, List.drop_left]
      exact hi'
    · intro w' d' us' b' hs h'
      have hrest := hset w' d' us' b' (fun x hx => hs x (by rw [List.mem_append] at hx ⊢; rcases hx with hx | hx <;> simp [hx])) h'
      have e2 : List.take ((i + 1) * k) (v1 ++ v2) = v1 ++ v2.take (i * k) := by rw [e1, List.take_append, List.take_of_length_le (by omega)]; congr 2; omega
      have e3 : List.drop ((i + 1) * k + k) (v1 ++ v2) = v2.drop (i * k + k) := by rw [e1, Nat.add_assoc, ← List.drop_drop, List.drop_left]
      rw [e2, e3]
      have := (own_app d (D.cat (l.set i d'))).2 ⟨v1, _, b1, _, rfl, rfl, own_same d h1 (fun x hx => hs x (by simp [hx])), hrest⟩
      show Own w' (d.app (D.cat (l.set i d'))) _ _
      simpa [List.append_assoc] using this
/-- a slice whose elements hold the data l, k cells each -/
def rowC (T k : Nat) (l : List D) : D := .row T k l.length (D.cat l) .nil
def rowD {α : Type} (T k : Nat) (E : α → D) (l : List α) : D := rowC T k (l.map E)
theorem rowC_len (T k : Nat) (l : List D) : (rowC T k l).len = 1 := rfl
theorem splice_at {cur : List Value} {o m k : Nat} {us' : List Value} (n : Nat) (hl : us'.length = k) (hk : m + k ≤ n) (hc : o + n ≤ cur.length) :
    ((cur.take (o + m) ++ (us' ++ cur.drop (o + m + k))).drop o).take n = ((cur.drop o).take n).take m ++ (us' ++ ((cur.drop o).take n).drop (m + k)) := by
  apply List.ext_getElem?
  intro j
  by_cases h1 : j < n
  · rw [List.getElem?_take, if_pos h1, List.getElem?_drop]
    by_cases h2 : j < m
    · rw [List.getElem?_append_left (by rw [List.length_take]; omega), List.getElem?_append_left (by simp only [List.length_take, List.length_drop]; omega)]
      rw [List.getElem?_take, if_pos (by omega), List.getElem?_take, if_pos h2, List.getElem?_take, if_pos h1, List.getElem?_drop]
    · rw [List.getElem?_append_right (l₁ := List.take (o + m) cur) (by rw [List.length_take]; omega), List.getElem?_append_right (l₁ := List.take m (List.take n (List.drop o cur))) (by simp only [List.length_take, List.length_drop]; omega)]
      have e1 : (List.take (o + m) cur).length = o + m := by rw [List.length_take]; omega
      have e2 : (List.take m (List.take n (List.drop o cur))).length = m := by simp only [List.length_take, List.length_drop]; omega
      rw [e1, e2]
      by_cases h3 : j < m + k
      · rw [List.getElem?_append_left (by omega), List.getElem?_append_left (by omega)]
        congr 1; omega
      · rw [List.getElem?_append_right (l₁ := us') (by omega), List.getElem?_append_right (l₁ := us') (by omega), List.getElem?_drop, List.getElem?_drop, List.getElem?_take, if_pos (by omega), List.getElem?_drop]
        congr 1; omega
  · rw [List.getElem?_take, if_neg h1]
    symm
    rw [List.getElem?_eq_none]
    simp only [List.length_append, List.length_take, List.length_drop]
    omega
theorem mul_step {i n k : Nat} (h : i < n) : i * k + k ≤ n * k := by rw [← Nat.succ_mul]; exact Nat.mul_le_mul_right k h
/-- a slice's value; element i: where it lies, what it holds; and the slice behind a turn of that element -/
theorem own_row {w : World} {T k : Nat} {l : List D} {v : Value} {bs : List Nat} (h : Own w (rowC T k l) [v] bs) (hk : ∀ d ∈ l, d.len = k) :
    ∃ A cap, v = .slice A l.length cap ∧ l.length ≤ cap ∧ cap ≤ maxLen ∧ ∀ i (hi : i < l.length), ∃ g o cur us pre b post, A = some ⟨g, o, none⟩ ∧ bs = g :: (pre ++ (b ++ post)) ∧ w.heap[g]? = some (.cells cur T (0, 0)) ∧
      us.length = k ∧ us = (cur.toList.drop (o + i * k)).take k ∧ o + l.length * k ≤ cur.size ∧ Own w l[i] us b ∧
      ∀ (w' : World) (d' : D) (us' : List Value) (b' : List Nat) (cur' : Array Value), (∀ x ∈ pre ++ post, w'.heap[x]? = w.heap[x]?) → w'.heap[g]? = some (.cells cur' T (0, 0)) → cur'.size = cur.size →
        cur'.toList = cur.toList.take (o + i * k) ++ (us' ++ cur.toList.drop (o + i * k + k)) → d'.len = k → Own w' d' us' b' → Own w' (rowC T k (l.set i d')) [v] (g :: (pre ++ (b' ++ post))) := by
  obtain ⟨v', vs', b1, b2, e1, e2, ⟨rfl, rfl⟩, h2⟩ := h
  obtain ⟨rfl, _⟩ := List.cons.inj e1
  rw [List.append_nil] at e2
  subst e2
  rcases h2 with ⟨⟨a0, rfl⟩, hn, _, _⟩ | ⟨g, o, cap, cur, b, rfl, rfl, hg, hcap, hmax, hsz, hc⟩
  · exact ⟨a0, 0, by rw [hn], by omega, Nat.zero_le _, fun i hi => by omega⟩
  · refine ⟨_, _, rfl, hcap, hmax, fun i hi => ?_⟩
    obtain ⟨pre, b', post, rfl, hlen, hi', hset⟩ := own_cat k l hk hc i hi
    have hle : l.length * k ≤ cap * k := Nat.mul_le_mul_right k hcap
    have hst := mul_step (k := k) hi
    have hus : (((cur.toList.drop o).take (l.length * k)).drop (i * k)).take k = (cur.toList.drop (o + i * k)).take k := by
      rw [List.drop_take, List.drop_drop, List.take_take, Nat.min_eq_left (by omega)]
    refine ⟨g, o, cur, _, pre, b', post, rfl, rfl, hg, ?_, rfl, by omega, ?_, ?_⟩
    · rw [List.length_take, List.length_drop, Array.length_toList]; omega
    · rw [← hus]; exact hi'
    · intro w' d' us' b'' cur' hs hg' hsz' hcur hd' ho'
      refine ⟨_, [], g :: (pre ++ (b'' ++ post)), [], rfl, by simp, ⟨rfl, rfl⟩, Or.inr ⟨g, o, cap, cur', _, by rw [List.length_set], rfl, hg', by rw [List.length_set]; exact hcap, hmax, by omega, ?_⟩⟩
      have hcl : cur.toList.length = cur.size := Array.length_toList
      rw [List.length_set, hcur, splice_at (l.length * k) ((own_len _ ho').trans hd') hst (by omega)]
      exact hset w' d' us' b'' hs ho'
theorem cell_of_block {w : World} {g : Nat} {cur : Array Value} {T : Nat} (h : w.heap[g]? = some (.cells cur T (0, 0))) (j : Nat) : w.cell? ⟨g, j, none⟩ = cur[j]? := by simp [World.cell?, h]
theorem free_of_block {w : World} {g : Nat} {cur : Array Value} {T : Nat} (h : w.heap[g]? = some (.cells cur T (0, 0))) (j : Nat) : w.frozen? ⟨g, j, none⟩ = false := by simp [World.frozen?, h]
theorem block_set {w : World} {g : Nat} {cur : Array Value} {T : Nat} (h : w.heap[g]? = some (.cells cur T (0, 0))) (j : Nat) (u : Value) : (w.setCell ⟨g, j, none⟩ u).heap[g]? = some (.cells (cur.setIfInBounds j u) T (0, 0)) := by
  simp [World.setCell, Array.getElem?_modify, h]
theorem at_us {cur : Array Value} {us : List Value} {m k : Nat} (h : us = (cur.toList.drop m).take k) (j : Nat) (hj : j < k) : cur[m + j]? = us[j]? := by
  rw [h, List.getElem?_take, if_pos hj, List.getElem?_drop, Array.getElem?_toList]
theorem set_us {cur : Array Value} {us : List Value} {m k : Nat} (h : us = (cur.toList.drop m).take k) (hm : m + k ≤ cur.size) (j : Nat) (hj : j < k) (u : Value) :
    (cur.setIfInBounds (m + j) u).toList = cur.toList.take m ++ ((us.set j u) ++ cur.toList.drop (m + k)) := by
  have hul : us.length = k := by rw [h, List.length_take, List.length_drop, Array.length_toList]; omega
  have hcl : cur.toList.length = cur.size := Array.length_toList
  apply List.ext_getElem?
  intro x
  rw [Array.toList_setIfInBounds, List.getElem?_set]
  by_cases h1 : x < m
  · rw [if_neg (by omega), List.getElem?_append_left (by rw [List.length_take]; omega), List.getElem?_take, if_pos h1]
  · rw [List.getElem?_append_right (by rw [List.length_take]; omega)]
    have e1 : (List.take m cur.toList).length = m := by rw [List.length_take]; omega
    rw [e1]
    by_cases h2 : x < m + k
    · rw [List.getElem?_append_left (by rw [List.length_set]; omega), List.getElem?_set]
      by_cases h3 : m + j = x
      · rw [if_pos h3, if_pos (by omega), if_pos (by omega), if_pos (by omega)]
      · rw [if_neg h3, if_neg (by omega), h, List.getElem?_take, if_pos (by omega), List.getElem?_drop]
        congr 1; omega
    · rw [if_neg (by omega), List.getElem?_append_right (by rw [List.length_set]; omega), List.length_set, hul, List.getElem?_drop]
      congr 1; omega
end Tr
end Go.Proofs.Ytgeakpeodhhffaa

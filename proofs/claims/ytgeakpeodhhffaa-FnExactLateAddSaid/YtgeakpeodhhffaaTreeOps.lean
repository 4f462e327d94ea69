/- Data in memory: reading a slice, marks, counts. No program. -/
import Derived.Test.YtgeakpeodhhffaaTree
import Derived.Deep.Draws
import Derived.Laws.Rows
import Derived.Laws.AppendOwn
import Derived.Laws.AppendOwnNone
import Derived.Tactics
namespace Go.Proofs.Ytgeakpeodhhffaa
open Go.RowKit
set_option linter.unusedVariables false
set_option linter.unusedSimpArgs false
namespace Tr
def eI (x : Int) : D := .lit (.int .i64 x) .nil
def eB (x : Bool) : D := .lit (.bool x) .nil
def eS (x : ByteArray) : D := .lit (.string x) .nil
/-- what the world is behind a call that makes and writes new blocks alone, or the blocks bs -/
structure Turn (bs : List Nat) (w w' : World) : Prop where
  os : w'.os = w.os
  tape : w'.tape = w.tape
  output : w'.output = w.output
  size : w.heap.size ≤ w'.heap.size
  block : ∀ k, k < w.heap.size → k ∉ bs → w'.heap[k]? = w.heap[k]?
theorem Turn.refl (bs : List Nat) (w : World) : Turn bs w w := ⟨rfl, rfl, rfl, Nat.le_refl _, fun _ _ _ => rfl⟩
theorem Turn.trans {bs : List Nat} {a b c : World} (h : Turn bs a b) (k : Turn bs b c) : Turn bs a c :=
  ⟨k.os.trans h.os, k.tape.trans h.tape, k.output.trans h.output, Nat.le_trans h.size k.size, fun i hi hn => (k.block i (Nat.lt_of_lt_of_le hi h.size) hn).trans (h.block i hi hn)⟩
theorem Turn.mono {bs bs' : List Nat} {a b : World} (h : Turn bs a b) (hs : ∀ x ∈ bs, x ∈ bs') : Turn bs' a b :=
  ⟨h.os, h.tape, h.output, h.size, fun k hk hn => h.block k hk (fun hb => hn (hs k hb))⟩
theorem Turn.of_below {bs : List Nat} {a b : World} (h : Below a.heap.size a b) : Turn bs a b := ⟨h.os, h.tape, h.output, h.size, fun k hk _ => h.block k hk⟩
theorem Turn.below {bs : List Nat} {B : Nat} {a b : World} (h : Turn bs a b) (hb : ∀ x ∈ bs, B ≤ x) (hB : B ≤ a.heap.size) : Below B a b :=
  ⟨h.os, h.tape, h.output, h.size, fun k hk => h.block k (Nat.lt_of_lt_of_le hk hB) (fun hm => by have := hb k hm; omega)⟩
theorem Turn.drew {bs : List Nat} {a b : World} (h : Turn bs a b) : Turn bs a b.drew := ⟨h.os, h.tape, h.output, h.size, h.block⟩
theorem Turn.setCell {bs : List Nat} {a b : World} (h : Turn bs a b) {p : Addr} (hp : p.block ∈ bs) (u : Value) : Turn bs a (b.setCell p u) :=
  ⟨h.os, h.tape, h.output, by show _ ≤ (b.heap.modify _ _).size; rw [Array.size_modify]; exact h.size, fun k hk hn => (Below.heap_setCell b p u k (fun e => hn (by rw [e]; exact hp))).trans (h.block k hk hn)⟩
theorem Turn.alloc {bs : List Nat} {a b : World} (h : Turn bs a b) (o : Obj) : Turn bs a (b.alloc o) :=
  h.trans ⟨rfl, rfl, rfl, by simp, fun k hk _ => Below.heap_alloc _ _ _ hk⟩
theorem own_turn {w w' : World} {d : D} {vs : List Value} {bs cs : List Nat} (h : Own w d vs bs) (ht : Turn cs w w') (hd : ∀ x ∈ bs, x ∉ cs) : Own w' d vs bs :=
  own_same d h (fun b hb => ht.block b (own_lt d h b hb) (hd b hb))
/-- the number of cells behind slices; and with the row's own cells -/
def D.cnt : D → Nat
  | .nil => 0
  | .lit _ r => r.cnt + 1
  | .row _ _ _ c r => c.cnt + r.cnt
def D.cntTop : D → Nat
  | .nil => 0
  | .lit _ r => r.cntTop
  | .row _ _ _ c r => c.cnt + r.cntTop
theorem cnt_app : ∀ a b : D, (a.app b).cnt = a.cnt + b.cnt
  | .nil, _ => by show _ = 0 + _; rw [Nat.zero_add]; rfl
  | .lit _ r, b => by show (r.app b).cnt + 1 = r.cnt + 1 + _; rw [cnt_app r]; omega
  | .row _ _ _ c r, b => by show c.cnt + (r.app b).cnt = c.cnt + r.cnt + _; rw [cnt_app r]; omega
theorem cntTop_app : ∀ a b : D, (a.app b).cntTop = a.cntTop + b.cntTop
  | .nil, _ => by show _ = 0 + _; rw [Nat.zero_add]; rfl
  | .lit _ r, b => by show (r.app b).cntTop = r.cntTop + _; rw [cntTop_app r]
  | .row _ _ _ c r, b => by show c.cnt + (r.app b).cntTop = c.cnt + r.cntTop + _; rw [cntTop_app r]; omega
/-- the decimal text of a mark -/
def markText (k : Nat) : ByteArray := ⟨((109 : UInt8) :: (Nat.toDigits 10 k).map (fun c => c.toNat.toUInt8)).toArray⟩
def mk (v : Value) (k : Nat) : Value :=
  match v with
  | .int kd _ => .int kd k
  | .bool _ => .bool (k % 3 == 0)
  | .string _ => .string (markText k)
  | v => v
/-- all cells marked, from k on -/
def D.mark : D → Nat → D
  | .nil, _ => .nil
  | .lit v r, k => .lit (mk v k) (r.mark (k + 1))
  | .row T e n c r, k => .row T e n (c.mark k) (r.mark (k + c.cnt))
/-- the cells behind slices marked, a value's own left -/
def D.markTop : D → Nat → D
  | .nil, _ => .nil
  | .lit v r, k => .lit v (r.markTop k)
  | .row T e n c r, k => .row T e n (c.mark k) (r.markTop (k + c.cnt))
theorem mark_app : ∀ (a b : D) (k : Nat), (a.app b).mark k = (a.mark k).app (b.mark (k + a.cnt))
  | .nil, _, _ => rfl
  | .lit v r, b, k => by
    show D.lit _ ((r.app b).mark (k + 1)) = D.lit _ ((r.mark (k + 1)).app (b.mark (k + (r.cnt + 1))))
    rw [mark_app r, show k + 1 + r.cnt = k + (r.cnt + 1) by omega]
  | .row _ _ _ c r, b, k => by
    show D.row _ _ _ _ ((r.app b).mark (k + c.cnt)) = D.row _ _ _ _ ((r.mark (k + c.cnt)).app (b.mark (k + (c.cnt + r.cnt))))
    rw [mark_app r, show k + c.cnt + r.cnt = k + (c.cnt + r.cnt) by omega]
theorem markTop_app : ∀ (a b : D) (k : Nat), (a.app b).markTop k = (a.markTop k).app (b.markTop (k + a.cntTop))
  | .nil, _, _ => rfl
  | .lit v r, b, k => by
    show D.lit _ ((r.app b).markTop k) = D.lit _ ((r.markTop k).app (b.markTop (k + r.cntTop)))
    rw [markTop_app r]
  | .row _ _ _ c r, b, k => by
    show D.row _ _ _ _ ((r.app b).markTop (k + c.cnt)) = D.row _ _ _ _ ((r.markTop (k + c.cnt)).app (b.markTop (k + (c.cnt + r.cntTop))))
    rw [markTop_app r, show k + c.cnt + r.cntTop = k + (c.cnt + r.cntTop) by omega]
theorem mark_len : ∀ (d : D) (k : Nat), (d.mark k).len = d.len
  | .nil, _ => rfl
  | .lit _ r, k => by show (r.mark (k + 1)).len + 1 = r.len + 1; rw [mark_len r]
  | .row _ _ _ _ r, k => by show (r.mark _).len + 1 = r.len + 1; rw [mark_len r]
theorem mark_cnt : ∀ (d : D) (k : Nat), (d.mark k).cnt = d.cnt
  | .nil, _ => rfl
  | .lit _ r, k => by show (r.mark (k + 1)).cnt + 1 = r.cnt + 1; rw [mark_cnt r]
  | .row _ _ _ c r, k => by show (c.mark k).cnt + (r.mark _).cnt = c.cnt + r.cnt; rw [mark_cnt r, mark_cnt c]
/-- a list of cells' cells, marked one behind the other -/
def marks : List D → Nat → List D
  | [], _ => []
  | d :: l, k => d.mark k :: marks l (k + d.cnt)
def cnts : List D → Nat
  | [] => 0
  | d :: l => d.cnt + cnts l
theorem cat_cnt : ∀ l : List D, (D.cat l).cnt = cnts l
  | [] => rfl
  | d :: l => by show (d.app _).cnt = _; rw [cnt_app, cat_cnt l]; rfl
theorem cat_mark : ∀ (l : List D) (k : Nat), (D.cat l).mark k = D.cat (marks l k)
  | [], _ => rfl
  | d :: l, k => by show (d.app _).mark k = _; rw [mark_app, cat_mark l]; rfl
theorem marks_length : ∀ (l : List D) (k : Nat), (marks l k).length = l.length
  | [], _ => rfl
  | d :: l, k => by show (marks l _).length + 1 = _; rw [marks_length l]; rfl
theorem cnts_append : ∀ l m : List D, cnts (l ++ m) = cnts l + cnts m
  | [], _ => by show _ = 0 + _; rw [Nat.zero_add]; rfl
  | d :: l, m => by show d.cnt + cnts (l ++ m) = d.cnt + cnts l + _; rw [cnts_append l]; omega
theorem marks_append : ∀ (l m : List D) (k : Nat), marks (l ++ m) k = marks l k ++ marks m (k + cnts l)
  | [], _, _ => rfl
  | d :: l, m, k => by
    show d.mark k :: marks (l ++ m) (k + d.cnt) = d.mark k :: (marks l (k + d.cnt) ++ marks m (k + (d.cnt + cnts l)))
    rw [marks_append l, Nat.add_assoc]
theorem row_markTop (T e : Nat) (l : List D) (k : Nat) : (rowC T e l).markTop k = rowC T e (marks l k) := by
  show D.row T e l.length ((D.cat l).mark k) .nil = D.row T e (marks l k).length (D.cat (marks l k)) .nil
  rw [cat_mark, marks_length]
theorem row_mark (T e : Nat) (l : List D) (k : Nat) : (rowC T e l).mark k = rowC T e (marks l k) := row_markTop T e l k
theorem row_cnt (T e : Nat) (l : List D) : (rowC T e l).cnt = cnts l := by show (D.cat l).cnt + 0 = _; rw [cat_cnt]; rfl
theorem row_cntTop (T e : Nat) (l : List D) : (rowC T e l).cntTop = cnts l := by show (D.cat l).cnt + 0 = _; rw [cat_cnt]; rfl
/-- behind i elements marked -/
def upTo (l : List D) (k i : Nat) : List D := marks (l.take i) k ++ l.drop i
theorem upTo_zero (l : List D) (k : Nat) : upTo l k 0 = l := by simp [upTo, marks]
theorem upTo_all (l : List D) (k : Nat) : upTo l k l.length = marks l k := by simp [upTo]
theorem upTo_length (l : List D) (k i : Nat) (hi : i ≤ l.length) : (upTo l k i).length = l.length := by simp [upTo, marks_length]; omega
theorem cnts_take (l : List D) (i : Nat) (hi : i < l.length) : cnts (l.take (i + 1)) = cnts (l.take i) + l[i].cnt := by
  rw [List.take_add_one, List.getElem?_eq_getElem hi, cnts_append]
  show _ + (l[i].cnt + 0) = _
  omega
theorem upTo_at (l : List D) (k i : Nat) (hi : i < l.length) : (upTo l k i)[i]? = some l[i] := by
  unfold upTo
  rw [List.getElem?_append_right (by rw [marks_length, List.length_take]; omega), marks_length, List.length_take, Nat.min_eq_left (by omega), Nat.sub_self, List.getElem?_drop]
  simp [hi]
theorem upTo_set (l : List D) (k i : Nat) (hi : i < l.length) : (upTo l k i).set i (l[i].mark (k + cnts (l.take i))) = upTo l k (i + 1) := by
  unfold upTo
  have hl : (marks (l.take i) k).length = i := by rw [marks_length, List.length_take]; omega
  rw [List.set_append_right _ _ (by omega), hl, Nat.sub_self, List.drop_eq_getElem_cons hi, List.set_cons_zero, List.take_add_one, List.getElem?_eq_getElem hi, marks_append]
  show _ = (_ ++ [_]) ++ _
  rw [List.append_assoc]
  rfl
theorem marks_at : ∀ (l : List D) (k i : Nat) (hi : i < l.length), (marks l k)[i]? = some (l[i].mark (k + cnts (l.take i)))
  | [], _, _, hi => by cases hi
  | d :: l, k, 0, _ => by simp [marks, cnts]
  | d :: l, k, i + 1, hi => by
    have hi' : i < l.length := by simpa using hi
    show (marks l (k + d.cnt))[i]? = _
    rw [marks_at l (k + d.cnt) i hi']
    show _ = some (l[i].mark (k + (d.cnt + cnts (l.take i))))
    rw [Nat.add_assoc]
theorem cnts_one : ∀ (l : List D), (∀ d ∈ l, d.cnt = 1) → cnts l = l.length
  | [], _ => rfl
  | d :: l, h => by show d.cnt + cnts l = _; rw [h d (by simp), cnts_one l (fun x hx => h x (by simp [hx]))]; simp; omega
theorem cnts_const (c : Nat) : ∀ (l : List D), (∀ d ∈ l, d.cnt = c) → cnts l = l.length * c
  | [], _ => by simp [cnts]
  | d :: l, h => by show d.cnt + cnts l = _; rw [h d (by simp), cnts_const c l (fun x hx => h x (by simp [hx])), List.length_cons, Nat.succ_mul]; omega
/-- a slice that is read: its value; element i: where it lies, what it holds -/
theorem read_row {w : World} {T k : Nat} {l : List D} {v : Value} {bs : List Nat} (h : Own w (rowC T k l) [v] bs) (hk : ∀ d ∈ l, d.len = k) :
    ∃ A n cap, v = .slice A n cap ∧ n = l.length ∧ n ≤ cap ∧ cap ≤ maxLen ∧ ∀ i, i < n → ∃ g o d us b, A = some ⟨g, o, none⟩ ∧ l[i]? = some d ∧ us.length = k ∧ (∀ j, j < k → w.cell? ⟨g, o + i * k + j, none⟩ = us[j]?) ∧ Own w d us b ∧ ∀ x ∈ b, x ∈ bs := by
  obtain ⟨A, cap, rfl, h1, h2, hA⟩ := own_row h hk
  refine ⟨A, _, cap, rfl, rfl, h1, h2, fun i hi => ?_⟩
  obtain ⟨g, o, cur, us, pre, b, post, e1, rfl, hg, hl, hus, hsz, ho, _⟩ := hA i hi
  refine ⟨g, o, _, us, b, e1, List.getElem?_eq_getElem hi, hl, fun j hj => ?_, ho, fun x hx => by simp [hx]⟩
  rw [cell_of_block hg, at_us hus j hj]
theorem at_map {α : Type} {E : α → D} {l : List α} {i : Nat} {d : D} (h : (l.map E)[i]? = some d) : ∃ x, l[i]? = some x ∧ d = E x := by
  rw [List.getElem?_map, Option.map_eq_some_iff] at h
  obtain ⟨x, h1, h2⟩ := h
  exact ⟨x, h1, h2.symm⟩
theorem len_map {α : Type} {E : α → D} {k : Nat} (hE : ∀ x, (E x).len = k) {l : List α} : ∀ d ∈ l.map E, d.len = k := by
  intro d hd
  rw [List.mem_map] at hd
  obtain ⟨x, _, rfl⟩ := hd
  exact hE x
/-- the same, typed: element i is x; its cells us hold 'E x' -/
theorem read_rowD {α : Type} {E : α → D} {w : World} {T k : Nat} {l : List α} {v : Value} {bs : List Nat} (h : Own w (rowD T k E l) [v] bs) (hE : ∀ x, (E x).len = k) :
    ∃ A n cap, v = .slice A n cap ∧ n = l.length ∧ n ≤ cap ∧ cap ≤ maxLen ∧ ∀ i, i < n → ∃ g o x us b, A = some ⟨g, o, none⟩ ∧ l[i]? = some x ∧ us.length = k ∧ (∀ j, j < k → w.cell? ⟨g, o + i * k + j, none⟩ = us[j]?) ∧ Own w (E x) us b ∧ ∀ x ∈ b, x ∈ bs := by
  obtain ⟨A, n, cap, rfl, hn, h1, h2, hA⟩ := read_row h (len_map hE)
  refine ⟨A, n, cap, rfl, by rw [hn, List.length_map], h1, h2, fun i hi => ?_⟩
  obtain ⟨g, o, d, us, b, e1, hd, hl, hc, ho, hb⟩ := hA i hi
  obtain ⟨x, hx, rfl⟩ := at_map hd
  exact ⟨g, o, x, us, b, e1, hx, hl, hc, ho, hb⟩
/-- .. of one plain cell each -/
theorem read_plain {α : Type} {E : α → D} {V : α → Value} {w : World} {T : Nat} {l : List α} {v : Value} {bs : List Nat} (h : Own w (rowD T 1 E l) [v] bs) (hE : ∀ x, E x = .lit (V x) .nil) :
    ∃ A n cap, v = .slice A n cap ∧ n = l.length ∧ n ≤ cap ∧ cap ≤ maxLen ∧ ∀ i, i < n → ∃ g o x, A = some ⟨g, o, none⟩ ∧ l[i]? = some x ∧ w.cell? ⟨g, o + i, none⟩ = some (V x) := by
  obtain ⟨A, n, cap, rfl, hn, h1, h2, hA⟩ := read_rowD h (fun x => by rw [hE]; rfl)
  refine ⟨A, n, cap, rfl, hn, h1, h2, fun i hi => ?_⟩
  obtain ⟨g, o, x, us, b, e1, hx, hl, hc, ho, _⟩ := hA i hi
  rw [hE] at ho
  obtain ⟨vs', rfl, _⟩ := ho
  have := hc 0 (by omega)
  rw [Nat.mul_one, Nat.add_zero] at this
  exact ⟨g, o, x, e1, hx, by rw [this]; rfl⟩
theorem read_ints {w : World} {T : Nat} {l : List Int} {v : Value} {bs : List Nat} (h : Own w (rowD T 1 eI l) [v] bs) :
    ∃ A n cap, v = .slice A n cap ∧ n = l.length ∧ n ≤ cap ∧ cap ≤ maxLen ∧ ∀ i, i < n → ∃ g o x, A = some ⟨g, o, none⟩ ∧ l[i]? = some x ∧ w.cell? ⟨g, o + i, none⟩ = some (.int .i64 x) := read_plain h (fun _ => rfl)
theorem read_bools {w : World} {T : Nat} {l : List Bool} {v : Value} {bs : List Nat} (h : Own w (rowD T 1 eB l) [v] bs) :
    ∃ A n cap, v = .slice A n cap ∧ n = l.length ∧ n ≤ cap ∧ cap ≤ maxLen ∧ ∀ i, i < n → ∃ g o x, A = some ⟨g, o, none⟩ ∧ l[i]? = some x ∧ w.cell? ⟨g, o + i, none⟩ = some (.bool x) := read_plain h (fun _ => rfl)
/-- the lengths of all slices, summed -/
def D.sz : D → Nat
  | .nil => 0
  | .lit _ r => r.sz
  | .row _ _ n c r => n + c.sz + r.sz
theorem sz_app : ∀ a b : D, (a.app b).sz = a.sz + b.sz
  | .nil, _ => by show _ = 0 + _; rw [Nat.zero_add]; rfl
  | .lit _ r, b => by show (r.app b).sz = r.sz + _; rw [sz_app r]
  | .row _ _ n c r, b => by show n + c.sz + (r.app b).sz = n + c.sz + r.sz + _; rw [sz_app r]; omega
def szs : List D → Nat
  | [] => 0
  | d :: l => d.sz + szs l
theorem cat_sz : ∀ l : List D, (D.cat l).sz = szs l
  | [] => rfl
  | d :: l => by show (d.app _).sz = _; rw [sz_app, cat_sz l]; rfl
theorem szs_mem : ∀ {l : List D} {d : D}, d ∈ l → d.sz ≤ szs l
  | x :: l, d, h => by
    rw [List.mem_cons] at h
    show _ ≤ x.sz + szs l
    rcases h with rfl | h
    · omega
    · have := szs_mem h; omega
theorem szs_take_succ : ∀ (l : List D) (i : Nat) (d : D), l[i]? = some d → szs (l.take (i + 1)) = szs (l.take i) + d.sz
  | [], _, _, h => by cases h
  | x :: l, 0, d, h => by
    have : x = d := by simpa using h
    subst this
    show x.sz + 0 = 0 + x.sz
    omega
  | x :: l, i + 1, d, h => by
    show x.sz + szs (l.take (i + 1)) = x.sz + szs (l.take i) + d.sz
    rw [szs_take_succ l i d (by simpa using h)]
    omega
theorem szs_take_le : ∀ (l : List D) (i : Nat), szs (l.take i) ≤ szs l
  | [], _ => by simp [szs]
  | x :: l, 0 => Nat.zero_le _
  | x :: l, i + 1 => by
    show x.sz + szs (l.take i) ≤ x.sz + szs l
    have := szs_take_le l i
    omega
theorem row_sz (T k : Nat) (l : List D) : (rowC T k l).sz = l.length + szs l := by show l.length + (D.cat l).sz + 0 = _; rw [cat_sz]; rfl
theorem rowD_sz {α : Type} (T k : Nat) (E : α → D) (l : List α) : (rowD T k E l).sz = l.length + szs (l.map E) := by unfold rowD; rw [row_sz, List.length_map]
theorem sz_len {α : Type} {T k : Nat} {E : α → D} {l : List α} {n : Nat} (h : (rowD T k E l).sz ≤ n) : l.length ≤ n := by rw [rowD_sz] at h; omega
theorem sz_elem {α : Type} {T k : Nat} {E : α → D} {l : List α} {n i : Nat} {x : α} (h : (rowD T k E l).sz ≤ n) (hx : l[i]? = some x) : (E x).sz ≤ n := by
  rw [rowD_sz] at h
  have : (E x).sz ≤ szs (l.map E) := szs_mem (List.mem_map_of_mem (List.mem_of_getElem? hx))
  omega
/-- a block's cells with those from m on, k of them, turned into us -/
def Mid (cur cur' : Array Value) (m k : Nat) (us : List Value) : Prop := us.length = k ∧ m + k ≤ cur.size ∧ cur'.size = cur.size ∧ cur'.toList = cur.toList.take m ++ (us ++ cur.toList.drop (m + k))
theorem Mid.us {cur cur' : Array Value} {m k : Nat} {us : List Value} (h : Mid cur cur' m k us) : us = (cur'.toList.drop m).take k := by
  obtain ⟨h1, h2, h3, h4⟩ := h
  have hcl : cur.toList.length = cur.size := Array.length_toList
  rw [h4, List.drop_append_of_le_length (by rw [List.length_take]; omega), List.drop_of_length_le (by rw [List.length_take]; omega), List.nil_append, List.take_append_of_le_length (by omega), List.take_of_length_le (by omega)]
theorem Mid.refl {cur : Array Value} {m k : Nat} {us : List Value} (h : us = (cur.toList.drop m).take k) (hm : m + k ≤ cur.size) : Mid cur cur m k us := by
  have hcl : cur.toList.length = cur.size := Array.length_toList
  refine ⟨by rw [h, List.length_take, List.length_drop]; omega, hm, rfl, ?_⟩
  have h1 := List.take_append_drop k (cur.toList.drop m)
  rw [← h, List.drop_drop] at h1
  rw [h1]
  exact (List.take_append_drop m cur.toList).symm
theorem Mid.set {cur cur' : Array Value} {m k : Nat} {us : List Value} (h : Mid cur cur' m k us) (j : Nat) (hj : j < k) (u : Value) : Mid cur (cur'.setIfInBounds (m + j) u) m k (us.set j u) := by
  have hus := h.us
  obtain ⟨h1, h2, h3, h4⟩ := h
  have hcl : cur.toList.length = cur.size := Array.length_toList
  refine ⟨by rw [List.length_set]; exact h1, h2, by rw [Array.size_setIfInBounds]; exact h3, ?_⟩
  rw [set_us hus (by omega) j hj u]
  have e1 : cur'.toList.take m = cur.toList.take m := by rw [h4, List.take_append_of_le_length (by rw [List.length_take]; omega), List.take_take, Nat.min_self]
  have e2 : cur'.toList.drop (m + k) = cur.toList.drop (m + k) := by
    rw [h4, ← List.append_assoc, List.drop_append_of_le_length (by simp only [List.length_append, List.length_take]; omega), List.drop_of_length_le (by simp only [List.length_append, List.length_take]; omega), List.nil_append]
  rw [e1, e2]
/-- ONE ELEMENT OF A SLICE TURNED, whatever else the call makes -/
theorem row_turn {w : World} {T k n cap : Nat} {A : Option Addr} {l : List D} {bs : List Nat} (h : Own w (rowC T k l) [.slice A n cap] bs) (hn : bs.Nodup) (hk : ∀ d ∈ l, d.len = k) {i : Nat} (hi : i < l.length) :
    ∃ g o cur d us b, A = some ⟨g, o, none⟩ ∧ n = l.length ∧ g ∈ bs ∧ w.heap[g]? = some (.cells cur T (0, 0)) ∧ Mid cur cur (o + i * k) k us ∧ l[i]? = some d ∧ Own w d us b ∧ (∀ x ∈ b, x ∈ bs ∧ x ≠ g) ∧ b.Nodup ∧
      ∀ (w' : World) (cur' : Array Value) (us' : List Value) (d' : D) (b' : List Nat), w'.heap[g]? = some (.cells cur' T (0, 0)) → Mid cur cur' (o + i * k) k us' → (∀ x ∈ bs, x ≠ g → x ∉ b → w'.heap[x]? = w.heap[x]?) → Own w' d' us' b' →
        ∃ bs', Own w' (rowC T k (l.set i d')) [.slice A n cap] bs' ∧ (b' = b → bs' = bs) ∧ (∀ x ∈ bs', x ∈ bs ∨ x ∈ b') ∧ (b'.Nodup → (∀ x ∈ b', x ∉ bs ∨ x ∈ b) → bs'.Nodup) := by
  obtain ⟨A', cap', e1, h1, h2, hA⟩ := own_row h hk
  rw [Value.slice.injEq] at e1
  obtain ⟨rfl, rfl, rfl⟩ := e1
  obtain ⟨g, o, cur, us, pre, b, post, rfl, rfl, hg, hl, hus, hsz, ho, hset⟩ := hA i hi
  have hst := mul_step (k := k) hi
  rw [List.nodup_cons] at hn
  obtain ⟨hng, hn⟩ := hn
  rw [List.nodup_append] at hn
  obtain ⟨hn1, hn2, hn3⟩ := hn
  rw [List.nodup_append] at hn2
  obtain ⟨hn4, hn5, hn6⟩ := hn2
  refine ⟨g, o, cur, _, us, b, rfl, rfl, by simp, hg, Mid.refl hus (by omega), List.getElem?_eq_getElem hi, ho, fun x hx => ⟨by simp [hx], fun e => hng (by subst e; simp [hx])⟩, hn4, ?_⟩
  intro w' cur' us' d' b' hg' hm hs ho'
  refine ⟨g :: (pre ++ (b' ++ post)), hset w' d' us' b' cur' ?_ hg' hm.2.2.1 (by have := hm.2.2.2; rw [this]) ((own_len d' ho').symm.trans hm.1) ho', fun e => by rw [e], ?_, ?_⟩
  · intro x hx
    rw [List.mem_append] at hx
    rcases hx with hx | hx
    · exact hs x (by simp [hx]) (fun e => hng (by subst e; simp [hx])) (fun hb => hn3 x hx x (by simp [hb]) rfl)
    · exact hs x (by simp [hx]) (fun e => hng (by subst e; simp [hx])) (fun hb => hn6 x hb x hx rfl)
  · intro x hx
    simp only [List.mem_cons, List.mem_append] at hx ⊢
    rcases hx with hx | hx | hx | hx <;> simp [hx]
  · intro hnb hd
    have hdis : ∀ x ∈ b', x ≠ g ∧ x ∉ pre ∧ x ∉ post := by
      intro x hx
      rcases hd x hx with h9 | h9
      · simp only [List.mem_cons, List.mem_append, not_or] at h9
        exact ⟨h9.1, h9.2.1, h9.2.2.2⟩
      · exact ⟨fun e => hng (by rw [← e]; simp [h9]), fun hp => hn3 x hp x (by simp [h9]) rfl, fun hp => hn6 x h9 x hp rfl⟩
    rw [List.nodup_cons, List.nodup_append, List.nodup_append]
    refine ⟨?_, hn1, ⟨hnb, hn5, fun a ha c hc e => (hdis a ha).2.2 (by rw [e]; exact hc)⟩, ?_⟩
    · intro hm
      simp only [List.mem_append] at hm hng
      rcases hm with hm | hm | hm
      · exact hng (Or.inl hm)
      · exact (hdis g hm).1 rfl
      · exact hng (Or.inr (Or.inr hm))
    · intro a ha c hc e
      subst e
      rw [List.mem_append] at hc
      rcases hc with hc | hc
      · exact (hdis a hc).2.1 ha
      · exact hn3 a ha a (by simp [hc]) rfl
theorem Mid.cell {w : World} {g T m k : Nat} {cur cur' : Array Value} {us : List Value} (h : Mid cur cur' m k us) (hg : w.heap[g]? = some (.cells cur' T (0, 0))) (j : Nat) (hj : j < k) : w.cell? ⟨g, m + j, none⟩ = us[j]? := by
  rw [cell_of_block hg, at_us h.us j hj]
theorem upTo_len {l : List D} {k i e : Nat} (h : ∀ d ∈ l, d.len = e) : ∀ d ∈ upTo l k i, d.len = e := by
  intro d hd
  unfold upTo at hd
  rw [List.mem_append] at hd
  rcases hd with hd | hd
  · obtain ⟨j, hj⟩ := List.getElem?_of_mem hd
    have hjl : j < (l.take i).length := by rw [← marks_length (l.take i) k]; exact (List.getElem?_eq_some_iff.1 hj).1
    rw [marks_at _ _ _ hjl] at hj
    rw [← Option.some.inj hj, mark_len]
    exact h _ (List.mem_of_mem_take (List.getElem_mem hjl))
  · exact h d (List.mem_of_mem_drop hd)
/-- a slice up to its element i marked: element i, and the slice behind its mark -/
theorem up_turn {w : World} {T e n cap k : Nat} {A : Option Addr} {l : List D} {bs : List Nat} {i : Nat} (h : Own w (rowC T e (upTo l k i)) [.slice A n cap] bs) (hn : bs.Nodup) (hk : ∀ d ∈ l, d.len = e) (hi : i < l.length) :
    ∃ g o cur d us b, A = some ⟨g, o, none⟩ ∧ g ∈ bs ∧ w.heap[g]? = some (.cells cur T (0, 0)) ∧ Mid cur cur (o + i * e) e us ∧ l[i]? = some d ∧ Own w d us b ∧ (∀ x ∈ b, x ∈ bs ∧ x ≠ g) ∧ b.Nodup ∧
      ∀ (w' : World) (cur' : Array Value) (us' : List Value), w'.heap[g]? = some (.cells cur' T (0, 0)) → Mid cur cur' (o + i * e) e us' → (∀ x ∈ bs, x ≠ g → x ∉ b → w'.heap[x]? = w.heap[x]?) → Own w' (d.mark (k + cnts (l.take i))) us' b →
        Own w' (rowC T e (upTo l k (i + 1))) [.slice A n cap] bs := by
  obtain ⟨g, o, cur, d, us, b, h1, h2, h3, h4, h5, h6, h7, h8, h9, hset⟩ := row_turn h hn (upTo_len hk) (i := i) (by rw [upTo_length l k i (by omega)]; exact hi)
  have hd : l[i] = d := by
    have := upTo_at l k i hi
    rw [h6] at this
    exact (Option.some.inj this).symm
  refine ⟨g, o, cur, d, us, b, h1, h3, h4, h5, by rw [List.getElem?_eq_getElem hi, hd], h7, h8, h9, fun w' cur' us' hg hm hs ho => ?_⟩
  obtain ⟨bs', hb1, hb2, _⟩ := hset w' cur' us' _ b hg hm hs ho
  rw [hb2 rfl, ← hd, upTo_set l k i hi] at hb1
  exact hb1
def MarkP (d : D) (vs : List Value) (bs : List Nat) (k : Nat) (w : World) (e : Ending) (w' : World) : Prop :=
  e = .returned (.int .i64 ((k + d.cntTop : Nat) : Int)) ∧ Own w' (d.markTop k) vs bs ∧ Turn bs w w'
theorem row_n {α : Type} {T k : Nat} {E : α → D} {l : List α} {w : World} {A : Option Addr} {n cap m : Nat} {bs : List Nat} (h : Own w (rowD T k E l) [.slice A n cap] bs) (hs : (rowD T k E l).sz ≤ m) : n = l.length ∧ n ≤ m := by
  obtain ⟨v', vs', b1, b2, e1, e2, _, h2⟩ := h
  obtain ⟨rfl, _⟩ := List.cons.inj e1
  have hl := sz_len hs
  rcases h2 with ⟨⟨a0, e⟩, hn, _, _⟩ | ⟨g, o, c, cur, b, e, _⟩
  · rw [Value.slice.injEq] at e
    rw [List.length_map] at hn
    omega
  · rw [Value.slice.injEq] at e
    have := e.2.1
    rw [List.length_map] at this
    omega
theorem getElem_of_at {l : List D} {i : Nat} {d : D} (h : l[i]? = some d) {hi : i < l.length} : l[i] = d := by
  rw [List.getElem?_eq_getElem hi] at h
  exact Option.some.inj h
theorem mark_end {α : Type} {T e n cap k q : Nat} {E : α → D} {l : List α} {A : Option Addr} {w wr : World} {bs : List Nat} (hn : n = l.length) (hq : k + cnts (l.map E) = q) (ho : Own wr (rowC T e (upTo (l.map E) k n)) [.slice A n cap] bs) (ht : Turn bs w wr) :
    MarkP (rowD T e E l) [.slice A n cap] bs k w (.returned (.int .i64 q)) wr := by
  subst hq
  refine ⟨by unfold rowD; rw [row_cntTop], ?_, ht⟩
  unfold rowD
  rw [row_markTop, ← upTo_all, List.length_map, ← hn]
  exact ho
theorem mk_bool {b : Bool} {q : Nat} {z : Int} (h : (q : Int) = z) : mk (.bool b) q = .bool (z % 3 == 0) := by
  subst h
  show Value.bool (q % 3 == 0) = _
  congr 1
  rw [Bool.eq_iff_iff]
  simp only [beq_iff_eq]
  omega
theorem cnts_take_le : ∀ (l : List D) (i : Nat), cnts (l.take i) ≤ cnts l
  | [], _ => by simp [cnts]
  | x :: l, 0 => Nat.zero_le _
  | x :: l, i + 1 => by
    show x.cnt + cnts (l.take i) ≤ x.cnt + cnts l
    have := cnts_take_le l i
    omega
theorem own_slice {w : World} {T k : Nat} {l : List D} {v : Value} {bs : List Nat} (h : Own w (rowC T k l) [v] bs) : ∃ A n cap, v = .slice A n cap := by
  obtain ⟨v', vs', b1, b2, e1, e2, _, h2⟩ := h
  obtain ⟨rfl, _⟩ := List.cons.inj e1
  rcases h2 with ⟨⟨a0, rfl⟩, _⟩ | ⟨g, o, c, cur, b, rfl, _⟩
  · exact ⟨_, _, _, rfl⟩
  · exact ⟨_, _, _, rfl⟩
theorem slice_of {w : World} {T k n : Nat} {v : Value} {c : D} {b1 : List Nat} (h : ((∃ a, v = .slice a 0 0) ∧ n = 0 ∧ c = .nil ∧ b1 = []) ∨
       ∃ g o cap cur b, v = .slice (some ⟨g, o, none⟩) n cap ∧ b1 = g :: b ∧ w.heap[g]? = some (.cells cur T (0, 0)) ∧ n ≤ cap ∧ cap ≤ maxLen ∧ o + cap * k ≤ cur.size ∧ Own w c ((cur.toList.drop o).take (n * k)) b) : ∃ A m p, v = .slice A m p := by
  rcases h with ⟨⟨a0, rfl⟩, _⟩ | ⟨g, o, cap, cur, b, rfl, _⟩
  · exact ⟨_, _, _, rfl⟩
  · exact ⟨_, _, _, rfl⟩
theorem own_slice1 {w : World} {T k : Nat} {l : List D} {us : List Value} {bs : List Nat} (h : Own w (rowC T k l) us bs) : ∃ A n cap, us = [.slice A n cap] := by
  have hl := own_len _ h
  match us, hl with
  | [v], _ =>
    obtain ⟨A, n, cap, rfl⟩ := own_slice h
    exact ⟨A, n, cap, rfl⟩
theorem turn_lt {w wr : World} {d : D} {vs : List Value} {bs : List Nat} (he : w.heap.size = wr.heap.size) (h : Own wr d vs bs) {x : Nat} (hx : x ∈ bs) : x < w.heap.size := by
  rw [he]; exact own_lt d h x hx
def HeldP (n : Nat) (w : World) (e : Ending) (w' : World) : Prop := e = .returned (.int .i64 (n : Int)) ∧ Below w.heap.size w w'
def TrueP (w : World) (e : Ending) (w' : World) : Prop := e = .returned (.bool true) ∧ Below w.heap.size w w'
theorem below_drewN {B : Nat} {a w : World} (h : Below B a w) (n : Nat) : Below B a (w.drewN n) := ⟨h.os, h.tape, h.output, h.size, h.block⟩
theorem below_step {w w1 w2 : World} (h : Below w.heap.size w w1) (h2 : Below w1.heap.size w1 w2) : Below w.heap.size w w2 := h.trans (h2.mono h.size)
theorem cell_below {w w' : World} {a : Addr} {v : Value} (hb : Below w.heap.size w w') (h : w.cell? a = some v) : w'.cell? a = some v := (hb.cell (World.block_lt_of_cell? w a h)).trans h
theorem own_split {w : World} {d e : D} {vs : List Value} {bs : List Nat} (h : Own w (d.app e) vs bs) : ∃ b1 b2, bs = b1 ++ b2 ∧ Own w d (vs.take d.len) b1 ∧ Own w e (vs.drop d.len) b2 := by
  obtain ⟨v1, v2, b1, b2, rfl, rfl, h1, h2⟩ := (own_app d e).1 h
  have hl := own_len d h1
  exact ⟨b1, b2, rfl, by rw [List.take_left' hl]; exact h1, by rw [List.drop_left' hl]; exact h2⟩
theorem own_lit {w : World} {x : Value} {vs : List Value} {bs : List Nat} (h : Own w (.lit x .nil) vs bs) : bs = [] := by
  obtain ⟨_, _, _, h⟩ := h; exact h
theorem own_alloc {w : World} {d : D} {vs : List Value} {bs : List Nat} (h : Own w d vs bs) (o : Obj) : Own (w.alloc o) d vs bs :=
  own_same d h (fun b hb => Below.heap_alloc _ _ _ (own_lt d h b hb))
theorem Rd.alloc {w : World} {d : D} {vs : List Value} (h : Rd w d vs) (o : Obj) : Rd (w.alloc o) d vs := h.imp fun _ h => own_alloc h o
theorem rd_split {w : World} {d e : D} {vs : List Value} (h : Rd w (d.app e) vs) : Rd w d (vs.take d.len) ∧ Rd w e (vs.drop d.len) := by
  obtain ⟨bs, h⟩ := h
  obtain ⟨b1, b2, _, h1, h2⟩ := own_split h
  exact ⟨⟨_, h1⟩, ⟨_, h2⟩⟩
theorem rd_slice {w : World} {T k : Nat} {l : List D} {v : Value} (h : Rd w (rowC T k l) [v]) : ∃ A n cap, v = .slice A n cap := by
  obtain ⟨bs, h⟩ := h
  exact own_slice h
/-- a slice whose elements are marked, as it is read -/
theorem read_marks {α : Type} {E : α → D} {w : World} {T e k : Nat} {l : List α} {v : Value} {bs : List Nat} (h : Own w ((rowD T e E l).markTop k) [v] bs) (hE : ∀ x, (E x).len = e) :
    ∃ A n cap, v = .slice A n cap ∧ n = l.length ∧ ∀ i, i < n → ∃ g o x us b, A = some ⟨g, o, none⟩ ∧ l[i]? = some x ∧ us.length = e ∧ (∀ j, j < e → w.cell? ⟨g, o + i * e + j, none⟩ = us[j]?) ∧ Own w ((E x).mark (k + cnts ((l.map E).take i))) us b := by
  unfold rowD at h
  rw [row_markTop] at h
  obtain ⟨A, n, cap, rfl, hn, _, _, hA⟩ := read_row h (by
    intro d hd
    obtain ⟨j, hj⟩ := List.getElem?_of_mem hd
    have hjl : j < (l.map E).length := by rw [← marks_length (l.map E) k]; exact (List.getElem?_eq_some_iff.1 hj).1
    rw [marks_at _ _ _ hjl] at hj
    rw [← Option.some.inj hj, mark_len]
    exact len_map hE _ (List.getElem_mem hjl))
  rw [marks_length, List.length_map] at hn
  refine ⟨A, n, cap, rfl, hn, fun i hi => ?_⟩
  obtain ⟨g, o, d, us, b, e1, hd, hl, hc, ho, _⟩ := hA i hi
  have hil : i < (l.map E).length := by rw [List.length_map]; omega
  rw [marks_at _ _ _ hil] at hd
  obtain ⟨x, hx, he⟩ := at_map (List.getElem?_eq_getElem hil)
  rw [he] at hd
  exact ⟨g, o, x, us, b, e1, hx, hl, hc, by rw [Option.some.inj hd]; exact ho⟩
theorem held_end {α : Type} {T e n k q : Nat} {E : α → D} {l : List α} {w wr : World} (hn : n = l.length) (hq : k + cnts ((l.map E).take n) = q) (ht : Below w.heap.size w wr) :
    HeldP (k + (rowD T e E l).cntTop) w (.returned (.int .i64 q)) wr := by
  rw [hn, ← List.length_map (f := E), List.take_length] at hq
  subst hq
  exact ⟨by unfold rowD; rw [row_cntTop], ht⟩
theorem ret_nat {a b : Nat} (h : a = b) : Ending.returned (.int .i64 (a : Int)) = .returned (.int .i64 (b : Int)) := by rw [h]
/-- data that came in: a slice may lie anywhere, may share, may have spare room -/
def Raw (w : World) : D → List Value → Prop
  | .nil, vs => vs = []
  | .lit x r, vs => ∃ vs', vs = x :: vs' ∧ Raw w r vs'
  | .row _ k n c r, vs => ∃ v vs', vs = v :: vs' ∧ Raw w r vs' ∧
      ((v = .slice none 0 0 ∧ n = 0 ∧ c = .nil) ∨
       ∃ ad cap us, v = .slice (some ad) n cap ∧ n ≤ cap ∧ cap ≤ maxLen ∧ us.length = n * k ∧ (∀ j, j < n * k → w.cell? (ad.add j) = us[j]?) ∧ Raw w c us)
theorem raw_len {w : World} : ∀ (d : D) {vs : List Value}, Raw w d vs → vs.length = d.len
  | .nil, _, h => by rw [h]; rfl
  | .lit _ r, _, h => by obtain ⟨vs', rfl, h⟩ := h; show vs'.length + 1 = _; rw [raw_len r h]; rfl
  | .row _ _ _ _ r, _, h => by obtain ⟨v, vs', rfl, h, _⟩ := h; show vs'.length + 1 = _; rw [raw_len r h]; rfl
theorem raw_below {w w' : World} (hb : Below w.heap.size w w') : ∀ (d : D) {vs : List Value}, Raw w d vs → Raw w' d vs
  | .nil, _, h => h
  | .lit _ r, _, h => by obtain ⟨vs', rfl, h⟩ := h; exact ⟨vs', rfl, raw_below hb r h⟩
  | .row _ _ _ c r, _, h => by
    obtain ⟨v, vs', rfl, h, h2⟩ := h
    refine ⟨v, vs', rfl, raw_below hb r h, ?_⟩
    rcases h2 with h2 | ⟨ad, cap, us, rfl, h3, h4, h5, h6, h7⟩
    · exact Or.inl h2
    · refine Or.inr ⟨ad, cap, us, rfl, h3, h4, h5, fun j hj => ?_, raw_below hb c h7⟩
      have e := h6 j hj
      rw [List.getElem?_eq_getElem (by omega)] at e ⊢
      exact cell_below hb e
theorem raw_app {w : World} : ∀ (d e : D) {vs : List Value}, Raw w (d.app e) vs ↔ ∃ v1 v2, vs = v1 ++ v2 ∧ Raw w d v1 ∧ Raw w e v2
  | .nil, e, vs => by
    constructor
    · intro h; exact ⟨[], vs, rfl, rfl, h⟩
    · rintro ⟨v1, v2, rfl, rfl, h⟩; exact h
  | .lit x r, e, vs => by
    constructor
    · rintro ⟨vs', rfl, h⟩
      obtain ⟨v1, v2, rfl, h1, h2⟩ := (raw_app r e).1 h
      exact ⟨x :: v1, v2, rfl, ⟨v1, rfl, h1⟩, h2⟩
    · rintro ⟨v1, v2, rfl, ⟨v1', rfl, h1⟩, h2⟩
      exact ⟨v1' ++ v2, rfl, (raw_app r e).2 ⟨v1', v2, rfl, h1, h2⟩⟩
  | .row T k n c r, e, vs => by
    constructor
    · rintro ⟨v, vs', rfl, h, h2⟩
      obtain ⟨v1, v2, rfl, h1, h3⟩ := (raw_app r e).1 h
      exact ⟨v :: v1, v2, rfl, ⟨v, v1, rfl, h1, h2⟩, h3⟩
    · rintro ⟨v1, v2, rfl, ⟨v, v1', rfl, h1, h3⟩, h2⟩
      exact ⟨v, v1' ++ v2, rfl, (raw_app r e).2 ⟨v1', v2, rfl, h1, h2⟩, h3⟩
theorem raw_split {w : World} {d e : D} {vs : List Value} (h : Raw w (d.app e) vs) : Raw w d (vs.take d.len) ∧ Raw w e (vs.drop d.len) := by
  obtain ⟨v1, v2, rfl, h1, h2⟩ := (raw_app d e).1 h
  have hl := raw_len d h1
  exact ⟨by rw [List.take_left' hl]; exact h1, by rw [List.drop_left' hl]; exact h2⟩
theorem raw_cat {w : World} (k : Nat) : ∀ (l : List D) {us : List Value}, (∀ d ∈ l, d.len = k) → Raw w (D.cat l) us → ∀ i (hi : i < l.length), Raw w l[i] ((us.drop (i * k)).take k)
  | [], _, _, _, i, hi => by cases hi
  | d :: l, us, hk, h, 0, _ => by
    obtain ⟨v1, v2, rfl, h1, h2⟩ := (raw_app d (D.cat l)).1 h
    have hl1 : v1.length = k := (raw_len d h1).trans (hk d (by simp))
    simp only [Nat.zero_mul, List.drop_zero]
    rw [List.take_left' hl1]
    exact h1
  | d :: l, us, hk, h, i + 1, hi => by
    obtain ⟨v1, v2, rfl, h1, h2⟩ := (raw_app d (D.cat l)).1 h
    have hl1 : v1.length = k := (raw_len d h1).trans (hk d (by simp))
    have e1 : (i + 1) * k = v1.length + i * k := by rw [Nat.succ_mul, hl1]; omega
    rw [e1, ← List.drop_drop, List.drop_left]
    exact raw_cat k l (fun x hx => hk x (by simp [hx])) h2 i (by simpa using hi)
theorem addr_of_cell {w : World} {a : Addr} {v : Value} (h : w.cell? a = some v) : a = ⟨a.block, a.off, none⟩ := by
  obtain ⟨b, o, s⟩ := a
  cases s with
  | none => rfl
  | some x =>
    unfold World.cell? at h
    simp only [Option.isSome_some, ↓reduceIte] at h
    split at h <;> cases h
/-- a slice that came in -/
theorem read_raw {α : Type} {E : α → D} {w : World} {T k : Nat} {l : List α} {v : Value} (h : Raw w (rowD T k E l) [v]) (hE : ∀ x, (E x).len = k) (hk : 0 < k) :
    ∃ A n cap, v = .slice A n cap ∧ n = l.length ∧ n ≤ 9223372036854775807 ∧ ∀ i, i < n → ∃ g o x us, A = some ⟨g, o, none⟩ ∧ l[i]? = some x ∧ us.length = k ∧ (∀ j, j < k → w.cell? ⟨g, o + i * k + j, none⟩ = us[j]?) ∧ Raw w (E x) us := by
  obtain ⟨v', vs', e1, _, h2⟩ := h
  obtain ⟨rfl, rfl⟩ := List.cons.inj e1
  rcases h2 with ⟨rfl, hn, _⟩ | ⟨ad, cap, us, rfl, hc, hm, hl, hcell, hr⟩
  · rw [List.length_map] at hn
    exact ⟨none, 0, 0, rfl, hn.symm, by omega, fun i hi => by omega⟩
  · refine ⟨some ad, _, cap, rfl, List.length_map _, by unfold maxLen at hm; omega, fun i hi => ?_⟩
    have hst := mul_step (k := k) hi
    have hr' := raw_cat k (l.map E) (len_map hE) hr i hi
    obtain ⟨x, hx, he⟩ := at_map (List.getElem?_eq_getElem hi)
    rw [he] at hr'
    have h0 := hcell 0 (by omega)
    rw [List.getElem?_eq_getElem (by omega)] at h0
    have ha : ad.add 0 = ad := by unfold Addr.add; rw [if_pos rfl]
    rw [ha] at h0
    have e := addr_of_cell h0
    refine ⟨ad.block, ad.off, x, _, by rw [← e], hx, by rw [List.length_take, List.length_drop]; omega, fun j hj => ?_, hr'⟩
    have h1 := hcell (i * k + j) (by omega)
    rw [e, Addr.add_lit] at h1
    rw [Nat.add_assoc, h1, List.getElem?_take, if_pos hj, List.getElem?_drop]
theorem szs_zero {α : Type} {E : α → D} (h : ∀ x, (E x).sz = 0) : ∀ {l : List α}, szs (l.map E) = 0
  | [] => rfl
  | x :: l => by show (E x).sz + szs (l.map E) = 0; rw [h x, szs_zero h]
theorem ret_int {a b : Int} (h : a = b) : Ending.returned (.int .i64 a) = .returned (.int .i64 b) := by rw [h]
def SzP (s m : Nat) (w : World) (e : Ending) (w' : World) : Prop :=
  ((∃ q : Nat, s + q = m ∧ e = .returned (.int .i64 (q : Int))) ∨ (m < s ∧ e = .returned (.int .i64 (-1)))) ∧ Below w.heap.size w w'
/-- what comes back in memory of its own -/
theorem owned_slice {w : World} {B T k : Nat} {l : List D} {v : Value} (h : Owned w B (rowC T k l) [v]) : ∃ A n cap, v = .slice A n cap := by
  obtain ⟨bs, h, _⟩ := h
  exact own_slice h
/-- a store into a block below the call's own cells leaves them -/
theorem Owned.setCell {w : World} {B : Nat} {d : D} {vs : List Value} (h : Owned w B d vs) {p : Addr} (hp : p.block < B) (u : Value) : Owned (w.setCell p u) B d vs := by
  obtain ⟨bs, h1, h2, h3⟩ := h
  exact ⟨bs, own_same d h1 (fun b hb => Below.heap_setCell _ _ _ _ (by have := h3 b hb; omega)), h2, h3⟩
theorem Owned.alloc {w : World} {B : Nat} {d : D} {vs : List Value} (h : Owned w B d vs) (o : Obj) : Owned (w.alloc o) B d vs := by
  obtain ⟨bs, h1, h2⟩ := h
  exact ⟨bs, own_alloc h1 o, h2⟩
def OwnP1 (d : D) (w : World) (e : Ending) (w' : World) : Prop := ∃ v, e = .returned v ∧ Owned w' w.heap.size d [v] ∧ Below w.heap.size w w'
def OwnPA (d : D) (w : World) (e : Ending) (w' : World) : Prop := ∃ us : List Value, e = .returned (.agg us.toArray) ∧ Owned w' w.heap.size d us ∧ Below w.heap.size w w'
theorem own_rep {w : World} {k : Nat} {z : D} {zc : List Value} (hz : Own w z zc []) (hk : zc.length = k) : ∀ (n : Nat) (us : List Value), us.length = n * k → (∀ j, j < n * k → us[j]? = zc[j % k]?) → Own w (D.cat (List.replicate n z)) us []
  | 0, us, hl, _ => ⟨List.length_eq_zero_iff.1 (by simpa using hl), rfl⟩
  | n + 1, us, hl, hj => by
    have hs : (n + 1) * k = k + n * k := by rw [Nat.succ_mul]; omega
    show Own w (z.app (D.cat (List.replicate n z))) us []
    refine (own_app _ _).2 ⟨us.take k, us.drop k, [], [], (List.take_append_drop k us).symm, rfl, ?_, own_rep hz hk n (us.drop k) (by rw [List.length_drop]; omega) (fun j hj' => ?_)⟩
    · have e : us.take k = zc := by
        apply List.ext_getElem?
        intro j
        rw [List.getElem?_take]
        by_cases h : j < k
        · rw [if_pos h, hj j (by omega), Nat.mod_eq_of_lt h]
        · rw [if_neg h, List.getElem?_eq_none (by omega)]
      rw [e]; exact hz
    · rw [List.getElem?_drop, hj (k + j) (by omega), Nat.add_mod_left]
theorem made_at {zc : List Value} {m j : Nat} (hj : j < m) (h0 : 0 < zc.length) : (madeCells zc.toArray m).toList[j]? = zc[j % zc.length]? := by
  have hm : j % zc.length < zc.length := Nat.mod_lt _ h0
  rw [Array.getElem?_toList]
  simp [madeCells, hj, hm]
/-- a slice as make gives it -/
theorem own_made {w : World} {B T k n : Nat} {z : D} {zc : List Value} {g : Nat} (h : w.ownsRow B T k (.slice (some ⟨g, 0, none⟩) n n) n (madeCells zc.toArray (n * k)).toList) (hz : Own w z zc []) (hk : zc.length = k) (h0 : 0 < k) (hl : z.len = k) :
    Own w (rowC T k (List.replicate n z)) [.slice (some ⟨g, 0, none⟩) n n] [g] := by
  rcases h.2 with ⟨e, _⟩ | ⟨g', cap, cur, e, hb, hg, hc, hm, hs, ht⟩
  · cases e
  · rw [Value.slice.injEq] at e
    obtain ⟨e1, _, rfl⟩ := e
    obtain rfl : g = g' := by simpa using e1
    refine ⟨_, [], [g], [], rfl, rfl, ⟨rfl, rfl⟩, Or.inr ⟨g, 0, n, cur, [], by rw [List.length_replicate], rfl, hg, by rw [List.length_replicate]; exact Nat.le_refl _, hm, by omega, ?_⟩⟩
    rw [List.drop_zero, List.length_replicate, ht]
    exact own_rep hz hk n _ (by rw [Array.length_toList, size_madeCells]) (fun j hj => by rw [made_at hj (by omega), hk])
def fillTo {α : Type} (E : α → D) (z : D) (l : List α) (i : Nat) : List D := (l.take i).map E ++ List.replicate (l.length - i) z
theorem fill_zero {α : Type} (E : α → D) (z : D) (l : List α) : fillTo E z l 0 = List.replicate l.length z := by simp [fillTo]
theorem fill_all {α : Type} (E : α → D) (z : D) (l : List α) : fillTo E z l l.length = l.map E := by simp [fillTo]
theorem fill_length {α : Type} (E : α → D) (z : D) (l : List α) (i : Nat) (h : i ≤ l.length) : (fillTo E z l i).length = l.length := by simp [fillTo]; omega
theorem fill_set {α : Type} (E : α → D) (z : D) (l : List α) (i : Nat) (x : α) (h : l[i]? = some x) : (fillTo E z l i).set i (E x) = fillTo E z l (i + 1) := by
  have hi : i < l.length := (List.getElem?_eq_some_iff.1 h).1
  unfold fillTo
  have hl : ((l.take i).map E).length = i := by rw [List.length_map, List.length_take]; omega
  rw [List.set_append_right _ _ (by omega), hl, Nat.sub_self, show l.length - i = (l.length - (i + 1)) + 1 by omega, List.replicate_succ, List.set_cons_zero, List.take_add_one, h, List.map_append, List.append_assoc]
  rfl
theorem fill_at {α : Type} (E : α → D) (z : D) (l : List α) (i : Nat) (h : i < l.length) : (fillTo E z l i)[i]? = some z := by
  unfold fillTo
  have hl : ((l.take i).map E).length = i := by rw [List.length_map, List.length_take]; omega
  rw [List.getElem?_append_right (by omega), hl, Nat.sub_self, show l.length - i = (l.length - (i + 1)) + 1 by omega, List.replicate_succ]
  rfl
theorem fill_len {α : Type} {E : α → D} {z : D} {l : List α} {i k : Nat} (hE : ∀ x, (E x).len = k) (hz : z.len = k) : ∀ d ∈ fillTo E z l i, d.len = k := by
  intro d hd
  unfold fillTo at hd
  rw [List.mem_append] at hd
  rcases hd with hd | hd
  · exact len_map hE d hd
  · rw [(List.mem_replicate.1 hd).2]; exact hz
/-- one more element filled in: what it takes of the world in between -/
theorem fill_turn {α : Type} {E : α → D} {z : D} {w : World} {T k n cap B : Nat} {A : Option Addr} {l : List α} {bs : List Nat} {i : Nat} {x : α} (h : Own w (rowC T k (fillTo E z l i)) [.slice A n cap] bs) (hn : bs.Nodup) (hB : ∀ b ∈ bs, B ≤ b) (hE : ∀ x, (E x).len = k) (hz : z.len = k) (hx : l[i]? = some x) :
    ∃ g o cur us, A = some ⟨g, o, none⟩ ∧ g ∈ bs ∧ w.heap[g]? = some (.cells cur T (0, 0)) ∧ Mid cur cur (o + i * k) k us ∧
      ∀ (w' : World) (cur' : Array Value) (us' : List Value) (b' : List Nat), w'.heap[g]? = some (.cells cur' T (0, 0)) → Mid cur cur' (o + i * k) k us' → (∀ y ∈ bs, y ≠ g → w'.heap[y]? = w.heap[y]?) → Own w' (E x) us' b' → b'.Nodup → (∀ y ∈ b', B ≤ y ∧ y ∉ bs) →
        ∃ bs', Own w' (rowC T k (fillTo E z l (i + 1))) [.slice A n cap] bs' ∧ bs'.Nodup ∧ ∀ b ∈ bs', B ≤ b := by
  have hi : i < l.length := (List.getElem?_eq_some_iff.1 hx).1
  obtain ⟨g, o, cur, d, us, b, h1, h2, h3, h4, h5, h6, h7, h8, h9, hset⟩ := row_turn h hn (fill_len hE hz) (i := i) (by rw [fill_length _ _ _ _ (by omega)]; exact hi)
  have hd : d = z := by
    rw [fill_at E z l i hi] at h6
    exact (Option.some.inj h6).symm
  subst hd
  refine ⟨g, o, cur, us, h1, h3, h4, h5, fun w' cur' us' b' hg hm hs ho hnb hd => ?_⟩
  obtain ⟨bs', g1, _, g2, g3⟩ := hset w' cur' us' (E x) b' hg hm (fun y hy1 hy2 _ => hs y hy1 hy2) ho
  rw [fill_set E _ l i x hx] at g1
  refine ⟨bs', g1, g3 hnb (fun y hy => Or.inl (hd y hy).2), fun y hy => ?_⟩
  rcases g2 y hy with hy | hy
  · exact hB y hy
  · exact (hd y hy).1
/-- the ends of functions whose results lie in cells -/
theorem results_c {P : Program} {fn : Func} {p : Tmp} {ty : TypeId} (h : fn.results = #[.cell p ty]) (tmps : Array Value) (w : World) :
    (results fn tmps).run P w = ((asAddr (tmps.getD p undef)).run P w).andThen fun a w₁ => (loadVar ty a).run P w₁ := by
  simp only [results, h]
  simp [Sem.run_bind, Result.andThen]
theorem results_ct {P : Program} {fn : Func} {p u : Tmp} {ty : TypeId} (h : fn.results = #[.cell p ty, .tmp u]) (tmps : Array Value) (w : World) :
    (results fn tmps).run P w = ((asAddr (tmps.getD p undef)).run P w).andThen fun a w₁ => ((loadVar ty a).run P w₁).andThen fun v w₂ => .ok (.tuple #[v, tmps.getD u undef]) w₂ := by
  simp only [results, h]
  simp [Sem.run_bind, Result.andThen]
theorem results_ctt {P : Program} {fn : Func} {p u u2 : Tmp} {ty : TypeId} (h : fn.results = #[.cell p ty, .tmp u, .tmp u2]) (tmps : Array Value) (w : World) :
    (results fn tmps).run P w = ((asAddr (tmps.getD p undef)).run P w).andThen fun a w₁ => ((loadVar ty a).run P w₁).andThen fun v w₂ => .ok (.tuple #[v, tmps.getD u undef, tmps.getD u2 undef]) w₂ := by
  simp only [results, h]
  simp [Sem.run_bind, Result.andThen]
section
variable {P : Program} {fn : Func} {R : Ending → World → Prop} {a : Act} {w : World} {p u u2 : Tmp} {ty t g : Nat} {cs : Array Value} {d : TypeDesc}
theorem run_var (hg : w.heap[g]? = some (.cells cs t (0, 0))) (hu : P.underlying ty = some d) (hd : (match d with | .struct _ | .array _ _ => true | _ => false) = true) (hi : (P.info? ty).map (·.size) = some cs.size) :
    (loadVar ty ⟨g, 0, none⟩).run P w = .ok (.agg cs) w := run_loadVar_row w g t ty cs (0, 0) d hg hu hd hi
theorem ret_c (h : fn.results = #[.cell p ty]) (hg : w.heap[g]? = some (.cells cs t (0, 0))) (hp : a.tmps.getD p undef = .pointer (some ⟨g, 0, none⟩)) (hu : P.underlying ty = some d) (hd : (match d with | .struct _ | .array _ _ => true | _ => false) = true) (hi : (P.info? ty).map (·.size) = some cs.size)
    (hdf : a.defers = []) (hR : R (.returned (.agg cs)) w) : bodyPost P fn R .ret a w := by
  refine bodyPost_ret ?_ hdf hR
  rw [results_c h, hp]
  simp only [asAddr, Sem.run_pure, Result.andThen_ok]
  exact run_var hg hu hd hi
theorem ret_ct (h : fn.results = #[.cell p ty, .tmp u]) (hg : w.heap[g]? = some (.cells cs t (0, 0))) (hp : a.tmps.getD p undef = .pointer (some ⟨g, 0, none⟩)) (hu : P.underlying ty = some d) (hd : (match d with | .struct _ | .array _ _ => true | _ => false) = true) (hi : (P.info? ty).map (·.size) = some cs.size)
    (hdf : a.defers = []) (hR : R (.returned (.tuple #[.agg cs, a.tmps.getD u undef])) w) : bodyPost P fn R .ret a w := by
  refine bodyPost_ret ?_ hdf hR
  rw [results_ct h, hp]
  simp only [asAddr, Sem.run_pure, Result.andThen_ok, run_var hg hu hd hi]
theorem ret_ctt (h : fn.results = #[.cell p ty, .tmp u, .tmp u2]) (hg : w.heap[g]? = some (.cells cs t (0, 0))) (hp : a.tmps.getD p undef = .pointer (some ⟨g, 0, none⟩)) (hu : P.underlying ty = some d) (hd : (match d with | .struct _ | .array _ _ => true | _ => false) = true) (hi : (P.info? ty).map (·.size) = some cs.size)
    (hdf : a.defers = []) (hR : R (.returned (.tuple #[.agg cs, a.tmps.getD u undef, a.tmps.getD u2 undef])) w) : bodyPost P fn R .ret a w := by
  refine bodyPost_ret ?_ hdf hR
  rw [results_ctt h, hp]
  simp only [asAddr, Sem.run_pure, Result.andThen_ok, run_var hg hu hd hi]
end
/-- the call's own cells, their blocks from lo on and below hi -/
def OwnIn (w : World) (lo hi : Nat) (d : D) (vs : List Value) : Prop := ∃ bs, Own w d vs bs ∧ bs.Nodup ∧ ∀ b ∈ bs, lo ≤ b ∧ b < hi
theorem OwnIn.rd {w : World} {lo hi : Nat} {d : D} {vs : List Value} (h : OwnIn w lo hi d vs) : Rd w d vs := h.imp fun _ h => h.1
theorem Owned.toIn {w : World} {lo hi : Nat} {d : D} {vs : List Value} (h : Owned w lo d vs) (hh : w.heap.size ≤ hi) : OwnIn w lo hi d vs := by
  obtain ⟨bs, h1, h2, h3⟩ := h
  exact ⟨bs, h1, h2, fun b hb => ⟨h3 b hb, Nat.lt_of_lt_of_le (own_lt d h1 b hb) hh⟩⟩
theorem OwnIn.below {w w' : World} {lo hi : Nat} {d : D} {vs : List Value} (h : OwnIn w lo hi d vs) (hb : Below w.heap.size w w') : OwnIn w' lo hi d vs := by
  obtain ⟨bs, h1, h2⟩ := h
  exact ⟨bs, own_below h1 hb (own_lt d h1), h2⟩
/-- the blocks from lo on, below hi, may have turned -/
structure TurnIn (lo hi : Nat) (w w' : World) : Prop where
  os : w'.os = w.os
  tape : w'.tape = w.tape
  output : w'.output = w.output
  size : w.heap.size ≤ w'.heap.size
  block : ∀ k, k < w.heap.size → (k < lo ∨ hi ≤ k) → w'.heap[k]? = w.heap[k]?
theorem OwnIn.turn {w w' : World} {lo hi l2 h2 : Nat} {d : D} {vs : List Value} (h : OwnIn w lo hi d vs) (ht : TurnIn l2 h2 w w') (hd : hi ≤ l2 ∨ h2 ≤ lo) : OwnIn w' lo hi d vs := by
  obtain ⟨bs, g1, g2, g3⟩ := h
  exact ⟨bs, own_same d g1 (fun b hb => ht.block b (own_lt d g1 b hb) (by have := g3 b hb; omega)), g2, g3⟩
theorem TurnIn.below {w w' : World} {lo hi B : Nat} (ht : TurnIn lo hi w w') (hB : B ≤ lo) (hs : B ≤ w.heap.size) : Below B w w' :=
  ⟨ht.os, ht.tape, ht.output, ht.size, fun k hk => ht.block k (by omega) (by omega)⟩
def MarkIn (lo hi : Nat) (d : D) (vs : List Value) (k : Nat) (w : World) (e : Ending) (w' : World) : Prop :=
  e = .returned (.int .i64 ((k + d.cntTop : Nat) : Int)) ∧ OwnIn w' lo hi (d.markTop k) vs ∧ TurnIn lo hi w w'
theorem mark_in {P : Program} {f : FuncId} {args : Array Value} {w : World} {lo hi : Nat} {d : D} {vs : List Value} {k : Nat} (h : OwnIn w lo hi d vs) (hm : ∀ bs, Own w d vs bs → bs.Nodup → Calls P f args w (MarkP d vs bs k w)) : Calls P f args w (MarkIn lo hi d vs k w) := by
  obtain ⟨bs, h1, h2, h3⟩ := h
  refine (hm bs h1 h2).mono ?_
  rintro e w' ⟨rfl, h4, h5⟩
  exact ⟨rfl, ⟨bs, h4, h2, h3⟩, ⟨h5.os, h5.tape, h5.output, h5.size, fun k hk hd => h5.block k hk (fun hb => by have := h3 k hb; omega)⟩⟩
def RetP (v : Value) (w : World) (e : Ending) (w' : World) : Prop := e = .returned v ∧ Below w.heap.size w w'
def RetM (f : List Value → Value) (d : D) (w : World) (e : Ending) (w' : World) : Prop := ∃ us, e = .returned (f us) ∧ Owned w' w.heap.size d us ∧ Below w.heap.size w w'
/-- counts of cells against lengths -/
theorem cnts_le {c : Nat} : ∀ {l : List D}, (∀ d ∈ l, d.cnt ≤ c + 16 * d.sz) → cnts l ≤ l.length * c + 16 * szs l
  | [], _ => by simp [cnts, szs]
  | d :: l, h => by
    have h1 := h d (by simp)
    have h2 := cnts_le (c := c) (l := l) (fun x hx => h x (by simp [hx]))
    show d.cnt + cnts l ≤ (l.length + 1) * c + 16 * (d.sz + szs l)
    rw [Nat.succ_mul]
    omega
theorem cnt_row {α : Type} {T k : Nat} {E : α → D} (hE : ∀ x, (E x).cnt ≤ 16 + 16 * (E x).sz) (l : List α) : (rowD T k E l).cnt ≤ 16 * (rowD T k E l).sz := by
  rw [rowD_sz]
  have e : (rowD T k E l).cnt = cnts (l.map E) := by unfold rowD; rw [row_cnt]
  rw [e]
  have := cnts_le (c := 16) (l := l.map E) (by intro d hd; rw [List.mem_map] at hd; obtain ⟨x, _, rfl⟩ := hd; exact hE x)
  rw [List.length_map] at this
  omega
theorem cntTop_le : ∀ d : D, d.cntTop ≤ d.cnt
  | .nil => Nat.le_refl _
  | .lit _ r => by show r.cntTop ≤ r.cnt + 1; have := cntTop_le r; omega
  | .row _ _ _ c r => by show c.cnt + r.cntTop ≤ c.cnt + r.cnt; have := cntTop_le r; omega
/-- plain values only, each one cell -/
def D.flat : D → Prop
  | .nil => True
  | .lit v r => v.oneCell' = true ∧ r.flat
  | .row _ _ _ _ _ => False
theorem flat_app : ∀ {a b : D}, a.flat → b.flat → (a.app b).flat
  | .nil, _, _, h => h
  | .lit _ _, _, h1, h2 => ⟨h1.1, flat_app h1.2 h2⟩
theorem flat_cat : ∀ {l : List D}, (∀ d ∈ l, d.flat) → (D.cat l).flat
  | [], _ => trivial
  | d :: l, h => flat_app (h d (by simp)) (flat_cat (fun x hx => h x (by simp [hx])))
theorem flat_map {α : Type} {E : α → D} (h : ∀ x, (E x).flat) (l : List α) : ∀ d ∈ l.map E, d.flat := by
  intro d hd
  rw [List.mem_map] at hd
  obtain ⟨x, _, rfl⟩ := hd
  exact h x
theorem own_flat {w : World} : ∀ {d : D} {us : List Value} {b : List Nat}, d.flat → Own w d us b → b = [] ∧ (∀ u ∈ us, u.oneCell' = true) ∧ ∀ w', Own w' d us []
  | .nil, us, _, _, h => ⟨h.2, (fun (u : Value) (hu : u ∈ us) => by rw [h.1] at hu; cases hu), (fun _ => ⟨h.1, rfl⟩)⟩
  | .lit v r, _, _, hf, h => by
    obtain ⟨vs', rfl, h⟩ := h
    obtain ⟨h1, h2, h3⟩ := own_flat hf.2 h
    refine ⟨h1, fun u hu => ?_, fun w' => ⟨vs', rfl, h3 w'⟩⟩
    rw [List.mem_cons] at hu
    rcases hu with rfl | hu
    · exact hf.1
    · exact h2 u hu
/-- a row of the library's laws as the call's own cells -/
theorem own_of_row {w : World} {B T k n : Nat} {v : Value} {xs : List Value} {l : List D} {b : List Nat} (h : w.ownsRow B T k v n xs) (hn : l.length = n) (hl : ∀ d ∈ l, d.len = k) (ho : Own w (D.cat l) xs b) : ∃ bs, Own w (rowC T k l) [v] (bs ++ b) ∧ bs.Nodup ∧ ∀ x ∈ bs, B ≤ x ∧ v.ownBlock = some x := by
  obtain ⟨h1, h2⟩ := h
  rcases h2 with ⟨rfl, h0⟩ | ⟨g, cap, cur, rfl, hb, hg, hc, hm, hs, ht⟩
  · have hl0 : l = [] := List.length_eq_zero_iff.1 (by omega)
    subst hl0
    obtain ⟨rfl, rfl⟩ := ho
    exact ⟨[], ⟨_, [], [], [], rfl, rfl, ⟨rfl, rfl⟩, Or.inl ⟨⟨none, rfl⟩, rfl, rfl, rfl⟩⟩, by simp, by simp⟩
  · refine ⟨[g], ⟨_, [], g :: b, [], rfl, by simp, ⟨rfl, rfl⟩, Or.inr ⟨g, 0, cap, cur, b, by rw [hn], rfl, hg, by omega, hm, by omega, ?_⟩⟩, by simp, fun x hx => ?_⟩
    · rw [List.drop_zero, hn, ht]; exact ho
    · obtain rfl : x = g := by simpa using hx
      exact ⟨hb, rfl⟩
/-- the cells behind a slice that is read -/
theorem own_cells {w : World} {T k n cap : Nat} {A : Option Addr} {l : List D} {bs : List Nat} (h : Own w (rowC T k l) [.slice A n cap] bs) (hl : ∀ d ∈ l, d.len = k) :
    n = l.length ∧ ∃ us b, Own w (D.cat l) us b ∧ us.length = n * k ∧ ((A = none ∧ n = 0 ∧ cap = 0) ∨ ∃ ad, A = some ad ∧ ∀ j u, us[j]? = some u → w.cell? (ad.add j) = some u) := by
  obtain ⟨v', vs', b1, b2, e1, e2, _, h2⟩ := h
  obtain ⟨rfl, _⟩ := List.cons.inj e1
  rcases h2 with ⟨⟨a0, e⟩, hn, hc, _⟩ | ⟨g, o, c, cur, b, e, _, hg, hcap, hm, hs, ho⟩
  · rw [Value.slice.injEq] at e
    obtain ⟨rfl, rfl, rfl⟩ := e
    refine ⟨hn.symm, [], [], by rw [hc]; exact ⟨rfl, rfl⟩, by simp, ?_⟩
    cases A with
    | none => exact Or.inl ⟨rfl, rfl, rfl⟩
    | some ad => exact Or.inr ⟨ad, rfl, fun j u hu => by simp at hu⟩
  · rw [Value.slice.injEq] at e
    obtain ⟨rfl, rfl, rfl⟩ := e
    have hle : l.length * k ≤ cap * k := Nat.mul_le_mul_right k hcap
    have hcl : cur.toList.length = cur.size := Array.length_toList
    refine ⟨rfl, _, b, ho, ?_, Or.inr ⟨_, rfl, fun j u hu => ?_⟩⟩
    · rw [List.length_take, List.length_drop]; omega
    · rw [Addr.add_lit, cell_of_block hg]
      rw [List.getElem?_take] at hu
      split at hu
      · rw [List.getElem?_drop, Array.getElem?_toList] at hu; exact hu
      · cases hu
section
variable {P : Program} {w : World} {ops : Array Oper} {rest : List Oper} {o : Oper} {a : Act} {Q : Exit → Act → World → Prop}
/-- 'append(T{}, src...)': a copy in memory of the call's own; the elements plain -/
theorem wpList_copy_flat (hgd : o.guard = none) (s x : Operand) (t : TypeId) (ho : o.op = .call { callee := .builtin .append, args := #[s, x], argTypes := #[t, t] })
    (base : Nat) (e : TypeId) (i : TypeInfo) (z : Value) (size bytes : Nat) (ht : P.underlying t = some (.slice e)) (hi : P.info? e = some i) (hz : i.zero = some z) (hsize : i.size = size) (hby : i.bytes = bytes) (hzs : z.cells.size = size) (hsz : 0 < size)
    (v : Value) (hs : a.eval s = v) (hown : w.ownsRow base e size v 0 []) (A : Option Addr) (n cap : Nat) (hx : a.eval x = .slice A n cap) {T : Nat} {α : Type} (E : α → D) (l : List α) (bs : List Nat) (hsrc : Own w (rowD T size E l) [.slice A n cap] bs) (hE : ∀ x, (E x).len = size) (hfl : ∀ x, (E x).flat)
    (hn : n ≤ 1000000000) (hbytes : bytes ≤ 1000) (hbase : base ≤ w.heap.size)
    (h : ∀ v' w', Owned w' base (rowD e size E l) [v'] → w.grownBy w' v.ownBlock → wpList P ops Q rest (a.put o.dst v') w') : wpList P ops Q (o :: rest) a w := by
  have hl := len_map hE (l := l)
  have hf := flat_map hfl l
  unfold rowD at h hsrc
  generalize l.map E = l at *
  obtain ⟨hnl, us, b, hc, hul, hA⟩ := own_cells hsrc hl
  obtain ⟨rfl, h1, hc'⟩ := own_flat (flat_cat hf) hc
  rcases hA with ⟨rfl, rfl, rfl⟩ | ⟨ad, rfl, hcell⟩
  · have hl0 : l = [] := List.length_eq_zero_iff.1 hnl.symm
    subst hl0
    refine wpList_append_own_none hgd s x t ho base e i size ht hi v 0 [] hs hown hx (h v w ?_ ⟨rfl, rfl, rfl, Nat.le_refl _, fun _ _ _ => rfl⟩)
    obtain ⟨bs', g1, g2, g3⟩ := own_of_row (l := []) hown rfl (by simp) ⟨rfl, rfl⟩
    exact ⟨bs' ++ [], g1, by simpa using g2, fun x hx => (g3 x (by simpa using hx)).1⟩
  · refine wpList_append_own w hgd s x t ho base e i z size bytes ht hi hz hsize hby hzs hsz v 0 [] hs hown ad n cap us hx hul hcell h1 (by unfold maxLen; omega) (by have : n * bytes ≤ 1000000000 * 1000 := Nat.mul_le_mul hn hbytes; rw [Nat.zero_add]; omega) hbase ?_
    intro v' w' hown' hgrow _
    refine h v' w' ?_ hgrow
    rw [Nat.zero_add, List.nil_append] at hown'
    obtain ⟨bs', g1, g2, g3⟩ := own_of_row (l := l) hown' hnl.symm hl (hc' w')
    exact ⟨bs' ++ [], g1, by simpa using g2, fun x hx => (g3 x (by simpa using hx)).1⟩
end
/-- .. at a step of a region that draws its order -/
theorem step_copy_flat {P : Program} {ops : Array Oper} {o : Oper} {a : Act} {w : World} {K : Act → World → Prop} {Q : Exit → Act → World → Prop} {EE : Prop} (hgd : o.guard = none) (s x : Operand) (t : TypeId) (ho : o.op = .call { callee := .builtin .append, args := #[s, x], argTypes := #[t, t] })
    (base : Nat) (e : TypeId) (i : TypeInfo) (z : Value) (size bytes : Nat) (ht : P.underlying t = some (.slice e)) (hi : P.info? e = some i) (hz : i.zero = some z) (hsize : i.size = size) (hby : i.bytes = bytes) (hzs : z.cells.size = size) (hsz : 0 < size)
    (v : Value) (hs : a.eval s = v) (hown : w.ownsRow base e size v 0 []) (A : Option Addr) (n cap : Nat) (hx : a.eval x = .slice A n cap) {T : Nat} {α : Type} (E : α → D) (l : List α) (bs : List Nat) (hsrc : Own w (rowD T size E l) [.slice A n cap] bs) (hE : ∀ x, (E x).len = size) (hfl : ∀ x, (E x).flat)
    (hn : n ≤ 1000000000) (hbytes : bytes ≤ 1000) (hbase : base ≤ w.heap.size)
    (h : ∀ v' w', Owned w' base (rowD e size E l) [v'] → w.grownBy w' v.ownBlock → K (a.put o.dst v') w') : if Region.wanted o (yielded ops a.tmps) = true then Oper.wp P o a w K Q else EE := by
  have hw : Region.wanted o (yielded ops a.tmps) = true := by simp [Region.wanted, hgd]
  rw [if_pos hw]
  have hl := len_map hE (l := l)
  have hf := flat_map hfl l
  unfold rowD at h hsrc
  generalize l.map E = l at *
  obtain ⟨hnl, us, b, hc, hul, hA⟩ := own_cells hsrc hl
  obtain ⟨rfl, h1, hc'⟩ := own_flat (flat_cat hf) hc
  rcases hA with ⟨rfl, rfl, rfl⟩ | ⟨ad, rfl, hcell⟩
  · have hl0 : l = [] := List.length_eq_zero_iff.1 hnl.symm
    subst hl0
    have hrun := run_append_owned_none (P := P) (w := w) base t o.type e i size ht hi v 0 [] hown
    unfold Oper.wp
    simp [execOp, ho, resolve, invoke, builtin, hs, hx, hrun, Result.andThen]
    refine h v w ?_ ⟨rfl, rfl, rfl, Nat.le_refl _, fun _ _ _ => rfl⟩
    obtain ⟨bs', g1, g2, g3⟩ := own_of_row (l := []) hown rfl (by simp) ⟨rfl, rfl⟩
    exact ⟨bs' ++ [], g1, by simpa using g2, fun x hx => (g3 x (by simpa using hx)).1⟩
  · obtain ⟨v', w', hrun, r1, r2, _⟩ := run_append_own (P := P) w base t o.type e i z size bytes ht hi hz hsize hby hzs hsz v 0 [] hown ad n cap us hul hcell h1 (by unfold maxLen; omega) (by have : n * bytes ≤ 1000000000 * 1000 := Nat.mul_le_mul hn hbytes; rw [Nat.zero_add]; omega) hbase
    unfold Oper.wp
    simp [execOp, ho, resolve, invoke, builtin, hs, hx, hrun, Result.andThen]
    refine h v' w' ?_ r2
    rw [Nat.zero_add, List.nil_append] at r1
    obtain ⟨bs', g1, g2, g3⟩ := own_of_row (l := l) r1 hnl.symm hl (hc' w')
    exact ⟨bs' ++ [], g1, by simpa using g2, fun x hx => (g3 x (by simpa using hx)).1⟩
theorem own_ints (w : World) : ∀ l : List Int, Own w (D.cat (l.map eI)) (l.map (Value.int .i64)) []
  | [] => ⟨rfl, rfl⟩
  | x :: l => ⟨_, rfl, own_ints w l⟩
theorem own_bools (w : World) : ∀ l : List Bool, Own w (D.cat (l.map eB)) (l.map Value.bool) []
  | [] => ⟨rfl, rfl⟩
  | x :: l => ⟨_, rfl, own_bools w l⟩
theorem ints_owned {w : World} {B T n : Nat} {v : Value} {l : List Int} (h : w.ownsRow B T 1 v n (l.map (Value.int .i64))) (hn : l.length = n) : Owned w B (rowD T 1 eI l) [v] := by
  obtain ⟨bs, h1, h2, h3⟩ := own_of_row (l := l.map eI) h (by rw [List.length_map]; exact hn) (len_map (E := eI) (k := 1) (fun _ => rfl)) (own_ints w l)
  rw [List.append_nil] at h1
  exact ⟨bs, h1, h2, fun b hb => (h3 b hb).1⟩
theorem bools_owned {w : World} {B T n : Nat} {v : Value} {l : List Bool} (h : w.ownsRow B T 1 v n (l.map Value.bool)) (hn : l.length = n) : Owned w B (rowD T 1 eB l) [v] := by
  obtain ⟨bs, h1, h2, h3⟩ := own_of_row (l := l.map eB) h (by rw [List.length_map]; exact hn) (len_map (E := eB) (k := 1) (fun _ => rfl)) (own_bools w l)
  rw [List.append_nil] at h1
  exact ⟨bs, h1, h2, fun b hb => (h3 b hb).1⟩
/-- one element of a slice of the call's own stored anew, all its cells plain -/
theorem owned_store {w : World} {B T k n cap : Nat} {A : Option Addr} {α : Type} {E : α → D} {l : List α} (h : Owned w B (rowD T k E l) [.slice A n cap]) (hE : ∀ x, (E x).len = k) {i : Nat} (hi : i < n) (x : α) {us' : List Value} (hu : ∀ w', Own w' (E x) us' []) :
    ∃ g o cur us, A = some ⟨g, o, none⟩ ∧ B ≤ g ∧ w.heap[g]? = some (.cells cur T (0, 0)) ∧ Mid cur cur (o + i * k) k us ∧
      ∀ (w' : World) (cur' : Array Value), w'.heap[g]? = some (.cells cur' T (0, 0)) → Mid cur cur' (o + i * k) k us' → (∀ y, y ≠ g → w'.heap[y]? = w.heap[y]?) → Owned w' B (rowD T k E (l.set i x)) [.slice A n cap] := by
  obtain ⟨bs, h1, h2, h3⟩ := h
  have hn : n = (l.map E).length := by
    exact (own_cells h1 (len_map hE)).1
  obtain ⟨g, o, cur, d, us, b, e1, _, hg, hh, hm, hd, ho, hb, hbn, hset⟩ := row_turn h1 h2 (len_map hE) (i := i) (by omega)
  refine ⟨g, o, cur, us, e1, h3 g hg, hh, hm, fun w' cur' hg' hm' hs => ?_⟩
  obtain ⟨bs', q1, _, q2, q3⟩ := hset w' cur' us' (E x) [] hg' hm' (fun y hy hyg _ => hs y hyg) (hu w')
  rw [← List.map_set] at q1
  exact ⟨bs', q1, q3 List.nodup_nil (fun y hy => by cases hy), fun y hy => by rcases q2 y hy with hy | hy; exact h3 y hy; cases hy⟩
end Tr
end Go.Proofs.Ytgeakpeodhhffaa

/- Lemmas for the proofs, part 1 of 7: a symbolic run of the program, and what it needs. -/
import Derived.SevenTiedAt
import Derived.Conc.Holds
import Derived.Leaving
import Derived.Handed
import Derived.Conc.LeavingOf
import Derived.Deep.DeepHandedRow
import Derived.OneCell
import Derived.OwnWalk
import Derived.Below
import Derived.RowKit
import Derived.Lib.Hide
import Derived.Deep.Draws
import Derived.Laws.Rows
import Derived.Laws.AppendOwn
import Derived.Laws.AppendOwnNone
import Derived.Tactics
import Derived.Deep.Slices
import Derived.ChangeArms
import Derived.ChangeShapes
import Derived.Conc.Neutral
import Derived.Conc.Listed
import Derived.Laws.Sem
import GoSem.Dispatch
import Derived.Conc.CompanyDraw
import Derived.Conc.Own3
import Derived.Conc.Own5
import Derived.Deep.LoopGhost
import Derived.Scope
import Derived.Orders
import Derived.Conc.Fork
import Derived.Laws.IdiomCopy
set_option linter.unusedVariables false
set_option linter.unusedSimpArgs false
set_option maxRecDepth 100000
namespace Go.Proofs.YtfiofmaknndpcaaGreatDoor
open Go
theorem ql4 (Lk : Looks) {p : Pinned} {s : OpenSpec} {c : OpenClaim} (kinds : List LaidKind) (tests : Bool) (har : Bool × String) (lk : Bool)
  (hc : c.holds p s) (hw : c.wfByText s = true)
  (htie : c.laidByTextAt Lk p kinds tests)
  (hst : c.start = .entering) (hnb : c.noBlocks = false /\ c.again = false) (hm : p.checked.prog.mainIs = some (har.1, har.2.toList)) (hn : (!har.1 && har.2.isEmpty && !lk) = false)
  (hl : ∀ f fn, p.checked.prog.funcNamed c.func = some f -> p.checked.prog.funcs[f]? = some fn -> lk = p.checked.prog.looks [] /\ ∀ (j : Nat) t, fn.params[j]? = some t -> p.checked.prog.wantsStandIn t = false)
  (hg : true = c.goesBy p.checked.prog) :
  Claim7.holds p (.plain s) { stood := { row := c, standIns := [], harness := har, looks := lk }, kinds := [], alts := [], goes := true, laidByText := true, laidKinds := kinds, laidTests := tests, laidLooks := Lk } := by
 have h6 : ∀ r : OpenClaim, Claim7.isSixth { stood := { row := r, standIns := [], harness := har, looks := lk }, kinds := [] } = false := fun r => by simpa [Claim7.isSixth] using hn
 exact ⟨Claim7.tied_new_at Lk kinds tests (Claim7.new_of_sixth hc har lk hst hnb hm (h6 c) hl) hw, (fun D hD => by cases hD), htie, (fun h => by cases h), hg⟩
end Go.Proofs.YtfiofmaknndpcaaGreatDoor
namespace Go.Proofs.YtfiofmaknndpcaaGreatDoor
open Go Go.Conc
section
variable {H : Type} {enc : TypeId × Value -> H}
theorem qmu {a : Assume} {C : Checked} {os : Os} {f : FuncId} {fn : Func} {s : ChangeSpec} {conds : List PathCond} {apart fresh handsOn again : Bool} {laid : List (String × DataW Unit)}
  (own : ownKnob C.prog.godebug = none) (started : os.Started) (hfn : C.prog.funcs[f]? = some fn)
  (witness : ∃ (w : World) (tape : Tape) (i : Input), w.os = os /\ (w.forCall tape i).Shaped C.prog /\ i.vars = [] /\ Input.okWide C.prog (w.forCall tape i) .any w.heap.size f i ∧
   (OpenSpec.ofChange s).preRow enc C.prog fn conds apart laid (w.forCall tape i).memory i.args /\ a.holds C.prog (lone (Frame.enter C.prog f i.args .normal) [] (w.forCall tape i)))
  (runs : ∀ (W : World) (base : Nat) (args : Array Value) (ds gs : List (DataW H)) (before : List MemPlace),
   (∀ (j : Nat) t v, fn.params[j]? = some t -> args[j]? = some v -> Value.okWide C.prog W .any base t v) →
   DataW.Whole enc C.prog fn.params.toList s.vars apart W args.toList ds gs before →
   laidMetH C.prog laid W →
   ∃ M last o w' t', runNT C.prog (M + 1) (solo (G (Frame.enter C.prog f args .normal) []) W) #[] = (.ended o w', t') /\ runN C.prog M (solo (G (Frame.enter C.prog f args .normal) []) W) = .next last ∧
    step C.prog last = .ended o w' /\ Conc.Good C.prog (fun v W' => s.post enc C.prog fn apart fresh handsOn again W args v W') last o w' t') :
  ReturnsInLeavingWide a C os f .any ((OpenSpec.ofChange s).preRow enc C.prog fn conds apart laid) (s.post enc C.prog fn apart fresh handsOn again) := by
 refine returnsInLeavingWide_of_good own started witness ?_
 intro w tape i _ hsh _ hok hpre hholds
 obtain ⟨_, _, _, fn', hfn', _, _, _, _, hval⟩ := hok
 have e : fn' = fn := Option.some.inj (hfn'.symm.trans hfn)
 subst e
 obtain ⟨⟨hp, hl⟩, hz⟩ := hpre
 obtain ⟨ds, gs, before, hw, hc, hk⟩ := OpenSpec.pre_parts hp
 have hw' := DataW.Whole.of_heap (w' := w.forCall tape i) (by rfl) hw
 obtain ⟨M, last, o, w', t', h1, h2, h3, h4⟩ := runs (w.forCall tape i) w.heap.size i.args ds gs before hval hw' (hl.of_heap (by rfl))
 exact ⟨M, last, o, w', t', h1, h2, h3, h4.mono fun v hp => ChangeSpec.post_blind hp⟩
end
end Go.Proofs.YtfiofmaknndpcaaGreatDoor
namespace Go.Proofs.YtfiofmaknndpcaaGreatDoor
open Go.RowKit
namespace Tr
inductive D where
 | nil
 | lit (v : Value) (r : D)
 | row (T k n : Nat) (c r : D)
def D.app : D -> D -> D
 | .nil, d => d
 | .lit v r, d => .lit v (r.app d)
 | .row T k n c r, d => .row T k n c (r.app d)
def D.len : D -> Nat
 | .nil => 0
 | .lit _ r => r.len + 1
 | .row _ _ _ _ r => r.len + 1
def D.cat : List D -> D
 | [] => .nil
 | d :: l => d.app (D.cat l)
theorem D.app_assoc : ∀ a b c : D, (a.app b).app c = a.app (b.app c)
 | .nil, _, _ => rfl
 | .lit _ r, b, c => by show D.lit _ ((r.app b).app c) = D.lit _ (r.app (b.app c)); rw [D.app_assoc r]
 | .row _ _ _ _ r, b, c => by show D.row _ _ _ _ ((r.app b).app c) = D.row _ _ _ _ (r.app (b.app c)); rw [D.app_assoc r]
theorem D.len_app : ∀ a b : D, (a.app b).len = a.len + b.len
 | .nil, _ => by show _ = 0 + _; rw [Nat.zero_add]; rfl
 | .lit _ r, b => by show (r.app b).len + 1 = r.len + 1 + _; rw [D.len_app r]; omega
 | .row _ _ _ _ r, b => by show (r.app b).len + 1 = r.len + 1 + _; rw [D.len_app r]; omega
theorem D.cat_append : ∀ l m : List D, D.cat (l ++ m) = (D.cat l).app (D.cat m)
 | [], _ => rfl
 | d :: l, m => by show d.app (D.cat (l ++ m)) = (d.app (D.cat l)).app (D.cat m); rw [D.cat_append l, D.app_assoc]
theorem D.len_cat (k : Nat) : ∀ l : List D, (∀ d ∈ l, d.len = k) -> (D.cat l).len = l.length * k
 | [], _ => by simp [D.cat, D.len]
 | d :: l, h => by
  show (d.app (D.cat l)).len = _
  rw [D.len_app, h d (by simp), D.len_cat k l (fun x hx => h x (by simp [hx])), List.length_cons, Nat.succ_mul]
  omega
def Own (w : World) : D -> List Value -> List Nat -> Prop
 | .nil, vs, bs => vs = [] /\ bs = []
 | .lit x r, vs, bs => ∃ vs', vs = x :: vs' /\ Own w r vs' bs
 | .row T k n c r, vs, bs => ∃ v vs' b1 b2, vs = v :: vs' /\ bs = b1 ++ b2 /\ Own w r vs' b2 ∧
   (((∃ a, v = .slice a 0 0) /\ n = 0 /\ c = .nil /\ b1 = []) ∨
    ∃ g o cap cur b, v = .slice (some ⟨g, o, none⟩) n cap /\ b1 = g :: b /\ w.heap[g]? = some (.cells cur T (0, 0)) /\ n <= cap /\ cap <= maxLen /\ o + cap * k <= cur.size /\ Own w c ((cur.toList.drop o).take (n * k)) b)
def Rd (w : World) (d : D) (vs : List Value) : Prop := ∃ bs, Own w d vs bs
def qjj (w : World) (B : Nat) (d : D) (vs : List Value) : Prop := ∃ bs, Own w d vs bs /\ bs.Nodup /\ ∀ b ∈ bs, B <= b
theorem qjj.mono {w : World} {B B' : Nat} {d : D} {vs : List Value} (h : qjj w B d vs) (hb : B' <= B) : qjj w B' d vs := by
 obtain ⟨bs, h1, h2, h3⟩ := h
 exact ⟨bs, h1, h2, fun b hb' => Nat.le_trans hb (h3 b hb')⟩
theorem qdj {w : World} : ∀ (d : D) {vs : List Value} {bs : List Nat}, Own w d vs bs -> vs.length = d.len
 | .nil, _, _, h => by rw [h.1]; rfl
 | .lit _ r, _, _, h => by obtain ⟨vs', rfl, h⟩ := h; show vs'.length + 1 = _; rw [qdj r h]; rfl
 | .row _ _ _ _ r, _, _, h => by obtain ⟨v, vs', b1, b2, rfl, rfl, h, _⟩ := h; show vs'.length + 1 = _; rw [qdj r h]; rfl
theorem qi1 {w : World} : ∀ (d : D) {vs : List Value} {bs : List Nat}, Own w d vs bs -> ∀ b ∈ bs, b < w.heap.size
 | .nil, _, _, h, b, hb => by rw [h.2] at hb; cases hb
 | .lit _ r, _, _, h, b, hb => by obtain ⟨vs', rfl, h⟩ := h; exact qi1 r h b hb
 | .row _ _ _ c r, _, _, h, x, hb => by
  obtain ⟨v, vs', b1, b2, rfl, rfl, h, h2⟩ := h
  rw [List.mem_append] at hb
  rcases hb with hb | hb
  ·rcases h2 with ⟨_, _, _, rfl⟩ | ⟨g, o, cap, cur, b, rfl, rfl, hg, _, _, _, hc⟩
   ·cases hb
   ·rw [List.mem_cons] at hb
    rcases hb with rfl | hb
    ·exact lt_of_block hg
    ·exact qi1 c hc x hb
  ·exact qi1 r h x hb
theorem qbr {w w' : World} : ∀ (d : D) {vs : List Value} {bs : List Nat}, Own w d vs bs -> (∀ b ∈ bs, w'.heap[b]? = w.heap[b]?) -> Own w' d vs bs
 | .nil, _, _, h, _ => h
 | .lit _ r, _, _, h, hs => by obtain ⟨vs', rfl, h⟩ := h; exact ⟨vs', rfl, qbr r h hs⟩
 | .row _ _ _ c r, _, _, h, hs => by
  obtain ⟨v, vs', b1, b2, rfl, rfl, h, h2⟩ := h
  refine ⟨v, vs', b1, b2, rfl, rfl, qbr r h (fun b hb => hs b (by simp [hb])), ?_⟩
  rcases h2 with h2 | ⟨g, o, cap, cur, b, rfl, rfl, hg, h3, h4, h5, hc⟩
  ·exact Or.inl h2
  ·exact Or.inr ⟨g, o, cap, cur, b, rfl, rfl, (hs g (by simp)).trans hg, h3, h4, h5, qbr c hc (fun x hx => hs x (by simp [hx]))⟩
theorem qby {w : World} : ∀ (d e : D) {vs : List Value} {bs : List Nat}, Own w (d.app e) vs bs ↔ ∃ v1 v2 b1 b2, vs = v1 ++ v2 /\ bs = b1 ++ b2 /\ Own w d v1 b1 /\ Own w e v2 b2
 | .nil, e, vs, bs => by
  constructor
  ·intro h; exact ⟨[], vs, [], bs, rfl, rfl, ⟨rfl, rfl⟩, h⟩
  ·rintro ⟨v1, v2, b1, b2, rfl, rfl, ⟨rfl, rfl⟩, h⟩; exact h
 | .lit x r, e, vs, bs => by
  constructor
  ·rintro ⟨vs', rfl, h⟩
   obtain ⟨v1, v2, b1, b2, rfl, rfl, h1, h2⟩ := (qby r e).1 h
   exact ⟨x :: v1, v2, b1, b2, rfl, rfl, ⟨v1, rfl, h1⟩, h2⟩
  ·rintro ⟨v1, v2, b1, b2, rfl, rfl, ⟨v1', rfl, h1⟩, h2⟩
   exact ⟨v1' ++ v2, rfl, (qby r e).2 ⟨v1', v2, b1, b2, rfl, rfl, h1, h2⟩⟩
 | .row T k n c r, e, vs, bs => by
  constructor
  ·rintro ⟨v, vs', b1, b2, rfl, rfl, h, h2⟩
   obtain ⟨v1, v2, c1, c2, rfl, rfl, h1, h3⟩ := (qby r e).1 h
   exact ⟨v :: v1, v2, b1 ++ c1, c2, rfl, (List.append_assoc _ _ _).symm, ⟨v, v1, b1, c1, rfl, rfl, h1, h2⟩, h3⟩
  ·rintro ⟨v1, v2, b1, b2, rfl, rfl, ⟨v, v1', c1, c2, rfl, rfl, h1, h3⟩, h2⟩
   exact ⟨v, v1' ++ v2, c1, c2 ++ b2, rfl, List.append_assoc _ _ _, (qby r e).2 ⟨v1', v2, c2, b2, rfl, rfl, h1, h2⟩, h3⟩
theorem Rd.app {w : World} {d e : D} {v1 v2 : List Value} (h1 : Rd w d v1) (h2 : Rd w e v2) : Rd w (d.app e) (v1 ++ v2) := by
 obtain ⟨b1, h1⟩ := h1
 obtain ⟨b2, h2⟩ := h2
 exact ⟨_, (qby d e).2 ⟨_, _, _, _, rfl, rfl, h1, h2⟩⟩
theorem qjj.app {w : World} {B M : Nat} {d e : D} {v1 v2 : List Value} (h1 : qjj w B d v1) (h2 : qjj w M e v2) (hm : ∀ bs, Own w d v1 bs -> ∀ b ∈ bs, b < M) (hB : B <= M) : qjj w B (d.app e) (v1 ++ v2) := by
 obtain ⟨b1, h1, n1, l1⟩ := h1
 obtain ⟨b2, h2, n2, l2⟩ := h2
 refine ⟨b1 ++ b2, (qby d e).2 ⟨_, _, _, _, rfl, rfl, h1, h2⟩, ?_, ?_⟩
 ·rw [List.nodup_append]
  exact ⟨n1, n2, fun a ha b hb e => by subst e; have := hm b1 h1 a ha; have := l2 a hb; omega⟩
 ·intro b hb
  rw [List.mem_append] at hb
  rcases hb with hb | hb
  ·exact l1 b hb
  ·exact Nat.le_trans hB (l2 b hb)
theorem quu {w : World} (k : Nat) : ∀ (l : List D) {us : List Value} {bs : List Nat}, (∀ d ∈ l, d.len = k) -> Own w (D.cat l) us bs -> ∀ i (hi : i < l.length),
  ∃ pre b post, bs = pre ++ (b ++ post) /\ us.length = l.length * k /\ Own w l[i] ((us.drop (i * k)).take k) b ∧
   ∀ (w' : World) (d' : D) (us' : List Value) (b' : List Nat), (∀ x ∈ pre ++ post, w'.heap[x]? = w.heap[x]?) -> Own w' d' us' b' →
    Own w' (D.cat (l.set i d')) (us.take (i * k) ++ (us' ++ us.drop (i * k + k))) (pre ++ (b' ++ post))
 | [], _, _, _, _, i, hi => by cases hi
 | d :: l, us, bs, hk, h, 0, _ => by
  obtain ⟨v1, v2, b1, b2, rfl, rfl, h1, h2⟩ := (qby d (D.cat l)).1 h
  have hl1 : v1.length = k := (qdj d h1).trans (hk d (by simp))
  have hl2 : v2.length = l.length * k := (qdj _ h2).trans (D.len_cat k l (fun x hx => hk x (by simp [hx])))
  refine ⟨[], b1, b2, rfl, by simp [hl1, hl2, Nat.succ_mul, Nat.add_comm], ?_, ?_⟩
  ·simp only [Nat.zero_mul, List.drop_zero]
   rw [List.take_left' hl1]
   exact h1
  ·intro w' d' us' b' hs h'
   simp only [Nat.zero_mul, List.take_zero, List.nil_append, Nat.zero_add]
   rw [List.drop_left' hl1]
   exact (qby d' (D.cat l)).2 ⟨_, _, _, _, rfl, rfl, h', qbr _ h2 (fun x hx => hs x (by simpa using hx))⟩
 | d :: l, us, bs, hk, h, i + 1, hi => by
  obtain ⟨v1, v2, b1, b2, rfl, rfl, h1, h2⟩ := (qby d (D.cat l)).1 h
  have hl1 : v1.length = k := (qdj d h1).trans (hk d (by simp))
  obtain ⟨pre, b, post, rfl, hlen, hi', hset⟩ := quu k l (fun x hx => hk x (by simp [hx])) h2 i (by simpa using hi)
  have e1 : (i + 1) * k = v1.length + i * k := by rw [Nat.succ_mul, hl1]; omega
  refine ⟨b1 ++ pre, b, post, by simp, by simp [hl1, hlen, Nat.succ_mul, Nat.add_comm], ?_, ?_⟩
  ·rw [e1, ← List.drop_drop, List.drop_left]
   exact hi'
  ·intro w' d' us' b' hs h'
   have hrest := hset w' d' us' b' (fun x hx => hs x (by rw [List.mem_append] at hx ⊢; rcases hx with hx | hx <;> simp [hx])) h'
   have e2 : List.take ((i + 1) * k) (v1 ++ v2) = v1 ++ v2.take (i * k) := by rw [e1, List.take_append, List.take_of_length_le (by omega)]; congr 2; omega
   have e3 : List.drop ((i + 1) * k + k) (v1 ++ v2) = v2.drop (i * k + k) := by rw [e1, Nat.add_assoc, ← List.drop_drop, List.drop_left]
   rw [e2, e3]
   have := (qby d (D.cat (l.set i d'))).2 ⟨v1, _, b1, _, rfl, rfl, qbr d h1 (fun x hx => hs x (by simp [hx])), hrest⟩
   show Own w' (d.app (D.cat (l.set i d'))) _ _
   simpa [List.append_assoc] using this
def rowC (T k : Nat) (l : List D) : D := .row T k l.length (D.cat l) .nil
def rowD {α : Type} (T k : Nat) (E : α -> D) (l : List α) : D := rowC T k (l.map E)
theorem qwm {cur : List Value} {o m k : Nat} {us' : List Value} (n : Nat) (hl : us'.length = k) (hk : m + k <= n) (hc : o + n <= cur.length) :
  ((cur.take (o + m) ++ (us' ++ cur.drop (o + m + k))).drop o).take n = ((cur.drop o).take n).take m ++ (us' ++ ((cur.drop o).take n).drop (m + k)) := by
 apply List.ext_getElem?
 intro j
 by_cases h1 : j < n
 ·rw [List.getElem?_take, if_pos h1, List.getElem?_drop]
  by_cases h2 : j < m
  ·rw [List.getElem?_append_left (by rw [List.length_take]; omega), List.getElem?_append_left (by simp only [List.length_take, List.length_drop]; omega)]
   rw [List.getElem?_take, if_pos (by omega), List.getElem?_take, if_pos h2, List.getElem?_take, if_pos h1, List.getElem?_drop]
  ·rw [List.getElem?_append_right (l₁ := List.take (o + m) cur) (by rw [List.length_take]; omega), List.getElem?_append_right (l₁ := List.take m (List.take n (List.drop o cur))) (by simp only [List.length_take, List.length_drop]; omega)]
   have e1 : (List.take (o + m) cur).length = o + m := by rw [List.length_take]; omega
   have e2 : (List.take m (List.take n (List.drop o cur))).length = m := by simp only [List.length_take, List.length_drop]; omega
   rw [e1, e2]
   by_cases h3 : j < m + k
   ·rw [List.getElem?_append_left (by omega), List.getElem?_append_left (by omega)]
    congr 1; omega
   ·rw [List.getElem?_append_right (l₁ := us') (by omega), List.getElem?_append_right (l₁ := us') (by omega), List.getElem?_drop, List.getElem?_drop, List.getElem?_take, if_pos (by omega), List.getElem?_drop]
    congr 1; omega
 ·rw [List.getElem?_take, if_neg h1]
  symm
  rw [List.getElem?_eq_none]
  simp only [List.length_append, List.length_take, List.length_drop]
  omega
theorem qqw {i n k : Nat} (h : i < n) : i * k + k <= n * k := by rw [← Nat.succ_mul]; exact Nat.mul_le_mul_right k h
theorem qjk {w : World} {T k : Nat} {l : List D} {v : Value} {bs : List Nat} (h : Own w (rowC T k l) [v] bs) (hk : ∀ d ∈ l, d.len = k) :
  ∃ A cap, v = .slice A l.length cap /\ l.length <= cap /\ cap <= maxLen /\ ∀ i (hi : i < l.length), ∃ g o cur us pre b post, A = some ⟨g, o, none⟩ /\ bs = g :: (pre ++ (b ++ post)) /\ w.heap[g]? = some (.cells cur T (0, 0)) ∧
   us.length = k /\ us = (cur.toList.drop (o + i * k)).take k /\ o + l.length * k <= cur.size /\ Own w l[i] us b ∧
   ∀ (w' : World) (d' : D) (us' : List Value) (b' : List Nat) (cur' : Array Value), (∀ x ∈ pre ++ post, w'.heap[x]? = w.heap[x]?) -> w'.heap[g]? = some (.cells cur' T (0, 0)) -> cur'.size = cur.size →
    cur'.toList = cur.toList.take (o + i * k) ++ (us' ++ cur.toList.drop (o + i * k + k)) -> d'.len = k -> Own w' d' us' b' -> Own w' (rowC T k (l.set i d')) [v] (g :: (pre ++ (b' ++ post))) := by
 obtain ⟨v', vs', b1, b2, e1, e2, ⟨rfl, rfl⟩, h2⟩ := h
 obtain ⟨rfl, _⟩ := List.cons.inj e1
 rw [List.append_nil] at e2
 subst e2
 rcases h2 with ⟨⟨a0, rfl⟩, hn, _, _⟩ | ⟨g, o, cap, cur, b, rfl, rfl, hg, hcap, hmax, hsz, hc⟩
 ·exact ⟨a0, 0, by rw [hn], by omega, Nat.zero_le _, fun i hi => by omega⟩
 ·refine ⟨_, _, rfl, hcap, hmax, fun i hi => ?_⟩
  obtain ⟨pre, b', post, rfl, hlen, hi', hset⟩ := quu k l hk hc i hi
  have hle : l.length * k <= cap * k := Nat.mul_le_mul_right k hcap
  have hst := qqw (k := k) hi
  have hus : (((cur.toList.drop o).take (l.length * k)).drop (i * k)).take k = (cur.toList.drop (o + i * k)).take k := by
   rw [List.drop_take, List.drop_drop, List.take_take, Nat.min_eq_left (by omega)]
  refine ⟨g, o, cur, _, pre, b', post, rfl, rfl, hg, ?_, rfl, by omega, ?_, ?_⟩
  ·rw [List.length_take, List.length_drop, Array.length_toList]; omega
  ·rw [← hus]; exact hi'
  ·intro w' d' us' b'' cur' hs hg' hsz' hcur hd' ho'
   refine ⟨_, [], g :: (pre ++ (b'' ++ post)), [], rfl, by simp, ⟨rfl, rfl⟩, Or.inr ⟨g, o, cap, cur', _, by rw [List.length_set], rfl, hg', by rw [List.length_set]; exact hcap, hmax, by omega, ?_⟩⟩
   have hcl : cur.toList.length = cur.size := Array.length_toList
   rw [List.length_set, hcur, qwm (l.length * k) ((qdj _ ho').trans hd') hst (by omega)]
   exact hset w' d' us' b'' hs ho'
theorem cell_of_block {w : World} {g : Nat} {cur : Array Value} {T : Nat} (h : w.heap[g]? = some (.cells cur T (0, 0))) (j : Nat) : w.cell? ⟨g, j, none⟩ = cur[j]? := by simp [World.cell?, h]
theorem qit {w : World} {g : Nat} {cur : Array Value} {T : Nat} (h : w.heap[g]? = some (.cells cur T (0, 0))) (j : Nat) : w.frozen? ⟨g, j, none⟩ = false := by simp [World.frozen?, h]
theorem qwn {w : World} {g : Nat} {cur : Array Value} {T : Nat} (h : w.heap[g]? = some (.cells cur T (0, 0))) (j : Nat) (u : Value) : (w.setCell ⟨g, j, none⟩ u).heap[g]? = some (.cells (cur.setIfInBounds j u) T (0, 0)) := by
 simp [World.setCell, Array.getElem?_modify, h]
theorem q8k {cur : Array Value} {us : List Value} {m k : Nat} (h : us = (cur.toList.drop m).take k) (j : Nat) (hj : j < k) : cur[m + j]? = us[j]? := by
 rw [h, List.getElem?_take, if_pos hj, List.getElem?_drop, Array.getElem?_toList]
theorem q7c {cur : Array Value} {us : List Value} {m k : Nat} (h : us = (cur.toList.drop m).take k) (hm : m + k <= cur.size) (j : Nat) (hj : j < k) (u : Value) :
  (cur.setIfInBounds (m + j) u).toList = cur.toList.take m ++ ((us.set j u) ++ cur.toList.drop (m + k)) := by
 have hul : us.length = k := by rw [h, List.length_take, List.length_drop, Array.length_toList]; omega
 have hcl : cur.toList.length = cur.size := Array.length_toList
 apply List.ext_getElem?
 intro x
 rw [Array.toList_setIfInBounds, List.getElem?_set]
 by_cases h1 : x < m
 ·rw [if_neg (by omega), List.getElem?_append_left (by rw [List.length_take]; omega), List.getElem?_take, if_pos h1]
 ·rw [List.getElem?_append_right (by rw [List.length_take]; omega)]
  have e1 : (List.take m cur.toList).length = m := by rw [List.length_take]; omega
  rw [e1]
  by_cases h2 : x < m + k
  ·rw [List.getElem?_append_left (by rw [List.length_set]; omega), List.getElem?_set]
   by_cases h3 : m + j = x
   ·rw [if_pos h3, if_pos (by omega), if_pos (by omega), if_pos (by omega)]
   ·rw [if_neg h3, if_neg (by omega), h, List.getElem?_take, if_pos (by omega), List.getElem?_drop]
    congr 1; omega
  ·rw [if_neg (by omega), List.getElem?_append_right (by rw [List.length_set]; omega), List.length_set, hul, List.getElem?_drop]
   congr 1; omega
end Tr
end Go.Proofs.YtfiofmaknndpcaaGreatDoor
namespace Go.Proofs.YtfiofmaknndpcaaGreatDoor
open Go.RowKit
namespace Tr
def eI (x : Int) : D := .lit (.int .i64 x) .nil
def eB (x : Bool) : D := .lit (.bool x) .nil
structure Turn (bs : List Nat) (w w' : World) : Prop where
 os : w'.os = w.os
 tape : w'.tape = w.tape
 output : w'.output = w.output
 size : w.heap.size <= w'.heap.size
 block : ∀ k, k < w.heap.size -> k ∉ bs -> w'.heap[k]? = w.heap[k]?
theorem Turn.refl (bs : List Nat) (w : World) : Turn bs w w := ⟨rfl, rfl, rfl, Nat.le_refl _, fun _ _ _ => rfl⟩
theorem Turn.trans {bs : List Nat} {a b c : World} (h : Turn bs a b) (k : Turn bs b c) : Turn bs a c :=
 ⟨k.os.trans h.os, k.tape.trans h.tape, k.output.trans h.output, Nat.le_trans h.size k.size, fun i hi hn => (k.block i (Nat.lt_of_lt_of_le hi h.size) hn).trans (h.block i hi hn)⟩
theorem Turn.mono {bs bs' : List Nat} {a b : World} (h : Turn bs a b) (hs : ∀ x ∈ bs, x ∈ bs') : Turn bs' a b :=
 ⟨h.os, h.tape, h.output, h.size, fun k hk hn => h.block k hk (fun hb => hn (hs k hb))⟩
theorem Turn.drew {bs : List Nat} {a b : World} (h : Turn bs a b) : Turn bs a b.drew := ⟨h.os, h.tape, h.output, h.size, h.block⟩
theorem Turn.setCell {bs : List Nat} {a b : World} (h : Turn bs a b) {p : Addr} (hp : p.block ∈ bs) (u : Value) : Turn bs a (b.setCell p u) :=
 ⟨h.os, h.tape, h.output, by show _ <= (b.heap.modify _ _).size; rw [Array.size_modify]; exact h.size, fun k hk hn => (Below.heap_setCell b p u k (fun e => hn (by rw [e]; exact hp))).trans (h.block k hk hn)⟩
theorem Turn.alloc {bs : List Nat} {a b : World} (h : Turn bs a b) (o : Obj) : Turn bs a (b.alloc o) :=
 h.trans ⟨rfl, rfl, rfl, by simp, fun k hk _ => Below.heap_alloc _ _ _ hk⟩
def D.cnt : D -> Nat
 | .nil => 0
 | .lit _ r => r.cnt + 1
 | .row _ _ _ c r => c.cnt + r.cnt
def qya (k : Nat) : ByteArray := ⟨((109 : UInt8) :: (Nat.toDigits 10 k).map (fun c => c.toNat.toUInt8)).toArray⟩
def mk (v : Value) (k : Nat) : Value :=
 match v with
 | .int kd _ => .int kd k
 | .bool _ => .bool (k % 3 == 0)
 | .string _ => .string (qya k)
 | v => v
def D.mark : D -> Nat -> D
 | .nil, _ => .nil
 | .lit v r, k => .lit (mk v k) (r.mark (k + 1))
 | .row T e n c r, k => .row T e n (c.mark k) (r.mark (k + c.cnt))
theorem qpk {α : Type} {E : α -> D} {k : Nat} (hE : ∀ x, (E x).len = k) {l : List α} : ∀ d ∈ l.map E, d.len = k := by
 intro d hd
 rw [List.mem_map] at hd
 obtain ⟨x, _, rfl⟩ := hd
 exact hE x
def D.sz : D -> Nat
 | .nil => 0
 | .lit _ r => r.sz
 | .row _ _ n c r => n + c.sz + r.sz
def Mid (cur cur' : Array Value) (m k : Nat) (us : List Value) : Prop := us.length = k /\ m + k <= cur.size /\ cur'.size = cur.size /\ cur'.toList = cur.toList.take m ++ (us ++ cur.toList.drop (m + k))
theorem Mid.us {cur cur' : Array Value} {m k : Nat} {us : List Value} (h : Mid cur cur' m k us) : us = (cur'.toList.drop m).take k := by
 obtain ⟨h1, h2, h3, h4⟩ := h
 have hcl : cur.toList.length = cur.size := Array.length_toList
 rw [h4, List.drop_append_of_le_length (by rw [List.length_take]; omega), List.drop_of_length_le (by rw [List.length_take]; omega), List.nil_append, List.take_append_of_le_length (by omega), List.take_of_length_le (by omega)]
theorem Mid.refl {cur : Array Value} {m k : Nat} {us : List Value} (h : us = (cur.toList.drop m).take k) (hm : m + k <= cur.size) : Mid cur cur m k us := by
 have hcl : cur.toList.length = cur.size := Array.length_toList
 refine ⟨by rw [h, List.length_take, List.length_drop]; omega, hm, rfl, ?_⟩
 have h1 := List.take_append_drop k (cur.toList.drop m)
 rw [← h, List.drop_drop] at h1
 rw [h1]
 exact (List.take_append_drop m cur.toList).symm
theorem Mid.set {cur cur' : Array Value} {m k : Nat} {us : List Value} (h : Mid cur cur' m k us) (j : Nat) (hj : j < k) (u : Value) : Mid cur (cur'.setIfInBounds (m + j) u) m k (us.set j u) := by
 have hus := h.us
 obtain ⟨h1, h2, h3, h4⟩ := h
 have hcl : cur.toList.length = cur.size := Array.length_toList
 refine ⟨by rw [List.length_set]; exact h1, h2, by rw [Array.size_setIfInBounds]; exact h3, ?_⟩
 rw [q7c hus (by omega) j hj u]
 have e1 : cur'.toList.take m = cur.toList.take m := by rw [h4, List.take_append_of_le_length (by rw [List.length_take]; omega), List.take_take, Nat.min_self]
 have e2 : cur'.toList.drop (m + k) = cur.toList.drop (m + k) := by
  rw [h4, ← List.append_assoc, List.drop_append_of_le_length (by simp only [List.length_append, List.length_take]; omega), List.drop_of_length_le (by simp only [List.length_append, List.length_take]; omega), List.nil_append]
 rw [e1, e2]
theorem qyb {w : World} {T k n cap : Nat} {A : Option Addr} {l : List D} {bs : List Nat} (h : Own w (rowC T k l) [.slice A n cap] bs) (hn : bs.Nodup) (hk : ∀ d ∈ l, d.len = k) {i : Nat} (hi : i < l.length) :
  ∃ g o cur d us b, A = some ⟨g, o, none⟩ /\ n = l.length /\ g ∈ bs /\ w.heap[g]? = some (.cells cur T (0, 0)) /\ Mid cur cur (o + i * k) k us /\ l[i]? = some d /\ Own w d us b /\ (∀ x ∈ b, x ∈ bs /\ x ≠ g) /\ b.Nodup ∧
   ∀ (w' : World) (cur' : Array Value) (us' : List Value) (d' : D) (b' : List Nat), w'.heap[g]? = some (.cells cur' T (0, 0)) -> Mid cur cur' (o + i * k) k us' -> (∀ x ∈ bs, x ≠ g -> x ∉ b -> w'.heap[x]? = w.heap[x]?) -> Own w' d' us' b' →
    ∃ bs', Own w' (rowC T k (l.set i d')) [.slice A n cap] bs' /\ (b' = b -> bs' = bs) /\ (∀ x ∈ bs', x ∈ bs ∨ x ∈ b') /\ (b'.Nodup -> (∀ x ∈ b', x ∉ bs ∨ x ∈ b) -> bs'.Nodup) := by
 obtain ⟨A', cap', e1, h1, h2, hA⟩ := qjk h hk
 rw [Value.slice.injEq] at e1
 obtain ⟨rfl, rfl, rfl⟩ := e1
 obtain ⟨g, o, cur, us, pre, b, post, rfl, rfl, hg, hl, hus, hsz, ho, hset⟩ := hA i hi
 have hst := qqw (k := k) hi
 rw [List.nodup_cons] at hn
 obtain ⟨hng, hn⟩ := hn
 rw [List.nodup_append] at hn
 obtain ⟨hn1, hn2, hn3⟩ := hn
 rw [List.nodup_append] at hn2
 obtain ⟨hn4, hn5, hn6⟩ := hn2
 refine ⟨g, o, cur, _, us, b, rfl, rfl, by simp, hg, Mid.refl hus (by omega), List.getElem?_eq_getElem hi, ho, fun x hx => ⟨by simp [hx], fun e => hng (by subst e; simp [hx])⟩, hn4, ?_⟩
 intro w' cur' us' d' b' hg' hm hs ho'
 refine ⟨g :: (pre ++ (b' ++ post)), hset w' d' us' b' cur' ?_ hg' hm.2.2.1 (by have := hm.2.2.2; rw [this]) ((qdj d' ho').symm.trans hm.1) ho', fun e => by rw [e], ?_, ?_⟩
 ·intro x hx
  rw [List.mem_append] at hx
  rcases hx with hx | hx
  ·exact hs x (by simp [hx]) (fun e => hng (by subst e; simp [hx])) (fun hb => hn3 x hx x (by simp [hb]) rfl)
  ·exact hs x (by simp [hx]) (fun e => hng (by subst e; simp [hx])) (fun hb => hn6 x hb x hx rfl)
 ·intro x hx
  simp only [List.mem_cons, List.mem_append] at hx ⊢
  rcases hx with hx | hx | hx | hx <;> simp [hx]
 ·intro hnb hd
  have hdis : ∀ x ∈ b', x ≠ g /\ x ∉ pre /\ x ∉ post := by
   intro x hx
   rcases hd x hx with h9 | h9
   ·simp only [List.mem_cons, List.mem_append, not_or] at h9
    exact ⟨h9.1, h9.2.1, h9.2.2.2⟩
   ·exact ⟨fun e => hng (by rw [← e]; simp [h9]), fun hp => hn3 x hp x (by simp [h9]) rfl, fun hp => hn6 x h9 x hp rfl⟩
  rw [List.nodup_cons, List.nodup_append, List.nodup_append]
  refine ⟨?_, hn1, ⟨hnb, hn5, fun a ha c hc e => (hdis a ha).2.2 (by rw [e]; exact hc)⟩, ?_⟩
  ·intro hm
   simp only [List.mem_append] at hm hng
   rcases hm with hm | hm | hm
   ·exact hng (Or.inl hm)
   ·exact (hdis g hm).1 rfl
   ·exact hng (Or.inr (Or.inr hm))
  ·intro a ha c hc e
   subst e
   rw [List.mem_append] at hc
   rcases hc with hc | hc
   ·exact (hdis a hc).2.1 ha
   ·exact hn3 a ha a (by simp [hc]) rfl
theorem Mid.cell {w : World} {g T m k : Nat} {cur cur' : Array Value} {us : List Value} (h : Mid cur cur' m k us) (hg : w.heap[g]? = some (.cells cur' T (0, 0))) (j : Nat) (hj : j < k) : w.cell? ⟨g, m + j, none⟩ = us[j]? := by
 rw [cell_of_block hg, q8k h.us j hj]
theorem qoe {l : List D} {i : Nat} {d : D} (h : l[i]? = some d) {hi : i < l.length} : l[i] = d := by
 rw [List.getElem?_eq_getElem hi] at h
 exact Option.some.inj h
theorem qoh {w : World} {d e : D} {vs : List Value} {bs : List Nat} (h : Own w (d.app e) vs bs) : ∃ b1 b2, bs = b1 ++ b2 /\ Own w d (vs.take d.len) b1 /\ Own w e (vs.drop d.len) b2 := by
 obtain ⟨v1, v2, b1, b2, rfl, rfl, h1, h2⟩ := (qby d e).1 h
 have hl := qdj d h1
 exact ⟨b1, b2, rfl, by rw [List.take_left' hl]; exact h1, by rw [List.drop_left' hl]; exact h2⟩
theorem qks {w : World} {d : D} {vs : List Value} {bs : List Nat} (h : Own w d vs bs) (o : Obj) : Own (w.alloc o) d vs bs :=
 qbr d h (fun b hb => Below.heap_alloc _ _ _ (qi1 d h b hb))
theorem Rd.alloc {w : World} {d : D} {vs : List Value} (h : Rd w d vs) (o : Obj) : Rd (w.alloc o) d vs := h.imp fun _ h => qks h o
theorem qpl {w : World} {a : Addr} {v : Value} (h : w.cell? a = some v) : a = ⟨a.block, a.off, none⟩ := by
 obtain ⟨b, o, s⟩ := a
 cases s with
 | none => rfl
 | some x =>
  unfold World.cell? at h
  simp only [Option.isSome_some, ↓reduceIte] at h
  split at h <;> cases h
theorem qjj.setCell {w : World} {B : Nat} {d : D} {vs : List Value} (h : qjj w B d vs) {p : Addr} (hp : p.block < B) (u : Value) : qjj (w.setCell p u) B d vs := by
 obtain ⟨bs, h1, h2, h3⟩ := h
 exact ⟨bs, qbr d h1 (fun b hb => Below.heap_setCell _ _ _ _ (by have := h3 b hb; omega)), h2, h3⟩
theorem qjj.alloc {w : World} {B : Nat} {d : D} {vs : List Value} (h : qjj w B d vs) (o : Obj) : qjj (w.alloc o) B d vs := by
 obtain ⟨bs, h1, h2⟩ := h
 exact ⟨bs, qks h1 o, h2⟩
theorem qpm {w : World} {k : Nat} {z : D} {zc : List Value} (hz : Own w z zc []) (hk : zc.length = k) : ∀ (n : Nat) (us : List Value), us.length = n * k -> (∀ j, j < n * k -> us[j]? = zc[j % k]?) -> Own w (D.cat (List.replicate n z)) us []
 | 0, us, hl, _ => ⟨List.length_eq_zero_iff.1 (by simpa using hl), rfl⟩
 | n + 1, us, hl, hj => by
  have hs : (n + 1) * k = k + n * k := by rw [Nat.succ_mul]; omega
  show Own w (z.app (D.cat (List.replicate n z))) us []
  refine (qby _ _).2 ⟨us.take k, us.drop k, [], [], (List.take_append_drop k us).symm, rfl, ?_, qpm hz hk n (us.drop k) (by rw [List.length_drop]; omega) (fun j hj' => ?_)⟩
  ·have e : us.take k = zc := by
    apply List.ext_getElem?
    intro j
    rw [List.getElem?_take]
    by_cases h : j < k
    ·rw [if_pos h, hj j (by omega), Nat.mod_eq_of_lt h]
    ·rw [if_neg h, List.getElem?_eq_none (by omega)]
   rw [e]; exact hz
  ·rw [List.getElem?_drop, hj (k + j) (by omega), Nat.add_mod_left]
theorem qpn {zc : List Value} {m j : Nat} (hj : j < m) (h0 : 0 < zc.length) : (madeCells zc.toArray m).toList[j]? = zc[j % zc.length]? := by
 have hm : j % zc.length < zc.length := Nat.mod_lt _ h0
 rw [Array.getElem?_toList]
 simp [madeCells, hj, hm]
def qpo {α : Type} (E : α -> D) (z : D) (l : List α) (i : Nat) : List D := (l.take i).map E ++ List.replicate (l.length - i) z
theorem quv {α : Type} (E : α -> D) (z : D) (l : List α) (i : Nat) (h : i < l.length) : (qpo E z l i)[i]? = some z := by
 unfold qpo
 have hl : ((l.take i).map E).length = i := by rw [List.length_map, List.length_take]; omega
 rw [List.getElem?_append_right (by omega), hl, Nat.sub_self, show l.length - i = (l.length - (i + 1)) + 1 by omega, List.replicate_succ]
 rfl
theorem qqx {α : Type} {E : α -> D} {z : D} {l : List α} {i k : Nat} (hE : ∀ x, (E x).len = k) (hz : z.len = k) : ∀ d ∈ qpo E z l i, d.len = k := by
 intro d hd
 unfold qpo at hd
 rw [List.mem_append] at hd
 rcases hd with hd | hd
 ·exact qpk hE d hd
 ·rw [(List.mem_replicate.1 hd).2]; exact hz
section
variable {P : Program} {fn : Func} {R : Ending -> World -> Prop} {a : Act} {w : World} {p u u2 : Tmp} {ty t g : Nat} {cs : Array Value} {d : TypeDesc}
end
def D.flat : D -> Prop
 | .nil => True
 | .lit v r => v.oneCell' = true /\ r.flat
 | .row _ _ _ _ _ => False
theorem qqy : ∀ {a b : D}, a.flat -> b.flat -> (a.app b).flat
 | .nil, _, _, h => h
 | .lit _ _, _, h1, h2 => ⟨h1.1, qqy h1.2 h2⟩
theorem qeu : ∀ {l : List D}, (∀ d ∈ l, d.flat) -> (D.cat l).flat
 | [], _ => trivial
 | d :: l, h => qqy (h d (by simp)) (qeu (fun x hx => h x (by simp [hx])))
theorem qd0 {w : World} : ∀ {d : D} {us : List Value} {b : List Nat}, d.flat -> Own w d us b -> b = [] /\ (∀ u ∈ us, u.oneCell' = true) /\ ∀ w', Own w' d us []
 | .nil, us, _, _, h => ⟨h.2, (fun (u : Value) (hu : u ∈ us) => by rw [h.1] at hu; cases hu), (fun _ => ⟨h.1, rfl⟩)⟩
 | .lit v r, _, _, hf, h => by
  obtain ⟨vs', rfl, h⟩ := h
  obtain ⟨h1, h2, h3⟩ := qd0 hf.2 h
  refine ⟨h1, fun u hu => ?_, fun w' => ⟨vs', rfl, h3 w'⟩⟩
  rw [List.mem_cons] at hu
  rcases hu with rfl | hu
  ·exact hf.1
  ·exact h2 u hu
theorem qs8 {w : World} {B T k n : Nat} {v : Value} {xs : List Value} {l : List D} {b : List Nat} (h : w.ownsRow B T k v n xs) (hn : l.length = n) (hl : ∀ d ∈ l, d.len = k) (ho : Own w (D.cat l) xs b) : ∃ bs, Own w (rowC T k l) [v] (bs ++ b) /\ bs.Nodup /\ ∀ x ∈ bs, B <= x /\ v.ownBlock = some x := by
 obtain ⟨h1, h2⟩ := h
 rcases h2 with ⟨rfl, h0⟩ | ⟨g, cap, cur, rfl, hb, hg, hc, hm, hs, ht⟩
 ·have hl0 : l = [] := List.length_eq_zero_iff.1 (by omega)
  subst hl0
  obtain ⟨rfl, rfl⟩ := ho
  exact ⟨[], ⟨_, [], [], [], rfl, rfl, ⟨rfl, rfl⟩, Or.inl ⟨⟨none, rfl⟩, rfl, rfl, rfl⟩⟩, by simp, by simp⟩
 ·refine ⟨[g], ⟨_, [], g :: b, [], rfl, by simp, ⟨rfl, rfl⟩, Or.inr ⟨g, 0, cap, cur, b, by rw [hn], rfl, hg, by omega, hm, by omega, ?_⟩⟩, by simp, fun x hx => ?_⟩
  ·rw [List.drop_zero, hn, ht]; exact ho
  ·obtain rfl : x = g := by simpa using hx
   exact ⟨hb, rfl⟩
section
variable {P : Program} {w : World} {ops : Array Oper} {rest : List Oper} {o : Oper} {a : Act} {Q : Exit -> Act -> World -> Prop}
end
end Tr
end Go.Proofs.YtfiofmaknndpcaaGreatDoor
namespace Go.Proofs.YtfiofmaknndpcaaGreatDoor
open Go.RowKit Go.ChangeShapes Go.WideShapes
namespace Tr
section
variable {H : Type} (enc : TypeId × Value -> H) (P : Program) (w : World) (base : Nat) (spare : Nat -> Bool) (held : Bool)
end
section
variable {H : Type} {enc : TypeId × Value -> H} {P : Program} {w : World} {base : Nat} {spare : Nat -> Bool} {held : Bool}
def okI (n : Int) : Prop := -9223372036854775808 <= n /\ n <= 9223372036854775807
end
end Tr
end Go.Proofs.YtfiofmaknndpcaaGreatDoor
namespace Go.Proofs.YtfiofmaknndpcaaGreatDoor
open Go Go.Conc
namespace Co
def Tame {α : Type} (P : Program) (Bk : Nat -> Prop) : Sem α -> Prop
 | .pure _ => True
 | .halt _ => True
 | .load _ _ k => ∀ v, Tame P Bk (k v)
 | .store _ a _ k => Bk a.block /\ Tame P Bk k
 | .new _ k => ∀ r, Tame P Bk (k r)
 | .shape _ k => ∀ s, Tame P Bk (k s)
 | .freeze _ _ _ => False
 | .frozen _ k => ∀ b, Tame P Bk (k b)
 | .getObj _ k => ∀ o, Tame P Bk (k o)
 | .setObj _ _ _ => False
 | .choose _ k => ∀ n, Tame P Bk (k n)
 | .sys _ _ => False
 | .program k => Tame P Bk (k P)
 | .mark m k => Neutral m /\ Tame P Bk k
section
variable {P : Program} {Bk : Nat -> Prop}
theorem tb' {α β : Type} {x : Sem α} {f : α -> Sem β} (hx : Tame P Bk x) (hf : ∀ a, Tame P Bk (f a)) : Tame P Bk (x.bind f) := by
 induction x with
 | pure a => exact hf a
 | halt h => exact trivial
 | load m a k ih => exact fun v => ih v (hx v)
 | store m a v k ih => exact ⟨hx.1, ih hx.2⟩
 | new o k ih => exact fun r => ih r (hx r)
 | shape r k ih => exact fun s => ih s (hx s)
 | freeze a n k _ => exact hx.elim
 | frozen a k ih => exact fun b => ih b (hx b)
 | getObj r k ih => exact fun o => ih o (hx o)
 | setObj r o k _ => exact hx.elim
 | choose q k ih => exact fun n => ih n (hx n)
 | sys c k _ => exact hx.elim
 | program k ih => exact ih P hx
 | mark m k ih => exact ⟨hx.1, ih hx.2⟩
theorem tb {α β : Type} {x : Sem α} {f : α -> Sem β} (hx : Tame P Bk x) (hf : ∀ a, Tame P Bk (f a)) : Tame P Bk (x >>= f) := tb' hx hf
theorem tmap {α β : Type} {x : Sem α} {f : α -> β} (hx : Tame P Bk x) : Tame P Bk (f <$> x) := by
 have : f <$> x = x >>= fun a => pure (f a) := (bind_pure_comp f x).symm
 rw [this]
 exact tb hx fun _ => trivial
theorem jk {α : Type} (a : α) : Tame P Bk (pure a : Sem α) := trivial
theorem qbs {α : Type} (s : String) : Tame P Bk (stuck s : Sem α) := trivial
theorem qda {α : Type} (u : Unsupported) : Tame P Bk (unsupported u : Sem α) := trivial
theorem qbt {α : Type} (v : Value) : Tame P Bk (goPanic v : Sem α) := trivial
theorem yw : Tame P Bk program := trivial
theorem qas (a : Addr) (m : Mode) : Tame P Bk (load a m) := fun _ => trivial
theorem wz (r : Nat) : Tame P Bk (shape r) := fun _ => trivial
theorem zl (a : Addr) : Tame P Bk (frozen a) := fun _ => trivial
theorem zq (r : Nat) : Tame P Bk (getObj r) := fun _ => trivial
theorem zy (o : Obj) : Tame P Bk (newObj o) := fun _ => trivial
theorem zo (q : Question) : Tame P Bk (choose q) := fun _ => trivial
theorem tmark : Tame P Bk (mark .noRoom) := ⟨rfl, trivial⟩
theorem q7d {a : Addr} (h : Bk a.block) (v : Value) (m : Mode) : Tame P Bk (store a v m) := ⟨h, trivial⟩
theorem q5o {α β : Type} (l : List α) : ∀ (b : β) (f : α -> β -> Sem (ForInStep β)), (∀ a b, Tame P Bk (f a b)) -> Tame P Bk (forIn l b f) := by
 induction l with
 | nil => intro b f _; exact trivial
 | cons a l ih =>
  intro b f h
  rw [List.forIn_cons]
  refine tb (h a b) (fun x => ?_)
  cases x with
  | done b => exact trivial
  | yield b => exact ih b f h
theorem qbu {α β : Type} (l : Array α) (b : β) (f : α -> β -> Sem (ForInStep β)) (h : ∀ a b, Tame P Bk (f a b)) : Tame P Bk (forIn l b f) := by
 rw [← Array.forIn_toList]; exact q5o _ _ _ h
theorem qbv {β : Type} (r : Std.Legacy.Range) (b : β) (f : Nat -> β -> Sem (ForInStep β)) (h : ∀ a b, Tame P Bk (f a b)) : Tame P Bk (forIn r b f) := by
 rw [Std.Legacy.Range.forIn_eq_forIn_range']; exact q5o _ _ _ h
theorem qyc {α β : Type} {f : α -> Sem β} (h : ∀ a, Tame P Bk (f a)) : ∀ l : List α, Tame P Bk (l.mapM f)
 | [] => by rw [List.mapM_nil]; exact trivial
 | a :: l => by rw [List.mapM_cons]; exact tb (h a) fun _ => tb (qyc h l) fun _ => trivial
theorem qbp {α β : Type} {f : α -> Sem β} (h : ∀ a, Tame P Bk (f a)) (l : Array α) : Tame P Bk (l.mapM f) := by
 rw [Array.mapM_eq_mapM_toList]
 exact tmap (qyc h _)
theorem yl (t : TypeId) : Tame P Bk (typeInfo t) := by
 unfold typeInfo; refine tb yw fun p => ?_; split <;> trivial
theorem xh (t : TypeId) : Tame P Bk (underlying t) := by
 unfold underlying; refine tb yw fun p => ?_; split <;> trivial
theorem zh (t : TypeId) : Tame P Bk (sizeOf t) := tb (yl t) fun _ => trivial
theorem xx (t : TypeId) : Tame P Bk (zeroValue t) := by
 unfold zeroValue; refine tb (yl t) fun p => ?_; split <;> trivial
theorem qab (t : TypeId) : Tame P Bk (isAgg t) := by
 unfold isAgg; refine tb (xh t) fun p => ?_; split <;> trivial
theorem qhf (a : Addr) : ∀ (n i : Nat) (acc : Array Value), Tame P Bk (loadCellsFrom a i n acc)
 | 0, _, _ => trivial
 | n + 1, i, acc => by unfold loadCellsFrom; exact tb (qas _ _) fun v => qhf a n _ _
theorem yh (a : Addr) (n : Nat) : Tame P Bk (loadCells a n) := qhf a n 0 #[]
theorem qdq {a : Addr} (h : Bk a.block) : ∀ (vs : List Value) (i : Nat), Tame P Bk (storeCells a vs i)
 | [], _ => trivial
 | v :: vs, i => by
  unfold storeCells
  refine tb (q7d (by rw [show (a.add i).block = a.block by unfold Addr.add; split <;> rfl]; exact h) v _) fun _ => qdq h vs _
theorem y8 (t : TypeId) (a : Addr) : Tame P Bk (loadVar t a) := by
 unfold loadVar
 refine tb (qab t) fun b => ?_
 split
 ·exact tb (zh t) fun _ => tb (yh _ _) fun _ => trivial
 ·exact qas _ _
theorem qwo {a : Addr} (h : Bk a.block) (t : TypeId) (v : Value) : Tame P Bk (storeVar t a v) := by
 unfold storeVar
 refine tb (zh t) fun n => ?_
 split
 ·exact tb (qbs _) fun _ => qdq h _ _
 ·exact qdq h _ _
theorem ja (e : TypeId) (c : Array Value) : Tame P Bk (newRow e c) := tb (zy _) fun _ => trivial
theorem zt (t : TypeId) (v : Value) : Tame P Bk (newVar t v) := ja _ _
theorem jb (t : TypeId) : Tame P Bk (elemOf t) := by
 unfold elemOf; refine tb (xh t) fun p => ?_; split <;> trivial
theorem qav (t : TypeId) (cs : Array Value) (off : Nat) : Tame P Bk (part t cs off) := by
 unfold part
 refine tb (qab t) fun b => ?_
 split
 ·exact tb (zh t) fun _ => trivial
 ·split <;> trivial
theorem yz {α : Type} (e : RuntimeError) : Tame P Bk (runtimePanic e : Sem α) := by
 unfold runtimePanic
 refine tb yw fun p => ?_
 dsimp only
 split <;> first | exact trivial | exact tb (jb _) fun _ => tb (zt _ _) fun _ => trivial
theorem xm {α : Type} (k : IntKind) (x y : Int) (c : BoundsCode) : Tame P Bk (boundsPanic k x y c : Sem α) := by
 unfold boundsPanic
 dsimp only
 split
 ·exact tb (tmap (zo _)) fun _ => yz _
 ·exact tb (jk _) fun _ => yz _
theorem y9 (v : Value) : Tame P Bk (asIntOf v) := by unfold asIntOf; split <;> trivial
theorem qac (v : Value) : Tame P Bk (asInt v) := tb (y9 v) fun _ => trivial
theorem jc (v : Value) : Tame P Bk (asBool v) := by unfold asBool; split <;> trivial
theorem qad (v : Value) : Tame P Bk (asAgg v) := by unfold asAgg; split <;> trivial
theorem jd (v : Value) : Tame P Bk (asAddr v) := by unfold asAddr; split <;> first | trivial | exact yz _
theorem yt (v : Value) : Tame P Bk (Instr.sureAddr v) := by unfold Instr.sureAddr; split <;> trivial
theorem zf (n : Nat) : Tame P Bk (askRoom n) := by unfold askRoom; split <;> first | exact tmark | trivial
theorem q2m (r : Nat) : Tame P Bk (viewAt r) := by
 unfold viewAt
 refine tb (wz r) fun s => ?_
 split
 ·exact trivial
 ·refine tb (zq r) fun o => ?_; split <;> trivial
theorem qwp (r : Nat) : Tame P Bk (numberAt r) := by
 unfold numberAt
 refine tb (wz r) fun s => ?_
 split
 ·exact trivial
 ·refine tb (zq r) fun o => ?_; split <;> trivial
theorem zk (a : Addr) : Tame P Bk (noView a) := by
 unfold noView; refine tb (q2m _) fun s => ?_; split <;> trivial
theorem ji (a : Addr) : Tame P Bk (behindNumber a) := tb (qwp _) fun _ => trivial
theorem zu (a : Addr) : Tame P Bk (byteOf a) := by
 unfold byteOf
 split
 ·exact trivial
 ·refine tb yw fun p => tb (zk _) fun _ => tb (wz _) fun s => ?_
  split
  ·dsimp only
   split
   ·exact trivial
   ·split <;> trivial
  ·exact trivial
theorem jf (a : Addr) (c b : Nat) : Tame P Bk (partAt a c b) := tb (zu _) fun _ => tb (zu _) fun _ => trivial
theorem xu (a : Addr) (f : Field) : Tame P Bk (fieldPlace a f) := by
 unfold fieldPlace
 refine tb (zh _) fun n => ?_
 split
 ·exact jf _ _ _
 ·exact trivial
theorem qmv (a : Addr) : Tame P Bk (stringish a) := by
 unfold stringish
 refine tb (zl _) fun b => ?_
 split
 ·exact trivial
 ·refine tb (wz _) fun s => ?_; split <;> first | exact zl _ | trivial
theorem qoi (a b : Addr) : Tame P Bk (mayBeOne a b) := by
 unfold mayBeOne
 refine tb (qmv _) fun _ => tb (qmv _) fun _ => ?_
 dsimp only
 exact tb (tb (wz _) fun _ => trivial) fun _ => tb (tb (wz _) fun _ => trivial) fun _ => trivial
theorem yu (a b : Addr) : Tame P Bk (sameAddr a b) := by
 unfold sameAddr
 split
 ·exact trivial
 ·refine tb (zl _) fun b1 => tb (zl _) fun b2 => ?_
  split
  ·refine tb (qda _) fun _ => ?_
   refine tb (zk _) fun _ => tb (zk _) fun _ => tb (qoi _ _) fun m => ?_
   split
   ·exact tb (zo _) fun _ => trivial
   ·exact trivial
  ·refine tb (zk _) fun _ => tb (zk _) fun _ => tb (qoi _ _) fun m => ?_
   split
   ·exact tb (zo _) fun _ => trivial
   ·exact trivial
theorem xn (a b : Option Addr) : Tame P Bk (samePointer a b) := by
 unfold samePointer; split <;> first | exact yu _ _ | trivial
end
end Co
end Go.Proofs.YtfiofmaknndpcaaGreatDoor
namespace Go.Proofs.YtfiofmaknndpcaaGreatDoor
open Go Go.Conc
namespace Co
section
variable {P : Program} {Bk : Nat -> Prop}
theorem qyd (t : TypeId) : Tame P Bk (typeStr t) := by
 unfold typeStr
 repeat' (first | exact trivial | (with_reducible first | exact yw | exact qas _ _ | exact wz _ | exact zl _ | exact zq _ | exact zy _ | exact zo _ | exact tmark | exact yl _ | exact xh _ | exact zh _ | exact xx _ | exact qab _ | exact yh _ _ | exact y8 _ _ | exact ja _ _ | exact zt _ _ | exact jb _ | exact qav _ _ _ | exact yz _ | exact xm _ _ _ _ | exact y9 _ | exact qac _ | exact jc _ | exact qad _ | exact jd _ | exact yt _ | exact zf _ | exact zk _ | exact ji _ | exact zu _ | exact jf _ _ _ | exact xu _ _ | exact yu _ _ | exact xn _ _) | refine tb ?_ (fun _ => ?_) | refine tmap ?_ | refine qbu _ _ _ (fun _ _ => ?_) | refine qbv _ _ _ (fun _ _ => ?_) | refine qbp (fun _ => ?_) _ | split | dsimp only)
theorem qqz : ∀ (d : Nat) (t : TypeId) (x y : Value), Tame P Bk (Op.equalIn d t x y)
 | 0, _, _, _ => trivial
 | d + 1, t, x, y => by
  unfold Op.equalIn
  repeat' (first | exact trivial | (with_reducible first | exact qqz _ _ _ _ | exact qyd _ | exact yw | exact qas _ _ | exact wz _ | exact zl _ | exact zq _ | exact zy _ | exact zo _ | exact tmark | exact yl _ | exact xh _ | exact zh _ | exact xx _ | exact qab _ | exact yh _ _ | exact y8 _ _ | exact ja _ _ | exact zt _ _ | exact jb _ | exact qav _ _ _ | exact yz _ | exact xm _ _ _ _ | exact y9 _ | exact qac _ | exact jc _ | exact qad _ | exact jd _ | exact yt _ | exact zf _ | exact zk _ | exact ji _ | exact zu _ | exact jf _ _ _ | exact xu _ _ | exact yu _ _ | exact xn _ _) | refine tb ?_ (fun _ => ?_) | refine tmap ?_ | refine qbu _ _ _ (fun _ _ => ?_) | refine qbv _ _ _ (fun _ _ => ?_) | refine qbp (fun _ => ?_) _ | split | dsimp only)
theorem qmw : ∀ (d : Nat) (t : TypeId) (x y : Value), Tame P Bk (Op.eqGuardIn d t x y)
 | 0, _, _, _ => trivial
 | d + 1, t, x, y => by
  unfold Op.eqGuardIn
  repeat' (first | exact trivial | (with_reducible first | exact qmw _ _ _ _ | exact yw | exact qas _ _ | exact wz _ | exact zl _ | exact zq _ | exact zy _ | exact zo _ | exact tmark | exact yl _ | exact xh _ | exact zh _ | exact xx _ | exact qab _ | exact yh _ _ | exact y8 _ _ | exact ja _ _ | exact zt _ _ | exact jb _ | exact qav _ _ _ | exact yz _ | exact xm _ _ _ _ | exact y9 _ | exact qac _ | exact jc _ | exact qad _ | exact jd _ | exact yt _ | exact zf _ | exact zk _ | exact ji _ | exact zu _ | exact jf _ _ _ | exact xu _ _ | exact yu _ _ | exact xn _ _) | refine tb ?_ (fun _ => ?_) | refine tmap ?_ | refine qbu _ _ _ (fun _ _ => ?_) | refine qbv _ _ _ (fun _ _ => ?_) | refine qbp (fun _ => ?_) _ | split | dsimp only)
theorem qq0 (op : BinOp) (t : TypeId) (x y : Operand) (a b : Value) : Tame P Bk (eqGuard op t x y a b) := by
 unfold eqGuard
 repeat' (first | exact trivial | (with_reducible first | exact qmw _ _ _ _ | exact yw | exact qas _ _ | exact wz _ | exact zl _ | exact zq _ | exact zy _ | exact zo _ | exact tmark | exact yl _ | exact xh _ | exact zh _ | exact xx _ | exact qab _ | exact yh _ _ | exact y8 _ _ | exact ja _ _ | exact zt _ _ | exact jb _ | exact qav _ _ _ | exact yz _ | exact xm _ _ _ _ | exact y9 _ | exact qac _ | exact jc _ | exact qad _ | exact jd _ | exact yt _ | exact zf _ | exact zk _ | exact ji _ | exact zu _ | exact jf _ _ _ | exact xu _ _ | exact yu _ _ | exact xn _ _) | refine tb ?_ (fun _ => ?_) | refine tmap ?_ | refine qbu _ _ _ (fun _ _ => ?_) | refine qbv _ _ _ (fun _ _ => ?_) | refine qbp (fun _ => ?_) _ | split | dsimp only)
theorem qkt (op : BinOp) (k : IntKind) (x y : Int) : Tame P Bk (Op.intArith op k x y) := by
 unfold Op.intArith
 repeat' (first | exact trivial | (with_reducible first | exact yw | exact qas _ _ | exact wz _ | exact zl _ | exact zq _ | exact zy _ | exact zo _ | exact tmark | exact yl _ | exact xh _ | exact zh _ | exact xx _ | exact qab _ | exact yh _ _ | exact y8 _ _ | exact ja _ _ | exact zt _ _ | exact jb _ | exact qav _ _ _ | exact yz _ | exact xm _ _ _ _ | exact y9 _ | exact qac _ | exact jc _ | exact qad _ | exact jd _ | exact yt _ | exact zf _ | exact zk _ | exact ji _ | exact zu _ | exact jf _ _ _ | exact xu _ _ | exact yu _ _ | exact xn _ _) | refine tb ?_ (fun _ => ?_) | refine tmap ?_ | refine qbu _ _ _ (fun _ _ => ?_) | refine qbv _ _ _ (fun _ _ => ?_) | refine qbp (fun _ => ?_) _ | split | dsimp only)
theorem quw (op : BinOp) (k : IntKind) (x y : Int) : Tame P Bk (Op.intDiv op k x y) := by
 unfold Op.intDiv
 repeat' (first | exact trivial | (with_reducible first | exact yw | exact qas _ _ | exact wz _ | exact zl _ | exact zq _ | exact zy _ | exact zo _ | exact tmark | exact yl _ | exact xh _ | exact zh _ | exact xx _ | exact qab _ | exact yh _ _ | exact y8 _ _ | exact ja _ _ | exact zt _ _ | exact jb _ | exact qav _ _ _ | exact yz _ | exact xm _ _ _ _ | exact y9 _ | exact qac _ | exact jc _ | exact qad _ | exact jd _ | exact yt _ | exact zf _ | exact zk _ | exact ji _ | exact zu _ | exact jf _ _ _ | exact xu _ _ | exact yu _ _ | exact xn _ _) | refine tb ?_ (fun _ => ?_) | refine tmap ?_ | refine qbu _ _ _ (fun _ _ => ?_) | refine qbv _ _ _ (fun _ _ => ?_) | refine qbp (fun _ => ?_) _ | split | dsimp only)
theorem qmx (op : BinOp) (k : IntKind) (x y : Int) : Tame P Bk (Op.intBits op k x y) := by
 unfold Op.intBits
 repeat' (first | exact trivial | (with_reducible first | exact yw | exact qas _ _ | exact wz _ | exact zl _ | exact zq _ | exact zy _ | exact zo _ | exact tmark | exact yl _ | exact xh _ | exact zh _ | exact xx _ | exact qab _ | exact yh _ _ | exact y8 _ _ | exact ja _ _ | exact zt _ _ | exact jb _ | exact qav _ _ _ | exact yz _ | exact xm _ _ _ _ | exact y9 _ | exact qac _ | exact jc _ | exact qad _ | exact jd _ | exact yt _ | exact zf _ | exact zk _ | exact ji _ | exact zu _ | exact jf _ _ _ | exact xu _ _ | exact yu _ _ | exact xn _ _) | refine tb ?_ (fun _ => ?_) | refine tmap ?_ | refine qbu _ _ _ (fun _ _ => ?_) | refine qbv _ _ _ (fun _ _ => ?_) | refine qbp (fun _ => ?_) _ | split | dsimp only)
theorem qux (op : BinOp) (x y : Int) : Tame P Bk (Op.intCmp op x y) := by
 unfold Op.intCmp
 repeat' (first | exact trivial | (with_reducible first | exact yw | exact qas _ _ | exact wz _ | exact zl _ | exact zq _ | exact zy _ | exact zo _ | exact tmark | exact yl _ | exact xh _ | exact zh _ | exact xx _ | exact qab _ | exact yh _ _ | exact y8 _ _ | exact ja _ _ | exact zt _ _ | exact jb _ | exact qav _ _ _ | exact yz _ | exact xm _ _ _ _ | exact y9 _ | exact qac _ | exact jc _ | exact qad _ | exact jd _ | exact yt _ | exact zf _ | exact zk _ | exact ji _ | exact zu _ | exact jf _ _ _ | exact xu _ _ | exact yu _ _ | exact xn _ _) | refine tb ?_ (fun _ => ?_) | refine tmap ?_ | refine qbu _ _ _ (fun _ _ => ?_) | refine qbv _ _ _ (fun _ _ => ?_) | refine qbp (fun _ => ?_) _ | split | dsimp only)
theorem qye (op : BinOp) (k : IntKind) (x : Int) (j : IntKind) (y : Int) : Tame P Bk (Op.shift op k x j y) := by
 unfold Op.shift
 repeat' (first | exact trivial | (with_reducible first | exact yw | exact qas _ _ | exact wz _ | exact zl _ | exact zq _ | exact zy _ | exact zo _ | exact tmark | exact yl _ | exact xh _ | exact zh _ | exact xx _ | exact qab _ | exact yh _ _ | exact y8 _ _ | exact ja _ _ | exact zt _ _ | exact jb _ | exact qav _ _ _ | exact yz _ | exact xm _ _ _ _ | exact y9 _ | exact qac _ | exact jc _ | exact qad _ | exact jd _ | exact yt _ | exact zf _ | exact zk _ | exact ji _ | exact zu _ | exact jf _ _ _ | exact xu _ _ | exact yu _ _ | exact xn _ _) | refine tb ?_ (fun _ => ?_) | refine tmap ?_ | refine qbu _ _ _ (fun _ _ => ?_) | refine qbv _ _ _ (fun _ _ => ?_) | refine qbp (fun _ => ?_) _ | split | dsimp only)
theorem qga (op : BinOp) (x y : ByteArray) : Tame P Bk (Op.stringOp op x y) := by
 unfold Op.stringOp
 repeat' (first | exact trivial | (with_reducible first | exact yw | exact qas _ _ | exact wz _ | exact zl _ | exact zq _ | exact zy _ | exact zo _ | exact tmark | exact yl _ | exact xh _ | exact zh _ | exact xx _ | exact qab _ | exact yh _ _ | exact y8 _ _ | exact ja _ _ | exact zt _ _ | exact jb _ | exact qav _ _ _ | exact yz _ | exact xm _ _ _ _ | exact y9 _ | exact qac _ | exact jc _ | exact qad _ | exact jd _ | exact yt _ | exact zf _ | exact zk _ | exact ji _ | exact zu _ | exact jf _ _ _ | exact xu _ _ | exact yu _ _ | exact xn _ _) | refine tb ?_ (fun _ => ?_) | refine tmap ?_ | refine qbu _ _ _ (fun _ _ => ?_) | refine qbv _ _ _ (fun _ _ => ?_) | refine qbp (fun _ => ?_) _ | split | dsimp only)
theorem q7e (op : UnOp) (x : Value) : Tame P Bk (Op.unary op x) := by
 unfold Op.unary
 repeat' (first | exact trivial | (with_reducible first | exact qkt _ _ _ _ | exact qmx _ _ _ _ | exact yw | exact qas _ _ | exact wz _ | exact zl _ | exact zq _ | exact zy _ | exact zo _ | exact tmark | exact yl _ | exact xh _ | exact zh _ | exact xx _ | exact qab _ | exact yh _ _ | exact y8 _ _ | exact ja _ _ | exact zt _ _ | exact jb _ | exact qav _ _ _ | exact yz _ | exact xm _ _ _ _ | exact y9 _ | exact qac _ | exact jc _ | exact qad _ | exact jd _ | exact yt _ | exact zf _ | exact zk _ | exact ji _ | exact zu _ | exact jf _ _ _ | exact xu _ _ | exact yu _ _ | exact xn _ _) | refine tb ?_ (fun _ => ?_) | refine tmap ?_ | refine qbu _ _ _ (fun _ _ => ?_) | refine qbv _ _ _ (fun _ _ => ?_) | refine qbp (fun _ => ?_) _ | split | dsimp only)
theorem qyf (s : TypeId) (a : Value) (f : Nat) : Tame P Bk (Instr.fieldAt s a f) := by
 unfold Instr.fieldAt
 repeat' (first | exact trivial | (with_reducible first | exact yw | exact qas _ _ | exact wz _ | exact zl _ | exact zq _ | exact zy _ | exact zo _ | exact tmark | exact yl _ | exact xh _ | exact zh _ | exact xx _ | exact qab _ | exact yh _ _ | exact y8 _ _ | exact ja _ _ | exact zt _ _ | exact jb _ | exact qav _ _ _ | exact yz _ | exact xm _ _ _ _ | exact y9 _ | exact qac _ | exact jc _ | exact qad _ | exact jd _ | exact yt _ | exact zf _ | exact zk _ | exact ji _ | exact zu _ | exact jf _ _ _ | exact xu _ _ | exact yu _ _ | exact xn _ _) | refine tb ?_ (fun _ => ?_) | refine tmap ?_ | refine qbu _ _ _ (fun _ _ => ?_) | refine qbv _ _ _ (fun _ _ => ?_) | refine qbp (fun _ => ?_) _ | split | dsimp only)
theorem qyg (s : TypeId) (a f : Value) : Tame P Bk (Instr.indexAt s a f) := by
 unfold Instr.indexAt
 repeat' (first | exact trivial | (with_reducible first | exact yw | exact qas _ _ | exact wz _ | exact zl _ | exact zq _ | exact zy _ | exact zo _ | exact tmark | exact yl _ | exact xh _ | exact zh _ | exact xx _ | exact qab _ | exact yh _ _ | exact y8 _ _ | exact ja _ _ | exact zt _ _ | exact jb _ | exact qav _ _ _ | exact yz _ | exact xm _ _ _ _ | exact y9 _ | exact qac _ | exact jc _ | exact qad _ | exact jd _ | exact yt _ | exact zf _ | exact zk _ | exact ji _ | exact zu _ | exact jf _ _ _ | exact xu _ _ | exact yu _ _ | exact xn _ _) | refine tb ?_ (fun _ => ?_) | refine tmap ?_ | refine qbu _ _ _ (fun _ _ => ?_) | refine qbv _ _ _ (fun _ _ => ?_) | refine qbp (fun _ => ?_) _ | split | dsimp only)
theorem q7f (x : Value) (y : Nat) (c : BoundsCode) : Tame P Bk (Instr.sliceBound x y c) := by
 unfold Instr.sliceBound
 repeat' (first | exact trivial | (with_reducible first | exact yw | exact qas _ _ | exact wz _ | exact zl _ | exact zq _ | exact zy _ | exact zo _ | exact tmark | exact yl _ | exact xh _ | exact zh _ | exact xx _ | exact qab _ | exact yh _ _ | exact y8 _ _ | exact ja _ _ | exact zt _ _ | exact jb _ | exact qav _ _ _ | exact yz _ | exact xm _ _ _ _ | exact y9 _ | exact qac _ | exact jc _ | exact qad _ | exact jd _ | exact yt _ | exact zf _ | exact zk _ | exact ji _ | exact zu _ | exact jf _ _ _ | exact xu _ _ | exact yu _ _ | exact xn _ _) | refine tb ?_ (fun _ => ?_) | refine tmap ?_ | refine qbu _ _ _ (fun _ _ => ?_) | refine qbv _ _ _ (fun _ _ => ?_) | refine qbp (fun _ => ?_) _ | split | dsimp only)
theorem quy (b : Bool) (l c : Nat) (x y z : Option Value) : Tame P Bk (Instr.sliceBounds b l c x y z) := by
 unfold Instr.sliceBounds
 repeat' (first | exact trivial | (with_reducible first | exact q7f _ _ _ | exact yw | exact qas _ _ | exact wz _ | exact zl _ | exact zq _ | exact zy _ | exact zo _ | exact tmark | exact yl _ | exact xh _ | exact zh _ | exact xx _ | exact qab _ | exact yh _ _ | exact y8 _ _ | exact ja _ _ | exact zt _ _ | exact jb _ | exact qav _ _ _ | exact yz _ | exact xm _ _ _ _ | exact y9 _ | exact qac _ | exact jc _ | exact qad _ | exact jd _ | exact yt _ | exact zf _ | exact zk _ | exact ji _ | exact zu _ | exact jf _ _ _ | exact xu _ _ | exact yu _ _ | exact xn _ _) | refine tb ?_ (fun _ => ?_) | refine tmap ?_ | refine qbu _ _ _ (fun _ _ => ?_) | refine qbv _ _ _ (fun _ _ => ?_) | refine qbp (fun _ => ?_) _ | split | dsimp only)
theorem q7g (t : TypeId) (x : Value) (l h m : Option Value) : Tame P Bk (Instr.slice t x l h m) := by
 unfold Instr.slice
 repeat' (first | exact trivial | (with_reducible first | exact quy _ _ _ _ _ _ | exact yw | exact qas _ _ | exact wz _ | exact zl _ | exact zq _ | exact zy _ | exact zo _ | exact tmark | exact yl _ | exact xh _ | exact zh _ | exact xx _ | exact qab _ | exact yh _ _ | exact y8 _ _ | exact ja _ _ | exact zt _ _ | exact jb _ | exact qav _ _ _ | exact yz _ | exact xm _ _ _ _ | exact y9 _ | exact qac _ | exact jc _ | exact qad _ | exact jd _ | exact yt _ | exact zf _ | exact zk _ | exact ji _ | exact zu _ | exact jf _ _ _ | exact xu _ _ | exact yu _ _ | exact xn _ _) | refine tb ?_ (fun _ => ?_) | refine tmap ?_ | refine qbu _ _ _ (fun _ _ => ?_) | refine qbv _ _ _ (fun _ _ => ?_) | refine qbp (fun _ => ?_) _ | split | dsimp only)
theorem qyh (t : TypeId) (x : Value) (l h m : Option Value) : Tame P Bk (Instr.sliceAt t x l h m) := by
 unfold Instr.sliceAt
 repeat' (first | exact trivial | (with_reducible first | exact quy _ _ _ _ _ _ | exact q7g _ _ _ _ _ | exact yw | exact qas _ _ | exact wz _ | exact zl _ | exact zq _ | exact zy _ | exact zo _ | exact tmark | exact yl _ | exact xh _ | exact zh _ | exact xx _ | exact qab _ | exact yh _ _ | exact y8 _ _ | exact ja _ _ | exact zt _ _ | exact jb _ | exact qav _ _ _ | exact yz _ | exact xm _ _ _ _ | exact y9 _ | exact qac _ | exact jc _ | exact qad _ | exact jd _ | exact yt _ | exact zf _ | exact zk _ | exact ji _ | exact zu _ | exact jf _ _ _ | exact xu _ _ | exact yu _ _ | exact xn _ _) | refine tb ?_ (fun _ => ?_) | refine tmap ?_ | refine qbu _ _ _ (fun _ _ => ?_) | refine qbv _ _ _ (fun _ _ => ?_) | refine qbp (fun _ => ?_) _ | split | dsimp only)
theorem q7h (t : TypeId) (x : Value) (f : Nat) : Tame P Bk (Instr.field t x f) := by
 unfold Instr.field
 repeat' (first | exact trivial | (with_reducible first | exact yw | exact qas _ _ | exact wz _ | exact zl _ | exact zq _ | exact zy _ | exact zo _ | exact tmark | exact yl _ | exact xh _ | exact zh _ | exact xx _ | exact qab _ | exact yh _ _ | exact y8 _ _ | exact ja _ _ | exact zt _ _ | exact jb _ | exact qav _ _ _ | exact yz _ | exact xm _ _ _ _ | exact y9 _ | exact qac _ | exact jc _ | exact qad _ | exact jd _ | exact yt _ | exact zf _ | exact zk _ | exact ji _ | exact zu _ | exact jf _ _ _ | exact xu _ _ | exact yu _ _ | exact xn _ _) | refine tb ?_ (fun _ => ?_) | refine tmap ?_ | refine qbu _ _ _ (fun _ _ => ?_) | refine qbv _ _ _ (fun _ _ => ?_) | refine qbp (fun _ => ?_) _ | split | dsimp only)
theorem q7i (t : TypeId) (x f : Value) : Tame P Bk (Instr.index t x f) := by
 unfold Instr.index
 repeat' (first | exact trivial | (with_reducible first | exact yw | exact qas _ _ | exact wz _ | exact zl _ | exact zq _ | exact zy _ | exact zo _ | exact tmark | exact yl _ | exact xh _ | exact zh _ | exact xx _ | exact qab _ | exact yh _ _ | exact y8 _ _ | exact ja _ _ | exact zt _ _ | exact jb _ | exact qav _ _ _ | exact yz _ | exact xm _ _ _ _ | exact y9 _ | exact qac _ | exact jc _ | exact qad _ | exact jd _ | exact yt _ | exact zf _ | exact zk _ | exact ji _ | exact zu _ | exact jf _ _ _ | exact xu _ _ | exact yu _ _ | exact xn _ _) | refine tb ?_ (fun _ => ?_) | refine tmap ?_ | refine qbu _ _ _ (fun _ _ => ?_) | refine qbv _ _ _ (fun _ _ => ?_) | refine qbp (fun _ => ?_) _ | split | dsimp only)
theorem q7j (t : TypeId) (ps : Array (Nat × Value)) : Tame P Bk (Instr.build t ps) := by
 unfold Instr.build
 repeat' (first | exact trivial | (with_reducible first | exact yw | exact qas _ _ | exact wz _ | exact zl _ | exact zq _ | exact zy _ | exact zo _ | exact tmark | exact yl _ | exact xh _ | exact zh _ | exact xx _ | exact qab _ | exact yh _ _ | exact y8 _ _ | exact ja _ _ | exact zt _ _ | exact jb _ | exact qav _ _ _ | exact yz _ | exact xm _ _ _ _ | exact y9 _ | exact qac _ | exact jc _ | exact qad _ | exact jd _ | exact yt _ | exact zf _ | exact zk _ | exact ji _ | exact zu _ | exact jf _ _ _ | exact xu _ _ | exact yu _ _ | exact xn _ _) | refine tb ?_ (fun _ => ?_) | refine tmap ?_ | refine qbu _ _ _ (fun _ _ => ?_) | refine qbv _ _ _ (fun _ _ => ?_) | refine qbp (fun _ => ?_) _ | split | dsimp only)
theorem qq1 (t : TypeId) (n : Nat) (ps : Array (Nat × Value)) : Tame P Bk (Instr.buildSlice t n ps) := by
 unfold Instr.buildSlice
 repeat' (first | exact trivial | (with_reducible first | exact yw | exact qas _ _ | exact wz _ | exact zl _ | exact zq _ | exact zy _ | exact zo _ | exact tmark | exact yl _ | exact xh _ | exact zh _ | exact xx _ | exact qab _ | exact yh _ _ | exact y8 _ _ | exact ja _ _ | exact zt _ _ | exact jb _ | exact qav _ _ _ | exact yz _ | exact xm _ _ _ _ | exact y9 _ | exact qac _ | exact jc _ | exact qad _ | exact jd _ | exact yt _ | exact zf _ | exact zk _ | exact ji _ | exact zu _ | exact jf _ _ _ | exact xu _ _ | exact yu _ _ | exact xn _ _) | refine tb ?_ (fun _ => ?_) | refine tmap ?_ | refine qbu _ _ _ (fun _ _ => ?_) | refine qbv _ _ _ (fun _ _ => ?_) | refine qbp (fun _ => ?_) _ | split | dsimp only)
theorem qs9 (t : TypeId) (l c : Value) : Tame P Bk (Instr.makeSlice t l c) := by
 unfold Instr.makeSlice
 repeat' (first | exact trivial | (with_reducible first | exact yw | exact qas _ _ | exact wz _ | exact zl _ | exact zq _ | exact zy _ | exact zo _ | exact tmark | exact yl _ | exact xh _ | exact zh _ | exact xx _ | exact qab _ | exact yh _ _ | exact y8 _ _ | exact ja _ _ | exact zt _ _ | exact jb _ | exact qav _ _ _ | exact yz _ | exact xm _ _ _ _ | exact y9 _ | exact qac _ | exact jc _ | exact qad _ | exact jd _ | exact yt _ | exact zf _ | exact zk _ | exact ji _ | exact zu _ | exact jf _ _ _ | exact xu _ _ | exact yu _ _ | exact xn _ _) | refine tb ?_ (fun _ => ?_) | refine tmap ?_ | refine qbu _ _ _ (fun _ _ => ?_) | refine qbv _ _ _ (fun _ _ => ?_) | refine qbp (fun _ => ?_) _ | split | dsimp only)
theorem q7k (t : TypeId) (x : Value) : Tame P Bk (Instr.makeInterface t x) := by
 unfold Instr.makeInterface
 repeat' (first | exact trivial | (with_reducible first | exact yw | exact qas _ _ | exact wz _ | exact zl _ | exact zq _ | exact zy _ | exact zo _ | exact tmark | exact yl _ | exact xh _ | exact zh _ | exact xx _ | exact qab _ | exact yh _ _ | exact y8 _ _ | exact ja _ _ | exact zt _ _ | exact jb _ | exact qav _ _ _ | exact yz _ | exact xm _ _ _ _ | exact y9 _ | exact qac _ | exact jc _ | exact qad _ | exact jd _ | exact yt _ | exact zf _ | exact zk _ | exact ji _ | exact zu _ | exact jf _ _ _ | exact xu _ _ | exact yu _ _ | exact xn _ _) | refine tb ?_ (fun _ => ?_) | refine tmap ?_ | refine qbu _ _ _ (fun _ _ => ?_) | refine qbv _ _ _ (fun _ _ => ?_) | refine qbp (fun _ => ?_) _ | split | dsimp only)
theorem qyi (t : Value) (i : Nat) : Tame P Bk (Instr.extract t i) := by
 unfold Instr.extract
 repeat' (first | exact trivial | (with_reducible first | exact yw | exact qas _ _ | exact wz _ | exact zl _ | exact zq _ | exact zy _ | exact zo _ | exact tmark | exact yl _ | exact xh _ | exact zh _ | exact xx _ | exact qab _ | exact yh _ _ | exact y8 _ _ | exact ja _ _ | exact zt _ _ | exact jb _ | exact qav _ _ _ | exact yz _ | exact xm _ _ _ _ | exact y9 _ | exact qac _ | exact jc _ | exact qad _ | exact jd _ | exact yt _ | exact zf _ | exact zk _ | exact ji _ | exact zu _ | exact jf _ _ _ | exact xu _ _ | exact yu _ _ | exact xn _ _) | refine tb ?_ (fun _ => ?_) | refine tmap ?_ | refine qbu _ _ _ (fun _ _ => ?_) | refine qbv _ _ _ (fun _ _ => ?_) | refine qbp (fun _ => ?_) _ | split | dsimp only)
theorem tbox (t : TypeId) (x : Value) : Tame P Bk (Instr.box t x) := by
 unfold Instr.box
 repeat' (first | exact trivial | (with_reducible first | exact yw | exact qas _ _ | exact wz _ | exact zl _ | exact zq _ | exact zy _ | exact zo _ | exact tmark | exact yl _ | exact xh _ | exact zh _ | exact xx _ | exact qab _ | exact yh _ _ | exact y8 _ _ | exact ja _ _ | exact zt _ _ | exact jb _ | exact qav _ _ _ | exact yz _ | exact xm _ _ _ _ | exact y9 _ | exact qac _ | exact jc _ | exact qad _ | exact jd _ | exact yt _ | exact zf _ | exact zk _ | exact ji _ | exact zu _ | exact jf _ _ _ | exact xu _ _ | exact yu _ _ | exact xn _ _) | refine tb ?_ (fun _ => ?_) | refine tmap ?_ | refine qbu _ _ _ (fun _ _ => ?_) | refine qbv _ _ _ (fun _ _ => ?_) | refine qbp (fun _ => ?_) _ | split | dsimp only)
theorem q7l (t : TypeId) (x : Value) : Tame P Bk (Instr.alloc t true x) := by
 unfold Instr.alloc
 refine tb (xx _) fun z => ?_
 exact tb (zt _ _) fun _ => trivial
theorem tlen (a : Array TypeId) (t : TypeId) (x : Array Value) : Tame P Bk (Builtin.len_ a t x) := by
 unfold Builtin.len_
 repeat' (first | exact trivial | (with_reducible first | exact yw | exact qas _ _ | exact wz _ | exact zl _ | exact zq _ | exact zy _ | exact zo _ | exact tmark | exact yl _ | exact xh _ | exact zh _ | exact xx _ | exact qab _ | exact yh _ _ | exact y8 _ _ | exact ja _ _ | exact zt _ _ | exact jb _ | exact qav _ _ _ | exact yz _ | exact xm _ _ _ _ | exact y9 _ | exact qac _ | exact jc _ | exact qad _ | exact jd _ | exact yt _ | exact zf _ | exact zk _ | exact ji _ | exact zu _ | exact jf _ _ _ | exact xu _ _ | exact yu _ _ | exact xn _ _) | refine tb ?_ (fun _ => ?_) | refine tmap ?_ | refine qbu _ _ _ (fun _ _ => ?_) | refine qbv _ _ _ (fun _ _ => ?_) | refine qbp (fun _ => ?_) _ | split | dsimp only)
theorem tcap (a : Array TypeId) (t : TypeId) (x : Array Value) : Tame P Bk (Builtin.cap_ a t x) := by
 unfold Builtin.cap_
 repeat' (first | exact trivial | (with_reducible first | exact yw | exact qas _ _ | exact wz _ | exact zl _ | exact zq _ | exact zy _ | exact zo _ | exact tmark | exact yl _ | exact xh _ | exact zh _ | exact xx _ | exact qab _ | exact yh _ _ | exact y8 _ _ | exact ja _ _ | exact zt _ _ | exact jb _ | exact qav _ _ _ | exact yz _ | exact xm _ _ _ _ | exact y9 _ | exact qac _ | exact jc _ | exact qad _ | exact jd _ | exact yt _ | exact zf _ | exact zk _ | exact ji _ | exact zu _ | exact jf _ _ _ | exact xu _ _ | exact yu _ _ | exact xn _ _) | refine tb ?_ (fun _ => ?_) | refine tmap ?_ | refine qbu _ _ _ (fun _ _ => ?_) | refine qbv _ _ _ (fun _ _ => ?_) | refine qbp (fun _ => ?_) _ | split | dsimp only)
theorem qd1 (x : Value) : Tame P Bk (Builtin.lenOf x) := by
 unfold Builtin.lenOf
 repeat' (first | exact trivial | (with_reducible first | exact yw | exact qas _ _ | exact wz _ | exact zl _ | exact zq _ | exact zy _ | exact zo _ | exact tmark | exact yl _ | exact xh _ | exact zh _ | exact xx _ | exact qab _ | exact yh _ _ | exact y8 _ _ | exact ja _ _ | exact zt _ _ | exact jb _ | exact qav _ _ _ | exact yz _ | exact xm _ _ _ _ | exact y9 _ | exact qac _ | exact jc _ | exact qad _ | exact jd _ | exact yt _ | exact zf _ | exact zk _ | exact ji _ | exact zu _ | exact jf _ _ _ | exact xu _ _ | exact yu _ _ | exact xn _ _) | refine tb ?_ (fun _ => ?_) | refine tmap ?_ | refine qbu _ _ _ (fun _ _ => ?_) | refine qbv _ _ _ (fun _ _ => ?_) | refine qbp (fun _ => ?_) _ | split | dsimp only)
theorem qd2 (s n : Nat) (x : Value) : Tame P Bk (Builtin.firstCells s n x) := by
 unfold Builtin.firstCells
 repeat' (first | exact trivial | (with_reducible first | exact yw | exact qas _ _ | exact wz _ | exact zl _ | exact zq _ | exact zy _ | exact zo _ | exact tmark | exact yl _ | exact xh _ | exact zh _ | exact xx _ | exact qab _ | exact yh _ _ | exact y8 _ _ | exact ja _ _ | exact zt _ _ | exact jb _ | exact qav _ _ _ | exact yz _ | exact xm _ _ _ _ | exact y9 _ | exact qac _ | exact jc _ | exact qad _ | exact jd _ | exact yt _ | exact zf _ | exact zk _ | exact ji _ | exact zu _ | exact jf _ _ _ | exact xu _ _ | exact yu _ _ | exact xn _ _) | refine tb ?_ (fun _ => ?_) | refine tmap ?_ | refine qbu _ _ _ (fun _ _ => ?_) | refine qbv _ _ _ (fun _ _ => ?_) | refine qbp (fun _ => ?_) _ | split | dsimp only)
theorem q7m (a : Addr) (n : Nat) : Tame P Bk (Builtin.holdsCells a n) := by
 unfold Builtin.holdsCells
 repeat' (first | exact trivial | (with_reducible first | exact yw | exact qas _ _ | exact wz _ | exact zl _ | exact zq _ | exact zy _ | exact zo _ | exact tmark | exact yl _ | exact xh _ | exact zh _ | exact xx _ | exact qab _ | exact yh _ _ | exact y8 _ _ | exact ja _ _ | exact zt _ _ | exact jb _ | exact qav _ _ _ | exact yz _ | exact xm _ _ _ _ | exact y9 _ | exact qac _ | exact jc _ | exact qad _ | exact jd _ | exact yt _ | exact zf _ | exact zk _ | exact ji _ | exact zu _ | exact jf _ _ _ | exact xu _ _ | exact yu _ _ | exact xn _ _) | refine tb ?_ (fun _ => ?_) | refine tmap ?_ | refine qbu _ _ _ (fun _ _ => ?_) | refine qbv _ _ _ (fun _ _ => ?_) | refine qbp (fun _ => ?_) _ | split | dsimp only)
theorem qch (a b c : Nat) (x : Option Addr) (v : Value) : Tame P Bk (Builtin.mayShare a b c x v) := by
 unfold Builtin.mayShare
 repeat' (first | exact trivial | (with_reducible first | exact q7m _ _ | exact yw | exact qas _ _ | exact wz _ | exact zl _ | exact zq _ | exact zy _ | exact zo _ | exact tmark | exact yl _ | exact xh _ | exact zh _ | exact xx _ | exact qab _ | exact yh _ _ | exact y8 _ _ | exact ja _ _ | exact zt _ _ | exact jb _ | exact qav _ _ _ | exact yz _ | exact xm _ _ _ _ | exact y9 _ | exact qac _ | exact jc _ | exact qad _ | exact jd _ | exact yt _ | exact zf _ | exact zk _ | exact ji _ | exact zu _ | exact jf _ _ _ | exact xu _ _ | exact yu _ _ | exact xn _ _) | refine tb ?_ (fun _ => ?_) | refine tmap ?_ | refine qbu _ _ _ (fun _ _ => ?_) | refine qbv _ _ _ (fun _ _ => ?_) | refine qbp (fun _ => ?_) _ | split | dsimp only)
end
end Co
end Go.Proofs.YtfiofmaknndpcaaGreatDoor
namespace Go.Proofs.YtfiofmaknndpcaaGreatDoor
open Go Go.Conc
namespace Co
section
variable {P : Program} {Bk : Nat -> Prop}
theorem q2n {a : Addr} (h : Bk a.block) (k : Nat) (l : List Value) (i : Nat) : Tame P Bk (storeCells (a.add k) l i) :=
 qdq (by rw [show (a.add k).block = a.block by unfold Addr.add; split <;> rfl]; exact h) l i
theorem quz {α : Type} (s : Nat) (v : Value) (f : Array Value -> Sem α) (hf : Tame P Bk (f #[])) : Tame P Bk (Builtin.firstCells s 0 v >>= f) := by
 unfold Builtin.firstCells
 split
 ·rename_i a _ _
  rw [Nat.zero_mul]
  exact hf
 ·exact hf
 ·rename_i s
  have e : (s.extract 0 0).data.map (fun b => Value.int .u8 b.toNat) = #[] := by simp [ByteArray.extract, ByteArray.copySlice]
  rw [e]
  exact hf
 ·exact trivial
theorem q7n {a : Addr} (hb : Bk a.block) (Ts : Array TypeId) (t : TypeId) (n c : Nat) (x : Value) : Tame P Bk (Builtin.copy_ Ts t #[.slice (some a) n c, x]) := by
 unfold Builtin.copy_
 repeat' (first | (with_reducible first | exact jk _ | exact qbs _ | exact qda _ | exact qbt _ | exact qd1 _ | exact qd2 _ _ _ | exact qch _ _ _ _ _ | exact yw | exact qas _ _ | exact wz _ | exact zl _ | exact zq _ | exact zy _ | exact zo _ | exact tmark | exact yl _ | exact xh _ | exact zh _ | exact xx _ | exact qab _ | exact yh _ _ | exact y8 _ _ | exact ja _ _ | exact zt _ _ | exact jb _ | exact qav _ _ _ | exact yz _ | exact xm _ _ _ _ | exact y9 _ | exact qac _ | exact jc _ | exact qad _ | exact jd _ | exact yt _ | exact zf _ | exact zk _ | exact ji _ | exact zu _ | exact jf _ _ _ | exact xu _ _ | exact yu _ _ | exact xn _ _) | refine tb ?_ (fun _ => ?_) | refine tmap ?_ | split | dsimp only)
 all_goals (rename (_, _, _) = _ => hq; simp at hq; obtain ⟨_, ⟨rfl, rfl, rfl⟩, _⟩ := hq; exact qdq hb _ _)
theorem qu0 {a : Addr} (hb : Bk a.block) (Ts : Array TypeId) (t : TypeId) (n c : Nat) : Tame P Bk (Builtin.clear_ Ts t #[.slice (some a) n c]) := by
 unfold Builtin.clear_
 repeat' (first | (with_reducible first | exact jk _ | exact qbs _ | exact qda _ | exact qbt _ | exact qd1 _ | exact qd2 _ _ _ | exact qch _ _ _ _ _ | exact yw | exact qas _ _ | exact wz _ | exact zl _ | exact zq _ | exact zy _ | exact zo _ | exact tmark | exact yl _ | exact xh _ | exact zh _ | exact xx _ | exact qab _ | exact yh _ _ | exact y8 _ _ | exact ja _ _ | exact zt _ _ | exact jb _ | exact qav _ _ _ | exact yz _ | exact xm _ _ _ _ | exact y9 _ | exact qac _ | exact jc _ | exact qad _ | exact jd _ | exact yt _ | exact zf _ | exact zk _ | exact ji _ | exact zu _ | exact jf _ _ _ | exact xu _ _ | exact yu _ _ | exact xn _ _) | refine tb ?_ (fun _ => ?_) | refine tmap ?_ | split | dsimp only)
 all_goals (rename (_, _) = _ => hq; simp at hq)
 all_goals (obtain ⟨_, rfl, rfl, rfl⟩ := hq; exact qdq hb _ _)
set_option maxHeartbeats 4000000 in
theorem qlk (Ts : Array TypeId) (t : TypeId) (base : Option Addr) (m c : Nat) (x : Value)
  (hst : ∀ (z : Bool) (s n : Nat) (e : TypeId), m + n <= c -> ∀ a, base = some a -> Tame P Bk ((if (!z) = true then Builtin.firstCells s n x else if n * s = 0 then pure #[] else do pure (Builtin.zeroCells (← zeroValue e).cells n)) >>= fun new => storeCells (a.add (m * s)) new.toList >>= fun _ => (pure (Value.slice base (m + n) c) : Sem Value))) :
  Tame P Bk (Builtin.append_ Ts t #[.slice base m c, x]) := by
 unfold Builtin.append_
 split
 ·rename (_, _, _) = _ => hq
  refine tb (xh _) (fun _ => ?_)
  split
  ·split
   ·rename_i _ _ e _ base' m' c'
    obtain ⟨_, ⟨rfl, rfl, rfl⟩, rfl⟩ : _ /\ (base = base' /\ m = m' /\ c = c') /\ x = _ := by simpa using hq
    refine tb (zh _) (fun s => ?_)
    dsimp only
    have hF : ∀ n, m + n <= c -> ∀ a, base = some a -> Tame P Bk (Builtin.firstCells s n x >>= fun new => storeCells (a.add (m * s)) new.toList >>= fun _ => (pure (Value.slice base (m + n) c) : Sem Value)) := fun n h a ha => hst false s n e h a ha
    have hT : ∀ n, m + n <= c -> ∀ a, base = some a -> Tame P Bk ((if n * s = 0 then pure #[] else do pure (Builtin.zeroCells (← zeroValue e).cells n)) >>= fun new => storeCells (a.add (m * s)) new.toList >>= fun _ => (pure (Value.slice base (m + n) c) : Sem Value)) := fun n h a ha => hst true s n e h a ha
    have z0 : ∀ (n : Nat), Tame P Bk (if n * s = 0 then pure #[] else do pure (Builtin.zeroCells (← zeroValue e).cells n) : Sem (Array Value)) := fun n => by
     split
     ·exact jk _
     ·exact tb (xx _) fun _ => jk _
    clear hst
    split
    ·refine tb (xh _) fun d => tb (jk _) fun zeros => ?_
     cases zeros
     ·simp only [Bool.not_false, Bool.not_true, if_true, if_false, Bool.false_eq_true, false_or, true_or, and_true, ↓reduceIte]
      cases base with
      | none => (repeat' (first | (with_reducible first | exact jk _ | exact qbs _ | exact qda _ | exact qbt _ | exact qd1 _ | exact qd2 _ _ _ | exact qch _ _ _ _ _ | exact z0 _ | exact yw | exact qas _ _ | exact wz _ | exact zl _ | exact zq _ | exact zy _ | exact zo _ | exact tmark | exact yl _ | exact xh _ | exact zh _ | exact xx _ | exact qab _ | exact yh _ _ | exact y8 _ _ | exact ja _ _ | exact zt _ _ | exact jb _ | exact qav _ _ _ | exact yz _ | exact xm _ _ _ _ | exact y9 _ | exact qac _ | exact jc _ | exact qad _ | exact jd _ | exact yt _ | exact zf _ | exact zk _ | exact ji _ | exact zu _ | exact jf _ _ _ | exact xu _ _ | exact yu _ _ | exact xn _ _) | refine tb ?_ (fun _ => ?_) | refine tmap ?_ | split | dsimp only))
      | some a => (repeat' (first | (with_reducible first | exact jk _ | exact qbs _ | exact qda _ | exact qbt _ | exact hF _ (by assumption) _ rfl | exact hT _ (by assumption) _ rfl | exact qd1 _ | exact qd2 _ _ _ | exact qch _ _ _ _ _ | exact z0 _ | exact yw | exact qas _ _ | exact wz _ | exact zl _ | exact zq _ | exact zy _ | exact zo _ | exact tmark | exact yl _ | exact xh _ | exact zh _ | exact xx _ | exact qab _ | exact yh _ _ | exact y8 _ _ | exact ja _ _ | exact zt _ _ | exact jb _ | exact qav _ _ _ | exact yz _ | exact xm _ _ _ _ | exact y9 _ | exact qac _ | exact jc _ | exact qad _ | exact jd _ | exact yt _ | exact zf _ | exact zk _ | exact ji _ | exact zu _ | exact jf _ _ _ | exact xu _ _ | exact yu _ _ | exact xn _ _) | refine tb ?_ (fun _ => ?_) | refine tmap ?_ | split | dsimp only))
     ·simp only [Bool.not_false, Bool.not_true, if_true, if_false, Bool.false_eq_true, false_or, true_or, and_true, ↓reduceIte]
      cases base with
      | none => (repeat' (first | (with_reducible first | exact jk _ | exact qbs _ | exact qda _ | exact qbt _ | exact qd1 _ | exact qd2 _ _ _ | exact qch _ _ _ _ _ | exact z0 _ | exact yw | exact qas _ _ | exact wz _ | exact zl _ | exact zq _ | exact zy _ | exact zo _ | exact tmark | exact yl _ | exact xh _ | exact zh _ | exact xx _ | exact qab _ | exact yh _ _ | exact y8 _ _ | exact ja _ _ | exact zt _ _ | exact jb _ | exact qav _ _ _ | exact yz _ | exact xm _ _ _ _ | exact y9 _ | exact qac _ | exact jc _ | exact qad _ | exact jd _ | exact yt _ | exact zf _ | exact zk _ | exact ji _ | exact zu _ | exact jf _ _ _ | exact xu _ _ | exact yu _ _ | exact xn _ _) | refine tb ?_ (fun _ => ?_) | refine tmap ?_ | split | dsimp only))
      | some a => (repeat' (first | (with_reducible first | exact jk _ | exact qbs _ | exact qda _ | exact qbt _ | exact hF _ (by assumption) _ rfl | exact hT _ (by assumption) _ rfl | exact qd1 _ | exact qd2 _ _ _ | exact qch _ _ _ _ _ | exact z0 _ | exact yw | exact qas _ _ | exact wz _ | exact zl _ | exact zq _ | exact zy _ | exact zo _ | exact tmark | exact yl _ | exact xh _ | exact zh _ | exact xx _ | exact qab _ | exact yh _ _ | exact y8 _ _ | exact ja _ _ | exact zt _ _ | exact jb _ | exact qav _ _ _ | exact yz _ | exact xm _ _ _ _ | exact y9 _ | exact qac _ | exact jc _ | exact qad _ | exact jd _ | exact yt _ | exact zf _ | exact zk _ | exact ji _ | exact zu _ | exact jf _ _ _ | exact xu _ _ | exact yu _ _ | exact xn _ _) | refine tb ?_ (fun _ => ?_) | refine tmap ?_ | split | dsimp only))
    ·refine tb (jk _) fun zeros => ?_
     cases zeros
     ·simp only [Bool.not_false, Bool.not_true, if_true, if_false, Bool.false_eq_true, false_or, true_or, and_true, ↓reduceIte]
      cases base with
      | none => (repeat' (first | (with_reducible first | exact jk _ | exact qbs _ | exact qda _ | exact qbt _ | exact qd1 _ | exact qd2 _ _ _ | exact qch _ _ _ _ _ | exact z0 _ | exact yw | exact qas _ _ | exact wz _ | exact zl _ | exact zq _ | exact zy _ | exact zo _ | exact tmark | exact yl _ | exact xh _ | exact zh _ | exact xx _ | exact qab _ | exact yh _ _ | exact y8 _ _ | exact ja _ _ | exact zt _ _ | exact jb _ | exact qav _ _ _ | exact yz _ | exact xm _ _ _ _ | exact y9 _ | exact qac _ | exact jc _ | exact qad _ | exact jd _ | exact yt _ | exact zf _ | exact zk _ | exact ji _ | exact zu _ | exact jf _ _ _ | exact xu _ _ | exact yu _ _ | exact xn _ _) | refine tb ?_ (fun _ => ?_) | refine tmap ?_ | split | dsimp only))
      | some a => (repeat' (first | (with_reducible first | exact jk _ | exact qbs _ | exact qda _ | exact qbt _ | exact hF _ (by assumption) _ rfl | exact hT _ (by assumption) _ rfl | exact qd1 _ | exact qd2 _ _ _ | exact qch _ _ _ _ _ | exact z0 _ | exact yw | exact qas _ _ | exact wz _ | exact zl _ | exact zq _ | exact zy _ | exact zo _ | exact tmark | exact yl _ | exact xh _ | exact zh _ | exact xx _ | exact qab _ | exact yh _ _ | exact y8 _ _ | exact ja _ _ | exact zt _ _ | exact jb _ | exact qav _ _ _ | exact yz _ | exact xm _ _ _ _ | exact y9 _ | exact qac _ | exact jc _ | exact qad _ | exact jd _ | exact yt _ | exact zf _ | exact zk _ | exact ji _ | exact zu _ | exact jf _ _ _ | exact xu _ _ | exact yu _ _ | exact xn _ _) | refine tb ?_ (fun _ => ?_) | refine tmap ?_ | split | dsimp only))
     ·simp only [Bool.not_false, Bool.not_true, if_true, if_false, Bool.false_eq_true, false_or, true_or, and_true, ↓reduceIte]
      cases base with
      | none => (repeat' (first | (with_reducible first | exact jk _ | exact qbs _ | exact qda _ | exact qbt _ | exact qd1 _ | exact qd2 _ _ _ | exact qch _ _ _ _ _ | exact z0 _ | exact yw | exact qas _ _ | exact wz _ | exact zl _ | exact zq _ | exact zy _ | exact zo _ | exact tmark | exact yl _ | exact xh _ | exact zh _ | exact xx _ | exact qab _ | exact yh _ _ | exact y8 _ _ | exact ja _ _ | exact zt _ _ | exact jb _ | exact qav _ _ _ | exact yz _ | exact xm _ _ _ _ | exact y9 _ | exact qac _ | exact jc _ | exact qad _ | exact jd _ | exact yt _ | exact zf _ | exact zk _ | exact ji _ | exact zu _ | exact jf _ _ _ | exact xu _ _ | exact yu _ _ | exact xn _ _) | refine tb ?_ (fun _ => ?_) | refine tmap ?_ | split | dsimp only))
      | some a => (repeat' (first | (with_reducible first | exact jk _ | exact qbs _ | exact qda _ | exact qbt _ | exact hF _ (by assumption) _ rfl | exact hT _ (by assumption) _ rfl | exact qd1 _ | exact qd2 _ _ _ | exact qch _ _ _ _ _ | exact z0 _ | exact yw | exact qas _ _ | exact wz _ | exact zl _ | exact zq _ | exact zy _ | exact zo _ | exact tmark | exact yl _ | exact xh _ | exact zh _ | exact xx _ | exact qab _ | exact yh _ _ | exact y8 _ _ | exact ja _ _ | exact zt _ _ | exact jb _ | exact qav _ _ _ | exact yz _ | exact xm _ _ _ _ | exact y9 _ | exact qac _ | exact jc _ | exact qad _ | exact jd _ | exact yt _ | exact zf _ | exact zk _ | exact ji _ | exact zu _ | exact jf _ _ _ | exact xu _ _ | exact yu _ _ | exact xn _ _) | refine tb ?_ (fun _ => ?_) | refine tmap ?_ | split | dsimp only))
   ·exact qbs _
  ·exact qbs _
 ·exact qbs _
theorem qyj {a : Addr} (hb : Bk a.block) (Ts : Array TypeId) (t : TypeId) (m c : Nat) (x : Value) : Tame P Bk (Builtin.append_ Ts t #[.slice (some a) m c, x]) :=
 qlk Ts t (some a) m c x (fun z s n e _ a' ha => by
  obtain rfl := Option.some.inj ha
  refine tb ?_ fun _ => tb (q2n hb _ _ _) fun _ => jk _
  split
  ·exact qd2 _ _ _
  ·split
   ·exact jk _
   ·exact tb (xx _) fun _ => jk _)
theorem qq3 (a : Option Addr) (Ts : Array TypeId) (t : TypeId) (m : Nat) (x : Value) : Tame P Bk (Builtin.append_ Ts t #[.slice a m 0, x]) :=
 qlk Ts t a m 0 x (fun z s n e h a' ha => by
  obtain rfl : n = 0 := by omega
  obtain rfl : m = 0 := by omega
  split
  ·exact quz _ _ _ (jk _)
  ·rw [if_pos (Nat.zero_mul _)]
   exact jk _)
end
end Co
end Go.Proofs.YtfiofmaknndpcaaGreatDoor
namespace Go.Proofs.YtfiofmaknndpcaaGreatDoor
open Go Go.Conc
namespace Co
section
variable {P : Program} {Bk : Nat -> Prop}
theorem tund {α : Type} {t : TypeId} {d : TypeDesc} (h : P.underlying t = some d) {f : TypeDesc -> Sem α} (hf : Tame P Bk (f d)) : Tame P Bk (underlying t >>= f) := by
 show Tame P Bk (Sem.bind (match P.underlying t with | some d => pure d | none => stuck "no such type") f)
 rw [h]
 exact hf
theorem qpp (t : TypeId) (x y : Value) : Tame P Bk (Op.equal t x y) := qqz _ _ _ _
theorem qu1 (op : BinOp) (T : TypeId) (k k' : IntKind) (a b : Int) : Tame P Bk (binOp op T (.int k a) (.int k' b)) := by
 unfold binOp
 (repeat' (first | (with_reducible first | exact jk _ | exact qbs _ | exact qda _ | exact qbt _ | exact qye _ _ _ _ _ | exact qkt _ _ _ _ | exact quw _ _ _ _ | exact qmx _ _ _ _ | exact qux _ _ _ | exact qga _ _ _ | exact qpp _ _ _ | exact yw | exact qas _ _ | exact wz _ | exact zl _ | exact zq _ | exact zy _ | exact zo _ | exact tmark | exact yl _ | exact xh _ | exact zh _ | exact xx _ | exact qab _ | exact yh _ _ | exact y8 _ _ | exact ja _ _ | exact zt _ _ | exact jb _ | exact qav _ _ _ | exact yz _ | exact xm _ _ _ _ | exact y9 _ | exact qac _ | exact jc _ | exact qad _ | exact jd _ | exact yt _ | exact zf _ | exact zk _ | exact ji _ | exact zu _ | exact jf _ _ _ | exact xu _ _ | exact yu _ _ | exact xn _ _) | refine tb ?_ (fun _ => ?_) | refine tmap ?_ | split | dsimp only))
 all_goals (exfalso; simp_all; done)
theorem q2o (op : BinOp) (T : TypeId) (a b : ByteArray) : Tame P Bk (binOp op T (.string a) (.string b)) := by
 unfold binOp
 (repeat' (first | (with_reducible first | exact jk _ | exact qbs _ | exact qda _ | exact qbt _ | exact qye _ _ _ _ _ | exact qkt _ _ _ _ | exact quw _ _ _ _ | exact qmx _ _ _ _ | exact qux _ _ _ | exact qga _ _ _ | exact qpp _ _ _ | exact yw | exact qas _ _ | exact wz _ | exact zl _ | exact zq _ | exact zy _ | exact zo _ | exact tmark | exact yl _ | exact xh _ | exact zh _ | exact xx _ | exact qab _ | exact yh _ _ | exact y8 _ _ | exact ja _ _ | exact zt _ _ | exact jb _ | exact qav _ _ _ | exact yz _ | exact xm _ _ _ _ | exact y9 _ | exact qac _ | exact jc _ | exact qad _ | exact jd _ | exact yt _ | exact zf _ | exact zk _ | exact ji _ | exact zu _ | exact jf _ _ _ | exact xu _ _ | exact yu _ _ | exact xn _ _) | refine tb ?_ (fun _ => ?_) | refine tmap ?_ | split | dsimp only))
 all_goals (exfalso; simp_all; done)
theorem qjl (T : TypeId) (x y : Value) (h1 : ∀ k a, y ≠ .int k a) (h2 : ∀ s, y ≠ .string s) (h3 : ∀ k a, y ≠ .float k a) (h4 : ∀ k a b, y ≠ .complex k a b) : Tame P Bk (binOp .eql T x y) := by
 unfold binOp
 split
 all_goals first | (with_reducible exact tb (qpp _ _ _) fun _ => jk _) | (exfalso; simp_all; done)
theorem qpq (T : TypeId) (x y : Value) (h1 : ∀ k a, y ≠ .int k a) (h2 : ∀ s, y ≠ .string s) (h3 : ∀ k a, y ≠ .float k a) (h4 : ∀ k a b, y ≠ .complex k a b) : Tame P Bk (binOp .neq T x y) := by
 unfold binOp
 split
 all_goals first | (with_reducible exact tb (qpp _ _ _) fun _ => jk _) | (exfalso; simp_all; done)
theorem qyk {S T : TypeId} {j : IntKind} (h : P.underlying T = some (.int j)) (k : IntKind) (n : Int) : Tame P Bk (convert S T (.int k n)) := by
 unfold convert
 refine tb (xh _) fun d => tund h ?_
 split
 all_goals first | (unfold Conv.intToInt; exact jk _) | (exfalso; simp_all; done)
def EvK (Bk : Nat -> Prop) (e : Event) : Prop := (∀ m, e.loc = .mark m -> Neutral m) /\ (e.write = true -> ∃ a, e.loc = .cell a /\ Bk a.block)
theorem q5p (a : Addr) (s : Bool) : EvK Bk ⟨.cell a, false, s⟩ := ⟨fun _ h => (by cases h), fun h => (by cases h)⟩
theorem q8l (r : Nat) (s : Bool) : EvK Bk ⟨.obj r, false, s⟩ := ⟨fun _ h => (by cases h), fun h => (by cases h)⟩
theorem q8m {a : Addr} (h : Bk a.block) (s : Bool) : EvK Bk ⟨.cell a, true, s⟩ := ⟨fun _ h => (by cases h), fun _ => ⟨a, rfl, h⟩⟩
theorem q8n {m : Mark} (h : Neutral m) : EvK Bk ⟨.mark m, false, true⟩ := ⟨fun m' e => (by cases e; exact h), fun h => (by cases h)⟩
theorem ql8 {es : Array Event} {x e : Event} (h : e ∈ es.push x) (hx : EvK Bk x) : e ∈ es ∨ EvK Bk e := by
 rcases Array.mem_push.1 h with h | rfl
 ·exact .inl h
 ·exact .inr hx
theorem q7o {es ts : Array Event} {e : Event} (h : e ∈ es ++ ts) (hx : ∀ x ∈ ts, EvK Bk x) : e ∈ es ∨ EvK Bk e := by
 rcases Array.mem_append.1 h with h | h
 ·exact .inl h
 ·exact .inr (hx e h)
set_option maxHeartbeats 4000000 in
theorem qgb {α : Type} : ∀ (s : Sem α), Tame P Bk s -> ∀ (w : World) (es : Array Event), (∀ b, Bk b -> ∃ c T f, w.heap[b]? = some (.cells c T f)) -> ∀ a w', s.run P w = .ok a w' →
  (∀ e ∈ (s.runT P w es).2, e ∈ es ∨ EvK Bk e) /\ (∀ k, k < w.heap.size -> ¬ Bk k -> w'.heap[k]? = w.heap[k]?) /\ w.heap.size <= w'.heap.size := by
 intro s
 have trans : ∀ {e : Event} {es es' : Array Event}, (e ∈ es' ∨ EvK Bk e) -> (∀ e ∈ es', e ∈ es ∨ EvK Bk e) -> e ∈ es ∨ EvK Bk e := fun h h' => h.elim (h' _) .inr
 induction s with
 | pure a =>
  intro _ w es _ a' w' h
  obtain ⟨rfl, rfl⟩ : a = a' /\ w = w' := by simpa [Sem.run] using h
  exact ⟨fun e he => .inl he, fun _ _ _ => rfl, Nat.le_refl _⟩
 | halt h => intro _ w es _ a' w' hh; simp [Sem.run] at hh
 | load m a k ih =>
  intro ht w es hB a' w' h
  simp only [Sem.run] at h
  simp only [Sem.runT]
  cases hc : w.cell? a with
  | some v =>
   rw [hc] at h
   obtain ⟨h1, h2, h3⟩ := ih v (ht v) w (es.push ⟨.cell a, false, m == Mode.atomic⟩) hB a' w' h
   exact ⟨fun e he => trans (h1 e he) (fun e he => ql8 he (q5p _ _)), h2, h3⟩
  | none =>
   rw [hc] at h
   dsimp only at h ⊢
   cases hf : w.farLoad P a (m == Mode.atomic) with
   | ok r =>
    rw [hf] at h
    obtain ⟨v, tl⟩ := r
    obtain ⟨h1, h2, h3⟩ := ih v (ht v) w (es ++ tl.toArray.map (⟨.cell ·, false, m == Mode.atomic⟩)) hB a' w' h
    refine ⟨fun e he => trans (h1 e he) (fun e he => q7o he (fun x hx => ?_)), h2, h3⟩
    obtain ⟨y, _, rfl⟩ := Array.mem_map.1 hx
    exact q5p _ _
   | error e => rw [hf] at h; cases h
 | store m a v k ih =>
  intro ht w es hB a' w' h
  obtain ⟨hb, ht⟩ := ht
  obtain ⟨c, T, f, hcell⟩ := hB _ hb
  have key : ∀ (hrun : (match w.cell? a with
    | some _ => if w.frozen? a then Result.halt (.unsupported (.unsafePointer "a write to bytes that a string shares")) w else k.run P (w.setCell a v)
    | none => match w.farStore P a v (m == Mode.atomic) with
     | .ok (w, _) => k.run P w
     | .error h => .halt h w) = .ok a' w'), w.cell? a ≠ none /\ w.frozen? a = false /\ k.run P (w.setCell a v) = .ok a' w' := by
   intro h
   cases hc : w.cell? a with
   | some u =>
    rw [hc] at h
    dsimp only at h
    cases hz : w.frozen? a with
    | true => rw [hz] at h; simp at h
    | false => rw [hz] at h; exact ⟨by simp, rfl, by simpa using h⟩
   | none =>
    rw [hc] at h
    simp only [World.farStore, hcell] at h
    cases h
  have main : w.cell? a ≠ none /\ w.frozen? a = false /\ k.run P (w.setCell a v) = .ok a' w' := by
   cases v <;> first | (simp [Sem.run] at h; done) | (simp only [Sem.run] at h; exact key h)
  obtain ⟨hc, hz, hr⟩ := main
  have hB' : ∀ b, Bk b -> ∃ c T f, (w.setCell a v).heap[b]? = some (.cells c T f) := by
   intro b hb'
   obtain ⟨c1, T1, f1, h1⟩ := hB b hb'
   by_cases e : b = a.block
   ·subst e
    exact ⟨_, _, _, by simp only [World.setCell, Array.getElem?_modify, if_pos rfl, h1, Option.map_some]; rfl⟩
   ·have e' : ¬ a.block = b := fun h => e h.symm
    exact ⟨c1, T1, f1, by simp only [World.setCell, Array.getElem?_modify, if_neg e']; exact h1⟩
  obtain ⟨h1, h2, h3⟩ := ih ht (w.setCell a v) (es.push ⟨.cell a, true, m == Mode.atomic⟩) hB' a' w' hr
  have hsz : (w.setCell a v).heap.size = w.heap.size := by simp [World.setCell]
  refine ⟨fun e he => ?_, fun j hj hn => ?_, by omega⟩
  ·have he' : e ∈ (k.runT P (w.setCell a v) (es.push ⟨.cell a, true, m == Mode.atomic⟩)).2 := by
    cases hcc : w.cell? a with
    | none => exact absurd hcc hc
    | some u => cases v <;> first | (simp [Sem.run] at h; done) | (simp only [Sem.runT, hcc, hz] at he; exact he)
   exact trans (h1 e he') (fun e he => ql8 he (q8m hb _))
  ·rw [h2 j (by omega) hn]
   simp only [World.setCell, Array.getElem?_modify]
   have e' : ¬ a.block = j := fun e => hn (e ▸ hb)
   rw [if_neg e']
 | new o k ih =>
  intro ht w es hB a' w' h
  simp only [Sem.run] at h
  simp only [Sem.runT]
  have hlt : ∀ b, Bk b -> b < w.heap.size := fun b hb => by
   obtain ⟨c, T, f, h⟩ := hB b hb
   rcases Nat.lt_or_ge b w.heap.size with h' | h'
   ·exact h'
   ·rw [Array.getElem?_eq_none h'] at h; cases h
  have hold : ∀ j, j < w.heap.size -> (w.heap.push o)[j]? = w.heap[j]? := fun j hj => by rw [Array.getElem?_push, if_neg (by omega)]
  obtain ⟨h1, h2, h3⟩ := ih _ (ht _) { w with heap := w.heap.push o } es (fun b hb => by obtain ⟨c, T, f, h⟩ := hB b hb; exact ⟨c, T, f, (hold b (hlt b hb)).trans h⟩) a' w' h
  refine ⟨h1, fun j hj hn => ?_, ?_⟩
  ·rw [h2 j (by simp; omega) hn]; exact hold j hj
  ·have : (w.heap.push o).size = w.heap.size + 1 := by simp
   have h3' : (w.heap.push o).size <= w'.heap.size := h3
   omega
 | shape r k ih => intro ht w es hB a' w' h; exact ih _ (ht _) w es hB a' w' h
 | freeze a n k _ => intro ht; exact ht.elim
 | frozen a k ih => intro ht w es hB a' w' h; exact ih _ (ht _) w es hB a' w' h
 | getObj r k ih =>
  intro ht w es hB a' w' h
  simp only [Sem.run] at h
  simp only [Sem.runT]
  cases hr : w.heap[r]? with
  | none => rw [hr] at h; cases h
  | some o =>
   rw [hr] at h
   cases o
   case cells => cases h
   all_goals
    obtain ⟨h1, h2, h3⟩ := ih _ (ht _) w (es.push ⟨.obj r, false, Obj.isChan _⟩) hB a' w' h
    exact ⟨fun e he => trans (h1 e he) (fun e he => ql8 he (q8l _ _)), h2, h3⟩
 | setObj r o k _ => intro ht; exact ht.elim
 | choose q k ih =>
  intro ht w es hB a' w' h
  simp only [Sem.run] at h
  simp only [Sem.runT]
  split
  ·rename_i hq
   rw [if_pos hq] at h
   exact ih _ (ht _) w es hB a' w' h
  ·rename_i hq
   rw [if_neg hq] at h
   exact ih _ (ht _) { w with drawn := w.drawn + 1 } es hB a' w' h
 | sys c k _ => intro ht; exact ht.elim
 | program k ih => intro ht w es hB a' w' h; exact ih _ ht w es hB a' w' h
 | mark m k ih =>
  intro ht w es hB a' w' h
  obtain ⟨h1, h2, h3⟩ := ih ht.2 w (es.push ⟨.mark m, false, true⟩) hB a' w' h
  exact ⟨fun e he => trans (h1 e he) (fun e he => ql8 he (q8n ht.1)), h2, h3⟩
end
end Co
end Go.Proofs.YtfiofmaknndpcaaGreatDoor
namespace Go.Proofs.YtfiofmaknndpcaaGreatDoor
open Go Go.Conc
namespace Co
structure Aside (H : Nat -> Prop) (w w₁ : World) : Prop where
 os : w₁.os = w.os
 tape : w₁.tape = w.tape
 output : w₁.output = w.output
 size : w₁.heap.size = w.heap.size
 blk : ∀ k, ¬ H k -> w₁.heap[k]? = w.heap[k]?
theorem Aside.refl (H : Nat -> Prop) (w : World) : Aside H w w := ⟨rfl, rfl, rfl, rfl, fun _ _ => rfl⟩
theorem Aside.trans {H : Nat -> Prop} {a b c : World} (h : Aside H a b) (h' : Aside H b c) : Aside H a c :=
 ⟨h'.os.trans h.os, h'.tape.trans h.tape, h'.output.trans h.output, h'.size.trans h.size, fun k hk => (h'.blk k hk).trans (h.blk k hk)⟩
theorem Aside.drew (H : Nat -> Prop) (w : World) : Aside H w { w with drawn := w.drawn + 1 } := ⟨rfl, rfl, rfl, rfl, fun _ _ => rfl⟩
def EvP (Pt : Nat -> Prop) (e : Event) : Prop := (∀ m, e.loc = .mark m -> Neutral m) /\ (e.write = true -> ∃ a, e.loc = .cell a /\ ¬ Pt a.block)
structure Done (Pt : Nat -> Prop) (w w' : World) (es : Array Event) : Prop where
 keep : ∀ k, Pt k -> w'.heap[k]? = w.heap[k]?
 evs : ∀ e ∈ es, EvP Pt e
theorem Done.idle (Pt : Nat -> Prop) (w : World) : Done Pt w w #[] := ⟨fun _ _ => rfl, by simp⟩
def Lone : Prop := False
structure Sys (P : Program) (H Pt : Nat -> Prop) where
 Rl : World -> World -> Prop
 Run : Goroutine -> World -> Prop
 sub : ∀ {w w₁}, Rl w w₁ -> Aside H w w₁
 rely : ∀ {g w w₁}, Run g w -> Rl w w₁ -> Run g w₁
 eq : Lone -> ∀ {w w₁}, Rl w w₁ -> w₁ = w
 steps : Lone -> ∀ {g g' w w'}, Steps P (solo g w) (solo g' w') -> Run g' w' -> Run g w
 step : ∀ {g w}, g.status = .running -> (∀ w₁, Rl w w₁ -> ∃ g' w' es, stepG P true g w₁ = .go g' w' es /\ (¬ Lone -> Done Pt w₁ w' es) /\ Run g' w') -> Run g w
section
variable {P : Program} {H Pt : Nat -> Prop} (M : Sys P H Pt)
theorem Sys.go {g g' : Goroutine} {w : World} (hs : g.status = .running) (h : ∀ w₁, stepG P true g w₁ = .go g' w₁) (h' : M.Run g' w) : M.Run g w :=
 M.step hs fun w₁ h₁ => ⟨g', w₁, #[], h w₁, fun _ => Done.idle _ _, M.rely h' h₁⟩
def Arr (b : Frame) (k : List Item) (cs : List Frame) : Exit -> Act -> World -> Prop
 | .normal, a, w => M.Run (G (b.at a k) cs) w
 | .exit id, a, w => ∃ k', exitTo id k = some k' /\ M.Run (G (b.at a k') cs) w
 | .ret, a, w => ∀ todo, M.Run (G { b.at a todo with mode := .returning } cs) w
 | _, _, _ => False
theorem Arr.push {b : Frame} {x : Item} {k : List Item} {cs : List Frame} {e : Exit} {a : Act} {w : World} (hx : x.plain = true) (he : e ≠ .normal) (h : Arr M b k cs e a w) : Arr M b (x :: k) cs e a w := by
 cases e with
 | normal => exact absurd rfl he
 | exit id => obtain ⟨k', hk, hg⟩ := h; exact ⟨k', by cases x <;> simp_all [exitTo, Item.plain], hg⟩
 | ret => exact h
 | goto l => exact h
 | panic ch => exact h
 | outgrown => exact h
end
def wpK (P : Program) (H Pt : Nat -> Prop) (c : Code) (Q : Exit -> Act -> World -> Prop) (a : Act) (w : World) : Prop :=
 ∀ (M : Sys P H Pt) (b : Frame) (k : List Item) (cs : List Frame), b.kind ≠ .early -> (∀ e a' w', Q e a' w' -> Arr M b k cs e a' w') -> M.Run (G (b.at a (.code c :: k)) cs) w
def OpK (P : Program) (H Pt : Nat -> Prop) (o : Oper) (a : Act) (w : World) (K : Act -> World -> Prop) : Prop :=
 ∀ (M : Sys P H Pt) (b : Frame) (ops : Array Oper) (i : Nat) (rest : List Nat) (k : List Item) (cs : List Frame), b.kind ≠ .early -> ops[i]? = some o -> Region.wanted o (yielded ops a.tmps) = true →
  (∀ a' w', K a' w' -> M.Run (G (b.at a' (.inRegion ops rest :: k)) cs) w') -> M.Run (G (b.at a (.inRegion ops (i :: rest) :: k)) cs) w
def OpsK (P : Program) (H Pt : Nat -> Prop) (ops : Array Oper) (todo : List Nat) (Q : Exit -> Act -> World -> Prop) (a : Act) (w : World) : Prop :=
 ∀ (M : Sys P H Pt) (b : Frame) (k : List Item) (cs : List Frame), b.kind ≠ .early -> (∀ e a' w', Q e a' w' -> Arr M b k cs e a' w') -> M.Run (G (b.at a (.inRegion ops todo :: k)) cs) w
section
variable {P : Program} {H Pt : Nat -> Prop} {Q : Exit -> Act -> World -> Prop} {a : Act} {w : World}
theorem qfh {c : Code} {Q' : Exit -> Act -> World -> Prop} (h : wpK P H Pt c Q a w) (hq : ∀ e a w, Q e a w -> Q' e a w) : wpK P H Pt c Q' a w :=
 fun M b k cs hk hc => h M b k cs hk fun e a' w' q => hc e a' w' (hq e a' w' q)
theorem qyl (h : Q .normal a w) : wpK P H Pt .skip Q a w := fun M b k cs _ hc => M.go rfl (fun _ => stepG_skip) (hc _ _ _ h)
theorem qwq {l : Nat} (h : Q .normal a w) : wpK P H Pt (.label l) Q a w := fun M b k cs _ hc => M.go rfl (fun _ => stepG_label) (hc _ _ _ h)
theorem q2p (h : Q .ret a w) : wpK P H Pt .ret Q a w := fun M b k cs _ hc => M.go rfl (fun _ => stepG_ret') (hc _ _ _ h _)
theorem qym {id : Nat} (h : Q (.exit id) a w) : wpK P H Pt (.exit id) Q a w := fun M b k cs _ hc => by
 obtain ⟨k', hk', hg⟩ := hc _ _ _ h
 exact M.go rfl (fun _ => stepG_exit hk') hg
theorem q2q {x y : Code} (h : wpK P H Pt x (Exit.then (wpK P H Pt y Q) Q) a w) : wpK P H Pt (.seq x y) Q a w := by
 intro M b k cs hk hc
 refine M.go rfl (fun _ => stepG_seq) (h M b (.code y :: k) cs hk fun e a' w' q => ?_)
 cases e with
 | normal => exact q M b k cs hk hc
 | exit id => exact (hc _ _ _ q).push M rfl (by simp)
 | ret => exact (hc _ _ _ q).push M (x := .code y) rfl (by simp)
 | goto l => exact hc _ _ _ q
 | panic ch => exact hc _ _ _ q
 | outgrown => exact hc _ _ _ q
theorem qmy {c : Operand} {x y : Code} {t : Bool} (hc : a.eval c = .bool t) (ht : t = true -> wpK P H Pt x Q a w) (hf : t = false -> wpK P H Pt y Q a w) : wpK P H Pt (.cond c x y) Q a w := by
 intro M b k cs hk hq
 refine M.go rfl (fun _ => stepG_cond hc) ?_
 cases t with
 | true => exact ht rfl M b k cs hk hq
 | false => exact hf rfl M b k cs hk hq
theorem qwr {id : Nat} {c : Code} (h : wpK P H Pt c (Exit.inBlock id Q) a w) : wpK P H Pt (.block id c) Q a w := by
 intro M b k cs hk hc
 refine M.go rfl (fun _ => stepG_block) (h M b (.inBlock id :: k) cs hk fun e a' w' q => ?_)
 cases e with
 | normal => exact M.go rfl (fun _ => stepG_inBlock) (hc _ _ _ q)
 | exit id' =>
  by_cases hid : id' = id
  ·simp only [Exit.inBlock, hid, if_true] at q
   exact ⟨k, by simp [exitTo, hid], hc _ _ _ q⟩
  ·simp only [Exit.inBlock, hid, if_false] at q
   obtain ⟨k', hk', hg⟩ := hc _ _ _ q
   have : (id == id') = false := by simp; exact fun h => hid h.symm
   exact ⟨k', by simp [exitTo, this, hk'], hg⟩
 | ret => exact hc _ _ _ q
 | goto l => exact hc _ _ _ q
 | panic ch => exact hc _ _ _ q
 | outgrown => exact hc _ _ _ q
theorem qq4 {main : Bool} {b : Frame} {k : List Item} {cs : List Frame} {c : Code} : stepG P main (G (b.at a (.code (.scope c) :: k)) cs) w = .go (G (b.at a (.code c :: .inScope c :: k)) cs) w := by simp [G, stepG, stepG.exec, Frame.at]
theorem qiu {main : Bool} {b : Frame} {k : List Item} {cs : List Frame} {c : Code} : stepG P main (G (b.at a (.inScope c :: k)) cs) w = .go (G (b.at a k) cs) w := by simp [G, stepG, stepG.exec, Frame.at]
theorem qws {c : Code} (h : wpK P H Pt c (Exit.noGoto Q) a w) : wpK P H Pt (.scope c) Q a w := by
 intro M b k cs hk hc
 refine M.go rfl (fun _ => qq4) (h M b (.inScope c :: k) cs hk fun e a' w' q => ?_)
 cases e with
 | normal => exact M.go rfl (fun _ => qiu) (hc _ _ _ q)
 | exit id => obtain ⟨k', hk', hg⟩ := hc _ _ _ q; exact ⟨k', by simp [exitTo, hk'], hg⟩
 | ret => exact hc _ _ _ q
 | goto l => exact q.elim
 | panic ch => exact hc _ _ _ q
 | outgrown => exact hc _ _ _ q
theorem qyn {c : Code} (I : Nat -> Act -> World -> Prop) (n₀ : Nat) (h₀ : I n₀ a w) (round : ∀ n a w, I n a w -> wpK P H Pt c (Exit.then (fun a' w' => ∃ n', n' < n /\ I n' a' w') Q) a w) : wpK P H Pt (.loop c) Q a w := by
 intro M b k cs hk hc
 have key : ∀ N n, n <= N -> ∀ a w, I n a w -> M.Run (G (b.at a (.code c :: .inLoop c :: k)) cs) w := by
  intro N
  induction N with
  | zero =>
   intro n hn a w hI
   refine round n a w hI M b (.inLoop c :: k) cs hk fun e a' w' q => ?_
   cases e with
   | normal => obtain ⟨n', h1, _⟩ := q; omega
   | exit id => exact (hc _ _ _ q).push M rfl (by simp)
   | ret => exact (hc _ _ _ q).push M (x := .inLoop c) rfl (by simp)
   | goto l => exact hc _ _ _ q
   | panic ch => exact hc _ _ _ q
   | outgrown => exact hc _ _ _ q
  | succ N ih =>
   intro n hn a w hI
   refine round n a w hI M b (.inLoop c :: k) cs hk fun e a' w' q => ?_
   cases e with
   | normal => obtain ⟨n', h1, h2⟩ := q; exact M.go rfl (fun _ => stepG_inLoop) (ih n' (by omega) a' w' h2)
   | exit id => exact (hc _ _ _ q).push M rfl (by simp)
   | ret => exact (hc _ _ _ q).push M (x := .inLoop c) rfl (by simp)
   | goto l => exact hc _ _ _ q
   | panic ch => exact hc _ _ _ q
   | outgrown => exact hc _ _ _ q
 exact M.go rfl (fun _ => stepG_loop) (key n₀ n₀ (Nat.le_refl _) a w h₀)
theorem q7p {o : Oper} {K : Act -> World -> Prop} (h : ∀ w₁, Aside H w w₁ -> ∃ nx w', (execOp a.eval o).run P w₁ = .ok nx w' /\ Done Pt w₁ w' ((execOp a.eval o).events P w₁ #[]) /\ (match nx with | .value v => K (a.put o.dst v) w' | .skip => K (a.put o.dst undef) w' | _ => False)) : OpK P H Pt o a w K := by
 intro M b ops i rest k cs hk ho hw hc
 refine M.step rfl fun w₁ h₁ => ?_
 obtain ⟨nx, w', hr, hd, hK⟩ := h w₁ (M.sub h₁)
 have hd' : Done Pt w₁ w' (listed P b.fn a o w₁) := ⟨hd.keep, fun e he => hd.evs e (mem_listed he)⟩
 cases nx with
 | value v => exact ⟨_, w', _, stepG_value ho hw hk hr, fun _ => hd', hc _ _ hK⟩
 | skip => exact ⟨_, w', _, stepG_none ho hw hk hr, fun _ => hd', hc _ _ hK⟩
 | _ => exact hK.elim
def qb8 (P : Program) (H Pt : Nat -> Prop) (ops : Array Oper) (Q : Exit -> Act -> World -> Prop) : List Oper -> Act -> World -> Prop
 | [], a, w => Q .normal a w
 | o :: rest, a, w => if Region.wanted o (yielded ops a.tmps) then OpK P H Pt o a w (qb8 P H Pt ops Q rest) else qb8 P H Pt ops Q rest (a.put o.dst undef) w
theorem qoj {ops : Array Oper} : ∀ (l : List Oper) (k0 : Nat), (∀ j, l[j]? = ops[k0 + j]?) -> ∀ (a : Act) (w : World), qb8 P H Pt ops Q l a w -> OpsK P H Pt ops (List.range' k0 l.length) Q a w
 | [], k0, _, a, w, h => fun M b k cs _ hc => M.go rfl (fun _ => stepG_region_end) (hc _ _ _ h)
 | o :: l, k0, hl, a, w, h => by
  have h0 : ops[k0]? = some o := by simpa using (hl 0).symm
  have hl' : ∀ j, l[j]? = ops[k0 + 1 + j]? := fun j => by have := hl (j + 1); simpa [Nat.add_assoc, Nat.add_comm 1 j] using this
  intro M b k cs hk hc
  rw [List.length_cons, List.range'_succ]
  unfold qb8 at h
  split at h
  ·rename_i hw
   exact h M b ops k0 _ k cs hk h0 hw fun a' w' hK => qoj l (k0 + 1) hl' a' w' hK M b k cs hk hc
  ·rename_i hw
   exact M.go rfl (fun _ => stepG_unwanted h0 (by simpa using hw)) (qoj l (k0 + 1) hl' _ _ h M b k cs hk hc)
theorem qmz {id : Nat} {l : List Oper} (h : qb8 P H Pt l.toArray Q l a w) : wpK P H Pt (.region id l.toArray false) Q a w := fun M b k cs hk hc => by
 refine M.go rfl (fun _ => stepG_region) ?_
 have := qoj (ops := l.toArray) l 0 (fun j => by simp) a w h M b k cs hk hc
 rwa [show List.range l.toArray.size = List.range' 0 l.length by simp [List.range_eq_range']]
def qu2 (P : Program) (H Pt : Nat -> Prop) (ops : Array Oper) (i : Nat) (K : Act -> World -> Prop) (a : Act) (w : World) : Prop :=
 match ops[i]? with
 | none => K a w
 | some o => if Region.wanted o (yielded ops a.tmps) then OpK P H Pt o a w K else K (a.put o.dst undef) w
def qi2 (P : Program) (H Pt : Nat -> Prop) (md : Region.Mode) (ops : Array Oper) (Q : Exit -> Act -> World -> Prop) : Nat -> Array Bool -> Act -> World -> Prop
 | 0, listed, a, w => Region.ready md ops listed = [] /\ Q .normal a w
 | fuel + 1, listed, a, w => (Region.ready md ops listed = [] -> Q .normal a w) /\ ∀ i ∈ Region.ready md ops listed, qu2 P H Pt ops i (qi2 P H Pt md ops Q fuel (listed.setIfInBounds i true)) a w
theorem qpr {main : Bool} {b : Frame} {k : List Item} {cs : List Frame} {ops : Array Oper} {i : Nat} {rest : List Nat} (h : ops[i]? = none) : stepG P main (G (b.at a (.inRegion ops (i :: rest) :: k)) cs) w = .go (G (b.at a (.inRegion ops rest :: k)) cs) w := by
 simp [G, stepG, stepG.exec, Frame.at, h, Frame.finish]
theorem qta {md : Region.Mode} {ops : Array Oper} : ∀ (fuel t : Nat) (listed : Array Bool) (a : Act) (w : World), qi2 P H Pt md ops Q fuel listed a w -> OpsK P H Pt ops (Region.linearise.go md ops fuel t listed []) Q a w := by
 intro fuel
 induction fuel with
 | zero => intro t listed a w h M b k cs hk hc; simp only [Region.linearise.go, List.reverse_nil]; exact M.go rfl (fun _ => stepG_region_end) (hc _ _ _ h.2)
 | succ fuel ih =>
  intro t listed a w h
  obtain ⟨h₀, h₁⟩ := h
  simp only [Region.linearise.go]
  change OpsK P H Pt ops (match (Region.ready md ops listed)[t % (Region.ready md ops listed).length]? with
   | some i => Region.linearise.go md ops fuel (t / (Region.ready md ops listed).length) (listed.setIfInBounds i true) [i]
   | none => [].reverse) Q a w
  cases hi : (Region.ready md ops listed)[t % (Region.ready md ops listed).length]? with
  | none =>
   have hnil : Region.ready md ops listed = [] := by
    cases hr : Region.ready md ops listed with
    | nil => rfl
    | cons x xs =>
     rw [hr] at hi
     have hlt : t % (x :: xs).length < (x :: xs).length := Nat.mod_lt _ (by simp)
     rw [List.getElem?_eq_none_iff] at hi
     omega
   exact fun M b k cs hk hc => M.go rfl (fun _ => stepG_region_end) (hc _ _ _ (h₀ hnil))
  | some i =>
   simp only []
   rw [linearise_go_acc, List.reverse_singleton, List.singleton_append]
   have h2 := h₁ i (List.mem_of_getElem? hi)
   unfold qu2 at h2
   intro M b k cs hk hc
   cases ho : ops[i]? with
   | none => rw [ho] at h2; exact M.go rfl (fun _ => qpr ho) (ih _ _ _ _ h2 M b k cs hk hc)
   | some o =>
    rw [ho] at h2
    dsimp only at h2
    split at h2
    ·rename_i hw; exact h2 M b ops i _ k cs hk ho hw fun a' w' hK => ih _ _ _ _ hK M b k cs hk hc
    ·rename_i hw; exact M.go rfl (fun _ => stepG_unwanted ho (by simpa using hw)) (ih _ _ _ _ h2 M b k cs hk hc)
theorem qyo {id : Nat} {ops : Array Oper} (hm : P.follows .mixedOrders = true) (h : ∀ w₁, Aside H w w₁ -> qi2 P H Pt .any ops Q ops.size (Array.replicate ops.size false) a w₁) : wpK P H Pt (.region id ops true) Q a w := by
 intro M b k cs hk hc
 refine M.step rfl fun w₁ h₁ => ?_
 refine ⟨_, _, _, stepG_region_draw, fun _ => ⟨fun _ _ => rfl, by simp⟩, ?_⟩
 simp only [Region.schedule, hm, Bool.true_or, if_true]
 exact qta _ _ _ _ _ (h _ ((M.sub h₁).trans (Aside.drew H w₁))) M b k cs hk hc
structure LeavesK (P : Program) (Rl : World -> World -> Prop) (fr : Frame) (w : World) (R : Ending -> World -> Prop) : Prop where
 mode : fr.mode = .returning
 defers : fr.defers = []
 kind : fr.kind = .normal
 fn : ∃ fn, P.funcs[fr.fn]? = some fn /\ ∀ w₁, Rl w w₁ -> ∃ v, (results fn fr.tmps).run P w₁ = .ok v w₁ /\ R (.returned v) w₁
def qhg (P : Program) (H Pt : Nat -> Prop) (f : FuncId) (args : Array Value) (w : World) (R : Ending -> World -> Prop) : Prop :=
 ∀ (M : Sys P H Pt) (cs : List Frame), (∀ fr w', fr.fn = f -> LeavesK P M.Rl fr w' R -> M.Run (G fr cs) w') -> M.Run (G (Frame.enter P f args .normal) cs) w
theorem qhg.mono {f : FuncId} {args : Array Value} {R R' : Ending -> World -> Prop} (h : qhg P H Pt f args w R) (hr : ∀ v w', R (.returned v) w' -> R' (.returned v) w') : qhg P H Pt f args w R' :=
 fun M cs hc => h M cs fun fr w' h1 h2 => hc fr w' h1 ⟨h2.mode, h2.defers, h2.kind, let ⟨fn, h3, h4⟩ := h2.fn; ⟨fn, h3, fun w₁ hw => let ⟨v, h5, h6⟩ := h4 w₁ hw; ⟨v, h5, hr _ _ h6⟩⟩⟩
end
end Co
end Go.Proofs.YtfiofmaknndpcaaGreatDoor
namespace Go.Proofs.YtfiofmaknndpcaaGreatDoor
open Go Go.Conc
namespace Co
section
variable {P : Program} {H Pt : Nat -> Prop} {a : Act} {w : World}
theorem qq5 {Bk : Nat -> Prop} (fn : Func) (tmps : Array Value) : Tame P Bk (results fn tmps) := by
 unfold results
 refine tb (qbp (fun x => ?_) _) fun _ => jk _
 split
 ·exact jk _
 ·exact tb (jd _) fun _ => y8 _ _
theorem qyp {e : Event} {Bk : Nat -> Prop} (h : EvK Bk e) (hb : ∀ b, Bk b -> ¬ Pt b) : EvP Pt e := ⟨h.1, fun hw => let ⟨a, h1, h2⟩ := h.2 hw; ⟨a, h1, hb _ h2⟩⟩
theorem qwt {α : Type} {Bk : Nat -> Prop} {s : Sem α} (ht : Tame P Bk s) (hB : ∀ b, Bk b -> ¬ Pt b /\ ∃ c T f, w.heap[b]? = some (.cells c T f)) (hlt : ∀ k, Pt k -> k < w.heap.size) {x : α} {w' : World} (h : s.run P w = .ok x w') : Done Pt w w' (s.events P w #[]) := by
 obtain ⟨h1, h2, _⟩ := qgb s ht w #[] (fun b hb => (hB b hb).2) x w' h
 refine ⟨fun k hk => h2 k (hlt k hk) (fun hb => (hB k hb).1 hk), fun e he => ?_⟩
 rcases h1 e he with h | h
 ·simp at h
 ·exact qyp h (fun b hb => (hB b hb).1)
def q5q (P : Program) (H : Nat -> Prop) (fn : Func) (R : Ending -> World -> Prop) : Exit -> Act -> World -> Prop
 | .normal, a, w | .ret, a, w => a.defers = [] /\ ∀ w₁, Aside H w w₁ -> ∃ v, (results fn a.tmps).run P w₁ = .ok v w₁ /\ R (.returned v) w₁
 | _, _, _ => False
theorem qwu {f : FuncId} {fn : Func} {c : Code} {args : Array Value} {R : Ending -> World -> Prop} (hf : P.funcs[f]? = some fn) (hb : fn.body = some c)
  (h : wpK P H Pt c (q5q P H fn R) { tmps := args ++ Array.replicate (fn.ntmps - args.size) undef, defers := [] } w) : qhg P H Pt f args w R := by
 intro M cs hc
 rw [enter_at args hf hb]
 refine h M (base f) [] cs (by simp [base]) fun e a' w' q => ?_
 cases e with
 | normal => exact M.go rfl (fun _ => stepG_end) (hc _ _ rfl ⟨rfl, q.1, rfl, fn, hf, fun w₁ hw => q.2 w₁ (M.sub hw)⟩)
 | ret => exact fun todo => hc _ _ rfl ⟨rfl, q.1, rfl, fn, hf, fun w₁ hw => q.2 w₁ (M.sub hw)⟩
 | exit id => exact q.elim
 | goto l => exact q.elim
 | panic ch => exact q.elim
 | outgrown => exact q.elim
theorem qfv {Rl : World -> World -> Prop} {fr c : Frame} {cs : List Frame} {R : Ending -> World -> Prop} (h : LeavesK P Rl fr w R) {w₁ : World} (hw : Rl w w₁) (main : Bool) : ∃ v es, stepG P main (G fr (c :: cs)) w₁ = .go (G (c.finish v) cs) w₁ es /\ (∀ e ∈ es, EvP Pt e) /\ R (.returned v) w₁ := by
 obtain ⟨fn, hf, hr⟩ := h.fn
 obtain ⟨v, h1, h2⟩ := hr w₁ hw
 refine ⟨v, seen P fr.fn ((results fn fr.tmps).events P w₁ #[]), ?_, fun e he => ?_, h2⟩
 ·simp [G, stepG, unwind, doReturn, h.mode, h.defers, h.kind, hf, h1, Sem.runT_eq, GStep.after]
 ·have := (qgb (Bk := fun _ => False) _ (qq5 fn fr.tmps) w₁ #[] (fun _ h => h.elim) v w₁ h1).1 e (mem_seen he)
  rcases this with h | h
  ·simp at h
  ·exact qyp h (fun _ h => h.elim)
theorem qyq {o : Oper} {f : FuncId} {args : Array Value} {K : Act -> World -> Prop} (hrun : ∀ w₁, Aside H w w₁ -> (execOp a.eval o).run P w₁ = .ok (.enter f args) w₁ /\ (¬ Lone -> (execOp a.eval o).events P w₁ #[] = #[]))
  (h : ∀ w₁, Aside H w w₁ -> qhg P H Pt f args w₁ (fun e w' => ∃ v, e = .returned v /\ K (a.put o.dst v) w')) : OpK P H Pt o a w K := by
 intro M b ops i rest k cs hk ho hw hc
 refine M.step rfl fun w₁ h₁ => ?_
 obtain ⟨hr, he⟩ := hrun w₁ (M.sub h₁)
 refine ⟨_, w₁, _, stepG_enter ho hw hk hr, fun hl => ⟨fun _ _ => rfl, fun e h => ?_⟩, ?_⟩
 ·have := mem_listed h
  rw [he hl] at this
  simp at this
 ·refine h w₁ (M.sub h₁) M _ fun fr w' _ hl => ?_
  refine M.step rfl fun w₂ h₂ => ?_
  obtain ⟨v, es, h3, h4, v', e5, h5⟩ := qfv (Pt := Pt) (c := b.at a (.inRegion ops (i :: rest) :: k)) (cs := cs) hl h₂ true
  cases e5
  have hfin : (b.at a (.inRegion ops (i :: rest) :: k)).finish v = b.at (a.put o.dst v) (.inRegion ops rest :: k) := by rw [Frame.finish_at, ho]; rfl
  rw [hfin] at h3
  exact ⟨_, w₂, es, h3, fun _ => ⟨fun _ _ => rfl, h4⟩, hc _ _ h5⟩
end
end Co
end Go.Proofs.YtfiofmaknndpcaaGreatDoor
namespace Go.Proofs.YtfiofmaknndpcaaGreatDoor
open Go.RowKit
namespace Tr
theorem qib {g T : Nat} : ∀ (vs : List Value) (o : Nat) (w : World) (cur : Array Value), w.heap[g]? = some (.cells cur T (0, 0)) -> o + vs.length <= cur.size →
  ∃ cur', (w.setCells g o vs).heap[g]? = some (.cells cur' T (0, 0)) /\ Mid cur cur' o vs.length vs
 | [], o, w, cur, h, hl => ⟨cur, h, rfl, hl, rfl, by simp⟩
 | v :: r, o, w, cur, h, hl => by
  have hl' : o + 1 + r.length <= cur.size := by rw [List.length_cons] at hl; omega
  have hcl : cur.toList.length = cur.size := Array.length_toList
  obtain ⟨cur', h1, h2, h3, h4, h5⟩ := qib r (o + 1) (w.setCell ⟨g, o, none⟩ v) (cur.setIfInBounds o v) (qwn h o v) (by rw [Array.size_setIfInBounds]; exact hl')
  refine ⟨cur', h1, rfl, hl, by rw [h4, Array.size_setIfInBounds], ?_⟩
  rw [h5, Array.toList_setIfInBounds, List.length_cons, List.drop_set_of_lt (by omega), List.take_add_one, List.take_set_of_le (Nat.le_refl _), List.getElem?_set_self (by omega), show o + 1 + r.length = o + (r.length + 1) by omega]
  simp
theorem qgc {g : Nat} : ∀ (vs : List Value) (o : Nat) (w : World) (y : Nat), y ≠ g -> (w.setCells g o vs).heap[y]? = w.heap[y]?
 | [], _, _, _, _ => rfl
 | v :: r, o, w, y, h => (qgc r (o + 1) _ y h).trans (Below.heap_setCell _ _ _ _ h)
end Tr
end Go.Proofs.YtfiofmaknndpcaaGreatDoor

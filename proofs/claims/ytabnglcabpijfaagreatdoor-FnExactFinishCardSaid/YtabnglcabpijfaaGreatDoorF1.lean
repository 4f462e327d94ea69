/- Lemmas for the proofs, part 1 of 6: a symbolic run of the program, and what it needs. -/
import Derived.SevenTiedAt
import Derived.Conc.Holds
import Derived.Leaving
import Derived.Handed
import Derived.Stop.LaidErr
import Derived.Below
import Derived.Test.YtabnglcabpijfaaGreatDoorRows
import Derived.Deep.DeepHandedRow
import Derived.Lib.LaidTab
import Derived.WalkSmall
import Derived.ProofKit
import Derived.OpenVars
import Derived.OneCell
import Derived.OwnWalk
import Derived.RowKit
import Derived.Lib.Hide
import Derived.Deep.Draws
import Derived.Laws.Rows
import Derived.Laws.AppendOwn
import Derived.Laws.AppendOwnNone
import Derived.Tactics
import Derived.Deep.Slices
import Derived.ChangeArms
import Derived.ChangeShapes
import Derived.Laws.IdiomCopy
namespace Go.Proofs.YtabnglcabpijfaaGreatDoor
open Go
theorem alone_leaving {P : Program} {last : Machine} {w : World} {t : Trace} (h : aloneAtReturn P last w t) : leavingAtReturn P last w t :=
  ⟨h.2.1, ⟨fun g hg => Leave.done P g (by
    have := List.all_eq_true.1 h.1.1 g hg
    simpa using this), h.1.2⟩, h.2.2⟩
theorem leaving_of_handed {a : Assume} {C : Checked} {os : Os} {f : FuncId} {r : Reach} {Pre : World → Array Value → Prop} {Post : World → Array Value → Value → World → Prop} (h : ReturnsInHanded a C os f r Pre Post) : ReturnsInLeavingWide a C os f r Pre Post :=
  fun e => ReturnsInOpen.mono (fun _ _ _ x => alone_leaving x) (fun _ x => x) (h e)
/-- a tied card whose call can start goroutines -/
theorem holds_tied_goes (Lk : Looks) {p : Pinned} {s : OpenSpec} {c : OpenClaim} (kinds : List LaidKind) (tests : Bool) (har : Bool × String) (lk : Bool)
    (hc : c.holds p s) (hw : c.wfByText s = true)
    (htie : c.laidByTextAt Lk p kinds tests)
    (hst : c.start = .entering) (hnb : c.noBlocks = false ∧ c.again = false) (hm : p.checked.prog.mainIs = some (har.1, har.2.toList)) (hn : (!har.1 && har.2.isEmpty && !lk) = false)
    (hl : ∀ f fn, p.checked.prog.funcNamed c.func = some f → p.checked.prog.funcs[f]? = some fn → lk = p.checked.prog.looks [] ∧ ∀ (j : Nat) t, fn.params[j]? = some t → p.checked.prog.wantsStandIn t = false)
    (hg : true = c.goesBy p.checked.prog) :
    Claim7.holds p (.plain s) { stood := { row := c, standIns := [], harness := har, looks := lk }, kinds := [], alts := [], goes := true, laidByText := true, laidKinds := kinds, laidTests := tests, laidLooks := Lk } := by
  have h6 : ∀ r : OpenClaim, Claim7.isSixth { stood := { row := r, standIns := [], harness := har, looks := lk }, kinds := [] } = false := fun r => by simpa [Claim7.isSixth] using hn
  exact ⟨Claim7.tied_new_at Lk kinds tests (Claim7.new_of_sixth hc har lk hst hnb hm (h6 c) hl) hw, (fun D hD => by cases hD), htie, (fun h => by cases h), hg⟩
end Go.Proofs.YtabnglcabpijfaaGreatDoor
namespace Go.Proofs.YtabnglcabpijfaaGreatDoor
open Go.RowKit Go.ChangeShapes
namespace LaidS
/-- a list that opens with sentinels: their pointers, all different, and the blocks that hold them -/
theorem vars {P : Program} {nm : String} {W : World} {ti tp te ts : TypeId} {ms : Array (String × TypeId)} {f : Field}
    (hi : P.underlying ti = some (.interface ms)) (hrow : ∀ u, P.typeName? 3 u = some nm → u = tp)
    (hp : P.underlying tp = some (.pointer te)) (he : P.underlying te = some (.struct #[f])) (hft : f.type = ts) (hfo : f.offset = 0) (hs : P.underlying ts = some .string) (hc : P.cellsOf te = 1) (hcs : P.cellsOf ts = 1) :
    ∀ (L : List (String × List UInt8 × Nat)) (r : List (String × DataW Unit)) (ps : List MemPlace), DataW.LaidVars P W (L.map (fun x => (x.1, .iface nm (.ptr (.agg [.lit (.string x.2.1)])))) ++ r) ps → ps.Nodup →
      (∀ b off, MemPlace.cell b off ∈ ps → (∃ c t, W.heap[b]? = some (.cells c t (0, 0))) ∧ ∀ u v, W.cell? ⟨b, off, none⟩ = some (.iface u v) → Value.okWide P W .any 0 u v) →
      (∀ x ∈ L, P.globalNamed x.1 = some x.2.2 ∧ (P.globals[x.2.2]?).map (·.type) = some ti) →
      ∃ as0 : List Addr, as0.length = L.length ∧ as0.Nodup ∧ (∀ a ∈ as0, MemPlace.cell a.block a.off ∈ ps) ∧
        ∀ (i : Nat) x a, L[i]? = some x → as0[i]? = some a → (∃ ty, W.heap[x.2.2]? = some (.cells #[.iface tp (.pointer (some a))] ty (0, 0))) ∧ ∃ c t, W.heap[a.block]? = some (.cells c t (0, 0))
  | [], _, _, _, _, _, _ => ⟨[], rfl, List.nodup_nil, fun _ h => (by cases h), fun i x a h => by simp at h⟩
  | (n, text, g) :: L, r, ps, hv, hnd, hrows, hg => by
    obtain ⟨g0, t0, cs0, f0, p0, q0, hg0, ht0, hv0, hd0, hq0, e0⟩ := hv
    obtain ⟨hg1, ht1⟩ := hg (n, text, g) (by simp)
    obtain rfl := Option.some.inj (hg1.symm.trans hg0)
    obtain rfl := Option.some.inj (ht1.symm.trans ht0)
    subst e0
    obtain ⟨l0⟩ := cs0
    have ok0 : ∀ u v, l0 = [.iface u v] → Value.okWide P W .any 0 u v := fun u v e => by
      subst e
      exact (hrows g 0 (by simp [MemPlace.row])).2 u v (by simpa using World.var?_cell hg0 hv0 0)
    obtain ⟨a0, s0, rfl, hc0, _, _, rfl⟩ := errorString_of_trod hi hrow hp he hft hfo hs hc hcs hd0 ok0
    have hr0 : MemPlace.row a0 1 = [MemPlace.cell a0.block a0.off] := by simp [MemPlace.row]
    rw [hr0] at hnd hrows
    rw [List.nodup_append] at hnd
    obtain ⟨_, hnd2, hnd3⟩ := hnd
    obtain ⟨as0, h1, h2, h3, h4⟩ := vars hi hrow hp he hft hfo hs hc hcs L r q0 hq0 hnd2 (fun b off hm => hrows b off (List.mem_append_right _ hm)) (fun x hx => hg x (by simp [hx]))
    refine ⟨a0 :: as0, by simp [h1], ?_, ?_, ?_⟩
    · rw [List.nodup_cons]
      exact ⟨fun hm => hnd3 _ (by simp) _ (h3 a0 hm) rfl, h2⟩
    · intro a ha
      rw [List.mem_cons] at ha
      rcases ha with rfl | ha
      · rw [hr0]; simp
      · exact List.mem_append_right _ (h3 a ha)
    · intro i x a hx ha
      cases i with
      | zero =>
        simp at hx ha
        subst hx ha
        refine ⟨?_, (hrows a0.block a0.off (by simp)).1⟩
        obtain ⟨c, t, hb⟩ := (hrows g 0 (by simp [MemPlace.row])).1
        have : c = #[.iface tp (.pointer (some a0))] := by
          have hv1 := hv0
          unfold World.var? at hv1
          rw [hg0, Option.bind_some, hb] at hv1
          exact Option.some.inj hv1
        exact ⟨t, this ▸ hb⟩
      | succ i => exact h4 i x a (by simpa using hx) (by simpa using ha)
/-- the sentinels that the variables' blocks gs hold -/
def At (tp : TypeId) (gs : List Nat) (w : World) : Prop :=
  ∃ as0 : List Addr, as0.length = gs.length ∧ as0.Nodup ∧ ∀ (i : Nat) g a, gs[i]? = some g → as0[i]? = some a → (∃ ty, w.heap[g]? = some (.cells #[.iface tp (.pointer (some a))] ty (0, 0))) ∧ ∃ c t, w.heap[a.block]? = some (.cells c t (0, 0))
theorem lt_of {w : World} {g : Nat} {o : Obj} (h : w.heap[g]? = some o) : g < w.heap.size := by
  rcases Nat.lt_or_ge g w.heap.size with h1 | h1
  · exact h1
  · rw [Array.getElem?_eq_none h1] at h; cases h
theorem at_of {P : Program} {nm : String} {W : World} {ti tp te ts : TypeId} {ms : Array (String × TypeId)} {f : Field} {L : List (String × List UInt8 × Nat)} {r : List (String × DataW Unit)}
    (h : laidMet P (L.map (fun x => (x.1, .iface nm (.ptr (.agg [.lit (.string x.2.1)])))) ++ r) W)
    (hi : P.underlying ti = some (.interface ms)) (hrow : ∀ u, P.typeName? 3 u = some nm → u = tp)
    (hp : P.underlying tp = some (.pointer te)) (he : P.underlying te = some (.struct #[f])) (hft : f.type = ts) (hfo : f.offset = 0) (hs : P.underlying ts = some .string) (hc : P.cellsOf te = 1) (hcs : P.cellsOf ts = 1)
    (hg : ∀ x ∈ L, P.globalNamed x.1 = some x.2.2 ∧ (P.globals[x.2.2]?).map (·.type) = some ti) : At tp (L.map (·.2.2)) W := by
  obtain ⟨ps, hv, hnd, hrows⟩ := h
  obtain ⟨as0, h1, h2, _, h4⟩ := vars hi hrow hp he hft hfo hs hc hcs L r ps hv hnd hrows hg
  refine ⟨as0, by simpa using h1, h2, fun i g a hgi ha => ?_⟩
  rw [List.getElem?_map] at hgi
  obtain ⟨x, hx, rfl⟩ := Option.map_eq_some_iff.1 hgi
  exact h4 i x a hx ha
end LaidS
end Go.Proofs.YtabnglcabpijfaaGreatDoor
namespace Go.Proofs.YtabnglcabpijfaaGreatDoor
open Go.RowKit
namespace Laid
def put (h : Array Obj) (g : Nat) (cs : Array Value) : Array Obj := h.modify g fun
  | .cells _ t frozen => .cells cs t frozen
  | o => o
noncomputable def world (os : Os) : World :=
  let w0 := World.holding Tryz.prog os ⟨#[.cells #[.string ⟨#[110, 111, 32, 112, 97, 103, 101, 32, 105, 115, 32, 109, 97, 112, 112, 101, 100, 32, 97, 116, 32, 116, 104, 101, 32, 97, 100, 100, 114, 101, 115, 115]⟩] 252, .cells #[.string ⟨#[116, 104, 101, 32, 112, 97, 103, 101, 32, 105, 115, 32, 109, 97, 112, 112, 101, 100, 32, 102, 111, 114, 32, 114, 101, 97, 100, 105, 110, 103, 32, 111, 110, 108, 121]⟩] 252, .cells #[.string ⟨#[116, 104, 101, 32, 118, 97, 108, 117, 101, 32, 105, 115, 32, 111, 117, 116, 32, 111, 102, 32, 114, 97, 110, 103, 101]⟩] 252], #[], []⟩
  let h0 := put w0.heap 2 #[.iface 226 (.pointer (some ⟨(World.settled Tryz.prog os).heap.size + 0, 0, none⟩))]
  let h1 := put h0 0 #[.iface 226 (.pointer (some ⟨(World.settled Tryz.prog os).heap.size + 1, 0, none⟩))]
  let h2 := put h1 1 #[.iface 226 (.pointer (some ⟨(World.settled Tryz.prog os).heap.size + 2, 0, none⟩))]
  { w0 with heap := h2 }
theorem laidOut : laidOutB Tryz.prog = true := by kernel_rfl
theorem vars_len {H : Type} {enc : TypeId × Value → H} {P : Program} {w : World} {sp : Nat → Bool} : ∀ {ns : List String} {gs : List (DataW H)} {ps : List MemPlace}, DataW.TrodVars enc P w sp ns gs ps → gs.length = ns.length
  | [], [], _, _ => rfl
  | [], _ :: _, _, h => h.elim
  | _ :: _, [], _, h => h.elim
  | _ :: _, _ :: _, _, h => by obtain ⟨_, _, _, _, _, _, _, _, _, _, h2, _⟩ := h; exact congrArg Nat.succ (vars_len h2)
theorem vars3 {H : Type} {enc : TypeId × Value → H} {P : Program} {w : World} {sp : Nat → Bool} {a b c : String} {gs : List (DataW H)} {ps : List MemPlace} (h : DataW.TrodVars enc P w sp [a, b, c] gs ps) : ∃ x y z, gs = [x, y, z] := by
  have e := vars_len h
  match gs, e with
  | [x, y, z], _ => exact ⟨x, y, z, rfl⟩
theorem star : "*" ++ "errors.errorString" = "*errors.errorString" := by decide
theorem rowStar (u : TypeId) (h : Tryz.prog.typeName? 3 u = some "*errors.errorString") : u = 226 :=
  typeName_ptr_named (nm := "errors.errorString") (by rw [star]; kernel_rfl) (by kernel_rfl) (by decide) u (by rw [star]; exact h)
structure LErrPageErrWriteErrValue (w : World) : Prop where
  sents : LaidS.At 226 [2, 0, 1] w
theorem has_0 {W : World} (h : laidMetH Tryz.prog [("loop.example/g00978/impl.errPage", Rows.laid_loop_example_g00978_impl_errPage), ("loop.example/g00978/impl.errWrite", Rows.laid_loop_example_g00978_impl_errWrite), ("loop.example/g00978/impl.errValue", Rows.laid_loop_example_g00978_impl_errValue)] W) : LErrPageErrWriteErrValue W := by
  have h' : laidMet Tryz.prog [("loop.example/g00978/impl.errPage", Rows.laid_loop_example_g00978_impl_errPage), ("loop.example/g00978/impl.errWrite", Rows.laid_loop_example_g00978_impl_errWrite), ("loop.example/g00978/impl.errValue", Rows.laid_loop_example_g00978_impl_errValue)] W := h
  have f_sents := LaidS.at_of (L := [("loop.example/g00978/impl.errPage", [110, 111, 32, 112, 97, 103, 101, 32, 105, 115, 32, 109, 97, 112, 112, 101, 100, 32, 97, 116, 32, 116, 104, 101, 32, 97, 100, 100, 114, 101, 115, 115], 2), ("loop.example/g00978/impl.errWrite", [116, 104, 101, 32, 112, 97, 103, 101, 32, 105, 115, 32, 109, 97, 112, 112, 101, 100, 32, 102, 111, 114, 32, 114, 101, 97, 100, 105, 110, 103, 32, 111, 110, 108, 121], 0), ("loop.example/g00978/impl.errValue", [116, 104, 101, 32, 118, 97, 108, 117, 101, 32, 105, 115, 32, 111, 117, 116, 32, 111, 102, 32, 114, 97, 110, 103, 101], 1)]) (r := []) h' Tryz.underlying147 rowStar Tryz.underlying226 Tryz.underlying252 rfl rfl Tryz.underlying9 (by kernel_rfl) (by kernel_rfl) (by intro x hx; simp only [List.mem_cons, List.not_mem_nil, or_false] at hx; rcases hx with rfl | rfl | rfl <;> exact ⟨by kernel_rfl, by kernel_rfl⟩)
  exact { sents := f_sents }
end Laid
end Go.Proofs.YtabnglcabpijfaaGreatDoor
namespace Go.Proofs.YtabnglcabpijfaaGreatDoor
open Go.RowKit
set_option linter.unusedVariables false
set_option linter.unusedSimpArgs false
namespace Tr
/-- a list of cells: nothing more; a plain value, then more; a slice of n elements of type T (k cells each, all of them in c), then more -/
inductive D where
  | nil
  | lit (v : Value) (r : D)
  | row (T k n : Nat) (c r : D)
def D.app : D → D → D
  | .nil, d => d
  | .lit v r, d => .lit v (r.app d)
  | .row T k n c r, d => .row T k n c (r.app d)
def D.len : D → Nat
  | .nil => 0
  | .lit _ r => r.len + 1
  | .row _ _ _ _ r => r.len + 1
def D.cat : List D → D
  | [] => .nil
  | d :: l => d.app (D.cat l)
theorem D.app_nil : ∀ d : D, d.app .nil = d
  | .nil => rfl
  | .lit _ r => by show D.lit _ (r.app .nil) = _; rw [D.app_nil r]
  | .row _ _ _ _ r => by show D.row _ _ _ _ (r.app .nil) = _; rw [D.app_nil r]
theorem D.app_assoc : ∀ a b c : D, (a.app b).app c = a.app (b.app c)
  | .nil, _, _ => rfl
  | .lit _ r, b, c => by show D.lit _ ((r.app b).app c) = D.lit _ (r.app (b.app c)); rw [D.app_assoc r]
  | .row _ _ _ _ r, b, c => by show D.row _ _ _ _ ((r.app b).app c) = D.row _ _ _ _ (r.app (b.app c)); rw [D.app_assoc r]
theorem D.len_app : ∀ a b : D, (a.app b).len = a.len + b.len
  | .nil, _ => by show _ = 0 + _; rw [Nat.zero_add]; rfl
  | .lit _ r, b => by show (r.app b).len + 1 = r.len + 1 + _; rw [D.len_app r]; omega
  | .row _ _ _ _ r, b => by show (r.app b).len + 1 = r.len + 1 + _; rw [D.len_app r]; omega
theorem D.cat_append : ∀ l m : List D, D.cat (l ++ m) = (D.cat l).app (D.cat m)
  | [], _ => rfl
  | d :: l, m => by show d.app (D.cat (l ++ m)) = (d.app (D.cat l)).app (D.cat m); rw [D.cat_append l, D.app_assoc]
theorem D.len_cat (k : Nat) : ∀ l : List D, (∀ d ∈ l, d.len = k) → (D.cat l).len = l.length * k
  | [], _ => by simp [D.cat, D.len]
  | d :: l, h => by
    show (d.app (D.cat l)).len = _
    rw [D.len_app, h d (by simp), D.len_cat k l (fun x hx => h x (by simp [hx])), List.length_cons, Nat.succ_mul]
    omega
/-- the cells vs hold the data d; the slices among them lie in the blocks bs, in their order (an empty slice without room may point anywhere) -/
def Own (w : World) : D → List Value → List Nat → Prop
  | .nil, vs, bs => vs = [] ∧ bs = []
  | .lit x r, vs, bs => ∃ vs', vs = x :: vs' ∧ Own w r vs' bs
  | .row T k n c r, vs, bs => ∃ v vs' b1 b2, vs = v :: vs' ∧ bs = b1 ++ b2 ∧ Own w r vs' b2 ∧
      (((∃ a, v = .slice a 0 0) ∧ n = 0 ∧ c = .nil ∧ b1 = []) ∨
       ∃ g o cap cur b, v = .slice (some ⟨g, o, none⟩) n cap ∧ b1 = g :: b ∧ w.heap[g]? = some (.cells cur T (0, 0)) ∧ n ≤ cap ∧ cap ≤ maxLen ∧ o + cap * k ≤ cur.size ∧ Own w c ((cur.toList.drop o).take (n * k)) b)
/-- the cells are read: whatever their blocks -/
def Rd (w : World) (d : D) (vs : List Value) : Prop := ∃ bs, Own w d vs bs
/-- the cells are the call's own: no block twice, none below B -/
def Owned (w : World) (B : Nat) (d : D) (vs : List Value) : Prop := ∃ bs, Own w d vs bs ∧ bs.Nodup ∧ ∀ b ∈ bs, B ≤ b
theorem Owned.mono {w : World} {B B' : Nat} {d : D} {vs : List Value} (h : Owned w B d vs) (hb : B' ≤ B) : Owned w B' d vs := by
  obtain ⟨bs, h1, h2, h3⟩ := h
  exact ⟨bs, h1, h2, fun b hb' => Nat.le_trans hb (h3 b hb')⟩
theorem own_len {w : World} : ∀ (d : D) {vs : List Value} {bs : List Nat}, Own w d vs bs → vs.length = d.len
  | .nil, _, _, h => by rw [h.1]; rfl
  | .lit _ r, _, _, h => by obtain ⟨vs', rfl, h⟩ := h; show vs'.length + 1 = _; rw [own_len r h]; rfl
  | .row _ _ _ _ r, _, _, h => by obtain ⟨v, vs', b1, b2, rfl, rfl, h, _⟩ := h; show vs'.length + 1 = _; rw [own_len r h]; rfl
theorem own_lt {w : World} : ∀ (d : D) {vs : List Value} {bs : List Nat}, Own w d vs bs → ∀ b ∈ bs, b < w.heap.size
  | .nil, _, _, h, b, hb => by rw [h.2] at hb; cases hb
  | .lit _ r, _, _, h, b, hb => by obtain ⟨vs', rfl, h⟩ := h; exact own_lt r h b hb
  | .row _ _ _ c r, _, _, h, x, hb => by
    obtain ⟨v, vs', b1, b2, rfl, rfl, h, h2⟩ := h
    rw [List.mem_append] at hb
    rcases hb with hb | hb
    · rcases h2 with ⟨_, _, _, rfl⟩ | ⟨g, o, cap, cur, b, rfl, rfl, hg, _, _, _, hc⟩
      · cases hb
      · rw [List.mem_cons] at hb
        rcases hb with rfl | hb
        · exact lt_of_block hg
        · exact own_lt c hc x hb
    · exact own_lt r h x hb
/-- what holds in one world holds in every world whose blocks bs are the same -/
theorem own_same {w w' : World} : ∀ (d : D) {vs : List Value} {bs : List Nat}, Own w d vs bs → (∀ b ∈ bs, w'.heap[b]? = w.heap[b]?) → Own w' d vs bs
  | .nil, _, _, h, _ => h
  | .lit _ r, _, _, h, hs => by obtain ⟨vs', rfl, h⟩ := h; exact ⟨vs', rfl, own_same r h hs⟩
  | .row _ _ _ c r, _, _, h, hs => by
    obtain ⟨v, vs', b1, b2, rfl, rfl, h, h2⟩ := h
    refine ⟨v, vs', b1, b2, rfl, rfl, own_same r h (fun b hb => hs b (by simp [hb])), ?_⟩
    rcases h2 with h2 | ⟨g, o, cap, cur, b, rfl, rfl, hg, h3, h4, h5, hc⟩
    · exact Or.inl h2
    · exact Or.inr ⟨g, o, cap, cur, b, rfl, rfl, (hs g (by simp)).trans hg, h3, h4, h5, own_same c hc (fun x hx => hs x (by simp [hx]))⟩
theorem own_app {w : World} : ∀ (d e : D) {vs : List Value} {bs : List Nat}, Own w (d.app e) vs bs ↔ ∃ v1 v2 b1 b2, vs = v1 ++ v2 ∧ bs = b1 ++ b2 ∧ Own w d v1 b1 ∧ Own w e v2 b2
  | .nil, e, vs, bs => by
    constructor
    · intro h; exact ⟨[], vs, [], bs, rfl, rfl, ⟨rfl, rfl⟩, h⟩
    · rintro ⟨v1, v2, b1, b2, rfl, rfl, ⟨rfl, rfl⟩, h⟩; exact h
  | .lit x r, e, vs, bs => by
    constructor
    · rintro ⟨vs', rfl, h⟩
      obtain ⟨v1, v2, b1, b2, rfl, rfl, h1, h2⟩ := (own_app r e).1 h
      exact ⟨x :: v1, v2, b1, b2, rfl, rfl, ⟨v1, rfl, h1⟩, h2⟩
    · rintro ⟨v1, v2, b1, b2, rfl, rfl, ⟨v1', rfl, h1⟩, h2⟩
      exact ⟨v1' ++ v2, rfl, (own_app r e).2 ⟨v1', v2, b1, b2, rfl, rfl, h1, h2⟩⟩
  | .row T k n c r, e, vs, bs => by
    constructor
    · rintro ⟨v, vs', b1, b2, rfl, rfl, h, h2⟩
      obtain ⟨v1, v2, c1, c2, rfl, rfl, h1, h3⟩ := (own_app r e).1 h
      exact ⟨v :: v1, v2, b1 ++ c1, c2, rfl, (List.append_assoc _ _ _).symm, ⟨v, v1, b1, c1, rfl, rfl, h1, h2⟩, h3⟩
    · rintro ⟨v1, v2, b1, b2, rfl, rfl, ⟨v, v1', c1, c2, rfl, rfl, h1, h3⟩, h2⟩
      exact ⟨v, v1' ++ v2, c1, c2 ++ b2, rfl, List.append_assoc _ _ _, (own_app r e).2 ⟨v1', v2, c2, b2, rfl, rfl, h1, h2⟩, h3⟩
theorem Rd.app {w : World} {d e : D} {v1 v2 : List Value} (h1 : Rd w d v1) (h2 : Rd w e v2) : Rd w (d.app e) (v1 ++ v2) := by
  obtain ⟨b1, h1⟩ := h1
  obtain ⟨b2, h2⟩ := h2
  exact ⟨_, (own_app d e).2 ⟨_, _, _, _, rfl, rfl, h1, h2⟩⟩
/-- two parts of the call's own, the second in blocks from M on, the first in blocks below M -/
theorem Owned.app {w : World} {B M : Nat} {d e : D} {v1 v2 : List Value} (h1 : Owned w B d v1) (h2 : Owned w M e v2) (hm : ∀ bs, Own w d v1 bs → ∀ b ∈ bs, b < M) (hB : B ≤ M) : Owned w B (d.app e) (v1 ++ v2) := by
  obtain ⟨b1, h1, n1, l1⟩ := h1
  obtain ⟨b2, h2, n2, l2⟩ := h2
  refine ⟨b1 ++ b2, (own_app d e).2 ⟨_, _, _, _, rfl, rfl, h1, h2⟩, ?_, ?_⟩
  · rw [List.nodup_append]
    exact ⟨n1, n2, fun a ha b hb e => by subst e; have := hm b1 h1 a ha; have := l2 a hb; omega⟩
  · intro b hb
    rw [List.mem_append] at hb
    rcases hb with hb | hb
    · exact l1 b hb
    · exact Nat.le_trans hB (l2 b hb)
/-- element i of a row's cells: its own cells, its own blocks; and what the row is behind a turn of that element alone -/
theorem own_cat {w : World} (k : Nat) : ∀ (l : List D) {us : List Value} {bs : List Nat}, (∀ d ∈ l, d.len = k) → Own w (D.cat l) us bs → ∀ i (hi : i < l.length),
    ∃ pre b post, bs = pre ++ (b ++ post) ∧ us.length = l.length * k ∧ Own w l[i] ((us.drop (i * k)).take k) b ∧
      ∀ (w' : World) (d' : D) (us' : List Value) (b' : List Nat), (∀ x ∈ pre ++ post, w'.heap[x]? = w.heap[x]?) → Own w' d' us' b' →
        Own w' (D.cat (l.set i d')) (us.take (i * k) ++ (us' ++ us.drop (i * k + k))) (pre ++ (b' ++ post))
  | [], _, _, _, _, i, hi => by cases hi
  | d :: l, us, bs, hk, h, 0, _ => by
    obtain ⟨v1, v2, b1, b2, rfl, rfl, h1, h2⟩ := (own_app d (D.cat l)).1 h
    have hl1 : v1.length = k := (own_len d h1).trans (hk d (by simp))
    have hl2 : v2.length = l.length * k := (own_len _ h2).trans (D.len_cat k l (fun x hx => hk x (by simp [hx])))
    refine ⟨[], b1, b2, rfl, by simp [hl1, hl2, Nat.succ_mul, Nat.add_comm], ?_, ?_⟩
    · simp only [Nat.zero_mul, List.drop_zero]
      rw [List.take_left' hl1]
      exact h1
    · intro w' d' us' b' hs h'
      simp only [Nat.zero_mul, List.take_zero, List.nil_append, Nat.zero_add]
      rw [List.drop_left' hl1]
      exact (own_app d' (D.cat l)).2 ⟨_, _, _, _, rfl, rfl, h', own_same _ h2 (fun x hx => hs x (by simpa using hx))⟩
  | d :: l, us, bs, hk, h, i + 1, hi => by
    obtain ⟨v1, v2, b1, b2, rfl, rfl, h1, h2⟩ := (own_app d (D.cat l)).1 h
    have hl1 : v1.length = k := (own_len d h1).trans (hk d (by simp))
    obtain ⟨pre, b, post, rfl, hlen, hi', hset⟩ := own_cat k l (fun x hx => hk x (by simp [hx])) h2 i (by simpa using hi)
    have e1 : (i + 1) * k = v1.length + i * k := by rw [Nat.succ_mul, hl1]; omega
    refine ⟨b1 ++ pre, b, post, by simp, by simp [hl1, hlen, Nat.succ_mul, Nat.add_comm], ?_, ?_⟩
    · rw [e1, ← List.drop_drop, List.drop_left]
      exact hi'
    · intro w' d' us' b' hs h'
      have hrest := hset w' d' us' b' (fun x hx => hs x (by rw [List.mem_append] at hx ⊢; rcases hx with hx | hx <;> simp [hx])) h'
      have e2 : List.take ((i + 1) * k) (v1 ++ v2) = v1 ++ v2.take (i * k) := by rw [e1, List.take_append, List.take_of_length_le (by omega)]; congr 2; omega
      have e3 : List.drop ((i + 1) * k + k) (v1 ++ v2) = v2.drop (i * k + k) := by rw [e1, Nat.add_assoc, ← List.drop_drop, List.drop_left]
      rw [e2, e3]
      have := (own_app d (D.cat (l.set i d'))).2 ⟨v1, _, b1, _, rfl, rfl, own_same d h1 (fun x hx => hs x (by simp [hx])), hrest⟩
      show Own w' (d.app (D.cat (l.set i d'))) _ _
      simpa [List.append_assoc] using this
/-- a slice whose elements hold the data l, k cells each -/
def rowC (T k : Nat) (l : List D) : D := .row T k l.length (D.cat l) .nil
def rowD {α : Type} (T k : Nat) (E : α → D) (l : List α) : D := rowC T k (l.map E)
theorem splice_at {cur : List Value} {o m k : Nat} {us' : List Value} (n : Nat) (hl : us'.length = k) (hk : m + k ≤ n) (hc : o + n ≤ cur.length) :
    ((cur.take (o + m) ++ (us' ++ cur.drop (o + m + k))).drop o).take n = ((cur.drop o).take n).take m ++ (us' ++ ((cur.drop o).take n).drop (m + k)) := by
  apply List.ext_getElem?
  intro j
  by_cases h1 : j < n
  · rw [List.getElem?_take, if_pos h1, List.getElem?_drop]
    by_cases h2 : j < m
    · rw [List.getElem?_append_left (by rw [List.length_take]; omega), List.getElem?_append_left (by simp only [List.length_take, List.length_drop]; omega)]
      rw [List.getElem?_take, if_pos (by omega), List.getElem?_take, if_pos h2, List.getElem?_take, if_pos h1, List.getElem?_drop]
    · rw [List.getElem?_append_right (l₁ := List.take (o + m) cur) (by rw [List.length_take]; omega), List.getElem?_append_right (l₁ := List.take m (List.take n (List.drop o cur))) (by simp only [List.length_take, List.length_drop]; omega)]
      have e1 : (List.take (o + m) cur).length = o + m := by rw [List.length_take]; omega
      have e2 : (List.take m (List.take n (List.drop o cur))).length = m := by simp only [List.length_take, List.length_drop]; omega
      rw [e1, e2]
      by_cases h3 : j < m + k
      · rw [List.getElem?_append_left (by omega), List.getElem?_append_left (by omega)]
        congr 1; omega
      · rw [List.getElem?_append_right (l₁ := us') (by omega), List.getElem?_append_right (l₁ := us') (by omega), List.getElem?_drop, List.getElem?_drop, List.getElem?_take, if_pos (by omega), List.getElem?_drop]
        congr 1; omega
  · rw [List.getElem?_take, if_neg h1]
    symm
    rw [List.getElem?_eq_none]
    simp only [List.length_append, List.length_take, List.length_drop]
    omega
theorem mul_step {i n k : Nat} (h : i < n) : i * k + k ≤ n * k := by rw [← Nat.succ_mul]; exact Nat.mul_le_mul_right k h
/-- a slice's value; element i: where it lies, what it holds; and the slice behind a turn of that element -/
theorem own_row {w : World} {T k : Nat} {l : List D} {v : Value} {bs : List Nat} (h : Own w (rowC T k l) [v] bs) (hk : ∀ d ∈ l, d.len = k) :
    ∃ A cap, v = .slice A l.length cap ∧ l.length ≤ cap ∧ cap ≤ maxLen ∧ ∀ i (hi : i < l.length), ∃ g o cur us pre b post, A = some ⟨g, o, none⟩ ∧ bs = g :: (pre ++ (b ++ post)) ∧ w.heap[g]? = some (.cells cur T (0, 0)) ∧
      us.length = k ∧ us = (cur.toList.drop (o + i * k)).take k ∧ o + l.length * k ≤ cur.size ∧ Own w l[i] us b ∧
      ∀ (w' : World) (d' : D) (us' : List Value) (b' : List Nat) (cur' : Array Value), (∀ x ∈ pre ++ post, w'.heap[x]? = w.heap[x]?) → w'.heap[g]? = some (.cells cur' T (0, 0)) → cur'.size = cur.size →
        cur'.toList = cur.toList.take (o + i * k) ++ (us' ++ cur.toList.drop (o + i * k + k)) → d'.len = k → Own w' d' us' b' → Own w' (rowC T k (l.set i d')) [v] (g :: (pre ++ (b' ++ post))) := by
  obtain ⟨v', vs', b1, b2, e1, e2, ⟨rfl, rfl⟩, h2⟩ := h
  obtain ⟨rfl, _⟩ := List.cons.inj e1
  rw [List.append_nil] at e2
  subst e2
  rcases h2 with ⟨⟨a0, rfl⟩, hn, _, _⟩ | ⟨g, o, cap, cur, b, rfl, rfl, hg, hcap, hmax, hsz, hc⟩
  · exact ⟨a0, 0, by rw [hn], by omega, Nat.zero_le _, fun i hi => by omega⟩
  · refine ⟨_, _, rfl, hcap, hmax, fun i hi => ?_⟩
    obtain ⟨pre, b', post, rfl, hlen, hi', hset⟩ := own_cat k l hk hc i hi
    have hle : l.length * k ≤ cap * k := Nat.mul_le_mul_right k hcap
    have hst := mul_step (k := k) hi
    have hus : (((cur.toList.drop o).take (l.length * k)).drop (i * k)).take k = (cur.toList.drop (o + i * k)).take k := by
      rw [List.drop_take, List.drop_drop, List.take_take, Nat.min_eq_left (by omega)]
    refine ⟨g, o, cur, _, pre, b', post, rfl, rfl, hg, ?_, rfl, by omega, ?_, ?_⟩
    · rw [List.length_take, List.length_drop, Array.length_toList]; omega
    · rw [← hus]; exact hi'
    · intro w' d' us' b'' cur' hs hg' hsz' hcur hd' ho'
      refine ⟨_, [], g :: (pre ++ (b'' ++ post)), [], rfl, by simp, ⟨rfl, rfl⟩, Or.inr ⟨g, o, cap, cur', _, by rw [List.length_set], rfl, hg', by rw [List.length_set]; exact hcap, hmax, by omega, ?_⟩⟩
      have hcl : cur.toList.length = cur.size := Array.length_toList
      rw [List.length_set, hcur, splice_at (l.length * k) ((own_len _ ho').trans hd') hst (by omega)]
      exact hset w' d' us' b'' hs ho'
theorem cell_of_block {w : World} {g : Nat} {cur : Array Value} {T : Nat} (h : w.heap[g]? = some (.cells cur T (0, 0))) (j : Nat) : w.cell? ⟨g, j, none⟩ = cur[j]? := by simp [World.cell?, h]
theorem free_of_block {w : World} {g : Nat} {cur : Array Value} {T : Nat} (h : w.heap[g]? = some (.cells cur T (0, 0))) (j : Nat) : w.frozen? ⟨g, j, none⟩ = false := by simp [World.frozen?, h]
theorem block_set {w : World} {g : Nat} {cur : Array Value} {T : Nat} (h : w.heap[g]? = some (.cells cur T (0, 0))) (j : Nat) (u : Value) : (w.setCell ⟨g, j, none⟩ u).heap[g]? = some (.cells (cur.setIfInBounds j u) T (0, 0)) := by
  simp [World.setCell, Array.getElem?_modify, h]
theorem at_us {cur : Array Value} {us : List Value} {m k : Nat} (h : us = (cur.toList.drop m).take k) (j : Nat) (hj : j < k) : cur[m + j]? = us[j]? := by
  rw [h, List.getElem?_take, if_pos hj, List.getElem?_drop, Array.getElem?_toList]
theorem set_us {cur : Array Value} {us : List Value} {m k : Nat} (h : us = (cur.toList.drop m).take k) (hm : m + k ≤ cur.size) (j : Nat) (hj : j < k) (u : Value) :
    (cur.setIfInBounds (m + j) u).toList = cur.toList.take m ++ ((us.set j u) ++ cur.toList.drop (m + k)) := by
  have hul : us.length = k := by rw [h, List.length_take, List.length_drop, Array.length_toList]; omega
  have hcl : cur.toList.length = cur.size := Array.length_toList
  apply List.ext_getElem?
  intro x
  rw [Array.toList_setIfInBounds, List.getElem?_set]
  by_cases h1 : x < m
  · rw [if_neg (by omega), List.getElem?_append_left (by rw [List.length_take]; omega), List.getElem?_take, if_pos h1]
  · rw [List.getElem?_append_right (by rw [List.length_take]; omega)]
    have e1 : (List.take m cur.toList).length = m := by rw [List.length_take]; omega
    rw [e1]
    by_cases h2 : x < m + k
    · rw [List.getElem?_append_left (by rw [List.length_set]; omega), List.getElem?_set]
      by_cases h3 : m + j = x
      · rw [if_pos h3, if_pos (by omega), if_pos (by omega), if_pos (by omega)]
      · rw [if_neg h3, if_neg (by omega), h, List.getElem?_take, if_pos (by omega), List.getElem?_drop]
        congr 1; omega
    · rw [if_neg (by omega), List.getElem?_append_right (by rw [List.length_set]; omega), List.length_set, hul, List.getElem?_drop]
      congr 1; omega
end Tr
end Go.Proofs.YtabnglcabpijfaaGreatDoor
namespace Go.Proofs.YtabnglcabpijfaaGreatDoor
open Go.RowKit
set_option linter.unusedVariables false
set_option linter.unusedSimpArgs false
namespace Tr
def eI (x : Int) : D := .lit (.int .i64 x) .nil
def eB (x : Bool) : D := .lit (.bool x) .nil
/-- what the world is behind a call that makes and writes new blocks alone, or the blocks bs -/
structure Turn (bs : List Nat) (w w' : World) : Prop where
  os : w'.os = w.os
  tape : w'.tape = w.tape
  output : w'.output = w.output
  size : w.heap.size ≤ w'.heap.size
  block : ∀ k, k < w.heap.size → k ∉ bs → w'.heap[k]? = w.heap[k]?
theorem Turn.refl (bs : List Nat) (w : World) : Turn bs w w := ⟨rfl, rfl, rfl, Nat.le_refl _, fun _ _ _ => rfl⟩
theorem Turn.trans {bs : List Nat} {a b c : World} (h : Turn bs a b) (k : Turn bs b c) : Turn bs a c :=
  ⟨k.os.trans h.os, k.tape.trans h.tape, k.output.trans h.output, Nat.le_trans h.size k.size, fun i hi hn => (k.block i (Nat.lt_of_lt_of_le hi h.size) hn).trans (h.block i hi hn)⟩
theorem Turn.mono {bs bs' : List Nat} {a b : World} (h : Turn bs a b) (hs : ∀ x ∈ bs, x ∈ bs') : Turn bs' a b :=
  ⟨h.os, h.tape, h.output, h.size, fun k hk hn => h.block k hk (fun hb => hn (hs k hb))⟩
theorem Turn.drew {bs : List Nat} {a b : World} (h : Turn bs a b) : Turn bs a b.drew := ⟨h.os, h.tape, h.output, h.size, h.block⟩
theorem Turn.setCell {bs : List Nat} {a b : World} (h : Turn bs a b) {p : Addr} (hp : p.block ∈ bs) (u : Value) : Turn bs a (b.setCell p u) :=
  ⟨h.os, h.tape, h.output, by show _ ≤ (b.heap.modify _ _).size; rw [Array.size_modify]; exact h.size, fun k hk hn => (Below.heap_setCell b p u k (fun e => hn (by rw [e]; exact hp))).trans (h.block k hk hn)⟩
theorem Turn.alloc {bs : List Nat} {a b : World} (h : Turn bs a b) (o : Obj) : Turn bs a (b.alloc o) :=
  h.trans ⟨rfl, rfl, rfl, by simp, fun k hk _ => Below.heap_alloc _ _ _ hk⟩
/-- the decimal text of a mark -/
def markText (k : Nat) : ByteArray := ⟨((109 : UInt8) :: (Nat.toDigits 10 k).map (fun c => c.toNat.toUInt8)).toArray⟩
def mk (v : Value) (k : Nat) : Value :=
  match v with
  | .int kd _ => .int kd k
  | .bool _ => .bool (k % 3 == 0)
  | .string _ => .string (markText k)
  | v => v
theorem len_map {α : Type} {E : α → D} {k : Nat} (hE : ∀ x, (E x).len = k) {l : List α} : ∀ d ∈ l.map E, d.len = k := by
  intro d hd
  rw [List.mem_map] at hd
  obtain ⟨x, _, rfl⟩ := hd
  exact hE x
/-- the lengths of all slices, summed -/
def D.sz : D → Nat
  | .nil => 0
  | .lit _ r => r.sz
  | .row _ _ n c r => n + c.sz + r.sz
/-- a block's cells with those from m on, k of them, turned into us -/
def Mid (cur cur' : Array Value) (m k : Nat) (us : List Value) : Prop := us.length = k ∧ m + k ≤ cur.size ∧ cur'.size = cur.size ∧ cur'.toList = cur.toList.take m ++ (us ++ cur.toList.drop (m + k))
theorem Mid.us {cur cur' : Array Value} {m k : Nat} {us : List Value} (h : Mid cur cur' m k us) : us = (cur'.toList.drop m).take k := by
  obtain ⟨h1, h2, h3, h4⟩ := h
  have hcl : cur.toList.length = cur.size := Array.length_toList
  rw [h4, List.drop_append_of_le_length (by rw [List.length_take]; omega), List.drop_of_length_le (by rw [List.length_take]; omega), List.nil_append, List.take_append_of_le_length (by omega), List.take_of_length_le (by omega)]
theorem Mid.refl {cur : Array Value} {m k : Nat} {us : List Value} (h : us = (cur.toList.drop m).take k) (hm : m + k ≤ cur.size) : Mid cur cur m k us := by
  have hcl : cur.toList.length = cur.size := Array.length_toList
  refine ⟨by rw [h, List.length_take, List.length_drop]; omega, hm, rfl, ?_⟩
  have h1 := List.take_append_drop k (cur.toList.drop m)
  rw [← h, List.drop_drop] at h1
  rw [h1]
  exact (List.take_append_drop m cur.toList).symm
theorem Mid.set {cur cur' : Array Value} {m k : Nat} {us : List Value} (h : Mid cur cur' m k us) (j : Nat) (hj : j < k) (u : Value) : Mid cur (cur'.setIfInBounds (m + j) u) m k (us.set j u) := by
  have hus := h.us
  obtain ⟨h1, h2, h3, h4⟩ := h
  have hcl : cur.toList.length = cur.size := Array.length_toList
  refine ⟨by rw [List.length_set]; exact h1, h2, by rw [Array.size_setIfInBounds]; exact h3, ?_⟩
  rw [set_us hus (by omega) j hj u]
  have e1 : cur'.toList.take m = cur.toList.take m := by rw [h4, List.take_append_of_le_length (by rw [List.length_take]; omega), List.take_take, Nat.min_self]
  have e2 : cur'.toList.drop (m + k) = cur.toList.drop (m + k) := by
    rw [h4, ← List.append_assoc, List.drop_append_of_le_length (by simp only [List.length_append, List.length_take]; omega), List.drop_of_length_le (by simp only [List.length_append, List.length_take]; omega), List.nil_append]
  rw [e1, e2]
/-- ONE ELEMENT OF A SLICE TURNED, whatever else the call makes -/
theorem row_turn {w : World} {T k n cap : Nat} {A : Option Addr} {l : List D} {bs : List Nat} (h : Own w (rowC T k l) [.slice A n cap] bs) (hn : bs.Nodup) (hk : ∀ d ∈ l, d.len = k) {i : Nat} (hi : i < l.length) :
    ∃ g o cur d us b, A = some ⟨g, o, none⟩ ∧ n = l.length ∧ g ∈ bs ∧ w.heap[g]? = some (.cells cur T (0, 0)) ∧ Mid cur cur (o + i * k) k us ∧ l[i]? = some d ∧ Own w d us b ∧ (∀ x ∈ b, x ∈ bs ∧ x ≠ g) ∧ b.Nodup ∧
      ∀ (w' : World) (cur' : Array Value) (us' : List Value) (d' : D) (b' : List Nat), w'.heap[g]? = some (.cells cur' T (0, 0)) → Mid cur cur' (o + i * k) k us' → (∀ x ∈ bs, x ≠ g → x ∉ b → w'.heap[x]? = w.heap[x]?) → Own w' d' us' b' →
        ∃ bs', Own w' (rowC T k (l.set i d')) [.slice A n cap] bs' ∧ (b' = b → bs' = bs) ∧ (∀ x ∈ bs', x ∈ bs ∨ x ∈ b') ∧ (b'.Nodup → (∀ x ∈ b', x ∉ bs ∨ x ∈ b) → bs'.Nodup) := by
  obtain ⟨A', cap', e1, h1, h2, hA⟩ := own_row h hk
  rw [Value.slice.injEq] at e1
  obtain ⟨rfl, rfl, rfl⟩ := e1
  obtain ⟨g, o, cur, us, pre, b, post, rfl, rfl, hg, hl, hus, hsz, ho, hset⟩ := hA i hi
  have hst := mul_step (k := k) hi
  rw [List.nodup_cons] at hn
  obtain ⟨hng, hn⟩ := hn
  rw [List.nodup_append] at hn
  obtain ⟨hn1, hn2, hn3⟩ := hn
  rw [List.nodup_append] at hn2
  obtain ⟨hn4, hn5, hn6⟩ := hn2
  refine ⟨g, o, cur, _, us, b, rfl, rfl, by simp, hg, Mid.refl hus (by omega), List.getElem?_eq_getElem hi, ho, fun x hx => ⟨by simp [hx], fun e => hng (by subst e; simp [hx])⟩, hn4, ?_⟩
  intro w' cur' us' d' b' hg' hm hs ho'
  refine ⟨g :: (pre ++ (b' ++ post)), hset w' d' us' b' cur' ?_ hg' hm.2.2.1 (by have := hm.2.2.2; rw [this]) ((own_len d' ho').symm.trans hm.1) ho', fun e => by rw [e], ?_, ?_⟩
  · intro x hx
    rw [List.mem_append] at hx
    rcases hx with hx | hx
    · exact hs x (by simp [hx]) (fun e => hng (by subst e; simp [hx])) (fun hb => hn3 x hx x (by simp [hb]) rfl)
    · exact hs x (by simp [hx]) (fun e => hng (by subst e; simp [hx])) (fun hb => hn6 x hb x hx rfl)
  · intro x hx
    simp only [List.mem_cons, List.mem_append] at hx ⊢
    rcases hx with hx | hx | hx | hx <;> simp [hx]
  · intro hnb hd
    have hdis : ∀ x ∈ b', x ≠ g ∧ x ∉ pre ∧ x ∉ post := by
      intro x hx
      rcases hd x hx with h9 | h9
      · simp only [List.mem_cons, List.mem_append, not_or] at h9
        exact ⟨h9.1, h9.2.1, h9.2.2.2⟩
      · exact ⟨fun e => hng (by rw [← e]; simp [h9]), fun hp => hn3 x hp x (by simp [h9]) rfl, fun hp => hn6 x h9 x hp rfl⟩
    rw [List.nodup_cons, List.nodup_append, List.nodup_append]
    refine ⟨?_, hn1, ⟨hnb, hn5, fun a ha c hc e => (hdis a ha).2.2 (by rw [e]; exact hc)⟩, ?_⟩
    · intro hm
      simp only [List.mem_append] at hm hng
      rcases hm with hm | hm | hm
      · exact hng (Or.inl hm)
      · exact (hdis g hm).1 rfl
      · exact hng (Or.inr (Or.inr hm))
    · intro a ha c hc e
      subst e
      rw [List.mem_append] at hc
      rcases hc with hc | hc
      · exact (hdis a hc).2.1 ha
      · exact hn3 a ha a (by simp [hc]) rfl
theorem Mid.cell {w : World} {g T m k : Nat} {cur cur' : Array Value} {us : List Value} (h : Mid cur cur' m k us) (hg : w.heap[g]? = some (.cells cur' T (0, 0))) (j : Nat) (hj : j < k) : w.cell? ⟨g, m + j, none⟩ = us[j]? := by
  rw [cell_of_block hg, at_us h.us j hj]
theorem getElem_of_at {l : List D} {i : Nat} {d : D} (h : l[i]? = some d) {hi : i < l.length} : l[i] = d := by
  rw [List.getElem?_eq_getElem hi] at h
  exact Option.some.inj h
theorem own_split {w : World} {d e : D} {vs : List Value} {bs : List Nat} (h : Own w (d.app e) vs bs) : ∃ b1 b2, bs = b1 ++ b2 ∧ Own w d (vs.take d.len) b1 ∧ Own w e (vs.drop d.len) b2 := by
  obtain ⟨v1, v2, b1, b2, rfl, rfl, h1, h2⟩ := (own_app d e).1 h
  have hl := own_len d h1
  exact ⟨b1, b2, rfl, by rw [List.take_left' hl]; exact h1, by rw [List.drop_left' hl]; exact h2⟩
theorem own_alloc {w : World} {d : D} {vs : List Value} {bs : List Nat} (h : Own w d vs bs) (o : Obj) : Own (w.alloc o) d vs bs :=
  own_same d h (fun b hb => Below.heap_alloc _ _ _ (own_lt d h b hb))
theorem Rd.alloc {w : World} {d : D} {vs : List Value} (h : Rd w d vs) (o : Obj) : Rd (w.alloc o) d vs := h.imp fun _ h => own_alloc h o
/-- data that came in: a slice may lie anywhere, may share, may have spare room -/
def Raw (w : World) : D → List Value → Prop
  | .nil, vs => vs = []
  | .lit x r, vs => ∃ vs', vs = x :: vs' ∧ Raw w r vs'
  | .row _ k n c r, vs => ∃ v vs', vs = v :: vs' ∧ Raw w r vs' ∧
      ((v = .slice none 0 0 ∧ n = 0 ∧ c = .nil) ∨
       ∃ ad cap us, v = .slice (some ad) n cap ∧ n ≤ cap ∧ cap ≤ maxLen ∧ us.length = n * k ∧ (∀ j, j < n * k → w.cell? (ad.add j) = us[j]?) ∧ Raw w c us)
theorem raw_len {w : World} : ∀ (d : D) {vs : List Value}, Raw w d vs → vs.length = d.len
  | .nil, _, h => by rw [h]; rfl
  | .lit _ r, _, h => by obtain ⟨vs', rfl, h⟩ := h; show vs'.length + 1 = _; rw [raw_len r h]; rfl
  | .row _ _ _ _ r, _, h => by obtain ⟨v, vs', rfl, h, _⟩ := h; show vs'.length + 1 = _; rw [raw_len r h]; rfl
theorem raw_app {w : World} : ∀ (d e : D) {vs : List Value}, Raw w (d.app e) vs ↔ ∃ v1 v2, vs = v1 ++ v2 ∧ Raw w d v1 ∧ Raw w e v2
  | .nil, e, vs => by
    constructor
    · intro h; exact ⟨[], vs, rfl, rfl, h⟩
    · rintro ⟨v1, v2, rfl, rfl, h⟩; exact h
  | .lit x r, e, vs => by
    constructor
    · rintro ⟨vs', rfl, h⟩
      obtain ⟨v1, v2, rfl, h1, h2⟩ := (raw_app r e).1 h
      exact ⟨x :: v1, v2, rfl, ⟨v1, rfl, h1⟩, h2⟩
    · rintro ⟨v1, v2, rfl, ⟨v1', rfl, h1⟩, h2⟩
      exact ⟨v1' ++ v2, rfl, (raw_app r e).2 ⟨v1', v2, rfl, h1, h2⟩⟩
  | .row T k n c r, e, vs => by
    constructor
    · rintro ⟨v, vs', rfl, h, h2⟩
      obtain ⟨v1, v2, rfl, h1, h3⟩ := (raw_app r e).1 h
      exact ⟨v :: v1, v2, rfl, ⟨v, v1, rfl, h1, h2⟩, h3⟩
    · rintro ⟨v1, v2, rfl, ⟨v, v1', rfl, h1, h3⟩, h2⟩
      exact ⟨v, v1' ++ v2, rfl, (raw_app r e).2 ⟨v1', v2, rfl, h1, h2⟩, h3⟩
theorem raw_cat {w : World} (k : Nat) : ∀ (l : List D) {us : List Value}, (∀ d ∈ l, d.len = k) → Raw w (D.cat l) us → ∀ i (hi : i < l.length), Raw w l[i] ((us.drop (i * k)).take k)
  | [], _, _, _, i, hi => by cases hi
  | d :: l, us, hk, h, 0, _ => by
    obtain ⟨v1, v2, rfl, h1, h2⟩ := (raw_app d (D.cat l)).1 h
    have hl1 : v1.length = k := (raw_len d h1).trans (hk d (by simp))
    simp only [Nat.zero_mul, List.drop_zero]
    rw [List.take_left' hl1]
    exact h1
  | d :: l, us, hk, h, i + 1, hi => by
    obtain ⟨v1, v2, rfl, h1, h2⟩ := (raw_app d (D.cat l)).1 h
    have hl1 : v1.length = k := (raw_len d h1).trans (hk d (by simp))
    have e1 : (i + 1) * k = v1.length + i * k := by rw [Nat.succ_mul, hl1]; omega
    rw [e1, ← List.drop_drop, List.drop_left]
    exact raw_cat k l (fun x hx => hk x (by simp [hx])) h2 i (by simpa using hi)
/-- a store into a block below the call's own cells leaves them -/
theorem Owned.setCell {w : World} {B : Nat} {d : D} {vs : List Value} (h : Owned w B d vs) {p : Addr} (hp : p.block < B) (u : Value) : Owned (w.setCell p u) B d vs := by
  obtain ⟨bs, h1, h2, h3⟩ := h
  exact ⟨bs, own_same d h1 (fun b hb => Below.heap_setCell _ _ _ _ (by have := h3 b hb; omega)), h2, h3⟩
theorem Owned.alloc {w : World} {B : Nat} {d : D} {vs : List Value} (h : Owned w B d vs) (o : Obj) : Owned (w.alloc o) B d vs := by
  obtain ⟨bs, h1, h2⟩ := h
  exact ⟨bs, own_alloc h1 o, h2⟩
theorem own_rep {w : World} {k : Nat} {z : D} {zc : List Value} (hz : Own w z zc []) (hk : zc.length = k) : ∀ (n : Nat) (us : List Value), us.length = n * k → (∀ j, j < n * k → us[j]? = zc[j % k]?) → Own w (D.cat (List.replicate n z)) us []
  | 0, us, hl, _ => ⟨List.length_eq_zero_iff.1 (by simpa using hl), rfl⟩
  | n + 1, us, hl, hj => by
    have hs : (n + 1) * k = k + n * k := by rw [Nat.succ_mul]; omega
    show Own w (z.app (D.cat (List.replicate n z))) us []
    refine (own_app _ _).2 ⟨us.take k, us.drop k, [], [], (List.take_append_drop k us).symm, rfl, ?_, own_rep hz hk n (us.drop k) (by rw [List.length_drop]; omega) (fun j hj' => ?_)⟩
    · have e : us.take k = zc := by
        apply List.ext_getElem?
        intro j
        rw [List.getElem?_take]
        by_cases h : j < k
        · rw [if_pos h, hj j (by omega), Nat.mod_eq_of_lt h]
        · rw [if_neg h, List.getElem?_eq_none (by omega)]
      rw [e]; exact hz
    · rw [List.getElem?_drop, hj (k + j) (by omega), Nat.add_mod_left]
theorem made_at {zc : List Value} {m j : Nat} (hj : j < m) (h0 : 0 < zc.length) : (madeCells zc.toArray m).toList[j]? = zc[j % zc.length]? := by
  have hm : j % zc.length < zc.length := Nat.mod_lt _ h0
  rw [Array.getElem?_toList]
  simp [madeCells, hj, hm]
def fillTo {α : Type} (E : α → D) (z : D) (l : List α) (i : Nat) : List D := (l.take i).map E ++ List.replicate (l.length - i) z
theorem fill_at {α : Type} (E : α → D) (z : D) (l : List α) (i : Nat) (h : i < l.length) : (fillTo E z l i)[i]? = some z := by
  unfold fillTo
  have hl : ((l.take i).map E).length = i := by rw [List.length_map, List.length_take]; omega
  rw [List.getElem?_append_right (by omega), hl, Nat.sub_self, show l.length - i = (l.length - (i + 1)) + 1 by omega, List.replicate_succ]
  rfl
theorem fill_len {α : Type} {E : α → D} {z : D} {l : List α} {i k : Nat} (hE : ∀ x, (E x).len = k) (hz : z.len = k) : ∀ d ∈ fillTo E z l i, d.len = k := by
  intro d hd
  unfold fillTo at hd
  rw [List.mem_append] at hd
  rcases hd with hd | hd
  · exact len_map hE d hd
  · rw [(List.mem_replicate.1 hd).2]; exact hz
section
variable {P : Program} {fn : Func} {R : Ending → World → Prop} {a : Act} {w : World} {p u u2 : Tmp} {ty t g : Nat} {cs : Array Value} {d : TypeDesc}
end
def RetP (v : Value) (w : World) (e : Ending) (w' : World) : Prop := e = .returned v ∧ Below w.heap.size w w'
/-- plain values only, each one cell -/
def D.flat : D → Prop
  | .nil => True
  | .lit v r => v.oneCell' = true ∧ r.flat
  | .row _ _ _ _ _ => False
theorem flat_app : ∀ {a b : D}, a.flat → b.flat → (a.app b).flat
  | .nil, _, _, h => h
  | .lit _ _, _, h1, h2 => ⟨h1.1, flat_app h1.2 h2⟩
theorem flat_cat : ∀ {l : List D}, (∀ d ∈ l, d.flat) → (D.cat l).flat
  | [], _ => trivial
  | d :: l, h => flat_app (h d (by simp)) (flat_cat (fun x hx => h x (by simp [hx])))
theorem own_flat {w : World} : ∀ {d : D} {us : List Value} {b : List Nat}, d.flat → Own w d us b → b = [] ∧ (∀ u ∈ us, u.oneCell' = true) ∧ ∀ w', Own w' d us []
  | .nil, us, _, _, h => ⟨h.2, (fun (u : Value) (hu : u ∈ us) => by rw [h.1] at hu; cases hu), (fun _ => ⟨h.1, rfl⟩)⟩
  | .lit v r, _, _, hf, h => by
    obtain ⟨vs', rfl, h⟩ := h
    obtain ⟨h1, h2, h3⟩ := own_flat hf.2 h
    refine ⟨h1, fun u hu => ?_, fun w' => ⟨vs', rfl, h3 w'⟩⟩
    rw [List.mem_cons] at hu
    rcases hu with rfl | hu
    · exact hf.1
    · exact h2 u hu
/-- a row of the library's laws as0 the call's own cells -/
theorem own_of_row {w : World} {B T k n : Nat} {v : Value} {xs : List Value} {l : List D} {b : List Nat} (h : w.ownsRow B T k v n xs) (hn : l.length = n) (hl : ∀ d ∈ l, d.len = k) (ho : Own w (D.cat l) xs b) : ∃ bs, Own w (rowC T k l) [v] (bs ++ b) ∧ bs.Nodup ∧ ∀ x ∈ bs, B ≤ x ∧ v.ownBlock = some x := by
  obtain ⟨h1, h2⟩ := h
  rcases h2 with ⟨rfl, h0⟩ | ⟨g, cap, cur, rfl, hb, hg, hc, hm, hs, ht⟩
  · have hl0 : l = [] := List.length_eq_zero_iff.1 (by omega)
    subst hl0
    obtain ⟨rfl, rfl⟩ := ho
    exact ⟨[], ⟨_, [], [], [], rfl, rfl, ⟨rfl, rfl⟩, Or.inl ⟨⟨none, rfl⟩, rfl, rfl, rfl⟩⟩, by simp, by simp⟩
  · refine ⟨[g], ⟨_, [], g :: b, [], rfl, by simp, ⟨rfl, rfl⟩, Or.inr ⟨g, 0, cap, cur, b, by rw [hn], rfl, hg, by omega, hm, by omega, ?_⟩⟩, by simp, fun x hx => ?_⟩
    · rw [List.drop_zero, hn, ht]; exact ho
    · obtain rfl : x = g := by simpa using hx
      exact ⟨hb, rfl⟩
section
variable {P : Program} {w : World} {ops : Array Oper} {rest : List Oper} {o : Oper} {a : Act} {Q : Exit → Act → World → Prop}
end
end Tr
end Go.Proofs.YtabnglcabpijfaaGreatDoor
namespace Go.Proofs.YtabnglcabpijfaaGreatDoor
open Go.RowKit Go.ChangeShapes Go.WideShapes
set_option linter.unusedVariables false
namespace Tr
section
variable {H : Type} (enc : TypeId × Value → H) (P : Program) (w : World) (base : Nat) (spare : Nat → Bool) (held : Bool)
def Opens (t : TypeId) {α : Type} (E : α → D) (Ok : α → Prop) : Prop := ∀ fuel cs x, DataW.trod enc P w base spare held fuel t cs = some x → ∃ a, Raw w (E a) cs ∧ Ok a
end
section
variable {H : Type} {enc : TypeId × Value → H} {P : Program} {w : World} {base : Nat} {spare : Nat → Bool} {held : Bool}
def okI (n : Int) : Prop := -9223372036854775808 ≤ n ∧ n ≤ 9223372036854775807
theorem okI_wf {n : Int} (h : (Lit.int .i64 n).wf = true) : okI n := by
  simpa [Lit.wf, IntKind.min, IntKind.max, IntKind.signed, IntKind.bits, okI] using h
theorem opens_int {t : TypeId} (ht : P.underlying t = some (.int .i64)) : Opens enc P w base spare held t eI okI := by
  intro fuel cs x h
  obtain ⟨n, rfl, _, hw⟩ := DataW.trod_int ht h
  exact ⟨n, ⟨_, rfl, rfl⟩, okI_wf hw⟩
theorem opens_bool {t : TypeId} (ht : P.underlying t = some .bool) : Opens enc P w base spare held t eB (fun _ => True) := by
  intro fuel cs x h
  obtain ⟨b, rfl, _⟩ := DataW.trod_bool ht h
  exact ⟨b, ⟨_, rfl, rfl⟩, trivial⟩
theorem raw_build {α : Type} {E : α → D} {Ok : α → Prop} {k : Nat} {a : Addr} (hE : ∀ x, (E x).len = k) : ∀ n, (∀ i, i < n → ∃ cs, w.cells? base (a.add (i * k)) k = some cs ∧ ∃ x, Raw w (E x) cs ∧ Ok x) →
    ∃ (l : List α) (us : List Value), l.length = n ∧ us.length = n * k ∧ (∀ j, j < n * k → w.cell? (a.add j) = us[j]?) ∧ Raw w (D.cat (l.map E)) us ∧ ∀ x ∈ l, Ok x
  | 0, _ => ⟨[], [], rfl, by simp, fun j hj => by omega, rfl, fun x hx => by cases hx⟩
  | n + 1, h => by
    obtain ⟨l, us, h1, h2, h3, h4, h5⟩ := raw_build hE n (fun i hi => h i (by omega))
    obtain ⟨cs, hc, x, hx, hok⟩ := h n (by omega)
    obtain ⟨_, hcl, hcat⟩ := World.cells?_some hc
    have hs : (n + 1) * k = n * k + k := Nat.succ_mul _ _
    refine ⟨l ++ [x], us ++ cs, by simp [h1], by rw [List.length_append, h2, hcl, hs], fun j hj => ?_, ?_, fun y hy => ?_⟩
    · by_cases hj2 : j < n * k
      · rw [h3 j hj2, List.getElem?_append_left (by omega)]
      · have e := hcat (j - n * k) (by omega)
        rw [Go.Deep.add_add, show n * k + (j - n * k) = j by omega] at e
        rw [e, List.getElem?_append_right (by omega), h2]
    · rw [List.map_append, D.cat_append]
      refine (raw_app _ _).2 ⟨us, cs, rfl, h4, ?_⟩
      show Raw w ((E x).app .nil) cs
      rw [D.app_nil]
      exact hx
    · rw [List.mem_append] at hy
      rcases hy with hy | hy
      · exact h5 y hy
      · obtain rfl : y = x := by simpa using hy
        exact hok
theorem opens_slice {t e : TypeId} {T k : Nat} {α : Type} {E : α → D} {Ok : α → Prop} (ht : P.underlying t = some (.slice e)) (hk : P.cellsOf e = k) (hE : ∀ x, (E x).len = k) (he : Opens enc P w base spare held e E Ok) :
    Opens enc P w base spare held t (rowD T k E) (fun l => ∀ x ∈ l, Ok x) := by
  intro fuel cs x h
  rcases Go.Deep.open_slice ht h with ⟨rfl, _⟩ | ⟨a, len, cap, m, n, Dt, Pl, rfl, hb, hl, hm, hmm, _, hi⟩
  · exact ⟨[], ⟨_, _, rfl, rfl, Or.inl ⟨rfl, rfl, rfl⟩⟩, fun x hx => by cases hx⟩
  · rw [hk] at hi
    have hml : len ≤ m := by rw [hmm]; split <;> omega
    obtain ⟨l, us, h1, h2, h3, h4, h5⟩ := raw_build (w := w) (base := base) (a := a) (Ok := Ok) hE len (fun i hi' => by
      obtain ⟨cs', hc, ht'⟩ := hi i (by omega)
      obtain ⟨y, hy, hok⟩ := he _ _ _ ht'
      exact ⟨cs', hc, y, hy, hok⟩)
    have hlm : (l.map E).length = len := by rw [List.length_map, h1]
    refine ⟨l, ⟨_, _, rfl, rfl, Or.inr ⟨a, cap, us, by rw [hlm], by rw [hlm]; exact hl, hm, by rw [hlm]; exact h2, by rw [hlm]; exact h3, h4⟩⟩, h5⟩
theorem opens_trod {t : TypeId} {α : Type} {E : α → D} {Ok : α → Prop} (he : Opens enc P w base spare held t E Ok) {v : Value} {d : DataW H} {ps : List MemPlace} (h : DataW.Trod enc P w base spare held t v d ps) : ∃ a, Raw w (E a) v.cells.toList ∧ Ok a := by
  obtain ⟨fuel, hf⟩ := h
  exact he _ _ _ hf
end
end Tr
end Go.Proofs.YtabnglcabpijfaaGreatDoor
namespace Go.Proofs.YtabnglcabpijfaaGreatDoor
open Go.RowKit
set_option linter.unusedVariables false
namespace Tr
theorem cells_own {g T : Nat} : ∀ (vs : List Value) (o : Nat) (w : World) (cur : Array Value), w.heap[g]? = some (.cells cur T (0, 0)) → o + vs.length ≤ cur.size →
    ∃ cur', (w.setCells g o vs).heap[g]? = some (.cells cur' T (0, 0)) ∧ Mid cur cur' o vs.length vs
  | [], o, w, cur, h, hl => ⟨cur, h, rfl, hl, rfl, by simp⟩
  | v :: r, o, w, cur, h, hl => by
    have hl' : o + 1 + r.length ≤ cur.size := by rw [List.length_cons] at hl; omega
    have hcl : cur.toList.length = cur.size := Array.length_toList
    obtain ⟨cur', h1, h2, h3, h4, h5⟩ := cells_own r (o + 1) (w.setCell ⟨g, o, none⟩ v) (cur.setIfInBounds o v) (block_set h o v) (by rw [Array.size_setIfInBounds]; exact hl')
    refine ⟨cur', h1, rfl, hl, by rw [h4, Array.size_setIfInBounds], ?_⟩
    rw [h5, Array.toList_setIfInBounds, List.length_cons, List.drop_set_of_lt (by omega), List.take_add_one, List.take_set_of_le (Nat.le_refl _), List.getElem?_set_self (by omega), show o + 1 + r.length = o + (r.length + 1) by omega]
    simp
theorem cells_far {g : Nat} : ∀ (vs : List Value) (o : Nat) (w : World) (y : Nat), y ≠ g → (w.setCells g o vs).heap[y]? = w.heap[y]?
  | [], _, _, _, _ => rfl
  | v :: r, o, w, y, h => (cells_far r (o + 1) _ y h).trans (Below.heap_setCell _ _ _ _ h)
end Tr
end Go.Proofs.YtabnglcabpijfaaGreatDoor

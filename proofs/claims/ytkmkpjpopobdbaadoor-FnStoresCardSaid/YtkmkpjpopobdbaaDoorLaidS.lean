/- What a list of sentinels of errors.New's make gives a walk. No program. -/
import Derived.Stop.LaidErr
import Derived.Below
namespace Go.Proofs.YtkmkpjpopobdbaaDoor
open Go.RowKit Go.ChangeShapes
namespace LaidS
/-- a list that opens with sentinels: their pointers, all different, and the blocks that hold them -/
theorem vars {P : Program} {nm : String} {W : World} {ti tp te ts : TypeId} {ms : Array (String × TypeId)} {f : Field}
    (hi : P.underlying ti = some (.interface ms)) (hrow : ∀ u, P.typeName? 3 u = some nm → u = tp)
    (hp : P.underlying tp = some (.pointer te)) (he : P.underlying te = some (.struct #[f])) (hft : f.type = ts) (hfo : f.offset = 0) (hs : P.underlying ts = some .string) (hc : P.cellsOf te = 1) (hcs : P.cellsOf ts = 1) :
    ∀ (L : List (String × List UInt8 × Nat)) (r : List (String × DataW Unit)) (ps : List MemPlace), DataW.LaidVars P W (L.map (fun x => (x.1, .iface nm (.ptr (.agg [.lit (.string x.2.1)])))) ++ r) ps → ps.Nodup →
      (∀ b off, MemPlace.cell b off ∈ ps → (∃ c t, W.heap[b]? = some (.cells c t (0, 0))) ∧ ∀ u v, W.cell? ⟨b, off, none⟩ = some (.iface u v) → Value.okWide P W .any 0 u v) →
      (∀ x ∈ L, P.globalNamed x.1 = some x.2.2 ∧ (P.globals[x.2.2]?).map (·.type) = some ti) →
      ∃ as : List Addr, as.length = L.length ∧ as.Nodup ∧ (∀ a ∈ as, MemPlace.cell a.block a.off ∈ ps) ∧
        ∀ (i : Nat) x a, L[i]? = some x → as[i]? = some a → (∃ ty, W.heap[x.2.2]? = some (.cells #[.iface tp (.pointer (some a))] ty (0, 0))) ∧ ∃ c t, W.heap[a.block]? = some (.cells c t (0, 0))
  | [], _, _, _, _, _, _ => ⟨[], rfl, List.nodup_nil, fun _ h => (by cases h), fun i x a h => by simp at h⟩
  | (n, text, g) :: L, r, ps, hv, hnd, hrows, hg => by
    obtain ⟨g0, t0, cs0, f0, p0, q0, hg0, ht0, hv0, hd0, hq0, e0⟩ := hv
    obtain ⟨hg1, ht1⟩ := hg (n, text, g) (by simp)
    obtain rfl := Option.some.inj (hg1.symm.trans hg0)
    obtain rfl := Option.some.inj (ht1.symm.trans ht0)
    subst e0
    obtain ⟨l0⟩ := cs0
    have ok0 : ∀ u v, l0 = [.iface u v] → Value.okWide P W .any 0 u v := fun u v e => by
      subst e
      exact (hrows g 0 (by simp [MemPlace.row])).2 u v (by simpa using World.var?_cell hg0 hv0 0)
    obtain ⟨a0, s0, rfl, hc0, _, _, rfl⟩ := errorString_of_trod hi hrow hp he hft hfo hs hc hcs hd0 ok0
    have hr0 : MemPlace.row a0 1 = [MemPlace.cell a0.block a0.off] := by simp [MemPlace.row]
    rw [hr0] at hnd hrows
    rw [List.nodup_append] at hnd
    obtain ⟨_, hnd2, hnd3⟩ := hnd
    obtain ⟨as, h1, h2, h3, h4⟩ := vars hi hrow hp he hft hfo hs hc hcs L r q0 hq0 hnd2 (fun b off hm => hrows b off (List.mem_append_right _ hm)) (fun x hx => hg x (by simp [hx]))
    refine ⟨a0 :: as, by simp [h1], ?_, ?_, ?_⟩
    · rw [List.nodup_cons]
      exact ⟨fun hm => hnd3 _ (by simp) _ (h3 a0 hm) rfl, h2⟩
    · intro a ha
      rw [List.mem_cons] at ha
      rcases ha with rfl | ha
      · rw [hr0]; simp
      · exact List.mem_append_right _ (h3 a ha)
    · intro i x a hx ha
      cases i with
      | zero =>
        simp at hx ha
        subst hx ha
        refine ⟨?_, (hrows a0.block a0.off (by simp)).1⟩
        obtain ⟨c, t, hb⟩ := (hrows g 0 (by simp [MemPlace.row])).1
        have : c = #[.iface tp (.pointer (some a0))] := by
          have hv1 := hv0
          unfold World.var? at hv1
          rw [hg0, Option.bind_some, hb] at hv1
          exact Option.some.inj hv1
        exact ⟨t, this ▸ hb⟩
      | succ i => exact h4 i x a (by simpa using hx) (by simpa using ha)
/-- the sentinels that the variables' blocks gs hold -/
def At (tp : TypeId) (gs : List Nat) (w : World) : Prop :=
  ∃ as : List Addr, as.length = gs.length ∧ as.Nodup ∧ ∀ (i : Nat) g a, gs[i]? = some g → as[i]? = some a → (∃ ty, w.heap[g]? = some (.cells #[.iface tp (.pointer (some a))] ty (0, 0))) ∧ ∃ c t, w.heap[a.block]? = some (.cells c t (0, 0))
theorem lt_of {w : World} {g : Nat} {o : Obj} (h : w.heap[g]? = some o) : g < w.heap.size := by
  rcases Nat.lt_or_ge g w.heap.size with h1 | h1
  · exact h1
  · rw [Array.getElem?_eq_none h1] at h; cases h
theorem At.below {tp : TypeId} {gs : List Nat} {w w' : World} (h : At tp gs w) (hb : Below w.heap.size w w') : At tp gs w' := by
  obtain ⟨as, h1, h2, h3⟩ := h
  refine ⟨as, h1, h2, fun i g a hg ha => ?_⟩
  obtain ⟨⟨ty, k1⟩, c, t, k2⟩ := h3 i g a hg ha
  exact ⟨⟨ty, (hb.block g (lt_of k1)).trans k1⟩, c, t, (hb.block a.block (lt_of k2)).trans k2⟩
theorem At.head {tp : TypeId} {g : Nat} {gs : List Nat} {w : World} (h : At tp (g :: gs) w) : At tp [g] w := by
  obtain ⟨as, h1, h2, h3⟩ := h
  match as, h1 with
  | a :: as, _ =>
    refine ⟨[a], rfl, by simp, fun i g' a' hg ha => ?_⟩
    cases i with
    | zero => exact h3 0 g' a' (by simpa using hg) (by simpa using ha)
    | succ i => simp at hg
theorem at_of {P : Program} {nm : String} {W : World} {ti tp te ts : TypeId} {ms : Array (String × TypeId)} {f : Field} {L : List (String × List UInt8 × Nat)} {r : List (String × DataW Unit)}
    (h : laidMet P (L.map (fun x => (x.1, .iface nm (.ptr (.agg [.lit (.string x.2.1)])))) ++ r) W)
    (hi : P.underlying ti = some (.interface ms)) (hrow : ∀ u, P.typeName? 3 u = some nm → u = tp)
    (hp : P.underlying tp = some (.pointer te)) (he : P.underlying te = some (.struct #[f])) (hft : f.type = ts) (hfo : f.offset = 0) (hs : P.underlying ts = some .string) (hc : P.cellsOf te = 1) (hcs : P.cellsOf ts = 1)
    (hg : ∀ x ∈ L, P.globalNamed x.1 = some x.2.2 ∧ (P.globals[x.2.2]?).map (·.type) = some ti) : At tp (L.map (·.2.2)) W := by
  obtain ⟨ps, hv, hnd, hrows⟩ := h
  obtain ⟨as, h1, h2, _, h4⟩ := vars hi hrow hp he hft hfo hs hc hcs L r ps hv hnd hrows hg
  refine ⟨as, by simpa using h1, h2, fun i g a hgi ha => ?_⟩
  rw [List.getElem?_map] at hgi
  obtain ⟨x, hx, rfl⟩ := Option.map_eq_some_iff.1 hgi
  exact h4 i x a hx ha
end LaidS
end Go.Proofs.YtkmkpjpopobdbaaDoor

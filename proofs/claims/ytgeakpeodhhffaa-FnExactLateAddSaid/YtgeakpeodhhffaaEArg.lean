/- A symbolic run: arguments that came in (they may share, may have spare room) as what is read. No program. -/
import Derived.Test.YtgeakpeodhhffaaEngV
namespace Go.Proofs.Ytgeakpeodhhffaa
open Go.RowKit
set_option linter.unusedVariables false
set_option linter.unusedSimpArgs false
namespace Eng
open Tr
/-- no row of elements without cells -/
def kpos : D → Prop
  | .nil => True
  | .lit _ r => kpos r
  | .row _ k _ c r => 0 < k ∧ kpos c ∧ kpos r
theorem kpos_app : ∀ {d e : D}, kpos d → kpos e → kpos (d.app e)
  | .nil, _, _, h => h
  | .lit _ r, e, h, h' => kpos_app (d := r) (e := e) h h'
  | .row _ _ _ c r, e, h, h' => ⟨h.1, h.2.1, kpos_app (d := r) (e := e) h.2.2 h'⟩
theorem kpos_cat : ∀ {l : List D}, (∀ d ∈ l, kpos d) → kpos (D.cat l)
  | [], _ => trivial
  | d :: l, h => kpos_app (h d (by simp)) (kpos_cat fun x hx => h x (by simp [hx]))
theorem kpos_row {α : Type} {T k : Nat} {E : α → D} {l : List α} (hk : 0 < k) (hE : ∀ x, kpos (E x)) : kpos (rowD T k E l) :=
  ⟨hk, kpos_cat (fun d hd => by obtain ⟨x, _, rfl⟩ := List.mem_map.1 hd; exact hE x), trivial⟩
theorem len_zero : ∀ {d : D}, d.len = 0 → d = .nil
  | .nil, _ => rfl
  | .lit _ _, h => by have h' : _ + 1 = 0 := h; omega
  | .row _ _ _ _ _, h => by have h' : _ + 1 = 0 := h; omega
theorem cell_spot {w : World} {ad : Addr} {v : Value} (h : w.cell? ad = some v) : ad.spot = none ∧ ad.block < w.heap.size := by
  unfold World.cell? at h
  split at h
  · rename_i hb
    refine ⟨?_, ?_⟩
    · split at h
      · cases h
      · rename_i hs
        cases e : ad.spot with
        | none => rfl
        | some x => rw [e] at hs; simp at hs
    · exact (Array.getElem?_eq_some_iff.1 hb).1
  · cases h
theorem raw_rdo {w : World} : ∀ (d : D) {vs : List Value}, kpos d → Raw w d vs → RdO w (· < w.heap.size) d vs
  | .nil, _, _, h => h
  | .lit _ r, _, hk, h => by obtain ⟨vs', rfl, h⟩ := h; exact ⟨vs', rfl, raw_rdo r hk h⟩
  | .row _ k n c r, _, hk, h => by
    obtain ⟨v, vs', rfl, h, h2⟩ := h
    refine ⟨v, vs', rfl, raw_rdo r hk.2.2 h, ?_⟩
    rcases h2 with ⟨rfl, h3, h4⟩ | ⟨ad, cap, us, rfl, h3, h4, h5, h6, h7⟩
    · exact .inl ⟨⟨none, 0, rfl, fun _ => rfl⟩, h3, h4⟩
    · by_cases hn : n = 0
      · refine .inl ⟨⟨some ad, cap, by rw [hn], fun h => by cases h⟩, hn, len_zero ?_⟩
        have := raw_len c h7
        rw [hn, Nat.zero_mul] at h5
        omega
      · have hp : 0 < n * k := Nat.mul_pos (by omega) hk.1
        obtain ⟨u, hu⟩ : ∃ u, us[0]? = some u := ⟨us[0], by rw [List.getElem?_eq_getElem (by omega)]⟩
        have h0 := h6 0 hp
        rw [hu, show ad.add 0 = ad from rfl] at h0
        obtain ⟨g, o, s⟩ := ad
        obtain ⟨hs, hb⟩ := cell_spot h0
        obtain rfl : s = none := hs
        refine .inr ⟨g, o, cap, us, rfl, h3, h4, h5, fun j hj => ?_, fun _ => hb, raw_rdo c hk.2.1 h7⟩
        rw [← h6 j hj, add_ne]
theorem rarg_one {w : World} {d : D} {c : CV} {v : Value} (h : Raw w d [v]) (hk : kpos d) (hc : cvOf d = [c]) (ho : onesTop d) : SRel (cxOf w) noEnv (.one c) v := by
  have := cv_rel (X := cxOf w) (ρ := noEnv) d ho (raw_rdo d hk h)
  rw [hc] at this
  exact this.1
theorem rarg_agg {w : World} {d : D} {cs : List CV} {vs : List Value} (h : Raw w d vs) (hk : kpos d) (hc : cvOf d = cs) (ho : onesTop d) : SRel (cxOf w) noEnv (.agg cs) (.agg vs.toArray) := by
  refine ⟨_, rfl, ?_⟩
  rw [← hc]
  exact cv_rel d ho (raw_rdo d hk h)
theorem raw_head {w : World} {T k n : Nat} {c r : D} {v : Value} {vs : List Value} (h : Raw w (.row T k n c r) (v :: vs)) : Raw w (.row T k n c .nil) [v] ∧ Raw w r vs := by
  obtain ⟨v', vs', e, h1, h2⟩ := h
  obtain ⟨rfl, rfl⟩ := List.cons.inj e
  exact ⟨⟨v, [], rfl, rfl, h2⟩, h1⟩
theorem raw_tail {w : World} {x : Value} {r : D} {v : Value} {vs : List Value} (h : Raw w (.lit x r) (v :: vs)) : Raw w r vs := by
  obtain ⟨vs', e, h1⟩ := h
  obtain ⟨_, rfl⟩ := List.cons.inj e
  exact h1
/-- a slice that came in, whatever its elements' type is called -/
theorem raw_ro {w : World} {α : Type} {T T' k : Nat} {E : α → D} {l : List α} {v : Value} (hk : 0 < k) (hE : ∀ x, kpos (E x)) (h : Raw w (.row T k (l.map E).length (D.cat (l.map E)) .nil) [v]) : CRel (cxOf w) noEnv (ro T' k E l) v := by
  have h' := raw_rdo _ (kpos_row (T := T) (E := E) (l := l) hk hE) h
  obtain ⟨v', vs', e, h1, h2⟩ := h'
  rw [List.length_map] at h2
  exact ⟨v', vs', e, h1, h2⟩
theorem raw_lit {w : World} {v : Value} (h : v.oneCell' = true) : CRel (cxOf w) noEnv (.lit v) v := ⟨rfl, h⟩
end Eng
end Go.Proofs.Ytgeakpeodhhffaa

/- Kernel calls: a valid kernel stays valid. No program. -/
import Derived.Test.YtkcoejodhdnoiaaM08
import Derived.Test.YtkcoejodhdnoiaaM07b
namespace Go.Proofs.Ytkcoejodhdnoiaa
open Go.RowKit
set_option linter.unusedVariables false
set_option linter.unusedSimpArgs false
namespace Tr
/-- a page is mapped to the frame f -/
def onF (f : Int) (l : List GEntry) : Prop := ∃ (j : Nat) (e : GEntry), l[j]? = some e ∧ e.Mode ≠ 0 ∧ e.Frame = f
theorem onFrame_iff (f : Int) : ∀ (l : List GEntry) (k : Nat), 0 < (onFrame f k l).length ↔ onF f l
  | [], k => by constructor
                · intro h; exact absurd h (by simp [onFrame])
                · rintro ⟨j, e, h, _⟩; simp at h
  | a :: l, k => by
    unfold onFrame
    have ih := onFrame_iff f l (k + 1)
    by_cases h : a.Mode ≠ 0 ∧ a.Frame = f
    · rw [if_pos h]
      exact ⟨fun _ => ⟨0, a, rfl, h⟩, fun _ => by simp⟩
    · rw [if_neg h]
      refine Iff.trans ih ⟨?_, ?_⟩
      · rintro ⟨j, e, h1, h2⟩; exact ⟨j + 1, e, by simpa using h1, h2⟩
      · rintro ⟨j, e, h1, h2⟩
        cases j with
        | zero => obtain rfl := Option.some.inj (show some a = some e from h1); exact absurd h2 h
        | succ j => exact ⟨j, e, by simpa using h1, h2⟩
theorem pages_iff (t : GTable) (f : Int) : 0 < (pPagesOn t f).length ↔ onF f t.Entries := onFrame_iff f _ 0
theorem used_iff {m : GMachine} : usedAre m ↔ ∀ i, i < m.Frames.Used.length → (m.Frames.Used[i]? = some true ∧ onF (i : Int) m.Table.Entries) ∨ (m.Frames.Used[i]? = some false ∧ ¬ onF (i : Int) m.Table.Entries) := by
  unfold usedAre
  refine forall_congr' fun i => forall_congr' fun hi => ?_
  rw [← pages_iff]
  by_cases h : 0 < (pPagesOn m.Table (i : Int)).length
  · rw [decide_eq_true h]; simp [h]
  · rw [decide_eq_false h]; simp [h]
theorem onF_set {l : List GEntry} {p : Nat} {e : GEntry} {f : Int} (hp : p < l.length) (h : onF f (l.set p e)) : (e.Mode ≠ 0 ∧ e.Frame = f) ∨ ∃ (j : Nat) (d : GEntry), j ≠ p ∧ l[j]? = some d ∧ d.Mode ≠ 0 ∧ d.Frame = f := by
  obtain ⟨j, d, h1, h2⟩ := h
  rw [List.getElem?_set] at h1
  by_cases hj : p = j
  · subst hj
    rw [if_pos rfl, if_pos hp] at h1
    obtain rfl := Option.some.inj h1
    exact .inl h2
  · rw [if_neg hj] at h1
    exact .inr ⟨j, d, fun e => hj e.symm, h1, h2⟩
theorem onF_keep {l : List GEntry} {p : Nat} {e : GEntry} {f : Int} {j : Nat} {d : GEntry} (hj : j ≠ p) (h1 : l[j]? = some d) (h2 : d.Mode ≠ 0 ∧ d.Frame = f) : onF f (l.set p e) :=
  ⟨j, d, by rw [List.getElem?_set, if_neg (Ne.symm hj)]; exact h1, h2⟩
theorem onF_new {l : List GEntry} {p : Nat} {e : GEntry} {f : Int} (hp : p < l.length) (h2 : e.Mode ≠ 0 ∧ e.Frame = f) : onF f (l.set p e) := ⟨p, e, by rw [List.getElem?_set, if_pos rfl, if_pos hp], h2⟩
theorem okT_set {t : GTable} {n : Int} {p : Nat} {e : GEntry} (h : pTableOk t n = true) (he : okE n e) : pTableOk ⟨t.Entries.set p e⟩ n = true := by
  unfold pTableOk at h ⊢
  have h' := of_decide_eq_true h
  refine decide_eq_true ⟨fun x hx => ?_, ?_, ?_⟩
  · rcases List.mem_or_eq_of_mem_set hx with h1 | h1
    · exact h'.1 x h1
    · rw [h1]; exact he
  · show 1 ≤ (t.Entries.set p e).length; rw [List.length_set]; exact h'.2.1
  · show (t.Entries.set p e).length ≤ 32; rw [List.length_set]; exact h'.2.2
theorem okT_at {t : GTable} {n : Int} (h : pTableOk t n = true) {j : Nat} {e : GEntry} (he : t.Entries[j]? = some e) : okE n e := (of_decide_eq_true (show decide _ = true from h)).1 e (List.mem_of_getElem? he)
/-- a frame emptied and no longer used -/
theorem okF_drop {f : GFrames} (h : okF f) (i : Nat) : okF ⟨f.Cells.set i (List.replicate 16 0), f.Used.set i false⟩ := by
  refine ⟨by simpa using h.1, by simpa using h.2.1, ?_⟩
  intro p hp
  obtain ⟨j, hj⟩ := List.getElem?_of_mem hp
  rw [List.getElem?_zip_eq_some] at hj
  obtain ⟨h1, h2⟩ := hj
  rw [List.getElem?_set] at h1 h2
  by_cases e : i = j
  · subst e
    rw [if_pos rfl] at h1 h2
    split at h1
    · split at h2
      · obtain h1 := Option.some.inj h1
        obtain h2 := Option.some.inj h2
        rw [← h1, ← h2]
        refine ⟨List.length_replicate, fun v hv => ?_⟩
        rw [List.eq_of_mem_replicate hv]
        exact ⟨⟨by omega, by omega⟩, .inr rfl⟩
      · cases h2
    · cases h1
  · rw [if_neg e] at h1 h2
    exact h.2.2 p (List.mem_of_getElem? (List.getElem?_zip_eq_some.2 ⟨h1, h2⟩))
/-- the entry of a page turned, and its old frame given back if no page is left on it -/
theorem okM_turn {m : GMachine} (h : okM m) {p f0 : Nat} {d e : GEntry} (hd : m.Table.Entries[p]? = some d) (hd0 : d.Mode ≠ 0) (hf : d.Frame = (f0 : Int)) (he : okE (m.Frames.Cells.length : Int) e)
    (ho : e.Mode ≠ 0 → e.Frame = d.Frame ∨ ∃ (j : Nat) (x : GEntry), j ≠ p ∧ m.Table.Entries[j]? = some x ∧ x.Mode ≠ 0 ∧ x.Frame = e.Frame) : okM (dropped (setEntry m p e) f0) := by
  obtain ⟨h1, h2, h3⟩ := h
  rw [used_iff] at h3
  have hp : p < m.Table.Entries.length := (List.getElem?_eq_some_iff.1 hd).1
  have hT : pTableOk ⟨m.Table.Entries.set p e⟩ (m.Frames.Cells.length : Int) = true := okT_set h2 he
  have hsame : ∀ i : Nat, i ≠ f0 → (onF (i : Int) (m.Table.Entries.set p e) ↔ onF (i : Int) m.Table.Entries) := by
    intro i hi
    constructor
    · intro h
      rcases onF_set hp h with ⟨h5, h6⟩ | ⟨j, x, _, h5, h6⟩
      · rcases ho h5 with h7 | ⟨j, x, _, h7, h8, h9⟩
        · rw [h7, hf] at h6; exact absurd (by omega) hi
        · exact ⟨j, x, h7, h8, h9.trans h6⟩
      · exact ⟨j, x, h5, h6⟩
    · rintro ⟨j, x, h5, h6⟩
      by_cases hj : j = p
      · subst hj
        rw [hd] at h5
        obtain rfl := Option.some.inj h5
        rw [hf] at h6
        exact absurd (by have := h6.2; omega) hi
      · exact onF_keep hj h5 h6
  unfold dropped
  by_cases hz : (pPagesOn (setEntry m p e).Table (f0 : Int)).length = 0
  · rw [if_pos hz]
    have hz' : ¬ onF (f0 : Int) (m.Table.Entries.set p e) := by rw [← pages_iff ⟨m.Table.Entries.set p e⟩]; show ¬ 0 < (pPagesOn (setEntry m p e).Table (f0 : Int)).length; omega
    refine ⟨okF_drop h1 f0, by show pTableOk _ (((m.Frames.Cells.set f0 _).length : Nat) : Int) = true; rw [List.length_set]; exact hT, ?_⟩
    rw [used_iff]
    intro i hi
    have hi' : i < m.Frames.Used.length := by
      have : i < (m.Frames.Used.set f0 false).length := hi
      simpa using this
    show ((m.Frames.Used.set f0 false)[i]? = some true ∧ onF _ (m.Table.Entries.set p e)) ∨ ((m.Frames.Used.set f0 false)[i]? = some false ∧ ¬ onF _ (m.Table.Entries.set p e))
    rw [List.getElem?_set]
    by_cases e' : f0 = i
    · subst e'
      rw [if_pos rfl, if_pos hi']
      exact .inr ⟨rfl, hz'⟩
    · rw [if_neg e', hsame i (Ne.symm e')]
      exact h3 i hi'
  · rw [if_neg hz]
    have hz' : onF (f0 : Int) (m.Table.Entries.set p e) := by rw [← pages_iff ⟨m.Table.Entries.set p e⟩]; show 0 < (pPagesOn (setEntry m p e).Table (f0 : Int)).length; omega
    refine ⟨h1, hT, ?_⟩
    rw [used_iff]
    intro i hi
    show (m.Frames.Used[i]? = some true ∧ onF _ (m.Table.Entries.set p e)) ∨ (m.Frames.Used[i]? = some false ∧ ¬ onF _ (m.Table.Entries.set p e))
    by_cases e' : i = f0
    · subst e'
      have hon : onF (i : Int) m.Table.Entries := ⟨p, d, hd, hd0, hf⟩
      rcases h3 i hi with h5 | h5
      · exact .inl ⟨h5.1, hz'⟩
      · exact absurd hon h5.2
    · rw [hsame i e']
      exact h3 i hi
/-- the entry of a page that stays on its frame -/
theorem okM_same {m : GMachine} (h : okM m) {p : Nat} {d e : GEntry} (hd : m.Table.Entries[p]? = some d) (hd0 : d.Mode ≠ 0) (he0 : e.Mode ≠ 0) (hf : e.Frame = d.Frame) (he : okE (m.Frames.Cells.length : Int) e) : okM (setEntry m p e) := by
  obtain ⟨h1, h2, h3⟩ := h
  have hp : p < m.Table.Entries.length := (List.getElem?_eq_some_iff.1 hd).1
  refine ⟨h1, okT_set h2 he, ?_⟩
  rw [used_iff] at h3 ⊢
  intro i hi
  have hs : onF (i : Int) (m.Table.Entries.set p e) ↔ onF (i : Int) m.Table.Entries := by
    constructor
    · intro h
      rcases onF_set hp h with ⟨h5, h6⟩ | ⟨j, x, _, h5, h6⟩
      · exact ⟨p, d, hd, hd0, hf ▸ h6⟩
      · exact ⟨j, x, h5, h6⟩
    · rintro ⟨j, x, h5, h6⟩
      by_cases hj : j = p
      · subst hj
        rw [hd] at h5
        obtain rfl := Option.some.inj h5
        exact onF_new hp ⟨he0, hf ▸ h6.2⟩
      · exact onF_keep hj h5 h6
  show (m.Frames.Used[i]? = some true ∧ onF _ (m.Table.Entries.set p e)) ∨ (m.Frames.Used[i]? = some false ∧ ¬ onF _ (m.Table.Entries.set p e))
  rw [hs]
  exact h3 i hi
/-- a page that was not mapped, on a frame that was not used -/
theorem okM_new {m : GMachine} (h : okM m) {p f : Nat} {d : GEntry} (hd : m.Table.Entries[p]? = some d) (hd0 : d.Mode = 0) (hf : f < m.Frames.Used.length) (hu : m.Frames.Used[f]? = some false) : okM (setEntry ⟨⟨m.Frames.Cells, m.Frames.Used.set f true⟩, m.Table⟩ p ⟨2, (f : Int)⟩) := by
  obtain ⟨h1, h2, h3⟩ := h
  have hp : p < m.Table.Entries.length := (List.getElem?_eq_some_iff.1 hd).1
  have hlen : m.Frames.Used.length = m.Frames.Cells.length := h1.2.1
  refine ⟨ok_true h1 f, okT_set h2 (.inr ⟨.inr rfl, by show (0 : Int) ≤ (f : Int); omega, by show (f : Int) < ((m.Frames.Cells.length : Nat) : Int); omega⟩), ?_⟩
  rw [used_iff] at h3 ⊢
  intro i hi
  have hi' : i < m.Frames.Used.length := by
    have : i < (m.Frames.Used.set f true).length := hi
    simpa using this
  show ((m.Frames.Used.set f true)[i]? = some true ∧ onF _ (m.Table.Entries.set p _)) ∨ ((m.Frames.Used.set f true)[i]? = some false ∧ ¬ onF _ (m.Table.Entries.set p _))
  rw [List.getElem?_set]
  by_cases e : f = i
  · subst e
    rw [if_pos rfl, if_pos hi']
    exact .inl ⟨rfl, onF_new hp ⟨by show (2 : Int) ≠ 0; omega, rfl⟩⟩
  · rw [if_neg e]
    have hs : onF (i : Int) (m.Table.Entries.set p ⟨2, (f : Int)⟩) ↔ onF (i : Int) m.Table.Entries := by
      constructor
      · intro h
        rcases onF_set hp h with ⟨h5, h6⟩ | ⟨j, x, _, h5, h6⟩
        · have h7 : (f : Int) = i := h6; omega
        · exact ⟨j, x, h5, h6⟩
      · rintro ⟨j, x, h5, h6⟩
        by_cases hj : j = p
        · subst hj
          rw [hd] at h5
          obtain rfl := Option.some.inj h5
          exact absurd hd0 h6.1
        · exact onF_keep hj h5 h6
    rw [hs]
    exact h3 i hi'
theorem entry_some {m : GMachine} {page : Int} (h : (pPageEntry m.Table page).Mode ≠ 0) : ∃ p : Nat, page = (p : Int) ∧ page.toNat = p ∧ m.Table.Entries[p]? = some (pPageEntry m.Table page) := by
  unfold pPageEntry at h ⊢
  split at h
  · rename_i h1
    refine ⟨page.toNat, by omega, rfl, ?_⟩
    rw [if_pos h1, List.getD_eq_getElem?_getD, List.getElem?_eq_getElem (by omega)]; rfl
  · exact absurd rfl h
theorem free_at {f : GFrames} (h : 0 ≤ pFree f) : ∃ i : Nat, pFree f = (i : Int) ∧ (pFree f).toNat = i ∧ i < f.Used.length ∧ f.Used[i]? = some false := by
  have key : ∀ (l : List Bool) (k : Nat), 0 ≤ freeAt k l → ∃ i : Nat, freeAt k l = ((k + i : Nat) : Int) ∧ l[i]? = some false := by
    intro l
    induction l with
    | nil => intro k h; unfold freeAt at h; exact absurd h (by omega)
    | cons u l ih =>
      intro k h
      unfold freeAt at h ⊢
      cases u with
      | false => exact ⟨0, by simp, rfl⟩
      | true =>
        simp only [↓reduceIte, Bool.false_eq_true, Bool.true_eq_false] at h ⊢
        obtain ⟨i, h1, h2⟩ := ih (k + 1) h
        exact ⟨i + 1, by rw [h1]; omega, by simpa using h2⟩
  obtain ⟨i, h1, h2⟩ := key f.Used 0 h
  rw [Nat.zero_add] at h1
  exact ⟨i, h1, by show (freeAt 0 f.Used).toNat = i; rw [h1]; rfl, (List.getElem?_eq_some_iff.1 h2).1, h2⟩
theorem okK_call {k : GKernel} (h : canCall k) {m : GMachine} (hm : okM m) : okK ⟨m, k.Calls + 1, k.Refuse⟩ := ⟨hm, ⟨by have := h.1.2.1.1; show 0 ≤ k.Calls + 1; omega, by have := h.2; show k.Calls + 1 ≤ 100000; omega⟩, h.1.2.2⟩
theorem okK_machine {k : GKernel} (h : okK k) {m : GMachine} (hm : okM m) : okK ⟨m, k.Calls, k.Refuse⟩ := ⟨hm, h.2⟩
/-- what a call leaves: valid; one call more; the machine as it was, where it was refused -/
structure CallLaw (k k' : GKernel) (b : Bool) (c : Int) : Prop where
  ok : okK k'
  calls : k'.Calls = k.Calls + c
  same : b = false → k'.Machine = k.Machine
theorem law_new {k : GKernel} (h : canCall k) (page : Int) : CallLaw k (pKMapNew k page).1 (pKMapNew k page).2 1 := by
  unfold pKMapNew
  rw [if_pos h]
  unfold pNew
  split
  · rename_i hc
    obtain ⟨i, h1, h2, h3, h4⟩ := free_at hc.2.2.2
    refine ⟨okK_call h ?_, rfl, (fun hb => nomatch hb)⟩
    rw [h2, h1]
    refine okM_new h.1.1 (p := page.toNat) (d := pPageEntry k.Machine.Table page) ?_ hc.2.2.1 h3 h4
    unfold pPageEntry
    rw [if_pos hc.2.1, List.getD_eq_getElem?_getD, List.getElem?_eq_getElem (by have := hc.2.1; omega)]; rfl
  · exact ⟨okK_call h h.1.1, rfl, fun _ => rfl⟩
theorem law_on {k : GKernel} (h : canCall k) (page other : Int) : CallLaw k (pKMapOn k page other).1 (pKMapOn k page other).2 1 := by
  unfold pKMapOn
  rw [if_pos h]
  unfold pOn
  split
  · rename_i hc
    obtain ⟨p, e1, e2, e3⟩ := entry_some (m := k.Machine) hc.2.1
    obtain ⟨q, d1, d2, d3⟩ := entry_some (m := k.Machine) hc.2.2.1
    obtain ⟨f, f1, f2, _⟩ := okM_entry h.1.1 hc.2.1
    obtain ⟨g, g1, g2, _⟩ := okM_entry h.1.1 hc.2.2.1
    refine ⟨okK_call h ?_, rfl, (fun hb => nomatch hb)⟩
    rw [e2]
    rw [f1, Int.toNat_natCast]
    refine okM_turn h.1.1 e3 hc.2.1 f1 (.inr ⟨.inr rfl, by show (0 : Int) ≤ (pPageEntry k.Machine.Table other).Frame; omega, by show (pPageEntry k.Machine.Table other).Frame < _; omega⟩) (fun _ => .inr ⟨q, _, ?_, d3, hc.2.2.1, rfl⟩)
    intro e
    exact hc.2.2.2 (by rw [e1, d1, e])
  · exact ⟨okK_call h h.1.1, rfl, fun _ => rfl⟩
theorem law_protect {k : GKernel} (h : canCall k) (page mode : Int) : CallLaw k (pKProtect k page mode).1 (pKProtect k page mode).2 1 := by
  unfold pKProtect
  rw [if_pos h]
  unfold pProtect
  split
  · rename_i hc
    obtain ⟨p, e1, e2, e3⟩ := entry_some (m := k.Machine) hc.2.1
    have hE := okT_at h.1.1.2.1 e3
    refine ⟨okK_call h ?_, rfl, (fun hb => nomatch hb)⟩
    rw [e2]
    refine okM_same h.1.1 e3 hc.2.1 (by show mode ≠ 0; have := hc.2.2; omega) rfl (.inr ⟨by show mode = 1 ∨ mode = 2; have := hc.2.2; omega, ?_⟩)
    rcases hE with hE | hE
    · exact absurd hE.1 hc.2.1
    · exact hE.2
  · exact ⟨okK_call h h.1.1, rfl, fun _ => rfl⟩
theorem law_unmap {k : GKernel} (h : canCall k) (page : Int) : CallLaw k (pKUnmap k page).1 (pKUnmap k page).2 0 := by
  unfold pKUnmap
  rw [if_pos h]
  unfold pUnmap
  split
  · rename_i hc
    obtain ⟨p, e1, e2, e3⟩ := entry_some (m := k.Machine) hc
    obtain ⟨f, f1, f2, _⟩ := okM_entry h.1.1 hc
    refine ⟨okK_machine h.1 ?_, by show k.Calls = k.Calls + 0; omega, (fun hb => nomatch hb)⟩
    rw [e2, f1, Int.toNat_natCast]
    exact okM_turn h.1.1 e3 hc f1 (.inl ⟨rfl, rfl⟩) (fun hh => absurd rfl hh)
  · exact ⟨h.1, by show k.Calls = k.Calls + 0; omega, fun _ => rfl⟩
end Tr
end Go.Proofs.Ytkcoejodhdnoiaa

/- Physical frames: what the drawn frames keep. No program. -/
import Derived.Test.YtkcoejodhdnoiaaM05
namespace Go.Proofs.Ytkcoejodhdnoiaa
open Go.RowKit
set_option linter.unusedVariables false
namespace Tr
theorem okF_at {f : GFrames} : okF f ↔ (1 ≤ f.Cells.length ∧ f.Cells.length ≤ 32) ∧ f.Used.length = f.Cells.length ∧ ∀ (i : Nat) (r : List Int) (u : Bool), f.Cells[i]? = some r → f.Used[i]? = some u → okRow u r := by
  unfold okF
  constructor
  · rintro ⟨h1, h2, h3⟩
    exact ⟨h1, h2, fun i r u hr hu => h3 (r, u) (List.mem_of_getElem? (zip_at hr hu))⟩
  · rintro ⟨h1, h2, h3⟩
    refine ⟨h1, h2, fun p hp => ?_⟩
    obtain ⟨i, hi⟩ := List.mem_iff_getElem?.1 hp
    obtain ⟨r, u⟩ := p
    obtain ⟨hr, hu⟩ := List.getElem?_zip_eq_some.1 hi
    exact h3 i r u hr hu
theorem okRow_zero (u : Bool) : okRow u (List.replicate 16 0) := by
  refine ⟨by simp, fun v hv => ?_⟩
  obtain rfl := (List.mem_replicate.1 hv).2
  exact ⟨by omega, .inr rfl⟩
theorem ok_new {n : Nat} (h1 : 1 ≤ n) (h2 : n ≤ 32) : okF ⟨List.replicate n (List.replicate 16 0), List.replicate n false⟩ := by
  rw [okF_at]
  refine ⟨by simp; omega, by simp, fun i r u hr hu => ?_⟩
  have hm := List.mem_of_getElem? hr
  obtain rfl := (List.mem_replicate.1 hm).2
  exact okRow_zero u
theorem ok_used {f : GFrames} {i : Nat} (h : okF f) (hz : f.Cells[i]? = some (List.replicate 16 0)) (b : Bool) : okF ⟨f.Cells, f.Used.set i b⟩ := by
  rw [okF_at] at h ⊢
  obtain ⟨h1, h2, h3⟩ := h
  refine ⟨h1, by show (f.Used.set i b).length = _; rw [List.length_set]; exact h2, fun j r u hr hu => ?_⟩
  by_cases hj : i = j
  · subst hj
    have hr' : f.Cells[i]? = some r := hr
    rw [hz] at hr'
    obtain rfl := Option.some.inj hr'
    exact okRow_zero u
  · refine h3 j r u hr ?_
    have hu' : (f.Used.set i b)[j]? = some u := hu
    rwa [List.getElem?_set_ne hj] at hu'
theorem ok_cell {f : GFrames} {i k : Nat} {r : List Int} {v : Int} (h : okF f) (hu : f.Used[i]? = some true) (hr : f.Cells[i]? = some r) (h0 : 0 ≤ v) (h1 : v ≤ 999) : okF ⟨f.Cells.set i (r.set k v), f.Used⟩ := by
  rw [okF_at] at h ⊢
  obtain ⟨g1, g2, g3⟩ := h
  refine ⟨by show 1 ≤ (f.Cells.set i _).length ∧ (f.Cells.set i _).length ≤ 32; rw [List.length_set]; exact g1, by show _ = (f.Cells.set i _).length; rw [List.length_set]; exact g2, fun j r' u hr' hu' => ?_⟩
  have hr2 : (f.Cells.set i (r.set k v))[j]? = some r' := hr'
  by_cases hj : i = j
  · subst hj
    have hil : i < f.Cells.length := (List.getElem?_eq_some_iff.1 hr).1
    rw [List.getElem?_set_self hil] at hr2
    obtain rfl := Option.some.inj hr2
    have hu2 : f.Used[i]? = some u := hu'
    rw [hu] at hu2
    obtain rfl := Option.some.inj hu2
    obtain ⟨q1, q2⟩ := g3 i r true hr hu
    refine ⟨by rw [List.length_set]; exact q1, fun x hx => ?_⟩
    rcases List.mem_or_eq_of_mem_set hx with hx | rfl
    · exact q2 x hx
    · exact ⟨⟨h0, h1⟩, .inl rfl⟩
  · rw [List.getElem?_set_ne hj] at hr2
    exact g3 j r' u hr2 hu'
end Tr
end Go.Proofs.Ytkcoejodhdnoiaa

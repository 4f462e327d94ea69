/- The machine: the specification's Store and PageText. -/
import Derived.Test.YtkmkpjpopobdbaaS07c
namespace Go.Proofs.Ytkmkpjpopobdbaa
open Go.RowKit
set_option linter.unusedVariables false
namespace Tr
/-- one number of frames replaced, the blocks said -/
theorem fr_cellB {w : World} {n cap : Nat} {v1 : Value} {A : Option Addr} {f : GFrames} {bs : List Nat} (h1 : Own w (eFrames f) [.slice A n cap, v1] bs) (h2 : bs.Nodup) {i : Nat} {r : List Int} (hr : f.Cells[i]? = some r) {k : Nat} (hk : k < r.length) (x : Int) :
    ∃ g o g2 o2 cap2 cur2 u, A = some ⟨g, o, none⟩ ∧ w.cell? ⟨g, o + i, none⟩ = some (.slice (some ⟨g2, o2, none⟩) r.length cap2) ∧ g2 ∈ bs ∧ w.heap[g2]? = some (.cells cur2 3 (0, 0)) ∧ cur2[o2 + k]? = some u ∧ ∀ w' : World, w'.heap[g2]? = some (.cells (cur2.setIfInBounds (o2 + k) (.int .i64 x)) 3 (0, 0)) → (∀ y, y ≠ g2 → w'.heap[y]? = w.heap[y]?) →
      ∃ bs', Own w' (eFrames ⟨f.Cells.set i (r.set k x), f.Used⟩) [.slice A n cap, v1] bs' ∧ bs'.Nodup ∧ ∀ y ∈ bs', y ∈ bs := by
  obtain ⟨b0, b1, rfl, k0, k1⟩ := parts_Frames h1
  rw [List.nodup_append] at h2
  obtain ⟨q1, q2, q3⟩ := h2
  have hil : i < f.Cells.length := (List.getElem?_eq_some_iff.1 hr).1
  obtain ⟨g, o, cur, d, us, b, e1, _, hg, hh, hm, hd, ho, hb, hbn, hset⟩ := row_turn k0 q1 (len_map (E := eIntS) (k := 1) (fun _ => rfl)) (i := i) (by rw [List.length_map]; exact hil)
  obtain ⟨r', hr', rfl⟩ := at_map hd
  obtain rfl : r = r' := by rw [hr] at hr'; exact Option.some.inj hr'
  simp only [Nat.mul_one] at hm hset
  obtain ⟨A2, n2, cap2, rfl⟩ := own_slice1 ho
  have hn2 := (own_cells ho (len_map (E := eI) (k := 1) (fun _ => rfl))).1
  rw [List.length_map] at hn2
  subst hn2
  obtain ⟨g2, o2, cur2, d2, us2, bb, e2, _, hg2, hh2, hm2, hd2, ho2, hb2, hbn2, hset2⟩ := row_turn ho hbn (len_map (E := eI) (k := 1) (fun _ => rfl)) (i := k) (by rw [List.length_map]; exact hk)
  simp only [Nat.mul_one] at hm2 hset2
  match us2, hm2.1, hm2, ho2 with
  | [u2], _, hm2, ho2 =>
  have hne := hb g2 hg2
  subst e2
  refine ⟨g, o, g2, o2, cap2, cur2, u2, e1, (cell_of_block hh (o + i)).trans (at_us (Mid.us hm) 0 (by omega)), by simp [hne.1], hh2, at_us (Mid.us hm2) 0 (by omega), fun w' hg' hs => ?_⟩
  have hm' : Mid cur2 (cur2.setIfInBounds (o2 + k) (.int .i64 x)) (o2 + k) 1 [.int .i64 x] := Mid.set hm2 0 (by omega) (.int .i64 x)
  obtain ⟨bs2, p1, _, p2, p3⟩ := hset2 w' _ [.int .i64 x] (eI x) [] hg' hm' (fun y hy hyg _ => hs y hyg) ⟨_, rfl, rfl, rfl⟩
  rw [← List.map_set] at p1
  have p2' : ∀ y ∈ bs2, y ∈ b := fun y hy => by rcases p2 y hy with h | h; exact h; cases h
  obtain ⟨bs', s1, _, s2, s3⟩ := hset w' _ _ (eIntS (r.set k x)) bs2 ((hs g (fun e => hne.2 e.symm)).trans hh) hm (fun y hy hyg hyb => hs y (fun e => hyb (by rw [e]; exact hg2))) p1
  rw [← List.map_set] at s1
  refine ⟨bs' ++ b1, (own_app _ _).2 ⟨[.slice A n cap], [v1], bs', b1, rfl, rfl, s1, own_same _ k1 (fun y hy => hs y (fun e => q3 g2 hne.1 y hy e.symm))⟩, ?_, ?_⟩
  · rw [List.nodup_append]
    refine ⟨s3 (p3 List.nodup_nil (fun y hy => by cases hy)) (fun y hy => Or.inr (p2' y hy)), q2, fun a ha c hc e => ?_⟩
    rcases s2 a ha with ha | ha
    · exact q3 a ha c hc e
    · exact q3 a (hb a (p2' a ha)).1 c hc e
  · intro y hy
    rw [List.mem_append] at hy ⊢
    rcases hy with hy | hy
    · rcases s2 y hy with hy | hy
      · exact .inl hy
      · exact .inl (hb y (p2' y hy)).1
    · exact .inr hy
/-- one number of a machine replaced -/
theorem ma_cell {w : World} {B n cap : Nat} {v1 v2 : Value} {A : Option Addr} {m : GMachine} (h : Owned w B (eMachine m) [.slice A n cap, v1, v2]) {i : Nat} {r : List Int} (hr : m.Frames.Cells[i]? = some r) {k : Nat} (hk : k < r.length) (x : Int) :
    ∃ g o g2 o2 cap2 cur2 u, A = some ⟨g, o, none⟩ ∧ w.cell? ⟨g, o + i, none⟩ = some (.slice (some ⟨g2, o2, none⟩) r.length cap2) ∧ B ≤ g2 ∧ w.heap[g2]? = some (.cells cur2 3 (0, 0)) ∧ cur2[o2 + k]? = some u ∧ ∀ w' : World, w'.heap[g2]? = some (.cells (cur2.setIfInBounds (o2 + k) (.int .i64 x)) 3 (0, 0)) → (∀ y, y ≠ g2 → w'.heap[y]? = w.heap[y]?) →
      Owned w' B (eMachine ⟨⟨m.Frames.Cells.set i (r.set k x), m.Frames.Used⟩, m.Table⟩) [.slice A n cap, v1, v2] := by
  obtain ⟨bs, h1, h2, h3⟩ := h
  obtain ⟨b0, b1, rfl, k0, k1⟩ := parts_Machine h1
  rw [List.nodup_append] at h2
  obtain ⟨q1, q2, q3⟩ := h2
  obtain ⟨g, o, g2, o2, cap2, cur2, u, e1, hc, hg2, hh, hu, hset⟩ := fr_cellB k0 q1 hr hk x
  refine ⟨g, o, g2, o2, cap2, cur2, u, e1, hc, h3 g2 (by simp [hg2]), hh, hu, fun w' hg' hs => ?_⟩
  obtain ⟨bs', p1, p2, p3⟩ := hset w' hg' hs
  refine ⟨bs' ++ b1, (own_app _ _).2 ⟨[.slice A n cap, v1], [v2], bs', b1, rfl, rfl, p1, own_same _ k1 (fun y hy => hs y (fun e => q3 g2 hg2 y hy e.symm))⟩, ?_, ?_⟩
  · rw [List.nodup_append]
    exact ⟨p2, q2, fun a ha c hc e => q3 a (p3 a ha) c hc e⟩
  · intro y hy
    rw [List.mem_append] at hy
    rcases hy with hy | hy
    · exact h3 y (by simp [p3 y hy])
    · exact h3 y (by simp [hy])
theorem owned_lens {w : World} {B : Nat} {m : GMachine} {A : Option Addr} {n cap : Nat} {v1 v2 : Value} (h : Owned w B (eMachine m) [.slice A n cap, v1, v2]) : n = m.Frames.Cells.length := by
  obtain ⟨bs, h1, _⟩ := h
  obtain ⟨b0, b1, rfl, k0, k1⟩ := parts_Machine h1
  obtain ⟨b2, b3, rfl, k2, k3⟩ := parts_Frames k0
  rw [(own_cells k2 (len_map (E := eIntS) (k := 1) (fun _ => rfl))).1, List.length_map]
end Tr
end Go.Proofs.Ytkmkpjpopobdbaa

/- Physical frames: a whole row cleared. -/
import Derived.Test.YtmajlgnjgnodoaaS05d
import Derived.Test.YtmajlgnjgnodoaaTreeSet
namespace Go.Proofs.Ytmajlgnjgnodoaa
open Go.RowKit
set_option linter.unusedVariables false
namespace Tr
theorem ints_in_block {w : World} {g o cap : Nat} {r : List Int} {cur : Array Value} (hg : w.heap[g]? = some (.cells cur 3 (0, 0))) (hc : r.length ≤ cap) (hm : cap ≤ maxLen) (hs : o + cap ≤ cur.size) (hcur : (cur.toList.drop o).take r.length = r.map (Value.int .i64)) :
    Own w (eIntS r) [.slice (some ⟨g, o, none⟩) r.length cap] [g] := by
  refine ⟨_, [], [g], [], rfl, rfl, ⟨rfl, rfl⟩, Or.inr ⟨g, o, cap, cur, [], by rw [List.length_map], rfl, hg, by rw [List.length_map]; exact hc, hm, by omega, ?_⟩⟩
  rw [List.length_map, Nat.mul_one, hcur]
  exact own_ints w r
theorem fr_clear {w : World} {B n cap : Nat} {v1 : Value} {A : Option Addr} {f : GFrames} (h : Owned w B (eFrames f) [.slice A n cap, v1]) {i : Nat} {r : List Int} (hr : f.Cells[i]? = some r) (hk : 0 < r.length) (r' : List Int) (hr' : r'.length = r.length) :
    ∃ g o g2 o2 cap2 cur2, A = some ⟨g, o, none⟩ ∧ w.cell? ⟨g, o + i, none⟩ = some (.slice (some ⟨g2, o2, none⟩) r.length cap2) ∧ B ≤ g2 ∧ w.heap[g2]? = some (.cells cur2 3 (0, 0)) ∧ o2 + r.length ≤ cur2.size ∧ ∀ (w' : World) (cur' : Array Value), w'.heap[g2]? = some (.cells cur' 3 (0, 0)) → Mid cur2 cur' o2 r.length (r'.map (Value.int .i64)) → (∀ y, y ≠ g2 → w'.heap[y]? = w.heap[y]?) →
      Owned w' B (eFrames ⟨f.Cells.set i r', f.Used⟩) [.slice A n cap, v1] := by
  obtain ⟨bs, h1, h2, h3⟩ := h
  obtain ⟨b0, b1, rfl, k0, k1⟩ := parts_Frames h1
  rw [List.nodup_append] at h2
  obtain ⟨q1, q2, q3⟩ := h2
  have hn := (own_cells k0 (len_map (E := eIntS) (k := 1) (fun _ => rfl))).1
  have hil : i < f.Cells.length := (List.getElem?_eq_some_iff.1 hr).1
  obtain ⟨g, o, cur, d, us, b, e1, _, hg, hh, hm, hd, ho, hb, hbn, hset⟩ := row_turn k0 q1 (len_map (E := eIntS) (k := 1) (fun _ => rfl)) (i := i) (by rw [List.length_map]; exact hil)
  obtain ⟨r0, hr0, rfl⟩ := at_map hd
  obtain rfl : r = r0 := by rw [hr] at hr0; exact Option.some.inj hr0
  simp only [Nat.mul_one] at hm hset
  obtain ⟨A2, n2, cap2, rfl⟩ := own_slice1 ho
  obtain ⟨v', vs', c1, c2, e2, rfl, ⟨rfl, rfl⟩, e3⟩ := ho
  obtain ⟨rfl, _⟩ := List.cons.inj e2
  rcases e3 with ⟨_, hz, _⟩ | ⟨g2, o2, cp, cur2, bb, e4, rfl, hg2, hcap, hmax, hsz, hc⟩
  · rw [List.length_map] at hz; omega
  · rw [Value.slice.injEq, List.length_map] at e4
    obtain ⟨rfl, rfl, rfl⟩ := e4
    rw [List.length_map] at hcap
    rw [Nat.mul_one] at hsz
    have hne := hb g2 (by simp)
    refine ⟨g, o, g2, o2, cap2, cur2, e1, (cell_of_block hh (o + i)).trans (at_us (Mid.us hm) 0 (by omega)), h3 g2 (by simp [hne.1]), hg2, by omega, fun w' cur' hg' hm' hs => ?_⟩
    have hus := hm'.us
    have p1 : Own w' (eIntS r') [.slice (some ⟨g2, o2, none⟩) r.length cap2] [g2] := by
      rw [← hr']
      exact ints_in_block hg' (by rw [hr']; exact hcap) hmax (by rw [hm'.2.2.1]; exact hsz) (by rw [hr', ← hus])
    obtain ⟨bs', s1, _, s2, s3⟩ := hset w' _ _ (eIntS r') [g2] ((hs g (fun e => hne.2 e.symm)).trans hh) hm (fun y hy hyg hyb => hs y (fun e => hyb (by rw [e]; simp))) p1
    rw [← List.map_set] at s1
    refine ⟨bs' ++ b1, (own_app _ _).2 ⟨[.slice A n cap], [v1], bs', b1, rfl, rfl, s1, own_same _ k1 (fun y hy => hs y (fun e => q3 g2 hne.1 y hy e.symm))⟩, ?_, ?_⟩
    · rw [List.nodup_append]
      refine ⟨s3 (by simp) (fun y hy => Or.inr (by rw [List.mem_singleton] at hy; subst hy; simp)), q2, fun a ha c hc e => ?_⟩
      rcases s2 a ha with ha | ha
      · exact q3 a ha c hc e
      · rw [List.mem_singleton] at ha; subst ha; exact q3 a hne.1 c hc e
    · intro y hy
      rw [List.mem_append] at hy
      rcases hy with hy | hy
      · rcases s2 y hy with hy | hy
        · exact h3 y (by simp [hy])
        · rw [List.mem_singleton] at hy; subst hy; exact h3 y (by simp [hne.1])
      · exact h3 y (by simp [hy])
end Tr
end Go.Proofs.Ytmajlgnjgnodoaa

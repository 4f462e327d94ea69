/- Physical frames: the specification's functions that write. -/
import Derived.Test.YtkmkpjpopobdbaaDoorS05c
namespace Go.Proofs.YtkmkpjpopobdbaaDoor
open Go.RowKit
set_option linter.unusedVariables false
namespace Tr
theorem fr_used {w : World} {B n cap : Nat} {v0 : Value} {A : Option Addr} {f : GFrames} (h : Owned w B (eFrames f) [v0, .slice A n cap]) {i : Nat} (hi : i < n) (x : Bool) :
    ∃ g o cur u, A = some ⟨g, o, none⟩ ∧ B ≤ g ∧ w.heap[g]? = some (.cells cur 4 (0, 0)) ∧ cur[o + i]? = some u ∧ ∀ w' : World, w'.heap[g]? = some (.cells (cur.setIfInBounds (o + i) (.bool x)) 4 (0, 0)) → (∀ y, y ≠ g → w'.heap[y]? = w.heap[y]?) →
      Owned w' B (eFrames ⟨f.Cells, f.Used.set i x⟩) [v0, .slice A n cap] := by
  obtain ⟨bs, h1, h2, h3⟩ := h
  obtain ⟨b0, b1, rfl, k0, k1⟩ := parts_Frames h1
  rw [List.nodup_append] at h2
  obtain ⟨q1, q2, q3⟩ := h2
  have hn := (own_cells k1 (len_map (E := eB) (k := 1) (fun _ => rfl))).1
  obtain ⟨g, o, cur, d, us, b, e1, _, hg, hh, hm, hd, ho, hb, hbn, hset⟩ := row_turn k1 q2 (len_map (E := eB) (k := 1) (fun _ => rfl)) (i := i) (by omega)
  simp only [Nat.mul_one] at hm hset
  match us, hm.1, hm, ho with
  | [u], _, hm, ho =>
  refine ⟨g, o, cur, u, e1, h3 g (by simp [hg]), hh, at_us (Mid.us hm) 0 (by omega), fun w' hg' hs => ?_⟩
  have hm' : Mid cur (cur.setIfInBounds (o + i) (.bool x)) (o + i) 1 [.bool x] := Mid.set hm 0 (by omega) (.bool x)
  obtain ⟨bs', p1, _, p2, p3⟩ := hset w' _ [.bool x] (eB x) [] hg' hm' (fun y hy hyg _ => hs y hyg) ⟨_, rfl, rfl, rfl⟩
  rw [← List.map_set] at p1
  refine ⟨b0 ++ bs', (own_app _ _).2 ⟨[v0], [.slice A n cap], b0, bs', rfl, rfl, own_same _ k0 (fun b hb => hs b (fun e => q3 b hb g hg e)), p1⟩, ?_, ?_⟩
  · rw [List.nodup_append]
    exact ⟨q1, p3 List.nodup_nil (fun y hy => by cases hy), fun a ha c hc e => (by rcases p2 c hc with hc | hc; exact q3 a ha c hc e; cases hc)⟩
  · intro b hb
    rw [List.mem_append] at hb
    rcases hb with hb | hb
    · exact h3 b (by simp [hb])
    · rcases p2 b hb with hb | hb
      · exact h3 b (by simp [hb])
      · cases hb
theorem fr_row {w : World} {B n cap : Nat} {v1 : Value} {A : Option Addr} {f : GFrames} (h : Owned w B (eFrames f) [.slice A n cap, v1]) {i : Nat} (hi : i < n) (r : List Int) :
    ∃ g o cur u, A = some ⟨g, o, none⟩ ∧ B ≤ g ∧ w.heap[g]? = some (.cells cur 34 (0, 0)) ∧ cur[o + i]? = some u ∧ ∀ (w' : World) (v : Value), Owned w' w.heap.size (eIntS r) [v] → w'.heap[g]? = some (.cells (cur.setIfInBounds (o + i) v) 34 (0, 0)) → (∀ y, y < w.heap.size → y ≠ g → w'.heap[y]? = w.heap[y]?) →
      Owned w' B (eFrames ⟨f.Cells.set i r, f.Used⟩) [.slice A n cap, v1] := by
  obtain ⟨bs, h1, h2, h3⟩ := h
  obtain ⟨b0, b1, rfl, k0, k1⟩ := parts_Frames h1
  rw [List.nodup_append] at h2
  obtain ⟨q1, q2, q3⟩ := h2
  have hn := (own_cells k0 (len_map (E := eIntS) (k := 1) (fun _ => rfl))).1
  have hl0 := own_lt _ k0
  have hl1 := own_lt _ k1
  obtain ⟨g, o, cur, d, us, b, e1, _, hg, hh, hm, hd, ho, hb, hbn, hset⟩ := row_turn k0 q1 (len_map (E := eIntS) (k := 1) (fun _ => rfl)) (i := i) (by omega)
  simp only [Nat.mul_one] at hm hset
  match us, hm.1, hm, ho with
  | [u], _, hm, ho =>
  have hBg := h3 g (by simp [hg])
  have hgs := hl0 g hg
  refine ⟨g, o, cur, u, e1, hBg, hh, at_us (Mid.us hm) 0 (by omega), fun w' v ⟨bv, r1, r2, r3⟩ hg' hs => ?_⟩
  have hm' : Mid cur (cur.setIfInBounds (o + i) v) (o + i) 1 [v] := Mid.set hm 0 (by omega) v
  obtain ⟨bs', p1, _, p2, p3⟩ := hset w' _ [v] (eIntS r) bv hg' hm' (fun y hy hyg _ => hs y (hl0 y hy) hyg) r1
  rw [← List.map_set] at p1
  refine ⟨bs' ++ b1, (own_app _ _).2 ⟨[.slice A n cap], [v1], bs', b1, rfl, rfl, p1, own_same _ k1 (fun b hb => hs b (hl1 b hb) (fun e => q3 g hg b hb e.symm))⟩, ?_, ?_⟩
  · rw [List.nodup_append]
    refine ⟨p3 r2 (fun y hy => Or.inl (fun hh => ?_)), q2, fun a ha c hc e => ?_⟩
    · have h1 := r3 y hy
      have h2 := hl0 y hh
      omega
    · rcases p2 a ha with ha | ha
      · exact q3 a ha c hc e
      · have h1 := r3 a ha
        have h2 := hl1 c hc
        omega
  · intro b hb
    rw [List.mem_append] at hb
    rcases hb with hb | hb
    · rcases p2 b hb with hb | hb
      · exact h3 b (by simp [hb])
      · have := r3 b hb; omega
    · exact h3 b (by simp [hb])
theorem fr_cell {w : World} {B n cap : Nat} {v1 : Value} {A : Option Addr} {f : GFrames} (h : Owned w B (eFrames f) [.slice A n cap, v1]) {i : Nat} {r : List Int} (hr : f.Cells[i]? = some r) {k : Nat} (hk : k < r.length) (x : Int) :
    ∃ g o g2 o2 cap2 cur2 u, A = some ⟨g, o, none⟩ ∧ w.cell? ⟨g, o + i, none⟩ = some (.slice (some ⟨g2, o2, none⟩) r.length cap2) ∧ B ≤ g2 ∧ w.heap[g2]? = some (.cells cur2 3 (0, 0)) ∧ cur2[o2 + k]? = some u ∧ ∀ w' : World, w'.heap[g2]? = some (.cells (cur2.setIfInBounds (o2 + k) (.int .i64 x)) 3 (0, 0)) → (∀ y, y ≠ g2 → w'.heap[y]? = w.heap[y]?) →
      Owned w' B (eFrames ⟨f.Cells.set i (r.set k x), f.Used⟩) [.slice A n cap, v1] := by
  obtain ⟨bs, h1, h2, h3⟩ := h
  obtain ⟨b0, b1, rfl, k0, k1⟩ := parts_Frames h1
  rw [List.nodup_append] at h2
  obtain ⟨q1, q2, q3⟩ := h2
  have hn := (own_cells k0 (len_map (E := eIntS) (k := 1) (fun _ => rfl))).1
  have hil : i < f.Cells.length := (List.getElem?_eq_some_iff.1 hr).1
  obtain ⟨g, o, cur, d, us, b, e1, _, hg, hh, hm, hd, ho, hb, hbn, hset⟩ := row_turn k0 q1 (len_map (E := eIntS) (k := 1) (fun _ => rfl)) (i := i) (by rw [List.length_map]; exact hil)
  obtain ⟨r', hr', rfl⟩ := at_map hd
  obtain rfl : r = r' := by rw [hr] at hr'; exact Option.some.inj hr'
  simp only [Nat.mul_one] at hm hset
  obtain ⟨A2, n2, cap2, rfl⟩ := own_slice1 ho
  have hn2 := (own_cells ho (len_map (E := eI) (k := 1) (fun _ => rfl))).1
  rw [List.length_map] at hn2
  subst hn2
  obtain ⟨g2, o2, cur2, d2, us2, bb, e2, _, hg2, hh2, hm2, hd2, ho2, hb2, hbn2, hset2⟩ := row_turn ho hbn (len_map (E := eI) (k := 1) (fun _ => rfl)) (i := k) (by rw [List.length_map]; exact hk)
  simp only [Nat.mul_one] at hm2 hset2
  match us2, hm2.1, hm2, ho2 with
  | [u2], _, hm2, ho2 =>
  have hne := hb g2 hg2
  subst e2
  refine ⟨g, o, g2, o2, cap2, cur2, u2, e1, (cell_of_block hh (o + i)).trans (at_us (Mid.us hm) 0 (by omega)), h3 g2 (by simp [hne.1]), hh2, at_us (Mid.us hm2) 0 (by omega), fun w' hg' hs => ?_⟩
  have hm' : Mid cur2 (cur2.setIfInBounds (o2 + k) (.int .i64 x)) (o2 + k) 1 [.int .i64 x] := Mid.set hm2 0 (by omega) (.int .i64 x)
  obtain ⟨bs2, p1, _, p2, p3⟩ := hset2 w' _ [.int .i64 x] (eI x) [] hg' hm' (fun y hy hyg _ => hs y hyg) ⟨_, rfl, rfl, rfl⟩
  rw [← List.map_set] at p1
  have p2' : ∀ y ∈ bs2, y ∈ b := fun y hy => by rcases p2 y hy with h | h; exact h; cases h
  obtain ⟨bs', s1, _, s2, s3⟩ := hset w' _ _ (eIntS (r.set k x)) bs2 ((hs g (fun e => hne.2 e.symm)).trans hh) hm (fun y hy hyg hyb => hs y (fun e => hyb (by rw [e]; exact hg2))) p1
  rw [← List.map_set] at s1
  refine ⟨bs' ++ b1, (own_app _ _).2 ⟨[.slice A n cap], [v1], bs', b1, rfl, rfl, s1, own_same _ k1 (fun y hy => hs y (fun e => q3 g2 hne.1 y hy e.symm))⟩, ?_, ?_⟩
  · rw [List.nodup_append]
    refine ⟨s3 (p3 List.nodup_nil (fun y hy => by cases hy)) (fun y hy => Or.inr (p2' y hy)), q2, fun a ha c hc e => ?_⟩
    rcases s2 a ha with ha | ha
    · exact q3 a ha c hc e
    · exact q3 a (hb a (p2' a ha)).1 c hc e
  · intro y hy
    rw [List.mem_append] at hy
    rcases hy with hy | hy
    · rcases s2 y hy with hy | hy
      · exact h3 y (by simp [hy])
      · exact h3 y (by simp [(hb y (p2' y hy)).1])
    · exact h3 y (by simp [hy])
/-- the result's variable takes the frames -/
theorem fr_ret {w wr : World} {C lo : Nat} {T : TypeId} {f : GFrames} {a b z0 z1 : Value} (hw : w.heap.size ≤ C) (hb : Below w.heap.size w wr) (ho : Owned wr lo (eFrames f) [a, b]) (hl : C < lo) (hx : wr.heap[C]? = some (.cells #[z0, z1] T (0, 0))) :
    wr.cell? ⟨C, 0, none⟩ = some z0 ∧ wr.frozen? ⟨C, 0, none⟩ = false ∧ (wr.setCell ⟨C, 0, none⟩ a).cell? ⟨C, 1, none⟩ = some z1 ∧ (wr.setCell ⟨C, 0, none⟩ a).frozen? ⟨C, 1, none⟩ = false ∧
      Hid (((wr.setCell ⟨C, 0, none⟩ a).setCell ⟨C, 1, none⟩ b).heap[C]? = some (.cells #[a, b] T (0, 0))) ∧ Hid (Owned ((wr.setCell ⟨C, 0, none⟩ a).setCell ⟨C, 1, none⟩ b) w.heap.size (eFrames f) [a, b]) ∧ Hid (Below w.heap.size w ((wr.setCell ⟨C, 0, none⟩ a).setCell ⟨C, 1, none⟩ b)) := by
  have h1 := block_set hx 0 a
  have h2 := block_set h1 1 b
  exact ⟨cell_of_block hx 0, free_of_block hx 0, cell_of_block h1 1, free_of_block h1 1, Lib.hid h2, Lib.hid (((ho.setCell (p := ⟨C, 0, none⟩) hl a).setCell (p := ⟨C, 1, none⟩) hl b).mono (by omega)), Lib.hid ((hb.setCell (p := ⟨C, 0, none⟩) hw a).setCell (p := ⟨C, 1, none⟩) hw b)⟩
theorem freeAt_lt : ∀ (k : Nat) (l : List Bool), 0 ≤ freeAt k l → freeAt k l < (k : Int) + l.length
  | k, [], h => by simp [freeAt] at h
  | k, u :: l, h => by
    unfold freeAt at h ⊢
    rw [List.length_cons]
    cases u with
    | true => have := freeAt_lt (k + 1) l h; simp only [if_true] at this ⊢; omega
    | false => simp only [Bool.false_eq_true, if_false]; omega
end Tr
end Go.Proofs.YtkmkpjpopobdbaaDoor

/- Two rows that grow side by side: rows of numbers, and bools. No program. -/
import Derived.Test.YtkmkpjpopobdbaaDoorEnc
import Derived.Test.YtkmkpjpopobdbaaDoorTreeIn
namespace Go.Proofs.YtkmkpjpopobdbaaDoor
open Go.RowKit
set_option linter.unusedVariables false
namespace Tr
def NwX (Ti Tb : Nat) (E : List Int → D) (l : List (List Int)) (m : List Bool) (M i j : Nat) (u v : Value) (wr : World) (xs : List Value) : Prop :=
  ∃ bsE, wr.ownsRow M Ti 1 u i xs ∧ Own wr (D.cat ((l.take i).map E)) xs bsE ∧ bsE.Nodup ∧ (∀ b ∈ bsE, M ≤ b ∧ u.ownBlock ≠ some b) ∧ (∀ b ∈ bsE, v.ownBlock ≠ some b) ∧ wr.ownsRow M Tb 1 v j ((m.take j).map Value.bool) ∧ ∀ k, u.ownBlock = some k → v.ownBlock ≠ some k
def NwRel (Ti Tb : Nat) (E : List Int → D) (l : List (List Int)) (m : List Bool) (M i j : Nat) (u v : Value) (wr : World) : Prop := ∃ xs, NwX Ti Tb E l m M i j u v wr xs
theorem NwX.rowu {Ti Tb : Nat} {E : List Int → D} {l : List (List Int)} {m : List Bool} {M i j : Nat} {u v : Value} {wr : World} {xs : List Value} (h : NwX Ti Tb E l m M i j u v wr xs) : wr.ownsRow M Ti 1 u i xs := by
  obtain ⟨bsE, h1, _⟩ := h
  exact h1
theorem nw_zero (Ti Tb : Nat) (E : List Int → D) (l : List (List Int)) (m : List Bool) (M : Nat) (wr : World) : NwRel Ti Tb E l m M 0 0 (.slice none 0 0) (.slice none 0 0) wr :=
  ⟨[], [], World.ownsRow_nil _ _ _ _, ⟨rfl, rfl⟩, by simp, by simp, by simp, World.ownsRow_nil _ _ _ _, by simp [Value.ownBlock]⟩
theorem nw_slices {Ti Tb : Nat} {E : List Int → D} {l : List (List Int)} {m : List Bool} {M i j : Nat} {u v : Value} {wr : World} (h : NwRel Ti Tb E l m M i j u v wr) : (∃ a c, u = .slice a i c) ∧ ∃ a c, v = .slice a j c := by
  obtain ⟨xs, bsE, h1, _, _, _, _, h6, _⟩ := h
  constructor
  · rcases h1.2 with ⟨rfl, rfl⟩ | ⟨g, cap, cur, rfl, _⟩
    · exact ⟨_, _, rfl⟩
    · exact ⟨_, _, rfl⟩
  · rcases h6.2 with ⟨rfl, hj⟩ | ⟨g, cap, cur, rfl, _⟩
    · subst hj; exact ⟨_, _, rfl⟩
    · exact ⟨_, _, rfl⟩
theorem nw_rowu {Ti Tb : Nat} {E : List Int → D} {l : List (List Int)} {m : List Bool} {M i j : Nat} {u v : Value} {wr : World} (h : NwRel Ti Tb E l m M i j u v wr) : ∃ xs, wr.ownsRow M Ti 1 u i xs := by
  obtain ⟨xs, bsE, h1, _⟩ := h
  exact ⟨xs, h1⟩
theorem nw_rowv {Ti Tb : Nat} {E : List Int → D} {l : List (List Int)} {m : List Bool} {M i j : Nat} {u v : Value} {wr : World} (h : NwRel Ti Tb E l m M i j u v wr) : wr.ownsRow M Tb 1 v j ((m.take j).map Value.bool) := by
  obtain ⟨xs, bsE, _, _, _, _, _, h6, _⟩ := h
  exact h6
theorem nw_cells {Ti Tb M i j H : Nat} {E : List Int → D} {l : List (List Int)} {m : List Bool} {u v v' : Value} {wr w5 w6 : World} {g cap : Nat} {r : List Int} {o : Obj} {xs : List Value} (h : NwX Ti Tb E l m M i j u v wr xs) (hr : l[i]? = some r) (hb5 : Below wr.heap.size wr w5) (hM : M ≤ wr.heap.size) (hE : Owned w5 wr.heap.size (E r) [v']) (hH : (w5.alloc o).heap.size ≤ H)
    (ho : w6.ownsRow M Ti 1 (.slice (some ⟨g, 0, none⟩) (i + 1) cap) (i + 1) (xs ++ [v'])) (hg : (w5.alloc o).grownBy w6 u.ownBlock) (hlie : u.ownBlock = some g ∨ g = H) : NwRel Ti Tb E l m M (i + 1) j (.slice (some ⟨g, 0, none⟩) (i + 1) cap) v w6 := by
  obtain ⟨bsE, h1, h2, h3, h4, h5, h6, h7⟩ := h
  obtain ⟨bx, e1, e2, e3⟩ := hE
  have hs5 := hb5.size
  have hsz : (w5.alloc o).heap.size = w5.heap.size + 1 := by simp
  have G : ∀ b, b < w5.heap.size → u.ownBlock ≠ some b → w6.heap[b]? = w5.heap[b]? := fun b hb hne => (hg.block b (by omega) (fun e => hne e.symm)).trans (((Below.refl w5.heap.size w5).alloc (Nat.le_refl _) o).block b hb)
  have F : ∀ b, b < wr.heap.size → u.ownBlock ≠ some b → w6.heap[b]? = wr.heap[b]? := fun b hb hne => (G b (by omega) hne).trans (hb5.block b hb)
  have hb6 : Below wr.heap.size wr (w5.alloc o) := hb5.alloc hs5 o
  have hug : ∀ k, (Value.slice (some ⟨g, 0, none⟩) (i + 1) cap).ownBlock = some k → g = k := fun k e => by simpa [Value.ownBlock] using e
  have hbx : ∀ b ∈ bx, u.ownBlock ≠ some b ∧ v.ownBlock ≠ some b := fun b hb => ⟨fun e => by have := (h1.lt b e).2; have := e3 b hb; omega, fun e => by have := (h6.lt b e).2; have := e3 b hb; omega⟩
  refine ⟨xs ++ [v'], bsE ++ bx, ho, ?_, ?_, ?_, ?_, ?_, ?_⟩
  · rw [List.take_add_one, hr, List.map_append, D.cat_append]
    refine (own_app _ _).2 ⟨xs, [v'], bsE, bx, rfl, rfl, own_same _ h2 (fun b hb => F b (own_lt _ h2 b hb) (h4 b hb).2), ?_⟩
    show Own w6 ((E r).app .nil) _ _
    rw [D.app_nil]
    exact own_same _ e1 (fun b hb => G b (own_lt _ e1 b hb) (hbx b hb).1)
  · rw [List.nodup_append]
    exact ⟨h3, e2, fun a ha c hc e => by have := own_lt _ h2 a ha; have := e3 c hc; omega⟩
  · intro b hb
    rw [List.mem_append] at hb
    have hbM : M ≤ b := by
      rcases hb with hb | hb
      · exact (h4 b hb).1
      · have := e3 b hb; omega
    refine ⟨hbM, fun e => ?_⟩
    have e' := hug b e
    rcases hlie with hl | hl
    · rcases hb with hb | hb
      · exact (h4 b hb).2 (by rw [hl, e'])
      · exact (hbx b hb).1 (by rw [hl, e'])
    · rcases hb with hb | hb
      · have := own_lt _ h2 b hb; omega
      · have := own_lt _ e1 b hb; omega
  · intro b hb
    rw [List.mem_append] at hb
    rcases hb with hb | hb
    · exact h5 b hb
    · exact (hbx b hb).2
  · have k1 : (w5.alloc o).ownsRow M Tb 1 v j ((m.take j).map Value.bool) := h6.kept (row := none) ⟨hb6.os, hb6.tape, hb6.output, hb6.size, fun k hk _ => hb6.block k hk⟩ (by cases hv : v.ownBlock <;> simp)
    refine k1.kept (row := u.ownBlock) hg ?_
    cases hv : v.ownBlock with
    | none => exact .inl rfl
    | some k => exact .inr (fun e => h7 k e.symm hv)
  · intro k e hv
    have e' := hug k e
    rcases hlie with hl | hl
    · exact h7 k (by rw [hl, e']) hv
    · have := (h6.lt k hv).2; omega
theorem nw_used {Ti Tb M i j H : Nat} {E : List Int → D} {l : List (List Int)} {m : List Bool} {u v : Value} {wr wX w6 : World} {g cap : Nat} {x : Bool} (h : NwRel Ti Tb E l m M i j u v wr) (hm : m[j]? = some x) (hb : Below wr.heap.size wr wX) (hH : wX.heap.size ≤ H)
    (ho : w6.ownsRow M Tb 1 (.slice (some ⟨g, 0, none⟩) (j + 1) cap) (j + 1) ((m.take j).map Value.bool ++ [.bool x])) (hg : wX.grownBy w6 v.ownBlock) (hlie : v.ownBlock = some g ∨ g = H) : NwRel Ti Tb E l m M i (j + 1) u (.slice (some ⟨g, 0, none⟩) (j + 1) cap) w6 := by
  obtain ⟨xs, bsE, h1, h2, h3, h4, h5, h6, h7⟩ := h
  have hsX := hb.size
  have F : ∀ b, b < wr.heap.size → v.ownBlock ≠ some b → w6.heap[b]? = wr.heap[b]? := fun b hb' hne => (hg.block b (by omega) (fun e => hne e.symm)).trans (hb.block b hb')
  have hug : ∀ k, (Value.slice (some ⟨g, 0, none⟩) (j + 1) cap).ownBlock = some k → g = k := fun k e => by simpa [Value.ownBlock] using e
  refine ⟨xs, bsE, ?_, own_same _ h2 (fun b hb' => F b (own_lt _ h2 b hb') (h5 b hb')), h3, h4, ?_, ?_, ?_⟩
  · have k1 : wX.ownsRow M Ti 1 u i xs := h1.kept (row := none) ⟨hb.os, hb.tape, hb.output, hb.size, fun k hk _ => hb.block k hk⟩ (by cases hv : u.ownBlock <;> simp)
    refine k1.kept (row := v.ownBlock) hg ?_
    cases hu : u.ownBlock with
    | none => exact .inl rfl
    | some k => exact .inr (fun e => h7 k hu e.symm)
  · intro b hb' e
    have e' := hug b e
    rcases hlie with hl | hl
    · exact h5 b hb' (by rw [hl, e'])
    · have := own_lt _ h2 b hb'; omega
  · rw [List.take_add_one, hm, List.map_append]; exact ho
  · intro k hu e
    have e' := hug k e
    rcases hlie with hl | hl
    · exact h7 k hu (by rw [hl, e'])
    · have := (h1.lt k hu).2; omega
theorem nw_set {Ti Tb : Nat} {E : List Int → D} {l : List (List Int)} {m : List Bool} {M i j : Nat} {u v : Value} {wr : World} (h : NwRel Ti Tb E l m M i j u v wr) {p : Addr} (hp : p.block < M) (x : Value) : NwRel Ti Tb E l m M i j u v (wr.setCell p x) := by
  obtain ⟨xs, bsE, h1, h2, h3, h4, h5, h6, h7⟩ := h
  exact ⟨xs, bsE, ownsRow_setCell_below h1 hp x, own_same _ h2 (fun b hb => Below.heap_setCell _ _ _ _ (by have := (h4 b hb).1; omega)), h3, h4, h5, ownsRow_setCell_below h6 hp x, h7⟩
theorem nw_end {Ti Tb : Nat} {E : List Int → D} (hE : ∀ x, (E x).len = 1) {l : List (List Int)} {m : List Bool} {M i j : Nat} {u v : Value} {wr : World} (h : NwRel Ti Tb E l m M i j u v wr) (hi : i = l.length) (hj : j = m.length) : Owned wr M ((rowD Ti 1 E l).app (rowD Tb 1 eB m)) [u, v] := by
  obtain ⟨xs, bsE, h1, h2, h3, h4, h5, h6, h7⟩ := h
  subst hi; subst hj
  rw [List.take_length] at h2 h6
  obtain ⟨bs, g1, g2, g3⟩ := own_of_row (l := l.map E) h1 (by rw [List.length_map]) (len_map hE) h2
  obtain ⟨bs2, k1, k2, k3⟩ := own_of_row (l := m.map eB) h6 (by rw [List.length_map]) (len_map (E := eB) (k := 1) (fun _ => rfl)) (own_bools wr m)
  refine ⟨(bs ++ bsE) ++ (bs2 ++ []), (own_app _ _).2 ⟨[u], [v], _, _, rfl, rfl, g1, k1⟩, ?_, fun b hb => ?_⟩
  · rw [List.append_nil, List.nodup_append, List.nodup_append]
    refine ⟨⟨g2, h3, fun a ha c hc e => (h4 c hc).2 (by rw [← e]; exact (g3 a ha).2)⟩, k2, fun a ha c hc e => ?_⟩
    rw [List.mem_append] at ha
    rcases ha with ha | ha
    · exact h7 a (g3 a ha).2 (by rw [e]; exact (k3 c hc).2)
    · exact h5 a ha (by rw [e]; exact (k3 c hc).2)
  · rw [List.append_nil, List.mem_append, List.mem_append] at hb
    rcases hb with (hb | hb) | hb
    · exact (g3 b hb).1
    · exact (h4 b hb).1
    · exact (k3 b hb).1
end Tr
end Go.Proofs.YtkmkpjpopobdbaaDoor

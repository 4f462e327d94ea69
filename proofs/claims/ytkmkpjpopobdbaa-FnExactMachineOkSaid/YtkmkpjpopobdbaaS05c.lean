/- Physical frames: the specification's copy of frames. -/
import Derived.Test.YtkmkpjpopobdbaaS05b
import Derived.Deep.AppendLies
import Derived.Deep.RegionHeld3
import Derived.Deep.RegionLaw
namespace Go.Proofs.Ytkmkpjpopobdbaa
open Go.RowKit
set_option linter.unusedVariables false
namespace Tr
theorem infoIS : (Try.prog.info? 58).map (fun i => (i.zero, i.size, i.bytes)) = some (some (.slice none 0 0), 1, 24) := by kernel_rfl
theorem infoII : (Try.prog.info? 3).map (fun i => (i.zero, i.size, i.bytes)) = some (some (.int .i64 0), 1, 8) := by kernel_rfl
theorem infoBB : (Try.prog.info? 4).map (fun i => (i.zero, i.size, i.bytes)) = some (some (.bool false), 1, 1) := by kernel_rfl
theorem sizeF : (Try.prog.info? 25).map (·.size) = some 2 := by kernel_rfl
theorem row_slice {w : World} {base : Nat} {e : TypeId} {size : Nat} {v : Value} {n : Nat} {xs : List Value} (h : w.ownsRow base e size v n xs) : ∃ a c, v = .slice a n c := by
  rcases h.2 with ⟨rfl, rfl⟩ | ⟨g, cap, cur, rfl, _⟩
  · exact ⟨_, _, rfl⟩
  · exact ⟨_, _, rfl⟩
/-- rows copied so far: the outer row, its elements' own blocks -/
def CpRel (Ti : Nat) (E : List Int → D) (l : List (List Int)) (M i : Nat) (u : Value) (wr : World) : Prop :=
  ∃ xs bsE, wr.ownsRow M Ti 1 u i xs ∧ Own wr (D.cat ((l.take i).map E)) xs bsE ∧ bsE.Nodup ∧ ∀ b ∈ bsE, M ≤ b ∧ u.ownBlock ≠ some b
theorem row_below {w w' : World} {base : Nat} {e : TypeId} {size : Nat} {v : Value} {n : Nat} {xs : List Value} (h : w.ownsRow base e size v n xs) (hb : Below w.heap.size w w') : w'.ownsRow base e size v n xs :=
  h.kept (row := none) ⟨hb.os, hb.tape, hb.output, hb.size, fun k hk _ => hb.block k hk⟩ (by cases hv : v.ownBlock <;> simp)
theorem cp_zero (Ti : Nat) (E : List Int → D) (l : List (List Int)) (M : Nat) (wr : World) : CpRel Ti E l M 0 (.slice none 0 0) wr := ⟨[], [], World.ownsRow_nil _ _ _ _, ⟨rfl, rfl⟩, by simp, by simp⟩
theorem cp_kept {Ti : Nat} {E : List Int → D} {l : List (List Int)} {M i : Nat} {u : Value} {wr w' : World} (h : CpRel Ti E l M i u wr) (hb : Below wr.heap.size wr w') : CpRel Ti E l M i u w' := by
  obtain ⟨xs, bsE, h1, h2, h3⟩ := h
  exact ⟨xs, bsE, h1.kept (row := none) ⟨hb.os, hb.tape, hb.output, hb.size, fun k hk _ => hb.block k hk⟩ (by cases hv : u.ownBlock <;> simp), own_below h2 hb (own_lt _ h2), h3⟩
theorem cp_step {Ti : Nat} {E : List Int → D} {l : List (List Int)} {M i H : Nat} {u v' : Value} {wr w' : World} {xs : List Value} {bsE bx : List Nat} {g cap : Nat} {r : List Int} (hr : l[i]? = some r)
    (h2 : Own wr (D.cat ((l.take i).map E)) xs bsE) (h3 : bsE.Nodup) (h4 : ∀ b ∈ bsE, M ≤ b ∧ u.ownBlock ≠ some b) (hE : Own wr (E r) [v'] bx) (hx : bx.Nodup) (hxl : ∀ b ∈ bx, M ≤ b ∧ u.ownBlock ≠ some b) (hd : ∀ b ∈ bsE, b ∉ bx) (hH : wr.heap.size ≤ H)
    (ho : w'.ownsRow M Ti 1 (.slice (some ⟨g, 0, none⟩) (i + 1) cap) (i + 1) (xs ++ [v'])) (hg : wr.grownBy w' u.ownBlock) (hlie : u.ownBlock = some g ∨ g = H) : CpRel Ti E l M (i + 1) (.slice (some ⟨g, 0, none⟩) (i + 1) cap) w' := by
  have hs : ∀ b, b < wr.heap.size → u.ownBlock ≠ some b → w'.heap[b]? = wr.heap[b]? := fun b hb hne => hg.block b hb (fun e => hne e.symm)
  have k1 := own_same (w' := w') _ h2 (fun b hb => hs b (own_lt _ h2 b hb) (h4 b hb).2)
  have k2 := own_same (w' := w') _ hE (fun b hb => hs b (own_lt _ hE b hb) (hxl b hb).2)
  have hne : ∀ b, b < wr.heap.size → u.ownBlock ≠ some b → (Value.slice (some ⟨g, 0, none⟩) (i + 1) cap).ownBlock ≠ some b := by
    intro b hb hu e
    have e' : g = b := by simpa [Value.ownBlock] using e
    rcases hlie with h | h
    · exact hu (by rw [h, e'])
    · omega
  refine ⟨xs ++ [v'], bsE ++ bx, ho, ?_, ?_, ?_⟩
  · rw [List.take_add_one, hr, List.map_append, D.cat_append]
    refine (own_app _ _).2 ⟨xs, [v'], bsE, bx, rfl, rfl, k1, ?_⟩
    show Own w' ((E r).app .nil) _ _
    rw [D.app_nil]; exact k2
  · rw [List.nodup_append]
    exact ⟨h3, hx, fun a ha c hc e => hd a ha (by rw [e]; exact hc)⟩
  · intro b hb
    rw [List.mem_append] at hb
    rcases hb with hb | hb
    · exact ⟨(h4 b hb).1, hne b (own_lt _ h2 b hb) (h4 b hb).2⟩
    · exact ⟨(hxl b hb).1, hne b (own_lt _ hE b hb) (hxl b hb).2⟩
theorem cp_set {Ti : Nat} {E : List Int → D} {l : List (List Int)} {M i : Nat} {u : Value} {wr : World} (h : CpRel Ti E l M i u wr) {p : Addr} (hp : p.block < M) (v : Value) : CpRel Ti E l M i u (wr.setCell p v) := by
  obtain ⟨xs, bsE, h1, h2, h3, h4⟩ := h
  exact ⟨xs, bsE, ownsRow_setCell_below h1 hp v, own_same _ h2 (fun b hb => Below.heap_setCell _ _ _ _ (by have := (h4 b hb).1; omega)), h3, h4⟩
theorem cp_next {Ti : Nat} {E : List Int → D} {l : List (List Int)} {M i H : Nat} {u v' : Value} {wr w5 w6 : World} {xs : List Value} {bsE : List Nat} {g cap : Nat} {r : List Int} {o : Obj} (hr : l[i]? = some r) (hrow : wr.ownsRow M Ti 1 u i xs)
    (h2 : Own wr (D.cat ((l.take i).map E)) xs bsE) (h3 : bsE.Nodup) (h4 : ∀ b ∈ bsE, M ≤ b ∧ u.ownBlock ≠ some b) (hb5 : Below wr.heap.size wr w5) (hM : M ≤ wr.heap.size) (hE : Owned w5 wr.heap.size (E r) [v']) (hH : (w5.alloc o).heap.size ≤ H)
    (ho : w6.ownsRow M Ti 1 (.slice (some ⟨g, 0, none⟩) (i + 1) cap) (i + 1) (xs ++ [v'])) (hg : (w5.alloc o).grownBy w6 u.ownBlock) (hlie : u.ownBlock = some g ∨ g = H) : CpRel Ti E l M (i + 1) (.slice (some ⟨g, 0, none⟩) (i + 1) cap) w6 := by
  obtain ⟨bx, k1, k2, k3⟩ := hE
  refine cp_step (H := H) hr (own_alloc (own_below h2 hb5 (own_lt _ h2)) o) h3 h4 (own_alloc k1 o) k2 (fun b hb => ⟨Nat.le_trans hM (k3 b hb), fun e => ?_⟩) (fun b hb hx => ?_) hH ho hg hlie
  · have h1 := (hrow.lt b e).2
    have := k3 b hb
    omega
  · have h1 := own_lt _ h2 b hb
    have := k3 b hx
    omega
theorem cp_end {Ti : Nat} {E : List Int → D} (hE : ∀ x, (E x).len = 1) {l : List (List Int)} {M i : Nat} {u : Value} {wr : World} (h : CpRel Ti E l M i u wr) (hi : i = l.length) : Owned wr M (rowD Ti 1 E l) [u] := by
  obtain ⟨xs, bsE, h1, h2, h3, h4⟩ := h
  subst hi
  rw [List.take_length] at h2
  obtain ⟨bs, g1, g2, g3⟩ := own_of_row (l := l.map E) h1 (by rw [List.length_map]) (len_map hE) h2
  refine ⟨bs ++ bsE, g1, ?_, fun b hb => ?_⟩
  · rw [List.nodup_append]
    exact ⟨g2, h3, fun a ha c hc e => (h4 c hc).2 (by rw [← e]; exact (g3 a ha).2)⟩
  · rw [List.mem_append] at hb
    rcases hb with hb | hb
    · exact (g3 b hb).1
    · exact (h4 b hb).1
end Tr
end Go.Proofs.Ytkmkpjpopobdbaa

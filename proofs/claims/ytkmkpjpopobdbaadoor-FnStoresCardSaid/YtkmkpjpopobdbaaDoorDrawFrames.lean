/- The drawn frames (spec.l05Case). -/
import Derived.Test.YtkmkpjpopobdbaaDoorS05n
import Derived.Test.YtkmkpjpopobdbaaDoorM05b
import Derived.Test.YtkmkpjpopobdbaaDoorDraw
import Derived.Deep.RegionHeld3
namespace Go.Proofs.YtkmkpjpopobdbaaDoor
open Go.RowKit
set_option linter.unusedVariables false
namespace Tr
theorem owned_step {w w' : World} {k : Nat} {a : Option Addr} {len cap : Nat} {zs : List Int} {B : Nat} {d : D} {vs : List Value} (h : Owned w B d vs) (s : Dr.Step w w' k a len cap zs) (hk : k < B) : Owned w' B d vs := by
  obtain ⟨bs, h1, h2, h3⟩ := h
  exact ⟨bs, own_same _ h1 (fun b hb => s.grown.block b (own_lt _ h1 b hb) (fun e => by have := h3 b hb; have := Option.some.inj e; omega)), h2, h3⟩
theorem block_step {w w' : World} {k : Nat} {a : Option Addr} {len cap : Nat} {zs : List Int} {b : Nat} {o : Obj} (h : w.heap[b]? = some o) (s : Dr.Step w w' k a len cap zs) (hk : b ≠ k) : w'.heap[b]? = some o :=
  (s.grown.block b (lt_of_block h) (fun e => hk (Option.some.inj e))).trans h
theorem step_set {w w' : World} {k : Nat} {a : Option Addr} {len cap : Nat} {zs : List Int} (s : Dr.Step w w' k a len cap zs) {p : Addr} (hp : w.heap.size ≤ p.block) (hk : k < w.heap.size) (v : Value) : Dr.Step w (w'.setCell p v) k a len cap zs := by
  have hb : Below w.heap.size w' (w'.setCell p v) := (Below.refl _ _).setCell hp v
  refine ⟨⟨hb.os.trans s.grown.os, hb.tape.trans s.grown.tape, hb.output.trans s.grown.output, Nat.le_trans s.grown.size hb.size, fun i hi hr => (hb.block i hi).trans (s.grown.block i hi hr)⟩, s.src.of_block (fun j hj => hb.block j (by omega))⟩
theorem step_below {w w1 w2 : World} {k : Nat} {a : Option Addr} {len cap : Nat} {zs : List Int} (s : Dr.Step w w1 k a len cap zs) (hb : Below w1.heap.size w1 w2) (hk : k < w.heap.size) : Dr.Step w w2 k a len cap zs := by
  have hs := s.grown.size
  refine ⟨⟨hb.os.trans s.grown.os, hb.tape.trans s.grown.tape, hb.output.trans s.grown.output, Nat.le_trans hs hb.size, fun i hi hr => (hb.block i (by omega)).trans (s.grown.block i hi hr)⟩, s.src.of_block (fun j hj => hb.block j (by omega))⟩
def CaseP (w : World) (k : Nat) (a : Option Addr) (len cap : Nat) (zs : List Int) (e : Ending) (w' : World) : Prop :=
  ∃ f us, okF f ∧ e = .returned (.agg us.toArray) ∧ Owned w' w.heap.size (eFrames f) us ∧ Dr.Step w w' k a len cap zs
theorem stays_step {w w1 w2 : World} {k : Nat} {a : Option Addr} {len cap : Nat} {zs : List Int} (h : Below w.heap.size w w1) (s : Dr.Step w1 w2 k a len cap zs) (hk : w.heap.size ≤ k) : Below w.heap.size w w2 :=
  h.grown s.grown h.size (fun j hj => by cases hj; exact hk)
/-- valid frames, in memory of the call's own -/
def FramesP (w : World) (e : Ending) (w' : World) : Prop := ∃ f us, okF f ∧ e = .returned (.agg us.toArray) ∧ Owned w' w.heap.size (eFrames f) us ∧ Below w.heap.size w w'
end Tr
end Go.Proofs.YtkmkpjpopobdbaaDoor

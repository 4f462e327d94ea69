/- Chapters 2 to 4: the program's functions, for the symbolic run; its tables of masks and sizes. -/
import Derived.Test.YtmeahaaibncmmaaDoorESt
import Derived.Test.YtmeahaaibncmmaaDoorBitsTab
import Derived.Test.YtmeahaaibncmmaaDoorClassImpl
import Derived.Test.YtmeahaaibncmmaaDoorSeedsImpl
namespace Go.Proofs.YtmeahaaibncmmaaDoor
open Go.RowKit
set_option linter.unusedVariables false
set_option linter.unusedSimpArgs false
set_option maxRecDepth 100000
namespace Eng
open Tr
/-- the tables: masks, sizes; y, z: how their blocks are laid -/
structure Tb where
  ty : Nat
  fy : Nat × Nat
  tz : Nat
  fz : Nat × Nat
def Tb.gM (b : Tb) : Glb := ⟨0, Bm.masks.map (Value.int .i64), b.ty, b.fy⟩
def Tb.gS (b : Tb) : Glb := ⟨1, Cl.sizes.map (Value.int .i64), b.tz, b.fz⟩
def Tb.both (b : Tb) : List Glb := [b.gM, b.gS]
theorem masks_of {w : World} {t : Nat} {fz : Nat × Nat} (h : w.heap[0]? = some (.cells (Bm.masks.map (Value.int .i64)).toArray t fz)) : Bm.Masks w := var_of Bm.gMasks h
theorem sizes_of {w : World} {t : Nat} {fz : Nat × Nat} (h : w.heap[1]? = some (.cells (Cl.sizes.map (Value.int .i64)).toArray t fz)) : Cl.Sizes w := var_of Cl.gSizes h
theorem Tb.hM {b : Tb} {w : World} {l : List Glb} (hl : b.gM ∈ l) (h : ∀ x ∈ l, w.heap[x.g]? = some (.cells x.cs.toArray x.T x.fz)) : Bm.Masks w := masks_of (h _ hl)
theorem Tb.hS {b : Tb} {w : World} {l : List Glb} (hl : b.gS ∈ l) (h : ∀ x ∈ l, w.heap[x.g]? = some (.cells x.cs.toArray x.T x.fz)) : Cl.Sizes w := sizes_of (h _ hl)
theorem lt_heap {w : World} {g : Nat} {x : Obj} (h : w.heap[g]? = some x) : g < w.heap.size := by
  rcases Nat.lt_or_ge g w.heap.size with h' | h'
  · exact h'
  · simp [Array.getElem?_eq_none h'] at h
theorem tb_masks {w : World} (h : Bm.Masks w) : ∃ (t : Nat) (f : Nat × Nat), GlX (cxOf w) ⟨0, Bm.masks.map (Value.int .i64), t, f⟩ := by
  obtain ⟨t, f, e⟩ := of_var Bm.gMasks h
  exact ⟨t, f, e, lt_heap e⟩
theorem tb_sizes {w : World} (h : Cl.Sizes w) : ∃ (t : Nat) (f : Nat × Nat), GlX (cxOf w) ⟨1, Cl.sizes.map (Value.int .i64), t, f⟩ := by
  obtain ⟨t, f, e⟩ := of_var Cl.gSizes h
  exact ⟨t, f, e, lt_heap e⟩
theorem tb_both {w : World} (h1 : Bm.Masks w) (h2 : Cl.Sizes w) : ∃ b : Tb, GlAll (GlX (cxOf w)) b.both := by
  obtain ⟨t, f, e⟩ := tb_masks h1
  obtain ⟨t', f', e'⟩ := tb_sizes h2
  exact ⟨⟨t, f, t', f'⟩, e, e', trivial⟩
theorem tb_one {w : World} (h2 : Cl.Sizes w) : ∃ b : Tb, GlAll (GlX (cxOf w)) [b.gS] := by
  obtain ⟨t', f', e'⟩ := tb_sizes h2
  exact ⟨⟨0, (0, 0), t', f'⟩, e', trivial⟩
def c_BmOkI (n b : Int) : CFD := ⟨49, [(SV.one (.lit (.int .i64 (n)))), (SV.one (.lit (.int .i64 (b))))], [], (TV.sv (.one (.lit (.bool (Bm.isMap n b))))), [], [], []⟩
theorem fn_BmOkI (n b : Int) : Fn Tryd.prog (c_BmOkI n b) := fn_boolP (vs := [.int .i64 n, .int .i64 b]) (fun w _ => Bm.implOk n b w) Tryd.call49
def c_HasI (t : Tb) (b i : Int) : CFD := ⟨39, [(SV.one (.lit (.int .i64 (b)))), (SV.one (.lit (.int .i64 (i))))], [], (TV.sv (.one (.lit (.bool (Bm.has b i))))), [], [], [t.gM]⟩
theorem fn_HasI (t : Tb) (b i : Int) (hb : b ≤ 9223372036854775807) : Fn Tryd.prog (c_HasI t b i) := fn_boolP (vs := [.int .i64 b, .int .i64 i]) (fun w h => Bm.implHas b i w hb (Tb.hM (List.mem_singleton.2 rfl) h)) Tryd.call39
def c_SlotsI (t : Tb) (k : Int) : CFD := ⟨50, [(SV.one (.lit (.int .i64 (k))))], [], (TV.sv (.one (.lit (.int .i64 (Cl.slots k))))), [], [], [t.gS]⟩
theorem fn_SlotsI (t : Tb) (k : Int) : Fn Tryd.prog (c_SlotsI t k) := fn_numP (vs := [.int .i64 k]) (fun w h => Cl.implSlotsOf k w (Tb.hS (List.mem_singleton.2 rfl) h)) Tryd.call50
def c_CszI (t : Tb) (k : Int) : CFD := ⟨57, [(SV.one (.lit (.int .i64 (k))))], [], (TV.sv (.one (.lit (.int .i64 (Cl.csz k))))), [], [], [t.gS]⟩
theorem fn_CszI (t : Tb) (k : Int) : Fn Tryd.prog (c_CszI t k) := fn_numP (vs := [.int .i64 k]) (fun w h => Cl.implClassSize k w (Tb.hS (List.mem_singleton.2 rfl) h)) Tryd.call57
end Eng
end Go.Proofs.YtmeahaaibncmmaaDoor

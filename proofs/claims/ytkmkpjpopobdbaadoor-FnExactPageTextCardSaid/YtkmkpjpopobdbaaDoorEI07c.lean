/- The machine: what the laws' walks ask of the program's functions, where its sentinels hold what the text lays. -/
import Derived.Test.YtkmkpjpopobdbaaDoorEI07
import Derived.Test.YtkmkpjpopobdbaaDoorLaidS
import Derived.Test.YtkmkpjpopobdbaaDoorS07e
namespace Go.Proofs.YtkmkpjpopobdbaaDoor
open Go.RowKit
set_option linter.unusedVariables false
set_option maxRecDepth 100000
namespace Eng
open Tr
theorem szM_of {m : GMachine} (hs : (eMachine m).sz ≤ 1048576) : szM m := by
  obtain ⟨_, h2, h3, h4⟩ := sz_machine hs
  refine ⟨sz_len (T := 34) (k := 1) (E := eIntS) h3, sz_len (T := 4) (k := 1) (E := Tr.eB) h4, fun r hr => ?_, by have := sz_Table_len m.Table; omega⟩
  obtain ⟨i, hi⟩ := List.getElem?_of_mem hr
  have := sz_elem (T := 34) (k := 1) (E := eIntS) (l := m.Frames.Cells) (n := 1048576) h3 hi
  rwa [sz_ints] at this
theorem args_Machine {w : World} {m : GMachine} {c0 c1 c2 : Value} (h : Rd w (eMachine m) [c0, c1, c2]) : SRel (cxOf w) noEnv (.agg [ro 34 1 eIntS m.Frames.Cells, ro 4 1 Tr.eB m.Frames.Used, ro 39 2 eEntry m.Table.Entries]) (.agg #[c0, c1, c2]) := arg_agg h (by rw [← ro_eq, ← ro_eq, ← ro_eq]; rfl) trivial
theorem gl_at {w : World} {g : Nat} {cs : List Value} {T : Nat} (h : w.heap[g]? = some (.cells cs.toArray T (0, 0))) : GlX (cxOf w) ⟨g, cs, T⟩ := ⟨h, LaidS.lt_of h⟩
theorem gl_arr {w : World} {g : Nat} {c : Array Value} {T : Nat} (h : w.heap[g]? = some (.cells c T (0, 0))) : GlX (cxOf w) ⟨g, c.toList, T⟩ := gl_at (by rw [Array.toArray_toList]; exact h)
theorem se1 {w : World} (h : LaidS.At 133 [2] w) : ∃ (a : Addr) (ty : Nat), GlAll (GlX (cxOf w)) [gP a ty] := by
  obtain ⟨xs, h1, _, h3⟩ := h
  match xs, h1 with
  | [a], _ =>
    obtain ⟨⟨ty, h⟩, _⟩ := h3 0 _ a rfl rfl
    exact ⟨a, ty, gl_at h, trivial⟩
theorem se3 {w : World} (h : LaidS.At 133 [2, 0, 1] w) : ∃ s : Se, GlAll (GlX (cxOf w)) s.gl := by
  obtain ⟨xs, h1, h2, h3⟩ := h
  match xs, h1, h2 with
  | [a, b, c], _, h2 =>
    obtain ⟨⟨t1, k1⟩, c1, u1, l1⟩ := h3 0 _ a rfl rfl
    obtain ⟨⟨t2, k2⟩, c2, u2, l2⟩ := h3 1 _ b rfl rfl
    obtain ⟨⟨t3, k3⟩, c3, u3, l3⟩ := h3 2 _ c rfl rfl
    simp only [List.nodup_cons, List.mem_cons, List.not_mem_nil, or_false, not_or] at h2
    exact ⟨⟨a, b, c, c1.toList, c2.toList, c3.toList, u1, u2, u3, t1, t2, t3, h2.1.1, h2.1.2, h2.2.1⟩, gl_at k1, gl_at k2, gl_at k3, gl_arr l1, gl_arr l2, gl_arr l3, trivial⟩
end Eng
namespace Tr
open Eng
theorem impl_MachineOk (m : GMachine) (c0 c1 c2 : Value) (w : World) (h : Rd w (eMachine m) [c0, c1, c2]) (hs : (eMachine m).sz ≤ 1048576) : Calls Tryd.prog 15 #[.agg #[c0, c1, c2]] w (RetP (.bool (pMachineOk m)) w) :=
  ret_p (fn_MOkI m (szM_of hs)) rfl rfl ⟨args_Machine h, trivial⟩
theorem impl_Load (m : GMachine) (c0 c1 c2 : Value) (addr : Int) (w : World) (h : Rd w (eMachine m) [c0, c1, c2]) (hs : (eMachine m).sz ≤ 1048576) (ha : okI addr) (hT : LaidS.At 133 [2, 0, 1] w) :
    Calls Tryd.prog 13 #[.agg #[c0, c1, c2], .int .i64 addr] w (RetP (.tuple #[.int .i64 (pLoad m addr).1, .int .i64 (pLoad m addr).2]) w) := by
  obtain ⟨s, hg⟩ := se3 hT
  exact ret_p (fn_LoadI s m addr (szM_of hs) ha) rfl rfl ⟨args_Machine h, arg_lit rfl, trivial⟩ hg
theorem impl_Store (m : GMachine) (c0 c1 c2 : Value) (addr v : Int) (w : World) (h : Rd w (eMachine m) [c0, c1, c2]) (hs : (eMachine m).sz ≤ 1048576) (ha : okI addr) (hv : okI v) (hT : LaidS.At 133 [2, 0, 1] w) :
    Calls Tryd.prog 11 #[.agg #[c0, c1, c2], .int .i64 addr, .int .i64 v] w (RetM (fun us => .tuple #[.agg us.toArray, .int .i64 (pStore m addr v).2]) (eMachine (pStore m addr v).1) w) := by
  obtain ⟨s, hg⟩ := se3 hT
  exact ret_m (fn_StoreI s m addr v (szM_of hs) ha) rfl (sh_agg_t rfl) rfl ⟨args_Machine h, arg_lit rfl, arg_lit rfl, trivial⟩ hg
theorem impl_PageText (m : GMachine) (c0 c1 c2 : Value) (page : Int) (w : World) (h : Rd w (eMachine m) [c0, c1, c2]) (hs : (eMachine m).sz ≤ 1048576) (hp : okI page) (hT : LaidS.At 133 [2] w) :
    Calls Tryd.prog 16 #[.agg #[c0, c1, c2], .int .i64 page] w (RetM (fun us => us.headD undef) (eIntS (pPageText m page)) w) := by
  obtain ⟨a, ty, hg⟩ := se1 hT
  exact ret_m (fn_PageTextI a ty m page (szM_of hs)) rfl sh_one rfl ⟨args_Machine h, arg_lit rfl, trivial⟩ hg
end Tr
end Go.Proofs.YtkmkpjpopobdbaaDoor

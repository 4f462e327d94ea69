/- errors.Is, at sentinels of errors.New's make. -/
import Derived.Test.YtkmkpjpopobdbaaDoorEH
import Derived.WalkKit
import Derived.LaidEql
import Derived.Stop.Asserts
import Derived.RowKitTokens
namespace Go.Proofs.YtkmkpjpopobdbaaDoor
open Go.RowKit Go.Extern.Stop Go.Stop Go.Extern
set_option linter.unusedVariables false
namespace Is
theorem typeOf (v : Value) (w : World) : (Extern.ReflectliteType.typeOf #[.iface 133 v]).run Tryd.prog w = .ok (.iface 123 (.agg #[.pointer (some ⟨3, 133, none⟩)])) w := by kernel_rfl
theorem comparable (w : World) : (callFunc 113 #[.agg #[.pointer (some ⟨3, 133, none⟩)]]).run Tryd.prog w = .ok (.value (.bool true)) w := by kernel_rfl
theorem methodComparable (v : Value) (w : World) : (Go.method 271 123 v "Comparable").run Tryd.prog w = .ok (113, v) w := by kernel_rfl
theorem comp : (Tryd.prog.info? 133).map (·.comparable) = some true := by kernel_rfl
theorem size : (Tryd.prog.info? 159).map (·.size) = some 1 := by kernel_rfl
theorem noIs (v : Value) (xT : TypeId) (w : World) : (Instr.typeAssert (.iface 133 v) xT 125 true).run Tryd.prog w = .ok (.tuple #[.nilIface, .bool false]) w := run_typeAssert_lacksB Tryd.underlying125 (by kernel_rfl) (by kernel_rfl) v xT w
theorem noUnwrap (v : Value) (xT : TypeId) (w : World) : (Instr.typeAssert (.iface 133 v) xT 128 true).run Tryd.prog w = .ok (.tuple #[.nilIface, .bool false]) w := run_typeAssert_lacksB Tryd.underlying128 (by kernel_rfl) (by kernel_rfl) v xT w
theorem noUnwraps (v : Value) (xT : TypeId) (w : World) : (Instr.typeAssert (.iface 133 v) xT 130 true).run Tryd.prog w = .ok (.tuple #[.nilIface, .bool false]) w := run_typeAssert_lacksB Tryd.underlying130 (by kernel_rfl) (by kernel_rfl) v xT w
theorem same (a : Addr) (w : World) :
    Calls Tryd.prog 60 #[.iface 133 (.pointer (some a)), .iface 133 (.pointer (some a))] w fun e w' => e = .returned (.bool true) ∧ w' = w := by
  obtain ⟨i, hi, hcmp⟩ := Option.map_eq_some_iff.1 comp
  obtain ⟨j, hj, hjs⟩ := Option.map_eq_some_iff.1 size
  have h8 := @run_callFunc_extern Tryd.prog 88 _ Extern.ReflectliteType.typeOf Tryd.func88 (by kernel_rfl) (by kernel_rfl) (by kernel_rfl) (by kernel_rfl)
  have tT := typeOf
  have cT := comparable
  have mR := methodComparable
  have heq := run_eql_iface_ptr_same (P := Tryd.prog) w a Tryd.underlying65 Tryd.underlying133 hi hcmp hj
  go_enter Tryd.func60, Tryd.ntmps60
  go_wp2
  refine wp_loop_rounds 1 ?_
  rw [rounds_succ]
  go_wp2
  go_ret
  exact ⟨rfl, rfl⟩
theorem other (a b : Addr) (ca cb : Array Value) (ta tb : TypeId) (w : World) (hne : a ≠ b) (ha : w.heap[a.block]? = some (.cells ca ta (0, 0))) (hb : w.heap[b.block]? = some (.cells cb tb (0, 0))) :
    Calls Tryd.prog 60 #[.iface 133 (.pointer (some a)), .iface 133 (.pointer (some b))] w fun e w' => e = .returned (.bool false) ∧ w' = w := by
  obtain ⟨i, hi, hcmp⟩ := Option.map_eq_some_iff.1 comp
  obtain ⟨j, hj, hjs⟩ := Option.map_eq_some_iff.1 size
  have h8 := @run_callFunc_extern Tryd.prog 88 _ Extern.ReflectliteType.typeOf Tryd.func88 (by kernel_rfl) (by kernel_rfl) (by kernel_rfl) (by kernel_rfl)
  have tT := typeOf
  have cT := comparable
  have mR := methodComparable
  have nE := noIs
  have uE := noUnwrap
  have vE := noUnwraps
  have heq := run_eql_iface_ptr_other (P := Tryd.prog) w Tryd.underlying65 Tryd.underlying133 hi hcmp hj (by rw [hjs]; decide) hne ha hb
  go_enter Tryd.func60, Tryd.ntmps60
  go_wp2
  refine wp_loop_rounds 1 ?_
  rw [rounds_succ]
  go_wp2
  go_ret
  exact ⟨rfl, rfl⟩
end Is
namespace Eng
open Tr
/-- a call that leaves the world as it is, and whose result is known -/
theorem fn_still {P : Program} {f : Nat} {vs : List Value} {v : Value} {gl : List Glb} (hv : v.oneCell' = true) (h : ∀ w, (∀ x ∈ gl, w.heap[x.g]? = some (.cells x.cs.toArray x.T (0, 0))) → Calls P f vs.toArray w fun e w' => e = .returned v ∧ w' = w) (hc : ∀ args w, (callFunc f args).run P w = .ok (.enter f args) w) :
    Fn P ⟨f, vs.map (fun v => .one (.lit v)), [], .sv (.one (.lit v)), [], [], gl⟩ := by
  refine ⟨fun X ρ xs hgl hM hk hx => ?_, hc⟩
  have key : ∀ {vs xs : List Value}, SsRel X ρ (vs.map (fun v => SV.one (CV.lit v))) xs → xs = vs := by
    intro vs
    induction vs with
    | nil => intro xs h; cases xs with | nil => rfl | cons _ _ => exact h.elim
    | cons v vs ih =>
      intro xs h
      cases xs with
      | nil => exact h.elim
      | cons x xs => obtain ⟨⟨rfl, _⟩, h2⟩ := h; rw [ih h2]
  obtain rfl := key hx
  have hg : ∀ {l : List Glb}, GlAll (GlX X) l → ∀ x ∈ l, X.w0.heap[x.g]? = some (.cells x.cs.toArray x.T (0, 0)) := by
    intro l
    induction l with
    | nil => intro _ x hx; cases hx
    | cons y l ih =>
      intro h x hx
      rw [List.mem_cons] at hx
      rcases hx with rfl | hx
      · exact h.1.1
      · exact ih h.2 x hx
  refine (h X.w0 (hg hgl)).mono ?_
  rintro e w' ⟨rfl, rfl⟩
  exact ⟨v, ρ, rfl, ⟨rfl, hv⟩, Ext.refl ρ, fun q y hq => .inl (hk q y hq), hM, ⟨rfl, rfl, rfl, Nat.le_refl _, fun _ _ => rfl⟩⟩
end Eng
end Go.Proofs.YtkmkpjpopobdbaaDoor

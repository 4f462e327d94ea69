/- A symbolic run: functions whose contracts were walked otherwise. -/
import Derived.Test.YtmeahaaibncmmaaDoorEH
namespace Go.Proofs.YtmeahaaibncmmaaDoor
open Go.RowKit
set_option linter.unusedVariables false
namespace Eng
open Tr
theorem still_args {X : Cx} {ρ : Env} : ∀ {vs xs : List Value}, SsRel X ρ (vs.map (fun v => SV.one (CV.lit v))) xs → xs = vs
  | [], [], _ => rfl
  | [], _ :: _, h => h.elim
  | _ :: _, [], h => h.elim
  | v :: vs, x :: xs, h => by obtain ⟨⟨rfl, _⟩, h2⟩ := h; rw [still_args h2]
theorem still_gl {X : Cx} : ∀ {l : List Glb}, GlAll (GlX X) l → ∀ x ∈ l, X.w0.heap[x.g]? = some (.cells x.cs.toArray x.T x.fz)
  | [], _, x, hx => by cases hx
  | y :: l, h, x, hx => by
    rw [List.mem_cons] at hx
    rcases hx with rfl | hx
    · exact h.1.1
    · exact still_gl h.2 x hx
/-- a call that leaves the world as it is, and whose result is known -/
theorem fn_still {P : Program} {f : Nat} {vs : List Value} {v : Value} {gl : List Glb} (hv : v.oneCell' = true) (h : ∀ w, (∀ x ∈ gl, w.heap[x.g]? = some (.cells x.cs.toArray x.T x.fz)) → Calls P f vs.toArray w fun e w' => e = .returned v ∧ w' = w) (hc : ∀ args w, (callFunc f args).run P w = .ok (.enter f args) w) :
    Fn P ⟨f, vs.map (fun v => .one (.lit v)), [], .sv (.one (.lit v)), [], [], gl⟩ := by
  refine ⟨fun X ρ xs hgl hM hk hx => ?_, hc⟩
  obtain rfl := still_args hx
  refine (h X.w0 (still_gl hgl)).mono ?_
  rintro e w' ⟨rfl, rfl⟩
  exact ⟨v, ρ, rfl, ⟨rfl, hv⟩, Ext.refl ρ, fun q y hq => .inl (hk q y hq), hM, ⟨rfl, rfl, rfl, Nat.le_refl _, fun _ _ => rfl⟩⟩
theorem still_tup {X : Cx} {ρ : Env} : ∀ {vs : List Value}, (∀ v ∈ vs, v.oneCell' = true) → SsRel X ρ (vs.map (fun v => SV.one (CV.lit v))) vs
  | [], _ => trivial
  | v :: vs, h => ⟨⟨rfl, h v (by simp)⟩, still_tup fun x hx => h x (by simp [hx])⟩
/-- the same, of several results -/
theorem fn_stills {P : Program} {f : Nat} {vs rs : List Value} {gl : List Glb} (hv : ∀ v ∈ rs, v.oneCell' = true) (h : ∀ w, (∀ x ∈ gl, w.heap[x.g]? = some (.cells x.cs.toArray x.T x.fz)) → Calls P f vs.toArray w fun e w' => e = .returned (.tuple rs.toArray) ∧ w' = w) (hc : ∀ args w, (callFunc f args).run P w = .ok (.enter f args) w) :
    Fn P ⟨f, vs.map (fun v => .one (.lit v)), [], .tup (rs.map (fun v => .one (.lit v))), [], [], gl⟩ := by
  refine ⟨fun X ρ xs hgl hM hk hx => ?_, hc⟩
  obtain rfl := still_args hx
  refine (h X.w0 (still_gl hgl)).mono ?_
  rintro e w' ⟨rfl, rfl⟩
  exact ⟨_, ρ, rfl, ⟨_, rfl, still_tup hv⟩, Ext.refl ρ, fun q y hq => .inl (hk q y hq), hM, ⟨rfl, rfl, rfl, Nat.le_refl _, fun _ _ => rfl⟩⟩
theorem fn_numP {P : Program} {f : Nat} {vs : List Value} {x : Int} {gl : List Glb} (h : ∀ w, (∀ x ∈ gl, w.heap[x.g]? = some (.cells x.cs.toArray x.T x.fz)) → Calls P f vs.toArray w fun e w' => e = .returned (.int .i64 x) ∧ w = w') (hc : ∀ args w, (callFunc f args).run P w = .ok (.enter f args) w) :
    Fn P ⟨f, vs.map (fun v => .one (.lit v)), [], .sv (.one (.lit (.int .i64 x))), [], [], gl⟩ := fn_still rfl (fun w hg => (h w hg).mono fun _ _ h => ⟨h.1, h.2.symm⟩) hc
theorem fn_boolP {P : Program} {f : Nat} {vs : List Value} {x : Bool} {gl : List Glb} (h : ∀ w, (∀ x ∈ gl, w.heap[x.g]? = some (.cells x.cs.toArray x.T x.fz)) → Calls P f vs.toArray w fun e w' => e = .returned (.bool x) ∧ w = w') (hc : ∀ args w, (callFunc f args).run P w = .ok (.enter f args) w) :
    Fn P ⟨f, vs.map (fun v => .one (.lit v)), [], .sv (.one (.lit (.bool x))), [], [], gl⟩ := fn_still rfl (fun w hg => (h w hg).mono fun _ _ h => ⟨h.1, h.2.symm⟩) hc
theorem fn_pairP {P : Program} {f : Nat} {vs : List Value} {x y : Int} {gl : List Glb} (h : ∀ w, (∀ x ∈ gl, w.heap[x.g]? = some (.cells x.cs.toArray x.T x.fz)) → Calls P f vs.toArray w fun e w' => e = .returned (.tuple #[.int .i64 x, .int .i64 y]) ∧ w = w') (hc : ∀ args w, (callFunc f args).run P w = .ok (.enter f args) w) :
    Fn P ⟨f, vs.map (fun v => .one (.lit v)), [], .tup [.one (.lit (.int .i64 x)), .one (.lit (.int .i64 y))], [], [], gl⟩ :=
  fn_stills (rs := [.int .i64 x, .int .i64 y]) (by intro v hv; simp only [List.mem_cons, List.not_mem_nil, or_false] at hv; rcases hv with rfl | rfl <;> rfl) (fun w hg => (h w hg).mono fun _ _ h => ⟨h.1, h.2.symm⟩) hc
/-- a variable of the program's own, by what its block holds -/
theorem var_of {P : Program} {w : World} {n : String} {g : Nat} {cs : Array Value} {T : Nat} {fz : Nat × Nat} (hg : P.globalNamed n = some g) (h : w.heap[g]? = some (.cells cs T fz)) : w.var? P n = some cs := by
  unfold World.var?
  simp [hg, h]
theorem of_var {P : Program} {w : World} {n : String} {g : Nat} {cs : Array Value} (hg : P.globalNamed n = some g) (h : w.var? P n = some cs) : ∃ T fz, w.heap[g]? = some (.cells cs T fz) := by
  unfold World.var? at h
  simp only [hg, Option.bind_some] at h
  split at h
  · rename_i c T fz e
    obtain rfl := Option.some.inj h
    exact ⟨T, fz, e⟩
  · cases h
end Eng
end Go.Proofs.YtmeahaaibncmmaaDoor

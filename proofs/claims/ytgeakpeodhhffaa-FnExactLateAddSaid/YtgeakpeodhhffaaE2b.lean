/- A symbolic run (E2b). No program. -/
import Derived.Test.YtgeakpeodhhffaaEngV
import Derived.Test.YtgeakpeodhhffaaEngP
import Derived.Test.YtgeakpeodhhffaaEnc
import Derived.IntWalk
import Derived.Test.YtgeakpeodhhffaaBit2
import Derived.Test.YtgeakpeodhhffaaCls4
import Derived.Test.YtgeakpeodhhffaaSed3
namespace Go.Proofs.Ytgeakpeodhhffaa
open Go.RowKit
set_option linter.unusedVariables false
set_option maxRecDepth 100000
namespace Eng
open Tr
theorem elem_map {α : Type} {k : Nat} {E : α → D} {l : List α} {i : Nat} {x : α} (hE : ∀ x, (E x).len = k) (h : l[i]? = some x) : Elem (D.cat (l.map E)) k l.length i (E x) :=
  ⟨l.map E, rfl, by simp, len_map hE, by simp [h]⟩
theorem i64_ok {n : Int} (h1 : -9223372036854775808 ≤ n) (h2 : n ≤ 9223372036854775807) : inK .i64 n := IntWalk.i64_in n ⟨h1, h2⟩
theorem flat_map' {α : Type} {k : Nat} {E : α → D} (l : List α) (hE : ∀ x, (E x).len = k ∧ (E x).flat) : ∀ d ∈ l.map E, d.len = k ∧ d.flat := by
  intro d hd
  simp only [List.mem_map] at hd
  obtain ⟨x, _, rfl⟩ := hd
  exact hE x
theorem getD_at {α : Type} {l : List α} {i : Nat} {x : α} (h : i < l.length) : l[i]? = some (l.getD i x) := by simp [List.getD, h]
theorem map_at {α : Type} {E : α → D} {l : List α} {i : Nat} {x : α} (h : i < l.length) : (l.map E)[i]? = some (E (l.getD i x)) := by simp [List.getD, h]
theorem set_at {α : Type} {l : List α} {i : Nat} {d : α} (h : i < l.length) : (l.set i d)[i]? = some d := by simp [h]
theorem elem_map' {α : Type} {k : Nat} {E : α → D} {l : List α} {i : Nat} {d : α} (hE : ∀ x, (E x).len = k) (h : i < l.length) : Elem (D.cat (l.map E)) k (l.map E).length i (E (l.getD i d)) :=
  ⟨l.map E, rfl, rfl, len_map hE, map_at h⟩
theorem take_getD {α : Type} (l : List α) (d : α) {i : Nat} (h : i < l.length) : l.take (i + 1) = l.take i ++ [l.getD i d] := by
  rw [List.take_add_one, List.getElem?_eq_getElem h]
  simp [List.getD, h]
theorem bf {p : Prop} [Decidable p] (h : ¬ p) : Value.bool false = Value.bool (decide p) := by rw [decide_eq_false h]
theorem bt {p : Prop} [Decidable p] (h : p) : Value.bool true = Value.bool (decide p) := by rw [decide_eq_true h]
theorem all_take {α : Type} {p : α → Prop} {l : List α} {i : Nat} {d : α} (h : ∀ x ∈ l.take i, p x) (hi : i < l.length) (hd : p (l.getD i d)) : ∀ x ∈ l.take (i + 1), p x := by
  intro x hx
  rw [take_getD l d hi, List.mem_append, List.mem_singleton] at hx
  rcases hx with hx | rfl
  · exact h x hx
  · exact hd
theorem all_full {α : Type} {p : α → Prop} {l : List α} {i : Nat} (h : ∀ x ∈ l.take i, p x) (hi : ¬ i < l.length) : ∀ x ∈ l, p x := by
  rwa [List.take_of_length_le (by omega)] at h
theorem getD_in {α : Type} {l : List α} {i : Nat} {d : α} (h : i < l.length) : l.getD i d ∈ l := by
  rw [List.getD_eq_getElem?_getD, List.getElem?_eq_getElem h]
  exact List.getElem_mem _
def inB (x a b : Int) : Bool := decide (a ≤ x) && decide (x ≤ b)
theorem fill_step {α β : Type} (E : α → β) (l : List α) (z : β) (d : α) {i : Nat} (h : i < l.length) : ((l.take i).map E ++ List.replicate (l.length - i) z).set i (E (l.getD i d)) = (l.take (i + 1)).map E ++ List.replicate (l.length - (i + 1)) z := by
  have e1 : ((l.take i).map E).length = i := by rw [List.length_map, List.length_take]; omega
  rw [List.set_append_right _ _ (by omega), e1, Nat.sub_self, show l.length - i = (l.length - (i + 1)) + 1 by omega, List.replicate_succ, List.set_cons_zero, take_getD l d h, List.map_append, List.append_assoc]
  rfl
theorem fill_len {α β : Type} (E : α → β) (l : List α) (z : β) {i : Nat} (h : i ≤ l.length) : ((l.take i).map E ++ List.replicate (l.length - i) z).length = l.length := by
  simp only [List.length_append, List.length_map, List.length_take, List.length_replicate]; omega
theorem fill_end {α β : Type} (E : α → β) (l : List α) (z : β) {i : Nat} (h : l.length ≤ i) : (l.take i).map E ++ List.replicate (l.length - i) z = l.map E := by
  rw [List.take_of_length_le h, show l.length - i = 0 by omega, List.replicate_zero, List.append_nil]
theorem fill_at {α β : Type} (E : α → β) (l : List α) (z : β) {i : Nat} (h : i < l.length) : ((l.take i).map E ++ List.replicate (l.length - i) z)[i]? = some z := by
  have e1 : ((l.take i).map E).length = i := by rw [List.length_map, List.length_take]; omega
  rw [List.getElem?_append_right (by omega), e1, Nat.sub_self, List.getElem?_replicate, if_pos (by omega)]
theorem one1 {v : Value} (h : v.oneCell' = true) : ∀ u ∈ [v], u.oneCell' = true := fun u hu => by rw [List.mem_singleton.1 hu]; exact h
theorem rep_snoc {α : Type} (i : Nat) (x : α) : app (List.replicate i x) [x] = List.replicate (i + 1) x := by rw [app_eq, List.replicate_succ']
theorem inB_iff {x a b : Int} : inB x a b = true ↔ a ≤ x ∧ x ≤ b := by simp [inB]
theorem cond_ite {α : Type} (b : Bool) (x y : α) : (bif b then x else y) = if b = true then x else y := by cases b <;> rfl
end Eng
end Go.Proofs.Ytgeakpeodhhffaa
namespace Go.Proofs.Ytgeakpeodhhffaa
open Go.RowKit
set_option linter.unusedVariables false
namespace Eng
open Tr
theorem still_args {X : Cx} {ρ : Env} : ∀ {vs xs : List Value}, SsRel X ρ (vs.map (fun v => SV.one (CV.lit v))) xs → xs = vs
  | [], [], _ => rfl
  | [], _ :: _, h => h.elim
  | _ :: _, [], h => h.elim
  | v :: vs, x :: xs, h => by obtain ⟨⟨rfl, _⟩, h2⟩ := h; rw [still_args h2]
theorem still_gl {X : Cx} : ∀ {l : List Glb}, GlAll (GlX X) l → ∀ x ∈ l, X.w0.heap[x.g]? = some (.cells x.cs.toArray x.T x.fz)
  | [], _, x, hx => by cases hx
  | y :: l, h, x, hx => by
    rw [List.mem_cons] at hx
    rcases hx with rfl | hx
    · exact h.1.1
    · exact still_gl h.2 x hx
/-- a call that leaves the world as it is, and whose result is known -/
theorem fn_still {P : Program} {f : Nat} {vs : List Value} {v : Value} {gl : List Glb} (hv : v.oneCell' = true) (h : ∀ w, (∀ x ∈ gl, w.heap[x.g]? = some (.cells x.cs.toArray x.T x.fz)) → Calls P f vs.toArray w fun e w' => e = .returned v ∧ w' = w) (hc : ∀ args w, (callFunc f args).run P w = .ok (.enter f args) w) :
    Fn P ⟨f, vs.map (fun v => .one (.lit v)), [], .sv (.one (.lit v)), [], [], gl⟩ := by
  refine ⟨fun X ρ xs hds hgl hM hk hx => ?_, hc, fun h => absurd Co.fn_lone h⟩
  obtain rfl := still_args hx
  refine Co.callsK_of_calls Co.fn_lone ((h X.w0 (still_gl hgl)).mono ?_)
  rintro e w' ⟨rfl, rfl⟩
  exact ⟨v, rfl, v, ρ, rfl, ⟨rfl, hv⟩, Ext.refl ρ, fun q y hq => .inl (hk q y hq), hM, ⟨rfl, rfl, rfl, Nat.le_refl _, fun _ _ _ => rfl⟩⟩
theorem still_tup {X : Cx} {ρ : Env} : ∀ {vs : List Value}, (∀ v ∈ vs, v.oneCell' = true) → SsRel X ρ (vs.map (fun v => SV.one (CV.lit v))) vs
  | [], _ => trivial
  | v :: vs, h => ⟨⟨rfl, h v (by simp)⟩, still_tup fun x hx => h x (by simp [hx])⟩
/-- the same, of several results -/
theorem fn_stills {P : Program} {f : Nat} {vs rs : List Value} {gl : List Glb} (hv : ∀ v ∈ rs, v.oneCell' = true) (h : ∀ w, (∀ x ∈ gl, w.heap[x.g]? = some (.cells x.cs.toArray x.T x.fz)) → Calls P f vs.toArray w fun e w' => e = .returned (.tuple rs.toArray) ∧ w' = w) (hc : ∀ args w, (callFunc f args).run P w = .ok (.enter f args) w) :
    Fn P ⟨f, vs.map (fun v => .one (.lit v)), [], .tup (rs.map (fun v => .one (.lit v))), [], [], gl⟩ := by
  refine ⟨fun X ρ xs hds hgl hM hk hx => ?_, hc, fun h => absurd Co.fn_lone h⟩
  obtain rfl := still_args hx
  refine Co.callsK_of_calls Co.fn_lone ((h X.w0 (still_gl hgl)).mono ?_)
  rintro e w' ⟨rfl, rfl⟩
  exact ⟨_, rfl, _, ρ, rfl, ⟨_, rfl, still_tup hv⟩, Ext.refl ρ, fun q y hq => .inl (hk q y hq), hM, ⟨rfl, rfl, rfl, Nat.le_refl _, fun _ _ _ => rfl⟩⟩
theorem fn_numP {P : Program} {f : Nat} {vs : List Value} {x : Int} {gl : List Glb} (h : ∀ w, (∀ x ∈ gl, w.heap[x.g]? = some (.cells x.cs.toArray x.T x.fz)) → Calls P f vs.toArray w fun e w' => e = .returned (.int .i64 x) ∧ w = w') (hc : ∀ args w, (callFunc f args).run P w = .ok (.enter f args) w) :
    Fn P ⟨f, vs.map (fun v => .one (.lit v)), [], .sv (.one (.lit (.int .i64 x))), [], [], gl⟩ := fn_still rfl (fun w hg => (h w hg).mono fun _ _ h => ⟨h.1, h.2.symm⟩) hc
theorem fn_boolP {P : Program} {f : Nat} {vs : List Value} {x : Bool} {gl : List Glb} (h : ∀ w, (∀ x ∈ gl, w.heap[x.g]? = some (.cells x.cs.toArray x.T x.fz)) → Calls P f vs.toArray w fun e w' => e = .returned (.bool x) ∧ w = w') (hc : ∀ args w, (callFunc f args).run P w = .ok (.enter f args) w) :
    Fn P ⟨f, vs.map (fun v => .one (.lit v)), [], .sv (.one (.lit (.bool x))), [], [], gl⟩ := fn_still rfl (fun w hg => (h w hg).mono fun _ _ h => ⟨h.1, h.2.symm⟩) hc
theorem fn_pairP {P : Program} {f : Nat} {vs : List Value} {x y : Int} {gl : List Glb} (h : ∀ w, (∀ x ∈ gl, w.heap[x.g]? = some (.cells x.cs.toArray x.T x.fz)) → Calls P f vs.toArray w fun e w' => e = .returned (.tuple #[.int .i64 x, .int .i64 y]) ∧ w = w') (hc : ∀ args w, (callFunc f args).run P w = .ok (.enter f args) w) :
    Fn P ⟨f, vs.map (fun v => .one (.lit v)), [], .tup [.one (.lit (.int .i64 x)), .one (.lit (.int .i64 y))], [], [], gl⟩ :=
  fn_stills (rs := [.int .i64 x, .int .i64 y]) (by intro v hv; simp only [List.mem_cons, List.not_mem_nil, or_false] at hv; rcases hv with rfl | rfl <;> rfl) (fun w hg => (h w hg).mono fun _ _ h => ⟨h.1, h.2.symm⟩) hc
/-- a variable of the program's own, by what its block holds -/
theorem var_of {P : Program} {w : World} {n : String} {g : Nat} {cs : Array Value} {T : Nat} {fz : Nat × Nat} (hg : P.globalNamed n = some g) (h : w.heap[g]? = some (.cells cs T fz)) : w.var? P n = some cs := by
  unfold World.var?
  simp [hg, h]
theorem of_var {P : Program} {w : World} {n : String} {g : Nat} {cs : Array Value} (hg : P.globalNamed n = some g) (h : w.var? P n = some cs) : ∃ T fz, w.heap[g]? = some (.cells cs T fz) := by
  unfold World.var? at h
  simp only [hg, Option.bind_some] at h
  split at h
  · rename_i c T fz e
    obtain rfl := Option.some.inj h
    exact ⟨T, fz, e⟩
  · cases h
end Eng
end Go.Proofs.Ytgeakpeodhhffaa
namespace Go.Proofs.Ytgeakpeodhhffaa
open Go.RowKit
set_option linter.unusedVariables false
set_option linter.unusedSimpArgs false
set_option maxRecDepth 100000
namespace Eng
open Tr
end Eng
end Go.Proofs.Ytgeakpeodhhffaa
namespace Go.Proofs.Ytgeakpeodhhffaa
open Go.RowKit
set_option linter.unusedVariables false
set_option linter.unusedSimpArgs false
set_option maxRecDepth 100000
namespace Eng
open Tr
/-- the tables: masks, sizes; y, z: how their blocks are laid -/
structure Tb where
  ty : Nat
  fy : Nat × Nat
  tz : Nat
  fz : Nat × Nat
theorem lt_heap {w : World} {g : Nat} {x : Obj} (h : w.heap[g]? = some x) : g < w.heap.size := by
  rcases Nat.lt_or_ge g w.heap.size with h' | h'
  · exact h'
  · simp [Array.getElem?_eq_none h'] at h
end Eng
end Go.Proofs.Ytgeakpeodhhffaa

/- A symbolic run: a call that leaves a new row of numbers, whose contract was walked otherwise; the shuffles. -/
import Derived.Test.YthkjbjgpdapnpaaDoorE2b
import Derived.Test.YthkjbjgpdapnpaaDoorSed3
namespace Go.Proofs.YthkjbjgpdapnpaaDoor
open Go.RowKit
set_option linter.unusedVariables false
set_option linter.unusedSimpArgs false
namespace Eng
open Tr
theorem fn_shufP {P : Program} {f : Nat} {vs : List Value} {l : List Int} {x : Int} {T : Nat} {gl : List Glb} (h : ∀ w, (∀ x ∈ gl, w.heap[x.g]? = some (.cells x.cs.toArray x.T x.fz)) → Calls P f vs.toArray w fun e w' => ∃ v, e = .returned (.tuple #[v, .int .i64 x]) ∧ w'.ownsRow w.heap.size T 1 v l.length (l.map (Value.int .i64)) ∧ Below w.heap.size w w') (hc : ∀ args w, (callFunc f args).run P w = .ok (.enter f args) w) :
    Fn P ⟨f, vs.map (fun v => .one (.lit v)), [], .tup [.one (.hd 0), .one (.lit (.int .i64 x))], [(0, some (.row T 1 (l.map Tr.eI)))], [0], gl⟩ := by
  refine ⟨fun X ρ xs hgl hM hk hx => ?_, hc⟩
  obtain rfl := still_args hx
  refine (h X.w0 (still_gl hgl)).mono ?_
  rintro e w' ⟨v, rfl, how, hB⟩
  obtain ⟨bs, h1, h2, h3⟩ := ints_owned how rfl
  obtain ⟨A, cap, e1⟩ := own_slice0 h1
  have hρ : ∀ q, ρ q = none := by
    intro q
    cases e : ρ q with
    | none => rfl
    | some y => exact nomatch hk q y e
  refine ⟨_, fun q => if q = 0 then some v else none, rfl, ⟨_, rfl, ⟨⟨if_pos rfl, by rw [e1]; rfl⟩, ⟨rfl, rfl⟩, trivial⟩⟩, fun q y hq => ?_, fun q y hq => ?_, ⟨fun q => if q = 0 then bs else [], ?_, ?_, ?_, ?_⟩, ?_⟩
  · rw [hρ q] at hq; cases hq
  · right
    have hq' : (if q = 0 then some v else none) = some y := hq
    by_cases e : q = 0
    · rw [e]; show 0 ∈ [0]; simp
    · rw [if_neg e] at hq'; cases hq'
  · intro r b hb
    rw [lk_cons] at hb
    by_cases e : 0 = r
    · subst e
      rw [if_pos rfl] at hb
      obtain rfl := Option.some.inj (Option.some.inj hb)
      exact ⟨v, if_pos rfl, by rw [if_pos rfl]; exact h1, len_map (E := Tr.eI) (k := 1) (fun _ => rfl), fun d hd => by
        obtain ⟨y, _, rfl⟩ := List.mem_map.1 hd
        exact ⟨rfl, trivial⟩⟩
    · rw [if_neg e] at hb; cases hb
  · intro r b hb
    show (if r = 0 then bs else []).Nodup
    split
    · exact h2
    · simp
  · intro r b hb x hx hg
    have hx' : x ∈ (if r = 0 then bs else []) := hx
    have := X.hG x hg
    split at hx'
    · have := h3 x hx'; omega
    · cases hx'
  · intro r r' b b' hne hb hb'
    rw [lk_cons] at hb hb'
    by_cases e : 0 = r
    · rw [if_neg (fun e' => hne (e ▸ e'))] at hb'; cases hb'
    · rw [if_neg e] at hb; cases hb
  · exact ⟨hB.os, hB.tape, hB.output, hB.size, fun b hb => hB.block b (X.hG b hb)⟩
end Eng
end Go.Proofs.YthkjbjgpdapnpaaDoor

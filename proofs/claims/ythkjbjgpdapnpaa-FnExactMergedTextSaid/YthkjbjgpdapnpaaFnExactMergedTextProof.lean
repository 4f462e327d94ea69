/- Called with any arguments, the law FnExactMergedText returns true and each argument reads afterwards as before. No condition. -/
import Derived.Test.YthkjbjgpdapnpaaRows
import Derived.Test.YthkjbjgpdapnpaaEL13x
import Derived.Test.YthkjbjgpdapnpaaTo
import Derived.Test.YthkjbjgpdapnpaaEq
import Derived.Test.YthkjbjgpdapnpaaSz
import Derived.Test.YthkjbjgpdapnpaaMark
import Derived.Test.YthkjbjgpdapnpaaHeld
import Derived.Test.YthkjbjgpdapnpaaIn
import Derived.WalkKit
import Derived.ProofKit
import Derived.OpenShut
import Derived.ShutString
import Derived.ChangeOld
import Derived.Below
import Derived.Carry
import Derived.Deep.RegionHeld3
namespace Go.Proofs.Ythkjbjgpdapnpaa.fnExactMergedText
open Go.ChangeShapes Go.WideShapes Go.ChangeAt Go.RowKit Go.Proofs.Ythkjbjgpdapnpaa.Tr
set_option linter.unusedVariables false
theorem own : ownKnob Try.prog.godebug = none := by kernel_rfl
theorem laidOut : laidOutB Try.prog = true := by kernel_rfl
set_option maxRecDepth 100000 in
set_option maxHeartbeats 1000000 in
theorem walk (x0 : List Int) (c0_0 : Value) (x1 : List Int) (c1_0 : Value) (x2 : GPlan) (c2_2 : Value) (w : World) (r0 : Raw w (eIntS x0) [c0_0]) (hw0 : okIntS x0) (r1 : Raw w (eIntS x1) [c1_0]) (hw1 : okIntS x1) (r2 : Raw w (ePlan x2) [.int .i64 x2.Keep, .int .i64 x2.Move, c2_2]) (hw2 : okPlan x2) :
    Calls Try.prog 4 #[(c0_0), (c1_0), (.agg #[.int .i64 x2.Keep, .int .i64 x2.Move, c2_2])] w fun e w' => e = .returned (.bool true) ∧ Below w.heap.size w w' := by
  exact Eng.ret_p (Eng.fn_XMerged x0 x1 x2 ⟨(Eng.arg_ints r0).2, (Eng.arg_ints r1).2, (Eng.arg_plan r2).2⟩) rfl rfl ⟨(Eng.arg_ints r0).1, (Eng.arg_ints r1).1, (Eng.arg_plan r2).1, trivial⟩
set_option maxRecDepth 100000 in
theorem lifted (os : Os) (started : os.Started) (H : Type) (enc : TypeId × Value → H) :
    ReturnsInHanded {} Try.checked os 4 .any (Rows.fnExactMergedTextSpec.pre6 enc Try.prog Try.f4 Rows.fnExactMergedTextRow.domain false) (Rows.fnExactMergedTextSpec.post enc Try.prog Try.f4 false true false false) := by
  refine returnsInHanded_of_change (C := Try.checked) own started (by kernel_rfl) Try.func4
    (ChangeSpec.witness6 (enc := enc) (C := Try.checked) false ⟨#[], #[.slice none 0 0, .slice none 0 0, .agg #[.int .i64 0, .int .i64 0, .slice none 0 0]], []⟩ 8 (by kernel_rfl) (by kernel_rfl) (by kernel_rfl) (by kernel_rfl)) ?_
  intro W base args ds gs before hval0 hW hcnd _
  have hval : ∀ (j : Nat) t v, Try.f4.params[j]? = some t → args[j]? = some v → Value.okWide Try.prog W .any base t v := hval0
  have hW' := hW
  obtain ⟨p, q, hA0, hV, rfl, hfz, hnd⟩ := hW
  have hA : DataW.TrodAll enc Try.prog W 0 (fun _ => true) true Try.f4.params.toList args.toList ds p := hA0
  rw [Try.params4] at hA hval
  obtain ⟨v0, vs0, d0, ds0, p0, q0, hargs, rfl, rfl, h0, r0⟩ := trodAll_cons hA
  obtain ⟨v1, vs1, d1, ds1, p1, q1, rfl, rfl, rfl, h1, r1⟩ := trodAll_cons r0
  obtain ⟨v2, vs2, d2, ds2, p2, q2, rfl, rfl, rfl, h2, r2⟩ := trodAll_cons r1
  obtain ⟨rfl, rfl, rfl⟩ := trodAll_nil r2
  obtain rfl : args = #[v0, v1, v2] := by cases args; simp_all
  obtain ⟨rfl, rfl⟩ := trodVars_none hV
  have k0 := h0
  have lt0 : ∀ x ∈ p0, x.block < W.heap.size := by obtain ⟨m, hm⟩ := k0; exact DataW.trod_lt m _ _ _ hm
  obtain ⟨x0, raw0, ok0⟩ := opens_trod opens_IntS h0
  obtain ⟨c0_0, len0, cap0, rfl⟩ := okWide_slice Try.underlying22 (hval 0 22 v0 rfl rfl)
  have raw0 : Raw W (eIntS x0) [.slice c0_0 len0 cap0] := raw0
  have k1 := h1
  have lt1 : ∀ x ∈ p1, x.block < W.heap.size := by obtain ⟨m, hm⟩ := k1; exact DataW.trod_lt m _ _ _ hm
  obtain ⟨x1, raw1, ok1⟩ := opens_trod opens_IntS h1
  obtain ⟨c1_0, len1, cap1, rfl⟩ := okWide_slice Try.underlying22 (hval 1 22 v1 rfl rfl)
  have raw1 : Raw W (eIntS x1) [.slice c1_0 len1 cap1] := raw1
  have k2 := h2
  have lt2 : ∀ x ∈ p2, x.block < W.heap.size := by obtain ⟨m, hm⟩ := k2; exact DataW.trod_lt m _ _ _ hm
  obtain ⟨x2, raw2, ok2⟩ := opens_trod opens_Plan h2
  obtain ⟨cs2, rfl, _⟩ := okWide_struct Try.underlying24 (hval 2 24 v2 rfl rfl)
  obtain ⟨cs2⟩ := cs2
  have raw2 : Raw W (ePlan x2) cs2 := raw2
  obtain ⟨c2_2, rfl⟩ := rinv_Plan raw2
  clear hA0 hval0
  refine (walk x0 (.slice c0_0 len0 cap0) x1 (.slice c1_0 len1 cap1) x2 c2_2 W raw0 ok0 raw1 ok1 raw2 ok2).mono fun e W' ⟨he, bel⟩ => ?_
  subst he
  exact ⟨_, rfl, _, _, _, [], _, [], hW', trodAll_mk1 (shut_bool Try.underlying4 _), (trodAll_cons_mk (Below.trod laidOut (by kernel_rfl) (of_decide_eq_true (by kernel_rfl)) k0 bel lt0) (trodAll_cons_mk (Below.trod laidOut (by kernel_rfl) (of_decide_eq_true (by kernel_rfl)) k1 bel lt1) (trodAll_cons_mk (Below.trod laidOut (by kernel_rfl) (of_decide_eq_true (by kernel_rfl)) k2 bel lt2) trodAll_mk0))), rfl, bel.frame _, fun h => by cases h⟩
theorem over : Rows.fnExactMergedTextRow.holds Try.pinned (OpenSpec.ofChange Rows.fnExactMergedTextSpec) :=
  OpenClaim.holds_of_wide 4 Try.f4 rfl rfl rfl rfl rfl rfl rfl ⟨rfl, rfl, rfl, rfl, rfl⟩ rfl rfl rfl rfl rfl (by kernel_rfl) Try.func4 (by kernel_rfl)
    (of_decide_eq_true (by kernel_rfl)) (by unfold Func.isWrapper; first | (rw [if_pos (by decide +kernel)]; kernel_rfl) | (rw [if_neg (by decide +kernel)]; exact ⟨rfl, rfl⟩))
    (fun os started H enc _ => lifted os started H enc)
theorem proved : Rows.FnExactMergedTextSaid := over
#print axioms proved
end Go.Proofs.Ythkjbjgpdapnpaa.fnExactMergedText

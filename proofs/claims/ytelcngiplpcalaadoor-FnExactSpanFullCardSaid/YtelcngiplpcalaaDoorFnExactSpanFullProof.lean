/- Called with any arguments, the law FnExactSpanFull returns true and each argument reads afterwards as before. The listed package-level variables hold what the program's text lays. -/
import Derived.Test.YtelcngiplpcalaaDoorRows
import Derived.Test.YtelcngiplpcalaaDoorCards
import Derived.Test.YtelcngiplpcalaaDoorTie
import Derived.Test.YtelcngiplpcalaaDoorLaid
import Derived.Deep.DeepHandedRow
import Derived.Deep.DeepWitnessRowRef
import Derived.Lib.LaidTab
import Derived.OpenVars
import Derived.Test.YtelcngiplpcalaaDoorEI09n
import Derived.Test.YtelcngiplpcalaaDoorTo
import Derived.Test.YtelcngiplpcalaaDoorEq
import Derived.Test.YtelcngiplpcalaaDoorSz
import Derived.Test.YtelcngiplpcalaaDoorMark
import Derived.Test.YtelcngiplpcalaaDoorHeld
import Derived.Test.YtelcngiplpcalaaDoorIn
import Derived.WalkKit
import Derived.ProofKit
import Derived.OpenShut
import Derived.ShutString
import Derived.ChangeOld
import Derived.Below
import Derived.Carry
import Derived.Deep.RegionHeld3
namespace Go.Proofs.YtelcngiplpcalaaDoor.fnExactSpanFull
open Go.ChangeShapes Go.WideShapes Go.ChangeAt Go.RowKit Go.Proofs.YtelcngiplpcalaaDoor.Tr
set_option linter.unusedVariables false
theorem own : ownKnob Tryd.prog.godebug = none := by kernel_rfl
theorem laidOut : laidOutB Tryd.prog = true := by kernel_rfl
set_option maxRecDepth 100000 in
set_option maxHeartbeats 1000000 in
theorem walk (x0 : GSpan) (w : World) (hw0 : okSpan x0) (hT : Laid.LSlotMasksClassSizes w) :
    Calls Tryd.prog 11 #[(.agg #[.int .i64 x0.Page, .int .i64 x0.Class, .int .i64 x0.Bits])] w fun e w' => e = .returned (.bool true) ∧ Below w.heap.size w w' := by
  have HO : Hid True := trivial
  have HT_ := Lib.hid hT
  clear hT
  obtain ⟨s0, hs0⟩ : ∃ s, w.heap.size = s := ⟨_, rfl⟩
  have HBL : Hid (Below w.heap.size w w) := Below.refl _ _
  have hb_ : Below w.heap.size w (w.alloc (.cells #[.int .i64 x0.Page, .int .i64 x0.Class, .int .i64 x0.Bits] 40)) := (Below.refl _ _).alloc (Nat.le_refl _) _
  have hx_ : (w.alloc (.cells #[.int .i64 x0.Page, .int .i64 x0.Class, .int .i64 x0.Bits] 40)).heap[s0]? = some (.cells #[.int .i64 x0.Page, .int .i64 x0.Class, .int .i64 x0.Bits] 40 (0, 0)) := by rw [← hs0]; exact heap_alloc_new _ _
  have hz_ : (w.alloc (.cells #[.int .i64 x0.Page, .int .i64 x0.Class, .int .i64 x0.Bits] 40)).heap.size = s0 + 1 := by simp [hs0]
  obtain ⟨w1, HW_w1⟩ : ∃ z, (w.alloc (.cells #[.int .i64 x0.Page, .int .i64 x0.Class, .int .i64 x0.Bits] 40)) = z := ⟨_, rfl⟩
  rw [HW_w1] at hb_ hx_ hz_
  have HBL' := Lib.hid (below_step HBL.out hb_)
  clear HBL
  have HBL := HBL'
  clear HBL'
  have HX_aS := Lib.hid hx_
  clear hx_
  obtain ⟨s2, hs2⟩ : ∃ s, w1.heap.size = s := ⟨_, rfl⟩
  have hls2 : s0 + 1 = s2 := by omega
  have HWE_w1 := Lib.hid HW_w1
  clear HW_w1 hb_ hz_
  go_enter Tryd.func11, Tryd.ntmps11
  have hc3 : w1.cell? ⟨s0, 0, none⟩ = some (.int .i64 x0.Page) := cell_of_block HX_aS.out 0
  have hc4 : w1.cell? ⟨s0, 1, none⟩ = some (.int .i64 x0.Class) := cell_of_block HX_aS.out 1
  have hc5 : w1.cell? ⟨s0, 2, none⟩ = some (.int .i64 x0.Bits) := cell_of_block HX_aS.out 2
  go_wp2_with fail
  rw [HWE_w1.out]
  clear HWE_w1
  refine (h_toSpan x0 w1).mono ?_
  rintro e w7 ⟨rfl, hb_⟩
  have HX_aS' := Lib.hid ((hb_.block s0 (by omega)).trans HX_aS.out)
  clear HX_aS
  have HX_aS := HX_aS'
  clear HX_aS'
  have HBL' := Lib.hid (below_step HBL.out hb_)
  clear HBL
  have HBL := HBL'
  clear HBL'
  obtain ⟨s8, hs8⟩ : ∃ s, w7.heap.size = s := ⟨_, rfl⟩
  have hls8 : s2 ≤ s8 := by have := hb_.size; omega
  clear hb_
  go_wp2_with fail
  refine (spec_SpanFull x0 w7).mono ?_
  rintro e w9 ⟨rfl, hb_⟩
  have HX_aS' := Lib.hid ((hb_.block s0 (by omega)).trans HX_aS.out)
  clear HX_aS
  have HX_aS := HX_aS'
  clear HX_aS'
  have HBL' := Lib.hid (below_step HBL.out hb_)
  clear HBL
  have HBL := HBL'
  clear HBL'
  obtain ⟨s10, hs10⟩ : ∃ s, w9.heap.size = s := ⟨_, rfl⟩
  have hls10 : s8 ≤ s10 := by have := hb_.size; omega
  clear hb_
  have hc11 : w9.cell? ⟨s0, 0, none⟩ = some (.int .i64 x0.Page) := cell_of_block HX_aS.out 0
  have hc12 : w9.cell? ⟨s0, 1, none⟩ = some (.int .i64 x0.Class) := cell_of_block HX_aS.out 1
  have hc13 : w9.cell? ⟨s0, 2, none⟩ = some (.int .i64 x0.Bits) := cell_of_block HX_aS.out 2
  go_wp2_with fail
  refine (h_toSpan x0 w9).mono ?_
  rintro e w15 ⟨rfl, hb_⟩
  have HX_aS' := Lib.hid ((hb_.block s0 (by omega)).trans HX_aS.out)
  clear HX_aS
  have HX_aS := HX_aS'
  clear HX_aS'
  have HBL' := Lib.hid (below_step HBL.out hb_)
  clear HBL
  have HBL := HBL'
  clear HBL'
  obtain ⟨s16, hs16⟩ : ∃ s, w15.heap.size = s := ⟨_, rfl⟩
  have hls16 : s10 ≤ s16 := by have := hb_.size; omega
  clear hb_
  go_wp2_with fail
  refine (impl_SpanFull x0 w15 (HT_.out.below HBL.out).slotMasks (HT_.out.below HBL.out).classSizes).mono ?_
  rintro e w17 ⟨rfl, hb_⟩
  have HX_aS' := Lib.hid ((hb_.block s0 (by omega)).trans HX_aS.out)
  clear HX_aS
  have HX_aS := HX_aS'
  clear HX_aS'
  have HBL' := Lib.hid (below_step HBL.out hb_)
  clear HBL
  have HBL := HBL'
  clear HBL'
  obtain ⟨s18, hs18⟩ : ∃ s, w17.heap.size = s := ⟨_, rfl⟩
  have hls18 : s16 ≤ s18 := by have := hb_.size; omega
  clear hb_
  go_wp2
  go_ret
  exact ⟨rfl, HBL.out⟩
set_option maxRecDepth 100000 in
theorem contract (H : Type) (enc : TypeId × Value → H) (W : World) (base : Nat) (args : Array Value) (ds gs : List (DataW H)) (before : List MemPlace)
    (hval0 : ∀ (j : Nat) t v, Tryd.f11.params[j]? = some t → args[j]? = some v → Value.okWide Tryd.prog W .any base t v)
    (hW : DataW.Whole enc Tryd.prog Tryd.f11.params.toList Rows.fnExactSpanFullSpec.vars false W args.toList ds gs before) (hT : Laid.LSlotMasksClassSizes W) :
    Calls Tryd.prog 11 args W fun e W' => ∃ v, e = .returned v ∧ Rows.fnExactSpanFullSpec.post enc Tryd.prog Tryd.f11 false true false false W args v W' := by
  have hval : ∀ (j : Nat) t v, Tryd.f11.params[j]? = some t → args[j]? = some v → Value.okWide Tryd.prog W .any base t v := hval0
  have hW' := hW
  obtain ⟨p, q, hA0, hV, rfl, hfz, hnd⟩ := hW
  have hA : DataW.TrodAll enc Tryd.prog W 0 (fun _ => true) true Tryd.f11.params.toList args.toList ds p := hA0
  rw [Tryd.params11] at hA hval
  obtain ⟨v0, vs0, d0, ds0, p0, q0, hargs, rfl, rfl, h0, r0⟩ := trodAll_cons hA
  obtain ⟨rfl, rfl, rfl⟩ := trodAll_nil r0
  obtain rfl : args = #[v0] := by cases args; simp_all
  obtain ⟨g0, g1, rfl⟩ := Laid.vars2 hV
  have k0 := h0
  have lt0 : ∀ x ∈ p0, x.block < W.heap.size := by obtain ⟨m, hm⟩ := k0; exact DataW.trod_lt m _ _ _ hm
  obtain ⟨x0, raw0, ok0⟩ := opens_trod opens_Span h0
  obtain ⟨cs0, rfl, _⟩ := okWide_struct Tryd.underlying40 (hval 0 40 v0 rfl rfl)
  obtain ⟨cs0⟩ := cs0
  have raw0 : Raw W (eSpan x0) cs0 := raw0
  obtain rfl := rinv_Span raw0
  clear hA0 hval0
  refine (walk x0 W ok0 hT).mono fun e W' ⟨he, bel⟩ => ?_
  subst he
  exact ⟨_, rfl, _, _, _, [], _, q, hW', trodAll_mk1 (shut_bool Tryd.underlying4 _), (trodAll_cons_mk (Below.trod laidOut (by kernel_rfl) (of_decide_eq_true (by kernel_rfl)) k0 bel lt0) trodAll_mk0), bel.trodVars laidOut (by kernel_rfl) hV, bel.frame _, fun h => by cases h⟩
theorem laid_met (os : Os) : laidMet Tryd.prog Rows.fnExactSpanFullRow.laid ((Laid.world os).forCall (fun _ _ => 0) ⟨#[], #[.agg #[.int .i64 0, .int .i64 0, .int .i64 0]], []⟩).memory :=
  laidMet_of_run' 8 (by kernel_rfl) (by kernel_rfl)
theorem witness_row (os : Os) {H : Type} (enc : TypeId × Value → H) :
    (OpenSpec.ofChange Rows.fnExactSpanFullSpec).preRow enc Tryd.prog Tryd.f11 Rows.fnExactSpanFullRow.domain false Rows.fnExactSpanFullRow.laid ((Laid.world os).forCall (fun _ _ => 0) ⟨#[], #[.agg #[.int .i64 0, .int .i64 0, .int .i64 0]], []⟩).memory #[.agg #[.int .i64 0, .int .i64 0, .int .i64 0]] := by
  have hw : (DataW.whole enc Tryd.prog ((Laid.world os).forCall (fun _ _ => 0) ⟨#[], #[.agg #[.int .i64 0, .int .i64 0, .int .i64 0]], []⟩).memory Tryd.f11.params.toList Rows.fnExactSpanFullSpec.vars false (#[.agg #[.int .i64 0, .int .i64 0, .int .i64 0]] : Array Value).toList 8).map (fun x => (x.1, x.2.1)) = some ([.agg [.lit (.int .i64 0), .lit (.int .i64 0), .lit (.int .i64 0)]], [Rows.laid_loop_example_g00978_impl_classSizes, Rows.laid_loop_example_g00978_impl_slotMasks]) := by kernel_rfl
  obtain ⟨⟨x1, x2, x3⟩, hx, hx1⟩ := Option.map_eq_some_iff.1 hw
  simp only [Prod.mk.injEq] at hx1
  obtain ⟨rfl, rfl⟩ := hx1
  exact OpenSpec.preRow_of_cond 8 hx (by kernel_rfl) (fun k hk => by cases hk) (by kernel_rfl) (laid_met os)

set_option maxRecDepth 100000 in
theorem lifted (os : Os) (started : os.Started) (H : Type) (enc : TypeId × Value → H) (F : Stop.Interp) :
    ReturnsInHanded {} Tryd.checked os 11 .any ((OpenSpec.ofChange Rows.fnExactSpanFullSpec).preRow enc Tryd.prog Tryd.f11 Rows.fnExactSpanFullRow.domain false Rows.fnExactSpanFullRow.laid) (((OpenSpec.ofChange Rows.fnExactSpanFullSpec).at F).post enc Tryd.prog Tryd.f11 false true false false) := by
  refine returnsInHanded_of_row (C := Tryd.checked) (s := OpenSpec.ofChange Rows.fnExactSpanFullSpec) own started (by kernel_rfl) Tryd.func11
    (witness_row_at (enc := enc) (C := Tryd.checked) false (Laid.world os) #[.agg #[.int .i64 0, .int .i64 0, .int .i64 0]] rfl (by kernel_rfl) (by kernel_rfl) (by kernel_rfl) (witness_row os enc)) ?_
  intro W base args ds gs before hval hW _ _ _ hL _ _
  exact contract H enc W base args ds gs before hval hW (Laid.has_1 hL)

theorem said : Rows.FnExactSpanFullSaid :=
  OpenClaim.holds_of_cond 11 Tryd.f11 rfl rfl rfl rfl rfl rfl rfl ⟨rfl, rfl, rfl, rfl, rfl⟩ rfl rfl rfl rfl rfl (by kernel_rfl) Tryd.func11 (by kernel_rfl)
    (of_decide_eq_true (by kernel_rfl)) (by unfold Func.isWrapper; first | (rw [if_pos (by decide +kernel)]; kernel_rfl) | (rw [if_neg (by decide +kernel)]; exact ⟨rfl, rfl⟩))
    (fun os started H enc _ F => by rw [OpenClaim.pre_eq_preRow]; exact lifted os started H enc F)

theorem plain (f : FuncId) (fn : Func) (hf : Tryd.pinned.checked.prog.funcNamed "loop.example/g00978/laws.FnExactSpanFull" = some f) (hfn : Tryd.pinned.checked.prog.funcs[f]? = some fn) :
    false = Tryd.pinned.checked.prog.looks [] ∧ ∀ (j : Nat) t, fn.params[j]? = some t → Tryd.pinned.checked.prog.wantsStandIn t = false := by
  obtain rfl : f = 11 := Option.some.inj ((show Tryd.prog.funcNamed "loop.example/g00978/laws.FnExactSpanFull" = some 11 by kernel_rfl).symm.trans hf) |>.symm
  obtain rfl : fn = Tryd.f11 := (Option.some.inj (Tryd.func11.symm.trans hfn)).symm
  refine ⟨by kernel_rfl, fun j t ht => ?_⟩
  rw [Tryd.params11] at ht
  have hm := Array.mem_of_getElem? ht
  simp only [List.mem_toArray, List.mem_cons, List.not_mem_nil, or_false] at hm
  subst hm
  exact (show Tryd.prog.wantsStandIn 40 = false by kernel_rfl)

/-- THE CARD -/
theorem proved : Rows.FnExactSpanFullCardSaid :=
  Claim7.holds_tied_plain_at .later [] _ _ _ _ said (fun _ h => by cases h) (by kernel_rfl) (fun _ h => by cases h) fnExactSpanFull_row_tie rfl ⟨rfl, rfl⟩ (by kernel_rfl) rfl plain (by kernel_rfl)
#print axioms proved
end Go.Proofs.YtelcngiplpcalaaDoor.fnExactSpanFull

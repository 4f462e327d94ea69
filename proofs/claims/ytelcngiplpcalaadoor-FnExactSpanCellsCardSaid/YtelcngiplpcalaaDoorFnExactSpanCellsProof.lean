/- Called with any arguments, the law FnExactSpanCells returns true and each argument reads afterwards as before. The listed package-level variables hold what the program's text lays. -/
import Derived.Test.YtelcngiplpcalaaDoorRows
import Derived.Test.YtelcngiplpcalaaDoorCards
import Derived.Test.YtelcngiplpcalaaDoorTie
import Derived.Test.YtelcngiplpcalaaDoorLaid
import Derived.Deep.DeepHandedRow
import Derived.Deep.DeepWitnessRowRef
import Derived.Lib.LaidTab
import Derived.OpenVars
import Derived.Test.YtelcngiplpcalaaDoorEI09n
import Derived.Test.YtelcngiplpcalaaDoorTo
import Derived.Test.YtelcngiplpcalaaDoorEq
import Derived.Test.YtelcngiplpcalaaDoorSz
import Derived.Test.YtelcngiplpcalaaDoorMark
import Derived.Test.YtelcngiplpcalaaDoorHeld
import Derived.Test.YtelcngiplpcalaaDoorIn
import Derived.WalkKit
import Derived.ProofKit
import Derived.OpenShut
import Derived.ShutString
import Derived.ChangeOld
import Derived.Below
import Derived.Carry
import Derived.Deep.RegionHeld3
namespace Go.Proofs.YtelcngiplpcalaaDoor.fnExactSpanCells
open Go.ChangeShapes Go.WideShapes Go.ChangeAt Go.RowKit Go.Proofs.YtelcngiplpcalaaDoor.Tr
set_option linter.unusedVariables false
theorem own : ownKnob Tryd.prog.godebug = none := by kernel_rfl
theorem laidOut : laidOutB Tryd.prog = true := by kernel_rfl
set_option maxRecDepth 100000 in
set_option maxHeartbeats 1000000 in
theorem walk (x0 : GSpan) (w : World) (hw0 : okSpan x0) (hT : Laid.LSlotMasksClassSizes w) :
    Calls Tryd.prog 10 #[(.agg #[.int .i64 x0.Page, .int .i64 x0.Class, .int .i64 x0.Bits])] w fun e w' => e = .returned (.bool true) ∧ Below w.heap.size w w' := by
  have HO : Hid True := trivial
  have HT_ := Lib.hid hT
  clear hT
  obtain ⟨s0, hs0⟩ : ∃ s, w.heap.size = s := ⟨_, rfl⟩
  have HBL : Hid (Below w.heap.size w w) := Below.refl _ _
  have hb_ : Below w.heap.size w (w.alloc (.cells #[.int .i64 x0.Page, .int .i64 x0.Class, .int .i64 x0.Bits] 40)) := (Below.refl _ _).alloc (Nat.le_refl _) _
  have hx_ : (w.alloc (.cells #[.int .i64 x0.Page, .int .i64 x0.Class, .int .i64 x0.Bits] 40)).heap[s0]? = some (.cells #[.int .i64 x0.Page, .int .i64 x0.Class, .int .i64 x0.Bits] 40 (0, 0)) := by rw [← hs0]; exact heap_alloc_new _ _
  have hz_ : (w.alloc (.cells #[.int .i64 x0.Page, .int .i64 x0.Class, .int .i64 x0.Bits] 40)).heap.size = s0 + 1 := by simp [hs0]
  obtain ⟨w1, HW_w1⟩ : ∃ z, (w.alloc (.cells #[.int .i64 x0.Page, .int .i64 x0.Class, .int .i64 x0.Bits] 40)) = z := ⟨_, rfl⟩
  rw [HW_w1] at hb_ hx_ hz_
  have HBL' := Lib.hid (below_step HBL.out hb_)
  clear HBL
  have HBL := HBL'
  clear HBL'
  have HX_aS := Lib.hid hx_
  clear hx_
  obtain ⟨s2, hs2⟩ : ∃ s, w1.heap.size = s := ⟨_, rfl⟩
  have hls2 : s0 + 1 = s2 := by omega
  have HWE_w1 := Lib.hid HW_w1
  clear HW_w1 hb_ hz_
  go_enter Tryd.func10, Tryd.ntmps10
  have hc3 : w1.cell? ⟨s0, 0, none⟩ = some (.int .i64 x0.Page) := cell_of_block HX_aS.out 0
  have hc4 : w1.cell? ⟨s0, 1, none⟩ = some (.int .i64 x0.Class) := cell_of_block HX_aS.out 1
  have hc5 : w1.cell? ⟨s0, 2, none⟩ = some (.int .i64 x0.Bits) := cell_of_block HX_aS.out 2
  go_wp2_with fail
  rw [HWE_w1.out]
  clear HWE_w1
  refine (h_toSpan x0 w1).mono ?_
  rintro e w7 ⟨rfl, hb_⟩
  have HX_aS' := Lib.hid ((hb_.block s0 (by omega)).trans HX_aS.out)
  clear HX_aS
  have HX_aS := HX_aS'
  clear HX_aS'
  have HBL' := Lib.hid (below_step HBL.out hb_)
  clear HBL
  have HBL := HBL'
  clear HBL'
  obtain ⟨s8, hs8⟩ : ∃ s, w7.heap.size = s := ⟨_, rfl⟩
  have hls8 : s2 ≤ s8 := by have := hb_.size; omega
  clear hb_
  go_wp2_with fail
  refine (spec_SpanCells x0 w7).mono ?_
  rintro e w9 ⟨u_, rfl, hm_, hb_⟩
  have hsh_ := hm_
  obtain ⟨bs_, hsh_, _⟩ := hsh_
  obtain ⟨Ak10, nk10, pk10, rfl⟩ := own_slice1 hsh_
  clear hsh_
  rw [hs8] at hm_
  have HX_aS' := Lib.hid ((hb_.block s0 (by omega)).trans HX_aS.out)
  clear HX_aS
  have HX_aS := HX_aS'
  clear HX_aS'
  have HBL' := Lib.hid (below_step HBL.out hb_)
  clear HBL
  have HBL := HBL'
  clear HBL'
  obtain ⟨s11, hs11⟩ : ∃ s, w9.heap.size = s := ⟨_, rfl⟩
  have hls11 : s8 ≤ s11 := by have := hb_.size; omega
  have HM_w0 := Lib.hid (hm_.toIn (Nat.le_of_eq hs11))
  clear hm_ hb_
  simp only [List.headD_cons]
  have hsr : (eIntS (pSpanCells x0)).sz ≤ 50000000 := bound_SpanCells x0 
  have hc12 : w9.cell? ⟨s0, 0, none⟩ = some (.int .i64 x0.Page) := cell_of_block HX_aS.out 0
  have hc13 : w9.cell? ⟨s0, 1, none⟩ = some (.int .i64 x0.Class) := cell_of_block HX_aS.out 1
  have hc14 : w9.cell? ⟨s0, 2, none⟩ = some (.int .i64 x0.Bits) := cell_of_block HX_aS.out 2
  go_wp2_with fail
  refine (h_toSpan x0 w9).mono ?_
  rintro e w16 ⟨rfl, hb_⟩
  have HX_aS' := Lib.hid ((hb_.block s0 (by omega)).trans HX_aS.out)
  clear HX_aS
  have HX_aS := HX_aS'
  clear HX_aS'
  have HM_w0' := Lib.hid (HM_w0.out.below hb_)
  clear HM_w0
  have HM_w0 := HM_w0'
  clear HM_w0'
  have HBL' := Lib.hid (below_step HBL.out hb_)
  clear HBL
  have HBL := HBL'
  clear HBL'
  obtain ⟨s17, hs17⟩ : ∃ s, w16.heap.size = s := ⟨_, rfl⟩
  have hls17 : s11 ≤ s17 := by have := hb_.size; omega
  clear hb_
  go_wp2_with fail
  refine (impl_SpanCells x0 w16 (HT_.out.below HBL.out).slotMasks (HT_.out.below HBL.out).classSizes).mono ?_
  rintro e w18 ⟨u_, rfl, hm_, hb_⟩
  have hsh_ := hm_
  obtain ⟨bs_, hsh_, _⟩ := hsh_
  obtain ⟨Ak19, nk19, pk19, rfl⟩ := own_slice1 hsh_
  clear hsh_
  rw [hs17] at hm_
  have HX_aS' := Lib.hid ((hb_.block s0 (by omega)).trans HX_aS.out)
  clear HX_aS
  have HX_aS := HX_aS'
  clear HX_aS'
  have HM_w0' := Lib.hid (HM_w0.out.below hb_)
  clear HM_w0
  have HM_w0 := HM_w0'
  clear HM_w0'
  have HBL' := Lib.hid (below_step HBL.out hb_)
  clear HBL
  have HBL := HBL'
  clear HBL'
  obtain ⟨s20, hs20⟩ : ∃ s, w18.heap.size = s := ⟨_, rfl⟩
  have hls20 : s17 ≤ s20 := by have := hb_.size; omega
  have HM_g0 := Lib.hid (hm_.toIn (Nat.le_of_eq hs20))
  clear hm_ hb_
  simp only [List.headD_cons]
  go_wp2_with fail
  refine (h_eqIntS (pSpanCells x0) (.slice Ak19 nk19 pk19) (.slice Ak10 nk10 pk10) w18 HM_g0.out.rd HM_w0.out.rd (by omega)).mono ?_
  rintro e w21 ⟨rfl, hb_⟩
  have HX_aS' := Lib.hid ((hb_.block s0 (by omega)).trans HX_aS.out)
  clear HX_aS
  have HX_aS := HX_aS'
  clear HX_aS'
  have HM_w0' := Lib.hid (HM_w0.out.below hb_)
  clear HM_w0
  have HM_w0 := HM_w0'
  clear HM_w0'
  have HM_g0' := Lib.hid (HM_g0.out.below hb_)
  clear HM_g0
  have HM_g0 := HM_g0'
  clear HM_g0'
  have HBL' := Lib.hid (below_step HBL.out hb_)
  clear HBL
  have HBL := HBL'
  clear HBL'
  obtain ⟨s22, hs22⟩ : ∃ s, w21.heap.size = s := ⟨_, rfl⟩
  have hls22 : s20 ≤ s22 := by have := hb_.size; omega
  clear hb_
  go_wp2_with fail
  have hcb := cntb_IntS (pSpanCells x0)
  have hct := cntTop_le (eIntS (pSpanCells x0))
  refine (mark_in HM_g0.out (fun bs_ ho_ hn_ => h_markIntS (pSpanCells x0) _ _ _ bs_ 1 w21 ho_ hn_ (by omega) (by omega))).mono ?_
  rintro e w23 ⟨rfl, hm_, ht_⟩
  obtain ⟨k24, hkk24⟩ : ∃ q : Nat, 1 + (eIntS (pSpanCells x0)).cntTop = q := ⟨_, rfl⟩
  rw [hkk24]
  have HKk24 := Lib.hid hkk24
  clear hcb hct hkk24 
  have HX_aS' := Lib.hid ((ht_.block s0 (by omega) (by omega)).trans HX_aS.out)
  clear HX_aS
  have HX_aS := HX_aS'
  clear HX_aS'
  have HM_w0' := Lib.hid (HM_w0.out.turn ht_ (by omega))
  clear HM_w0
  have HM_w0 := HM_w0'
  clear HM_w0'
  clear HM_g0
  have HM_g0 := Lib.hid hm_
  have HBL' := Lib.hid (HBL.out.trans (ht_.below (B := w.heap.size) (by omega) (by omega)))
  clear HBL
  have HBL := HBL'
  clear HBL'
  obtain ⟨s25, hs25⟩ : ∃ s, w23.heap.size = s := ⟨_, rfl⟩
  have hls25 : s22 ≤ s25 := by have := ht_.size; omega
  clear hm_ ht_
  go_wp2_with fail
  have hcb := cntb_IntS (pSpanCells x0)
  have hct := cntTop_le (eIntS (pSpanCells x0))
  refine (h_heldIntS (pSpanCells x0) (.slice Ak19 nk19 pk19) 1 w23 HM_g0.out.rd (by omega) (by omega)).mono ?_
  rintro e w26 ⟨rfl, hb_⟩
  rw [HKk24.out]
  clear hcb hct
  have HX_aS' := Lib.hid ((hb_.block s0 (by omega)).trans HX_aS.out)
  clear HX_aS
  have HX_aS := HX_aS'
  clear HX_aS'
  have HM_w0' := Lib.hid (HM_w0.out.below hb_)
  clear HM_w0
  have HM_w0 := HM_w0'
  clear HM_w0'
  have HM_g0' := Lib.hid (HM_g0.out.below hb_)
  clear HM_g0
  have HM_g0 := HM_g0'
  clear HM_g0'
  have HBL' := Lib.hid (below_step HBL.out hb_)
  clear HBL
  have HBL := HBL'
  clear HBL'
  obtain ⟨s27, hs27⟩ : ∃ s, w26.heap.size = s := ⟨_, rfl⟩
  have hls27 : s25 ≤ s27 := by have := hb_.size; omega
  clear hb_
  have hc28 : w26.cell? ⟨s0, 0, none⟩ = some (.int .i64 x0.Page) := cell_of_block HX_aS.out 0
  have hc29 : w26.cell? ⟨s0, 1, none⟩ = some (.int .i64 x0.Class) := cell_of_block HX_aS.out 1
  have hc30 : w26.cell? ⟨s0, 2, none⟩ = some (.int .i64 x0.Bits) := cell_of_block HX_aS.out 2
  go_wp2_with fail
  refine (h_toSpan x0 w26).mono ?_
  rintro e w32 ⟨rfl, hb_⟩
  have HX_aS' := Lib.hid ((hb_.block s0 (by omega)).trans HX_aS.out)
  clear HX_aS
  have HX_aS := HX_aS'
  clear HX_aS'
  have HM_w0' := Lib.hid (HM_w0.out.below hb_)
  clear HM_w0
  have HM_w0 := HM_w0'
  clear HM_w0'
  have HM_g0' := Lib.hid (HM_g0.out.below hb_)
  clear HM_g0
  have HM_g0 := HM_g0'
  clear HM_g0'
  have HBL' := Lib.hid (below_step HBL.out hb_)
  clear HBL
  have HBL := HBL'
  clear HBL'
  obtain ⟨s33, hs33⟩ : ∃ s, w32.heap.size = s := ⟨_, rfl⟩
  have hls33 : s27 ≤ s33 := by have := hb_.size; omega
  clear hb_
  go_wp2_with fail
  refine (impl_SpanCells x0 w32 (HT_.out.below HBL.out).slotMasks (HT_.out.below HBL.out).classSizes).mono ?_
  rintro e w34 ⟨u_, rfl, hm_, hb_⟩
  have hsh_ := hm_
  obtain ⟨bs_, hsh_, _⟩ := hsh_
  obtain ⟨Ak35, nk35, pk35, rfl⟩ := own_slice1 hsh_
  clear hsh_
  rw [hs33] at hm_
  have HX_aS' := Lib.hid ((hb_.block s0 (by omega)).trans HX_aS.out)
  clear HX_aS
  have HX_aS := HX_aS'
  clear HX_aS'
  have HM_w0' := Lib.hid (HM_w0.out.below hb_)
  clear HM_w0
  have HM_w0 := HM_w0'
  clear HM_w0'
  have HM_g0' := Lib.hid (HM_g0.out.below hb_)
  clear HM_g0
  have HM_g0 := HM_g0'
  clear HM_g0'
  have HBL' := Lib.hid (below_step HBL.out hb_)
  clear HBL
  have HBL := HBL'
  clear HBL'
  obtain ⟨s36, hs36⟩ : ∃ s, w34.heap.size = s := ⟨_, rfl⟩
  have hls36 : s33 ≤ s36 := by have := hb_.size; omega
  have HM_h0 := Lib.hid (hm_.toIn (Nat.le_of_eq hs36))
  clear hm_ hb_
  simp only [List.headD_cons]
  go_wp2_with fail
  refine (h_eqIntS (pSpanCells x0) (.slice Ak35 nk35 pk35) (.slice Ak10 nk10 pk10) w34 HM_h0.out.rd HM_w0.out.rd (by omega)).mono ?_
  rintro e w37 ⟨rfl, hb_⟩
  have HX_aS' := Lib.hid ((hb_.block s0 (by omega)).trans HX_aS.out)
  clear HX_aS
  have HX_aS := HX_aS'
  clear HX_aS'
  have HM_w0' := Lib.hid (HM_w0.out.below hb_)
  clear HM_w0
  have HM_w0 := HM_w0'
  clear HM_w0'
  have HM_g0' := Lib.hid (HM_g0.out.below hb_)
  clear HM_g0
  have HM_g0 := HM_g0'
  clear HM_g0'
  have HM_h0' := Lib.hid (HM_h0.out.below hb_)
  clear HM_h0
  have HM_h0 := HM_h0'
  clear HM_h0'
  have HBL' := Lib.hid (below_step HBL.out hb_)
  clear HBL
  have HBL := HBL'
  clear HBL'
  obtain ⟨s38, hs38⟩ : ∃ s, w37.heap.size = s := ⟨_, rfl⟩
  have hls38 : s36 ≤ s38 := by have := hb_.size; omega
  clear hb_
  go_wp2_with fail
  have hcb := cntb_IntS (pSpanCells x0)
  have hct := cntTop_le (eIntS (pSpanCells x0))
  refine (h_heldIntS (pSpanCells x0) (.slice Ak19 nk19 pk19) 1 w37 HM_g0.out.rd (by omega) (by omega)).mono ?_
  rintro e w39 ⟨rfl, hb_⟩
  rw [HKk24.out]
  clear hcb hct
  have HX_aS' := Lib.hid ((hb_.block s0 (by omega)).trans HX_aS.out)
  clear HX_aS
  have HX_aS := HX_aS'
  clear HX_aS'
  have HM_w0' := Lib.hid (HM_w0.out.below hb_)
  clear HM_w0
  have HM_w0 := HM_w0'
  clear HM_w0'
  have HM_g0' := Lib.hid (HM_g0.out.below hb_)
  clear HM_g0
  have HM_g0 := HM_g0'
  clear HM_g0'
  have HM_h0' := Lib.hid (HM_h0.out.below hb_)
  clear HM_h0
  have HM_h0 := HM_h0'
  clear HM_h0'
  have HBL' := Lib.hid (below_step HBL.out hb_)
  clear HBL
  have HBL := HBL'
  clear HBL'
  obtain ⟨s40, hs40⟩ : ∃ s, w39.heap.size = s := ⟨_, rfl⟩
  have hls40 : s38 ≤ s40 := by have := hb_.size; omega
  clear hb_
  go_wp2
  go_ret
  exact ⟨rfl, HBL.out⟩
set_option maxRecDepth 100000 in
theorem contract (H : Type) (enc : TypeId × Value → H) (W : World) (base : Nat) (args : Array Value) (ds gs : List (DataW H)) (before : List MemPlace)
    (hval0 : ∀ (j : Nat) t v, Tryd.f10.params[j]? = some t → args[j]? = some v → Value.okWide Tryd.prog W .any base t v)
    (hW : DataW.Whole enc Tryd.prog Tryd.f10.params.toList Rows.fnExactSpanCellsSpec.vars false W args.toList ds gs before) (hT : Laid.LSlotMasksClassSizes W) :
    Calls Tryd.prog 10 args W fun e W' => ∃ v, e = .returned v ∧ Rows.fnExactSpanCellsSpec.post enc Tryd.prog Tryd.f10 false true false false W args v W' := by
  have hval : ∀ (j : Nat) t v, Tryd.f10.params[j]? = some t → args[j]? = some v → Value.okWide Tryd.prog W .any base t v := hval0
  have hW' := hW
  obtain ⟨p, q, hA0, hV, rfl, hfz, hnd⟩ := hW
  have hA : DataW.TrodAll enc Tryd.prog W 0 (fun _ => true) true Tryd.f10.params.toList args.toList ds p := hA0
  rw [Tryd.params10] at hA hval
  obtain ⟨v0, vs0, d0, ds0, p0, q0, hargs, rfl, rfl, h0, r0⟩ := trodAll_cons hA
  obtain ⟨rfl, rfl, rfl⟩ := trodAll_nil r0
  obtain rfl : args = #[v0] := by cases args; simp_all
  obtain ⟨g0, g1, rfl⟩ := Laid.vars2 hV
  have k0 := h0
  have lt0 : ∀ x ∈ p0, x.block < W.heap.size := by obtain ⟨m, hm⟩ := k0; exact DataW.trod_lt m _ _ _ hm
  obtain ⟨x0, raw0, ok0⟩ := opens_trod opens_Span h0
  obtain ⟨cs0, rfl, _⟩ := okWide_struct Tryd.underlying40 (hval 0 40 v0 rfl rfl)
  obtain ⟨cs0⟩ := cs0
  have raw0 : Raw W (eSpan x0) cs0 := raw0
  obtain rfl := rinv_Span raw0
  clear hA0 hval0
  refine (walk x0 W ok0 hT).mono fun e W' ⟨he, bel⟩ => ?_
  subst he
  exact ⟨_, rfl, _, _, _, [], _, q, hW', trodAll_mk1 (shut_bool Tryd.underlying4 _), (trodAll_cons_mk (Below.trod laidOut (by kernel_rfl) (of_decide_eq_true (by kernel_rfl)) k0 bel lt0) trodAll_mk0), bel.trodVars laidOut (by kernel_rfl) hV, bel.frame _, fun h => by cases h⟩
theorem laid_met (os : Os) : laidMet Tryd.prog Rows.fnExactSpanCellsRow.laid ((Laid.world os).forCall (fun _ _ => 0) ⟨#[], #[.agg #[.int .i64 0, .int .i64 0, .int .i64 0]], []⟩).memory :=
  laidMet_of_run' 8 (by kernel_rfl) (by kernel_rfl)
theorem witness_row (os : Os) {H : Type} (enc : TypeId × Value → H) :
    (OpenSpec.ofChange Rows.fnExactSpanCellsSpec).preRow enc Tryd.prog Tryd.f10 Rows.fnExactSpanCellsRow.domain false Rows.fnExactSpanCellsRow.laid ((Laid.world os).forCall (fun _ _ => 0) ⟨#[], #[.agg #[.int .i64 0, .int .i64 0, .int .i64 0]], []⟩).memory #[.agg #[.int .i64 0, .int .i64 0, .int .i64 0]] := by
  have hw : (DataW.whole enc Tryd.prog ((Laid.world os).forCall (fun _ _ => 0) ⟨#[], #[.agg #[.int .i64 0, .int .i64 0, .int .i64 0]], []⟩).memory Tryd.f10.params.toList Rows.fnExactSpanCellsSpec.vars false (#[.agg #[.int .i64 0, .int .i64 0, .int .i64 0]] : Array Value).toList 8).map (fun x => (x.1, x.2.1)) = some ([.agg [.lit (.int .i64 0), .lit (.int .i64 0), .lit (.int .i64 0)]], [Rows.laid_loop_example_g00978_impl_classSizes, Rows.laid_loop_example_g00978_impl_slotMasks]) := by kernel_rfl
  obtain ⟨⟨x1, x2, x3⟩, hx, hx1⟩ := Option.map_eq_some_iff.1 hw
  simp only [Prod.mk.injEq] at hx1
  obtain ⟨rfl, rfl⟩ := hx1
  exact OpenSpec.preRow_of_cond 8 hx (by kernel_rfl) (fun k hk => by cases hk) (by kernel_rfl) (laid_met os)

set_option maxRecDepth 100000 in
theorem lifted (os : Os) (started : os.Started) (H : Type) (enc : TypeId × Value → H) (F : Stop.Interp) :
    ReturnsInHanded {} Tryd.checked os 10 .any ((OpenSpec.ofChange Rows.fnExactSpanCellsSpec).preRow enc Tryd.prog Tryd.f10 Rows.fnExactSpanCellsRow.domain false Rows.fnExactSpanCellsRow.laid) (((OpenSpec.ofChange Rows.fnExactSpanCellsSpec).at F).post enc Tryd.prog Tryd.f10 false true false false) := by
  refine returnsInHanded_of_row (C := Tryd.checked) (s := OpenSpec.ofChange Rows.fnExactSpanCellsSpec) own started (by kernel_rfl) Tryd.func10
    (witness_row_at (enc := enc) (C := Tryd.checked) false (Laid.world os) #[.agg #[.int .i64 0, .int .i64 0, .int .i64 0]] rfl (by kernel_rfl) (by kernel_rfl) (by kernel_rfl) (witness_row os enc)) ?_
  intro W base args ds gs before hval hW _ _ _ hL _ _
  exact contract H enc W base args ds gs before hval hW (Laid.has_1 hL)

theorem said : Rows.FnExactSpanCellsSaid :=
  OpenClaim.holds_of_cond 10 Tryd.f10 rfl rfl rfl rfl rfl rfl rfl ⟨rfl, rfl, rfl, rfl, rfl⟩ rfl rfl rfl rfl rfl (by kernel_rfl) Tryd.func10 (by kernel_rfl)
    (of_decide_eq_true (by kernel_rfl)) (by unfold Func.isWrapper; first | (rw [if_pos (by decide +kernel)]; kernel_rfl) | (rw [if_neg (by decide +kernel)]; exact ⟨rfl, rfl⟩))
    (fun os started H enc _ F => by rw [OpenClaim.pre_eq_preRow]; exact lifted os started H enc F)

theorem plain (f : FuncId) (fn : Func) (hf : Tryd.pinned.checked.prog.funcNamed "loop.example/g00978/laws.FnExactSpanCells" = some f) (hfn : Tryd.pinned.checked.prog.funcs[f]? = some fn) :
    false = Tryd.pinned.checked.prog.looks [] ∧ ∀ (j : Nat) t, fn.params[j]? = some t → Tryd.pinned.checked.prog.wantsStandIn t = false := by
  obtain rfl : f = 10 := Option.some.inj ((show Tryd.prog.funcNamed "loop.example/g00978/laws.FnExactSpanCells" = some 10 by kernel_rfl).symm.trans hf) |>.symm
  obtain rfl : fn = Tryd.f10 := (Option.some.inj (Tryd.func10.symm.trans hfn)).symm
  refine ⟨by kernel_rfl, fun j t ht => ?_⟩
  rw [Tryd.params10] at ht
  have hm := Array.mem_of_getElem? ht
  simp only [List.mem_toArray, List.mem_cons, List.not_mem_nil, or_false] at hm
  subst hm
  exact (show Tryd.prog.wantsStandIn 40 = false by kernel_rfl)

/-- THE CARD -/
theorem proved : Rows.FnExactSpanCellsCardSaid :=
  Claim7.holds_tied_plain_at .later [] _ _ _ _ said (fun _ h => by cases h) (by kernel_rfl) (fun _ h => by cases h) fnExactSpanCells_row_tie rfl ⟨rfl, rfl⟩ (by kernel_rfl) rfl plain (by kernel_rfl)
#print axioms proved
end Go.Proofs.YtelcngiplpcalaaDoor.fnExactSpanCells

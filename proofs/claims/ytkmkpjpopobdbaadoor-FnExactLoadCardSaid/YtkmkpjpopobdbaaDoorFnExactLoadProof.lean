/- Called with any arguments, the law FnExactLoad returns true and each argument reads afterwards as before. The listed package-level variables hold what the program's text lays. -/
import Derived.Test.YtkmkpjpopobdbaaDoorRows
import Derived.Test.YtkmkpjpopobdbaaDoorCards
import Derived.Test.YtkmkpjpopobdbaaDoorTie
import Derived.Test.YtkmkpjpopobdbaaDoorLaid
import Derived.Deep.DeepHandedRow
import Derived.Deep.DeepWitnessRowRef
import Derived.Lib.LaidTab
import Derived.OpenVars
import Derived.Test.YtkmkpjpopobdbaaDoorS07e
import Derived.Test.YtkmkpjpopobdbaaDoorEI07c
import Derived.Test.YtkmkpjpopobdbaaDoorTo
import Derived.Test.YtkmkpjpopobdbaaDoorEq
import Derived.Test.YtkmkpjpopobdbaaDoorSz
import Derived.Test.YtkmkpjpopobdbaaDoorMark
import Derived.Test.YtkmkpjpopobdbaaDoorHeld
import Derived.Test.YtkmkpjpopobdbaaDoorIn
import Derived.WalkKit
import Derived.ProofKit
import Derived.OpenShut
import Derived.ShutString
import Derived.ChangeOld
import Derived.Below
import Derived.Carry
import Derived.Deep.RegionHeld3
namespace Go.Proofs.YtkmkpjpopobdbaaDoor.fnExactLoad
open Go.ChangeShapes Go.WideShapes Go.ChangeAt Go.RowKit Go.Proofs.YtkmkpjpopobdbaaDoor.Tr
set_option linter.unusedVariables false
theorem own : ownKnob Tryd.prog.godebug = none := by kernel_rfl
theorem laidOut : laidOutB Tryd.prog = true := by kernel_rfl
set_option maxRecDepth 100000 in
set_option maxHeartbeats 1000000 in
theorem walk (x0 : GMachine) (c0_0 c0_1 c0_2 : Value) (x1 : Int) (w : World) (r0 : Raw w (eMachine x0) [c0_0, c0_1, c0_2]) (hw0 : okMachine x0) (hw1 : okI x1) (hT : Laid.LErrPageErrWriteErrValue w) :
    Calls Tryd.prog 5 #[(.agg #[c0_0, c0_1, c0_2]), (.int .i64 x1)] w fun e w' => e = .returned (.bool true) ∧ Below w.heap.size w w' := by
  have HO : Hid True := trivial
  have HT_ := Lib.hid hT
  clear hT
  have HR0 := Lib.hid r0
  clear r0
  obtain ⟨s0, hs0⟩ : ∃ s, w.heap.size = s := ⟨_, rfl⟩
  have HBL : Hid (Below w.heap.size w w) := Below.refl _ _
  have hb_ : Below w.heap.size w (w.alloc (.cells #[c0_0, c0_1, c0_2] 50)) := (Below.refl _ _).alloc (Nat.le_refl _) _
  have hx_ : (w.alloc (.cells #[c0_0, c0_1, c0_2] 50)).heap[s0]? = some (.cells #[c0_0, c0_1, c0_2] 50 (0, 0)) := by rw [← hs0]; exact heap_alloc_new _ _
  have hz_ : (w.alloc (.cells #[c0_0, c0_1, c0_2] 50)).heap.size = s0 + 1 := by simp [hs0]
  obtain ⟨w1, HW_w1⟩ : ∃ z, (w.alloc (.cells #[c0_0, c0_1, c0_2] 50)) = z := ⟨_, rfl⟩
  rw [HW_w1] at hb_ hx_ hz_
  have HBL' := Lib.hid (below_step HBL.out hb_)
  clear HBL
  have HBL := HBL'
  clear HBL'
  have HX_aM := Lib.hid hx_
  clear hx_
  obtain ⟨s2, hs2⟩ : ∃ s, w1.heap.size = s := ⟨_, rfl⟩
  have hls2 : s0 + 1 = s2 := by omega
  have HWE_w1 := Lib.hid HW_w1
  clear HW_w1 hb_ hz_
  go_enter Tryd.func5, Tryd.ntmps5
  have hc3 : w1.cell? ⟨s0, 0, none⟩ = some (c0_0) := cell_of_block HX_aM.out 0
  have hc4 : w1.cell? ⟨s0, 1, none⟩ = some (c0_1) := cell_of_block HX_aM.out 1
  have hc5 : w1.cell? ⟨s0, 2, none⟩ = some (c0_2) := cell_of_block HX_aM.out 2
  go_wp2_with fail
  rw [HWE_w1.out]
  clear HWE_w1
  refine (h_szMachine x0 c0_0 c0_1 c0_2 1048576 w1 (raw_below HBL.out _ HR0.out) (by omega)).mono ?_
  rintro e w6 ⟨hcase, hb_⟩
  have HX_aM' := Lib.hid ((hb_.block s0 (by omega)).trans HX_aM.out)
  clear HX_aM
  have HX_aM := HX_aM'
  clear HX_aM'
  have HBL' := Lib.hid (below_step HBL.out hb_)
  clear HBL
  have HBL := HBL'
  clear HBL'
  obtain ⟨s8, hs8⟩ : ∃ s, w6.heap.size = s := ⟨_, rfl⟩
  have hls8 : s2 ≤ s8 := by have := hb_.size; omega
  clear hb_
  rcases hcase with ⟨q7, hq7, rfl⟩ | ⟨_, rfl⟩
  rotate_left
  · go_wp2
    go_ret
    exact ⟨rfl, HBL.out⟩
  have hsz0 : (eMachine x0).sz ≤ 1048576 := by omega
  have hc9 : w6.cell? ⟨s0, 0, none⟩ = some (c0_0) := cell_of_block HX_aM.out 0
  have hc10 : w6.cell? ⟨s0, 1, none⟩ = some (c0_1) := cell_of_block HX_aM.out 1
  have hc11 : w6.cell? ⟨s0, 2, none⟩ = some (c0_2) := cell_of_block HX_aM.out 2
  go_wp2_with fail
  refine (h_toMachine x0 c0_0 c0_1 c0_2 w6 (raw_below HBL.out _ HR0.out) (by omega)).mono ?_
  rintro e w13 ⟨u_, rfl, hm_, hb_⟩
  have hsh_ := hm_
  obtain ⟨bs_, hsh_, _⟩ := hsh_
  obtain ⟨Ak14_0, nk14_0, pk14_0, Ak14_1, nk14_1, pk14_1, Ak14_2, nk14_2, pk14_2, rfl⟩ := sinv_Machine hsh_
  clear hsh_
  rw [hs8] at hm_
  have HX_aM' := Lib.hid ((hb_.block s0 (by omega)).trans HX_aM.out)
  clear HX_aM
  have HX_aM := HX_aM'
  clear HX_aM'
  have HBL' := Lib.hid (below_step HBL.out hb_)
  clear HBL
  have HBL := HBL'
  clear HBL'
  obtain ⟨s15, hs15⟩ : ∃ s, w13.heap.size = s := ⟨_, rfl⟩
  have hls15 : s8 ≤ s15 := by have := hb_.size; omega
  have HM_t12 := Lib.hid (hm_.toIn (Nat.le_of_eq hs15))
  clear hm_ hb_
  go_wp2_with fail
  refine (spec_Load x0 (.slice Ak14_0 nk14_0 pk14_0) (.slice Ak14_1 nk14_1 pk14_1) (.slice Ak14_2 nk14_2 pk14_2) x1 w13 HM_t12.out.rd hsz0 hw1).mono ?_
  rintro e w16 ⟨rfl, hb_⟩
  have HX_aM' := Lib.hid ((hb_.block s0 (by omega)).trans HX_aM.out)
  clear HX_aM
  have HX_aM := HX_aM'
  clear HX_aM'
  have HM_t12' := Lib.hid (HM_t12.out.below hb_)
  clear HM_t12
  have HM_t12 := HM_t12'
  clear HM_t12'
  have HBL' := Lib.hid (below_step HBL.out hb_)
  clear HBL
  have HBL := HBL'
  clear HBL'
  obtain ⟨s17, hs17⟩ : ∃ s, w16.heap.size = s := ⟨_, rfl⟩
  have hls17 : s15 ≤ s17 := by have := hb_.size; omega
  clear hb_
  have hc18 : w16.cell? ⟨s0, 0, none⟩ = some (c0_0) := cell_of_block HX_aM.out 0
  have hc19 : w16.cell? ⟨s0, 1, none⟩ = some (c0_1) := cell_of_block HX_aM.out 1
  have hc20 : w16.cell? ⟨s0, 2, none⟩ = some (c0_2) := cell_of_block HX_aM.out 2
  go_wp2_with fail
  refine (h_toMachine x0 c0_0 c0_1 c0_2 w16 (raw_below HBL.out _ HR0.out) (by omega)).mono ?_
  rintro e w21 ⟨u_, rfl, hm_, hb_⟩
  have hsh_ := hm_
  obtain ⟨bs_, hsh_, _⟩ := hsh_
  obtain ⟨Ak22_0, nk22_0, pk22_0, Ak22_1, nk22_1, pk22_1, Ak22_2, nk22_2, pk22_2, rfl⟩ := sinv_Machine hsh_
  clear hsh_
  rw [hs17] at hm_
  have HX_aM' := Lib.hid ((hb_.block s0 (by omega)).trans HX_aM.out)
  clear HX_aM
  have HX_aM := HX_aM'
  clear HX_aM'
  have HM_t12' := Lib.hid (HM_t12.out.below hb_)
  clear HM_t12
  have HM_t12 := HM_t12'
  clear HM_t12'
  have HBL' := Lib.hid (below_step HBL.out hb_)
  clear HBL
  have HBL := HBL'
  clear HBL'
  obtain ⟨s23, hs23⟩ : ∃ s, w21.heap.size = s := ⟨_, rfl⟩
  have hls23 : s17 ≤ s23 := by have := hb_.size; omega
  have HM_x0 := Lib.hid (hm_.toIn (Nat.le_of_eq hs23))
  clear hm_ hb_
  have HXP_aM := HX_aM
  have hb_ : Below w21.heap.size w21 (w21.alloc (.cells #[.slice Ak22_0 nk22_0 pk22_0, .slice Ak22_1 nk22_1 pk22_1, .slice Ak22_2 nk22_2 pk22_2] 32)) := (Below.refl _ _).alloc (Nat.le_refl _) _
  have hx_ : (w21.alloc (.cells #[.slice Ak22_0 nk22_0 pk22_0, .slice Ak22_1 nk22_1 pk22_1, .slice Ak22_2 nk22_2 pk22_2] 32)).heap[s23]? = some (.cells #[.slice Ak22_0 nk22_0 pk22_0, .slice Ak22_1 nk22_1 pk22_1, .slice Ak22_2 nk22_2 pk22_2] 32 (0, 0)) := by rw [← hs23]; exact heap_alloc_new _ _
  have hz_ : (w21.alloc (.cells #[.slice Ak22_0 nk22_0 pk22_0, .slice Ak22_1 nk22_1 pk22_1, .slice Ak22_2 nk22_2 pk22_2] 32)).heap.size = s23 + 1 := by simp [hs23]
  obtain ⟨w24, HW_w24⟩ : ∃ z, (w21.alloc (.cells #[.slice Ak22_0 nk22_0 pk22_0, .slice Ak22_1 nk22_1 pk22_1, .slice Ak22_2 nk22_2 pk22_2] 32)) = z := ⟨_, rfl⟩
  rw [HW_w24] at hb_ hx_ hz_
  have HX_aM' := Lib.hid ((hb_.block s0 (by omega)).trans HX_aM.out)
  clear HX_aM
  have HX_aM := HX_aM'
  clear HX_aM'
  have HM_t12' := Lib.hid (HM_t12.out.below hb_)
  clear HM_t12
  have HM_t12 := HM_t12'
  clear HM_t12'
  have HM_x0' := Lib.hid (HM_x0.out.below hb_)
  clear HM_x0
  have HM_x0 := HM_x0'
  clear HM_x0'
  have HBL' := Lib.hid (below_step HBL.out hb_)
  clear HBL
  have HBL := HBL'
  clear HBL'
  have HX_x0 := Lib.hid hx_
  clear hx_
  obtain ⟨s25, hs25⟩ : ∃ s, w24.heap.size = s := ⟨_, rfl⟩
  have hls25 : s23 + 1 = s25 := by omega
  have HWE_w24 := Lib.hid HW_w24
  clear HW_w24 hb_ hz_
  have hc26 : w24.cell? ⟨s23, 0, none⟩ = some (.slice Ak22_0 nk22_0 pk22_0) := cell_of_block HX_x0.out 0
  have hc27 : w24.cell? ⟨s23, 1, none⟩ = some (.slice Ak22_1 nk22_1 pk22_1) := cell_of_block HX_x0.out 1
  have hc28 : w24.cell? ⟨s23, 2, none⟩ = some (.slice Ak22_2 nk22_2 pk22_2) := cell_of_block HX_x0.out 2
  go_wp2_with fail
  rw [HWE_w24.out]
  clear HWE_w24 HXP_aM
  refine (impl_Load x0 (.slice Ak22_0 nk22_0 pk22_0) (.slice Ak22_1 nk22_1 pk22_1) (.slice Ak22_2 nk22_2 pk22_2) x1 w24 HM_x0.out.rd hsz0 hw1 (HT_.out.below HBL.out).sents).mono ?_
  rintro e w29 ⟨rfl, hb_⟩
  have HX_aM' := Lib.hid ((hb_.block s0 (by omega)).trans HX_aM.out)
  clear HX_aM
  have HX_aM := HX_aM'
  clear HX_aM'
  have HX_x0' := Lib.hid ((hb_.block s23 (by omega)).trans HX_x0.out)
  clear HX_x0
  have HX_x0 := HX_x0'
  clear HX_x0'
  have HM_t12' := Lib.hid (HM_t12.out.below hb_)
  clear HM_t12
  have HM_t12 := HM_t12'
  clear HM_t12'
  have HM_x0' := Lib.hid (HM_x0.out.below hb_)
  clear HM_x0
  have HM_x0 := HM_x0'
  clear HM_x0'
  have HBL' := Lib.hid (below_step HBL.out hb_)
  clear HBL
  have HBL := HBL'
  clear HBL'
  obtain ⟨s30, hs30⟩ : ∃ s, w29.heap.size = s := ⟨_, rfl⟩
  have hls30 : s25 ≤ s30 := by have := hb_.size; omega
  clear hb_
  go_wp2_with fail
  have HT : Hid (∀ w', Below w29.heap.size w29 w' → Calls Tryd.prog 18 #[(.agg #[c0_0, c0_1, c0_2])] w' (fun e w'' => ∃ (A_0 : Option Addr) (n_0 p_0 : Nat) (A_1 : Option Addr) (n_1 p_1 : Nat) (A_2 : Option Addr) (n_2 p_2 : Nat), e = .returned (.agg #[.slice A_0 n_0 p_0, .slice A_1 n_1 p_1, .slice A_2 n_2 p_2]) ∧ Rd w'' (eMachine x0) [.slice A_0 n_0 p_0, .slice A_1 n_1 p_1, .slice A_2 n_2 p_2] ∧ Below w29.heap.size w29 w'')) := fun w' hb => (h_toMachine x0 c0_0 c0_1 c0_2 w' (raw_below (below_step HBL.out hb) _ HR0.out) (by omega)).mono (by
    rintro e w'' ⟨u_, rfl, hm_, hb_⟩
    have hsh_ := hm_
    obtain ⟨bs_, hsh_, _⟩ := hsh_
    obtain ⟨A_0, n_0, p_0, A_1, n_1, p_1, A_2, n_2, p_2, rfl⟩ := sinv_Machine hsh_
    exact ⟨A_0, n_0, p_0, A_1, n_1, p_1, A_2, n_2, p_2, rfl, hm_.rd, below_step hb hb_⟩)
  have HE : Hid (∀ w' (A_0 : Option Addr) (n_0 p_0 : Nat) (A_1 : Option Addr) (n_1 p_1 : Nat) (A_2 : Option Addr) (n_2 p_2 : Nat), Below w29.heap.size w29 w' → Rd w' (eMachine x0) [.slice A_0 n_0 p_0, .slice A_1 n_1 p_1, .slice A_2 n_2 p_2] → Calls Tryd.prog 19 #[(.agg #[.slice Ak22_0 nk22_0 pk22_0, .slice Ak22_1 nk22_1 pk22_1, .slice Ak22_2 nk22_2 pk22_2]), (.agg #[.slice A_0 n_0 p_0, .slice A_1 n_1 p_1, .slice A_2 n_2 p_2])] w' (fun e w'' => e = .returned (.bool true) ∧ Below w29.heap.size w29 w'')) := fun w' A_0 n_0 p_0 A_1 n_1 p_1 A_2 n_2 p_2 hb hr => (h_eqMachine x0 (.slice Ak22_0 nk22_0 pk22_0) (.slice Ak22_1 nk22_1 pk22_1) (.slice Ak22_2 nk22_2 pk22_2) (.slice A_0 n_0 p_0) (.slice A_1 n_1 p_1) (.slice A_2 n_2 p_2) w' (HM_x0.out.rd.below hb) hr (by omega)).mono (fun _ _ h => ⟨h.1, below_step hb h.2⟩)
  have hrf_ : Below w29.heap.size w29 w29.drew := (Below.refl _ _).drew
  have HK : Hid (∀ w', Below w29.heap.size w29 w' → w'.cell? ⟨s23, 0, none⟩ = some (.slice Ak22_0 nk22_0 pk22_0) ∧ w'.cell? ⟨s23, 1, none⟩ = some (.slice Ak22_1 nk22_1 pk22_1) ∧ w'.cell? ⟨s23, 2, none⟩ = some (.slice Ak22_2 nk22_2 pk22_2) ∧ w'.cell? ⟨s0, 0, none⟩ = some (c0_0) ∧ w'.cell? ⟨s0, 1, none⟩ = some (c0_1) ∧ w'.cell? ⟨s0, 2, none⟩ = some (c0_2) ∧ Below w29.heap.size w29 w') := fun w' hb => ⟨cell_below hb (cell_of_block HX_x0.out 0), cell_below hb (cell_of_block HX_x0.out 1), cell_below hb (cell_of_block HX_x0.out 2), cell_below hb (cell_of_block HX_aM.out 0), cell_below hb (cell_of_block HX_aM.out 1), cell_below hb (cell_of_block HX_aM.out 2), hb⟩
  go_region_held3 (fun w' => w'.cell? ⟨s23, 0, none⟩ = some (.slice Ak22_0 nk22_0 pk22_0) ∧ w'.cell? ⟨s23, 1, none⟩ = some (.slice Ak22_1 nk22_1 pk22_1) ∧ w'.cell? ⟨s23, 2, none⟩ = some (.slice Ak22_2 nk22_2 pk22_2) ∧ w'.cell? ⟨s0, 0, none⟩ = some (c0_0) ∧ w'.cell? ⟨s0, 1, none⟩ = some (c0_1) ∧ w'.cell? ⟨s0, 2, none⟩ = some (c0_2) ∧ Below w29.heap.size w29 w') (first | exact HK.out _ hrf_ | exact HK.out _ (by assumption)) (first | (go_at_call 18; refine (HT.out _ (by first | exact hrf_ | assumption)).mono ?_; rintro e wt_ ⟨A_0, n_0, p_0, A_1, n_1, p_1, A_2, n_2, p_2, rfl, hrt_, hbt_⟩) | (go_at_call 19; refine (HE.out _ _ _ _ _ _ _ _ _ _ (by first | exact hbt_ | assumption) (by first | exact hrt_ | assumption)).mono ?_; rintro e we_ ⟨rfl, hbe_⟩))
  obtain ⟨w31, hn_⟩ : ∃ z, we_ = z := ⟨_, rfl⟩
  rw [hn_] at hbe_
  rw [hn_]
  have HX_aM' := Lib.hid ((hbe_.block s0 (by omega)).trans HX_aM.out)
  clear HX_aM
  have HX_aM := HX_aM'
  clear HX_aM'
  have HX_x0' := Lib.hid ((hbe_.block s23 (by omega)).trans HX_x0.out)
  clear HX_x0
  have HX_x0 := HX_x0'
  clear HX_x0'
  have HM_t12' := Lib.hid (HM_t12.out.below hbe_)
  clear HM_t12
  have HM_t12 := HM_t12'
  clear HM_t12'
  have HM_x0' := Lib.hid (HM_x0.out.below hbe_)
  clear HM_x0
  have HM_x0 := HM_x0'
  clear HM_x0'
  have HBL' := Lib.hid (below_step HBL.out hbe_)
  clear HBL
  have HBL := HBL'
  clear HBL'
  obtain ⟨s32, hs32⟩ : ∃ s, w31.heap.size = s := ⟨_, rfl⟩
  have hls32 : s30 ≤ s32 := by have := hbe_.size; omega
  clear hbe_ hbt_ HT HE HK hrf_ hn_ hrt_
  go_wp2
  go_ret
  exact ⟨rfl, HBL.out⟩
set_option maxRecDepth 100000 in
theorem contract (H : Type) (enc : TypeId × Value → H) (W : World) (base : Nat) (args : Array Value) (ds gs : List (DataW H)) (before : List MemPlace)
    (hval0 : ∀ (j : Nat) t v, Tryd.f5.params[j]? = some t → args[j]? = some v → Value.okWide Tryd.prog W .any base t v)
    (hW : DataW.Whole enc Tryd.prog Tryd.f5.params.toList Rows.fnExactLoadSpec.vars false W args.toList ds gs before) (hT : Laid.LErrPageErrWriteErrValue W) :
    Calls Tryd.prog 5 args W fun e W' => ∃ v, e = .returned v ∧ Rows.fnExactLoadSpec.post enc Tryd.prog Tryd.f5 false true false false W args v W' := by
  have hval : ∀ (j : Nat) t v, Tryd.f5.params[j]? = some t → args[j]? = some v → Value.okWide Tryd.prog W .any base t v := hval0
  have hW' := hW
  obtain ⟨p, q, hA0, hV, rfl, hfz, hnd⟩ := hW
  have hA : DataW.TrodAll enc Tryd.prog W 0 (fun _ => true) true Tryd.f5.params.toList args.toList ds p := hA0
  rw [Tryd.params5] at hA hval
  obtain ⟨v0, vs0, d0, ds0, p0, q0, hargs, rfl, rfl, h0, r0⟩ := trodAll_cons hA
  obtain ⟨v1, vs1, d1, ds1, p1, q1, rfl, rfl, rfl, h1, r1⟩ := trodAll_cons r0
  obtain ⟨rfl, rfl, rfl⟩ := trodAll_nil r1
  obtain rfl : args = #[v0, v1] := by cases args; simp_all
  obtain ⟨g0, g1, g2, rfl⟩ := Laid.vars3 hV
  have k0 := h0
  have lt0 : ∀ x ∈ p0, x.block < W.heap.size := by obtain ⟨m, hm⟩ := k0; exact DataW.trod_lt m _ _ _ hm
  obtain ⟨x0, raw0, ok0⟩ := opens_trod opens_Machine h0
  obtain ⟨cs0, rfl, _⟩ := okWide_struct Tryd.underlying50 (hval 0 50 v0 rfl rfl)
  obtain ⟨cs0⟩ := cs0
  have raw0 : Raw W (eMachine x0) cs0 := raw0
  obtain ⟨c0_0, c0_1, c0_2, rfl⟩ := rinv_Machine raw0
  obtain ⟨a1, rfl, rfl, rfl, w1⟩ := open_int Tryd.underlying3 (hval 1 3 v1 rfl rfl) h1
  clear hA0 hval0
  refine (walk x0 c0_0 c0_1 c0_2 a1 W raw0 ok0 (okI_wf w1) hT).mono fun e W' ⟨he, bel⟩ => ?_
  subst he
  exact ⟨_, rfl, _, _, _, [], _, q, hW', trodAll_mk1 (shut_bool Tryd.underlying4 _), (trodAll_cons_mk (Below.trod laidOut (by kernel_rfl) (of_decide_eq_true (by kernel_rfl)) k0 bel lt0) (trodAll_cons_mk (shut_int Tryd.underlying3 w1) trodAll_mk0)), bel.trodVars laidOut (by kernel_rfl) hV, bel.frame _, fun h => by cases h⟩
theorem laid_met (os : Os) : laidMet Tryd.prog Rows.fnExactLoadRow.laid ((Laid.world os).forCall (fun _ _ => 0) ⟨#[], #[.agg #[.slice none 0 0, .slice none 0 0, .slice none 0 0], .int .i64 0], []⟩).memory :=
  laidMet_of_run' 8 (by kernel_rfl) (by kernel_rfl)
theorem witness_row (os : Os) {H : Type} (enc : TypeId × Value → H) :
    (OpenSpec.ofChange Rows.fnExactLoadSpec).preRow enc Tryd.prog Tryd.f5 Rows.fnExactLoadRow.domain false Rows.fnExactLoadRow.laid ((Laid.world os).forCall (fun _ _ => 0) ⟨#[], #[.agg #[.slice none 0 0, .slice none 0 0, .slice none 0 0], .int .i64 0], []⟩).memory #[.agg #[.slice none 0 0, .slice none 0 0, .slice none 0 0], .int .i64 0] := by
  have hw : (DataW.whole enc Tryd.prog ((Laid.world os).forCall (fun _ _ => 0) ⟨#[], #[.agg #[.slice none 0 0, .slice none 0 0, .slice none 0 0], .int .i64 0], []⟩).memory Tryd.f5.params.toList Rows.fnExactLoadSpec.vars false (#[.agg #[.slice none 0 0, .slice none 0 0, .slice none 0 0], .int .i64 0] : Array Value).toList 8).map (fun x => (x.1, x.2.1)) = some ([.agg [.agg [.nil, .nil], .agg [.nil]], .lit (.int .i64 0)], [.held (enc (133, .pointer (some ⟨(World.settled Tryd.prog os).heap.size + 0, 0, none⟩))), .held (enc (133, .pointer (some ⟨(World.settled Tryd.prog os).heap.size + 1, 0, none⟩))), .held (enc (133, .pointer (some ⟨(World.settled Tryd.prog os).heap.size + 2, 0, none⟩)))]) := by kernel_rfl
  obtain ⟨⟨x1, x2, x3⟩, hx, hx1⟩ := Option.map_eq_some_iff.1 hw
  simp only [Prod.mk.injEq] at hx1
  obtain ⟨rfl, rfl⟩ := hx1
  exact OpenSpec.preRow_of_cond 8 hx (by kernel_rfl) (fun k hk => by cases hk) (by kernel_rfl) (laid_met os)

set_option maxRecDepth 100000 in
theorem lifted (os : Os) (started : os.Started) (H : Type) (enc : TypeId × Value → H) (F : Stop.Interp) :
    ReturnsInHanded {} Tryd.checked os 5 .any ((OpenSpec.ofChange Rows.fnExactLoadSpec).preRow enc Tryd.prog Tryd.f5 Rows.fnExactLoadRow.domain false Rows.fnExactLoadRow.laid) (((OpenSpec.ofChange Rows.fnExactLoadSpec).at F).post enc Tryd.prog Tryd.f5 false true false false) := by
  refine returnsInHanded_of_row (C := Tryd.checked) (s := OpenSpec.ofChange Rows.fnExactLoadSpec) own started (by kernel_rfl) Tryd.func5
    (witness_row_atRef (enc := enc) (C := Tryd.checked) false (Laid.world os) #[.agg #[.slice none 0 0, .slice none 0 0, .slice none 0 0], .int .i64 0] rfl (by kernel_rfl) (by kernel_rfl) (by kernel_rfl) (witness_row os enc)) ?_
  intro W base args ds gs before hval hW _ _ _ hL _ _
  exact contract H enc W base args ds gs before hval hW (Laid.has_1 hL)

theorem said : Rows.FnExactLoadSaid :=
  OpenClaim.holds_of_cond 5 Tryd.f5 rfl rfl rfl rfl rfl rfl rfl ⟨rfl, rfl, rfl, rfl, rfl⟩ rfl rfl rfl rfl rfl (by kernel_rfl) Tryd.func5 (by kernel_rfl)
    (of_decide_eq_true (by kernel_rfl)) (by unfold Func.isWrapper; first | (rw [if_pos (by decide +kernel)]; kernel_rfl) | (rw [if_neg (by decide +kernel)]; exact ⟨rfl, rfl⟩))
    (fun os started H enc _ F => by rw [OpenClaim.pre_eq_preRow]; exact lifted os started H enc F)

theorem plain (f : FuncId) (fn : Func) (hf : Tryd.pinned.checked.prog.funcNamed "loop.example/g00978/laws.FnExactLoad" = some f) (hfn : Tryd.pinned.checked.prog.funcs[f]? = some fn) :
    true = Tryd.pinned.checked.prog.looks [] ∧ ∀ (j : Nat) t, fn.params[j]? = some t → Tryd.pinned.checked.prog.wantsStandIn t = false := by
  obtain rfl : f = 5 := Option.some.inj ((show Tryd.prog.funcNamed "loop.example/g00978/laws.FnExactLoad" = some 5 by kernel_rfl).symm.trans hf) |>.symm
  obtain rfl : fn = Tryd.f5 := (Option.some.inj (Tryd.func5.symm.trans hfn)).symm
  refine ⟨by kernel_rfl, fun j t ht => ?_⟩
  rw [Tryd.params5] at ht
  have hm := Array.mem_of_getElem? ht
  simp only [List.mem_toArray, List.mem_cons, List.not_mem_nil, or_false] at hm
  rcases hm with rfl | rfl
  · exact (show Tryd.prog.wantsStandIn 50 = false by kernel_rfl)
  · exact (show Tryd.prog.wantsStandIn 3 = false by kernel_rfl)

/-- THE CARD -/
theorem proved : Rows.FnExactLoadCardSaid :=
  Claim7.holds_tied_plain_at .later [] _ _ _ _ said (fun _ h => by cases h) (by kernel_rfl) (fun _ h => by cases h) fnExactLoad_row_tie rfl ⟨rfl, rfl⟩ (by kernel_rfl) rfl plain (by kernel_rfl)
#print axioms proved
end Go.Proofs.YtkmkpjpopobdbaaDoor.fnExactLoad

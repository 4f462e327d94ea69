/- Called with any arguments, the law FnExactPageText returns true and each argument reads afterwards as before. The listed package-level variables hold what the program's text lays. -/
import Derived.Test.YtkmkpjpopobdbaaDoorRows
import Derived.Test.YtkmkpjpopobdbaaDoorCards
import Derived.Test.YtkmkpjpopobdbaaDoorTie
import Derived.Test.YtkmkpjpopobdbaaDoorLaid
import Derived.Deep.DeepHandedRow
import Derived.Deep.DeepWitnessRowRef
import Derived.Lib.LaidTab
import Derived.OpenVars
import Derived.Test.YtkmkpjpopobdbaaDoorS07e
import Derived.Test.YtkmkpjpopobdbaaDoorEI07c
import Derived.Test.YtkmkpjpopobdbaaDoorTo
import Derived.Test.YtkmkpjpopobdbaaDoorEq
import Derived.Test.YtkmkpjpopobdbaaDoorSz
import Derived.Test.YtkmkpjpopobdbaaDoorMark
import Derived.Test.YtkmkpjpopobdbaaDoorHeld
import Derived.Test.YtkmkpjpopobdbaaDoorIn
import Derived.WalkKit
import Derived.ProofKit
import Derived.OpenShut
import Derived.ShutString
import Derived.ChangeOld
import Derived.Below
import Derived.Carry
import Derived.Deep.RegionHeld3
namespace Go.Proofs.YtkmkpjpopobdbaaDoor.fnExactPageText
open Go.ChangeShapes Go.WideShapes Go.ChangeAt Go.RowKit Go.Proofs.YtkmkpjpopobdbaaDoor.Tr
set_option linter.unusedVariables false
theorem own : ownKnob Tryd.prog.godebug = none := by kernel_rfl
theorem laidOut : laidOutB Tryd.prog = true := by kernel_rfl
set_option maxRecDepth 100000 in
set_option maxHeartbeats 1000000 in
theorem walk (x0 : GMachine) (c0_0 c0_1 c0_2 : Value) (x1 : Int) (w : World) (r0 : Raw w (eMachine x0) [c0_0, c0_1, c0_2]) (hw0 : okMachine x0) (hw1 : okI x1) (hT : Laid.LErrPage w) :
    Calls Tryd.prog 7 #[(.agg #[c0_0, c0_1, c0_2]), (.int .i64 x1)] w fun e w' => e = .returned (.bool true) ∧ Below w.heap.size w w' := by
  have HO : Hid True := trivial
  have HT_ := Lib.hid hT
  clear hT
  have HR0 := Lib.hid r0
  clear r0
  obtain ⟨s0, hs0⟩ : ∃ s, w.heap.size = s := ⟨_, rfl⟩
  have HBL : Hid (Below w.heap.size w w) := Below.refl _ _
  have hb_ : Below w.heap.size w (w.alloc (.cells #[c0_0, c0_1, c0_2] 50)) := (Below.refl _ _).alloc (Nat.le_refl _) _
  have hx_ : (w.alloc (.cells #[c0_0, c0_1, c0_2] 50)).heap[s0]? = some (.cells #[c0_0, c0_1, c0_2] 50 (0, 0)) := by rw [← hs0]; exact heap_alloc_new _ _
  have hz_ : (w.alloc (.cells #[c0_0, c0_1, c0_2] 50)).heap.size = s0 + 1 := by simp [hs0]
  obtain ⟨w1, HW_w1⟩ : ∃ z, (w.alloc (.cells #[c0_0, c0_1, c0_2] 50)) = z := ⟨_, rfl⟩
  rw [HW_w1] at hb_ hx_ hz_
  have HBL' := Lib.hid (below_step HBL.out hb_)
  clear HBL
  have HBL := HBL'
  clear HBL'
  have HX_aM := Lib.hid hx_
  clear hx_
  obtain ⟨s2, hs2⟩ : ∃ s, w1.heap.size = s := ⟨_, rfl⟩
  have hls2 : s0 + 1 = s2 := by omega
  have HWE_w1 := Lib.hid HW_w1
  clear HW_w1 hb_ hz_
  go_enter Tryd.func7, Tryd.ntmps7
  have hc3 : w1.cell? ⟨s0, 0, none⟩ = some (c0_0) := cell_of_block HX_aM.out 0
  have hc4 : w1.cell? ⟨s0, 1, none⟩ = some (c0_1) := cell_of_block HX_aM.out 1
  have hc5 : w1.cell? ⟨s0, 2, none⟩ = some (c0_2) := cell_of_block HX_aM.out 2
  go_wp2_with fail
  rw [HWE_w1.out]
  clear HWE_w1
  refine (h_szMachine x0 c0_0 c0_1 c0_2 1048576 w1 (raw_below HBL.out _ HR0.out) (by omega)).mono ?_
  rintro e w6 ⟨hcase, hb_⟩
  have HX_aM' := Lib.hid ((hb_.block s0 (by omega)).trans HX_aM.out)
  clear HX_aM
  have HX_aM := HX_aM'
  clear HX_aM'
  have HBL' := Lib.hid (below_step HBL.out hb_)
  clear HBL
  have HBL := HBL'
  clear HBL'
  obtain ⟨s8, hs8⟩ : ∃ s, w6.heap.size = s := ⟨_, rfl⟩
  have hls8 : s2 ≤ s8 := by have := hb_.size; omega
  clear hb_
  rcases hcase with ⟨q7, hq7, rfl⟩ | ⟨_, rfl⟩
  rotate_left
  · go_wp2
    go_ret
    exact ⟨rfl, HBL.out⟩
  have hsz0 : (eMachine x0).sz ≤ 1048576 := by omega
  have hc9 : w6.cell? ⟨s0, 0, none⟩ = some (c0_0) := cell_of_block HX_aM.out 0
  have hc10 : w6.cell? ⟨s0, 1, none⟩ = some (c0_1) := cell_of_block HX_aM.out 1
  have hc11 : w6.cell? ⟨s0, 2, none⟩ = some (c0_2) := cell_of_block HX_aM.out 2
  go_wp2_with fail
  refine (h_toMachine x0 c0_0 c0_1 c0_2 w6 (raw_below HBL.out _ HR0.out) (by omega)).mono ?_
  rintro e w13 ⟨u_, rfl, hm_, hb_⟩
  have hsh_ := hm_
  obtain ⟨bs_, hsh_, _⟩ := hsh_
  obtain ⟨Ak14_0, nk14_0, pk14_0, Ak14_1, nk14_1, pk14_1, Ak14_2, nk14_2, pk14_2, rfl⟩ := sinv_Machine hsh_
  clear hsh_
  rw [hs8] at hm_
  have HX_aM' := Lib.hid ((hb_.block s0 (by omega)).trans HX_aM.out)
  clear HX_aM
  have HX_aM := HX_aM'
  clear HX_aM'
  have HBL' := Lib.hid (below_step HBL.out hb_)
  clear HBL
  have HBL := HBL'
  clear HBL'
  obtain ⟨s15, hs15⟩ : ∃ s, w13.heap.size = s := ⟨_, rfl⟩
  have hls15 : s8 ≤ s15 := by have := hb_.size; omega
  have HM_t12 := Lib.hid (hm_.toIn (Nat.le_of_eq hs15))
  clear hm_ hb_
  go_wp2_with fail
  refine (spec_PageText x0 (.slice Ak14_0 nk14_0 pk14_0) (.slice Ak14_1 nk14_1 pk14_1) (.slice Ak14_2 nk14_2 pk14_2) x1 w13 HM_t12.out.rd hsz0 hw1).mono ?_
  rintro e w16 ⟨u_, rfl, hm_, hb_⟩
  have hsh_ := hm_
  obtain ⟨bs_, hsh_, _⟩ := hsh_
  obtain ⟨Ak17, nk17, pk17, rfl⟩ := own_slice1 hsh_
  clear hsh_
  rw [hs15] at hm_
  have HX_aM' := Lib.hid ((hb_.block s0 (by omega)).trans HX_aM.out)
  clear HX_aM
  have HX_aM := HX_aM'
  clear HX_aM'
  have HM_t12' := Lib.hid (HM_t12.out.below hb_)
  clear HM_t12
  have HM_t12 := HM_t12'
  clear HM_t12'
  have HBL' := Lib.hid (below_step HBL.out hb_)
  clear HBL
  have HBL := HBL'
  clear HBL'
  obtain ⟨s18, hs18⟩ : ∃ s, w16.heap.size = s := ⟨_, rfl⟩
  have hls18 : s15 ≤ s18 := by have := hb_.size; omega
  have HM_w0 := Lib.hid (hm_.toIn (Nat.le_of_eq hs18))
  clear hm_ hb_
  simp only [List.headD_cons]
  have hsr : (eIntS (pPageText x0 x1)).sz ≤ 50000000 := bound_PageText x0 x1 hsz0
  have hc19 : w16.cell? ⟨s0, 0, none⟩ = some (c0_0) := cell_of_block HX_aM.out 0
  have hc20 : w16.cell? ⟨s0, 1, none⟩ = some (c0_1) := cell_of_block HX_aM.out 1
  have hc21 : w16.cell? ⟨s0, 2, none⟩ = some (c0_2) := cell_of_block HX_aM.out 2
  go_wp2_with fail
  refine (h_toMachine x0 c0_0 c0_1 c0_2 w16 (raw_below HBL.out _ HR0.out) (by omega)).mono ?_
  rintro e w22 ⟨u_, rfl, hm_, hb_⟩
  have hsh_ := hm_
  obtain ⟨bs_, hsh_, _⟩ := hsh_
  obtain ⟨Ak23_0, nk23_0, pk23_0, Ak23_1, nk23_1, pk23_1, Ak23_2, nk23_2, pk23_2, rfl⟩ := sinv_Machine hsh_
  clear hsh_
  rw [hs18] at hm_
  have HX_aM' := Lib.hid ((hb_.block s0 (by omega)).trans HX_aM.out)
  clear HX_aM
  have HX_aM := HX_aM'
  clear HX_aM'
  have HM_t12' := Lib.hid (HM_t12.out.below hb_)
  clear HM_t12
  have HM_t12 := HM_t12'
  clear HM_t12'
  have HM_w0' := Lib.hid (HM_w0.out.below hb_)
  clear HM_w0
  have HM_w0 := HM_w0'
  clear HM_w0'
  have HBL' := Lib.hid (below_step HBL.out hb_)
  clear HBL
  have HBL := HBL'
  clear HBL'
  obtain ⟨s24, hs24⟩ : ∃ s, w22.heap.size = s := ⟨_, rfl⟩
  have hls24 : s18 ≤ s24 := by have := hb_.size; omega
  have HM_x0 := Lib.hid (hm_.toIn (Nat.le_of_eq hs24))
  clear hm_ hb_
  have HXP_aM := HX_aM
  have hb_ : Below w22.heap.size w22 (w22.alloc (.cells #[.slice Ak23_0 nk23_0 pk23_0, .slice Ak23_1 nk23_1 pk23_1, .slice Ak23_2 nk23_2 pk23_2] 32)) := (Below.refl _ _).alloc (Nat.le_refl _) _
  have hx_ : (w22.alloc (.cells #[.slice Ak23_0 nk23_0 pk23_0, .slice Ak23_1 nk23_1 pk23_1, .slice Ak23_2 nk23_2 pk23_2] 32)).heap[s24]? = some (.cells #[.slice Ak23_0 nk23_0 pk23_0, .slice Ak23_1 nk23_1 pk23_1, .slice Ak23_2 nk23_2 pk23_2] 32 (0, 0)) := by rw [← hs24]; exact heap_alloc_new _ _
  have hz_ : (w22.alloc (.cells #[.slice Ak23_0 nk23_0 pk23_0, .slice Ak23_1 nk23_1 pk23_1, .slice Ak23_2 nk23_2 pk23_2] 32)).heap.size = s24 + 1 := by simp [hs24]
  obtain ⟨w25, HW_w25⟩ : ∃ z, (w22.alloc (.cells #[.slice Ak23_0 nk23_0 pk23_0, .slice Ak23_1 nk23_1 pk23_1, .slice Ak23_2 nk23_2 pk23_2] 32)) = z := ⟨_, rfl⟩
  rw [HW_w25] at hb_ hx_ hz_
  have HX_aM' := Lib.hid ((hb_.block s0 (by omega)).trans HX_aM.out)
  clear HX_aM
  have HX_aM := HX_aM'
  clear HX_aM'
  have HM_t12' := Lib.hid (HM_t12.out.below hb_)
  clear HM_t12
  have HM_t12 := HM_t12'
  clear HM_t12'
  have HM_w0' := Lib.hid (HM_w0.out.below hb_)
  clear HM_w0
  have HM_w0 := HM_w0'
  clear HM_w0'
  have HM_x0' := Lib.hid (HM_x0.out.below hb_)
  clear HM_x0
  have HM_x0 := HM_x0'
  clear HM_x0'
  have HBL' := Lib.hid (below_step HBL.out hb_)
  clear HBL
  have HBL := HBL'
  clear HBL'
  have HX_x0 := Lib.hid hx_
  clear hx_
  obtain ⟨s26, hs26⟩ : ∃ s, w25.heap.size = s := ⟨_, rfl⟩
  have hls26 : s24 + 1 = s26 := by omega
  have HWE_w25 := Lib.hid HW_w25
  clear HW_w25 hb_ hz_
  have hc27 : w25.cell? ⟨s24, 0, none⟩ = some (.slice Ak23_0 nk23_0 pk23_0) := cell_of_block HX_x0.out 0
  have hc28 : w25.cell? ⟨s24, 1, none⟩ = some (.slice Ak23_1 nk23_1 pk23_1) := cell_of_block HX_x0.out 1
  have hc29 : w25.cell? ⟨s24, 2, none⟩ = some (.slice Ak23_2 nk23_2 pk23_2) := cell_of_block HX_x0.out 2
  go_wp2_with fail
  rw [HWE_w25.out]
  clear HWE_w25 HXP_aM
  refine (impl_PageText x0 (.slice Ak23_0 nk23_0 pk23_0) (.slice Ak23_1 nk23_1 pk23_1) (.slice Ak23_2 nk23_2 pk23_2) x1 w25 HM_x0.out.rd hsz0 hw1 (HT_.out.below HBL.out).sents).mono ?_
  rintro e w30 ⟨u_, rfl, hm_, hb_⟩
  have hsh_ := hm_
  obtain ⟨bs_, hsh_, _⟩ := hsh_
  obtain ⟨Ak31, nk31, pk31, rfl⟩ := own_slice1 hsh_
  clear hsh_
  rw [hs26] at hm_
  have HX_aM' := Lib.hid ((hb_.block s0 (by omega)).trans HX_aM.out)
  clear HX_aM
  have HX_aM := HX_aM'
  clear HX_aM'
  have HX_x0' := Lib.hid ((hb_.block s24 (by omega)).trans HX_x0.out)
  clear HX_x0
  have HX_x0 := HX_x0'
  clear HX_x0'
  have HM_t12' := Lib.hid (HM_t12.out.below hb_)
  clear HM_t12
  have HM_t12 := HM_t12'
  clear HM_t12'
  have HM_w0' := Lib.hid (HM_w0.out.below hb_)
  clear HM_w0
  have HM_w0 := HM_w0'
  clear HM_w0'
  have HM_x0' := Lib.hid (HM_x0.out.below hb_)
  clear HM_x0
  have HM_x0 := HM_x0'
  clear HM_x0'
  have HBL' := Lib.hid (below_step HBL.out hb_)
  clear HBL
  have HBL := HBL'
  clear HBL'
  obtain ⟨s32, hs32⟩ : ∃ s, w30.heap.size = s := ⟨_, rfl⟩
  have hls32 : s26 ≤ s32 := by have := hb_.size; omega
  have HM_g0 := Lib.hid (hm_.toIn (Nat.le_of_eq hs32))
  clear hm_ hb_
  simp only [List.headD_cons]
  go_wp2_with fail
  refine (h_eqIntS (pPageText x0 x1) (.slice Ak31 nk31 pk31) (.slice Ak17 nk17 pk17) w30 HM_g0.out.rd HM_w0.out.rd (by omega)).mono ?_
  rintro e w33 ⟨rfl, hb_⟩
  have HX_aM' := Lib.hid ((hb_.block s0 (by omega)).trans HX_aM.out)
  clear HX_aM
  have HX_aM := HX_aM'
  clear HX_aM'
  have HX_x0' := Lib.hid ((hb_.block s24 (by omega)).trans HX_x0.out)
  clear HX_x0
  have HX_x0 := HX_x0'
  clear HX_x0'
  have HM_t12' := Lib.hid (HM_t12.out.below hb_)
  clear HM_t12
  have HM_t12 := HM_t12'
  clear HM_t12'
  have HM_w0' := Lib.hid (HM_w0.out.below hb_)
  clear HM_w0
  have HM_w0 := HM_w0'
  clear HM_w0'
  have HM_x0' := Lib.hid (HM_x0.out.below hb_)
  clear HM_x0
  have HM_x0 := HM_x0'
  clear HM_x0'
  have HM_g0' := Lib.hid (HM_g0.out.below hb_)
  clear HM_g0
  have HM_g0 := HM_g0'
  clear HM_g0'
  have HBL' := Lib.hid (below_step HBL.out hb_)
  clear HBL
  have HBL := HBL'
  clear HBL'
  obtain ⟨s34, hs34⟩ : ∃ s, w33.heap.size = s := ⟨_, rfl⟩
  have hls34 : s32 ≤ s34 := by have := hb_.size; omega
  clear hb_
  go_wp2_with fail
  have HT : Hid (∀ w', Below w33.heap.size w33 w' → Calls Tryd.prog 18 #[(.agg #[c0_0, c0_1, c0_2])] w' (fun e w'' => ∃ (A_0 : Option Addr) (n_0 p_0 : Nat) (A_1 : Option Addr) (n_1 p_1 : Nat) (A_2 : Option Addr) (n_2 p_2 : Nat), e = .returned (.agg #[.slice A_0 n_0 p_0, .slice A_1 n_1 p_1, .slice A_2 n_2 p_2]) ∧ Rd w'' (eMachine x0) [.slice A_0 n_0 p_0, .slice A_1 n_1 p_1, .slice A_2 n_2 p_2] ∧ Below w33.heap.size w33 w'')) := fun w' hb => (h_toMachine x0 c0_0 c0_1 c0_2 w' (raw_below (below_step HBL.out hb) _ HR0.out) (by omega)).mono (by
    rintro e w'' ⟨u_, rfl, hm_, hb_⟩
    have hsh_ := hm_
    obtain ⟨bs_, hsh_, _⟩ := hsh_
    obtain ⟨A_0, n_0, p_0, A_1, n_1, p_1, A_2, n_2, p_2, rfl⟩ := sinv_Machine hsh_
    exact ⟨A_0, n_0, p_0, A_1, n_1, p_1, A_2, n_2, p_2, rfl, hm_.rd, below_step hb hb_⟩)
  have HE : Hid (∀ w' (A_0 : Option Addr) (n_0 p_0 : Nat) (A_1 : Option Addr) (n_1 p_1 : Nat) (A_2 : Option Addr) (n_2 p_2 : Nat), Below w33.heap.size w33 w' → Rd w' (eMachine x0) [.slice A_0 n_0 p_0, .slice A_1 n_1 p_1, .slice A_2 n_2 p_2] → Calls Tryd.prog 19 #[(.agg #[.slice Ak23_0 nk23_0 pk23_0, .slice Ak23_1 nk23_1 pk23_1, .slice Ak23_2 nk23_2 pk23_2]), (.agg #[.slice A_0 n_0 p_0, .slice A_1 n_1 p_1, .slice A_2 n_2 p_2])] w' (fun e w'' => e = .returned (.bool true) ∧ Below w33.heap.size w33 w'')) := fun w' A_0 n_0 p_0 A_1 n_1 p_1 A_2 n_2 p_2 hb hr => (h_eqMachine x0 (.slice Ak23_0 nk23_0 pk23_0) (.slice Ak23_1 nk23_1 pk23_1) (.slice Ak23_2 nk23_2 pk23_2) (.slice A_0 n_0 p_0) (.slice A_1 n_1 p_1) (.slice A_2 n_2 p_2) w' (HM_x0.out.rd.below hb) hr (by omega)).mono (fun _ _ h => ⟨h.1, below_step hb h.2⟩)
  have hrf_ : Below w33.heap.size w33 w33.drew := (Below.refl _ _).drew
  have HK : Hid (∀ w', Below w33.heap.size w33 w' → w'.cell? ⟨s24, 0, none⟩ = some (.slice Ak23_0 nk23_0 pk23_0) ∧ w'.cell? ⟨s24, 1, none⟩ = some (.slice Ak23_1 nk23_1 pk23_1) ∧ w'.cell? ⟨s24, 2, none⟩ = some (.slice Ak23_2 nk23_2 pk23_2) ∧ w'.cell? ⟨s0, 0, none⟩ = some (c0_0) ∧ w'.cell? ⟨s0, 1, none⟩ = some (c0_1) ∧ w'.cell? ⟨s0, 2, none⟩ = some (c0_2) ∧ Below w33.heap.size w33 w') := fun w' hb => ⟨cell_below hb (cell_of_block HX_x0.out 0), cell_below hb (cell_of_block HX_x0.out 1), cell_below hb (cell_of_block HX_x0.out 2), cell_below hb (cell_of_block HX_aM.out 0), cell_below hb (cell_of_block HX_aM.out 1), cell_below hb (cell_of_block HX_aM.out 2), hb⟩
  go_region_held3 (fun w' => w'.cell? ⟨s24, 0, none⟩ = some (.slice Ak23_0 nk23_0 pk23_0) ∧ w'.cell? ⟨s24, 1, none⟩ = some (.slice Ak23_1 nk23_1 pk23_1) ∧ w'.cell? ⟨s24, 2, none⟩ = some (.slice Ak23_2 nk23_2 pk23_2) ∧ w'.cell? ⟨s0, 0, none⟩ = some (c0_0) ∧ w'.cell? ⟨s0, 1, none⟩ = some (c0_1) ∧ w'.cell? ⟨s0, 2, none⟩ = some (c0_2) ∧ Below w33.heap.size w33 w') (first | exact HK.out _ hrf_ | exact HK.out _ (by assumption)) (first | (go_at_call 18; refine (HT.out _ (by first | exact hrf_ | assumption)).mono ?_; rintro e wt_ ⟨A_0, n_0, p_0, A_1, n_1, p_1, A_2, n_2, p_2, rfl, hrt_, hbt_⟩) | (go_at_call 19; refine (HE.out _ _ _ _ _ _ _ _ _ _ (by first | exact hbt_ | assumption) (by first | exact hrt_ | assumption)).mono ?_; rintro e we_ ⟨rfl, hbe_⟩))
  obtain ⟨w35, hn_⟩ : ∃ z, we_ = z := ⟨_, rfl⟩
  rw [hn_] at hbe_
  rw [hn_]
  have HX_aM' := Lib.hid ((hbe_.block s0 (by omega)).trans HX_aM.out)
  clear HX_aM
  have HX_aM := HX_aM'
  clear HX_aM'
  have HX_x0' := Lib.hid ((hbe_.block s24 (by omega)).trans HX_x0.out)
  clear HX_x0
  have HX_x0 := HX_x0'
  clear HX_x0'
  have HM_t12' := Lib.hid (HM_t12.out.below hbe_)
  clear HM_t12
  have HM_t12 := HM_t12'
  clear HM_t12'
  have HM_w0' := Lib.hid (HM_w0.out.below hbe_)
  clear HM_w0
  have HM_w0 := HM_w0'
  clear HM_w0'
  have HM_x0' := Lib.hid (HM_x0.out.below hbe_)
  clear HM_x0
  have HM_x0 := HM_x0'
  clear HM_x0'
  have HM_g0' := Lib.hid (HM_g0.out.below hbe_)
  clear HM_g0
  have HM_g0 := HM_g0'
  clear HM_g0'
  have HBL' := Lib.hid (below_step HBL.out hbe_)
  clear HBL
  have HBL := HBL'
  clear HBL'
  obtain ⟨s36, hs36⟩ : ∃ s, w35.heap.size = s := ⟨_, rfl⟩
  have hls36 : s34 ≤ s36 := by have := hbe_.size; omega
  clear hbe_ hbt_ HT HE HK hrf_ hn_ hrt_
  have hc37 : w35.cell? ⟨s24, 0, none⟩ = some (.slice Ak23_0 nk23_0 pk23_0) := cell_of_block HX_x0.out 0
  have hc38 : w35.cell? ⟨s24, 1, none⟩ = some (.slice Ak23_1 nk23_1 pk23_1) := cell_of_block HX_x0.out 1
  have hc39 : w35.cell? ⟨s24, 2, none⟩ = some (.slice Ak23_2 nk23_2 pk23_2) := cell_of_block HX_x0.out 2
  go_wp2_with fail
  have hcb := cntb_Machine (x0)
  have hct := cntTop_le (eMachine x0)
  refine (mark_in HM_x0.out (fun bs_ ho_ hn_ => h_markMachine (x0) (.slice Ak23_0 nk23_0 pk23_0) (.slice Ak23_1 nk23_1 pk23_1) (.slice Ak23_2 nk23_2 pk23_2) bs_ 1 w35 ho_ hn_ (by omega) (by omega))).mono ?_
  rintro e w40 ⟨rfl, hm_, ht_⟩
  obtain ⟨k41, hkk41⟩ : ∃ q : Nat, 1 + (eMachine x0).cntTop = q := ⟨_, rfl⟩
  rw [hkk41]
  have HKk41 := Lib.hid hkk41
  clear hcb hct hkk41
  have HX_aM' := Lib.hid ((ht_.block s0 (by omega) (by omega)).trans HX_aM.out)
  clear HX_aM
  have HX_aM := HX_aM'
  clear HX_aM'
  have HX_x0' := Lib.hid ((ht_.block s24 (by omega) (by omega)).trans HX_x0.out)
  clear HX_x0
  have HX_x0 := HX_x0'
  clear HX_x0'
  have HM_t12' := Lib.hid (HM_t12.out.turn ht_ (by omega))
  clear HM_t12
  have HM_t12 := HM_t12'
  clear HM_t12'
  have HM_w0' := Lib.hid (HM_w0.out.turn ht_ (by omega))
  clear HM_w0
  have HM_w0 := HM_w0'
  clear HM_w0'
  have HM_g0' := Lib.hid (HM_g0.out.turn ht_ (by omega))
  clear HM_g0
  have HM_g0 := HM_g0'
  clear HM_g0'
  clear HM_x0
  have HM_x0 := Lib.hid hm_
  have HBL' := Lib.hid (HBL.out.trans (ht_.below (B := w.heap.size) (by omega) (by omega)))
  clear HBL
  have HBL := HBL'
  clear HBL'
  obtain ⟨s42, hs42⟩ : ∃ s, w40.heap.size = s := ⟨_, rfl⟩
  have hls42 : s36 ≤ s42 := by have := ht_.size; omega
  clear hm_ ht_
  go_wp2_with fail
  refine (h_eqIntS (pPageText x0 x1) (.slice Ak31 nk31 pk31) (.slice Ak17 nk17 pk17) w40 HM_g0.out.rd HM_w0.out.rd (by omega)).mono ?_
  rintro e w43 ⟨rfl, hb_⟩
  have HX_aM' := Lib.hid ((hb_.block s0 (by omega)).trans HX_aM.out)
  clear HX_aM
  have HX_aM := HX_aM'
  clear HX_aM'
  have HX_x0' := Lib.hid ((hb_.block s24 (by omega)).trans HX_x0.out)
  clear HX_x0
  have HX_x0 := HX_x0'
  clear HX_x0'
  have HM_t12' := Lib.hid (HM_t12.out.below hb_)
  clear HM_t12
  have HM_t12 := HM_t12'
  clear HM_t12'
  have HM_w0' := Lib.hid (HM_w0.out.below hb_)
  clear HM_w0
  have HM_w0 := HM_w0'
  clear HM_w0'
  have HM_x0' := Lib.hid (HM_x0.out.below hb_)
  clear HM_x0
  have HM_x0 := HM_x0'
  clear HM_x0'
  have HM_g0' := Lib.hid (HM_g0.out.below hb_)
  clear HM_g0
  have HM_g0 := HM_g0'
  clear HM_g0'
  have HBL' := Lib.hid (below_step HBL.out hb_)
  clear HBL
  have HBL := HBL'
  clear HBL'
  obtain ⟨s44, hs44⟩ : ∃ s, w43.heap.size = s := ⟨_, rfl⟩
  have hls44 : s42 ≤ s44 := by have := hb_.size; omega
  clear hb_
  go_wp2_with fail
  have hcb := cntb_IntS (pPageText x0 x1)
  have hct := cntTop_le (eIntS (pPageText x0 x1))
  refine (mark_in HM_g0.out (fun bs_ ho_ hn_ => h_markIntS (pPageText x0 x1) _ _ _ bs_ 1 w43 ho_ hn_ (by omega) (by omega))).mono ?_
  rintro e w45 ⟨rfl, hm_, ht_⟩
  obtain ⟨k46, hkk46⟩ : ∃ q : Nat, 1 + (eIntS (pPageText x0 x1)).cntTop = q := ⟨_, rfl⟩
  rw [hkk46]
  have HKk46 := Lib.hid hkk46
  clear hcb hct hkk46
  have HX_aM' := Lib.hid ((ht_.block s0 (by omega) (by omega)).trans HX_aM.out)
  clear HX_aM
  have HX_aM := HX_aM'
  clear HX_aM'
  have HX_x0' := Lib.hid ((ht_.block s24 (by omega) (by omega)).trans HX_x0.out)
  clear HX_x0
  have HX_x0 := HX_x0'
  clear HX_x0'
  have HM_t12' := Lib.hid (HM_t12.out.turn ht_ (by omega))
  clear HM_t12
  have HM_t12 := HM_t12'
  clear HM_t12'
  have HM_w0' := Lib.hid (HM_w0.out.turn ht_ (by omega))
  clear HM_w0
  have HM_w0 := HM_w0'
  clear HM_w0'
  have HM_x0' := Lib.hid (HM_x0.out.turn ht_ (by omega))
  clear HM_x0
  have HM_x0 := HM_x0'
  clear HM_x0'
  clear HM_g0
  have HM_g0 := Lib.hid hm_
  have HBL' := Lib.hid (HBL.out.trans (ht_.below (B := w.heap.size) (by omega) (by omega)))
  clear HBL
  have HBL := HBL'
  clear HBL'
  obtain ⟨s47, hs47⟩ : ∃ s, w45.heap.size = s := ⟨_, rfl⟩
  have hls47 : s44 ≤ s47 := by have := ht_.size; omega
  clear hm_ ht_
  go_wp2_with fail
  have hcb := cntb_IntS (pPageText x0 x1)
  have hct := cntTop_le (eIntS (pPageText x0 x1))
  refine (h_heldIntS (pPageText x0 x1) (.slice Ak31 nk31 pk31) 1 w45 HM_g0.out.rd (by omega) (by omega)).mono ?_
  rintro e w48 ⟨rfl, hb_⟩
  rw [HKk46.out]
  clear hcb hct
  have HX_aM' := Lib.hid ((hb_.block s0 (by omega)).trans HX_aM.out)
  clear HX_aM
  have HX_aM := HX_aM'
  clear HX_aM'
  have HX_x0' := Lib.hid ((hb_.block s24 (by omega)).trans HX_x0.out)
  clear HX_x0
  have HX_x0 := HX_x0'
  clear HX_x0'
  have HM_t12' := Lib.hid (HM_t12.out.below hb_)
  clear HM_t12
  have HM_t12 := HM_t12'
  clear HM_t12'
  have HM_w0' := Lib.hid (HM_w0.out.below hb_)
  clear HM_w0
  have HM_w0 := HM_w0'
  clear HM_w0'
  have HM_x0' := Lib.hid (HM_x0.out.below hb_)
  clear HM_x0
  have HM_x0 := HM_x0'
  clear HM_x0'
  have HM_g0' := Lib.hid (HM_g0.out.below hb_)
  clear HM_g0
  have HM_g0 := HM_g0'
  clear HM_g0'
  have HBL' := Lib.hid (below_step HBL.out hb_)
  clear HBL
  have HBL := HBL'
  clear HBL'
  obtain ⟨s49, hs49⟩ : ∃ s, w48.heap.size = s := ⟨_, rfl⟩
  have hls49 : s47 ≤ s49 := by have := hb_.size; omega
  clear hb_
  have hc50 : w48.cell? ⟨s0, 0, none⟩ = some (c0_0) := cell_of_block HX_aM.out 0
  have hc51 : w48.cell? ⟨s0, 1, none⟩ = some (c0_1) := cell_of_block HX_aM.out 1
  have hc52 : w48.cell? ⟨s0, 2, none⟩ = some (c0_2) := cell_of_block HX_aM.out 2
  go_wp2_with fail
  refine (h_toMachine x0 c0_0 c0_1 c0_2 w48 (raw_below HBL.out _ HR0.out) (by omega)).mono ?_
  rintro e w54 ⟨u_, rfl, hm_, hb_⟩
  have hsh_ := hm_
  obtain ⟨bs_, hsh_, _⟩ := hsh_
  obtain ⟨Ak55_0, nk55_0, pk55_0, Ak55_1, nk55_1, pk55_1, Ak55_2, nk55_2, pk55_2, rfl⟩ := sinv_Machine hsh_
  clear hsh_
  rw [hs49] at hm_
  have HX_aM' := Lib.hid ((hb_.block s0 (by omega)).trans HX_aM.out)
  clear HX_aM
  have HX_aM := HX_aM'
  clear HX_aM'
  have HX_x0' := Lib.hid ((hb_.block s24 (by omega)).trans HX_x0.out)
  clear HX_x0
  have HX_x0 := HX_x0'
  clear HX_x0'
  have HM_t12' := Lib.hid (HM_t12.out.below hb_)
  clear HM_t12
  have HM_t12 := HM_t12'
  clear HM_t12'
  have HM_w0' := Lib.hid (HM_w0.out.below hb_)
  clear HM_w0
  have HM_w0 := HM_w0'
  clear HM_w0'
  have HM_x0' := Lib.hid (HM_x0.out.below hb_)
  clear HM_x0
  have HM_x0 := HM_x0'
  clear HM_x0'
  have HM_g0' := Lib.hid (HM_g0.out.below hb_)
  clear HM_g0
  have HM_g0 := HM_g0'
  clear HM_g0'
  have HBL' := Lib.hid (below_step HBL.out hb_)
  clear HBL
  have HBL := HBL'
  clear HBL'
  obtain ⟨s56, hs56⟩ : ∃ s, w54.heap.size = s := ⟨_, rfl⟩
  have hls56 : s49 ≤ s56 := by have := hb_.size; omega
  have HM_t53 := Lib.hid (hm_.toIn (Nat.le_of_eq hs56))
  clear hm_ hb_
  go_wp2_with fail
  refine (impl_PageText x0 (.slice Ak55_0 nk55_0 pk55_0) (.slice Ak55_1 nk55_1 pk55_1) (.slice Ak55_2 nk55_2 pk55_2) x1 w54 HM_t53.out.rd hsz0 hw1 (HT_.out.below HBL.out).sents).mono ?_
  rintro e w57 ⟨u_, rfl, hm_, hb_⟩
  have hsh_ := hm_
  obtain ⟨bs_, hsh_, _⟩ := hsh_
  obtain ⟨Ak58, nk58, pk58, rfl⟩ := own_slice1 hsh_
  clear hsh_
  rw [hs56] at hm_
  have HX_aM' := Lib.hid ((hb_.block s0 (by omega)).trans HX_aM.out)
  clear HX_aM
  have HX_aM := HX_aM'
  clear HX_aM'
  have HX_x0' := Lib.hid ((hb_.block s24 (by omega)).trans HX_x0.out)
  clear HX_x0
  have HX_x0 := HX_x0'
  clear HX_x0'
  have HM_t12' := Lib.hid (HM_t12.out.below hb_)
  clear HM_t12
  have HM_t12 := HM_t12'
  clear HM_t12'
  have HM_w0' := Lib.hid (HM_w0.out.below hb_)
  clear HM_w0
  have HM_w0 := HM_w0'
  clear HM_w0'
  have HM_x0' := Lib.hid (HM_x0.out.below hb_)
  clear HM_x0
  have HM_x0 := HM_x0'
  clear HM_x0'
  have HM_g0' := Lib.hid (HM_g0.out.below hb_)
  clear HM_g0
  have HM_g0 := HM_g0'
  clear HM_g0'
  have HM_t53' := Lib.hid (HM_t53.out.below hb_)
  clear HM_t53
  have HM_t53 := HM_t53'
  clear HM_t53'
  have HBL' := Lib.hid (below_step HBL.out hb_)
  clear HBL
  have HBL := HBL'
  clear HBL'
  obtain ⟨s59, hs59⟩ : ∃ s, w57.heap.size = s := ⟨_, rfl⟩
  have hls59 : s56 ≤ s59 := by have := hb_.size; omega
  have HM_h0 := Lib.hid (hm_.toIn (Nat.le_of_eq hs59))
  clear hm_ hb_
  simp only [List.headD_cons]
  go_wp2_with fail
  refine (h_eqIntS (pPageText x0 x1) (.slice Ak58 nk58 pk58) (.slice Ak17 nk17 pk17) w57 HM_h0.out.rd HM_w0.out.rd (by omega)).mono ?_
  rintro e w60 ⟨rfl, hb_⟩
  have HX_aM' := Lib.hid ((hb_.block s0 (by omega)).trans HX_aM.out)
  clear HX_aM
  have HX_aM := HX_aM'
  clear HX_aM'
  have HX_x0' := Lib.hid ((hb_.block s24 (by omega)).trans HX_x0.out)
  clear HX_x0
  have HX_x0 := HX_x0'
  clear HX_x0'
  have HM_t12' := Lib.hid (HM_t12.out.below hb_)
  clear HM_t12
  have HM_t12 := HM_t12'
  clear HM_t12'
  have HM_w0' := Lib.hid (HM_w0.out.below hb_)
  clear HM_w0
  have HM_w0 := HM_w0'
  clear HM_w0'
  have HM_x0' := Lib.hid (HM_x0.out.below hb_)
  clear HM_x0
  have HM_x0 := HM_x0'
  clear HM_x0'
  have HM_g0' := Lib.hid (HM_g0.out.below hb_)
  clear HM_g0
  have HM_g0 := HM_g0'
  clear HM_g0'
  have HM_t53' := Lib.hid (HM_t53.out.below hb_)
  clear HM_t53
  have HM_t53 := HM_t53'
  clear HM_t53'
  have HM_h0' := Lib.hid (HM_h0.out.below hb_)
  clear HM_h0
  have HM_h0 := HM_h0'
  clear HM_h0'
  have HBL' := Lib.hid (below_step HBL.out hb_)
  clear HBL
  have HBL := HBL'
  clear HBL'
  obtain ⟨s61, hs61⟩ : ∃ s, w60.heap.size = s := ⟨_, rfl⟩
  have hls61 : s59 ≤ s61 := by have := hb_.size; omega
  clear hb_
  go_wp2_with fail
  have hcb := cntb_IntS (pPageText x0 x1)
  have hct := cntTop_le (eIntS (pPageText x0 x1))
  refine (h_heldIntS (pPageText x0 x1) (.slice Ak31 nk31 pk31) 1 w60 HM_g0.out.rd (by omega) (by omega)).mono ?_
  rintro e w62 ⟨rfl, hb_⟩
  rw [HKk46.out]
  clear hcb hct
  have HX_aM' := Lib.hid ((hb_.block s0 (by omega)).trans HX_aM.out)
  clear HX_aM
  have HX_aM := HX_aM'
  clear HX_aM'
  have HX_x0' := Lib.hid ((hb_.block s24 (by omega)).trans HX_x0.out)
  clear HX_x0
  have HX_x0 := HX_x0'
  clear HX_x0'
  have HM_t12' := Lib.hid (HM_t12.out.below hb_)
  clear HM_t12
  have HM_t12 := HM_t12'
  clear HM_t12'
  have HM_w0' := Lib.hid (HM_w0.out.below hb_)
  clear HM_w0
  have HM_w0 := HM_w0'
  clear HM_w0'
  have HM_x0' := Lib.hid (HM_x0.out.below hb_)
  clear HM_x0
  have HM_x0 := HM_x0'
  clear HM_x0'
  have HM_g0' := Lib.hid (HM_g0.out.below hb_)
  clear HM_g0
  have HM_g0 := HM_g0'
  clear HM_g0'
  have HM_t53' := Lib.hid (HM_t53.out.below hb_)
  clear HM_t53
  have HM_t53 := HM_t53'
  clear HM_t53'
  have HM_h0' := Lib.hid (HM_h0.out.below hb_)
  clear HM_h0
  have HM_h0 := HM_h0'
  clear HM_h0'
  have HBL' := Lib.hid (below_step HBL.out hb_)
  clear HBL
  have HBL := HBL'
  clear HBL'
  obtain ⟨s63, hs63⟩ : ∃ s, w62.heap.size = s := ⟨_, rfl⟩
  have hls63 : s61 ≤ s63 := by have := hb_.size; omega
  clear hb_
  go_wp2
  go_ret
  exact ⟨rfl, HBL.out⟩
set_option maxRecDepth 100000 in
theorem contract (H : Type) (enc : TypeId × Value → H) (W : World) (base : Nat) (args : Array Value) (ds gs : List (DataW H)) (before : List MemPlace)
    (hval0 : ∀ (j : Nat) t v, Tryd.f7.params[j]? = some t → args[j]? = some v → Value.okWide Tryd.prog W .any base t v)
    (hW : DataW.Whole enc Tryd.prog Tryd.f7.params.toList Rows.fnExactPageTextSpec.vars false W args.toList ds gs before) (hT : Laid.LErrPage W) :
    Calls Tryd.prog 7 args W fun e W' => ∃ v, e = .returned v ∧ Rows.fnExactPageTextSpec.post enc Tryd.prog Tryd.f7 false true false false W args v W' := by
  have hval : ∀ (j : Nat) t v, Tryd.f7.params[j]? = some t → args[j]? = some v → Value.okWide Tryd.prog W .any base t v := hval0
  have hW' := hW
  obtain ⟨p, q, hA0, hV, rfl, hfz, hnd⟩ := hW
  have hA : DataW.TrodAll enc Tryd.prog W 0 (fun _ => true) true Tryd.f7.params.toList args.toList ds p := hA0
  rw [Tryd.params7] at hA hval
  obtain ⟨v0, vs0, d0, ds0, p0, q0, hargs, rfl, rfl, h0, r0⟩ := trodAll_cons hA
  obtain ⟨v1, vs1, d1, ds1, p1, q1, rfl, rfl, rfl, h1, r1⟩ := trodAll_cons r0
  obtain ⟨rfl, rfl, rfl⟩ := trodAll_nil r1
  obtain rfl : args = #[v0, v1] := by cases args; simp_all
  obtain ⟨g0, rfl⟩ := Laid.vars1 hV
  have k0 := h0
  have lt0 : ∀ x ∈ p0, x.block < W.heap.size := by obtain ⟨m, hm⟩ := k0; exact DataW.trod_lt m _ _ _ hm
  obtain ⟨x0, raw0, ok0⟩ := opens_trod opens_Machine h0
  obtain ⟨cs0, rfl, _⟩ := okWide_struct Tryd.underlying50 (hval 0 50 v0 rfl rfl)
  obtain ⟨cs0⟩ := cs0
  have raw0 : Raw W (eMachine x0) cs0 := raw0
  obtain ⟨c0_0, c0_1, c0_2, rfl⟩ := rinv_Machine raw0
  obtain ⟨a1, rfl, rfl, rfl, w1⟩ := open_int Tryd.underlying3 (hval 1 3 v1 rfl rfl) h1
  clear hA0 hval0
  refine (walk x0 c0_0 c0_1 c0_2 a1 W raw0 ok0 (okI_wf w1) hT).mono fun e W' ⟨he, bel⟩ => ?_
  subst he
  exact ⟨_, rfl, _, _, _, [], _, q, hW', trodAll_mk1 (shut_bool Tryd.underlying4 _), (trodAll_cons_mk (Below.trod laidOut (by kernel_rfl) (of_decide_eq_true (by kernel_rfl)) k0 bel lt0) (trodAll_cons_mk (shut_int Tryd.underlying3 w1) trodAll_mk0)), bel.trodVars laidOut (by kernel_rfl) hV, bel.frame _, fun h => by cases h⟩
theorem laid_met (os : Os) : laidMet Tryd.prog Rows.fnExactPageTextRow.laid ((Laid.world os).forCall (fun _ _ => 0) ⟨#[], #[.agg #[.slice none 0 0, .slice none 0 0, .slice none 0 0], .int .i64 0], []⟩).memory :=
  laidMet_of_run' 8 (by kernel_rfl) (by kernel_rfl)
theorem witness_row (os : Os) {H : Type} (enc : TypeId × Value → H) :
    (OpenSpec.ofChange Rows.fnExactPageTextSpec).preRow enc Tryd.prog Tryd.f7 Rows.fnExactPageTextRow.domain false Rows.fnExactPageTextRow.laid ((Laid.world os).forCall (fun _ _ => 0) ⟨#[], #[.agg #[.slice none 0 0, .slice none 0 0, .slice none 0 0], .int .i64 0], []⟩).memory #[.agg #[.slice none 0 0, .slice none 0 0, .slice none 0 0], .int .i64 0] := by
  have hw : (DataW.whole enc Tryd.prog ((Laid.world os).forCall (fun _ _ => 0) ⟨#[], #[.agg #[.slice none 0 0, .slice none 0 0, .slice none 0 0], .int .i64 0], []⟩).memory Tryd.f7.params.toList Rows.fnExactPageTextSpec.vars false (#[.agg #[.slice none 0 0, .slice none 0 0, .slice none 0 0], .int .i64 0] : Array Value).toList 8).map (fun x => (x.1, x.2.1)) = some ([.agg [.agg [.nil, .nil], .agg [.nil]], .lit (.int .i64 0)], [.held (enc (133, .pointer (some ⟨(World.settled Tryd.prog os).heap.size + 0, 0, none⟩)))]) := by kernel_rfl
  obtain ⟨⟨x1, x2, x3⟩, hx, hx1⟩ := Option.map_eq_some_iff.1 hw
  simp only [Prod.mk.injEq] at hx1
  obtain ⟨rfl, rfl⟩ := hx1
  exact OpenSpec.preRow_of_cond 8 hx (by kernel_rfl) (fun k hk => by cases hk) (by kernel_rfl) (laid_met os)

set_option maxRecDepth 100000 in
theorem lifted (os : Os) (started : os.Started) (H : Type) (enc : TypeId × Value → H) (F : Stop.Interp) :
    ReturnsInHanded {} Tryd.checked os 7 .any ((OpenSpec.ofChange Rows.fnExactPageTextSpec).preRow enc Tryd.prog Tryd.f7 Rows.fnExactPageTextRow.domain false Rows.fnExactPageTextRow.laid) (((OpenSpec.ofChange Rows.fnExactPageTextSpec).at F).post enc Tryd.prog Tryd.f7 false true false false) := by
  refine returnsInHanded_of_row (C := Tryd.checked) (s := OpenSpec.ofChange Rows.fnExactPageTextSpec) own started (by kernel_rfl) Tryd.func7
    (witness_row_atRef (enc := enc) (C := Tryd.checked) false (Laid.world os) #[.agg #[.slice none 0 0, .slice none 0 0, .slice none 0 0], .int .i64 0] rfl (by kernel_rfl) (by kernel_rfl) (by kernel_rfl) (witness_row os enc)) ?_
  intro W base args ds gs before hval hW _ _ _ hL _ _
  exact contract H enc W base args ds gs before hval hW (Laid.has_0 hL)

theorem said : Rows.FnExactPageTextSaid :=
  OpenClaim.holds_of_cond 7 Tryd.f7 rfl rfl rfl rfl rfl rfl rfl ⟨rfl, rfl, rfl, rfl, rfl⟩ rfl rfl rfl rfl rfl (by kernel_rfl) Tryd.func7 (by kernel_rfl)
    (of_decide_eq_true (by kernel_rfl)) (by unfold Func.isWrapper; first | (rw [if_pos (by decide +kernel)]; kernel_rfl) | (rw [if_neg (by decide +kernel)]; exact ⟨rfl, rfl⟩))
    (fun os started H enc _ F => by rw [OpenClaim.pre_eq_preRow]; exact lifted os started H enc F)

theorem plain (f : FuncId) (fn : Func) (hf : Tryd.pinned.checked.prog.funcNamed "loop.example/g00978/laws.FnExactPageText" = some f) (hfn : Tryd.pinned.checked.prog.funcs[f]? = some fn) :
    true = Tryd.pinned.checked.prog.looks [] ∧ ∀ (j : Nat) t, fn.params[j]? = some t → Tryd.pinned.checked.prog.wantsStandIn t = false := by
  obtain rfl : f = 7 := Option.some.inj ((show Tryd.prog.funcNamed "loop.example/g00978/laws.FnExactPageText" = some 7 by kernel_rfl).symm.trans hf) |>.symm
  obtain rfl : fn = Tryd.f7 := (Option.some.inj (Tryd.func7.symm.trans hfn)).symm
  refine ⟨by kernel_rfl, fun j t ht => ?_⟩
  rw [Tryd.params7] at ht
  have hm := Array.mem_of_getElem? ht
  simp only [List.mem_toArray, List.mem_cons, List.not_mem_nil, or_false] at hm
  rcases hm with rfl | rfl
  · exact (show Tryd.prog.wantsStandIn 50 = false by kernel_rfl)
  · exact (show Tryd.prog.wantsStandIn 3 = false by kernel_rfl)

/-- THE CARD -/
theorem proved : Rows.FnExactPageTextCardSaid :=
  Claim7.holds_tied_plain_at .later [] _ _ _ _ said (fun _ h => by cases h) (by kernel_rfl) (fun _ h => by cases h) fnExactPageText_row_tie rfl ⟨rfl, rfl⟩ (by kernel_rfl) rfl plain (by kernel_rfl)
#print axioms proved
end Go.Proofs.YtkmkpjpopobdbaaDoor.fnExactPageText

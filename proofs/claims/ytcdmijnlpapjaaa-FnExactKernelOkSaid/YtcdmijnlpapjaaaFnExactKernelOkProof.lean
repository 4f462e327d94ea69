/- Called with any arguments, the law FnExactKernelOk returns true and each argument reads afterwards as before. No condition. -/
import Derived.Test.YtcdmijnlpapjaaaRows
import Derived.Test.YtcdmijnlpapjaaaEI08n
import Derived.Test.YtcdmijnlpapjaaaTo
import Derived.Test.YtcdmijnlpapjaaaEq
import Derived.Test.YtcdmijnlpapjaaaSz
import Derived.Test.YtcdmijnlpapjaaaMark
import Derived.Test.YtcdmijnlpapjaaaHeld
import Derived.Test.YtcdmijnlpapjaaaIn
import Derived.WalkKit
import Derived.ProofKit
import Derived.OpenShut
import Derived.ShutString
import Derived.ChangeOld
import Derived.Below
import Derived.Carry
import Derived.Deep.RegionHeld3
namespace Go.Proofs.Ytcdmijnlpapjaaa.fnExactKernelOk
open Go.ChangeShapes Go.WideShapes Go.ChangeAt Go.RowKit Go.Proofs.Ytcdmijnlpapjaaa.Tr
set_option linter.unusedVariables false
theorem own : ownKnob Try.prog.godebug = none := by kernel_rfl
theorem laidOut : laidOutB Try.prog = true := by kernel_rfl
set_option maxRecDepth 100000 in
set_option maxHeartbeats 1000000 in
theorem walk (x0 : GKernel) (c0_0 c0_1 c0_2 c0_4 : Value) (w : World) (r0 : Raw w (eKernel x0) [c0_0, c0_1, c0_2, .int .i64 x0.Calls, c0_4]) (hw0 : okKernel x0) :
    Calls Try.prog 7 #[(.agg #[c0_0, c0_1, c0_2, .int .i64 x0.Calls, c0_4])] w fun e w' => e = .returned (.bool true) ∧ Below w.heap.size w w' := by
  have HO : Hid True := trivial
  have HR0 := Lib.hid r0
  clear r0
  obtain ⟨s0, hs0⟩ : ∃ s, w.heap.size = s := ⟨_, rfl⟩
  have HBL : Hid (Below w.heap.size w w) := Below.refl _ _
  have hb_ : Below w.heap.size w (w.alloc (.cells #[c0_0, c0_1, c0_2, .int .i64 x0.Calls, c0_4] 62)) := (Below.refl _ _).alloc (Nat.le_refl _) _
  have hx_ : (w.alloc (.cells #[c0_0, c0_1, c0_2, .int .i64 x0.Calls, c0_4] 62)).heap[s0]? = some (.cells #[c0_0, c0_1, c0_2, .int .i64 x0.Calls, c0_4] 62 (0, 0)) := by rw [← hs0]; exact heap_alloc_new _ _
  have hz_ : (w.alloc (.cells #[c0_0, c0_1, c0_2, .int .i64 x0.Calls, c0_4] 62)).heap.size = s0 + 1 := by simp [hs0]
  obtain ⟨w1, HW_w1⟩ : ∃ z, (w.alloc (.cells #[c0_0, c0_1, c0_2, .int .i64 x0.Calls, c0_4] 62)) = z := ⟨_, rfl⟩
  rw [HW_w1] at hb_ hx_ hz_
  have HBL' := Lib.hid (below_step HBL.out hb_)
  clear HBL
  have HBL := HBL'
  clear HBL'
  have HX_aK := Lib.hid hx_
  clear hx_
  obtain ⟨s2, hs2⟩ : ∃ s, w1.heap.size = s := ⟨_, rfl⟩
  have hls2 : s0 + 1 = s2 := by omega
  have HWE_w1 := Lib.hid HW_w1
  clear HW_w1 hb_ hz_
  go_enter Try.func7, Try.ntmps7
  have hc3 : w1.cell? ⟨s0, 0, none⟩ = some (c0_0) := cell_of_block HX_aK.out 0
  have hc4 : w1.cell? ⟨s0, 1, none⟩ = some (c0_1) := cell_of_block HX_aK.out 1
  have hc5 : w1.cell? ⟨s0, 2, none⟩ = some (c0_2) := cell_of_block HX_aK.out 2
  have hc6 : w1.cell? ⟨s0, 3, none⟩ = some (.int .i64 x0.Calls) := cell_of_block HX_aK.out 3
  have hc7 : w1.cell? ⟨s0, 4, none⟩ = some (c0_4) := cell_of_block HX_aK.out 4
  go_wp2_with fail
  rw [HWE_w1.out]
  clear HWE_w1
  refine (h_szKernel x0 c0_0 c0_1 c0_2 c0_4 1048576 w1 (raw_below HBL.out _ HR0.out) (by omega)).mono ?_
  rintro e w8 ⟨hcase, hb_⟩
  have HX_aK' := Lib.hid ((hb_.block s0 (by omega)).trans HX_aK.out)
  clear HX_aK
  have HX_aK := HX_aK'
  clear HX_aK'
  have HBL' := Lib.hid (below_step HBL.out hb_)
  clear HBL
  have HBL := HBL'
  clear HBL'
  obtain ⟨s10, hs10⟩ : ∃ s, w8.heap.size = s := ⟨_, rfl⟩
  have hls10 : s2 ≤ s10 := by have := hb_.size; omega
  clear hb_
  rcases hcase with ⟨q9, hq9, rfl⟩ | ⟨_, rfl⟩
  rotate_left
  · go_wp2
    go_ret
    exact ⟨rfl, HBL.out⟩
  have hsz0 : (eKernel x0).sz ≤ 1048576 := by omega
  have hc11 : w8.cell? ⟨s0, 0, none⟩ = some (c0_0) := cell_of_block HX_aK.out 0
  have hc12 : w8.cell? ⟨s0, 1, none⟩ = some (c0_1) := cell_of_block HX_aK.out 1
  have hc13 : w8.cell? ⟨s0, 2, none⟩ = some (c0_2) := cell_of_block HX_aK.out 2
  have hc14 : w8.cell? ⟨s0, 3, none⟩ = some (.int .i64 x0.Calls) := cell_of_block HX_aK.out 3
  have hc15 : w8.cell? ⟨s0, 4, none⟩ = some (c0_4) := cell_of_block HX_aK.out 4
  go_wp2_with fail
  refine (h_toKernel x0 c0_0 c0_1 c0_2 c0_4 w8 (raw_below HBL.out _ HR0.out) (by omega)).mono ?_
  rintro e w17 ⟨u_, rfl, hm_, hb_⟩
  have hsh_ := hm_
  obtain ⟨bs_, hsh_, _⟩ := hsh_
  obtain ⟨Ak18_0, nk18_0, pk18_0, Ak18_1, nk18_1, pk18_1, Ak18_2, nk18_2, pk18_2, Ak18_4, nk18_4, pk18_4, rfl⟩ := sinv_Kernel hsh_
  clear hsh_
  rw [hs10] at hm_
  have HX_aK' := Lib.hid ((hb_.block s0 (by omega)).trans HX_aK.out)
  clear HX_aK
  have HX_aK := HX_aK'
  clear HX_aK'
  have HBL' := Lib.hid (below_step HBL.out hb_)
  clear HBL
  have HBL := HBL'
  clear HBL'
  obtain ⟨s19, hs19⟩ : ∃ s, w17.heap.size = s := ⟨_, rfl⟩
  have hls19 : s10 ≤ s19 := by have := hb_.size; omega
  have HM_t16 := Lib.hid (hm_.toIn (Nat.le_of_eq hs19))
  clear hm_ hb_
  go_wp2_with fail
  refine (spec_KernelOk x0 (.slice Ak18_0 nk18_0 pk18_0) (.slice Ak18_1 nk18_1 pk18_1) (.slice Ak18_2 nk18_2 pk18_2) (.slice Ak18_4 nk18_4 pk18_4) w17 HM_t16.out.rd hsz0).mono ?_
  rintro e w20 ⟨rfl, hb_⟩
  have HX_aK' := Lib.hid ((hb_.block s0 (by omega)).trans HX_aK.out)
  clear HX_aK
  have HX_aK := HX_aK'
  clear HX_aK'
  have HM_t16' := Lib.hid (HM_t16.out.below hb_)
  clear HM_t16
  have HM_t16 := HM_t16'
  clear HM_t16'
  have HBL' := Lib.hid (below_step HBL.out hb_)
  clear HBL
  have HBL := HBL'
  clear HBL'
  obtain ⟨s21, hs21⟩ : ∃ s, w20.heap.size = s := ⟨_, rfl⟩
  have hls21 : s19 ≤ s21 := by have := hb_.size; omega
  clear hb_
  have hc22 : w20.cell? ⟨s0, 0, none⟩ = some (c0_0) := cell_of_block HX_aK.out 0
  have hc23 : w20.cell? ⟨s0, 1, none⟩ = some (c0_1) := cell_of_block HX_aK.out 1
  have hc24 : w20.cell? ⟨s0, 2, none⟩ = some (c0_2) := cell_of_block HX_aK.out 2
  have hc25 : w20.cell? ⟨s0, 3, none⟩ = some (.int .i64 x0.Calls) := cell_of_block HX_aK.out 3
  have hc26 : w20.cell? ⟨s0, 4, none⟩ = some (c0_4) := cell_of_block HX_aK.out 4
  go_wp2_with fail
  refine (h_toKernel x0 c0_0 c0_1 c0_2 c0_4 w20 (raw_below HBL.out _ HR0.out) (by omega)).mono ?_
  rintro e w27 ⟨u_, rfl, hm_, hb_⟩
  have hsh_ := hm_
  obtain ⟨bs_, hsh_, _⟩ := hsh_
  obtain ⟨Ak28_0, nk28_0, pk28_0, Ak28_1, nk28_1, pk28_1, Ak28_2, nk28_2, pk28_2, Ak28_4, nk28_4, pk28_4, rfl⟩ := sinv_Kernel hsh_
  clear hsh_
  rw [hs21] at hm_
  have HX_aK' := Lib.hid ((hb_.block s0 (by omega)).trans HX_aK.out)
  clear HX_aK
  have HX_aK := HX_aK'
  clear HX_aK'
  have HM_t16' := Lib.hid (HM_t16.out.below hb_)
  clear HM_t16
  have HM_t16 := HM_t16'
  clear HM_t16'
  have HBL' := Lib.hid (below_step HBL.out hb_)
  clear HBL
  have HBL := HBL'
  clear HBL'
  obtain ⟨s29, hs29⟩ : ∃ s, w27.heap.size = s := ⟨_, rfl⟩
  have hls29 : s21 ≤ s29 := by have := hb_.size; omega
  have HM_x0 := Lib.hid (hm_.toIn (Nat.le_of_eq hs29))
  clear hm_ hb_
  have HXP_aK := HX_aK
  have hb_ : Below w27.heap.size w27 (w27.alloc (.cells #[.slice Ak28_0 nk28_0 pk28_0, .slice Ak28_1 nk28_1 pk28_1, .slice Ak28_2 nk28_2 pk28_2, .int .i64 x0.Calls, .slice Ak28_4 nk28_4 pk28_4] 35)) := (Below.refl _ _).alloc (Nat.le_refl _) _
  have hx_ : (w27.alloc (.cells #[.slice Ak28_0 nk28_0 pk28_0, .slice Ak28_1 nk28_1 pk28_1, .slice Ak28_2 nk28_2 pk28_2, .int .i64 x0.Calls, .slice Ak28_4 nk28_4 pk28_4] 35)).heap[s29]? = some (.cells #[.slice Ak28_0 nk28_0 pk28_0, .slice Ak28_1 nk28_1 pk28_1, .slice Ak28_2 nk28_2 pk28_2, .int .i64 x0.Calls, .slice Ak28_4 nk28_4 pk28_4] 35 (0, 0)) := by rw [← hs29]; exact heap_alloc_new _ _
  have hz_ : (w27.alloc (.cells #[.slice Ak28_0 nk28_0 pk28_0, .slice Ak28_1 nk28_1 pk28_1, .slice Ak28_2 nk28_2 pk28_2, .int .i64 x0.Calls, .slice Ak28_4 nk28_4 pk28_4] 35)).heap.size = s29 + 1 := by simp [hs29]
  obtain ⟨w30, HW_w30⟩ : ∃ z, (w27.alloc (.cells #[.slice Ak28_0 nk28_0 pk28_0, .slice Ak28_1 nk28_1 pk28_1, .slice Ak28_2 nk28_2 pk28_2, .int .i64 x0.Calls, .slice Ak28_4 nk28_4 pk28_4] 35)) = z := ⟨_, rfl⟩
  rw [HW_w30] at hb_ hx_ hz_
  have HX_aK' := Lib.hid ((hb_.block s0 (by omega)).trans HX_aK.out)
  clear HX_aK
  have HX_aK := HX_aK'
  clear HX_aK'
  have HM_t16' := Lib.hid (HM_t16.out.below hb_)
  clear HM_t16
  have HM_t16 := HM_t16'
  clear HM_t16'
  have HM_x0' := Lib.hid (HM_x0.out.below hb_)
  clear HM_x0
  have HM_x0 := HM_x0'
  clear HM_x0'
  have HBL' := Lib.hid (below_step HBL.out hb_)
  clear HBL
  have HBL := HBL'
  clear HBL'
  have HX_x0 := Lib.hid hx_
  clear hx_
  obtain ⟨s31, hs31⟩ : ∃ s, w30.heap.size = s := ⟨_, rfl⟩
  have hls31 : s29 + 1 = s31 := by omega
  have HWE_w30 := Lib.hid HW_w30
  clear HW_w30 hb_ hz_
  have hc32 : w30.cell? ⟨s29, 0, none⟩ = some (.slice Ak28_0 nk28_0 pk28_0) := cell_of_block HX_x0.out 0
  have hc33 : w30.cell? ⟨s29, 1, none⟩ = some (.slice Ak28_1 nk28_1 pk28_1) := cell_of_block HX_x0.out 1
  have hc34 : w30.cell? ⟨s29, 2, none⟩ = some (.slice Ak28_2 nk28_2 pk28_2) := cell_of_block HX_x0.out 2
  have hc35 : w30.cell? ⟨s29, 3, none⟩ = some (.int .i64 x0.Calls) := cell_of_block HX_x0.out 3
  have hc36 : w30.cell? ⟨s29, 4, none⟩ = some (.slice Ak28_4 nk28_4 pk28_4) := cell_of_block HX_x0.out 4
  go_wp2_with fail
  rw [HWE_w30.out]
  clear HWE_w30 HXP_aK
  refine (impl_KernelOk x0 (.slice Ak28_0 nk28_0 pk28_0) (.slice Ak28_1 nk28_1 pk28_1) (.slice Ak28_2 nk28_2 pk28_2) (.slice Ak28_4 nk28_4 pk28_4) w30 HM_x0.out.rd hsz0).mono ?_
  rintro e w37 ⟨rfl, hb_⟩
  have HX_aK' := Lib.hid ((hb_.block s0 (by omega)).trans HX_aK.out)
  clear HX_aK
  have HX_aK := HX_aK'
  clear HX_aK'
  have HX_x0' := Lib.hid ((hb_.block s29 (by omega)).trans HX_x0.out)
  clear HX_x0
  have HX_x0 := HX_x0'
  clear HX_x0'
  have HM_t16' := Lib.hid (HM_t16.out.below hb_)
  clear HM_t16
  have HM_t16 := HM_t16'
  clear HM_t16'
  have HM_x0' := Lib.hid (HM_x0.out.below hb_)
  clear HM_x0
  have HM_x0 := HM_x0'
  clear HM_x0'
  have HBL' := Lib.hid (below_step HBL.out hb_)
  clear HBL
  have HBL := HBL'
  clear HBL'
  obtain ⟨s38, hs38⟩ : ∃ s, w37.heap.size = s := ⟨_, rfl⟩
  have hls38 : s31 ≤ s38 := by have := hb_.size; omega
  clear hb_
  go_wp2_with fail
  have HT : Hid (∀ w', Below w37.heap.size w37 w' → Calls Try.prog 35 #[(.agg #[c0_0, c0_1, c0_2, .int .i64 x0.Calls, c0_4])] w' (fun e w'' => ∃ (A_0 : Option Addr) (n_0 p_0 : Nat) (A_1 : Option Addr) (n_1 p_1 : Nat) (A_2 : Option Addr) (n_2 p_2 : Nat) (A_4 : Option Addr) (n_4 p_4 : Nat), e = .returned (.agg #[.slice A_0 n_0 p_0, .slice A_1 n_1 p_1, .slice A_2 n_2 p_2, .int .i64 x0.Calls, .slice A_4 n_4 p_4]) ∧ Rd w'' (eKernel x0) [.slice A_0 n_0 p_0, .slice A_1 n_1 p_1, .slice A_2 n_2 p_2, .int .i64 x0.Calls, .slice A_4 n_4 p_4] ∧ Below w37.heap.size w37 w'')) := fun w' hb => (h_toKernel x0 c0_0 c0_1 c0_2 c0_4 w' (raw_below (below_step HBL.out hb) _ HR0.out) (by omega)).mono (by
    rintro e w'' ⟨u_, rfl, hm_, hb_⟩
    have hsh_ := hm_
    obtain ⟨bs_, hsh_, _⟩ := hsh_
    obtain ⟨A_0, n_0, p_0, A_1, n_1, p_1, A_2, n_2, p_2, A_4, n_4, p_4, rfl⟩ := sinv_Kernel hsh_
    exact ⟨A_0, n_0, p_0, A_1, n_1, p_1, A_2, n_2, p_2, A_4, n_4, p_4, rfl, hm_.rd, below_step hb hb_⟩)
  have HE : Hid (∀ w' (A_0 : Option Addr) (n_0 p_0 : Nat) (A_1 : Option Addr) (n_1 p_1 : Nat) (A_2 : Option Addr) (n_2 p_2 : Nat) (A_4 : Option Addr) (n_4 p_4 : Nat), Below w37.heap.size w37 w' → Rd w' (eKernel x0) [.slice A_0 n_0 p_0, .slice A_1 n_1 p_1, .slice A_2 n_2 p_2, .int .i64 x0.Calls, .slice A_4 n_4 p_4] → Calls Try.prog 28 #[(.agg #[.slice Ak28_0 nk28_0 pk28_0, .slice Ak28_1 nk28_1 pk28_1, .slice Ak28_2 nk28_2 pk28_2, .int .i64 x0.Calls, .slice Ak28_4 nk28_4 pk28_4]), (.agg #[.slice A_0 n_0 p_0, .slice A_1 n_1 p_1, .slice A_2 n_2 p_2, .int .i64 x0.Calls, .slice A_4 n_4 p_4])] w' (fun e w'' => e = .returned (.bool true) ∧ Below w37.heap.size w37 w'')) := fun w' A_0 n_0 p_0 A_1 n_1 p_1 A_2 n_2 p_2 A_4 n_4 p_4 hb hr => (h_eqKernel x0 (.slice Ak28_0 nk28_0 pk28_0) (.slice Ak28_1 nk28_1 pk28_1) (.slice Ak28_2 nk28_2 pk28_2) (.slice Ak28_4 nk28_4 pk28_4) (.slice A_0 n_0 p_0) (.slice A_1 n_1 p_1) (.slice A_2 n_2 p_2) (.slice A_4 n_4 p_4) w' (HM_x0.out.rd.below hb) hr (by omega)).mono (fun _ _ h => ⟨h.1, below_step hb h.2⟩)
  have hrf_ : Below w37.heap.size w37 w37.drew := (Below.refl _ _).drew
  have HK : Hid (∀ w', Below w37.heap.size w37 w' → w'.cell? ⟨s29, 0, none⟩ = some (.slice Ak28_0 nk28_0 pk28_0) ∧ w'.cell? ⟨s29, 1, none⟩ = some (.slice Ak28_1 nk28_1 pk28_1) ∧ w'.cell? ⟨s29, 2, none⟩ = some (.slice Ak28_2 nk28_2 pk28_2) ∧ w'.cell? ⟨s29, 3, none⟩ = some (.int .i64 x0.Calls) ∧ w'.cell? ⟨s29, 4, none⟩ = some (.slice Ak28_4 nk28_4 pk28_4) ∧ w'.cell? ⟨s0, 0, none⟩ = some (c0_0) ∧ w'.cell? ⟨s0, 1, none⟩ = some (c0_1) ∧ w'.cell? ⟨s0, 2, none⟩ = some (c0_2) ∧ w'.cell? ⟨s0, 3, none⟩ = some (.int .i64 x0.Calls) ∧ w'.cell? ⟨s0, 4, none⟩ = some (c0_4) ∧ Below w37.heap.size w37 w') := fun w' hb => ⟨cell_below hb (cell_of_block HX_x0.out 0), cell_below hb (cell_of_block HX_x0.out 1), cell_below hb (cell_of_block HX_x0.out 2), cell_below hb (cell_of_block HX_x0.out 3), cell_below hb (cell_of_block HX_x0.out 4), cell_below hb (cell_of_block HX_aK.out 0), cell_below hb (cell_of_block HX_aK.out 1), cell_below hb (cell_of_block HX_aK.out 2), cell_below hb (cell_of_block HX_aK.out 3), cell_below hb (cell_of_block HX_aK.out 4), hb⟩
  go_region_held3 (fun w' => w'.cell? ⟨s29, 0, none⟩ = some (.slice Ak28_0 nk28_0 pk28_0) ∧ w'.cell? ⟨s29, 1, none⟩ = some (.slice Ak28_1 nk28_1 pk28_1) ∧ w'.cell? ⟨s29, 2, none⟩ = some (.slice Ak28_2 nk28_2 pk28_2) ∧ w'.cell? ⟨s29, 3, none⟩ = some (.int .i64 x0.Calls) ∧ w'.cell? ⟨s29, 4, none⟩ = some (.slice Ak28_4 nk28_4 pk28_4) ∧ w'.cell? ⟨s0, 0, none⟩ = some (c0_0) ∧ w'.cell? ⟨s0, 1, none⟩ = some (c0_1) ∧ w'.cell? ⟨s0, 2, none⟩ = some (c0_2) ∧ w'.cell? ⟨s0, 3, none⟩ = some (.int .i64 x0.Calls) ∧ w'.cell? ⟨s0, 4, none⟩ = some (c0_4) ∧ Below w37.heap.size w37 w') (first | exact HK.out _ hrf_ | exact HK.out _ (by assumption)) (first | (go_at_call 35; refine (HT.out _ (by first | exact hrf_ | assumption)).mono ?_; rintro e wt_ ⟨A_0, n_0, p_0, A_1, n_1, p_1, A_2, n_2, p_2, A_4, n_4, p_4, rfl, hrt_, hbt_⟩) | (go_at_call 28; refine (HE.out _ _ _ _ _ _ _ _ _ _ _ _ _ (by first | exact hbt_ | assumption) (by first | exact hrt_ | assumption)).mono ?_; rintro e we_ ⟨rfl, hbe_⟩))
  obtain ⟨w39, hn_⟩ : ∃ z, we_ = z := ⟨_, rfl⟩
  rw [hn_] at hbe_
  rw [hn_]
  have HX_aK' := Lib.hid ((hbe_.block s0 (by omega)).trans HX_aK.out)
  clear HX_aK
  have HX_aK := HX_aK'
  clear HX_aK'
  have HX_x0' := Lib.hid ((hbe_.block s29 (by omega)).trans HX_x0.out)
  clear HX_x0
  have HX_x0 := HX_x0'
  clear HX_x0'
  have HM_t16' := Lib.hid (HM_t16.out.below hbe_)
  clear HM_t16
  have HM_t16 := HM_t16'
  clear HM_t16'
  have HM_x0' := Lib.hid (HM_x0.out.below hbe_)
  clear HM_x0
  have HM_x0 := HM_x0'
  clear HM_x0'
  have HBL' := Lib.hid (below_step HBL.out hbe_)
  clear HBL
  have HBL := HBL'
  clear HBL'
  obtain ⟨s40, hs40⟩ : ∃ s, w39.heap.size = s := ⟨_, rfl⟩
  have hls40 : s38 ≤ s40 := by have := hbe_.size; omega
  clear hbe_ hbt_ HT HE HK hrf_ hn_ hrt_
  go_wp2
  go_ret
  exact ⟨rfl, HBL.out⟩
set_option maxRecDepth 100000 in
theorem lifted (os : Os) (started : os.Started) (H : Type) (enc : TypeId × Value → H) :
    ReturnsInHanded {} Try.checked os 7 .any (Rows.fnExactKernelOkSpec.pre6 enc Try.prog Try.f7 Rows.fnExactKernelOkRow.domain false) (Rows.fnExactKernelOkSpec.post enc Try.prog Try.f7 false true false false) := by
  refine returnsInHanded_of_change (C := Try.checked) own started (by kernel_rfl) Try.func7
    (ChangeSpec.witness6 (enc := enc) (C := Try.checked) false ⟨#[], #[.agg #[.slice none 0 0, .slice none 0 0, .slice none 0 0, .int .i64 0, .slice none 0 0]], []⟩ 8 (by kernel_rfl) (by kernel_rfl) (by kernel_rfl) (by kernel_rfl)) ?_
  intro W base args ds gs before hval0 hW hcnd _
  have hval : ∀ (j : Nat) t v, Try.f7.params[j]? = some t → args[j]? = some v → Value.okWide Try.prog W .any base t v := hval0
  have hW' := hW
  obtain ⟨p, q, hA0, hV, rfl, hfz, hnd⟩ := hW
  have hA : DataW.TrodAll enc Try.prog W 0 (fun _ => true) true Try.f7.params.toList args.toList ds p := hA0
  rw [Try.params7] at hA hval
  obtain ⟨v0, vs0, d0, ds0, p0, q0, hargs, rfl, rfl, h0, r0⟩ := trodAll_cons hA
  obtain ⟨rfl, rfl, rfl⟩ := trodAll_nil r0
  obtain rfl : args = #[v0] := by cases args; simp_all
  obtain ⟨rfl, rfl⟩ := trodVars_none hV
  have k0 := h0
  have lt0 : ∀ x ∈ p0, x.block < W.heap.size := by obtain ⟨m, hm⟩ := k0; exact DataW.trod_lt m _ _ _ hm
  obtain ⟨x0, raw0, ok0⟩ := opens_trod opens_Kernel h0
  obtain ⟨cs0, rfl, _⟩ := okWide_struct Try.underlying62 (hval 0 62 v0 rfl rfl)
  obtain ⟨cs0⟩ := cs0
  have raw0 : Raw W (eKernel x0) cs0 := raw0
  obtain ⟨c0_0, c0_1, c0_2, c0_4, rfl⟩ := rinv_Kernel raw0
  clear hA0 hval0
  refine (walk x0 c0_0 c0_1 c0_2 c0_4 W raw0 ok0).mono fun e W' ⟨he, bel⟩ => ?_
  subst he
  exact ⟨_, rfl, _, _, _, [], _, [], hW', trodAll_mk1 (shut_bool Try.underlying4 _), (trodAll_cons_mk (Below.trod laidOut (by kernel_rfl) (of_decide_eq_true (by kernel_rfl)) k0 bel lt0) trodAll_mk0), rfl, bel.frame _, fun h => by cases h⟩
theorem over : Rows.fnExactKernelOkRow.holds Try.pinned (OpenSpec.ofChange Rows.fnExactKernelOkSpec) :=
  OpenClaim.holds_of_wide 7 Try.f7 rfl rfl rfl rfl rfl rfl rfl ⟨rfl, rfl, rfl, rfl, rfl⟩ rfl rfl rfl rfl rfl (by kernel_rfl) Try.func7 (by kernel_rfl)
    (of_decide_eq_true (by kernel_rfl)) (by unfold Func.isWrapper; first | (rw [if_pos (by decide +kernel)]; kernel_rfl) | (rw [if_neg (by decide +kernel)]; exact ⟨rfl, rfl⟩))
    (fun os started H enc _ => lifted os started H enc)
theorem proved : Rows.FnExactKernelOkSaid := over
#print axioms proved
end Go.Proofs.Ytcdmijnlpapjaaa.fnExactKernelOk

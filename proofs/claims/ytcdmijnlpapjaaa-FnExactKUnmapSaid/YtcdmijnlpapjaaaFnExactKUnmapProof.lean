/- Called with any arguments, the law FnExactKUnmap returns true and each argument reads afterwards as before. No condition. -/
import Derived.Test.YtcdmijnlpapjaaaRows
import Derived.Test.YtcdmijnlpapjaaaEI08n
import Derived.Test.YtcdmijnlpapjaaaTo
import Derived.Test.YtcdmijnlpapjaaaEq
import Derived.Test.YtcdmijnlpapjaaaSz
import Derived.Test.YtcdmijnlpapjaaaMark
import Derived.Test.YtcdmijnlpapjaaaHeld
import Derived.Test.YtcdmijnlpapjaaaIn
import Derived.WalkKit
import Derived.ProofKit
import Derived.OpenShut
import Derived.ShutString
import Derived.ChangeOld
import Derived.Below
import Derived.Carry
import Derived.Deep.RegionHeld3
namespace Go.Proofs.Ytcdmijnlpapjaaa.fnExactKUnmap
open Go.ChangeShapes Go.WideShapes Go.ChangeAt Go.RowKit Go.Proofs.Ytcdmijnlpapjaaa.Tr
set_option linter.unusedVariables false
theorem own : ownKnob Try.prog.godebug = none := by kernel_rfl
theorem laidOut : laidOutB Try.prog = true := by kernel_rfl
set_option maxRecDepth 100000 in
set_option maxHeartbeats 1000000 in
theorem walk (x0 : GKernel) (c0_0 c0_1 c0_2 c0_4 : Value) (x1 : Int) (w : World) (r0 : Raw w (eKernel x0) [c0_0, c0_1, c0_2, .int .i64 x0.Calls, c0_4]) (hw0 : okKernel x0) (hw1 : okI x1) :
    Calls Try.prog 11 #[(.agg #[c0_0, c0_1, c0_2, .int .i64 x0.Calls, c0_4]), (.int .i64 x1)] w fun e w' => e = .returned (.bool true) ∧ Below w.heap.size w w' := by
  have HO : Hid True := trivial
  have HR0 := Lib.hid r0
  clear r0
  obtain ⟨s0, hs0⟩ : ∃ s, w.heap.size = s := ⟨_, rfl⟩
  have HBL : Hid (Below w.heap.size w w) := Below.refl _ _
  have hb_ : Below w.heap.size w (w.alloc (.cells #[c0_0, c0_1, c0_2, .int .i64 x0.Calls, c0_4] 62)) := (Below.refl _ _).alloc (Nat.le_refl _) _
  have hx_ : (w.alloc (.cells #[c0_0, c0_1, c0_2, .int .i64 x0.Calls, c0_4] 62)).heap[s0]? = some (.cells #[c0_0, c0_1, c0_2, .int .i64 x0.Calls, c0_4] 62 (0, 0)) := by rw [← hs0]; exact heap_alloc_new _ _
  have hz_ : (w.alloc (.cells #[c0_0, c0_1, c0_2, .int .i64 x0.Calls, c0_4] 62)).heap.size = s0 + 1 := by simp [hs0]
  obtain ⟨w1, HW_w1⟩ : ∃ z, (w.alloc (.cells #[c0_0, c0_1, c0_2, .int .i64 x0.Calls, c0_4] 62)) = z := ⟨_, rfl⟩
  rw [HW_w1] at hb_ hx_ hz_
  have HBL' := Lib.hid (below_step HBL.out hb_)
  clear HBL
  have HBL := HBL'
  clear HBL'
  have HX_aK := Lib.hid hx_
  clear hx_
  obtain ⟨s2, hs2⟩ : ∃ s, w1.heap.size = s := ⟨_, rfl⟩
  have hls2 : s0 + 1 = s2 := by omega
  have HWE_w1 := Lib.hid HW_w1
  clear HW_w1 hb_ hz_
  go_enter Try.func11, Try.ntmps11
  have hc3 : w1.cell? ⟨s0, 0, none⟩ = some (c0_0) := cell_of_block HX_aK.out 0
  have hc4 : w1.cell? ⟨s0, 1, none⟩ = some (c0_1) := cell_of_block HX_aK.out 1
  have hc5 : w1.cell? ⟨s0, 2, none⟩ = some (c0_2) := cell_of_block HX_aK.out 2
  have hc6 : w1.cell? ⟨s0, 3, none⟩ = some (.int .i64 x0.Calls) := cell_of_block HX_aK.out 3
  have hc7 : w1.cell? ⟨s0, 4, none⟩ = some (c0_4) := cell_of_block HX_aK.out 4
  go_wp2_with fail
  rw [HWE_w1.out]
  clear HWE_w1
  refine (h_szKernel x0 c0_0 c0_1 c0_2 c0_4 1048576 w1 (raw_below HBL.out _ HR0.out) (by omega)).mono ?_
  rintro e w8 ⟨hcase, hb_⟩
  have HX_aK' := Lib.hid ((hb_.block s0 (by omega)).trans HX_aK.out)
  clear HX_aK
  have HX_aK := HX_aK'
  clear HX_aK'
  have HBL' := Lib.hid (below_step HBL.out hb_)
  clear HBL
  have HBL := HBL'
  clear HBL'
  obtain ⟨s10, hs10⟩ : ∃ s, w8.heap.size = s := ⟨_, rfl⟩
  have hls10 : s2 ≤ s10 := by have := hb_.size; omega
  clear hb_
  rcases hcase with ⟨q9, hq9, rfl⟩ | ⟨_, rfl⟩
  rotate_left
  · go_wp2
    go_ret
    exact ⟨rfl, HBL.out⟩
  have hsz0 : (eKernel x0).sz ≤ 1048576 := by omega
  have hc11 : w8.cell? ⟨s0, 0, none⟩ = some (c0_0) := cell_of_block HX_aK.out 0
  have hc12 : w8.cell? ⟨s0, 1, none⟩ = some (c0_1) := cell_of_block HX_aK.out 1
  have hc13 : w8.cell? ⟨s0, 2, none⟩ = some (c0_2) := cell_of_block HX_aK.out 2
  have hc14 : w8.cell? ⟨s0, 3, none⟩ = some (.int .i64 x0.Calls) := cell_of_block HX_aK.out 3
  have hc15 : w8.cell? ⟨s0, 4, none⟩ = some (c0_4) := cell_of_block HX_aK.out 4
  go_wp2_with fail
  refine (h_toKernel x0 c0_0 c0_1 c0_2 c0_4 w8 (raw_below HBL.out _ HR0.out) (by omega)).mono ?_
  rintro e w17 ⟨u_, rfl, hm_, hb_⟩
  have hsh_ := hm_
  obtain ⟨bs_, hsh_, _⟩ := hsh_
  obtain ⟨Ak18_0, nk18_0, pk18_0, Ak18_1, nk18_1, pk18_1, Ak18_2, nk18_2, pk18_2, Ak18_4, nk18_4, pk18_4, rfl⟩ := sinv_Kernel hsh_
  clear hsh_
  rw [hs10] at hm_
  have HX_aK' := Lib.hid ((hb_.block s0 (by omega)).trans HX_aK.out)
  clear HX_aK
  have HX_aK := HX_aK'
  clear HX_aK'
  have HBL' := Lib.hid (below_step HBL.out hb_)
  clear HBL
  have HBL := HBL'
  clear HBL'
  obtain ⟨s19, hs19⟩ : ∃ s, w17.heap.size = s := ⟨_, rfl⟩
  have hls19 : s10 ≤ s19 := by have := hb_.size; omega
  have HM_t16 := Lib.hid (hm_.toIn (Nat.le_of_eq hs19))
  clear hm_ hb_
  go_wp2_with fail
  refine (spec_KUnmap x0 (.slice Ak18_0 nk18_0 pk18_0) (.slice Ak18_1 nk18_1 pk18_1) (.slice Ak18_2 nk18_2 pk18_2) (.slice Ak18_4 nk18_4 pk18_4) x1 w17 HM_t16.out.rd hsz0 hw1).mono ?_
  rintro e w20 ⟨u_, rfl, hm_, hb_⟩
  have hsh_ := hm_
  obtain ⟨bs_, hsh_, _⟩ := hsh_
  obtain ⟨Ak21_0, nk21_0, pk21_0, Ak21_1, nk21_1, pk21_1, Ak21_2, nk21_2, pk21_2, Ak21_4, nk21_4, pk21_4, rfl⟩ := sinv_Kernel hsh_
  clear hsh_
  rw [hs19] at hm_
  have HX_aK' := Lib.hid ((hb_.block s0 (by omega)).trans HX_aK.out)
  clear HX_aK
  have HX_aK := HX_aK'
  clear HX_aK'
  have HM_t16' := Lib.hid (HM_t16.out.below hb_)
  clear HM_t16
  have HM_t16 := HM_t16'
  clear HM_t16'
  have HBL' := Lib.hid (below_step HBL.out hb_)
  clear HBL
  have HBL := HBL'
  clear HBL'
  obtain ⟨s22, hs22⟩ : ∃ s, w20.heap.size = s := ⟨_, rfl⟩
  have hls22 : s19 ≤ s22 := by have := hb_.size; omega
  have HM_w0 := Lib.hid (hm_.toIn (Nat.le_of_eq hs22))
  clear hm_ hb_
  have hsr : (eKernel (pKUnmap x0 x1).1).sz ≤ 50000000 := bound_KUnmap x0 x1 hsz0
  have HXP_aK := HX_aK
  have hb_ : Below w20.heap.size w20 (w20.alloc (.cells #[.slice Ak21_0 nk21_0 pk21_0, .slice Ak21_1 nk21_1 pk21_1, .slice Ak21_2 nk21_2 pk21_2, .int .i64 ((pKUnmap x0 x1).1.Calls), .slice Ak21_4 nk21_4 pk21_4] 35)) := (Below.refl _ _).alloc (Nat.le_refl _) _
  have hx_ : (w20.alloc (.cells #[.slice Ak21_0 nk21_0 pk21_0, .slice Ak21_1 nk21_1 pk21_1, .slice Ak21_2 nk21_2 pk21_2, .int .i64 ((pKUnmap x0 x1).1.Calls), .slice Ak21_4 nk21_4 pk21_4] 35)).heap[s22]? = some (.cells #[.slice Ak21_0 nk21_0 pk21_0, .slice Ak21_1 nk21_1 pk21_1, .slice Ak21_2 nk21_2 pk21_2, .int .i64 ((pKUnmap x0 x1).1.Calls), .slice Ak21_4 nk21_4 pk21_4] 35 (0, 0)) := by rw [← hs22]; exact heap_alloc_new _ _
  have hz_ : (w20.alloc (.cells #[.slice Ak21_0 nk21_0 pk21_0, .slice Ak21_1 nk21_1 pk21_1, .slice Ak21_2 nk21_2 pk21_2, .int .i64 ((pKUnmap x0 x1).1.Calls), .slice Ak21_4 nk21_4 pk21_4] 35)).heap.size = s22 + 1 := by simp [hs22]
  obtain ⟨w23, HW_w23⟩ : ∃ z, (w20.alloc (.cells #[.slice Ak21_0 nk21_0 pk21_0, .slice Ak21_1 nk21_1 pk21_1, .slice Ak21_2 nk21_2 pk21_2, .int .i64 ((pKUnmap x0 x1).1.Calls), .slice Ak21_4 nk21_4 pk21_4] 35)) = z := ⟨_, rfl⟩
  rw [HW_w23] at hb_ hx_ hz_
  have HX_aK' := Lib.hid ((hb_.block s0 (by omega)).trans HX_aK.out)
  clear HX_aK
  have HX_aK := HX_aK'
  clear HX_aK'
  have HM_t16' := Lib.hid (HM_t16.out.below hb_)
  clear HM_t16
  have HM_t16 := HM_t16'
  clear HM_t16'
  have HM_w0' := Lib.hid (HM_w0.out.below hb_)
  clear HM_w0
  have HM_w0 := HM_w0'
  clear HM_w0'
  have HBL' := Lib.hid (below_step HBL.out hb_)
  clear HBL
  have HBL := HBL'
  clear HBL'
  have HX_w0 := Lib.hid hx_
  clear hx_
  obtain ⟨s24, hs24⟩ : ∃ s, w23.heap.size = s := ⟨_, rfl⟩
  have hls24 : s22 + 1 = s24 := by omega
  have HWE_w23 := Lib.hid HW_w23
  clear HW_w23 hb_ hz_
  have : s0 < s22 := by omega
  have : w20.cell? ⟨s0, 0, none⟩ = some (c0_0) := cell_of_block HXP_aK.out 0
  have : w20.cell? ⟨s0, 1, none⟩ = some (c0_1) := cell_of_block HXP_aK.out 1
  have : w20.cell? ⟨s0, 2, none⟩ = some (c0_2) := cell_of_block HXP_aK.out 2
  have : w20.cell? ⟨s0, 3, none⟩ = some (.int .i64 x0.Calls) := cell_of_block HXP_aK.out 3
  have : w20.cell? ⟨s0, 4, none⟩ = some (c0_4) := cell_of_block HXP_aK.out 4
  have hc25 : w23.cell? ⟨s0, 0, none⟩ = some (c0_0) := cell_of_block HX_aK.out 0
  have hc26 : w23.cell? ⟨s0, 1, none⟩ = some (c0_1) := cell_of_block HX_aK.out 1
  have hc27 : w23.cell? ⟨s0, 2, none⟩ = some (c0_2) := cell_of_block HX_aK.out 2
  have hc28 : w23.cell? ⟨s0, 3, none⟩ = some (.int .i64 x0.Calls) := cell_of_block HX_aK.out 3
  have hc29 : w23.cell? ⟨s0, 4, none⟩ = some (c0_4) := cell_of_block HX_aK.out 4
  go_wp2_with fail
  rw [HWE_w23.out]
  clear HWE_w23 HXP_aK
  refine (h_toKernel x0 c0_0 c0_1 c0_2 c0_4 w23 (raw_below HBL.out _ HR0.out) (by omega)).mono ?_
  rintro e w30 ⟨u_, rfl, hm_, hb_⟩
  have hsh_ := hm_
  obtain ⟨bs_, hsh_, _⟩ := hsh_
  obtain ⟨Ak31_0, nk31_0, pk31_0, Ak31_1, nk31_1, pk31_1, Ak31_2, nk31_2, pk31_2, Ak31_4, nk31_4, pk31_4, rfl⟩ := sinv_Kernel hsh_
  clear hsh_
  rw [hs24] at hm_
  have HX_aK' := Lib.hid ((hb_.block s0 (by omega)).trans HX_aK.out)
  clear HX_aK
  have HX_aK := HX_aK'
  clear HX_aK'
  have HX_w0' := Lib.hid ((hb_.block s22 (by omega)).trans HX_w0.out)
  clear HX_w0
  have HX_w0 := HX_w0'
  clear HX_w0'
  have HM_t16' := Lib.hid (HM_t16.out.below hb_)
  clear HM_t16
  have HM_t16 := HM_t16'
  clear HM_t16'
  have HM_w0' := Lib.hid (HM_w0.out.below hb_)
  clear HM_w0
  have HM_w0 := HM_w0'
  clear HM_w0'
  have HBL' := Lib.hid (below_step HBL.out hb_)
  clear HBL
  have HBL := HBL'
  clear HBL'
  obtain ⟨s32, hs32⟩ : ∃ s, w30.heap.size = s := ⟨_, rfl⟩
  have hls32 : s24 ≤ s32 := by have := hb_.size; omega
  have HM_x0 := Lib.hid (hm_.toIn (Nat.le_of_eq hs32))
  clear hm_ hb_
  have HXP_aK := HX_aK
  have HXP_w0 := HX_w0
  have hb_ : Below w30.heap.size w30 (w30.alloc (.cells #[.slice Ak31_0 nk31_0 pk31_0, .slice Ak31_1 nk31_1 pk31_1, .slice Ak31_2 nk31_2 pk31_2, .int .i64 x0.Calls, .slice Ak31_4 nk31_4 pk31_4] 35)) := (Below.refl _ _).alloc (Nat.le_refl _) _
  have hx_ : (w30.alloc (.cells #[.slice Ak31_0 nk31_0 pk31_0, .slice Ak31_1 nk31_1 pk31_1, .slice Ak31_2 nk31_2 pk31_2, .int .i64 x0.Calls, .slice Ak31_4 nk31_4 pk31_4] 35)).heap[s32]? = some (.cells #[.slice Ak31_0 nk31_0 pk31_0, .slice Ak31_1 nk31_1 pk31_1, .slice Ak31_2 nk31_2 pk31_2, .int .i64 x0.Calls, .slice Ak31_4 nk31_4 pk31_4] 35 (0, 0)) := by rw [← hs32]; exact heap_alloc_new _ _
  have hz_ : (w30.alloc (.cells #[.slice Ak31_0 nk31_0 pk31_0, .slice Ak31_1 nk31_1 pk31_1, .slice Ak31_2 nk31_2 pk31_2, .int .i64 x0.Calls, .slice Ak31_4 nk31_4 pk31_4] 35)).heap.size = s32 + 1 := by simp [hs32]
  obtain ⟨w33, HW_w33⟩ : ∃ z, (w30.alloc (.cells #[.slice Ak31_0 nk31_0 pk31_0, .slice Ak31_1 nk31_1 pk31_1, .slice Ak31_2 nk31_2 pk31_2, .int .i64 x0.Calls, .slice Ak31_4 nk31_4 pk31_4] 35)) = z := ⟨_, rfl⟩
  rw [HW_w33] at hb_ hx_ hz_
  have HX_aK' := Lib.hid ((hb_.block s0 (by omega)).trans HX_aK.out)
  clear HX_aK
  have HX_aK := HX_aK'
  clear HX_aK'
  have HX_w0' := Lib.hid ((hb_.block s22 (by omega)).trans HX_w0.out)
  clear HX_w0
  have HX_w0 := HX_w0'
  clear HX_w0'
  have HM_t16' := Lib.hid (HM_t16.out.below hb_)
  clear HM_t16
  have HM_t16 := HM_t16'
  clear HM_t16'
  have HM_w0' := Lib.hid (HM_w0.out.below hb_)
  clear HM_w0
  have HM_w0 := HM_w0'
  clear HM_w0'
  have HM_x0' := Lib.hid (HM_x0.out.below hb_)
  clear HM_x0
  have HM_x0 := HM_x0'
  clear HM_x0'
  have HBL' := Lib.hid (below_step HBL.out hb_)
  clear HBL
  have HBL := HBL'
  clear HBL'
  have HX_x0 := Lib.hid hx_
  clear hx_
  obtain ⟨s34, hs34⟩ : ∃ s, w33.heap.size = s := ⟨_, rfl⟩
  have hls34 : s32 + 1 = s34 := by omega
  have HWE_w33 := Lib.hid HW_w33
  clear HW_w33 hb_ hz_
  have hc35 : w33.cell? ⟨s32, 0, none⟩ = some (.slice Ak31_0 nk31_0 pk31_0) := cell_of_block HX_x0.out 0
  have hc36 : w33.cell? ⟨s32, 1, none⟩ = some (.slice Ak31_1 nk31_1 pk31_1) := cell_of_block HX_x0.out 1
  have hc37 : w33.cell? ⟨s32, 2, none⟩ = some (.slice Ak31_2 nk31_2 pk31_2) := cell_of_block HX_x0.out 2
  have hc38 : w33.cell? ⟨s32, 3, none⟩ = some (.int .i64 x0.Calls) := cell_of_block HX_x0.out 3
  have hc39 : w33.cell? ⟨s32, 4, none⟩ = some (.slice Ak31_4 nk31_4 pk31_4) := cell_of_block HX_x0.out 4
  go_wp2_with fail
  rw [HWE_w33.out]
  clear HWE_w33 HXP_aK HXP_w0
  refine (impl_KUnmap x0 (.slice Ak31_0 nk31_0 pk31_0) (.slice Ak31_1 nk31_1 pk31_1) (.slice Ak31_2 nk31_2 pk31_2) (.slice Ak31_4 nk31_4 pk31_4) x1 w33 HM_x0.out.rd hsz0 hw1).mono ?_
  rintro e w40 ⟨u_, rfl, hm_, hb_⟩
  have hsh_ := hm_
  obtain ⟨bs_, hsh_, _⟩ := hsh_
  obtain ⟨Ak41_0, nk41_0, pk41_0, Ak41_1, nk41_1, pk41_1, Ak41_2, nk41_2, pk41_2, Ak41_4, nk41_4, pk41_4, rfl⟩ := sinv_Kernel hsh_
  clear hsh_
  rw [hs34] at hm_
  have HX_aK' := Lib.hid ((hb_.block s0 (by omega)).trans HX_aK.out)
  clear HX_aK
  have HX_aK := HX_aK'
  clear HX_aK'
  have HX_w0' := Lib.hid ((hb_.block s22 (by omega)).trans HX_w0.out)
  clear HX_w0
  have HX_w0 := HX_w0'
  clear HX_w0'
  have HX_x0' := Lib.hid ((hb_.block s32 (by omega)).trans HX_x0.out)
  clear HX_x0
  have HX_x0 := HX_x0'
  clear HX_x0'
  have HM_t16' := Lib.hid (HM_t16.out.below hb_)
  clear HM_t16
  have HM_t16 := HM_t16'
  clear HM_t16'
  have HM_w0' := Lib.hid (HM_w0.out.below hb_)
  clear HM_w0
  have HM_w0 := HM_w0'
  clear HM_w0'
  have HM_x0' := Lib.hid (HM_x0.out.below hb_)
  clear HM_x0
  have HM_x0 := HM_x0'
  clear HM_x0'
  have HBL' := Lib.hid (below_step HBL.out hb_)
  clear HBL
  have HBL := HBL'
  clear HBL'
  obtain ⟨s42, hs42⟩ : ∃ s, w40.heap.size = s := ⟨_, rfl⟩
  have hls42 : s34 ≤ s42 := by have := hb_.size; omega
  have HM_g0 := Lib.hid (hm_.toIn (Nat.le_of_eq hs42))
  clear hm_ hb_
  have HXP_aK := HX_aK
  have HXP_w0 := HX_w0
  have HXP_x0 := HX_x0
  have hb_ : Below w40.heap.size w40 (w40.alloc (.cells #[.slice Ak41_0 nk41_0 pk41_0, .slice Ak41_1 nk41_1 pk41_1, .slice Ak41_2 nk41_2 pk41_2, .int .i64 ((pKUnmap x0 x1).1.Calls), .slice Ak41_4 nk41_4 pk41_4] 35)) := (Below.refl _ _).alloc (Nat.le_refl _) _
  have hx_ : (w40.alloc (.cells #[.slice Ak41_0 nk41_0 pk41_0, .slice Ak41_1 nk41_1 pk41_1, .slice Ak41_2 nk41_2 pk41_2, .int .i64 ((pKUnmap x0 x1).1.Calls), .slice Ak41_4 nk41_4 pk41_4] 35)).heap[s42]? = some (.cells #[.slice Ak41_0 nk41_0 pk41_0, .slice Ak41_1 nk41_1 pk41_1, .slice Ak41_2 nk41_2 pk41_2, .int .i64 ((pKUnmap x0 x1).1.Calls), .slice Ak41_4 nk41_4 pk41_4] 35 (0, 0)) := by rw [← hs42]; exact heap_alloc_new _ _
  have hz_ : (w40.alloc (.cells #[.slice Ak41_0 nk41_0 pk41_0, .slice Ak41_1 nk41_1 pk41_1, .slice Ak41_2 nk41_2 pk41_2, .int .i64 ((pKUnmap x0 x1).1.Calls), .slice Ak41_4 nk41_4 pk41_4] 35)).heap.size = s42 + 1 := by simp [hs42]
  obtain ⟨w43, HW_w43⟩ : ∃ z, (w40.alloc (.cells #[.slice Ak41_0 nk41_0 pk41_0, .slice Ak41_1 nk41_1 pk41_1, .slice Ak41_2 nk41_2 pk41_2, .int .i64 ((pKUnmap x0 x1).1.Calls), .slice Ak41_4 nk41_4 pk41_4] 35)) = z := ⟨_, rfl⟩
  rw [HW_w43] at hb_ hx_ hz_
  have HX_aK' := Lib.hid ((hb_.block s0 (by omega)).trans HX_aK.out)
  clear HX_aK
  have HX_aK := HX_aK'
  clear HX_aK'
  have HX_w0' := Lib.hid ((hb_.block s22 (by omega)).trans HX_w0.out)
  clear HX_w0
  have HX_w0 := HX_w0'
  clear HX_w0'
  have HX_x0' := Lib.hid ((hb_.block s32 (by omega)).trans HX_x0.out)
  clear HX_x0
  have HX_x0 := HX_x0'
  clear HX_x0'
  have HM_t16' := Lib.hid (HM_t16.out.below hb_)
  clear HM_t16
  have HM_t16 := HM_t16'
  clear HM_t16'
  have HM_w0' := Lib.hid (HM_w0.out.below hb_)
  clear HM_w0
  have HM_w0 := HM_w0'
  clear HM_w0'
  have HM_x0' := Lib.hid (HM_x0.out.below hb_)
  clear HM_x0
  have HM_x0 := HM_x0'
  clear HM_x0'
  have HM_g0' := Lib.hid (HM_g0.out.below hb_)
  clear HM_g0
  have HM_g0 := HM_g0'
  clear HM_g0'
  have HBL' := Lib.hid (below_step HBL.out hb_)
  clear HBL
  have HBL := HBL'
  clear HBL'
  have HX_g0 := Lib.hid hx_
  clear hx_
  obtain ⟨s44, hs44⟩ : ∃ s, w43.heap.size = s := ⟨_, rfl⟩
  have hls44 : s42 + 1 = s44 := by omega
  have HWE_w43 := Lib.hid HW_w43
  clear HW_w43 hb_ hz_
  have hc45 : w43.cell? ⟨s42, 0, none⟩ = some (.slice Ak41_0 nk41_0 pk41_0) := cell_of_block HX_g0.out 0
  have hc46 : w43.cell? ⟨s42, 1, none⟩ = some (.slice Ak41_1 nk41_1 pk41_1) := cell_of_block HX_g0.out 1
  have hc47 : w43.cell? ⟨s42, 2, none⟩ = some (.slice Ak41_2 nk41_2 pk41_2) := cell_of_block HX_g0.out 2
  have hc48 : w43.cell? ⟨s42, 3, none⟩ = some (.int .i64 ((pKUnmap x0 x1).1.Calls)) := cell_of_block HX_g0.out 3
  have hc49 : w43.cell? ⟨s42, 4, none⟩ = some (.slice Ak41_4 nk41_4 pk41_4) := cell_of_block HX_g0.out 4
  have : s22 < s42 := by omega
  have : w40.cell? ⟨s22, 0, none⟩ = some (.slice Ak21_0 nk21_0 pk21_0) := cell_of_block HXP_w0.out 0
  have : w40.cell? ⟨s22, 1, none⟩ = some (.slice Ak21_1 nk21_1 pk21_1) := cell_of_block HXP_w0.out 1
  have : w40.cell? ⟨s22, 2, none⟩ = some (.slice Ak21_2 nk21_2 pk21_2) := cell_of_block HXP_w0.out 2
  have : w40.cell? ⟨s22, 3, none⟩ = some (.int .i64 ((pKUnmap x0 x1).1.Calls)) := cell_of_block HXP_w0.out 3
  have : w40.cell? ⟨s22, 4, none⟩ = some (.slice Ak21_4 nk21_4 pk21_4) := cell_of_block HXP_w0.out 4
  have hc50 : w43.cell? ⟨s22, 0, none⟩ = some (.slice Ak21_0 nk21_0 pk21_0) := cell_of_block HX_w0.out 0
  have hc51 : w43.cell? ⟨s22, 1, none⟩ = some (.slice Ak21_1 nk21_1 pk21_1) := cell_of_block HX_w0.out 1
  have hc52 : w43.cell? ⟨s22, 2, none⟩ = some (.slice Ak21_2 nk21_2 pk21_2) := cell_of_block HX_w0.out 2
  have hc53 : w43.cell? ⟨s22, 3, none⟩ = some (.int .i64 ((pKUnmap x0 x1).1.Calls)) := cell_of_block HX_w0.out 3
  have hc54 : w43.cell? ⟨s22, 4, none⟩ = some (.slice Ak21_4 nk21_4 pk21_4) := cell_of_block HX_w0.out 4
  go_wp2_with fail
  rw [HWE_w43.out]
  clear HWE_w43 HXP_aK HXP_w0 HXP_x0
  refine (h_eqKernel (pKUnmap x0 x1).1 (.slice Ak41_0 nk41_0 pk41_0) (.slice Ak41_1 nk41_1 pk41_1) (.slice Ak41_2 nk41_2 pk41_2) (.slice Ak41_4 nk41_4 pk41_4) (.slice Ak21_0 nk21_0 pk21_0) (.slice Ak21_1 nk21_1 pk21_1) (.slice Ak21_2 nk21_2 pk21_2) (.slice Ak21_4 nk21_4 pk21_4) w43 HM_g0.out.rd HM_w0.out.rd (by omega)).mono ?_
  rintro e w55 ⟨rfl, hb_⟩
  have HX_aK' := Lib.hid ((hb_.block s0 (by omega)).trans HX_aK.out)
  clear HX_aK
  have HX_aK := HX_aK'
  clear HX_aK'
  have HX_w0' := Lib.hid ((hb_.block s22 (by omega)).trans HX_w0.out)
  clear HX_w0
  have HX_w0 := HX_w0'
  clear HX_w0'
  have HX_x0' := Lib.hid ((hb_.block s32 (by omega)).trans HX_x0.out)
  clear HX_x0
  have HX_x0 := HX_x0'
  clear HX_x0'
  have HX_g0' := Lib.hid ((hb_.block s42 (by omega)).trans HX_g0.out)
  clear HX_g0
  have HX_g0 := HX_g0'
  clear HX_g0'
  have HM_t16' := Lib.hid (HM_t16.out.below hb_)
  clear HM_t16
  have HM_t16 := HM_t16'
  clear HM_t16'
  have HM_w0' := Lib.hid (HM_w0.out.below hb_)
  clear HM_w0
  have HM_w0 := HM_w0'
  clear HM_w0'
  have HM_x0' := Lib.hid (HM_x0.out.below hb_)
  clear HM_x0
  have HM_x0 := HM_x0'
  clear HM_x0'
  have HM_g0' := Lib.hid (HM_g0.out.below hb_)
  clear HM_g0
  have HM_g0 := HM_g0'
  clear HM_g0'
  have HBL' := Lib.hid (below_step HBL.out hb_)
  clear HBL
  have HBL := HBL'
  clear HBL'
  obtain ⟨s56, hs56⟩ : ∃ s, w55.heap.size = s := ⟨_, rfl⟩
  have hls56 : s44 ≤ s56 := by have := hb_.size; omega
  clear hb_
  go_wp2_with fail
  have HT : Hid (∀ w', Below w55.heap.size w55 w' → Calls Try.prog 35 #[(.agg #[c0_0, c0_1, c0_2, .int .i64 x0.Calls, c0_4])] w' (fun e w'' => ∃ (A_0 : Option Addr) (n_0 p_0 : Nat) (A_1 : Option Addr) (n_1 p_1 : Nat) (A_2 : Option Addr) (n_2 p_2 : Nat) (A_4 : Option Addr) (n_4 p_4 : Nat), e = .returned (.agg #[.slice A_0 n_0 p_0, .slice A_1 n_1 p_1, .slice A_2 n_2 p_2, .int .i64 x0.Calls, .slice A_4 n_4 p_4]) ∧ Rd w'' (eKernel x0) [.slice A_0 n_0 p_0, .slice A_1 n_1 p_1, .slice A_2 n_2 p_2, .int .i64 x0.Calls, .slice A_4 n_4 p_4] ∧ Below w55.heap.size w55 w'')) := fun w' hb => (h_toKernel x0 c0_0 c0_1 c0_2 c0_4 w' (raw_below (below_step HBL.out hb) _ HR0.out) (by omega)).mono (by
    rintro e w'' ⟨u_, rfl, hm_, hb_⟩
    have hsh_ := hm_
    obtain ⟨bs_, hsh_, _⟩ := hsh_
    obtain ⟨A_0, n_0, p_0, A_1, n_1, p_1, A_2, n_2, p_2, A_4, n_4, p_4, rfl⟩ := sinv_Kernel hsh_
    exact ⟨A_0, n_0, p_0, A_1, n_1, p_1, A_2, n_2, p_2, A_4, n_4, p_4, rfl, hm_.rd, below_step hb hb_⟩)
  have HE : Hid (∀ w' (A_0 : Option Addr) (n_0 p_0 : Nat) (A_1 : Option Addr) (n_1 p_1 : Nat) (A_2 : Option Addr) (n_2 p_2 : Nat) (A_4 : Option Addr) (n_4 p_4 : Nat), Below w55.heap.size w55 w' → Rd w' (eKernel x0) [.slice A_0 n_0 p_0, .slice A_1 n_1 p_1, .slice A_2 n_2 p_2, .int .i64 x0.Calls, .slice A_4 n_4 p_4] → Calls Try.prog 28 #[(.agg #[.slice Ak31_0 nk31_0 pk31_0, .slice Ak31_1 nk31_1 pk31_1, .slice Ak31_2 nk31_2 pk31_2, .int .i64 x0.Calls, .slice Ak31_4 nk31_4 pk31_4]), (.agg #[.slice A_0 n_0 p_0, .slice A_1 n_1 p_1, .slice A_2 n_2 p_2, .int .i64 x0.Calls, .slice A_4 n_4 p_4])] w' (fun e w'' => e = .returned (.bool true) ∧ Below w55.heap.size w55 w'')) := fun w' A_0 n_0 p_0 A_1 n_1 p_1 A_2 n_2 p_2 A_4 n_4 p_4 hb hr => (h_eqKernel x0 (.slice Ak31_0 nk31_0 pk31_0) (.slice Ak31_1 nk31_1 pk31_1) (.slice Ak31_2 nk31_2 pk31_2) (.slice Ak31_4 nk31_4 pk31_4) (.slice A_0 n_0 p_0) (.slice A_1 n_1 p_1) (.slice A_2 n_2 p_2) (.slice A_4 n_4 p_4) w' (HM_x0.out.rd.below hb) hr (by omega)).mono (fun _ _ h => ⟨h.1, below_step hb h.2⟩)
  have hrf_ : Below w55.heap.size w55 w55.drew := (Below.refl _ _).drew
  have HK : Hid (∀ w', Below w55.heap.size w55 w' → w'.cell? ⟨s32, 0, none⟩ = some (.slice Ak31_0 nk31_0 pk31_0) ∧ w'.cell? ⟨s32, 1, none⟩ = some (.slice Ak31_1 nk31_1 pk31_1) ∧ w'.cell? ⟨s32, 2, none⟩ = some (.slice Ak31_2 nk31_2 pk31_2) ∧ w'.cell? ⟨s32, 3, none⟩ = some (.int .i64 x0.Calls) ∧ w'.cell? ⟨s32, 4, none⟩ = some (.slice Ak31_4 nk31_4 pk31_4) ∧ w'.cell? ⟨s0, 0, none⟩ = some (c0_0) ∧ w'.cell? ⟨s0, 1, none⟩ = some (c0_1) ∧ w'.cell? ⟨s0, 2, none⟩ = some (c0_2) ∧ w'.cell? ⟨s0, 3, none⟩ = some (.int .i64 x0.Calls) ∧ w'.cell? ⟨s0, 4, none⟩ = some (c0_4) ∧ Below w55.heap.size w55 w') := fun w' hb => ⟨cell_below hb (cell_of_block HX_x0.out 0), cell_below hb (cell_of_block HX_x0.out 1), cell_below hb (cell_of_block HX_x0.out 2), cell_below hb (cell_of_block HX_x0.out 3), cell_below hb (cell_of_block HX_x0.out 4), cell_below hb (cell_of_block HX_aK.out 0), cell_below hb (cell_of_block HX_aK.out 1), cell_below hb (cell_of_block HX_aK.out 2), cell_below hb (cell_of_block HX_aK.out 3), cell_below hb (cell_of_block HX_aK.out 4), hb⟩
  go_region_held3 (fun w' => w'.cell? ⟨s32, 0, none⟩ = some (.slice Ak31_0 nk31_0 pk31_0) ∧ w'.cell? ⟨s32, 1, none⟩ = some (.slice Ak31_1 nk31_1 pk31_1) ∧ w'.cell? ⟨s32, 2, none⟩ = some (.slice Ak31_2 nk31_2 pk31_2) ∧ w'.cell? ⟨s32, 3, none⟩ = some (.int .i64 x0.Calls) ∧ w'.cell? ⟨s32, 4, none⟩ = some (.slice Ak31_4 nk31_4 pk31_4) ∧ w'.cell? ⟨s0, 0, none⟩ = some (c0_0) ∧ w'.cell? ⟨s0, 1, none⟩ = some (c0_1) ∧ w'.cell? ⟨s0, 2, none⟩ = some (c0_2) ∧ w'.cell? ⟨s0, 3, none⟩ = some (.int .i64 x0.Calls) ∧ w'.cell? ⟨s0, 4, none⟩ = some (c0_4) ∧ Below w55.heap.size w55 w') (first | exact HK.out _ hrf_ | exact HK.out _ (by assumption)) (first | (go_at_call 35; refine (HT.out _ (by first | exact hrf_ | assumption)).mono ?_; rintro e wt_ ⟨A_0, n_0, p_0, A_1, n_1, p_1, A_2, n_2, p_2, A_4, n_4, p_4, rfl, hrt_, hbt_⟩) | (go_at_call 28; refine (HE.out _ _ _ _ _ _ _ _ _ _ _ _ _ (by first | exact hbt_ | assumption) (by first | exact hrt_ | assumption)).mono ?_; rintro e we_ ⟨rfl, hbe_⟩))
  obtain ⟨w57, hn_⟩ : ∃ z, we_ = z := ⟨_, rfl⟩
  rw [hn_] at hbe_
  rw [hn_]
  have HX_aK' := Lib.hid ((hbe_.block s0 (by omega)).trans HX_aK.out)
  clear HX_aK
  have HX_aK := HX_aK'
  clear HX_aK'
  have HX_w0' := Lib.hid ((hbe_.block s22 (by omega)).trans HX_w0.out)
  clear HX_w0
  have HX_w0 := HX_w0'
  clear HX_w0'
  have HX_x0' := Lib.hid ((hbe_.block s32 (by omega)).trans HX_x0.out)
  clear HX_x0
  have HX_x0 := HX_x0'
  clear HX_x0'
  have HX_g0' := Lib.hid ((hbe_.block s42 (by omega)).trans HX_g0.out)
  clear HX_g0
  have HX_g0 := HX_g0'
  clear HX_g0'
  have HM_t16' := Lib.hid (HM_t16.out.below hbe_)
  clear HM_t16
  have HM_t16 := HM_t16'
  clear HM_t16'
  have HM_w0' := Lib.hid (HM_w0.out.below hbe_)
  clear HM_w0
  have HM_w0 := HM_w0'
  clear HM_w0'
  have HM_x0' := Lib.hid (HM_x0.out.below hbe_)
  clear HM_x0
  have HM_x0 := HM_x0'
  clear HM_x0'
  have HM_g0' := Lib.hid (HM_g0.out.below hbe_)
  clear HM_g0
  have HM_g0 := HM_g0'
  clear HM_g0'
  have HBL' := Lib.hid (below_step HBL.out hbe_)
  clear HBL
  have HBL := HBL'
  clear HBL'
  obtain ⟨s58, hs58⟩ : ∃ s, w57.heap.size = s := ⟨_, rfl⟩
  have hls58 : s56 ≤ s58 := by have := hbe_.size; omega
  clear hbe_ hbt_ HT HE HK hrf_ hn_ hrt_
  have hc59 : w57.cell? ⟨s32, 0, none⟩ = some (.slice Ak31_0 nk31_0 pk31_0) := cell_of_block HX_x0.out 0
  have hc60 : w57.cell? ⟨s32, 1, none⟩ = some (.slice Ak31_1 nk31_1 pk31_1) := cell_of_block HX_x0.out 1
  have hc61 : w57.cell? ⟨s32, 2, none⟩ = some (.slice Ak31_2 nk31_2 pk31_2) := cell_of_block HX_x0.out 2
  have hc62 : w57.cell? ⟨s32, 3, none⟩ = some (.int .i64 x0.Calls) := cell_of_block HX_x0.out 3
  have hc63 : w57.cell? ⟨s32, 4, none⟩ = some (.slice Ak31_4 nk31_4 pk31_4) := cell_of_block HX_x0.out 4
  go_wp2_with fail
  have hcb := cntb_Kernel (x0)
  have hct := cntTop_le (eKernel x0)
  refine (mark_in HM_x0.out (fun bs_ ho_ hn_ => h_markKernel (x0) (.slice Ak31_0 nk31_0 pk31_0) (.slice Ak31_1 nk31_1 pk31_1) (.slice Ak31_2 nk31_2 pk31_2) (.slice Ak31_4 nk31_4 pk31_4) bs_ 1 w57 ho_ hn_ (by omega) (by omega))).mono ?_
  rintro e w64 ⟨rfl, hm_, ht_⟩
  obtain ⟨k65, hkk65⟩ : ∃ q : Nat, 1 + (eKernel x0).cntTop = q := ⟨_, rfl⟩
  rw [hkk65]
  have HKk65 := Lib.hid hkk65
  clear hcb hct hkk65
  have HX_aK' := Lib.hid ((ht_.block s0 (by omega) (by omega)).trans HX_aK.out)
  clear HX_aK
  have HX_aK := HX_aK'
  clear HX_aK'
  have HX_w0' := Lib.hid ((ht_.block s22 (by omega) (by omega)).trans HX_w0.out)
  clear HX_w0
  have HX_w0 := HX_w0'
  clear HX_w0'
  have HX_x0' := Lib.hid ((ht_.block s32 (by omega) (by omega)).trans HX_x0.out)
  clear HX_x0
  have HX_x0 := HX_x0'
  clear HX_x0'
  have HX_g0' := Lib.hid ((ht_.block s42 (by omega) (by omega)).trans HX_g0.out)
  clear HX_g0
  have HX_g0 := HX_g0'
  clear HX_g0'
  have HM_t16' := Lib.hid (HM_t16.out.turn ht_ (by omega))
  clear HM_t16
  have HM_t16 := HM_t16'
  clear HM_t16'
  have HM_w0' := Lib.hid (HM_w0.out.turn ht_ (by omega))
  clear HM_w0
  have HM_w0 := HM_w0'
  clear HM_w0'
  have HM_g0' := Lib.hid (HM_g0.out.turn ht_ (by omega))
  clear HM_g0
  have HM_g0 := HM_g0'
  clear HM_g0'
  clear HM_x0
  have HM_x0 := Lib.hid hm_
  have HBL' := Lib.hid (HBL.out.trans (ht_.below (B := w.heap.size) (by omega) (by omega)))
  clear HBL
  have HBL := HBL'
  clear HBL'
  obtain ⟨s66, hs66⟩ : ∃ s, w64.heap.size = s := ⟨_, rfl⟩
  have hls66 : s58 ≤ s66 := by have := ht_.size; omega
  clear hm_ ht_
  have hc67 : w64.cell? ⟨s42, 0, none⟩ = some (.slice Ak41_0 nk41_0 pk41_0) := cell_of_block HX_g0.out 0
  have hc68 : w64.cell? ⟨s42, 1, none⟩ = some (.slice Ak41_1 nk41_1 pk41_1) := cell_of_block HX_g0.out 1
  have hc69 : w64.cell? ⟨s42, 2, none⟩ = some (.slice Ak41_2 nk41_2 pk41_2) := cell_of_block HX_g0.out 2
  have hc70 : w64.cell? ⟨s42, 3, none⟩ = some (.int .i64 ((pKUnmap x0 x1).1.Calls)) := cell_of_block HX_g0.out 3
  have hc71 : w64.cell? ⟨s42, 4, none⟩ = some (.slice Ak41_4 nk41_4 pk41_4) := cell_of_block HX_g0.out 4
  have hc72 : w64.cell? ⟨s22, 0, none⟩ = some (.slice Ak21_0 nk21_0 pk21_0) := cell_of_block HX_w0.out 0
  have hc73 : w64.cell? ⟨s22, 1, none⟩ = some (.slice Ak21_1 nk21_1 pk21_1) := cell_of_block HX_w0.out 1
  have hc74 : w64.cell? ⟨s22, 2, none⟩ = some (.slice Ak21_2 nk21_2 pk21_2) := cell_of_block HX_w0.out 2
  have hc75 : w64.cell? ⟨s22, 3, none⟩ = some (.int .i64 ((pKUnmap x0 x1).1.Calls)) := cell_of_block HX_w0.out 3
  have hc76 : w64.cell? ⟨s22, 4, none⟩ = some (.slice Ak21_4 nk21_4 pk21_4) := cell_of_block HX_w0.out 4
  go_wp2_with fail
  refine (h_eqKernel (pKUnmap x0 x1).1 (.slice Ak41_0 nk41_0 pk41_0) (.slice Ak41_1 nk41_1 pk41_1) (.slice Ak41_2 nk41_2 pk41_2) (.slice Ak41_4 nk41_4 pk41_4) (.slice Ak21_0 nk21_0 pk21_0) (.slice Ak21_1 nk21_1 pk21_1) (.slice Ak21_2 nk21_2 pk21_2) (.slice Ak21_4 nk21_4 pk21_4) w64 HM_g0.out.rd HM_w0.out.rd (by omega)).mono ?_
  rintro e w77 ⟨rfl, hb_⟩
  have HX_aK' := Lib.hid ((hb_.block s0 (by omega)).trans HX_aK.out)
  clear HX_aK
  have HX_aK := HX_aK'
  clear HX_aK'
  have HX_w0' := Lib.hid ((hb_.block s22 (by omega)).trans HX_w0.out)
  clear HX_w0
  have HX_w0 := HX_w0'
  clear HX_w0'
  have HX_x0' := Lib.hid ((hb_.block s32 (by omega)).trans HX_x0.out)
  clear HX_x0
  have HX_x0 := HX_x0'
  clear HX_x0'
  have HX_g0' := Lib.hid ((hb_.block s42 (by omega)).trans HX_g0.out)
  clear HX_g0
  have HX_g0 := HX_g0'
  clear HX_g0'
  have HM_t16' := Lib.hid (HM_t16.out.below hb_)
  clear HM_t16
  have HM_t16 := HM_t16'
  clear HM_t16'
  have HM_w0' := Lib.hid (HM_w0.out.below hb_)
  clear HM_w0
  have HM_w0 := HM_w0'
  clear HM_w0'
  have HM_x0' := Lib.hid (HM_x0.out.below hb_)
  clear HM_x0
  have HM_x0 := HM_x0'
  clear HM_x0'
  have HM_g0' := Lib.hid (HM_g0.out.below hb_)
  clear HM_g0
  have HM_g0 := HM_g0'
  clear HM_g0'
  have HBL' := Lib.hid (below_step HBL.out hb_)
  clear HBL
  have HBL := HBL'
  clear HBL'
  obtain ⟨s78, hs78⟩ : ∃ s, w77.heap.size = s := ⟨_, rfl⟩
  have hls78 : s66 ≤ s78 := by have := hb_.size; omega
  clear hb_
  have hc79 : w77.cell? ⟨s42, 0, none⟩ = some (.slice Ak41_0 nk41_0 pk41_0) := cell_of_block HX_g0.out 0
  have hc80 : w77.cell? ⟨s42, 1, none⟩ = some (.slice Ak41_1 nk41_1 pk41_1) := cell_of_block HX_g0.out 1
  have hc81 : w77.cell? ⟨s42, 2, none⟩ = some (.slice Ak41_2 nk41_2 pk41_2) := cell_of_block HX_g0.out 2
  have hc82 : w77.cell? ⟨s42, 3, none⟩ = some (.int .i64 ((pKUnmap x0 x1).1.Calls)) := cell_of_block HX_g0.out 3
  have hc83 : w77.cell? ⟨s42, 4, none⟩ = some (.slice Ak41_4 nk41_4 pk41_4) := cell_of_block HX_g0.out 4
  go_wp2_with fail
  have hcb := cntb_Kernel (pKUnmap x0 x1).1
  have hct := cntTop_le (eKernel (pKUnmap x0 x1).1)
  refine (mark_in HM_g0.out (fun bs_ ho_ hn_ => h_markKernel (pKUnmap x0 x1).1 (.slice Ak41_0 nk41_0 pk41_0) (.slice Ak41_1 nk41_1 pk41_1) (.slice Ak41_2 nk41_2 pk41_2) (.slice Ak41_4 nk41_4 pk41_4) bs_ 1 w77 ho_ hn_ (by omega) (by omega))).mono ?_
  rintro e w84 ⟨rfl, hm_, ht_⟩
  obtain ⟨k85, hkk85⟩ : ∃ q : Nat, 1 + (eKernel (pKUnmap x0 x1).1).cntTop = q := ⟨_, rfl⟩
  rw [hkk85]
  have HKk85 := Lib.hid hkk85
  clear hcb hct hkk85
  have HX_aK' := Lib.hid ((ht_.block s0 (by omega) (by omega)).trans HX_aK.out)
  clear HX_aK
  have HX_aK := HX_aK'
  clear HX_aK'
  have HX_w0' := Lib.hid ((ht_.block s22 (by omega) (by omega)).trans HX_w0.out)
  clear HX_w0
  have HX_w0 := HX_w0'
  clear HX_w0'
  have HX_x0' := Lib.hid ((ht_.block s32 (by omega) (by omega)).trans HX_x0.out)
  clear HX_x0
  have HX_x0 := HX_x0'
  clear HX_x0'
  have HX_g0' := Lib.hid ((ht_.block s42 (by omega) (by omega)).trans HX_g0.out)
  clear HX_g0
  have HX_g0 := HX_g0'
  clear HX_g0'
  have HM_t16' := Lib.hid (HM_t16.out.turn ht_ (by omega))
  clear HM_t16
  have HM_t16 := HM_t16'
  clear HM_t16'
  have HM_w0' := Lib.hid (HM_w0.out.turn ht_ (by omega))
  clear HM_w0
  have HM_w0 := HM_w0'
  clear HM_w0'
  have HM_x0' := Lib.hid (HM_x0.out.turn ht_ (by omega))
  clear HM_x0
  have HM_x0 := HM_x0'
  clear HM_x0'
  clear HM_g0
  have HM_g0 := Lib.hid hm_
  have HBL' := Lib.hid (HBL.out.trans (ht_.below (B := w.heap.size) (by omega) (by omega)))
  clear HBL
  have HBL := HBL'
  clear HBL'
  obtain ⟨s86, hs86⟩ : ∃ s, w84.heap.size = s := ⟨_, rfl⟩
  have hls86 : s78 ≤ s86 := by have := ht_.size; omega
  clear hm_ ht_
  have hc87 : w84.cell? ⟨s42, 0, none⟩ = some (.slice Ak41_0 nk41_0 pk41_0) := cell_of_block HX_g0.out 0
  have hc88 : w84.cell? ⟨s42, 1, none⟩ = some (.slice Ak41_1 nk41_1 pk41_1) := cell_of_block HX_g0.out 1
  have hc89 : w84.cell? ⟨s42, 2, none⟩ = some (.slice Ak41_2 nk41_2 pk41_2) := cell_of_block HX_g0.out 2
  have hc90 : w84.cell? ⟨s42, 3, none⟩ = some (.int .i64 ((pKUnmap x0 x1).1.Calls)) := cell_of_block HX_g0.out 3
  have hc91 : w84.cell? ⟨s42, 4, none⟩ = some (.slice Ak41_4 nk41_4 pk41_4) := cell_of_block HX_g0.out 4
  go_wp2_with fail
  have hcb := cntb_Kernel (pKUnmap x0 x1).1
  have hct := cntTop_le (eKernel (pKUnmap x0 x1).1)
  refine (h_heldKernel (pKUnmap x0 x1).1 (.slice Ak41_0 nk41_0 pk41_0) (.slice Ak41_1 nk41_1 pk41_1) (.slice Ak41_2 nk41_2 pk41_2) (.slice Ak41_4 nk41_4 pk41_4) 1 w84 HM_g0.out.rd (by omega) (by omega)).mono ?_
  rintro e w92 ⟨rfl, hb_⟩
  rw [HKk85.out]
  clear hcb hct
  have HX_aK' := Lib.hid ((hb_.block s0 (by omega)).trans HX_aK.out)
  clear HX_aK
  have HX_aK := HX_aK'
  clear HX_aK'
  have HX_w0' := Lib.hid ((hb_.block s22 (by omega)).trans HX_w0.out)
  clear HX_w0
  have HX_w0 := HX_w0'
  clear HX_w0'
  have HX_x0' := Lib.hid ((hb_.block s32 (by omega)).trans HX_x0.out)
  clear HX_x0
  have HX_x0 := HX_x0'
  clear HX_x0'
  have HX_g0' := Lib.hid ((hb_.block s42 (by omega)).trans HX_g0.out)
  clear HX_g0
  have HX_g0 := HX_g0'
  clear HX_g0'
  have HM_t16' := Lib.hid (HM_t16.out.below hb_)
  clear HM_t16
  have HM_t16 := HM_t16'
  clear HM_t16'
  have HM_w0' := Lib.hid (HM_w0.out.below hb_)
  clear HM_w0
  have HM_w0 := HM_w0'
  clear HM_w0'
  have HM_x0' := Lib.hid (HM_x0.out.below hb_)
  clear HM_x0
  have HM_x0 := HM_x0'
  clear HM_x0'
  have HM_g0' := Lib.hid (HM_g0.out.below hb_)
  clear HM_g0
  have HM_g0 := HM_g0'
  clear HM_g0'
  have HBL' := Lib.hid (below_step HBL.out hb_)
  clear HBL
  have HBL := HBL'
  clear HBL'
  obtain ⟨s93, hs93⟩ : ∃ s, w92.heap.size = s := ⟨_, rfl⟩
  have hls93 : s86 ≤ s93 := by have := hb_.size; omega
  clear hb_
  have hc94 : w92.cell? ⟨s0, 0, none⟩ = some (c0_0) := cell_of_block HX_aK.out 0
  have hc95 : w92.cell? ⟨s0, 1, none⟩ = some (c0_1) := cell_of_block HX_aK.out 1
  have hc96 : w92.cell? ⟨s0, 2, none⟩ = some (c0_2) := cell_of_block HX_aK.out 2
  have hc97 : w92.cell? ⟨s0, 3, none⟩ = some (.int .i64 x0.Calls) := cell_of_block HX_aK.out 3
  have hc98 : w92.cell? ⟨s0, 4, none⟩ = some (c0_4) := cell_of_block HX_aK.out 4
  go_wp2_with fail
  refine (h_toKernel x0 c0_0 c0_1 c0_2 c0_4 w92 (raw_below HBL.out _ HR0.out) (by omega)).mono ?_
  rintro e w100 ⟨u_, rfl, hm_, hb_⟩
  have hsh_ := hm_
  obtain ⟨bs_, hsh_, _⟩ := hsh_
  obtain ⟨Ak101_0, nk101_0, pk101_0, Ak101_1, nk101_1, pk101_1, Ak101_2, nk101_2, pk101_2, Ak101_4, nk101_4, pk101_4, rfl⟩ := sinv_Kernel hsh_
  clear hsh_
  rw [hs93] at hm_
  have HX_aK' := Lib.hid ((hb_.block s0 (by omega)).trans HX_aK.out)
  clear HX_aK
  have HX_aK := HX_aK'
  clear HX_aK'
  have HX_w0' := Lib.hid ((hb_.block s22 (by omega)).trans HX_w0.out)
  clear HX_w0
  have HX_w0 := HX_w0'
  clear HX_w0'
  have HX_x0' := Lib.hid ((hb_.block s32 (by omega)).trans HX_x0.out)
  clear HX_x0
  have HX_x0 := HX_x0'
  clear HX_x0'
  have HX_g0' := Lib.hid ((hb_.block s42 (by omega)).trans HX_g0.out)
  clear HX_g0
  have HX_g0 := HX_g0'
  clear HX_g0'
  have HM_t16' := Lib.hid (HM_t16.out.below hb_)
  clear HM_t16
  have HM_t16 := HM_t16'
  clear HM_t16'
  have HM_w0' := Lib.hid (HM_w0.out.below hb_)
  clear HM_w0
  have HM_w0 := HM_w0'
  clear HM_w0'
  have HM_x0' := Lib.hid (HM_x0.out.below hb_)
  clear HM_x0
  have HM_x0 := HM_x0'
  clear HM_x0'
  have HM_g0' := Lib.hid (HM_g0.out.below hb_)
  clear HM_g0
  have HM_g0 := HM_g0'
  clear HM_g0'
  have HBL' := Lib.hid (below_step HBL.out hb_)
  clear HBL
  have HBL := HBL'
  clear HBL'
  obtain ⟨s102, hs102⟩ : ∃ s, w100.heap.size = s := ⟨_, rfl⟩
  have hls102 : s93 ≤ s102 := by have := hb_.size; omega
  have HM_t99 := Lib.hid (hm_.toIn (Nat.le_of_eq hs102))
  clear hm_ hb_
  go_wp2_with fail
  refine (impl_KUnmap x0 (.slice Ak101_0 nk101_0 pk101_0) (.slice Ak101_1 nk101_1 pk101_1) (.slice Ak101_2 nk101_2 pk101_2) (.slice Ak101_4 nk101_4 pk101_4) x1 w100 HM_t99.out.rd hsz0 hw1).mono ?_
  rintro e w103 ⟨u_, rfl, hm_, hb_⟩
  have hsh_ := hm_
  obtain ⟨bs_, hsh_, _⟩ := hsh_
  obtain ⟨Ak104_0, nk104_0, pk104_0, Ak104_1, nk104_1, pk104_1, Ak104_2, nk104_2, pk104_2, Ak104_4, nk104_4, pk104_4, rfl⟩ := sinv_Kernel hsh_
  clear hsh_
  rw [hs102] at hm_
  have HX_aK' := Lib.hid ((hb_.block s0 (by omega)).trans HX_aK.out)
  clear HX_aK
  have HX_aK := HX_aK'
  clear HX_aK'
  have HX_w0' := Lib.hid ((hb_.block s22 (by omega)).trans HX_w0.out)
  clear HX_w0
  have HX_w0 := HX_w0'
  clear HX_w0'
  have HX_x0' := Lib.hid ((hb_.block s32 (by omega)).trans HX_x0.out)
  clear HX_x0
  have HX_x0 := HX_x0'
  clear HX_x0'
  have HX_g0' := Lib.hid ((hb_.block s42 (by omega)).trans HX_g0.out)
  clear HX_g0
  have HX_g0 := HX_g0'
  clear HX_g0'
  have HM_t16' := Lib.hid (HM_t16.out.below hb_)
  clear HM_t16
  have HM_t16 := HM_t16'
  clear HM_t16'
  have HM_w0' := Lib.hid (HM_w0.out.below hb_)
  clear HM_w0
  have HM_w0 := HM_w0'
  clear HM_w0'
  have HM_x0' := Lib.hid (HM_x0.out.below hb_)
  clear HM_x0
  have HM_x0 := HM_x0'
  clear HM_x0'
  have HM_g0' := Lib.hid (HM_g0.out.below hb_)
  clear HM_g0
  have HM_g0 := HM_g0'
  clear HM_g0'
  have HM_t99' := Lib.hid (HM_t99.out.below hb_)
  clear HM_t99
  have HM_t99 := HM_t99'
  clear HM_t99'
  have HBL' := Lib.hid (below_step HBL.out hb_)
  clear HBL
  have HBL := HBL'
  clear HBL'
  obtain ⟨s105, hs105⟩ : ∃ s, w103.heap.size = s := ⟨_, rfl⟩
  have hls105 : s102 ≤ s105 := by have := hb_.size; omega
  have HM_h0 := Lib.hid (hm_.toIn (Nat.le_of_eq hs105))
  clear hm_ hb_
  have HXP_aK := HX_aK
  have HXP_w0 := HX_w0
  have HXP_x0 := HX_x0
  have HXP_g0 := HX_g0
  have hb_ : Below w103.heap.size w103 (w103.alloc (.cells #[.slice Ak104_0 nk104_0 pk104_0, .slice Ak104_1 nk104_1 pk104_1, .slice Ak104_2 nk104_2 pk104_2, .int .i64 ((pKUnmap x0 x1).1.Calls), .slice Ak104_4 nk104_4 pk104_4] 35)) := (Below.refl _ _).alloc (Nat.le_refl _) _
  have hx_ : (w103.alloc (.cells #[.slice Ak104_0 nk104_0 pk104_0, .slice Ak104_1 nk104_1 pk104_1, .slice Ak104_2 nk104_2 pk104_2, .int .i64 ((pKUnmap x0 x1).1.Calls), .slice Ak104_4 nk104_4 pk104_4] 35)).heap[s105]? = some (.cells #[.slice Ak104_0 nk104_0 pk104_0, .slice Ak104_1 nk104_1 pk104_1, .slice Ak104_2 nk104_2 pk104_2, .int .i64 ((pKUnmap x0 x1).1.Calls), .slice Ak104_4 nk104_4 pk104_4] 35 (0, 0)) := by rw [← hs105]; exact heap_alloc_new _ _
  have hz_ : (w103.alloc (.cells #[.slice Ak104_0 nk104_0 pk104_0, .slice Ak104_1 nk104_1 pk104_1, .slice Ak104_2 nk104_2 pk104_2, .int .i64 ((pKUnmap x0 x1).1.Calls), .slice Ak104_4 nk104_4 pk104_4] 35)).heap.size = s105 + 1 := by simp [hs105]
  obtain ⟨w106, HW_w106⟩ : ∃ z, (w103.alloc (.cells #[.slice Ak104_0 nk104_0 pk104_0, .slice Ak104_1 nk104_1 pk104_1, .slice Ak104_2 nk104_2 pk104_2, .int .i64 ((pKUnmap x0 x1).1.Calls), .slice Ak104_4 nk104_4 pk104_4] 35)) = z := ⟨_, rfl⟩
  rw [HW_w106] at hb_ hx_ hz_
  have HX_aK' := Lib.hid ((hb_.block s0 (by omega)).trans HX_aK.out)
  clear HX_aK
  have HX_aK := HX_aK'
  clear HX_aK'
  have HX_w0' := Lib.hid ((hb_.block s22 (by omega)).trans HX_w0.out)
  clear HX_w0
  have HX_w0 := HX_w0'
  clear HX_w0'
  have HX_x0' := Lib.hid ((hb_.block s32 (by omega)).trans HX_x0.out)
  clear HX_x0
  have HX_x0 := HX_x0'
  clear HX_x0'
  have HX_g0' := Lib.hid ((hb_.block s42 (by omega)).trans HX_g0.out)
  clear HX_g0
  have HX_g0 := HX_g0'
  clear HX_g0'
  have HM_t16' := Lib.hid (HM_t16.out.below hb_)
  clear HM_t16
  have HM_t16 := HM_t16'
  clear HM_t16'
  have HM_w0' := Lib.hid (HM_w0.out.below hb_)
  clear HM_w0
  have HM_w0 := HM_w0'
  clear HM_w0'
  have HM_x0' := Lib.hid (HM_x0.out.below hb_)
  clear HM_x0
  have HM_x0 := HM_x0'
  clear HM_x0'
  have HM_g0' := Lib.hid (HM_g0.out.below hb_)
  clear HM_g0
  have HM_g0 := HM_g0'
  clear HM_g0'
  have HM_t99' := Lib.hid (HM_t99.out.below hb_)
  clear HM_t99
  have HM_t99 := HM_t99'
  clear HM_t99'
  have HM_h0' := Lib.hid (HM_h0.out.below hb_)
  clear HM_h0
  have HM_h0 := HM_h0'
  clear HM_h0'
  have HBL' := Lib.hid (below_step HBL.out hb_)
  clear HBL
  have HBL := HBL'
  clear HBL'
  have HX_h0 := Lib.hid hx_
  clear hx_
  obtain ⟨s107, hs107⟩ : ∃ s, w106.heap.size = s := ⟨_, rfl⟩
  have hls107 : s105 + 1 = s107 := by omega
  have HWE_w106 := Lib.hid HW_w106
  clear HW_w106 hb_ hz_
  have hc108 : w106.cell? ⟨s105, 0, none⟩ = some (.slice Ak104_0 nk104_0 pk104_0) := cell_of_block HX_h0.out 0
  have hc109 : w106.cell? ⟨s105, 1, none⟩ = some (.slice Ak104_1 nk104_1 pk104_1) := cell_of_block HX_h0.out 1
  have hc110 : w106.cell? ⟨s105, 2, none⟩ = some (.slice Ak104_2 nk104_2 pk104_2) := cell_of_block HX_h0.out 2
  have hc111 : w106.cell? ⟨s105, 3, none⟩ = some (.int .i64 ((pKUnmap x0 x1).1.Calls)) := cell_of_block HX_h0.out 3
  have hc112 : w106.cell? ⟨s105, 4, none⟩ = some (.slice Ak104_4 nk104_4 pk104_4) := cell_of_block HX_h0.out 4
  have : s22 < s105 := by omega
  have : w103.cell? ⟨s22, 0, none⟩ = some (.slice Ak21_0 nk21_0 pk21_0) := cell_of_block HXP_w0.out 0
  have : w103.cell? ⟨s22, 1, none⟩ = some (.slice Ak21_1 nk21_1 pk21_1) := cell_of_block HXP_w0.out 1
  have : w103.cell? ⟨s22, 2, none⟩ = some (.slice Ak21_2 nk21_2 pk21_2) := cell_of_block HXP_w0.out 2
  have : w103.cell? ⟨s22, 3, none⟩ = some (.int .i64 ((pKUnmap x0 x1).1.Calls)) := cell_of_block HXP_w0.out 3
  have : w103.cell? ⟨s22, 4, none⟩ = some (.slice Ak21_4 nk21_4 pk21_4) := cell_of_block HXP_w0.out 4
  have hc113 : w106.cell? ⟨s22, 0, none⟩ = some (.slice Ak21_0 nk21_0 pk21_0) := cell_of_block HX_w0.out 0
  have hc114 : w106.cell? ⟨s22, 1, none⟩ = some (.slice Ak21_1 nk21_1 pk21_1) := cell_of_block HX_w0.out 1
  have hc115 : w106.cell? ⟨s22, 2, none⟩ = some (.slice Ak21_2 nk21_2 pk21_2) := cell_of_block HX_w0.out 2
  have hc116 : w106.cell? ⟨s22, 3, none⟩ = some (.int .i64 ((pKUnmap x0 x1).1.Calls)) := cell_of_block HX_w0.out 3
  have hc117 : w106.cell? ⟨s22, 4, none⟩ = some (.slice Ak21_4 nk21_4 pk21_4) := cell_of_block HX_w0.out 4
  go_wp2_with fail
  rw [HWE_w106.out]
  clear HWE_w106 HXP_aK HXP_w0 HXP_x0 HXP_g0
  refine (h_eqKernel (pKUnmap x0 x1).1 (.slice Ak104_0 nk104_0 pk104_0) (.slice Ak104_1 nk104_1 pk104_1) (.slice Ak104_2 nk104_2 pk104_2) (.slice Ak104_4 nk104_4 pk104_4) (.slice Ak21_0 nk21_0 pk21_0) (.slice Ak21_1 nk21_1 pk21_1) (.slice Ak21_2 nk21_2 pk21_2) (.slice Ak21_4 nk21_4 pk21_4) w106 HM_h0.out.rd HM_w0.out.rd (by omega)).mono ?_
  rintro e w118 ⟨rfl, hb_⟩
  have HX_aK' := Lib.hid ((hb_.block s0 (by omega)).trans HX_aK.out)
  clear HX_aK
  have HX_aK := HX_aK'
  clear HX_aK'
  have HX_w0' := Lib.hid ((hb_.block s22 (by omega)).trans HX_w0.out)
  clear HX_w0
  have HX_w0 := HX_w0'
  clear HX_w0'
  have HX_x0' := Lib.hid ((hb_.block s32 (by omega)).trans HX_x0.out)
  clear HX_x0
  have HX_x0 := HX_x0'
  clear HX_x0'
  have HX_g0' := Lib.hid ((hb_.block s42 (by omega)).trans HX_g0.out)
  clear HX_g0
  have HX_g0 := HX_g0'
  clear HX_g0'
  have HX_h0' := Lib.hid ((hb_.block s105 (by omega)).trans HX_h0.out)
  clear HX_h0
  have HX_h0 := HX_h0'
  clear HX_h0'
  have HM_t16' := Lib.hid (HM_t16.out.below hb_)
  clear HM_t16
  have HM_t16 := HM_t16'
  clear HM_t16'
  have HM_w0' := Lib.hid (HM_w0.out.below hb_)
  clear HM_w0
  have HM_w0 := HM_w0'
  clear HM_w0'
  have HM_x0' := Lib.hid (HM_x0.out.below hb_)
  clear HM_x0
  have HM_x0 := HM_x0'
  clear HM_x0'
  have HM_g0' := Lib.hid (HM_g0.out.below hb_)
  clear HM_g0
  have HM_g0 := HM_g0'
  clear HM_g0'
  have HM_t99' := Lib.hid (HM_t99.out.below hb_)
  clear HM_t99
  have HM_t99 := HM_t99'
  clear HM_t99'
  have HM_h0' := Lib.hid (HM_h0.out.below hb_)
  clear HM_h0
  have HM_h0 := HM_h0'
  clear HM_h0'
  have HBL' := Lib.hid (below_step HBL.out hb_)
  clear HBL
  have HBL := HBL'
  clear HBL'
  obtain ⟨s119, hs119⟩ : ∃ s, w118.heap.size = s := ⟨_, rfl⟩
  have hls119 : s107 ≤ s119 := by have := hb_.size; omega
  clear hb_
  have hc120 : w118.cell? ⟨s42, 0, none⟩ = some (.slice Ak41_0 nk41_0 pk41_0) := cell_of_block HX_g0.out 0
  have hc121 : w118.cell? ⟨s42, 1, none⟩ = some (.slice Ak41_1 nk41_1 pk41_1) := cell_of_block HX_g0.out 1
  have hc122 : w118.cell? ⟨s42, 2, none⟩ = some (.slice Ak41_2 nk41_2 pk41_2) := cell_of_block HX_g0.out 2
  have hc123 : w118.cell? ⟨s42, 3, none⟩ = some (.int .i64 ((pKUnmap x0 x1).1.Calls)) := cell_of_block HX_g0.out 3
  have hc124 : w118.cell? ⟨s42, 4, none⟩ = some (.slice Ak41_4 nk41_4 pk41_4) := cell_of_block HX_g0.out 4
  go_wp2_with fail
  have hcb := cntb_Kernel (pKUnmap x0 x1).1
  have hct := cntTop_le (eKernel (pKUnmap x0 x1).1)
  refine (h_heldKernel (pKUnmap x0 x1).1 (.slice Ak41_0 nk41_0 pk41_0) (.slice Ak41_1 nk41_1 pk41_1) (.slice Ak41_2 nk41_2 pk41_2) (.slice Ak41_4 nk41_4 pk41_4) 1 w118 HM_g0.out.rd (by omega) (by omega)).mono ?_
  rintro e w125 ⟨rfl, hb_⟩
  rw [HKk85.out]
  clear hcb hct
  have HX_aK' := Lib.hid ((hb_.block s0 (by omega)).trans HX_aK.out)
  clear HX_aK
  have HX_aK := HX_aK'
  clear HX_aK'
  have HX_w0' := Lib.hid ((hb_.block s22 (by omega)).trans HX_w0.out)
  clear HX_w0
  have HX_w0 := HX_w0'
  clear HX_w0'
  have HX_x0' := Lib.hid ((hb_.block s32 (by omega)).trans HX_x0.out)
  clear HX_x0
  have HX_x0 := HX_x0'
  clear HX_x0'
  have HX_g0' := Lib.hid ((hb_.block s42 (by omega)).trans HX_g0.out)
  clear HX_g0
  have HX_g0 := HX_g0'
  clear HX_g0'
  have HX_h0' := Lib.hid ((hb_.block s105 (by omega)).trans HX_h0.out)
  clear HX_h0
  have HX_h0 := HX_h0'
  clear HX_h0'
  have HM_t16' := Lib.hid (HM_t16.out.below hb_)
  clear HM_t16
  have HM_t16 := HM_t16'
  clear HM_t16'
  have HM_w0' := Lib.hid (HM_w0.out.below hb_)
  clear HM_w0
  have HM_w0 := HM_w0'
  clear HM_w0'
  have HM_x0' := Lib.hid (HM_x0.out.below hb_)
  clear HM_x0
  have HM_x0 := HM_x0'
  clear HM_x0'
  have HM_g0' := Lib.hid (HM_g0.out.below hb_)
  clear HM_g0
  have HM_g0 := HM_g0'
  clear HM_g0'
  have HM_t99' := Lib.hid (HM_t99.out.below hb_)
  clear HM_t99
  have HM_t99 := HM_t99'
  clear HM_t99'
  have HM_h0' := Lib.hid (HM_h0.out.below hb_)
  clear HM_h0
  have HM_h0 := HM_h0'
  clear HM_h0'
  have HBL' := Lib.hid (below_step HBL.out hb_)
  clear HBL
  have HBL := HBL'
  clear HBL'
  obtain ⟨s126, hs126⟩ : ∃ s, w125.heap.size = s := ⟨_, rfl⟩
  have hls126 : s119 ≤ s126 := by have := hb_.size; omega
  clear hb_
  go_wp2
  go_ret
  exact ⟨rfl, HBL.out⟩
set_option maxRecDepth 100000 in
theorem lifted (os : Os) (started : os.Started) (H : Type) (enc : TypeId × Value → H) :
    ReturnsInHanded {} Try.checked os 11 .any (Rows.fnExactKUnmapSpec.pre6 enc Try.prog Try.f11 Rows.fnExactKUnmapRow.domain false) (Rows.fnExactKUnmapSpec.post enc Try.prog Try.f11 false true false false) := by
  refine returnsInHanded_of_change (C := Try.checked) own started (by kernel_rfl) Try.func11
    (ChangeSpec.witness6 (enc := enc) (C := Try.checked) false ⟨#[], #[.agg #[.slice none 0 0, .slice none 0 0, .slice none 0 0, .int .i64 0, .slice none 0 0], .int .i64 0], []⟩ 8 (by kernel_rfl) (by kernel_rfl) (by kernel_rfl) (by kernel_rfl)) ?_
  intro W base args ds gs before hval0 hW hcnd _
  have hval : ∀ (j : Nat) t v, Try.f11.params[j]? = some t → args[j]? = some v → Value.okWide Try.prog W .any base t v := hval0
  have hW' := hW
  obtain ⟨p, q, hA0, hV, rfl, hfz, hnd⟩ := hW
  have hA : DataW.TrodAll enc Try.prog W 0 (fun _ => true) true Try.f11.params.toList args.toList ds p := hA0
  rw [Try.params11] at hA hval
  obtain ⟨v0, vs0, d0, ds0, p0, q0, hargs, rfl, rfl, h0, r0⟩ := trodAll_cons hA
  obtain ⟨v1, vs1, d1, ds1, p1, q1, rfl, rfl, rfl, h1, r1⟩ := trodAll_cons r0
  obtain ⟨rfl, rfl, rfl⟩ := trodAll_nil r1
  obtain rfl : args = #[v0, v1] := by cases args; simp_all
  obtain ⟨rfl, rfl⟩ := trodVars_none hV
  have k0 := h0
  have lt0 : ∀ x ∈ p0, x.block < W.heap.size := by obtain ⟨m, hm⟩ := k0; exact DataW.trod_lt m _ _ _ hm
  obtain ⟨x0, raw0, ok0⟩ := opens_trod opens_Kernel h0
  obtain ⟨cs0, rfl, _⟩ := okWide_struct Try.underlying62 (hval 0 62 v0 rfl rfl)
  obtain ⟨cs0⟩ := cs0
  have raw0 : Raw W (eKernel x0) cs0 := raw0
  obtain ⟨c0_0, c0_1, c0_2, c0_4, rfl⟩ := rinv_Kernel raw0
  obtain ⟨a1, rfl, rfl, rfl, w1⟩ := open_int Try.underlying3 (hval 1 3 v1 rfl rfl) h1
  clear hA0 hval0
  refine (walk x0 c0_0 c0_1 c0_2 c0_4 a1 W raw0 ok0 (okI_wf w1)).mono fun e W' ⟨he, bel⟩ => ?_
  subst he
  exact ⟨_, rfl, _, _, _, [], _, [], hW', trodAll_mk1 (shut_bool Try.underlying4 _), (trodAll_cons_mk (Below.trod laidOut (by kernel_rfl) (of_decide_eq_true (by kernel_rfl)) k0 bel lt0) (trodAll_cons_mk (shut_int Try.underlying3 w1) trodAll_mk0)), rfl, bel.frame _, fun h => by cases h⟩
theorem over : Rows.fnExactKUnmapRow.holds Try.pinned (OpenSpec.ofChange Rows.fnExactKUnmapSpec) :=
  OpenClaim.holds_of_wide 11 Try.f11 rfl rfl rfl rfl rfl rfl rfl ⟨rfl, rfl, rfl, rfl, rfl⟩ rfl rfl rfl rfl rfl (by kernel_rfl) Try.func11 (by kernel_rfl)
    (of_decide_eq_true (by kernel_rfl)) (by unfold Func.isWrapper; first | (rw [if_pos (by decide +kernel)]; kernel_rfl) | (rw [if_neg (by decide +kernel)]; exact ⟨rfl, rfl⟩))
    (fun os started H enc _ => lifted os started H enc)
theorem proved : Rows.FnExactKUnmapSaid := over
#print axioms proved
end Go.Proofs.Ytcdmijnlpapjaaa.fnExactKUnmap

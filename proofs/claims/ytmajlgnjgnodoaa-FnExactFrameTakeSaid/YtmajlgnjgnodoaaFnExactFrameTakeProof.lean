/- Called with any arguments, the law FnExactFrameTake returns true and each argument reads afterwards as before. No condition. -/
import Derived.Test.YtmajlgnjgnodoaaRows
import Derived.Test.YtmajlgnjgnodoaaS05b
import Derived.Test.YtmajlgnjgnodoaaS05e
import Derived.Test.YtmajlgnjgnodoaaS05f
import Derived.Test.YtmajlgnjgnodoaaS05g
import Derived.Test.YtmajlgnjgnodoaaS05h
import Derived.Test.YtmajlgnjgnodoaaI05e
import Derived.Test.YtmajlgnjgnodoaaTo
import Derived.Test.YtmajlgnjgnodoaaEq
import Derived.Test.YtmajlgnjgnodoaaSz
import Derived.Test.YtmajlgnjgnodoaaMark
import Derived.Test.YtmajlgnjgnodoaaHeld
import Derived.Test.YtmajlgnjgnodoaaIn
import Derived.WalkKit
import Derived.ProofKit
import Derived.OpenShut
import Derived.ShutString
import Derived.ChangeOld
import Derived.Below
import Derived.Carry
import Derived.Deep.RegionHeld3
namespace Go.Proofs.Ytmajlgnjgnodoaa.fnExactFrameTake
open Go.ChangeShapes Go.WideShapes Go.ChangeAt Go.RowKit Go.Proofs.Ytmajlgnjgnodoaa.Tr
set_option linter.unusedVariables false
theorem own : ownKnob Try.prog.godebug = none := by kernel_rfl
theorem laidOut : laidOutB Try.prog = true := by kernel_rfl
set_option maxRecDepth 100000 in
set_option maxHeartbeats 800000 in
theorem walk (x0 : GFrames) (c0_0 c0_1 : Value) (w : World) (r0 : Raw w (eFrames x0) [c0_0, c0_1]) (hw0 : okFrames x0) :
    Calls Try.prog 8 #[(.agg #[c0_0, c0_1])] w fun e w' => e = .returned (.bool true) ∧ Below w.heap.size w w' := by
  have HO : Hid True := trivial
  have HR0 := Lib.hid r0
  clear r0
  obtain ⟨s0, hs0⟩ : ∃ s, w.heap.size = s := ⟨_, rfl⟩
  have HBL : Hid (Below w.heap.size w w) := Below.refl _ _
  have hb_ : Below w.heap.size w (w.alloc (.cells #[c0_0, c0_1] 44)) := (Below.refl _ _).alloc (Nat.le_refl _) _
  have hx_ : (w.alloc (.cells #[c0_0, c0_1] 44)).heap[s0]? = some (.cells #[c0_0, c0_1] 44 (0, 0)) := by rw [← hs0]; exact heap_alloc_new _ _
  have hz_ : (w.alloc (.cells #[c0_0, c0_1] 44)).heap.size = s0 + 1 := by simp [hs0]
  obtain ⟨w1, HW_w1⟩ : ∃ z, (w.alloc (.cells #[c0_0, c0_1] 44)) = z := ⟨_, rfl⟩
  rw [HW_w1] at hb_ hx_ hz_
  have HBL' := Lib.hid (below_step HBL.out hb_)
  clear HBL
  have HBL := HBL'
  clear HBL'
  have HX_aF := Lib.hid hx_
  clear hx_
  obtain ⟨s2, hs2⟩ : ∃ s, w1.heap.size = s := ⟨_, rfl⟩
  have hls2 : s0 + 1 = s2 := by omega
  have HWE_w1 := Lib.hid HW_w1
  clear HW_w1 hb_ hz_
  go_enter Try.func8, Try.ntmps8
  have hc3 : w1.cell? ⟨s0, 0, none⟩ = some (c0_0) := cell_of_block HX_aF.out 0
  have hc4 : w1.cell? ⟨s0, 1, none⟩ = some (c0_1) := cell_of_block HX_aF.out 1
  go_wp2_with fail
  rw [HWE_w1.out]
  clear HWE_w1
  refine (h_szFrames x0 c0_0 c0_1 1048576 w1 (raw_below HBL.out _ HR0.out) (by omega)).mono ?_
  rintro e w5 ⟨hcase, hb_⟩
  have HX_aF' := Lib.hid ((hb_.block s0 (by omega)).trans HX_aF.out)
  clear HX_aF
  have HX_aF := HX_aF'
  clear HX_aF'
  have HBL' := Lib.hid (below_step HBL.out hb_)
  clear HBL
  have HBL := HBL'
  clear HBL'
  obtain ⟨s7, hs7⟩ : ∃ s, w5.heap.size = s := ⟨_, rfl⟩
  have hls7 : s2 ≤ s7 := by have := hb_.size; omega
  clear hb_
  rcases hcase with ⟨q6, hq6, rfl⟩ | ⟨_, rfl⟩
  rotate_left
  · go_wp2
    go_ret
    exact ⟨rfl, HBL.out⟩
  have hsz0 : (eFrames x0).sz ≤ 1048576 := by omega
  have hc8 : w5.cell? ⟨s0, 0, none⟩ = some (c0_0) := cell_of_block HX_aF.out 0
  have hc9 : w5.cell? ⟨s0, 1, none⟩ = some (c0_1) := cell_of_block HX_aF.out 1
  go_wp2_with fail
  refine (h_toFrames x0 c0_0 c0_1 w5 (raw_below HBL.out _ HR0.out) (by omega)).mono ?_
  rintro e w11 ⟨u_, rfl, hm_, hb_⟩
  have hsh_ := hm_
  obtain ⟨bs_, hsh_, _⟩ := hsh_
  obtain ⟨Ak12_0, nk12_0, pk12_0, Ak12_1, nk12_1, pk12_1, rfl⟩ := sinv_Frames hsh_
  clear hsh_
  rw [hs7] at hm_
  have HX_aF' := Lib.hid ((hb_.block s0 (by omega)).trans HX_aF.out)
  clear HX_aF
  have HX_aF := HX_aF'
  clear HX_aF'
  have HBL' := Lib.hid (below_step HBL.out hb_)
  clear HBL
  have HBL := HBL'
  clear HBL'
  obtain ⟨s13, hs13⟩ : ∃ s, w11.heap.size = s := ⟨_, rfl⟩
  have hls13 : s7 ≤ s13 := by have := hb_.size; omega
  have HM_t10 := Lib.hid (hm_.toIn (Nat.le_of_eq hs13))
  clear hm_ hb_
  go_wp2_with fail
  refine (spec_FrameTake x0 (.slice Ak12_0 nk12_0 pk12_0) (.slice Ak12_1 nk12_1 pk12_1) w11 HM_t10.out.rd hsz0).mono ?_
  rintro e w14 ⟨u_, rfl, hm_, hb_⟩
  have hsh_ := hm_
  obtain ⟨bs_, hsh_, _⟩ := hsh_
  obtain ⟨Ak15_0, nk15_0, pk15_0, Ak15_1, nk15_1, pk15_1, rfl⟩ := sinv_Frames hsh_
  clear hsh_
  rw [hs13] at hm_
  have HX_aF' := Lib.hid ((hb_.block s0 (by omega)).trans HX_aF.out)
  clear HX_aF
  have HX_aF := HX_aF'
  clear HX_aF'
  have HM_t10' := Lib.hid (HM_t10.out.below hb_)
  clear HM_t10
  have HM_t10 := HM_t10'
  clear HM_t10'
  have HBL' := Lib.hid (below_step HBL.out hb_)
  clear HBL
  have HBL := HBL'
  clear HBL'
  obtain ⟨s16, hs16⟩ : ∃ s, w14.heap.size = s := ⟨_, rfl⟩
  have hls16 : s13 ≤ s16 := by have := hb_.size; omega
  have HM_w0 := Lib.hid (hm_.toIn (Nat.le_of_eq hs16))
  clear hm_ hb_
  have hsr : (eFrames (pFrameTake x0).1).sz ≤ 50000000 := bound_FrameTake x0 hsz0
  have HXP_aF := HX_aF
  have hb_ : Below w14.heap.size w14 (w14.alloc (.cells #[.slice Ak15_0 nk15_0 pk15_0, .slice Ak15_1 nk15_1 pk15_1] 27)) := (Below.refl _ _).alloc (Nat.le_refl _) _
  have hx_ : (w14.alloc (.cells #[.slice Ak15_0 nk15_0 pk15_0, .slice Ak15_1 nk15_1 pk15_1] 27)).heap[s16]? = some (.cells #[.slice Ak15_0 nk15_0 pk15_0, .slice Ak15_1 nk15_1 pk15_1] 27 (0, 0)) := by rw [← hs16]; exact heap_alloc_new _ _
  have hz_ : (w14.alloc (.cells #[.slice Ak15_0 nk15_0 pk15_0, .slice Ak15_1 nk15_1 pk15_1] 27)).heap.size = s16 + 1 := by simp [hs16]
  obtain ⟨w17, HW_w17⟩ : ∃ z, (w14.alloc (.cells #[.slice Ak15_0 nk15_0 pk15_0, .slice Ak15_1 nk15_1 pk15_1] 27)) = z := ⟨_, rfl⟩
  rw [HW_w17] at hb_ hx_ hz_
  have HX_aF' := Lib.hid ((hb_.block s0 (by omega)).trans HX_aF.out)
  clear HX_aF
  have HX_aF := HX_aF'
  clear HX_aF'
  have HM_t10' := Lib.hid (HM_t10.out.below hb_)
  clear HM_t10
  have HM_t10 := HM_t10'
  clear HM_t10'
  have HM_w0' := Lib.hid (HM_w0.out.below hb_)
  clear HM_w0
  have HM_w0 := HM_w0'
  clear HM_w0'
  have HBL' := Lib.hid (below_step HBL.out hb_)
  clear HBL
  have HBL := HBL'
  clear HBL'
  have HX_w0 := Lib.hid hx_
  clear hx_
  obtain ⟨s18, hs18⟩ : ∃ s, w17.heap.size = s := ⟨_, rfl⟩
  have hls18 : s16 + 1 = s18 := by omega
  have HWE_w17 := Lib.hid HW_w17
  clear HW_w17 hb_ hz_
  have : s0 < s16 := by omega
  have : w14.cell? ⟨s0, 0, none⟩ = some (c0_0) := cell_of_block HXP_aF.out 0
  have : w14.cell? ⟨s0, 1, none⟩ = some (c0_1) := cell_of_block HXP_aF.out 1
  have hc19 : w17.cell? ⟨s0, 0, none⟩ = some (c0_0) := cell_of_block HX_aF.out 0
  have hc20 : w17.cell? ⟨s0, 1, none⟩ = some (c0_1) := cell_of_block HX_aF.out 1
  go_wp2_with fail
  rw [HWE_w17.out]
  clear HWE_w17 HXP_aF
  refine (h_toFrames x0 c0_0 c0_1 w17 (raw_below HBL.out _ HR0.out) (by omega)).mono ?_
  rintro e w21 ⟨u_, rfl, hm_, hb_⟩
  have hsh_ := hm_
  obtain ⟨bs_, hsh_, _⟩ := hsh_
  obtain ⟨Ak22_0, nk22_0, pk22_0, Ak22_1, nk22_1, pk22_1, rfl⟩ := sinv_Frames hsh_
  clear hsh_
  rw [hs18] at hm_
  have HX_aF' := Lib.hid ((hb_.block s0 (by omega)).trans HX_aF.out)
  clear HX_aF
  have HX_aF := HX_aF'
  clear HX_aF'
  have HX_w0' := Lib.hid ((hb_.block s16 (by omega)).trans HX_w0.out)
  clear HX_w0
  have HX_w0 := HX_w0'
  clear HX_w0'
  have HM_t10' := Lib.hid (HM_t10.out.below hb_)
  clear HM_t10
  have HM_t10 := HM_t10'
  clear HM_t10'
  have HM_w0' := Lib.hid (HM_w0.out.below hb_)
  clear HM_w0
  have HM_w0 := HM_w0'
  clear HM_w0'
  have HBL' := Lib.hid (below_step HBL.out hb_)
  clear HBL
  have HBL := HBL'
  clear HBL'
  obtain ⟨s23, hs23⟩ : ∃ s, w21.heap.size = s := ⟨_, rfl⟩
  have hls23 : s18 ≤ s23 := by have := hb_.size; omega
  have HM_x0 := Lib.hid (hm_.toIn (Nat.le_of_eq hs23))
  clear hm_ hb_
  have HXP_aF := HX_aF
  have HXP_w0 := HX_w0
  have hb_ : Below w21.heap.size w21 (w21.alloc (.cells #[.slice Ak22_0 nk22_0 pk22_0, .slice Ak22_1 nk22_1 pk22_1] 27)) := (Below.refl _ _).alloc (Nat.le_refl _) _
  have hx_ : (w21.alloc (.cells #[.slice Ak22_0 nk22_0 pk22_0, .slice Ak22_1 nk22_1 pk22_1] 27)).heap[s23]? = some (.cells #[.slice Ak22_0 nk22_0 pk22_0, .slice Ak22_1 nk22_1 pk22_1] 27 (0, 0)) := by rw [← hs23]; exact heap_alloc_new _ _
  have hz_ : (w21.alloc (.cells #[.slice Ak22_0 nk22_0 pk22_0, .slice Ak22_1 nk22_1 pk22_1] 27)).heap.size = s23 + 1 := by simp [hs23]
  obtain ⟨w24, HW_w24⟩ : ∃ z, (w21.alloc (.cells #[.slice Ak22_0 nk22_0 pk22_0, .slice Ak22_1 nk22_1 pk22_1] 27)) = z := ⟨_, rfl⟩
  rw [HW_w24] at hb_ hx_ hz_
  have HX_aF' := Lib.hid ((hb_.block s0 (by omega)).trans HX_aF.out)
  clear HX_aF
  have HX_aF := HX_aF'
  clear HX_aF'
  have HX_w0' := Lib.hid ((hb_.block s16 (by omega)).trans HX_w0.out)
  clear HX_w0
  have HX_w0 := HX_w0'
  clear HX_w0'
  have HM_t10' := Lib.hid (HM_t10.out.below hb_)
  clear HM_t10
  have HM_t10 := HM_t10'
  clear HM_t10'
  have HM_w0' := Lib.hid (HM_w0.out.below hb_)
  clear HM_w0
  have HM_w0 := HM_w0'
  clear HM_w0'
  have HM_x0' := Lib.hid (HM_x0.out.below hb_)
  clear HM_x0
  have HM_x0 := HM_x0'
  clear HM_x0'
  have HBL' := Lib.hid (below_step HBL.out hb_)
  clear HBL
  have HBL := HBL'
  clear HBL'
  have HX_x0 := Lib.hid hx_
  clear hx_
  obtain ⟨s25, hs25⟩ : ∃ s, w24.heap.size = s := ⟨_, rfl⟩
  have hls25 : s23 + 1 = s25 := by omega
  have HWE_w24 := Lib.hid HW_w24
  clear HW_w24 hb_ hz_
  have hc26 : w24.cell? ⟨s23, 0, none⟩ = some (.slice Ak22_0 nk22_0 pk22_0) := cell_of_block HX_x0.out 0
  have hc27 : w24.cell? ⟨s23, 1, none⟩ = some (.slice Ak22_1 nk22_1 pk22_1) := cell_of_block HX_x0.out 1
  go_wp2_with fail
  rw [HWE_w24.out]
  clear HWE_w24 HXP_aF HXP_w0
  refine (impl_FrameTake x0 (.slice Ak22_0 nk22_0 pk22_0) (.slice Ak22_1 nk22_1 pk22_1) w24 HM_x0.out.rd hsz0).mono ?_
  rintro e w28 ⟨u_, rfl, hm_, hb_⟩
  have hsh_ := hm_
  obtain ⟨bs_, hsh_, _⟩ := hsh_
  obtain ⟨Ak29_0, nk29_0, pk29_0, Ak29_1, nk29_1, pk29_1, rfl⟩ := sinv_Frames hsh_
  clear hsh_
  rw [hs25] at hm_
  have HX_aF' := Lib.hid ((hb_.block s0 (by omega)).trans HX_aF.out)
  clear HX_aF
  have HX_aF := HX_aF'
  clear HX_aF'
  have HX_w0' := Lib.hid ((hb_.block s16 (by omega)).trans HX_w0.out)
  clear HX_w0
  have HX_w0 := HX_w0'
  clear HX_w0'
  have HX_x0' := Lib.hid ((hb_.block s23 (by omega)).trans HX_x0.out)
  clear HX_x0
  have HX_x0 := HX_x0'
  clear HX_x0'
  have HM_t10' := Lib.hid (HM_t10.out.below hb_)
  clear HM_t10
  have HM_t10 := HM_t10'
  clear HM_t10'
  have HM_w0' := Lib.hid (HM_w0.out.below hb_)
  clear HM_w0
  have HM_w0 := HM_w0'
  clear HM_w0'
  have HM_x0' := Lib.hid (HM_x0.out.below hb_)
  clear HM_x0
  have HM_x0 := HM_x0'
  clear HM_x0'
  have HBL' := Lib.hid (below_step HBL.out hb_)
  clear HBL
  have HBL := HBL'
  clear HBL'
  obtain ⟨s30, hs30⟩ : ∃ s, w28.heap.size = s := ⟨_, rfl⟩
  have hls30 : s25 ≤ s30 := by have := hb_.size; omega
  have HM_g0 := Lib.hid (hm_.toIn (Nat.le_of_eq hs30))
  clear hm_ hb_
  have HXP_aF := HX_aF
  have HXP_w0 := HX_w0
  have HXP_x0 := HX_x0
  have hb_ : Below w28.heap.size w28 (w28.alloc (.cells #[.slice Ak29_0 nk29_0 pk29_0, .slice Ak29_1 nk29_1 pk29_1] 27)) := (Below.refl _ _).alloc (Nat.le_refl _) _
  have hx_ : (w28.alloc (.cells #[.slice Ak29_0 nk29_0 pk29_0, .slice Ak29_1 nk29_1 pk29_1] 27)).heap[s30]? = some (.cells #[.slice Ak29_0 nk29_0 pk29_0, .slice Ak29_1 nk29_1 pk29_1] 27 (0, 0)) := by rw [← hs30]; exact heap_alloc_new _ _
  have hz_ : (w28.alloc (.cells #[.slice Ak29_0 nk29_0 pk29_0, .slice Ak29_1 nk29_1 pk29_1] 27)).heap.size = s30 + 1 := by simp [hs30]
  obtain ⟨w31, HW_w31⟩ : ∃ z, (w28.alloc (.cells #[.slice Ak29_0 nk29_0 pk29_0, .slice Ak29_1 nk29_1 pk29_1] 27)) = z := ⟨_, rfl⟩
  rw [HW_w31] at hb_ hx_ hz_
  have HX_aF' := Lib.hid ((hb_.block s0 (by omega)).trans HX_aF.out)
  clear HX_aF
  have HX_aF := HX_aF'
  clear HX_aF'
  have HX_w0' := Lib.hid ((hb_.block s16 (by omega)).trans HX_w0.out)
  clear HX_w0
  have HX_w0 := HX_w0'
  clear HX_w0'
  have HX_x0' := Lib.hid ((hb_.block s23 (by omega)).trans HX_x0.out)
  clear HX_x0
  have HX_x0 := HX_x0'
  clear HX_x0'
  have HM_t10' := Lib.hid (HM_t10.out.below hb_)
  clear HM_t10
  have HM_t10 := HM_t10'
  clear HM_t10'
  have HM_w0' := Lib.hid (HM_w0.out.below hb_)
  clear HM_w0
  have HM_w0 := HM_w0'
  clear HM_w0'
  have HM_x0' := Lib.hid (HM_x0.out.below hb_)
  clear HM_x0
  have HM_x0 := HM_x0'
  clear HM_x0'
  have HM_g0' := Lib.hid (HM_g0.out.below hb_)
  clear HM_g0
  have HM_g0 := HM_g0'
  clear HM_g0'
  have HBL' := Lib.hid (below_step HBL.out hb_)
  clear HBL
  have HBL := HBL'
  clear HBL'
  have HX_g0 := Lib.hid hx_
  clear hx_
  obtain ⟨s32, hs32⟩ : ∃ s, w31.heap.size = s := ⟨_, rfl⟩
  have hls32 : s30 + 1 = s32 := by omega
  have HWE_w31 := Lib.hid HW_w31
  clear HW_w31 hb_ hz_
  have hc33 : w31.cell? ⟨s30, 0, none⟩ = some (.slice Ak29_0 nk29_0 pk29_0) := cell_of_block HX_g0.out 0
  have hc34 : w31.cell? ⟨s30, 1, none⟩ = some (.slice Ak29_1 nk29_1 pk29_1) := cell_of_block HX_g0.out 1
  have : s16 < s30 := by omega
  have : w28.cell? ⟨s16, 0, none⟩ = some (.slice Ak15_0 nk15_0 pk15_0) := cell_of_block HXP_w0.out 0
  have : w28.cell? ⟨s16, 1, none⟩ = some (.slice Ak15_1 nk15_1 pk15_1) := cell_of_block HXP_w0.out 1
  have hc35 : w31.cell? ⟨s16, 0, none⟩ = some (.slice Ak15_0 nk15_0 pk15_0) := cell_of_block HX_w0.out 0
  have hc36 : w31.cell? ⟨s16, 1, none⟩ = some (.slice Ak15_1 nk15_1 pk15_1) := cell_of_block HX_w0.out 1
  go_wp2_with fail
  rw [HWE_w31.out]
  clear HWE_w31 HXP_aF HXP_w0 HXP_x0
  refine (h_eqFrames (pFrameTake x0).1 (.slice Ak29_0 nk29_0 pk29_0) (.slice Ak29_1 nk29_1 pk29_1) (.slice Ak15_0 nk15_0 pk15_0) (.slice Ak15_1 nk15_1 pk15_1) w31 HM_g0.out.rd HM_w0.out.rd (by omega)).mono ?_
  rintro e w37 ⟨rfl, hb_⟩
  have HX_aF' := Lib.hid ((hb_.block s0 (by omega)).trans HX_aF.out)
  clear HX_aF
  have HX_aF := HX_aF'
  clear HX_aF'
  have HX_w0' := Lib.hid ((hb_.block s16 (by omega)).trans HX_w0.out)
  clear HX_w0
  have HX_w0 := HX_w0'
  clear HX_w0'
  have HX_x0' := Lib.hid ((hb_.block s23 (by omega)).trans HX_x0.out)
  clear HX_x0
  have HX_x0 := HX_x0'
  clear HX_x0'
  have HX_g0' := Lib.hid ((hb_.block s30 (by omega)).trans HX_g0.out)
  clear HX_g0
  have HX_g0 := HX_g0'
  clear HX_g0'
  have HM_t10' := Lib.hid (HM_t10.out.below hb_)
  clear HM_t10
  have HM_t10 := HM_t10'
  clear HM_t10'
  have HM_w0' := Lib.hid (HM_w0.out.below hb_)
  clear HM_w0
  have HM_w0 := HM_w0'
  clear HM_w0'
  have HM_x0' := Lib.hid (HM_x0.out.below hb_)
  clear HM_x0
  have HM_x0 := HM_x0'
  clear HM_x0'
  have HM_g0' := Lib.hid (HM_g0.out.below hb_)
  clear HM_g0
  have HM_g0 := HM_g0'
  clear HM_g0'
  have HBL' := Lib.hid (below_step HBL.out hb_)
  clear HBL
  have HBL := HBL'
  clear HBL'
  obtain ⟨s38, hs38⟩ : ∃ s, w37.heap.size = s := ⟨_, rfl⟩
  have hls38 : s32 ≤ s38 := by have := hb_.size; omega
  clear hb_
  go_wp2_with fail
  have HT : Hid (∀ w', Below w37.heap.size w37 w' → Calls Try.prog 32 #[(.agg #[c0_0, c0_1])] w' (fun e w'' => ∃ (A_0 : Option Addr) (n_0 p_0 : Nat) (A_1 : Option Addr) (n_1 p_1 : Nat), e = .returned (.agg #[.slice A_0 n_0 p_0, .slice A_1 n_1 p_1]) ∧ Rd w'' (eFrames x0) [.slice A_0 n_0 p_0, .slice A_1 n_1 p_1] ∧ Below w37.heap.size w37 w'')) := fun w' hb => (h_toFrames x0 c0_0 c0_1 w' (raw_below (below_step HBL.out hb) _ HR0.out) (by omega)).mono (by
    rintro e w'' ⟨u_, rfl, hm_, hb_⟩
    have hsh_ := hm_
    obtain ⟨bs_, hsh_, _⟩ := hsh_
    obtain ⟨A_0, n_0, p_0, A_1, n_1, p_1, rfl⟩ := sinv_Frames hsh_
    exact ⟨A_0, n_0, p_0, A_1, n_1, p_1, rfl, hm_.rd, below_step hb hb_⟩)
  have HE : Hid (∀ w' (A_0 : Option Addr) (n_0 p_0 : Nat) (A_1 : Option Addr) (n_1 p_1 : Nat), Below w37.heap.size w37 w' → Rd w' (eFrames x0) [.slice A_0 n_0 p_0, .slice A_1 n_1 p_1] → Calls Try.prog 27 #[(.agg #[.slice Ak22_0 nk22_0 pk22_0, .slice Ak22_1 nk22_1 pk22_1]), (.agg #[.slice A_0 n_0 p_0, .slice A_1 n_1 p_1])] w' (fun e w'' => e = .returned (.bool true) ∧ Below w37.heap.size w37 w'')) := fun w' A_0 n_0 p_0 A_1 n_1 p_1 hb hr => (h_eqFrames x0 (.slice Ak22_0 nk22_0 pk22_0) (.slice Ak22_1 nk22_1 pk22_1) (.slice A_0 n_0 p_0) (.slice A_1 n_1 p_1) w' (HM_x0.out.rd.below hb) hr (by omega)).mono (fun _ _ h => ⟨h.1, below_step hb h.2⟩)
  have hrf_ : Below w37.heap.size w37 w37.drew := (Below.refl _ _).drew
  have HK : Hid (∀ w', Below w37.heap.size w37 w' → w'.cell? ⟨s23, 0, none⟩ = some (.slice Ak22_0 nk22_0 pk22_0) ∧ w'.cell? ⟨s23, 1, none⟩ = some (.slice Ak22_1 nk22_1 pk22_1) ∧ w'.cell? ⟨s0, 0, none⟩ = some (c0_0) ∧ w'.cell? ⟨s0, 1, none⟩ = some (c0_1) ∧ Below w37.heap.size w37 w') := fun w' hb => ⟨cell_below hb (cell_of_block HX_x0.out 0), cell_below hb (cell_of_block HX_x0.out 1), cell_below hb (cell_of_block HX_aF.out 0), cell_below hb (cell_of_block HX_aF.out 1), hb⟩
  go_region_held3 (fun w' => w'.cell? ⟨s23, 0, none⟩ = some (.slice Ak22_0 nk22_0 pk22_0) ∧ w'.cell? ⟨s23, 1, none⟩ = some (.slice Ak22_1 nk22_1 pk22_1) ∧ w'.cell? ⟨s0, 0, none⟩ = some (c0_0) ∧ w'.cell? ⟨s0, 1, none⟩ = some (c0_1) ∧ Below w37.heap.size w37 w') (first | exact HK.out _ hrf_ | exact HK.out _ (by assumption)) (first | (go_at_call 32; refine (HT.out _ (by first | exact hrf_ | assumption)).mono ?_; rintro e wt_ ⟨A_0, n_0, p_0, A_1, n_1, p_1, rfl, hrt_, hbt_⟩) | (go_at_call 27; refine (HE.out _ _ _ _ _ _ _ (by first | exact hbt_ | assumption) (by first | exact hrt_ | assumption)).mono ?_; rintro e we_ ⟨rfl, hbe_⟩))
  obtain ⟨w39, hn_⟩ : ∃ z, we_ = z := ⟨_, rfl⟩
  rw [hn_] at hbe_
  rw [hn_]
  have HX_aF' := Lib.hid ((hbe_.block s0 (by omega)).trans HX_aF.out)
  clear HX_aF
  have HX_aF := HX_aF'
  clear HX_aF'
  have HX_w0' := Lib.hid ((hbe_.block s16 (by omega)).trans HX_w0.out)
  clear HX_w0
  have HX_w0 := HX_w0'
  clear HX_w0'
  have HX_x0' := Lib.hid ((hbe_.block s23 (by omega)).trans HX_x0.out)
  clear HX_x0
  have HX_x0 := HX_x0'
  clear HX_x0'
  have HX_g0' := Lib.hid ((hbe_.block s30 (by omega)).trans HX_g0.out)
  clear HX_g0
  have HX_g0 := HX_g0'
  clear HX_g0'
  have HM_t10' := Lib.hid (HM_t10.out.below hbe_)
  clear HM_t10
  have HM_t10 := HM_t10'
  clear HM_t10'
  have HM_w0' := Lib.hid (HM_w0.out.below hbe_)
  clear HM_w0
  have HM_w0 := HM_w0'
  clear HM_w0'
  have HM_x0' := Lib.hid (HM_x0.out.below hbe_)
  clear HM_x0
  have HM_x0 := HM_x0'
  clear HM_x0'
  have HM_g0' := Lib.hid (HM_g0.out.below hbe_)
  clear HM_g0
  have HM_g0 := HM_g0'
  clear HM_g0'
  have HBL' := Lib.hid (below_step HBL.out hbe_)
  clear HBL
  have HBL := HBL'
  clear HBL'
  obtain ⟨s40, hs40⟩ : ∃ s, w39.heap.size = s := ⟨_, rfl⟩
  have hls40 : s38 ≤ s40 := by have := hbe_.size; omega
  clear hbe_ hbt_ HT HE HK hrf_ hn_ hrt_
  have hc41 : w39.cell? ⟨s23, 0, none⟩ = some (.slice Ak22_0 nk22_0 pk22_0) := cell_of_block HX_x0.out 0
  have hc42 : w39.cell? ⟨s23, 1, none⟩ = some (.slice Ak22_1 nk22_1 pk22_1) := cell_of_block HX_x0.out 1
  go_wp2_with fail
  have hcb := cntb_Frames (x0)
  have hct := cntTop_le (eFrames x0)
  refine (mark_in HM_x0.out (fun bs_ ho_ hn_ => h_markFrames (x0) (.slice Ak22_0 nk22_0 pk22_0) (.slice Ak22_1 nk22_1 pk22_1) bs_ 1 w39 ho_ hn_ (by omega) (by omega))).mono ?_
  rintro e w43 ⟨rfl, hm_, ht_⟩
  obtain ⟨k44, hkk44⟩ : ∃ q : Nat, 1 + (eFrames x0).cntTop = q := ⟨_, rfl⟩
  rw [hkk44]
  have HKk44 := Lib.hid hkk44
  clear hcb hct hkk44
  have HX_aF' := Lib.hid ((ht_.block s0 (by omega) (by omega)).trans HX_aF.out)
  clear HX_aF
  have HX_aF := HX_aF'
  clear HX_aF'
  have HX_w0' := Lib.hid ((ht_.block s16 (by omega) (by omega)).trans HX_w0.out)
  clear HX_w0
  have HX_w0 := HX_w0'
  clear HX_w0'
  have HX_x0' := Lib.hid ((ht_.block s23 (by omega) (by omega)).trans HX_x0.out)
  clear HX_x0
  have HX_x0 := HX_x0'
  clear HX_x0'
  have HX_g0' := Lib.hid ((ht_.block s30 (by omega) (by omega)).trans HX_g0.out)
  clear HX_g0
  have HX_g0 := HX_g0'
  clear HX_g0'
  have HM_t10' := Lib.hid (HM_t10.out.turn ht_ (by omega))
  clear HM_t10
  have HM_t10 := HM_t10'
  clear HM_t10'
  have HM_w0' := Lib.hid (HM_w0.out.turn ht_ (by omega))
  clear HM_w0
  have HM_w0 := HM_w0'
  clear HM_w0'
  have HM_g0' := Lib.hid (HM_g0.out.turn ht_ (by omega))
  clear HM_g0
  have HM_g0 := HM_g0'
  clear HM_g0'
  clear HM_x0
  have HM_x0 := Lib.hid hm_
  have HBL' := Lib.hid (HBL.out.trans (ht_.below (B := w.heap.size) (by omega) (by omega)))
  clear HBL
  have HBL := HBL'
  clear HBL'
  obtain ⟨s45, hs45⟩ : ∃ s, w43.heap.size = s := ⟨_, rfl⟩
  have hls45 : s40 ≤ s45 := by have := ht_.size; omega
  clear hm_ ht_
  have hc46 : w43.cell? ⟨s30, 0, none⟩ = some (.slice Ak29_0 nk29_0 pk29_0) := cell_of_block HX_g0.out 0
  have hc47 : w43.cell? ⟨s30, 1, none⟩ = some (.slice Ak29_1 nk29_1 pk29_1) := cell_of_block HX_g0.out 1
  have hc48 : w43.cell? ⟨s16, 0, none⟩ = some (.slice Ak15_0 nk15_0 pk15_0) := cell_of_block HX_w0.out 0
  have hc49 : w43.cell? ⟨s16, 1, none⟩ = some (.slice Ak15_1 nk15_1 pk15_1) := cell_of_block HX_w0.out 1
  go_wp2_with fail
  refine (h_eqFrames (pFrameTake x0).1 (.slice Ak29_0 nk29_0 pk29_0) (.slice Ak29_1 nk29_1 pk29_1) (.slice Ak15_0 nk15_0 pk15_0) (.slice Ak15_1 nk15_1 pk15_1) w43 HM_g0.out.rd HM_w0.out.rd (by omega)).mono ?_
  rintro e w50 ⟨rfl, hb_⟩
  have HX_aF' := Lib.hid ((hb_.block s0 (by omega)).trans HX_aF.out)
  clear HX_aF
  have HX_aF := HX_aF'
  clear HX_aF'
  have HX_w0' := Lib.hid ((hb_.block s16 (by omega)).trans HX_w0.out)
  clear HX_w0
  have HX_w0 := HX_w0'
  clear HX_w0'
  have HX_x0' := Lib.hid ((hb_.block s23 (by omega)).trans HX_x0.out)
  clear HX_x0
  have HX_x0 := HX_x0'
  clear HX_x0'
  have HX_g0' := Lib.hid ((hb_.block s30 (by omega)).trans HX_g0.out)
  clear HX_g0
  have HX_g0 := HX_g0'
  clear HX_g0'
  have HM_t10' := Lib.hid (HM_t10.out.below hb_)
  clear HM_t10
  have HM_t10 := HM_t10'
  clear HM_t10'
  have HM_w0' := Lib.hid (HM_w0.out.below hb_)
  clear HM_w0
  have HM_w0 := HM_w0'
  clear HM_w0'
  have HM_x0' := Lib.hid (HM_x0.out.below hb_)
  clear HM_x0
  have HM_x0 := HM_x0'
  clear HM_x0'
  have HM_g0' := Lib.hid (HM_g0.out.below hb_)
  clear HM_g0
  have HM_g0 := HM_g0'
  clear HM_g0'
  have HBL' := Lib.hid (below_step HBL.out hb_)
  clear HBL
  have HBL := HBL'
  clear HBL'
  obtain ⟨s51, hs51⟩ : ∃ s, w50.heap.size = s := ⟨_, rfl⟩
  have hls51 : s45 ≤ s51 := by have := hb_.size; omega
  clear hb_
  have hc52 : w50.cell? ⟨s30, 0, none⟩ = some (.slice Ak29_0 nk29_0 pk29_0) := cell_of_block HX_g0.out 0
  have hc53 : w50.cell? ⟨s30, 1, none⟩ = some (.slice Ak29_1 nk29_1 pk29_1) := cell_of_block HX_g0.out 1
  go_wp2_with fail
  have hcb := cntb_Frames (pFrameTake x0).1
  have hct := cntTop_le (eFrames (pFrameTake x0).1)
  refine (mark_in HM_g0.out (fun bs_ ho_ hn_ => h_markFrames (pFrameTake x0).1 (.slice Ak29_0 nk29_0 pk29_0) (.slice Ak29_1 nk29_1 pk29_1) bs_ 1 w50 ho_ hn_ (by omega) (by omega))).mono ?_
  rintro e w54 ⟨rfl, hm_, ht_⟩
  obtain ⟨k55, hkk55⟩ : ∃ q : Nat, 1 + (eFrames (pFrameTake x0).1).cntTop = q := ⟨_, rfl⟩
  rw [hkk55]
  have HKk55 := Lib.hid hkk55
  clear hcb hct hkk55
  have HX_aF' := Lib.hid ((ht_.block s0 (by omega) (by omega)).trans HX_aF.out)
  clear HX_aF
  have HX_aF := HX_aF'
  clear HX_aF'
  have HX_w0' := Lib.hid ((ht_.block s16 (by omega) (by omega)).trans HX_w0.out)
  clear HX_w0
  have HX_w0 := HX_w0'
  clear HX_w0'
  have HX_x0' := Lib.hid ((ht_.block s23 (by omega) (by omega)).trans HX_x0.out)
  clear HX_x0
  have HX_x0 := HX_x0'
  clear HX_x0'
  have HX_g0' := Lib.hid ((ht_.block s30 (by omega) (by omega)).trans HX_g0.out)
  clear HX_g0
  have HX_g0 := HX_g0'
  clear HX_g0'
  have HM_t10' := Lib.hid (HM_t10.out.turn ht_ (by omega))
  clear HM_t10
  have HM_t10 := HM_t10'
  clear HM_t10'
  have HM_w0' := Lib.hid (HM_w0.out.turn ht_ (by omega))
  clear HM_w0
  have HM_w0 := HM_w0'
  clear HM_w0'
  have HM_x0' := Lib.hid (HM_x0.out.turn ht_ (by omega))
  clear HM_x0
  have HM_x0 := HM_x0'
  clear HM_x0'
  clear HM_g0
  have HM_g0 := Lib.hid hm_
  have HBL' := Lib.hid (HBL.out.trans (ht_.below (B := w.heap.size) (by omega) (by omega)))
  clear HBL
  have HBL := HBL'
  clear HBL'
  obtain ⟨s56, hs56⟩ : ∃ s, w54.heap.size = s := ⟨_, rfl⟩
  have hls56 : s51 ≤ s56 := by have := ht_.size; omega
  clear hm_ ht_
  have hc57 : w54.cell? ⟨s30, 0, none⟩ = some (.slice Ak29_0 nk29_0 pk29_0) := cell_of_block HX_g0.out 0
  have hc58 : w54.cell? ⟨s30, 1, none⟩ = some (.slice Ak29_1 nk29_1 pk29_1) := cell_of_block HX_g0.out 1
  go_wp2_with fail
  have hcb := cntb_Frames (pFrameTake x0).1
  have hct := cntTop_le (eFrames (pFrameTake x0).1)
  refine (h_heldFrames (pFrameTake x0).1 (.slice Ak29_0 nk29_0 pk29_0) (.slice Ak29_1 nk29_1 pk29_1) 1 w54 HM_g0.out.rd (by omega) (by omega)).mono ?_
  rintro e w59 ⟨rfl, hb_⟩
  rw [HKk55.out]
  clear hcb hct
  have HX_aF' := Lib.hid ((hb_.block s0 (by omega)).trans HX_aF.out)
  clear HX_aF
  have HX_aF := HX_aF'
  clear HX_aF'
  have HX_w0' := Lib.hid ((hb_.block s16 (by omega)).trans HX_w0.out)
  clear HX_w0
  have HX_w0 := HX_w0'
  clear HX_w0'
  have HX_x0' := Lib.hid ((hb_.block s23 (by omega)).trans HX_x0.out)
  clear HX_x0
  have HX_x0 := HX_x0'
  clear HX_x0'
  have HX_g0' := Lib.hid ((hb_.block s30 (by omega)).trans HX_g0.out)
  clear HX_g0
  have HX_g0 := HX_g0'
  clear HX_g0'
  have HM_t10' := Lib.hid (HM_t10.out.below hb_)
  clear HM_t10
  have HM_t10 := HM_t10'
  clear HM_t10'
  have HM_w0' := Lib.hid (HM_w0.out.below hb_)
  clear HM_w0
  have HM_w0 := HM_w0'
  clear HM_w0'
  have HM_x0' := Lib.hid (HM_x0.out.below hb_)
  clear HM_x0
  have HM_x0 := HM_x0'
  clear HM_x0'
  have HM_g0' := Lib.hid (HM_g0.out.below hb_)
  clear HM_g0
  have HM_g0 := HM_g0'
  clear HM_g0'
  have HBL' := Lib.hid (below_step HBL.out hb_)
  clear HBL
  have HBL := HBL'
  clear HBL'
  obtain ⟨s60, hs60⟩ : ∃ s, w59.heap.size = s := ⟨_, rfl⟩
  have hls60 : s56 ≤ s60 := by have := hb_.size; omega
  clear hb_
  have hc61 : w59.cell? ⟨s0, 0, none⟩ = some (c0_0) := cell_of_block HX_aF.out 0
  have hc62 : w59.cell? ⟨s0, 1, none⟩ = some (c0_1) := cell_of_block HX_aF.out 1
  go_wp2_with fail
  refine (h_toFrames x0 c0_0 c0_1 w59 (raw_below HBL.out _ HR0.out) (by omega)).mono ?_
  rintro e w64 ⟨u_, rfl, hm_, hb_⟩
  have hsh_ := hm_
  obtain ⟨bs_, hsh_, _⟩ := hsh_
  obtain ⟨Ak65_0, nk65_0, pk65_0, Ak65_1, nk65_1, pk65_1, rfl⟩ := sinv_Frames hsh_
  clear hsh_
  rw [hs60] at hm_
  have HX_aF' := Lib.hid ((hb_.block s0 (by omega)).trans HX_aF.out)
  clear HX_aF
  have HX_aF := HX_aF'
  clear HX_aF'
  have HX_w0' := Lib.hid ((hb_.block s16 (by omega)).trans HX_w0.out)
  clear HX_w0
  have HX_w0 := HX_w0'
  clear HX_w0'
  have HX_x0' := Lib.hid ((hb_.block s23 (by omega)).trans HX_x0.out)
  clear HX_x0
  have HX_x0 := HX_x0'
  clear HX_x0'
  have HX_g0' := Lib.hid ((hb_.block s30 (by omega)).trans HX_g0.out)
  clear HX_g0
  have HX_g0 := HX_g0'
  clear HX_g0'
  have HM_t10' := Lib.hid (HM_t10.out.below hb_)
  clear HM_t10
  have HM_t10 := HM_t10'
  clear HM_t10'
  have HM_w0' := Lib.hid (HM_w0.out.below hb_)
  clear HM_w0
  have HM_w0 := HM_w0'
  clear HM_w0'
  have HM_x0' := Lib.hid (HM_x0.out.below hb_)
  clear HM_x0
  have HM_x0 := HM_x0'
  clear HM_x0'
  have HM_g0' := Lib.hid (HM_g0.out.below hb_)
  clear HM_g0
  have HM_g0 := HM_g0'
  clear HM_g0'
  have HBL' := Lib.hid (below_step HBL.out hb_)
  clear HBL
  have HBL := HBL'
  clear HBL'
  obtain ⟨s66, hs66⟩ : ∃ s, w64.heap.size = s := ⟨_, rfl⟩
  have hls66 : s60 ≤ s66 := by have := hb_.size; omega
  have HM_t63 := Lib.hid (hm_.toIn (Nat.le_of_eq hs66))
  clear hm_ hb_
  go_wp2_with fail
  refine (impl_FrameTake x0 (.slice Ak65_0 nk65_0 pk65_0) (.slice Ak65_1 nk65_1 pk65_1) w64 HM_t63.out.rd hsz0).mono ?_
  rintro e w67 ⟨u_, rfl, hm_, hb_⟩
  have hsh_ := hm_
  obtain ⟨bs_, hsh_, _⟩ := hsh_
  obtain ⟨Ak68_0, nk68_0, pk68_0, Ak68_1, nk68_1, pk68_1, rfl⟩ := sinv_Frames hsh_
  clear hsh_
  rw [hs66] at hm_
  have HX_aF' := Lib.hid ((hb_.block s0 (by omega)).trans HX_aF.out)
  clear HX_aF
  have HX_aF := HX_aF'
  clear HX_aF'
  have HX_w0' := Lib.hid ((hb_.block s16 (by omega)).trans HX_w0.out)
  clear HX_w0
  have HX_w0 := HX_w0'
  clear HX_w0'
  have HX_x0' := Lib.hid ((hb_.block s23 (by omega)).trans HX_x0.out)
  clear HX_x0
  have HX_x0 := HX_x0'
  clear HX_x0'
  have HX_g0' := Lib.hid ((hb_.block s30 (by omega)).trans HX_g0.out)
  clear HX_g0
  have HX_g0 := HX_g0'
  clear HX_g0'
  have HM_t10' := Lib.hid (HM_t10.out.below hb_)
  clear HM_t10
  have HM_t10 := HM_t10'
  clear HM_t10'
  have HM_w0' := Lib.hid (HM_w0.out.below hb_)
  clear HM_w0
  have HM_w0 := HM_w0'
  clear HM_w0'
  have HM_x0' := Lib.hid (HM_x0.out.below hb_)
  clear HM_x0
  have HM_x0 := HM_x0'
  clear HM_x0'
  have HM_g0' := Lib.hid (HM_g0.out.below hb_)
  clear HM_g0
  have HM_g0 := HM_g0'
  clear HM_g0'
  have HM_t63' := Lib.hid (HM_t63.out.below hb_)
  clear HM_t63
  have HM_t63 := HM_t63'
  clear HM_t63'
  have HBL' := Lib.hid (below_step HBL.out hb_)
  clear HBL
  have HBL := HBL'
  clear HBL'
  obtain ⟨s69, hs69⟩ : ∃ s, w67.heap.size = s := ⟨_, rfl⟩
  have hls69 : s66 ≤ s69 := by have := hb_.size; omega
  have HM_h0 := Lib.hid (hm_.toIn (Nat.le_of_eq hs69))
  clear hm_ hb_
  have HXP_aF := HX_aF
  have HXP_w0 := HX_w0
  have HXP_x0 := HX_x0
  have HXP_g0 := HX_g0
  have hb_ : Below w67.heap.size w67 (w67.alloc (.cells #[.slice Ak68_0 nk68_0 pk68_0, .slice Ak68_1 nk68_1 pk68_1] 27)) := (Below.refl _ _).alloc (Nat.le_refl _) _
  have hx_ : (w67.alloc (.cells #[.slice Ak68_0 nk68_0 pk68_0, .slice Ak68_1 nk68_1 pk68_1] 27)).heap[s69]? = some (.cells #[.slice Ak68_0 nk68_0 pk68_0, .slice Ak68_1 nk68_1 pk68_1] 27 (0, 0)) := by rw [← hs69]; exact heap_alloc_new _ _
  have hz_ : (w67.alloc (.cells #[.slice Ak68_0 nk68_0 pk68_0, .slice Ak68_1 nk68_1 pk68_1] 27)).heap.size = s69 + 1 := by simp [hs69]
  obtain ⟨w70, HW_w70⟩ : ∃ z, (w67.alloc (.cells #[.slice Ak68_0 nk68_0 pk68_0, .slice Ak68_1 nk68_1 pk68_1] 27)) = z := ⟨_, rfl⟩
  rw [HW_w70] at hb_ hx_ hz_
  have HX_aF' := Lib.hid ((hb_.block s0 (by omega)).trans HX_aF.out)
  clear HX_aF
  have HX_aF := HX_aF'
  clear HX_aF'
  have HX_w0' := Lib.hid ((hb_.block s16 (by omega)).trans HX_w0.out)
  clear HX_w0
  have HX_w0 := HX_w0'
  clear HX_w0'
  have HX_x0' := Lib.hid ((hb_.block s23 (by omega)).trans HX_x0.out)
  clear HX_x0
  have HX_x0 := HX_x0'
  clear HX_x0'
  have HX_g0' := Lib.hid ((hb_.block s30 (by omega)).trans HX_g0.out)
  clear HX_g0
  have HX_g0 := HX_g0'
  clear HX_g0'
  have HM_t10' := Lib.hid (HM_t10.out.below hb_)
  clear HM_t10
  have HM_t10 := HM_t10'
  clear HM_t10'
  have HM_w0' := Lib.hid (HM_w0.out.below hb_)
  clear HM_w0
  have HM_w0 := HM_w0'
  clear HM_w0'
  have HM_x0' := Lib.hid (HM_x0.out.below hb_)
  clear HM_x0
  have HM_x0 := HM_x0'
  clear HM_x0'
  have HM_g0' := Lib.hid (HM_g0.out.below hb_)
  clear HM_g0
  have HM_g0 := HM_g0'
  clear HM_g0'
  have HM_t63' := Lib.hid (HM_t63.out.below hb_)
  clear HM_t63
  have HM_t63 := HM_t63'
  clear HM_t63'
  have HM_h0' := Lib.hid (HM_h0.out.below hb_)
  clear HM_h0
  have HM_h0 := HM_h0'
  clear HM_h0'
  have HBL' := Lib.hid (below_step HBL.out hb_)
  clear HBL
  have HBL := HBL'
  clear HBL'
  have HX_h0 := Lib.hid hx_
  clear hx_
  obtain ⟨s71, hs71⟩ : ∃ s, w70.heap.size = s := ⟨_, rfl⟩
  have hls71 : s69 + 1 = s71 := by omega
  have HWE_w70 := Lib.hid HW_w70
  clear HW_w70 hb_ hz_
  have hc72 : w70.cell? ⟨s69, 0, none⟩ = some (.slice Ak68_0 nk68_0 pk68_0) := cell_of_block HX_h0.out 0
  have hc73 : w70.cell? ⟨s69, 1, none⟩ = some (.slice Ak68_1 nk68_1 pk68_1) := cell_of_block HX_h0.out 1
  have : s16 < s69 := by omega
  have : w67.cell? ⟨s16, 0, none⟩ = some (.slice Ak15_0 nk15_0 pk15_0) := cell_of_block HXP_w0.out 0
  have : w67.cell? ⟨s16, 1, none⟩ = some (.slice Ak15_1 nk15_1 pk15_1) := cell_of_block HXP_w0.out 1
  have hc74 : w70.cell? ⟨s16, 0, none⟩ = some (.slice Ak15_0 nk15_0 pk15_0) := cell_of_block HX_w0.out 0
  have hc75 : w70.cell? ⟨s16, 1, none⟩ = some (.slice Ak15_1 nk15_1 pk15_1) := cell_of_block HX_w0.out 1
  go_wp2_with fail
  rw [HWE_w70.out]
  clear HWE_w70 HXP_aF HXP_w0 HXP_x0 HXP_g0
  refine (h_eqFrames (pFrameTake x0).1 (.slice Ak68_0 nk68_0 pk68_0) (.slice Ak68_1 nk68_1 pk68_1) (.slice Ak15_0 nk15_0 pk15_0) (.slice Ak15_1 nk15_1 pk15_1) w70 HM_h0.out.rd HM_w0.out.rd (by omega)).mono ?_
  rintro e w76 ⟨rfl, hb_⟩
  have HX_aF' := Lib.hid ((hb_.block s0 (by omega)).trans HX_aF.out)
  clear HX_aF
  have HX_aF := HX_aF'
  clear HX_aF'
  have HX_w0' := Lib.hid ((hb_.block s16 (by omega)).trans HX_w0.out)
  clear HX_w0
  have HX_w0 := HX_w0'
  clear HX_w0'
  have HX_x0' := Lib.hid ((hb_.block s23 (by omega)).trans HX_x0.out)
  clear HX_x0
  have HX_x0 := HX_x0'
  clear HX_x0'
  have HX_g0' := Lib.hid ((hb_.block s30 (by omega)).trans HX_g0.out)
  clear HX_g0
  have HX_g0 := HX_g0'
  clear HX_g0'
  have HX_h0' := Lib.hid ((hb_.block s69 (by omega)).trans HX_h0.out)
  clear HX_h0
  have HX_h0 := HX_h0'
  clear HX_h0'
  have HM_t10' := Lib.hid (HM_t10.out.below hb_)
  clear HM_t10
  have HM_t10 := HM_t10'
  clear HM_t10'
  have HM_w0' := Lib.hid (HM_w0.out.below hb_)
  clear HM_w0
  have HM_w0 := HM_w0'
  clear HM_w0'
  have HM_x0' := Lib.hid (HM_x0.out.below hb_)
  clear HM_x0
  have HM_x0 := HM_x0'
  clear HM_x0'
  have HM_g0' := Lib.hid (HM_g0.out.below hb_)
  clear HM_g0
  have HM_g0 := HM_g0'
  clear HM_g0'
  have HM_t63' := Lib.hid (HM_t63.out.below hb_)
  clear HM_t63
  have HM_t63 := HM_t63'
  clear HM_t63'
  have HM_h0' := Lib.hid (HM_h0.out.below hb_)
  clear HM_h0
  have HM_h0 := HM_h0'
  clear HM_h0'
  have HBL' := Lib.hid (below_step HBL.out hb_)
  clear HBL
  have HBL := HBL'
  clear HBL'
  obtain ⟨s77, hs77⟩ : ∃ s, w76.heap.size = s := ⟨_, rfl⟩
  have hls77 : s71 ≤ s77 := by have := hb_.size; omega
  clear hb_
  have hc78 : w76.cell? ⟨s30, 0, none⟩ = some (.slice Ak29_0 nk29_0 pk29_0) := cell_of_block HX_g0.out 0
  have hc79 : w76.cell? ⟨s30, 1, none⟩ = some (.slice Ak29_1 nk29_1 pk29_1) := cell_of_block HX_g0.out 1
  go_wp2_with fail
  have hcb := cntb_Frames (pFrameTake x0).1
  have hct := cntTop_le (eFrames (pFrameTake x0).1)
  refine (h_heldFrames (pFrameTake x0).1 (.slice Ak29_0 nk29_0 pk29_0) (.slice Ak29_1 nk29_1 pk29_1) 1 w76 HM_g0.out.rd (by omega) (by omega)).mono ?_
  rintro e w80 ⟨rfl, hb_⟩
  rw [HKk55.out]
  clear hcb hct
  have HX_aF' := Lib.hid ((hb_.block s0 (by omega)).trans HX_aF.out)
  clear HX_aF
  have HX_aF := HX_aF'
  clear HX_aF'
  have HX_w0' := Lib.hid ((hb_.block s16 (by omega)).trans HX_w0.out)
  clear HX_w0
  have HX_w0 := HX_w0'
  clear HX_w0'
  have HX_x0' := Lib.hid ((hb_.block s23 (by omega)).trans HX_x0.out)
  clear HX_x0
  have HX_x0 := HX_x0'
  clear HX_x0'
  have HX_g0' := Lib.hid ((hb_.block s30 (by omega)).trans HX_g0.out)
  clear HX_g0
  have HX_g0 := HX_g0'
  clear HX_g0'
  have HX_h0' := Lib.hid ((hb_.block s69 (by omega)).trans HX_h0.out)
  clear HX_h0
  have HX_h0 := HX_h0'
  clear HX_h0'
  have HM_t10' := Lib.hid (HM_t10.out.below hb_)
  clear HM_t10
  have HM_t10 := HM_t10'
  clear HM_t10'
  have HM_w0' := Lib.hid (HM_w0.out.below hb_)
  clear HM_w0
  have HM_w0 := HM_w0'
  clear HM_w0'
  have HM_x0' := Lib.hid (HM_x0.out.below hb_)
  clear HM_x0
  have HM_x0 := HM_x0'
  clear HM_x0'
  have HM_g0' := Lib.hid (HM_g0.out.below hb_)
  clear HM_g0
  have HM_g0 := HM_g0'
  clear HM_g0'
  have HM_t63' := Lib.hid (HM_t63.out.below hb_)
  clear HM_t63
  have HM_t63 := HM_t63'
  clear HM_t63'
  have HM_h0' := Lib.hid (HM_h0.out.below hb_)
  clear HM_h0
  have HM_h0 := HM_h0'
  clear HM_h0'
  have HBL' := Lib.hid (below_step HBL.out hb_)
  clear HBL
  have HBL := HBL'
  clear HBL'
  obtain ⟨s81, hs81⟩ : ∃ s, w80.heap.size = s := ⟨_, rfl⟩
  have hls81 : s77 ≤ s81 := by have := hb_.size; omega
  clear hb_
  go_wp2
  go_ret
  exact ⟨rfl, HBL.out⟩
theorem lifted (os : Os) (started : os.Started) (H : Type) (enc : TypeId × Value → H) :
    ReturnsInHanded {} Try.checked os 8 .any (Rows.fnExactFrameTakeSpec.pre6 enc Try.prog Try.f8 Rows.fnExactFrameTakeRow.domain false) (Rows.fnExactFrameTakeSpec.post enc Try.prog Try.f8 false true false false) := by
  refine returnsInHanded_of_change (C := Try.checked) own started (by kernel_rfl) Try.func8
    (ChangeSpec.witness6 (enc := enc) (C := Try.checked) false ⟨#[], #[.agg #[.slice none 0 0, .slice none 0 0]], []⟩ 8 (by kernel_rfl) (by kernel_rfl) (by kernel_rfl) (by kernel_rfl)) ?_
  intro W base args ds gs before hval0 hW hcnd _
  have hval : ∀ (j : Nat) t v, Try.f8.params[j]? = some t → args[j]? = some v → Value.okWide Try.prog W .any base t v := hval0
  have hW' := hW
  obtain ⟨p, q, hA0, hV, rfl, hfz, hnd⟩ := hW
  have hA : DataW.TrodAll enc Try.prog W 0 (fun _ => true) true Try.f8.params.toList args.toList ds p := hA0
  rw [Try.params8] at hA hval
  obtain ⟨v0, vs0, d0, ds0, p0, q0, hargs, rfl, rfl, h0, r0⟩ := trodAll_cons hA
  obtain ⟨rfl, rfl, rfl⟩ := trodAll_nil r0
  obtain rfl : args = #[v0] := by cases args; simp_all
  obtain ⟨rfl, rfl⟩ := trodVars_none hV
  have k0 := h0
  have lt0 : ∀ x ∈ p0, x.block < W.heap.size := by obtain ⟨m, hm⟩ := k0; exact DataW.trod_lt m _ _ _ hm
  obtain ⟨x0, raw0, ok0⟩ := opens_trod opens_Frames h0
  obtain ⟨cs0, rfl, _⟩ := okWide_struct Try.underlying44 (hval 0 44 v0 rfl rfl)
  obtain ⟨cs0⟩ := cs0
  have raw0 : Raw W (eFrames x0) cs0 := raw0
  obtain ⟨c0_0, c0_1, rfl⟩ := rinv_Frames raw0
  clear hA0 hval0
  refine (walk x0 c0_0 c0_1 W raw0 ok0).mono fun e W' ⟨he, bel⟩ => ?_
  subst he
  exact ⟨_, rfl, _, _, _, [], _, [], hW', trodAll_mk1 (shut_bool Try.underlying4 _), (trodAll_cons_mk (Below.trod laidOut (by kernel_rfl) (of_decide_eq_true (by kernel_rfl)) k0 bel lt0) trodAll_mk0), rfl, bel.frame _, fun h => by cases h⟩
theorem over : Rows.fnExactFrameTakeRow.holds Try.pinned (OpenSpec.ofChange Rows.fnExactFrameTakeSpec) :=
  OpenClaim.holds_of_wide 8 Try.f8 rfl rfl rfl rfl rfl rfl rfl ⟨rfl, rfl, rfl, rfl, rfl⟩ rfl rfl rfl rfl rfl (by kernel_rfl) Try.func8 (by kernel_rfl)
    (of_decide_eq_true (by kernel_rfl)) (by unfold Func.isWrapper; first | (rw [if_pos (by decide +kernel)]; kernel_rfl) | (rw [if_neg (by decide +kernel)]; exact ⟨rfl, rfl⟩))
    (fun os started H enc _ => lifted os started H enc)
theorem proved : Rows.FnExactFrameTakeSaid := over
#print axioms proved
end Go.Proofs.Ytmajlgnjgnodoaa.fnExactFrameTake

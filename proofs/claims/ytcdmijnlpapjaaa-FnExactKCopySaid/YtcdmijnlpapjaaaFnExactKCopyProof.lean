/- Called with any arguments, the law FnExactKCopy returns true and each argument reads afterwards as before. No condition. -/
import Derived.Test.YtcdmijnlpapjaaaRows
import Derived.Test.YtcdmijnlpapjaaaEI08m
import Derived.Test.YtcdmijnlpapjaaaTo
import Derived.Test.YtcdmijnlpapjaaaEq
import Derived.Test.YtcdmijnlpapjaaaSz
import Derived.Test.YtcdmijnlpapjaaaMark
import Derived.Test.YtcdmijnlpapjaaaHeld
import Derived.Test.YtcdmijnlpapjaaaIn
import Derived.WalkKit
import Derived.ProofKit
import Derived.OpenShut
import Derived.ShutString
import Derived.ChangeOld
import Derived.Below
import Derived.Carry
import Derived.Deep.RegionHeld3
namespace Go.Proofs.Ytcdmijnlpapjaaa.fnExactKCopy
open Go.ChangeShapes Go.WideShapes Go.ChangeAt Go.RowKit Go.Proofs.Ytcdmijnlpapjaaa.Tr
set_option linter.unusedVariables false
theorem own : ownKnob Try.prog.godebug = none := by kernel_rfl
theorem laidOut : laidOutB Try.prog = true := by kernel_rfl
set_option maxRecDepth 100000 in
set_option maxHeartbeats 4000000 in
theorem walk (x0 : GKernel) (c0_0 c0_1 c0_2 c0_4 : Value) (x1 : Int) (x2 : Int) (x3 : List Int) (c3_0 : Value) (w : World) (r0 : Raw w (eKernel x0) [c0_0, c0_1, c0_2, .int .i64 x0.Calls, c0_4]) (hw0 : okKernel x0) (hw1 : okI x1) (hw2 : okI x2) (r3 : Raw w (eIntS x3) [c3_0]) (hw3 : okIntS x3) :
    Calls Try.prog 12 #[(.agg #[c0_0, c0_1, c0_2, .int .i64 x0.Calls, c0_4]), (.int .i64 x1), (.int .i64 x2), (c3_0)] w fun e w' => e = .returned (.bool true) ∧ Below w.heap.size w w' := by
  have HO : Hid True := trivial
  have HR0 := Lib.hid r0
  clear r0
  have HR3 := Lib.hid r3
  clear r3
  obtain ⟨s0, hs0⟩ : ∃ s, w.heap.size = s := ⟨_, rfl⟩
  have HBL : Hid (Below w.heap.size w w) := Below.refl _ _
  have hb_ : Below w.heap.size w (w.alloc (.cells #[c0_0, c0_1, c0_2, .int .i64 x0.Calls, c0_4] 62)) := (Below.refl _ _).alloc (Nat.le_refl _) _
  have hx_ : (w.alloc (.cells #[c0_0, c0_1, c0_2, .int .i64 x0.Calls, c0_4] 62)).heap[s0]? = some (.cells #[c0_0, c0_1, c0_2, .int .i64 x0.Calls, c0_4] 62 (0, 0)) := by rw [← hs0]; exact heap_alloc_new _ _
  have hz_ : (w.alloc (.cells #[c0_0, c0_1, c0_2, .int .i64 x0.Calls, c0_4] 62)).heap.size = s0 + 1 := by simp [hs0]
  obtain ⟨w1, HW_w1⟩ : ∃ z, (w.alloc (.cells #[c0_0, c0_1, c0_2, .int .i64 x0.Calls, c0_4] 62)) = z := ⟨_, rfl⟩
  rw [HW_w1] at hb_ hx_ hz_
  have HBL' := Lib.hid (below_step HBL.out hb_)
  clear HBL
  have HBL := HBL'
  clear HBL'
  have HX_aK := Lib.hid hx_
  clear hx_
  obtain ⟨s2, hs2⟩ : ∃ s, w1.heap.size = s := ⟨_, rfl⟩
  have hls2 : s0 + 1 = s2 := by omega
  have HWE_w1 := Lib.hid HW_w1
  clear HW_w1 hb_ hz_
  go_enter Try.func12, Try.ntmps12
  obtain ⟨Al3, nl3, pl3, hcl_, hnl_, _⟩ := read_raw HR3.out (fun _ => rfl) (by decide)
  subst hcl_ hnl_
  by_cases hlen3 : ((x3.length : Nat) : Int) > 1048576
  · have hd_ : decide (((x3.length : Nat) : Int) > 1048576) = true := decide_eq_true hlen3
    go_wp2_with fail
    (try rw [HWE_w1.out])
    go_ret
    exact ⟨rfl, HBL.out⟩
  have hd_ : decide (((x3.length : Nat) : Int) > 1048576) = false := decide_eq_false hlen3
  have hsz3 : (eIntS x3).sz ≤ 1048576 := by rw [sz_ints]; omega
  have hc3 : w1.cell? ⟨s0, 0, none⟩ = some (c0_0) := cell_of_block HX_aK.out 0
  have hc4 : w1.cell? ⟨s0, 1, none⟩ = some (c0_1) := cell_of_block HX_aK.out 1
  have hc5 : w1.cell? ⟨s0, 2, none⟩ = some (c0_2) := cell_of_block HX_aK.out 2
  have hc6 : w1.cell? ⟨s0, 3, none⟩ = some (.int .i64 x0.Calls) := cell_of_block HX_aK.out 3
  have hc7 : w1.cell? ⟨s0, 4, none⟩ = some (c0_4) := cell_of_block HX_aK.out 4
  go_wp2_with fail
  rw [HWE_w1.out]
  clear HWE_w1
  refine (h_szKernel x0 c0_0 c0_1 c0_2 c0_4 1048576 w1 (raw_below HBL.out _ HR0.out) (by omega)).mono ?_
  rintro e w8 ⟨hcase, hb_⟩
  have HX_aK' := Lib.hid ((hb_.block s0 (by omega)).trans HX_aK.out)
  clear HX_aK
  have HX_aK := HX_aK'
  clear HX_aK'
  have HBL' := Lib.hid (below_step HBL.out hb_)
  clear HBL
  have HBL := HBL'
  clear HBL'
  obtain ⟨s10, hs10⟩ : ∃ s, w8.heap.size = s := ⟨_, rfl⟩
  have hls10 : s2 ≤ s10 := by have := hb_.size; omega
  clear hb_
  rcases hcase with ⟨q9, hq9, rfl⟩ | ⟨_, rfl⟩
  rotate_left
  · go_wp2
    go_ret
    exact ⟨rfl, HBL.out⟩
  have hsz0 : (eKernel x0).sz ≤ 1048576 := by omega
  have hc11 : w8.cell? ⟨s0, 0, none⟩ = some (c0_0) := cell_of_block HX_aK.out 0
  have hc12 : w8.cell? ⟨s0, 1, none⟩ = some (c0_1) := cell_of_block HX_aK.out 1
  have hc13 : w8.cell? ⟨s0, 2, none⟩ = some (c0_2) := cell_of_block HX_aK.out 2
  have hc14 : w8.cell? ⟨s0, 3, none⟩ = some (.int .i64 x0.Calls) := cell_of_block HX_aK.out 3
  have hc15 : w8.cell? ⟨s0, 4, none⟩ = some (c0_4) := cell_of_block HX_aK.out 4
  go_wp2_with fail
  refine (h_toKernel x0 c0_0 c0_1 c0_2 c0_4 w8 (raw_below HBL.out _ HR0.out) (by omega)).mono ?_
  rintro e w17 ⟨u_, rfl, hm_, hb_⟩
  have hsh_ := hm_
  obtain ⟨bs_, hsh_, _⟩ := hsh_
  obtain ⟨Ak18_0, nk18_0, pk18_0, Ak18_1, nk18_1, pk18_1, Ak18_2, nk18_2, pk18_2, Ak18_4, nk18_4, pk18_4, rfl⟩ := sinv_Kernel hsh_
  clear hsh_
  rw [hs10] at hm_
  have HX_aK' := Lib.hid ((hb_.block s0 (by omega)).trans HX_aK.out)
  clear HX_aK
  have HX_aK := HX_aK'
  clear HX_aK'
  have HBL' := Lib.hid (below_step HBL.out hb_)
  clear HBL
  have HBL := HBL'
  clear HBL'
  obtain ⟨s19, hs19⟩ : ∃ s, w17.heap.size = s := ⟨_, rfl⟩
  have hls19 : s10 ≤ s19 := by have := hb_.size; omega
  have HM_t16 := Lib.hid (hm_.toIn (Nat.le_of_eq hs19))
  clear hm_ hb_
  go_wp2_with fail
  refine (h_toIntS x3 (.slice Al3 x3.length pl3) w17 (raw_below HBL.out _ HR3.out) (by omega)).mono ?_
  rintro e w21 ⟨u_, rfl, hm_, hb_⟩
  have hsh_ := hm_
  obtain ⟨bs_, hsh_, _⟩ := hsh_
  obtain ⟨Ak22, nk22, pk22, rfl⟩ := own_slice hsh_
  clear hsh_
  rw [hs19] at hm_
  have HX_aK' := Lib.hid ((hb_.block s0 (by omega)).trans HX_aK.out)
  clear HX_aK
  have HX_aK := HX_aK'
  clear HX_aK'
  have HM_t16' := Lib.hid (HM_t16.out.below hb_)
  clear HM_t16
  have HM_t16 := HM_t16'
  clear HM_t16'
  have HBL' := Lib.hid (below_step HBL.out hb_)
  clear HBL
  have HBL := HBL'
  clear HBL'
  obtain ⟨s23, hs23⟩ : ∃ s, w21.heap.size = s := ⟨_, rfl⟩
  have hls23 : s19 ≤ s23 := by have := hb_.size; omega
  have HM_t20 := Lib.hid (hm_.toIn (Nat.le_of_eq hs23))
  clear hm_ hb_
  go_wp2_with fail
  refine (spec_KCopy x0 (.slice Ak18_0 nk18_0 pk18_0) (.slice Ak18_1 nk18_1 pk18_1) (.slice Ak18_2 nk18_2 pk18_2) (.slice Ak18_4 nk18_4 pk18_4) x1 x2 x3 (.slice Ak22 nk22 pk22) w21 HM_t16.out.rd HM_t20.out.rd hsz0 hsz3 hw1 hw2).mono ?_
  rintro e w24 ⟨u_, rfl, hm_, hb_⟩
  have hsh_ := hm_
  obtain ⟨bs_, hsh_, _⟩ := hsh_
  obtain ⟨Ak25_0, nk25_0, pk25_0, Ak25_1, nk25_1, pk25_1, Ak25_2, nk25_2, pk25_2, Ak25_4, nk25_4, pk25_4, rfl⟩ := sinv_Kernel hsh_
  clear hsh_
  rw [hs23] at hm_
  have HX_aK' := Lib.hid ((hb_.block s0 (by omega)).trans HX_aK.out)
  clear HX_aK
  have HX_aK := HX_aK'
  clear HX_aK'
  have HM_t16' := Lib.hid (HM_t16.out.below hb_)
  clear HM_t16
  have HM_t16 := HM_t16'
  clear HM_t16'
  have HM_t20' := Lib.hid (HM_t20.out.below hb_)
  clear HM_t20
  have HM_t20 := HM_t20'
  clear HM_t20'
  have HBL' := Lib.hid (below_step HBL.out hb_)
  clear HBL
  have HBL := HBL'
  clear HBL'
  obtain ⟨s26, hs26⟩ : ∃ s, w24.heap.size = s := ⟨_, rfl⟩
  have hls26 : s23 ≤ s26 := by have := hb_.size; omega
  have HM_w0 := Lib.hid (hm_.toIn (Nat.le_of_eq hs26))
  clear hm_ hb_
  have hsr : (eKernel (pKCopy x0 x1 x2 x3).1).sz ≤ 50000000 := bound_KCopy x0 x1 x2 x3 hsz0 hsz3
  have HXP_aK := HX_aK
  have hb_ : Below w24.heap.size w24 (w24.alloc (.cells #[.slice Ak25_0 nk25_0 pk25_0, .slice Ak25_1 nk25_1 pk25_1, .slice Ak25_2 nk25_2 pk25_2, .int .i64 ((pKCopy x0 x1 x2 x3).1.Calls), .slice Ak25_4 nk25_4 pk25_4] 35)) := (Below.refl _ _).alloc (Nat.le_refl _) _
  have hx_ : (w24.alloc (.cells #[.slice Ak25_0 nk25_0 pk25_0, .slice Ak25_1 nk25_1 pk25_1, .slice Ak25_2 nk25_2 pk25_2, .int .i64 ((pKCopy x0 x1 x2 x3).1.Calls), .slice Ak25_4 nk25_4 pk25_4] 35)).heap[s26]? = some (.cells #[.slice Ak25_0 nk25_0 pk25_0, .slice Ak25_1 nk25_1 pk25_1, .slice Ak25_2 nk25_2 pk25_2, .int .i64 ((pKCopy x0 x1 x2 x3).1.Calls), .slice Ak25_4 nk25_4 pk25_4] 35 (0, 0)) := by rw [← hs26]; exact heap_alloc_new _ _
  have hz_ : (w24.alloc (.cells #[.slice Ak25_0 nk25_0 pk25_0, .slice Ak25_1 nk25_1 pk25_1, .slice Ak25_2 nk25_2 pk25_2, .int .i64 ((pKCopy x0 x1 x2 x3).1.Calls), .slice Ak25_4 nk25_4 pk25_4] 35)).heap.size = s26 + 1 := by simp [hs26]
  obtain ⟨w27, HW_w27⟩ : ∃ z, (w24.alloc (.cells #[.slice Ak25_0 nk25_0 pk25_0, .slice Ak25_1 nk25_1 pk25_1, .slice Ak25_2 nk25_2 pk25_2, .int .i64 ((pKCopy x0 x1 x2 x3).1.Calls), .slice Ak25_4 nk25_4 pk25_4] 35)) = z := ⟨_, rfl⟩
  rw [HW_w27] at hb_ hx_ hz_
  have HX_aK' := Lib.hid ((hb_.block s0 (by omega)).trans HX_aK.out)
  clear HX_aK
  have HX_aK := HX_aK'
  clear HX_aK'
  have HM_t16' := Lib.hid (HM_t16.out.below hb_)
  clear HM_t16
  have HM_t16 := HM_t16'
  clear HM_t16'
  have HM_t20' := Lib.hid (HM_t20.out.below hb_)
  clear HM_t20
  have HM_t20 := HM_t20'
  clear HM_t20'
  have HM_w0' := Lib.hid (HM_w0.out.below hb_)
  clear HM_w0
  have HM_w0 := HM_w0'
  clear HM_w0'
  have HBL' := Lib.hid (below_step HBL.out hb_)
  clear HBL
  have HBL := HBL'
  clear HBL'
  have HX_w0 := Lib.hid hx_
  clear hx_
  obtain ⟨s28, hs28⟩ : ∃ s, w27.heap.size = s := ⟨_, rfl⟩
  have hls28 : s26 + 1 = s28 := by omega
  have HWE_w27 := Lib.hid HW_w27
  clear HW_w27 hb_ hz_
  have : s0 < s26 := by omega
  have : w24.cell? ⟨s0, 0, none⟩ = some (c0_0) := cell_of_block HXP_aK.out 0
  have : w24.cell? ⟨s0, 1, none⟩ = some (c0_1) := cell_of_block HXP_aK.out 1
  have : w24.cell? ⟨s0, 2, none⟩ = some (c0_2) := cell_of_block HXP_aK.out 2
  have : w24.cell? ⟨s0, 3, none⟩ = some (.int .i64 x0.Calls) := cell_of_block HXP_aK.out 3
  have : w24.cell? ⟨s0, 4, none⟩ = some (c0_4) := cell_of_block HXP_aK.out 4
  have hc29 : w27.cell? ⟨s0, 0, none⟩ = some (c0_0) := cell_of_block HX_aK.out 0
  have hc30 : w27.cell? ⟨s0, 1, none⟩ = some (c0_1) := cell_of_block HX_aK.out 1
  have hc31 : w27.cell? ⟨s0, 2, none⟩ = some (c0_2) := cell_of_block HX_aK.out 2
  have hc32 : w27.cell? ⟨s0, 3, none⟩ = some (.int .i64 x0.Calls) := cell_of_block HX_aK.out 3
  have hc33 : w27.cell? ⟨s0, 4, none⟩ = some (c0_4) := cell_of_block HX_aK.out 4
  go_wp2_with fail
  rw [HWE_w27.out]
  clear HWE_w27 HXP_aK
  refine (h_toKernel x0 c0_0 c0_1 c0_2 c0_4 w27 (raw_below HBL.out _ HR0.out) (by omega)).mono ?_
  rintro e w34 ⟨u_, rfl, hm_, hb_⟩
  have hsh_ := hm_
  obtain ⟨bs_, hsh_, _⟩ := hsh_
  obtain ⟨Ak35_0, nk35_0, pk35_0, Ak35_1, nk35_1, pk35_1, Ak35_2, nk35_2, pk35_2, Ak35_4, nk35_4, pk35_4, rfl⟩ := sinv_Kernel hsh_
  clear hsh_
  rw [hs28] at hm_
  have HX_aK' := Lib.hid ((hb_.block s0 (by omega)).trans HX_aK.out)
  clear HX_aK
  have HX_aK := HX_aK'
  clear HX_aK'
  have HX_w0' := Lib.hid ((hb_.block s26 (by omega)).trans HX_w0.out)
  clear HX_w0
  have HX_w0 := HX_w0'
  clear HX_w0'
  have HM_t16' := Lib.hid (HM_t16.out.below hb_)
  clear HM_t16
  have HM_t16 := HM_t16'
  clear HM_t16'
  have HM_t20' := Lib.hid (HM_t20.out.below hb_)
  clear HM_t20
  have HM_t20 := HM_t20'
  clear HM_t20'
  have HM_w0' := Lib.hid (HM_w0.out.below hb_)
  clear HM_w0
  have HM_w0 := HM_w0'
  clear HM_w0'
  have HBL' := Lib.hid (below_step HBL.out hb_)
  clear HBL
  have HBL := HBL'
  clear HBL'
  obtain ⟨s36, hs36⟩ : ∃ s, w34.heap.size = s := ⟨_, rfl⟩
  have hls36 : s28 ≤ s36 := by have := hb_.size; omega
  have HM_x0 := Lib.hid (hm_.toIn (Nat.le_of_eq hs36))
  clear hm_ hb_
  have HXP_aK := HX_aK
  have HXP_w0 := HX_w0
  have hb_ : Below w34.heap.size w34 (w34.alloc (.cells #[.slice Ak35_0 nk35_0 pk35_0, .slice Ak35_1 nk35_1 pk35_1, .slice Ak35_2 nk35_2 pk35_2, .int .i64 x0.Calls, .slice Ak35_4 nk35_4 pk35_4] 35)) := (Below.refl _ _).alloc (Nat.le_refl _) _
  have hx_ : (w34.alloc (.cells #[.slice Ak35_0 nk35_0 pk35_0, .slice Ak35_1 nk35_1 pk35_1, .slice Ak35_2 nk35_2 pk35_2, .int .i64 x0.Calls, .slice Ak35_4 nk35_4 pk35_4] 35)).heap[s36]? = some (.cells #[.slice Ak35_0 nk35_0 pk35_0, .slice Ak35_1 nk35_1 pk35_1, .slice Ak35_2 nk35_2 pk35_2, .int .i64 x0.Calls, .slice Ak35_4 nk35_4 pk35_4] 35 (0, 0)) := by rw [← hs36]; exact heap_alloc_new _ _
  have hz_ : (w34.alloc (.cells #[.slice Ak35_0 nk35_0 pk35_0, .slice Ak35_1 nk35_1 pk35_1, .slice Ak35_2 nk35_2 pk35_2, .int .i64 x0.Calls, .slice Ak35_4 nk35_4 pk35_4] 35)).heap.size = s36 + 1 := by simp [hs36]
  obtain ⟨w37, HW_w37⟩ : ∃ z, (w34.alloc (.cells #[.slice Ak35_0 nk35_0 pk35_0, .slice Ak35_1 nk35_1 pk35_1, .slice Ak35_2 nk35_2 pk35_2, .int .i64 x0.Calls, .slice Ak35_4 nk35_4 pk35_4] 35)) = z := ⟨_, rfl⟩
  rw [HW_w37] at hb_ hx_ hz_
  have HX_aK' := Lib.hid ((hb_.block s0 (by omega)).trans HX_aK.out)
  clear HX_aK
  have HX_aK := HX_aK'
  clear HX_aK'
  have HX_w0' := Lib.hid ((hb_.block s26 (by omega)).trans HX_w0.out)
  clear HX_w0
  have HX_w0 := HX_w0'
  clear HX_w0'
  have HM_t16' := Lib.hid (HM_t16.out.below hb_)
  clear HM_t16
  have HM_t16 := HM_t16'
  clear HM_t16'
  have HM_t20' := Lib.hid (HM_t20.out.below hb_)
  clear HM_t20
  have HM_t20 := HM_t20'
  clear HM_t20'
  have HM_w0' := Lib.hid (HM_w0.out.below hb_)
  clear HM_w0
  have HM_w0 := HM_w0'
  clear HM_w0'
  have HM_x0' := Lib.hid (HM_x0.out.below hb_)
  clear HM_x0
  have HM_x0 := HM_x0'
  clear HM_x0'
  have HBL' := Lib.hid (below_step HBL.out hb_)
  clear HBL
  have HBL := HBL'
  clear HBL'
  have HX_x0 := Lib.hid hx_
  clear hx_
  obtain ⟨s38, hs38⟩ : ∃ s, w37.heap.size = s := ⟨_, rfl⟩
  have hls38 : s36 + 1 = s38 := by omega
  have HWE_w37 := Lib.hid HW_w37
  clear HW_w37 hb_ hz_
  go_wp2_with fail
  rw [HWE_w37.out]
  clear HWE_w37 HXP_aK HXP_w0
  refine (h_toIntS x3 (.slice Al3 x3.length pl3) w37 (raw_below HBL.out _ HR3.out) (by omega)).mono ?_
  rintro e w39 ⟨u_, rfl, hm_, hb_⟩
  have hsh_ := hm_
  obtain ⟨bs_, hsh_, _⟩ := hsh_
  obtain ⟨Ak40, nk40, pk40, rfl⟩ := own_slice hsh_
  clear hsh_
  rw [hs38] at hm_
  have HX_aK' := Lib.hid ((hb_.block s0 (by omega)).trans HX_aK.out)
  clear HX_aK
  have HX_aK := HX_aK'
  clear HX_aK'
  have HX_w0' := Lib.hid ((hb_.block s26 (by omega)).trans HX_w0.out)
  clear HX_w0
  have HX_w0 := HX_w0'
  clear HX_w0'
  have HX_x0' := Lib.hid ((hb_.block s36 (by omega)).trans HX_x0.out)
  clear HX_x0
  have HX_x0 := HX_x0'
  clear HX_x0'
  have HM_t16' := Lib.hid (HM_t16.out.below hb_)
  clear HM_t16
  have HM_t16 := HM_t16'
  clear HM_t16'
  have HM_t20' := Lib.hid (HM_t20.out.below hb_)
  clear HM_t20
  have HM_t20 := HM_t20'
  clear HM_t20'
  have HM_w0' := Lib.hid (HM_w0.out.below hb_)
  clear HM_w0
  have HM_w0 := HM_w0'
  clear HM_w0'
  have HM_x0' := Lib.hid (HM_x0.out.below hb_)
  clear HM_x0
  have HM_x0 := HM_x0'
  clear HM_x0'
  have HBL' := Lib.hid (below_step HBL.out hb_)
  clear HBL
  have HBL := HBL'
  clear HBL'
  obtain ⟨s41, hs41⟩ : ∃ s, w39.heap.size = s := ⟨_, rfl⟩
  have hls41 : s38 ≤ s41 := by have := hb_.size; omega
  have HM_x3 := Lib.hid (hm_.toIn (Nat.le_of_eq hs41))
  clear hm_ hb_
  have hc42 : w39.cell? ⟨s36, 0, none⟩ = some (.slice Ak35_0 nk35_0 pk35_0) := cell_of_block HX_x0.out 0
  have hc43 : w39.cell? ⟨s36, 1, none⟩ = some (.slice Ak35_1 nk35_1 pk35_1) := cell_of_block HX_x0.out 1
  have hc44 : w39.cell? ⟨s36, 2, none⟩ = some (.slice Ak35_2 nk35_2 pk35_2) := cell_of_block HX_x0.out 2
  have hc45 : w39.cell? ⟨s36, 3, none⟩ = some (.int .i64 x0.Calls) := cell_of_block HX_x0.out 3
  have hc46 : w39.cell? ⟨s36, 4, none⟩ = some (.slice Ak35_4 nk35_4 pk35_4) := cell_of_block HX_x0.out 4
  go_wp2_with fail
  refine (impl_KCopy x0 (.slice Ak35_0 nk35_0 pk35_0) (.slice Ak35_1 nk35_1 pk35_1) (.slice Ak35_2 nk35_2 pk35_2) (.slice Ak35_4 nk35_4 pk35_4) x1 x2 x3 (.slice Ak40 nk40 pk40) w39 HM_x0.out.rd HM_x3.out.rd hsz0 hsz3 hw1 hw2).mono ?_
  rintro e w47 ⟨u_, rfl, hm_, hb_⟩
  have hsh_ := hm_
  obtain ⟨bs_, hsh_, _⟩ := hsh_
  obtain ⟨Ak48_0, nk48_0, pk48_0, Ak48_1, nk48_1, pk48_1, Ak48_2, nk48_2, pk48_2, Ak48_4, nk48_4, pk48_4, rfl⟩ := sinv_Kernel hsh_
  clear hsh_
  rw [hs41] at hm_
  have HX_aK' := Lib.hid ((hb_.block s0 (by omega)).trans HX_aK.out)
  clear HX_aK
  have HX_aK := HX_aK'
  clear HX_aK'
  have HX_w0' := Lib.hid ((hb_.block s26 (by omega)).trans HX_w0.out)
  clear HX_w0
  have HX_w0 := HX_w0'
  clear HX_w0'
  have HX_x0' := Lib.hid ((hb_.block s36 (by omega)).trans HX_x0.out)
  clear HX_x0
  have HX_x0 := HX_x0'
  clear HX_x0'
  have HM_t16' := Lib.hid (HM_t16.out.below hb_)
  clear HM_t16
  have HM_t16 := HM_t16'
  clear HM_t16'
  have HM_t20' := Lib.hid (HM_t20.out.below hb_)
  clear HM_t20
  have HM_t20 := HM_t20'
  clear HM_t20'
  have HM_w0' := Lib.hid (HM_w0.out.below hb_)
  clear HM_w0
  have HM_w0 := HM_w0'
  clear HM_w0'
  have HM_x0' := Lib.hid (HM_x0.out.below hb_)
  clear HM_x0
  have HM_x0 := HM_x0'
  clear HM_x0'
  have HM_x3' := Lib.hid (HM_x3.out.below hb_)
  clear HM_x3
  have HM_x3 := HM_x3'
  clear HM_x3'
  have HBL' := Lib.hid (below_step HBL.out hb_)
  clear HBL
  have HBL := HBL'
  clear HBL'
  obtain ⟨s49, hs49⟩ : ∃ s, w47.heap.size = s := ⟨_, rfl⟩
  have hls49 : s41 ≤ s49 := by have := hb_.size; omega
  have HM_g0 := Lib.hid (hm_.toIn (Nat.le_of_eq hs49))
  clear hm_ hb_
  have HXP_aK := HX_aK
  have HXP_w0 := HX_w0
  have HXP_x0 := HX_x0
  have hb_ : Below w47.heap.size w47 (w47.alloc (.cells #[.slice Ak48_0 nk48_0 pk48_0, .slice Ak48_1 nk48_1 pk48_1, .slice Ak48_2 nk48_2 pk48_2, .int .i64 ((pKCopy x0 x1 x2 x3).1.Calls), .slice Ak48_4 nk48_4 pk48_4] 35)) := (Below.refl _ _).alloc (Nat.le_refl _) _
  have hx_ : (w47.alloc (.cells #[.slice Ak48_0 nk48_0 pk48_0, .slice Ak48_1 nk48_1 pk48_1, .slice Ak48_2 nk48_2 pk48_2, .int .i64 ((pKCopy x0 x1 x2 x3).1.Calls), .slice Ak48_4 nk48_4 pk48_4] 35)).heap[s49]? = some (.cells #[.slice Ak48_0 nk48_0 pk48_0, .slice Ak48_1 nk48_1 pk48_1, .slice Ak48_2 nk48_2 pk48_2, .int .i64 ((pKCopy x0 x1 x2 x3).1.Calls), .slice Ak48_4 nk48_4 pk48_4] 35 (0, 0)) := by rw [← hs49]; exact heap_alloc_new _ _
  have hz_ : (w47.alloc (.cells #[.slice Ak48_0 nk48_0 pk48_0, .slice Ak48_1 nk48_1 pk48_1, .slice Ak48_2 nk48_2 pk48_2, .int .i64 ((pKCopy x0 x1 x2 x3).1.Calls), .slice Ak48_4 nk48_4 pk48_4] 35)).heap.size = s49 + 1 := by simp [hs49]
  obtain ⟨w50, HW_w50⟩ : ∃ z, (w47.alloc (.cells #[.slice Ak48_0 nk48_0 pk48_0, .slice Ak48_1 nk48_1 pk48_1, .slice Ak48_2 nk48_2 pk48_2, .int .i64 ((pKCopy x0 x1 x2 x3).1.Calls), .slice Ak48_4 nk48_4 pk48_4] 35)) = z := ⟨_, rfl⟩
  rw [HW_w50] at hb_ hx_ hz_
  have HX_aK' := Lib.hid ((hb_.block s0 (by omega)).trans HX_aK.out)
  clear HX_aK
  have HX_aK := HX_aK'
  clear HX_aK'
  have HX_w0' := Lib.hid ((hb_.block s26 (by omega)).trans HX_w0.out)
  clear HX_w0
  have HX_w0 := HX_w0'
  clear HX_w0'
  have HX_x0' := Lib.hid ((hb_.block s36 (by omega)).trans HX_x0.out)
  clear HX_x0
  have HX_x0 := HX_x0'
  clear HX_x0'
  have HM_t16' := Lib.hid (HM_t16.out.below hb_)
  clear HM_t16
  have HM_t16 := HM_t16'
  clear HM_t16'
  have HM_t20' := Lib.hid (HM_t20.out.below hb_)
  clear HM_t20
  have HM_t20 := HM_t20'
  clear HM_t20'
  have HM_w0' := Lib.hid (HM_w0.out.below hb_)
  clear HM_w0
  have HM_w0 := HM_w0'
  clear HM_w0'
  have HM_x0' := Lib.hid (HM_x0.out.below hb_)
  clear HM_x0
  have HM_x0 := HM_x0'
  clear HM_x0'
  have HM_x3' := Lib.hid (HM_x3.out.below hb_)
  clear HM_x3
  have HM_x3 := HM_x3'
  clear HM_x3'
  have HM_g0' := Lib.hid (HM_g0.out.below hb_)
  clear HM_g0
  have HM_g0 := HM_g0'
  clear HM_g0'
  have HBL' := Lib.hid (below_step HBL.out hb_)
  clear HBL
  have HBL := HBL'
  clear HBL'
  have HX_g0 := Lib.hid hx_
  clear hx_
  obtain ⟨s51, hs51⟩ : ∃ s, w50.heap.size = s := ⟨_, rfl⟩
  have hls51 : s49 + 1 = s51 := by omega
  have HWE_w50 := Lib.hid HW_w50
  clear HW_w50 hb_ hz_
  have hc52 : w50.cell? ⟨s49, 0, none⟩ = some (.slice Ak48_0 nk48_0 pk48_0) := cell_of_block HX_g0.out 0
  have hc53 : w50.cell? ⟨s49, 1, none⟩ = some (.slice Ak48_1 nk48_1 pk48_1) := cell_of_block HX_g0.out 1
  have hc54 : w50.cell? ⟨s49, 2, none⟩ = some (.slice Ak48_2 nk48_2 pk48_2) := cell_of_block HX_g0.out 2
  have hc55 : w50.cell? ⟨s49, 3, none⟩ = some (.int .i64 ((pKCopy x0 x1 x2 x3).1.Calls)) := cell_of_block HX_g0.out 3
  have hc56 : w50.cell? ⟨s49, 4, none⟩ = some (.slice Ak48_4 nk48_4 pk48_4) := cell_of_block HX_g0.out 4
  have : s26 < s49 := by omega
  have : w47.cell? ⟨s26, 0, none⟩ = some (.slice Ak25_0 nk25_0 pk25_0) := cell_of_block HXP_w0.out 0
  have : w47.cell? ⟨s26, 1, none⟩ = some (.slice Ak25_1 nk25_1 pk25_1) := cell_of_block HXP_w0.out 1
  have : w47.cell? ⟨s26, 2, none⟩ = some (.slice Ak25_2 nk25_2 pk25_2) := cell_of_block HXP_w0.out 2
  have : w47.cell? ⟨s26, 3, none⟩ = some (.int .i64 ((pKCopy x0 x1 x2 x3).1.Calls)) := cell_of_block HXP_w0.out 3
  have : w47.cell? ⟨s26, 4, none⟩ = some (.slice Ak25_4 nk25_4 pk25_4) := cell_of_block HXP_w0.out 4
  have hc57 : w50.cell? ⟨s26, 0, none⟩ = some (.slice Ak25_0 nk25_0 pk25_0) := cell_of_block HX_w0.out 0
  have hc58 : w50.cell? ⟨s26, 1, none⟩ = some (.slice Ak25_1 nk25_1 pk25_1) := cell_of_block HX_w0.out 1
  have hc59 : w50.cell? ⟨s26, 2, none⟩ = some (.slice Ak25_2 nk25_2 pk25_2) := cell_of_block HX_w0.out 2
  have hc60 : w50.cell? ⟨s26, 3, none⟩ = some (.int .i64 ((pKCopy x0 x1 x2 x3).1.Calls)) := cell_of_block HX_w0.out 3
  have hc61 : w50.cell? ⟨s26, 4, none⟩ = some (.slice Ak25_4 nk25_4 pk25_4) := cell_of_block HX_w0.out 4
  go_wp2_with fail
  rw [HWE_w50.out]
  clear HWE_w50 HXP_aK HXP_w0 HXP_x0
  refine (h_eqKernel (pKCopy x0 x1 x2 x3).1 (.slice Ak48_0 nk48_0 pk48_0) (.slice Ak48_1 nk48_1 pk48_1) (.slice Ak48_2 nk48_2 pk48_2) (.slice Ak48_4 nk48_4 pk48_4) (.slice Ak25_0 nk25_0 pk25_0) (.slice Ak25_1 nk25_1 pk25_1) (.slice Ak25_2 nk25_2 pk25_2) (.slice Ak25_4 nk25_4 pk25_4) w50 HM_g0.out.rd HM_w0.out.rd (by omega)).mono ?_
  rintro e w62 ⟨rfl, hb_⟩
  have HX_aK' := Lib.hid ((hb_.block s0 (by omega)).trans HX_aK.out)
  clear HX_aK
  have HX_aK := HX_aK'
  clear HX_aK'
  have HX_w0' := Lib.hid ((hb_.block s26 (by omega)).trans HX_w0.out)
  clear HX_w0
  have HX_w0 := HX_w0'
  clear HX_w0'
  have HX_x0' := Lib.hid ((hb_.block s36 (by omega)).trans HX_x0.out)
  clear HX_x0
  have HX_x0 := HX_x0'
  clear HX_x0'
  have HX_g0' := Lib.hid ((hb_.block s49 (by omega)).trans HX_g0.out)
  clear HX_g0
  have HX_g0 := HX_g0'
  clear HX_g0'
  have HM_t16' := Lib.hid (HM_t16.out.below hb_)
  clear HM_t16
  have HM_t16 := HM_t16'
  clear HM_t16'
  have HM_t20' := Lib.hid (HM_t20.out.below hb_)
  clear HM_t20
  have HM_t20 := HM_t20'
  clear HM_t20'
  have HM_w0' := Lib.hid (HM_w0.out.below hb_)
  clear HM_w0
  have HM_w0 := HM_w0'
  clear HM_w0'
  have HM_x0' := Lib.hid (HM_x0.out.below hb_)
  clear HM_x0
  have HM_x0 := HM_x0'
  clear HM_x0'
  have HM_x3' := Lib.hid (HM_x3.out.below hb_)
  clear HM_x3
  have HM_x3 := HM_x3'
  clear HM_x3'
  have HM_g0' := Lib.hid (HM_g0.out.below hb_)
  clear HM_g0
  have HM_g0 := HM_g0'
  clear HM_g0'
  have HBL' := Lib.hid (below_step HBL.out hb_)
  clear HBL
  have HBL := HBL'
  clear HBL'
  obtain ⟨s63, hs63⟩ : ∃ s, w62.heap.size = s := ⟨_, rfl⟩
  have hls63 : s51 ≤ s63 := by have := hb_.size; omega
  clear hb_
  go_wp2_with fail
  have HT : Hid (∀ w', Below w62.heap.size w62 w' → Calls Try.prog 35 #[(.agg #[c0_0, c0_1, c0_2, .int .i64 x0.Calls, c0_4])] w' (fun e w'' => ∃ (A_0 : Option Addr) (n_0 p_0 : Nat) (A_1 : Option Addr) (n_1 p_1 : Nat) (A_2 : Option Addr) (n_2 p_2 : Nat) (A_4 : Option Addr) (n_4 p_4 : Nat), e = .returned (.agg #[.slice A_0 n_0 p_0, .slice A_1 n_1 p_1, .slice A_2 n_2 p_2, .int .i64 x0.Calls, .slice A_4 n_4 p_4]) ∧ Rd w'' (eKernel x0) [.slice A_0 n_0 p_0, .slice A_1 n_1 p_1, .slice A_2 n_2 p_2, .int .i64 x0.Calls, .slice A_4 n_4 p_4] ∧ Below w62.heap.size w62 w'')) := fun w' hb => (h_toKernel x0 c0_0 c0_1 c0_2 c0_4 w' (raw_below (below_step HBL.out hb) _ HR0.out) (by omega)).mono (by
    rintro e w'' ⟨u_, rfl, hm_, hb_⟩
    have hsh_ := hm_
    obtain ⟨bs_, hsh_, _⟩ := hsh_
    obtain ⟨A_0, n_0, p_0, A_1, n_1, p_1, A_2, n_2, p_2, A_4, n_4, p_4, rfl⟩ := sinv_Kernel hsh_
    exact ⟨A_0, n_0, p_0, A_1, n_1, p_1, A_2, n_2, p_2, A_4, n_4, p_4, rfl, hm_.rd, below_step hb hb_⟩)
  have HE : Hid (∀ w' (A_0 : Option Addr) (n_0 p_0 : Nat) (A_1 : Option Addr) (n_1 p_1 : Nat) (A_2 : Option Addr) (n_2 p_2 : Nat) (A_4 : Option Addr) (n_4 p_4 : Nat), Below w62.heap.size w62 w' → Rd w' (eKernel x0) [.slice A_0 n_0 p_0, .slice A_1 n_1 p_1, .slice A_2 n_2 p_2, .int .i64 x0.Calls, .slice A_4 n_4 p_4] → Calls Try.prog 28 #[(.agg #[.slice Ak35_0 nk35_0 pk35_0, .slice Ak35_1 nk35_1 pk35_1, .slice Ak35_2 nk35_2 pk35_2, .int .i64 x0.Calls, .slice Ak35_4 nk35_4 pk35_4]), (.agg #[.slice A_0 n_0 p_0, .slice A_1 n_1 p_1, .slice A_2 n_2 p_2, .int .i64 x0.Calls, .slice A_4 n_4 p_4])] w' (fun e w'' => e = .returned (.bool true) ∧ Below w62.heap.size w62 w'')) := fun w' A_0 n_0 p_0 A_1 n_1 p_1 A_2 n_2 p_2 A_4 n_4 p_4 hb hr => (h_eqKernel x0 (.slice Ak35_0 nk35_0 pk35_0) (.slice Ak35_1 nk35_1 pk35_1) (.slice Ak35_2 nk35_2 pk35_2) (.slice Ak35_4 nk35_4 pk35_4) (.slice A_0 n_0 p_0) (.slice A_1 n_1 p_1) (.slice A_2 n_2 p_2) (.slice A_4 n_4 p_4) w' (HM_x0.out.rd.below hb) hr (by omega)).mono (fun _ _ h => ⟨h.1, below_step hb h.2⟩)
  have hrf_ : Below w62.heap.size w62 w62.drew := (Below.refl _ _).drew
  have HK : Hid (∀ w', Below w62.heap.size w62 w' → w'.cell? ⟨s36, 0, none⟩ = some (.slice Ak35_0 nk35_0 pk35_0) ∧ w'.cell? ⟨s36, 1, none⟩ = some (.slice Ak35_1 nk35_1 pk35_1) ∧ w'.cell? ⟨s36, 2, none⟩ = some (.slice Ak35_2 nk35_2 pk35_2) ∧ w'.cell? ⟨s36, 3, none⟩ = some (.int .i64 x0.Calls) ∧ w'.cell? ⟨s36, 4, none⟩ = some (.slice Ak35_4 nk35_4 pk35_4) ∧ w'.cell? ⟨s0, 0, none⟩ = some (c0_0) ∧ w'.cell? ⟨s0, 1, none⟩ = some (c0_1) ∧ w'.cell? ⟨s0, 2, none⟩ = some (c0_2) ∧ w'.cell? ⟨s0, 3, none⟩ = some (.int .i64 x0.Calls) ∧ w'.cell? ⟨s0, 4, none⟩ = some (c0_4) ∧ Below w62.heap.size w62 w') := fun w' hb => ⟨cell_below hb (cell_of_block HX_x0.out 0), cell_below hb (cell_of_block HX_x0.out 1), cell_below hb (cell_of_block HX_x0.out 2), cell_below hb (cell_of_block HX_x0.out 3), cell_below hb (cell_of_block HX_x0.out 4), cell_below hb (cell_of_block HX_aK.out 0), cell_below hb (cell_of_block HX_aK.out 1), cell_below hb (cell_of_block HX_aK.out 2), cell_below hb (cell_of_block HX_aK.out 3), cell_below hb (cell_of_block HX_aK.out 4), hb⟩
  go_region_held3 (fun w' => w'.cell? ⟨s36, 0, none⟩ = some (.slice Ak35_0 nk35_0 pk35_0) ∧ w'.cell? ⟨s36, 1, none⟩ = some (.slice Ak35_1 nk35_1 pk35_1) ∧ w'.cell? ⟨s36, 2, none⟩ = some (.slice Ak35_2 nk35_2 pk35_2) ∧ w'.cell? ⟨s36, 3, none⟩ = some (.int .i64 x0.Calls) ∧ w'.cell? ⟨s36, 4, none⟩ = some (.slice Ak35_4 nk35_4 pk35_4) ∧ w'.cell? ⟨s0, 0, none⟩ = some (c0_0) ∧ w'.cell? ⟨s0, 1, none⟩ = some (c0_1) ∧ w'.cell? ⟨s0, 2, none⟩ = some (c0_2) ∧ w'.cell? ⟨s0, 3, none⟩ = some (.int .i64 x0.Calls) ∧ w'.cell? ⟨s0, 4, none⟩ = some (c0_4) ∧ Below w62.heap.size w62 w') (first | exact HK.out _ hrf_ | exact HK.out _ (by assumption)) (first | (go_at_call 35; refine (HT.out _ (by first | exact hrf_ | assumption)).mono ?_; rintro e wt_ ⟨A_0, n_0, p_0, A_1, n_1, p_1, A_2, n_2, p_2, A_4, n_4, p_4, rfl, hrt_, hbt_⟩) | (go_at_call 28; refine (HE.out _ _ _ _ _ _ _ _ _ _ _ _ _ (by first | exact hbt_ | assumption) (by first | exact hrt_ | assumption)).mono ?_; rintro e we_ ⟨rfl, hbe_⟩))
  obtain ⟨w64, hn_⟩ : ∃ z, we_ = z := ⟨_, rfl⟩
  rw [hn_] at hbe_
  rw [hn_]
  have HX_aK' := Lib.hid ((hbe_.block s0 (by omega)).trans HX_aK.out)
  clear HX_aK
  have HX_aK := HX_aK'
  clear HX_aK'
  have HX_w0' := Lib.hid ((hbe_.block s26 (by omega)).trans HX_w0.out)
  clear HX_w0
  have HX_w0 := HX_w0'
  clear HX_w0'
  have HX_x0' := Lib.hid ((hbe_.block s36 (by omega)).trans HX_x0.out)
  clear HX_x0
  have HX_x0 := HX_x0'
  clear HX_x0'
  have HX_g0' := Lib.hid ((hbe_.block s49 (by omega)).trans HX_g0.out)
  clear HX_g0
  have HX_g0 := HX_g0'
  clear HX_g0'
  have HM_t16' := Lib.hid (HM_t16.out.below hbe_)
  clear HM_t16
  have HM_t16 := HM_t16'
  clear HM_t16'
  have HM_t20' := Lib.hid (HM_t20.out.below hbe_)
  clear HM_t20
  have HM_t20 := HM_t20'
  clear HM_t20'
  have HM_w0' := Lib.hid (HM_w0.out.below hbe_)
  clear HM_w0
  have HM_w0 := HM_w0'
  clear HM_w0'
  have HM_x0' := Lib.hid (HM_x0.out.below hbe_)
  clear HM_x0
  have HM_x0 := HM_x0'
  clear HM_x0'
  have HM_x3' := Lib.hid (HM_x3.out.below hbe_)
  clear HM_x3
  have HM_x3 := HM_x3'
  clear HM_x3'
  have HM_g0' := Lib.hid (HM_g0.out.below hbe_)
  clear HM_g0
  have HM_g0 := HM_g0'
  clear HM_g0'
  have HBL' := Lib.hid (below_step HBL.out hbe_)
  clear HBL
  have HBL := HBL'
  clear HBL'
  obtain ⟨s65, hs65⟩ : ∃ s, w64.heap.size = s := ⟨_, rfl⟩
  have hls65 : s63 ≤ s65 := by have := hbe_.size; omega
  clear hbe_ hbt_ HT HE HK hrf_ hn_ hrt_
  go_wp2_with fail
  have HT : Hid (∀ w', Below w64.heap.size w64 w' → Calls Try.prog 27 #[((.slice Al3 x3.length pl3))] w' (fun e w'' => ∃ (A_0 : Option Addr) (n_0 p_0 : Nat), e = .returned (.slice A_0 n_0 p_0) ∧ Rd w'' (eIntS x3) [.slice A_0 n_0 p_0] ∧ Below w64.heap.size w64 w'')) := fun w' hb => (h_toIntS x3 (.slice Al3 x3.length pl3) w' (raw_below (below_step HBL.out hb) _ HR3.out) (by omega)).mono (by
    rintro e w'' ⟨u_, rfl, hm_, hb_⟩
    have hsh_ := hm_
    obtain ⟨bs_, hsh_, _⟩ := hsh_
    obtain ⟨A_0, n_0, p_0, rfl⟩ := own_slice hsh_
    exact ⟨A_0, n_0, p_0, rfl, hm_.rd, below_step hb hb_⟩)
  have HE : Hid (∀ w' (A_0 : Option Addr) (n_0 p_0 : Nat), Below w64.heap.size w64 w' → Rd w' (eIntS x3) [.slice A_0 n_0 p_0] → Calls Try.prog 29 #[(.slice Ak40 nk40 pk40), (.slice A_0 n_0 p_0)] w' (fun e w'' => e = .returned (.bool true) ∧ Below w64.heap.size w64 w'')) := fun w' A_0 n_0 p_0 hb hr => (h_eqIntS x3 (.slice Ak40 nk40 pk40) (.slice A_0 n_0 p_0) w' (HM_x3.out.rd.below hb) hr (by omega)).mono (fun _ _ h => ⟨h.1, below_step hb h.2⟩)
  have hrf_ : Below w64.heap.size w64 w64.drew := (Below.refl _ _).drew
  have HK : Hid (∀ w', Below w64.heap.size w64 w' → Below w64.heap.size w64 w') := fun w' hb => hb
  refine (HT.out _ (Below.refl _ _)).mono ?_
  rintro e wt_ ⟨A_0, n_0, p_0, rfl, hrt_, hbt_⟩
  go_wp2_with fail
  refine (HE.out _ _ _ _ (by first | exact hbt_ | assumption) (by first | exact hrt_ | assumption)).mono ?_
  rintro e we_ ⟨rfl, hbe_⟩
  obtain ⟨w66, hn_⟩ : ∃ z, we_ = z := ⟨_, rfl⟩
  rw [hn_] at hbe_
  rw [hn_]
  have HX_aK' := Lib.hid ((hbe_.block s0 (by omega)).trans HX_aK.out)
  clear HX_aK
  have HX_aK := HX_aK'
  clear HX_aK'
  have HX_w0' := Lib.hid ((hbe_.block s26 (by omega)).trans HX_w0.out)
  clear HX_w0
  have HX_w0 := HX_w0'
  clear HX_w0'
  have HX_x0' := Lib.hid ((hbe_.block s36 (by omega)).trans HX_x0.out)
  clear HX_x0
  have HX_x0 := HX_x0'
  clear HX_x0'
  have HX_g0' := Lib.hid ((hbe_.block s49 (by omega)).trans HX_g0.out)
  clear HX_g0
  have HX_g0 := HX_g0'
  clear HX_g0'
  have HM_t16' := Lib.hid (HM_t16.out.below hbe_)
  clear HM_t16
  have HM_t16 := HM_t16'
  clear HM_t16'
  have HM_t20' := Lib.hid (HM_t20.out.below hbe_)
  clear HM_t20
  have HM_t20 := HM_t20'
  clear HM_t20'
  have HM_w0' := Lib.hid (HM_w0.out.below hbe_)
  clear HM_w0
  have HM_w0 := HM_w0'
  clear HM_w0'
  have HM_x0' := Lib.hid (HM_x0.out.below hbe_)
  clear HM_x0
  have HM_x0 := HM_x0'
  clear HM_x0'
  have HM_x3' := Lib.hid (HM_x3.out.below hbe_)
  clear HM_x3
  have HM_x3 := HM_x3'
  clear HM_x3'
  have HM_g0' := Lib.hid (HM_g0.out.below hbe_)
  clear HM_g0
  have HM_g0 := HM_g0'
  clear HM_g0'
  have HBL' := Lib.hid (below_step HBL.out hbe_)
  clear HBL
  have HBL := HBL'
  clear HBL'
  obtain ⟨s67, hs67⟩ : ∃ s, w66.heap.size = s := ⟨_, rfl⟩
  have hls67 : s65 ≤ s67 := by have := hbe_.size; omega
  clear hbe_ hbt_ HT HE HK hrf_ hn_ hrt_
  have hc68 : w66.cell? ⟨s36, 0, none⟩ = some (.slice Ak35_0 nk35_0 pk35_0) := cell_of_block HX_x0.out 0
  have hc69 : w66.cell? ⟨s36, 1, none⟩ = some (.slice Ak35_1 nk35_1 pk35_1) := cell_of_block HX_x0.out 1
  have hc70 : w66.cell? ⟨s36, 2, none⟩ = some (.slice Ak35_2 nk35_2 pk35_2) := cell_of_block HX_x0.out 2
  have hc71 : w66.cell? ⟨s36, 3, none⟩ = some (.int .i64 x0.Calls) := cell_of_block HX_x0.out 3
  have hc72 : w66.cell? ⟨s36, 4, none⟩ = some (.slice Ak35_4 nk35_4 pk35_4) := cell_of_block HX_x0.out 4
  go_wp2_with fail
  have hcb := cntb_Kernel (x0)
  have hct := cntTop_le (eKernel x0)
  refine (mark_in HM_x0.out (fun bs_ ho_ hn_ => h_markKernel (x0) (.slice Ak35_0 nk35_0 pk35_0) (.slice Ak35_1 nk35_1 pk35_1) (.slice Ak35_2 nk35_2 pk35_2) (.slice Ak35_4 nk35_4 pk35_4) bs_ 1 w66 ho_ hn_ (by omega) (by omega))).mono ?_
  rintro e w73 ⟨rfl, hm_, ht_⟩
  obtain ⟨k74, hkk74⟩ : ∃ q : Nat, 1 + (eKernel x0).cntTop = q := ⟨_, rfl⟩
  rw [hkk74]
  have HKk74 := Lib.hid hkk74
  clear hcb hct hkk74 
  have HX_aK' := Lib.hid ((ht_.block s0 (by omega) (by omega)).trans HX_aK.out)
  clear HX_aK
  have HX_aK := HX_aK'
  clear HX_aK'
  have HX_w0' := Lib.hid ((ht_.block s26 (by omega) (by omega)).trans HX_w0.out)
  clear HX_w0
  have HX_w0 := HX_w0'
  clear HX_w0'
  have HX_x0' := Lib.hid ((ht_.block s36 (by omega) (by omega)).trans HX_x0.out)
  clear HX_x0
  have HX_x0 := HX_x0'
  clear HX_x0'
  have HX_g0' := Lib.hid ((ht_.block s49 (by omega) (by omega)).trans HX_g0.out)
  clear HX_g0
  have HX_g0 := HX_g0'
  clear HX_g0'
  have HM_t16' := Lib.hid (HM_t16.out.turn ht_ (by omega))
  clear HM_t16
  have HM_t16 := HM_t16'
  clear HM_t16'
  have HM_t20' := Lib.hid (HM_t20.out.turn ht_ (by omega))
  clear HM_t20
  have HM_t20 := HM_t20'
  clear HM_t20'
  have HM_w0' := Lib.hid (HM_w0.out.turn ht_ (by omega))
  clear HM_w0
  have HM_w0 := HM_w0'
  clear HM_w0'
  have HM_x3' := Lib.hid (HM_x3.out.turn ht_ (by omega))
  clear HM_x3
  have HM_x3 := HM_x3'
  clear HM_x3'
  have HM_g0' := Lib.hid (HM_g0.out.turn ht_ (by omega))
  clear HM_g0
  have HM_g0 := HM_g0'
  clear HM_g0'
  clear HM_x0
  have HM_x0 := Lib.hid hm_
  have HBL' := Lib.hid (HBL.out.trans (ht_.below (B := w.heap.size) (by omega) (by omega)))
  clear HBL
  have HBL := HBL'
  clear HBL'
  obtain ⟨s75, hs75⟩ : ∃ s, w73.heap.size = s := ⟨_, rfl⟩
  have hls75 : s67 ≤ s75 := by have := ht_.size; omega
  clear hm_ ht_
  go_wp2_with fail
  have hcb := cntb_IntS (x3)
  have hct := cntTop_le (eIntS x3)
  have hkk0_0 := HKk74.out
  have hcb0_0 := cntb_Kernel (x0)
  have hct0_0 := cntTop_le (eKernel x0)
  refine (mark_in HM_x3.out (fun bs_ ho_ hn_ => h_markIntS (x3) _ _ _ bs_ k74 w73 ho_ hn_ (by omega) (by omega))).mono ?_
  rintro e w76 ⟨rfl, hm_, ht_⟩
  obtain ⟨k77, hkk77⟩ : ∃ q : Nat, k74 + (eIntS x3).cntTop = q := ⟨_, rfl⟩
  rw [hkk77]
  have HKk77 := Lib.hid hkk77
  clear hcb hct hkk77 hkk0_0 hcb0_0 hct0_0
  have HX_aK' := Lib.hid ((ht_.block s0 (by omega) (by omega)).trans HX_aK.out)
  clear HX_aK
  have HX_aK := HX_aK'
  clear HX_aK'
  have HX_w0' := Lib.hid ((ht_.block s26 (by omega) (by omega)).trans HX_w0.out)
  clear HX_w0
  have HX_w0 := HX_w0'
  clear HX_w0'
  have HX_x0' := Lib.hid ((ht_.block s36 (by omega) (by omega)).trans HX_x0.out)
  clear HX_x0
  have HX_x0 := HX_x0'
  clear HX_x0'
  have HX_g0' := Lib.hid ((ht_.block s49 (by omega) (by omega)).trans HX_g0.out)
  clear HX_g0
  have HX_g0 := HX_g0'
  clear HX_g0'
  have HM_t16' := Lib.hid (HM_t16.out.turn ht_ (by omega))
  clear HM_t16
  have HM_t16 := HM_t16'
  clear HM_t16'
  have HM_t20' := Lib.hid (HM_t20.out.turn ht_ (by omega))
  clear HM_t20
  have HM_t20 := HM_t20'
  clear HM_t20'
  have HM_w0' := Lib.hid (HM_w0.out.turn ht_ (by omega))
  clear HM_w0
  have HM_w0 := HM_w0'
  clear HM_w0'
  have HM_x0' := Lib.hid (HM_x0.out.turn ht_ (by omega))
  clear HM_x0
  have HM_x0 := HM_x0'
  clear HM_x0'
  have HM_g0' := Lib.hid (HM_g0.out.turn ht_ (by omega))
  clear HM_g0
  have HM_g0 := HM_g0'
  clear HM_g0'
  clear HM_x3
  have HM_x3 := Lib.hid hm_
  have HBL' := Lib.hid (HBL.out.trans (ht_.below (B := w.heap.size) (by omega) (by omega)))
  clear HBL
  have HBL := HBL'
  clear HBL'
  obtain ⟨s78, hs78⟩ : ∃ s, w76.heap.size = s := ⟨_, rfl⟩
  have hls78 : s75 ≤ s78 := by have := ht_.size; omega
  clear hm_ ht_
  have hc79 : w76.cell? ⟨s49, 0, none⟩ = some (.slice Ak48_0 nk48_0 pk48_0) := cell_of_block HX_g0.out 0
  have hc80 : w76.cell? ⟨s49, 1, none⟩ = some (.slice Ak48_1 nk48_1 pk48_1) := cell_of_block HX_g0.out 1
  have hc81 : w76.cell? ⟨s49, 2, none⟩ = some (.slice Ak48_2 nk48_2 pk48_2) := cell_of_block HX_g0.out 2
  have hc82 : w76.cell? ⟨s49, 3, none⟩ = some (.int .i64 ((pKCopy x0 x1 x2 x3).1.Calls)) := cell_of_block HX_g0.out 3
  have hc83 : w76.cell? ⟨s49, 4, none⟩ = some (.slice Ak48_4 nk48_4 pk48_4) := cell_of_block HX_g0.out 4
  have hc84 : w76.cell? ⟨s26, 0, none⟩ = some (.slice Ak25_0 nk25_0 pk25_0) := cell_of_block HX_w0.out 0
  have hc85 : w76.cell? ⟨s26, 1, none⟩ = some (.slice Ak25_1 nk25_1 pk25_1) := cell_of_block HX_w0.out 1
  have hc86 : w76.cell? ⟨s26, 2, none⟩ = some (.slice Ak25_2 nk25_2 pk25_2) := cell_of_block HX_w0.out 2
  have hc87 : w76.cell? ⟨s26, 3, none⟩ = some (.int .i64 ((pKCopy x0 x1 x2 x3).1.Calls)) := cell_of_block HX_w0.out 3
  have hc88 : w76.cell? ⟨s26, 4, none⟩ = some (.slice Ak25_4 nk25_4 pk25_4) := cell_of_block HX_w0.out 4
  go_wp2_with fail
  refine (h_eqKernel (pKCopy x0 x1 x2 x3).1 (.slice Ak48_0 nk48_0 pk48_0) (.slice Ak48_1 nk48_1 pk48_1) (.slice Ak48_2 nk48_2 pk48_2) (.slice Ak48_4 nk48_4 pk48_4) (.slice Ak25_0 nk25_0 pk25_0) (.slice Ak25_1 nk25_1 pk25_1) (.slice Ak25_2 nk25_2 pk25_2) (.slice Ak25_4 nk25_4 pk25_4) w76 HM_g0.out.rd HM_w0.out.rd (by omega)).mono ?_
  rintro e w89 ⟨rfl, hb_⟩
  have HX_aK' := Lib.hid ((hb_.block s0 (by omega)).trans HX_aK.out)
  clear HX_aK
  have HX_aK := HX_aK'
  clear HX_aK'
  have HX_w0' := Lib.hid ((hb_.block s26 (by omega)).trans HX_w0.out)
  clear HX_w0
  have HX_w0 := HX_w0'
  clear HX_w0'
  have HX_x0' := Lib.hid ((hb_.block s36 (by omega)).trans HX_x0.out)
  clear HX_x0
  have HX_x0 := HX_x0'
  clear HX_x0'
  have HX_g0' := Lib.hid ((hb_.block s49 (by omega)).trans HX_g0.out)
  clear HX_g0
  have HX_g0 := HX_g0'
  clear HX_g0'
  have HM_t16' := Lib.hid (HM_t16.out.below hb_)
  clear HM_t16
  have HM_t16 := HM_t16'
  clear HM_t16'
  have HM_t20' := Lib.hid (HM_t20.out.below hb_)
  clear HM_t20
  have HM_t20 := HM_t20'
  clear HM_t20'
  have HM_w0' := Lib.hid (HM_w0.out.below hb_)
  clear HM_w0
  have HM_w0 := HM_w0'
  clear HM_w0'
  have HM_x0' := Lib.hid (HM_x0.out.below hb_)
  clear HM_x0
  have HM_x0 := HM_x0'
  clear HM_x0'
  have HM_x3' := Lib.hid (HM_x3.out.below hb_)
  clear HM_x3
  have HM_x3 := HM_x3'
  clear HM_x3'
  have HM_g0' := Lib.hid (HM_g0.out.below hb_)
  clear HM_g0
  have HM_g0 := HM_g0'
  clear HM_g0'
  have HBL' := Lib.hid (below_step HBL.out hb_)
  clear HBL
  have HBL := HBL'
  clear HBL'
  obtain ⟨s90, hs90⟩ : ∃ s, w89.heap.size = s := ⟨_, rfl⟩
  have hls90 : s78 ≤ s90 := by have := hb_.size; omega
  clear hb_
  have hc91 : w89.cell? ⟨s49, 0, none⟩ = some (.slice Ak48_0 nk48_0 pk48_0) := cell_of_block HX_g0.out 0
  have hc92 : w89.cell? ⟨s49, 1, none⟩ = some (.slice Ak48_1 nk48_1 pk48_1) := cell_of_block HX_g0.out 1
  have hc93 : w89.cell? ⟨s49, 2, none⟩ = some (.slice Ak48_2 nk48_2 pk48_2) := cell_of_block HX_g0.out 2
  have hc94 : w89.cell? ⟨s49, 3, none⟩ = some (.int .i64 ((pKCopy x0 x1 x2 x3).1.Calls)) := cell_of_block HX_g0.out 3
  have hc95 : w89.cell? ⟨s49, 4, none⟩ = some (.slice Ak48_4 nk48_4 pk48_4) := cell_of_block HX_g0.out 4
  go_wp2_with fail
  have hcb := cntb_Kernel (pKCopy x0 x1 x2 x3).1
  have hct := cntTop_le (eKernel (pKCopy x0 x1 x2 x3).1)
  refine (mark_in HM_g0.out (fun bs_ ho_ hn_ => h_markKernel (pKCopy x0 x1 x2 x3).1 (.slice Ak48_0 nk48_0 pk48_0) (.slice Ak48_1 nk48_1 pk48_1) (.slice Ak48_2 nk48_2 pk48_2) (.slice Ak48_4 nk48_4 pk48_4) bs_ 1 w89 ho_ hn_ (by omega) (by omega))).mono ?_
  rintro e w96 ⟨rfl, hm_, ht_⟩
  obtain ⟨k97, hkk97⟩ : ∃ q : Nat, 1 + (eKernel (pKCopy x0 x1 x2 x3).1).cntTop = q := ⟨_, rfl⟩
  rw [hkk97]
  have HKk97 := Lib.hid hkk97
  clear hcb hct hkk97 
  have HX_aK' := Lib.hid ((ht_.block s0 (by omega) (by omega)).trans HX_aK.out)
  clear HX_aK
  have HX_aK := HX_aK'
  clear HX_aK'
  have HX_w0' := Lib.hid ((ht_.block s26 (by omega) (by omega)).trans HX_w0.out)
  clear HX_w0
  have HX_w0 := HX_w0'
  clear HX_w0'
  have HX_x0' := Lib.hid ((ht_.block s36 (by omega) (by omega)).trans HX_x0.out)
  clear HX_x0
  have HX_x0 := HX_x0'
  clear HX_x0'
  have HX_g0' := Lib.hid ((ht_.block s49 (by omega) (by omega)).trans HX_g0.out)
  clear HX_g0
  have HX_g0 := HX_g0'
  clear HX_g0'
  have HM_t16' := Lib.hid (HM_t16.out.turn ht_ (by omega))
  clear HM_t16
  have HM_t16 := HM_t16'
  clear HM_t16'
  have HM_t20' := Lib.hid (HM_t20.out.turn ht_ (by omega))
  clear HM_t20
  have HM_t20 := HM_t20'
  clear HM_t20'
  have HM_w0' := Lib.hid (HM_w0.out.turn ht_ (by omega))
  clear HM_w0
  have HM_w0 := HM_w0'
  clear HM_w0'
  have HM_x0' := Lib.hid (HM_x0.out.turn ht_ (by omega))
  clear HM_x0
  have HM_x0 := HM_x0'
  clear HM_x0'
  have HM_x3' := Lib.hid (HM_x3.out.turn ht_ (by omega))
  clear HM_x3
  have HM_x3 := HM_x3'
  clear HM_x3'
  clear HM_g0
  have HM_g0 := Lib.hid hm_
  have HBL' := Lib.hid (HBL.out.trans (ht_.below (B := w.heap.size) (by omega) (by omega)))
  clear HBL
  have HBL := HBL'
  clear HBL'
  obtain ⟨s98, hs98⟩ : ∃ s, w96.heap.size = s := ⟨_, rfl⟩
  have hls98 : s90 ≤ s98 := by have := ht_.size; omega
  clear hm_ ht_
  have hc99 : w96.cell? ⟨s49, 0, none⟩ = some (.slice Ak48_0 nk48_0 pk48_0) := cell_of_block HX_g0.out 0
  have hc100 : w96.cell? ⟨s49, 1, none⟩ = some (.slice Ak48_1 nk48_1 pk48_1) := cell_of_block HX_g0.out 1
  have hc101 : w96.cell? ⟨s49, 2, none⟩ = some (.slice Ak48_2 nk48_2 pk48_2) := cell_of_block HX_g0.out 2
  have hc102 : w96.cell? ⟨s49, 3, none⟩ = some (.int .i64 ((pKCopy x0 x1 x2 x3).1.Calls)) := cell_of_block HX_g0.out 3
  have hc103 : w96.cell? ⟨s49, 4, none⟩ = some (.slice Ak48_4 nk48_4 pk48_4) := cell_of_block HX_g0.out 4
  go_wp2_with fail
  have hcb := cntb_Kernel (pKCopy x0 x1 x2 x3).1
  have hct := cntTop_le (eKernel (pKCopy x0 x1 x2 x3).1)
  refine (h_heldKernel (pKCopy x0 x1 x2 x3).1 (.slice Ak48_0 nk48_0 pk48_0) (.slice Ak48_1 nk48_1 pk48_1) (.slice Ak48_2 nk48_2 pk48_2) (.slice Ak48_4 nk48_4 pk48_4) 1 w96 HM_g0.out.rd (by omega) (by omega)).mono ?_
  rintro e w104 ⟨rfl, hb_⟩
  rw [HKk97.out]
  clear hcb hct
  have HX_aK' := Lib.hid ((hb_.block s0 (by omega)).trans HX_aK.out)
  clear HX_aK
  have HX_aK := HX_aK'
  clear HX_aK'
  have HX_w0' := Lib.hid ((hb_.block s26 (by omega)).trans HX_w0.out)
  clear HX_w0
  have HX_w0 := HX_w0'
  clear HX_w0'
  have HX_x0' := Lib.hid ((hb_.block s36 (by omega)).trans HX_x0.out)
  clear HX_x0
  have HX_x0 := HX_x0'
  clear HX_x0'
  have HX_g0' := Lib.hid ((hb_.block s49 (by omega)).trans HX_g0.out)
  clear HX_g0
  have HX_g0 := HX_g0'
  clear HX_g0'
  have HM_t16' := Lib.hid (HM_t16.out.below hb_)
  clear HM_t16
  have HM_t16 := HM_t16'
  clear HM_t16'
  have HM_t20' := Lib.hid (HM_t20.out.below hb_)
  clear HM_t20
  have HM_t20 := HM_t20'
  clear HM_t20'
  have HM_w0' := Lib.hid (HM_w0.out.below hb_)
  clear HM_w0
  have HM_w0 := HM_w0'
  clear HM_w0'
  have HM_x0' := Lib.hid (HM_x0.out.below hb_)
  clear HM_x0
  have HM_x0 := HM_x0'
  clear HM_x0'
  have HM_x3' := Lib.hid (HM_x3.out.below hb_)
  clear HM_x3
  have HM_x3 := HM_x3'
  clear HM_x3'
  have HM_g0' := Lib.hid (HM_g0.out.below hb_)
  clear HM_g0
  have HM_g0 := HM_g0'
  clear HM_g0'
  have HBL' := Lib.hid (below_step HBL.out hb_)
  clear HBL
  have HBL := HBL'
  clear HBL'
  obtain ⟨s105, hs105⟩ : ∃ s, w104.heap.size = s := ⟨_, rfl⟩
  have hls105 : s98 ≤ s105 := by have := hb_.size; omega
  clear hb_
  have hc106 : w104.cell? ⟨s0, 0, none⟩ = some (c0_0) := cell_of_block HX_aK.out 0
  have hc107 : w104.cell? ⟨s0, 1, none⟩ = some (c0_1) := cell_of_block HX_aK.out 1
  have hc108 : w104.cell? ⟨s0, 2, none⟩ = some (c0_2) := cell_of_block HX_aK.out 2
  have hc109 : w104.cell? ⟨s0, 3, none⟩ = some (.int .i64 x0.Calls) := cell_of_block HX_aK.out 3
  have hc110 : w104.cell? ⟨s0, 4, none⟩ = some (c0_4) := cell_of_block HX_aK.out 4
  go_wp2_with fail
  refine (h_toKernel x0 c0_0 c0_1 c0_2 c0_4 w104 (raw_below HBL.out _ HR0.out) (by omega)).mono ?_
  rintro e w112 ⟨u_, rfl, hm_, hb_⟩
  have hsh_ := hm_
  obtain ⟨bs_, hsh_, _⟩ := hsh_
  obtain ⟨Ak113_0, nk113_0, pk113_0, Ak113_1, nk113_1, pk113_1, Ak113_2, nk113_2, pk113_2, Ak113_4, nk113_4, pk113_4, rfl⟩ := sinv_Kernel hsh_
  clear hsh_
  rw [hs105] at hm_
  have HX_aK' := Lib.hid ((hb_.block s0 (by omega)).trans HX_aK.out)
  clear HX_aK
  have HX_aK := HX_aK'
  clear HX_aK'
  have HX_w0' := Lib.hid ((hb_.block s26 (by omega)).trans HX_w0.out)
  clear HX_w0
  have HX_w0 := HX_w0'
  clear HX_w0'
  have HX_x0' := Lib.hid ((hb_.block s36 (by omega)).trans HX_x0.out)
  clear HX_x0
  have HX_x0 := HX_x0'
  clear HX_x0'
  have HX_g0' := Lib.hid ((hb_.block s49 (by omega)).trans HX_g0.out)
  clear HX_g0
  have HX_g0 := HX_g0'
  clear HX_g0'
  have HM_t16' := Lib.hid (HM_t16.out.below hb_)
  clear HM_t16
  have HM_t16 := HM_t16'
  clear HM_t16'
  have HM_t20' := Lib.hid (HM_t20.out.below hb_)
  clear HM_t20
  have HM_t20 := HM_t20'
  clear HM_t20'
  have HM_w0' := Lib.hid (HM_w0.out.below hb_)
  clear HM_w0
  have HM_w0 := HM_w0'
  clear HM_w0'
  have HM_x0' := Lib.hid (HM_x0.out.below hb_)
  clear HM_x0
  have HM_x0 := HM_x0'
  clear HM_x0'
  have HM_x3' := Lib.hid (HM_x3.out.below hb_)
  clear HM_x3
  have HM_x3 := HM_x3'
  clear HM_x3'
  have HM_g0' := Lib.hid (HM_g0.out.below hb_)
  clear HM_g0
  have HM_g0 := HM_g0'
  clear HM_g0'
  have HBL' := Lib.hid (below_step HBL.out hb_)
  clear HBL
  have HBL := HBL'
  clear HBL'
  obtain ⟨s114, hs114⟩ : ∃ s, w112.heap.size = s := ⟨_, rfl⟩
  have hls114 : s105 ≤ s114 := by have := hb_.size; omega
  have HM_t111 := Lib.hid (hm_.toIn (Nat.le_of_eq hs114))
  clear hm_ hb_
  go_wp2_with fail
  refine (h_toIntS x3 (.slice Al3 x3.length pl3) w112 (raw_below HBL.out _ HR3.out) (by omega)).mono ?_
  rintro e w116 ⟨u_, rfl, hm_, hb_⟩
  have hsh_ := hm_
  obtain ⟨bs_, hsh_, _⟩ := hsh_
  obtain ⟨Ak117, nk117, pk117, rfl⟩ := own_slice hsh_
  clear hsh_
  rw [hs114] at hm_
  have HX_aK' := Lib.hid ((hb_.block s0 (by omega)).trans HX_aK.out)
  clear HX_aK
  have HX_aK := HX_aK'
  clear HX_aK'
  have HX_w0' := Lib.hid ((hb_.block s26 (by omega)).trans HX_w0.out)
  clear HX_w0
  have HX_w0 := HX_w0'
  clear HX_w0'
  have HX_x0' := Lib.hid ((hb_.block s36 (by omega)).trans HX_x0.out)
  clear HX_x0
  have HX_x0 := HX_x0'
  clear HX_x0'
  have HX_g0' := Lib.hid ((hb_.block s49 (by omega)).trans HX_g0.out)
  clear HX_g0
  have HX_g0 := HX_g0'
  clear HX_g0'
  have HM_t16' := Lib.hid (HM_t16.out.below hb_)
  clear HM_t16
  have HM_t16 := HM_t16'
  clear HM_t16'
  have HM_t20' := Lib.hid (HM_t20.out.below hb_)
  clear HM_t20
  have HM_t20 := HM_t20'
  clear HM_t20'
  have HM_w0' := Lib.hid (HM_w0.out.below hb_)
  clear HM_w0
  have HM_w0 := HM_w0'
  clear HM_w0'
  have HM_x0' := Lib.hid (HM_x0.out.below hb_)
  clear HM_x0
  have HM_x0 := HM_x0'
  clear HM_x0'
  have HM_x3' := Lib.hid (HM_x3.out.below hb_)
  clear HM_x3
  have HM_x3 := HM_x3'
  clear HM_x3'
  have HM_g0' := Lib.hid (HM_g0.out.below hb_)
  clear HM_g0
  have HM_g0 := HM_g0'
  clear HM_g0'
  have HM_t111' := Lib.hid (HM_t111.out.below hb_)
  clear HM_t111
  have HM_t111 := HM_t111'
  clear HM_t111'
  have HBL' := Lib.hid (below_step HBL.out hb_)
  clear HBL
  have HBL := HBL'
  clear HBL'
  obtain ⟨s118, hs118⟩ : ∃ s, w116.heap.size = s := ⟨_, rfl⟩
  have hls118 : s114 ≤ s118 := by have := hb_.size; omega
  have HM_t115 := Lib.hid (hm_.toIn (Nat.le_of_eq hs118))
  clear hm_ hb_
  go_wp2_with fail
  refine (impl_KCopy x0 (.slice Ak113_0 nk113_0 pk113_0) (.slice Ak113_1 nk113_1 pk113_1) (.slice Ak113_2 nk113_2 pk113_2) (.slice Ak113_4 nk113_4 pk113_4) x1 x2 x3 (.slice Ak117 nk117 pk117) w116 HM_t111.out.rd HM_t115.out.rd hsz0 hsz3 hw1 hw2).mono ?_
  rintro e w119 ⟨u_, rfl, hm_, hb_⟩
  have hsh_ := hm_
  obtain ⟨bs_, hsh_, _⟩ := hsh_
  obtain ⟨Ak120_0, nk120_0, pk120_0, Ak120_1, nk120_1, pk120_1, Ak120_2, nk120_2, pk120_2, Ak120_4, nk120_4, pk120_4, rfl⟩ := sinv_Kernel hsh_
  clear hsh_
  rw [hs118] at hm_
  have HX_aK' := Lib.hid ((hb_.block s0 (by omega)).trans HX_aK.out)
  clear HX_aK
  have HX_aK := HX_aK'
  clear HX_aK'
  have HX_w0' := Lib.hid ((hb_.block s26 (by omega)).trans HX_w0.out)
  clear HX_w0
  have HX_w0 := HX_w0'
  clear HX_w0'
  have HX_x0' := Lib.hid ((hb_.block s36 (by omega)).trans HX_x0.out)
  clear HX_x0
  have HX_x0 := HX_x0'
  clear HX_x0'
  have HX_g0' := Lib.hid ((hb_.block s49 (by omega)).trans HX_g0.out)
  clear HX_g0
  have HX_g0 := HX_g0'
  clear HX_g0'
  have HM_t16' := Lib.hid (HM_t16.out.below hb_)
  clear HM_t16
  have HM_t16 := HM_t16'
  clear HM_t16'
  have HM_t20' := Lib.hid (HM_t20.out.below hb_)
  clear HM_t20
  have HM_t20 := HM_t20'
  clear HM_t20'
  have HM_w0' := Lib.hid (HM_w0.out.below hb_)
  clear HM_w0
  have HM_w0 := HM_w0'
  clear HM_w0'
  have HM_x0' := Lib.hid (HM_x0.out.below hb_)
  clear HM_x0
  have HM_x0 := HM_x0'
  clear HM_x0'
  have HM_x3' := Lib.hid (HM_x3.out.below hb_)
  clear HM_x3
  have HM_x3 := HM_x3'
  clear HM_x3'
  have HM_g0' := Lib.hid (HM_g0.out.below hb_)
  clear HM_g0
  have HM_g0 := HM_g0'
  clear HM_g0'
  have HM_t111' := Lib.hid (HM_t111.out.below hb_)
  clear HM_t111
  have HM_t111 := HM_t111'
  clear HM_t111'
  have HM_t115' := Lib.hid (HM_t115.out.below hb_)
  clear HM_t115
  have HM_t115 := HM_t115'
  clear HM_t115'
  have HBL' := Lib.hid (below_step HBL.out hb_)
  clear HBL
  have HBL := HBL'
  clear HBL'
  obtain ⟨s121, hs121⟩ : ∃ s, w119.heap.size = s := ⟨_, rfl⟩
  have hls121 : s118 ≤ s121 := by have := hb_.size; omega
  have HM_h0 := Lib.hid (hm_.toIn (Nat.le_of_eq hs121))
  clear hm_ hb_
  have HXP_aK := HX_aK
  have HXP_w0 := HX_w0
  have HXP_x0 := HX_x0
  have HXP_g0 := HX_g0
  have hb_ : Below w119.heap.size w119 (w119.alloc (.cells #[.slice Ak120_0 nk120_0 pk120_0, .slice Ak120_1 nk120_1 pk120_1, .slice Ak120_2 nk120_2 pk120_2, .int .i64 ((pKCopy x0 x1 x2 x3).1.Calls), .slice Ak120_4 nk120_4 pk120_4] 35)) := (Below.refl _ _).alloc (Nat.le_refl _) _
  have hx_ : (w119.alloc (.cells #[.slice Ak120_0 nk120_0 pk120_0, .slice Ak120_1 nk120_1 pk120_1, .slice Ak120_2 nk120_2 pk120_2, .int .i64 ((pKCopy x0 x1 x2 x3).1.Calls), .slice Ak120_4 nk120_4 pk120_4] 35)).heap[s121]? = some (.cells #[.slice Ak120_0 nk120_0 pk120_0, .slice Ak120_1 nk120_1 pk120_1, .slice Ak120_2 nk120_2 pk120_2, .int .i64 ((pKCopy x0 x1 x2 x3).1.Calls), .slice Ak120_4 nk120_4 pk120_4] 35 (0, 0)) := by rw [← hs121]; exact heap_alloc_new _ _
  have hz_ : (w119.alloc (.cells #[.slice Ak120_0 nk120_0 pk120_0, .slice Ak120_1 nk120_1 pk120_1, .slice Ak120_2 nk120_2 pk120_2, .int .i64 ((pKCopy x0 x1 x2 x3).1.Calls), .slice Ak120_4 nk120_4 pk120_4] 35)).heap.size = s121 + 1 := by simp [hs121]
  obtain ⟨w122, HW_w122⟩ : ∃ z, (w119.alloc (.cells #[.slice Ak120_0 nk120_0 pk120_0, .slice Ak120_1 nk120_1 pk120_1, .slice Ak120_2 nk120_2 pk120_2, .int .i64 ((pKCopy x0 x1 x2 x3).1.Calls), .slice Ak120_4 nk120_4 pk120_4] 35)) = z := ⟨_, rfl⟩
  rw [HW_w122] at hb_ hx_ hz_
  have HX_aK' := Lib.hid ((hb_.block s0 (by omega)).trans HX_aK.out)
  clear HX_aK
  have HX_aK := HX_aK'
  clear HX_aK'
  have HX_w0' := Lib.hid ((hb_.block s26 (by omega)).trans HX_w0.out)
  clear HX_w0
  have HX_w0 := HX_w0'
  clear HX_w0'
  have HX_x0' := Lib.hid ((hb_.block s36 (by omega)).trans HX_x0.out)
  clear HX_x0
  have HX_x0 := HX_x0'
  clear HX_x0'
  have HX_g0' := Lib.hid ((hb_.block s49 (by omega)).trans HX_g0.out)
  clear HX_g0
  have HX_g0 := HX_g0'
  clear HX_g0'
  have HM_t16' := Lib.hid (HM_t16.out.below hb_)
  clear HM_t16
  have HM_t16 := HM_t16'
  clear HM_t16'
  have HM_t20' := Lib.hid (HM_t20.out.below hb_)
  clear HM_t20
  have HM_t20 := HM_t20'
  clear HM_t20'
  have HM_w0' := Lib.hid (HM_w0.out.below hb_)
  clear HM_w0
  have HM_w0 := HM_w0'
  clear HM_w0'
  have HM_x0' := Lib.hid (HM_x0.out.below hb_)
  clear HM_x0
  have HM_x0 := HM_x0'
  clear HM_x0'
  have HM_x3' := Lib.hid (HM_x3.out.below hb_)
  clear HM_x3
  have HM_x3 := HM_x3'
  clear HM_x3'
  have HM_g0' := Lib.hid (HM_g0.out.below hb_)
  clear HM_g0
  have HM_g0 := HM_g0'
  clear HM_g0'
  have HM_t111' := Lib.hid (HM_t111.out.below hb_)
  clear HM_t111
  have HM_t111 := HM_t111'
  clear HM_t111'
  have HM_t115' := Lib.hid (HM_t115.out.below hb_)
  clear HM_t115
  have HM_t115 := HM_t115'
  clear HM_t115'
  have HM_h0' := Lib.hid (HM_h0.out.below hb_)
  clear HM_h0
  have HM_h0 := HM_h0'
  clear HM_h0'
  have HBL' := Lib.hid (below_step HBL.out hb_)
  clear HBL
  have HBL := HBL'
  clear HBL'
  have HX_h0 := Lib.hid hx_
  clear hx_
  obtain ⟨s123, hs123⟩ : ∃ s, w122.heap.size = s := ⟨_, rfl⟩
  have hls123 : s121 + 1 = s123 := by omega
  have HWE_w122 := Lib.hid HW_w122
  clear HW_w122 hb_ hz_
  have hc124 : w122.cell? ⟨s121, 0, none⟩ = some (.slice Ak120_0 nk120_0 pk120_0) := cell_of_block HX_h0.out 0
  have hc125 : w122.cell? ⟨s121, 1, none⟩ = some (.slice Ak120_1 nk120_1 pk120_1) := cell_of_block HX_h0.out 1
  have hc126 : w122.cell? ⟨s121, 2, none⟩ = some (.slice Ak120_2 nk120_2 pk120_2) := cell_of_block HX_h0.out 2
  have hc127 : w122.cell? ⟨s121, 3, none⟩ = some (.int .i64 ((pKCopy x0 x1 x2 x3).1.Calls)) := cell_of_block HX_h0.out 3
  have hc128 : w122.cell? ⟨s121, 4, none⟩ = some (.slice Ak120_4 nk120_4 pk120_4) := cell_of_block HX_h0.out 4
  have : s26 < s121 := by omega
  have : w119.cell? ⟨s26, 0, none⟩ = some (.slice Ak25_0 nk25_0 pk25_0) := cell_of_block HXP_w0.out 0
  have : w119.cell? ⟨s26, 1, none⟩ = some (.slice Ak25_1 nk25_1 pk25_1) := cell_of_block HXP_w0.out 1
  have : w119.cell? ⟨s26, 2, none⟩ = some (.slice Ak25_2 nk25_2 pk25_2) := cell_of_block HXP_w0.out 2
  have : w119.cell? ⟨s26, 3, none⟩ = some (.int .i64 ((pKCopy x0 x1 x2 x3).1.Calls)) := cell_of_block HXP_w0.out 3
  have : w119.cell? ⟨s26, 4, none⟩ = some (.slice Ak25_4 nk25_4 pk25_4) := cell_of_block HXP_w0.out 4
  have hc129 : w122.cell? ⟨s26, 0, none⟩ = some (.slice Ak25_0 nk25_0 pk25_0) := cell_of_block HX_w0.out 0
  have hc130 : w122.cell? ⟨s26, 1, none⟩ = some (.slice Ak25_1 nk25_1 pk25_1) := cell_of_block HX_w0.out 1
  have hc131 : w122.cell? ⟨s26, 2, none⟩ = some (.slice Ak25_2 nk25_2 pk25_2) := cell_of_block HX_w0.out 2
  have hc132 : w122.cell? ⟨s26, 3, none⟩ = some (.int .i64 ((pKCopy x0 x1 x2 x3).1.Calls)) := cell_of_block HX_w0.out 3
  have hc133 : w122.cell? ⟨s26, 4, none⟩ = some (.slice Ak25_4 nk25_4 pk25_4) := cell_of_block HX_w0.out 4
  go_wp2_with fail
  rw [HWE_w122.out]
  clear HWE_w122 HXP_aK HXP_w0 HXP_x0 HXP_g0
  refine (h_eqKernel (pKCopy x0 x1 x2 x3).1 (.slice Ak120_0 nk120_0 pk120_0) (.slice Ak120_1 nk120_1 pk120_1) (.slice Ak120_2 nk120_2 pk120_2) (.slice Ak120_4 nk120_4 pk120_4) (.slice Ak25_0 nk25_0 pk25_0) (.slice Ak25_1 nk25_1 pk25_1) (.slice Ak25_2 nk25_2 pk25_2) (.slice Ak25_4 nk25_4 pk25_4) w122 HM_h0.out.rd HM_w0.out.rd (by omega)).mono ?_
  rintro e w134 ⟨rfl, hb_⟩
  have HX_aK' := Lib.hid ((hb_.block s0 (by omega)).trans HX_aK.out)
  clear HX_aK
  have HX_aK := HX_aK'
  clear HX_aK'
  have HX_w0' := Lib.hid ((hb_.block s26 (by omega)).trans HX_w0.out)
  clear HX_w0
  have HX_w0 := HX_w0'
  clear HX_w0'
  have HX_x0' := Lib.hid ((hb_.block s36 (by omega)).trans HX_x0.out)
  clear HX_x0
  have HX_x0 := HX_x0'
  clear HX_x0'
  have HX_g0' := Lib.hid ((hb_.block s49 (by omega)).trans HX_g0.out)
  clear HX_g0
  have HX_g0 := HX_g0'
  clear HX_g0'
  have HX_h0' := Lib.hid ((hb_.block s121 (by omega)).trans HX_h0.out)
  clear HX_h0
  have HX_h0 := HX_h0'
  clear HX_h0'
  have HM_t16' := Lib.hid (HM_t16.out.below hb_)
  clear HM_t16
  have HM_t16 := HM_t16'
  clear HM_t16'
  have HM_t20' := Lib.hid (HM_t20.out.below hb_)
  clear HM_t20
  have HM_t20 := HM_t20'
  clear HM_t20'
  have HM_w0' := Lib.hid (HM_w0.out.below hb_)
  clear HM_w0
  have HM_w0 := HM_w0'
  clear HM_w0'
  have HM_x0' := Lib.hid (HM_x0.out.below hb_)
  clear HM_x0
  have HM_x0 := HM_x0'
  clear HM_x0'
  have HM_x3' := Lib.hid (HM_x3.out.below hb_)
  clear HM_x3
  have HM_x3 := HM_x3'
  clear HM_x3'
  have HM_g0' := Lib.hid (HM_g0.out.below hb_)
  clear HM_g0
  have HM_g0 := HM_g0'
  clear HM_g0'
  have HM_t111' := Lib.hid (HM_t111.out.below hb_)
  clear HM_t111
  have HM_t111 := HM_t111'
  clear HM_t111'
  have HM_t115' := Lib.hid (HM_t115.out.below hb_)
  clear HM_t115
  have HM_t115 := HM_t115'
  clear HM_t115'
  have HM_h0' := Lib.hid (HM_h0.out.below hb_)
  clear HM_h0
  have HM_h0 := HM_h0'
  clear HM_h0'
  have HBL' := Lib.hid (below_step HBL.out hb_)
  clear HBL
  have HBL := HBL'
  clear HBL'
  obtain ⟨s135, hs135⟩ : ∃ s, w134.heap.size = s := ⟨_, rfl⟩
  have hls135 : s123 ≤ s135 := by have := hb_.size; omega
  clear hb_
  have hc136 : w134.cell? ⟨s49, 0, none⟩ = some (.slice Ak48_0 nk48_0 pk48_0) := cell_of_block HX_g0.out 0
  have hc137 : w134.cell? ⟨s49, 1, none⟩ = some (.slice Ak48_1 nk48_1 pk48_1) := cell_of_block HX_g0.out 1
  have hc138 : w134.cell? ⟨s49, 2, none⟩ = some (.slice Ak48_2 nk48_2 pk48_2) := cell_of_block HX_g0.out 2
  have hc139 : w134.cell? ⟨s49, 3, none⟩ = some (.int .i64 ((pKCopy x0 x1 x2 x3).1.Calls)) := cell_of_block HX_g0.out 3
  have hc140 : w134.cell? ⟨s49, 4, none⟩ = some (.slice Ak48_4 nk48_4 pk48_4) := cell_of_block HX_g0.out 4
  go_wp2_with fail
  have hcb := cntb_Kernel (pKCopy x0 x1 x2 x3).1
  have hct := cntTop_le (eKernel (pKCopy x0 x1 x2 x3).1)
  refine (h_heldKernel (pKCopy x0 x1 x2 x3).1 (.slice Ak48_0 nk48_0 pk48_0) (.slice Ak48_1 nk48_1 pk48_1) (.slice Ak48_2 nk48_2 pk48_2) (.slice Ak48_4 nk48_4 pk48_4) 1 w134 HM_g0.out.rd (by omega) (by omega)).mono ?_
  rintro e w141 ⟨rfl, hb_⟩
  rw [HKk97.out]
  clear hcb hct
  have HX_aK' := Lib.hid ((hb_.block s0 (by omega)).trans HX_aK.out)
  clear HX_aK
  have HX_aK := HX_aK'
  clear HX_aK'
  have HX_w0' := Lib.hid ((hb_.block s26 (by omega)).trans HX_w0.out)
  clear HX_w0
  have HX_w0 := HX_w0'
  clear HX_w0'
  have HX_x0' := Lib.hid ((hb_.block s36 (by omega)).trans HX_x0.out)
  clear HX_x0
  have HX_x0 := HX_x0'
  clear HX_x0'
  have HX_g0' := Lib.hid ((hb_.block s49 (by omega)).trans HX_g0.out)
  clear HX_g0
  have HX_g0 := HX_g0'
  clear HX_g0'
  have HX_h0' := Lib.hid ((hb_.block s121 (by omega)).trans HX_h0.out)
  clear HX_h0
  have HX_h0 := HX_h0'
  clear HX_h0'
  have HM_t16' := Lib.hid (HM_t16.out.below hb_)
  clear HM_t16
  have HM_t16 := HM_t16'
  clear HM_t16'
  have HM_t20' := Lib.hid (HM_t20.out.below hb_)
  clear HM_t20
  have HM_t20 := HM_t20'
  clear HM_t20'
  have HM_w0' := Lib.hid (HM_w0.out.below hb_)
  clear HM_w0
  have HM_w0 := HM_w0'
  clear HM_w0'
  have HM_x0' := Lib.hid (HM_x0.out.below hb_)
  clear HM_x0
  have HM_x0 := HM_x0'
  clear HM_x0'
  have HM_x3' := Lib.hid (HM_x3.out.below hb_)
  clear HM_x3
  have HM_x3 := HM_x3'
  clear HM_x3'
  have HM_g0' := Lib.hid (HM_g0.out.below hb_)
  clear HM_g0
  have HM_g0 := HM_g0'
  clear HM_g0'
  have HM_t111' := Lib.hid (HM_t111.out.below hb_)
  clear HM_t111
  have HM_t111 := HM_t111'
  clear HM_t111'
  have HM_t115' := Lib.hid (HM_t115.out.below hb_)
  clear HM_t115
  have HM_t115 := HM_t115'
  clear HM_t115'
  have HM_h0' := Lib.hid (HM_h0.out.below hb_)
  clear HM_h0
  have HM_h0 := HM_h0'
  clear HM_h0'
  have HBL' := Lib.hid (below_step HBL.out hb_)
  clear HBL
  have HBL := HBL'
  clear HBL'
  obtain ⟨s142, hs142⟩ : ∃ s, w141.heap.size = s := ⟨_, rfl⟩
  have hls142 : s135 ≤ s142 := by have := hb_.size; omega
  clear hb_
  go_wp2
  go_ret
  exact ⟨rfl, HBL.out⟩
set_option maxRecDepth 100000 in
theorem lifted (os : Os) (started : os.Started) (H : Type) (enc : TypeId × Value → H) :
    ReturnsInHanded {} Try.checked os 12 .any (Rows.fnExactKCopySpec.pre6 enc Try.prog Try.f12 Rows.fnExactKCopyRow.domain false) (Rows.fnExactKCopySpec.post enc Try.prog Try.f12 false true false false) := by
  refine returnsInHanded_of_change (C := Try.checked) own started (by kernel_rfl) Try.func12
    (ChangeSpec.witness6 (enc := enc) (C := Try.checked) false ⟨#[], #[.agg #[.slice none 0 0, .slice none 0 0, .slice none 0 0, .int .i64 0, .slice none 0 0], .int .i64 0, .int .i64 0, .slice none 0 0], []⟩ 8 (by kernel_rfl) (by kernel_rfl) (by kernel_rfl) (by kernel_rfl)) ?_
  intro W base args ds gs before hval0 hW hcnd _
  have hval : ∀ (j : Nat) t v, Try.f12.params[j]? = some t → args[j]? = some v → Value.okWide Try.prog W .any base t v := hval0
  have hW' := hW
  obtain ⟨p, q, hA0, hV, rfl, hfz, hnd⟩ := hW
  have hA : DataW.TrodAll enc Try.prog W 0 (fun _ => true) true Try.f12.params.toList args.toList ds p := hA0
  rw [Try.params12] at hA hval
  obtain ⟨v0, vs0, d0, ds0, p0, q0, hargs, rfl, rfl, h0, r0⟩ := trodAll_cons hA
  obtain ⟨v1, vs1, d1, ds1, p1, q1, rfl, rfl, rfl, h1, r1⟩ := trodAll_cons r0
  obtain ⟨v2, vs2, d2, ds2, p2, q2, rfl, rfl, rfl, h2, r2⟩ := trodAll_cons r1
  obtain ⟨v3, vs3, d3, ds3, p3, q3, rfl, rfl, rfl, h3, r3⟩ := trodAll_cons r2
  obtain ⟨rfl, rfl, rfl⟩ := trodAll_nil r3
  obtain rfl : args = #[v0, v1, v2, v3] := by cases args; simp_all
  obtain ⟨rfl, rfl⟩ := trodVars_none hV
  have k0 := h0
  have lt0 : ∀ x ∈ p0, x.block < W.heap.size := by obtain ⟨m, hm⟩ := k0; exact DataW.trod_lt m _ _ _ hm
  obtain ⟨x0, raw0, ok0⟩ := opens_trod opens_Kernel h0
  obtain ⟨cs0, rfl, _⟩ := okWide_struct Try.underlying62 (hval 0 62 v0 rfl rfl)
  obtain ⟨cs0⟩ := cs0
  have raw0 : Raw W (eKernel x0) cs0 := raw0
  obtain ⟨c0_0, c0_1, c0_2, c0_4, rfl⟩ := rinv_Kernel raw0
  obtain ⟨a1, rfl, rfl, rfl, w1⟩ := open_int Try.underlying3 (hval 1 3 v1 rfl rfl) h1
  obtain ⟨a2, rfl, rfl, rfl, w2⟩ := open_int Try.underlying3 (hval 2 3 v2 rfl rfl) h2
  have k3 := h3
  have lt3 : ∀ x ∈ p3, x.block < W.heap.size := by obtain ⟨m, hm⟩ := k3; exact DataW.trod_lt m _ _ _ hm
  obtain ⟨x3, raw3, ok3⟩ := opens_trod opens_IntS h3
  obtain ⟨c3_0, len3, cap3, rfl⟩ := okWide_slice Try.underlying33 (hval 3 33 v3 rfl rfl)
  have raw3 : Raw W (eIntS x3) [.slice c3_0 len3 cap3] := raw3
  clear hA0 hval0
  refine (walk x0 c0_0 c0_1 c0_2 c0_4 a1 a2 x3 (.slice c3_0 len3 cap3) W raw0 ok0 (okI_wf w1) (okI_wf w2) raw3 ok3).mono fun e W' ⟨he, bel⟩ => ?_
  subst he
  exact ⟨_, rfl, _, _, _, [], _, [], hW', trodAll_mk1 (shut_bool Try.underlying4 _), (trodAll_cons_mk (Below.trod laidOut (by kernel_rfl) (of_decide_eq_true (by kernel_rfl)) k0 bel lt0) (trodAll_cons_mk (shut_int Try.underlying3 w1) (trodAll_cons_mk (shut_int Try.underlying3 w2) (trodAll_cons_mk (Below.trod laidOut (by kernel_rfl) (of_decide_eq_true (by kernel_rfl)) k3 bel lt3) trodAll_mk0)))), rfl, bel.frame _, fun h => by cases h⟩
theorem over : Rows.fnExactKCopyRow.holds Try.pinned (OpenSpec.ofChange Rows.fnExactKCopySpec) :=
  OpenClaim.holds_of_wide 12 Try.f12 rfl rfl rfl rfl rfl rfl rfl ⟨rfl, rfl, rfl, rfl, rfl⟩ rfl rfl rfl rfl rfl (by kernel_rfl) Try.func12 (by kernel_rfl)
    (of_decide_eq_true (by kernel_rfl)) (by unfold Func.isWrapper; first | (rw [if_pos (by decide +kernel)]; kernel_rfl) | (rw [if_neg (by decide +kernel)]; exact ⟨rfl, rfl⟩))
    (fun os started H enc _ => lifted os started H enc)
theorem proved : Rows.FnExactKCopySaid := over
#print axioms proved
end Go.Proofs.Ytcdmijnlpapjaaa.fnExactKCopy

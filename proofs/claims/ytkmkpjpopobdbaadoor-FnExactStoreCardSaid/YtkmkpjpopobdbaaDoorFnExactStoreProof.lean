/- Called with any arguments, the law FnExactStore returns true and each argument reads afterwards as before. The listed package-level variables hold what the program's text lays. -/
import Derived.Test.YtkmkpjpopobdbaaDoorRows
import Derived.Test.YtkmkpjpopobdbaaDoorCards
import Derived.Test.YtkmkpjpopobdbaaDoorTie
import Derived.Test.YtkmkpjpopobdbaaDoorLaid
import Derived.Deep.DeepHandedRow
import Derived.Deep.DeepWitnessRowRef
import Derived.Lib.LaidTab
import Derived.OpenVars
import Derived.Test.YtkmkpjpopobdbaaDoorS07e
import Derived.Test.YtkmkpjpopobdbaaDoorEI07c
import Derived.Test.YtkmkpjpopobdbaaDoorTo
import Derived.Test.YtkmkpjpopobdbaaDoorEq
import Derived.Test.YtkmkpjpopobdbaaDoorSz
import Derived.Test.YtkmkpjpopobdbaaDoorMark
import Derived.Test.YtkmkpjpopobdbaaDoorHeld
import Derived.Test.YtkmkpjpopobdbaaDoorIn
import Derived.WalkKit
import Derived.ProofKit
import Derived.OpenShut
import Derived.ShutString
import Derived.ChangeOld
import Derived.Below
import Derived.Carry
import Derived.Deep.RegionHeld3
namespace Go.Proofs.YtkmkpjpopobdbaaDoor.fnExactStore
open Go.ChangeShapes Go.WideShapes Go.ChangeAt Go.RowKit Go.Proofs.YtkmkpjpopobdbaaDoor.Tr
set_option linter.unusedVariables false
theorem own : ownKnob Tryd.prog.godebug = none := by kernel_rfl
theorem laidOut : laidOutB Tryd.prog = true := by kernel_rfl
set_option maxRecDepth 100000 in
set_option maxHeartbeats 1000000 in
theorem walk (x0 : GMachine) (c0_0 c0_1 c0_2 : Value) (x1 : Int) (x2 : Int) (w : World) (r0 : Raw w (eMachine x0) [c0_0, c0_1, c0_2]) (hw0 : okMachine x0) (hw1 : okI x1) (hw2 : okI x2) (hT : Laid.LErrPageErrWriteErrValue w) :
    Calls Tryd.prog 6 #[(.agg #[c0_0, c0_1, c0_2]), (.int .i64 x1), (.int .i64 x2)] w fun e w' => e = .returned (.bool true) ∧ Below w.heap.size w w' := by
  have HO : Hid True := trivial
  have HT_ := Lib.hid hT
  clear hT
  have HR0 := Lib.hid r0
  clear r0
  obtain ⟨s0, hs0⟩ : ∃ s, w.heap.size = s := ⟨_, rfl⟩
  have HBL : Hid (Below w.heap.size w w) := Below.refl _ _
  have hb_ : Below w.heap.size w (w.alloc (.cells #[c0_0, c0_1, c0_2] 50)) := (Below.refl _ _).alloc (Nat.le_refl _) _
  have hx_ : (w.alloc (.cells #[c0_0, c0_1, c0_2] 50)).heap[s0]? = some (.cells #[c0_0, c0_1, c0_2] 50 (0, 0)) := by rw [← hs0]; exact heap_alloc_new _ _
  have hz_ : (w.alloc (.cells #[c0_0, c0_1, c0_2] 50)).heap.size = s0 + 1 := by simp [hs0]
  obtain ⟨w1, HW_w1⟩ : ∃ z, (w.alloc (.cells #[c0_0, c0_1, c0_2] 50)) = z := ⟨_, rfl⟩
  rw [HW_w1] at hb_ hx_ hz_
  have HBL' := Lib.hid (below_step HBL.out hb_)
  clear HBL
  have HBL := HBL'
  clear HBL'
  have HX_aM := Lib.hid hx_
  clear hx_
  obtain ⟨s2, hs2⟩ : ∃ s, w1.heap.size = s := ⟨_, rfl⟩
  have hls2 : s0 + 1 = s2 := by omega
  have HWE_w1 := Lib.hid HW_w1
  clear HW_w1 hb_ hz_
  go_enter Tryd.func6, Tryd.ntmps6
  have hc3 : w1.cell? ⟨s0, 0, none⟩ = some (c0_0) := cell_of_block HX_aM.out 0
  have hc4 : w1.cell? ⟨s0, 1, none⟩ = some (c0_1) := cell_of_block HX_aM.out 1
  have hc5 : w1.cell? ⟨s0, 2, none⟩ = some (c0_2) := cell_of_block HX_aM.out 2
  go_wp2_with fail
  rw [HWE_w1.out]
  clear HWE_w1
  refine (h_szMachine x0 c0_0 c0_1 c0_2 1048576 w1 (raw_below HBL.out _ HR0.out) (by omega)).mono ?_
  rintro e w6 ⟨hcase, hb_⟩
  have HX_aM' := Lib.hid ((hb_.block s0 (by omega)).trans HX_aM.out)
  clear HX_aM
  have HX_aM := HX_aM'
  clear HX_aM'
  have HBL' := Lib.hid (below_step HBL.out hb_)
  clear HBL
  have HBL := HBL'
  clear HBL'
  obtain ⟨s8, hs8⟩ : ∃ s, w6.heap.size = s := ⟨_, rfl⟩
  have hls8 : s2 ≤ s8 := by have := hb_.size; omega
  clear hb_
  rcases hcase with ⟨q7, hq7, rfl⟩ | ⟨_, rfl⟩
  rotate_left
  · go_wp2
    go_ret
    exact ⟨rfl, HBL.out⟩
  have hsz0 : (eMachine x0).sz ≤ 1048576 := by omega
  have hc9 : w6.cell? ⟨s0, 0, none⟩ = some (c0_0) := cell_of_block HX_aM.out 0
  have hc10 : w6.cell? ⟨s0, 1, none⟩ = some (c0_1) := cell_of_block HX_aM.out 1
  have hc11 : w6.cell? ⟨s0, 2, none⟩ = some (c0_2) := cell_of_block HX_aM.out 2
  go_wp2_with fail
  refine (h_toMachine x0 c0_0 c0_1 c0_2 w6 (raw_below HBL.out _ HR0.out) (by omega)).mono ?_
  rintro e w13 ⟨u_, rfl, hm_, hb_⟩
  have hsh_ := hm_
  obtain ⟨bs_, hsh_, _⟩ := hsh_
  obtain ⟨Ak14_0, nk14_0, pk14_0, Ak14_1, nk14_1, pk14_1, Ak14_2, nk14_2, pk14_2, rfl⟩ := sinv_Machine hsh_
  clear hsh_
  rw [hs8] at hm_
  have HX_aM' := Lib.hid ((hb_.block s0 (by omega)).trans HX_aM.out)
  clear HX_aM
  have HX_aM := HX_aM'
  clear HX_aM'
  have HBL' := Lib.hid (below_step HBL.out hb_)
  clear HBL
  have HBL := HBL'
  clear HBL'
  obtain ⟨s15, hs15⟩ : ∃ s, w13.heap.size = s := ⟨_, rfl⟩
  have hls15 : s8 ≤ s15 := by have := hb_.size; omega
  have HM_t12 := Lib.hid (hm_.toIn (Nat.le_of_eq hs15))
  clear hm_ hb_
  go_wp2_with fail
  refine (spec_Store x0 (.slice Ak14_0 nk14_0 pk14_0) (.slice Ak14_1 nk14_1 pk14_1) (.slice Ak14_2 nk14_2 pk14_2) x1 x2 w13 HM_t12.out.rd hsz0 hw1 hw2).mono ?_
  rintro e w16 ⟨u_, rfl, hm_, hb_⟩
  have hsh_ := hm_
  obtain ⟨bs_, hsh_, _⟩ := hsh_
  obtain ⟨Ak17_0, nk17_0, pk17_0, Ak17_1, nk17_1, pk17_1, Ak17_2, nk17_2, pk17_2, rfl⟩ := sinv_Machine hsh_
  clear hsh_
  rw [hs15] at hm_
  have HX_aM' := Lib.hid ((hb_.block s0 (by omega)).trans HX_aM.out)
  clear HX_aM
  have HX_aM := HX_aM'
  clear HX_aM'
  have HM_t12' := Lib.hid (HM_t12.out.below hb_)
  clear HM_t12
  have HM_t12 := HM_t12'
  clear HM_t12'
  have HBL' := Lib.hid (below_step HBL.out hb_)
  clear HBL
  have HBL := HBL'
  clear HBL'
  obtain ⟨s18, hs18⟩ : ∃ s, w16.heap.size = s := ⟨_, rfl⟩
  have hls18 : s15 ≤ s18 := by have := hb_.size; omega
  have HM_w0 := Lib.hid (hm_.toIn (Nat.le_of_eq hs18))
  clear hm_ hb_
  have hsr : (eMachine (pStore x0 x1 x2).1).sz ≤ 50000000 := bound_Store x0 x1 x2 hsz0
  have HXP_aM := HX_aM
  have hb_ : Below w16.heap.size w16 (w16.alloc (.cells #[.slice Ak17_0 nk17_0 pk17_0, .slice Ak17_1 nk17_1 pk17_1, .slice Ak17_2 nk17_2 pk17_2] 32)) := (Below.refl _ _).alloc (Nat.le_refl _) _
  have hx_ : (w16.alloc (.cells #[.slice Ak17_0 nk17_0 pk17_0, .slice Ak17_1 nk17_1 pk17_1, .slice Ak17_2 nk17_2 pk17_2] 32)).heap[s18]? = some (.cells #[.slice Ak17_0 nk17_0 pk17_0, .slice Ak17_1 nk17_1 pk17_1, .slice Ak17_2 nk17_2 pk17_2] 32 (0, 0)) := by rw [← hs18]; exact heap_alloc_new _ _
  have hz_ : (w16.alloc (.cells #[.slice Ak17_0 nk17_0 pk17_0, .slice Ak17_1 nk17_1 pk17_1, .slice Ak17_2 nk17_2 pk17_2] 32)).heap.size = s18 + 1 := by simp [hs18]
  obtain ⟨w19, HW_w19⟩ : ∃ z, (w16.alloc (.cells #[.slice Ak17_0 nk17_0 pk17_0, .slice Ak17_1 nk17_1 pk17_1, .slice Ak17_2 nk17_2 pk17_2] 32)) = z := ⟨_, rfl⟩
  rw [HW_w19] at hb_ hx_ hz_
  have HX_aM' := Lib.hid ((hb_.block s0 (by omega)).trans HX_aM.out)
  clear HX_aM
  have HX_aM := HX_aM'
  clear HX_aM'
  have HM_t12' := Lib.hid (HM_t12.out.below hb_)
  clear HM_t12
  have HM_t12 := HM_t12'
  clear HM_t12'
  have HM_w0' := Lib.hid (HM_w0.out.below hb_)
  clear HM_w0
  have HM_w0 := HM_w0'
  clear HM_w0'
  have HBL' := Lib.hid (below_step HBL.out hb_)
  clear HBL
  have HBL := HBL'
  clear HBL'
  have HX_w0 := Lib.hid hx_
  clear hx_
  obtain ⟨s20, hs20⟩ : ∃ s, w19.heap.size = s := ⟨_, rfl⟩
  have hls20 : s18 + 1 = s20 := by omega
  have HWE_w19 := Lib.hid HW_w19
  clear HW_w19 hb_ hz_
  have : s0 < s18 := by omega
  have : w16.cell? ⟨s0, 0, none⟩ = some (c0_0) := cell_of_block HXP_aM.out 0
  have : w16.cell? ⟨s0, 1, none⟩ = some (c0_1) := cell_of_block HXP_aM.out 1
  have : w16.cell? ⟨s0, 2, none⟩ = some (c0_2) := cell_of_block HXP_aM.out 2
  have hc21 : w19.cell? ⟨s0, 0, none⟩ = some (c0_0) := cell_of_block HX_aM.out 0
  have hc22 : w19.cell? ⟨s0, 1, none⟩ = some (c0_1) := cell_of_block HX_aM.out 1
  have hc23 : w19.cell? ⟨s0, 2, none⟩ = some (c0_2) := cell_of_block HX_aM.out 2
  go_wp2_with fail
  rw [HWE_w19.out]
  clear HWE_w19 HXP_aM
  refine (h_toMachine x0 c0_0 c0_1 c0_2 w19 (raw_below HBL.out _ HR0.out) (by omega)).mono ?_
  rintro e w24 ⟨u_, rfl, hm_, hb_⟩
  have hsh_ := hm_
  obtain ⟨bs_, hsh_, _⟩ := hsh_
  obtain ⟨Ak25_0, nk25_0, pk25_0, Ak25_1, nk25_1, pk25_1, Ak25_2, nk25_2, pk25_2, rfl⟩ := sinv_Machine hsh_
  clear hsh_
  rw [hs20] at hm_
  have HX_aM' := Lib.hid ((hb_.block s0 (by omega)).trans HX_aM.out)
  clear HX_aM
  have HX_aM := HX_aM'
  clear HX_aM'
  have HX_w0' := Lib.hid ((hb_.block s18 (by omega)).trans HX_w0.out)
  clear HX_w0
  have HX_w0 := HX_w0'
  clear HX_w0'
  have HM_t12' := Lib.hid (HM_t12.out.below hb_)
  clear HM_t12
  have HM_t12 := HM_t12'
  clear HM_t12'
  have HM_w0' := Lib.hid (HM_w0.out.below hb_)
  clear HM_w0
  have HM_w0 := HM_w0'
  clear HM_w0'
  have HBL' := Lib.hid (below_step HBL.out hb_)
  clear HBL
  have HBL := HBL'
  clear HBL'
  obtain ⟨s26, hs26⟩ : ∃ s, w24.heap.size = s := ⟨_, rfl⟩
  have hls26 : s20 ≤ s26 := by have := hb_.size; omega
  have HM_x0 := Lib.hid (hm_.toIn (Nat.le_of_eq hs26))
  clear hm_ hb_
  have HXP_aM := HX_aM
  have HXP_w0 := HX_w0
  have hb_ : Below w24.heap.size w24 (w24.alloc (.cells #[.slice Ak25_0 nk25_0 pk25_0, .slice Ak25_1 nk25_1 pk25_1, .slice Ak25_2 nk25_2 pk25_2] 32)) := (Below.refl _ _).alloc (Nat.le_refl _) _
  have hx_ : (w24.alloc (.cells #[.slice Ak25_0 nk25_0 pk25_0, .slice Ak25_1 nk25_1 pk25_1, .slice Ak25_2 nk25_2 pk25_2] 32)).heap[s26]? = some (.cells #[.slice Ak25_0 nk25_0 pk25_0, .slice Ak25_1 nk25_1 pk25_1, .slice Ak25_2 nk25_2 pk25_2] 32 (0, 0)) := by rw [← hs26]; exact heap_alloc_new _ _
  have hz_ : (w24.alloc (.cells #[.slice Ak25_0 nk25_0 pk25_0, .slice Ak25_1 nk25_1 pk25_1, .slice Ak25_2 nk25_2 pk25_2] 32)).heap.size = s26 + 1 := by simp [hs26]
  obtain ⟨w27, HW_w27⟩ : ∃ z, (w24.alloc (.cells #[.slice Ak25_0 nk25_0 pk25_0, .slice Ak25_1 nk25_1 pk25_1, .slice Ak25_2 nk25_2 pk25_2] 32)) = z := ⟨_, rfl⟩
  rw [HW_w27] at hb_ hx_ hz_
  have HX_aM' := Lib.hid ((hb_.block s0 (by omega)).trans HX_aM.out)
  clear HX_aM
  have HX_aM := HX_aM'
  clear HX_aM'
  have HX_w0' := Lib.hid ((hb_.block s18 (by omega)).trans HX_w0.out)
  clear HX_w0
  have HX_w0 := HX_w0'
  clear HX_w0'
  have HM_t12' := Lib.hid (HM_t12.out.below hb_)
  clear HM_t12
  have HM_t12 := HM_t12'
  clear HM_t12'
  have HM_w0' := Lib.hid (HM_w0.out.below hb_)
  clear HM_w0
  have HM_w0 := HM_w0'
  clear HM_w0'
  have HM_x0' := Lib.hid (HM_x0.out.below hb_)
  clear HM_x0
  have HM_x0 := HM_x0'
  clear HM_x0'
  have HBL' := Lib.hid (below_step HBL.out hb_)
  clear HBL
  have HBL := HBL'
  clear HBL'
  have HX_x0 := Lib.hid hx_
  clear hx_
  obtain ⟨s28, hs28⟩ : ∃ s, w27.heap.size = s := ⟨_, rfl⟩
  have hls28 : s26 + 1 = s28 := by omega
  have HWE_w27 := Lib.hid HW_w27
  clear HW_w27 hb_ hz_
  have hc29 : w27.cell? ⟨s26, 0, none⟩ = some (.slice Ak25_0 nk25_0 pk25_0) := cell_of_block HX_x0.out 0
  have hc30 : w27.cell? ⟨s26, 1, none⟩ = some (.slice Ak25_1 nk25_1 pk25_1) := cell_of_block HX_x0.out 1
  have hc31 : w27.cell? ⟨s26, 2, none⟩ = some (.slice Ak25_2 nk25_2 pk25_2) := cell_of_block HX_x0.out 2
  go_wp2_with fail
  rw [HWE_w27.out]
  clear HWE_w27 HXP_aM HXP_w0
  refine (impl_Store x0 (.slice Ak25_0 nk25_0 pk25_0) (.slice Ak25_1 nk25_1 pk25_1) (.slice Ak25_2 nk25_2 pk25_2) x1 x2 w27 HM_x0.out.rd hsz0 hw1 hw2 (HT_.out.below HBL.out).sents).mono ?_
  rintro e w32 ⟨u_, rfl, hm_, hb_⟩
  have hsh_ := hm_
  obtain ⟨bs_, hsh_, _⟩ := hsh_
  obtain ⟨Ak33_0, nk33_0, pk33_0, Ak33_1, nk33_1, pk33_1, Ak33_2, nk33_2, pk33_2, rfl⟩ := sinv_Machine hsh_
  clear hsh_
  rw [hs28] at hm_
  have HX_aM' := Lib.hid ((hb_.block s0 (by omega)).trans HX_aM.out)
  clear HX_aM
  have HX_aM := HX_aM'
  clear HX_aM'
  have HX_w0' := Lib.hid ((hb_.block s18 (by omega)).trans HX_w0.out)
  clear HX_w0
  have HX_w0 := HX_w0'
  clear HX_w0'
  have HX_x0' := Lib.hid ((hb_.block s26 (by omega)).trans HX_x0.out)
  clear HX_x0
  have HX_x0 := HX_x0'
  clear HX_x0'
  have HM_t12' := Lib.hid (HM_t12.out.below hb_)
  clear HM_t12
  have HM_t12 := HM_t12'
  clear HM_t12'
  have HM_w0' := Lib.hid (HM_w0.out.below hb_)
  clear HM_w0
  have HM_w0 := HM_w0'
  clear HM_w0'
  have HM_x0' := Lib.hid (HM_x0.out.below hb_)
  clear HM_x0
  have HM_x0 := HM_x0'
  clear HM_x0'
  have HBL' := Lib.hid (below_step HBL.out hb_)
  clear HBL
  have HBL := HBL'
  clear HBL'
  obtain ⟨s34, hs34⟩ : ∃ s, w32.heap.size = s := ⟨_, rfl⟩
  have hls34 : s28 ≤ s34 := by have := hb_.size; omega
  have HM_g0 := Lib.hid (hm_.toIn (Nat.le_of_eq hs34))
  clear hm_ hb_
  have HXP_aM := HX_aM
  have HXP_w0 := HX_w0
  have HXP_x0 := HX_x0
  have hb_ : Below w32.heap.size w32 (w32.alloc (.cells #[.slice Ak33_0 nk33_0 pk33_0, .slice Ak33_1 nk33_1 pk33_1, .slice Ak33_2 nk33_2 pk33_2] 32)) := (Below.refl _ _).alloc (Nat.le_refl _) _
  have hx_ : (w32.alloc (.cells #[.slice Ak33_0 nk33_0 pk33_0, .slice Ak33_1 nk33_1 pk33_1, .slice Ak33_2 nk33_2 pk33_2] 32)).heap[s34]? = some (.cells #[.slice Ak33_0 nk33_0 pk33_0, .slice Ak33_1 nk33_1 pk33_1, .slice Ak33_2 nk33_2 pk33_2] 32 (0, 0)) := by rw [← hs34]; exact heap_alloc_new _ _
  have hz_ : (w32.alloc (.cells #[.slice Ak33_0 nk33_0 pk33_0, .slice Ak33_1 nk33_1 pk33_1, .slice Ak33_2 nk33_2 pk33_2] 32)).heap.size = s34 + 1 := by simp [hs34]
  obtain ⟨w35, HW_w35⟩ : ∃ z, (w32.alloc (.cells #[.slice Ak33_0 nk33_0 pk33_0, .slice Ak33_1 nk33_1 pk33_1, .slice Ak33_2 nk33_2 pk33_2] 32)) = z := ⟨_, rfl⟩
  rw [HW_w35] at hb_ hx_ hz_
  have HX_aM' := Lib.hid ((hb_.block s0 (by omega)).trans HX_aM.out)
  clear HX_aM
  have HX_aM := HX_aM'
  clear HX_aM'
  have HX_w0' := Lib.hid ((hb_.block s18 (by omega)).trans HX_w0.out)
  clear HX_w0
  have HX_w0 := HX_w0'
  clear HX_w0'
  have HX_x0' := Lib.hid ((hb_.block s26 (by omega)).trans HX_x0.out)
  clear HX_x0
  have HX_x0 := HX_x0'
  clear HX_x0'
  have HM_t12' := Lib.hid (HM_t12.out.below hb_)
  clear HM_t12
  have HM_t12 := HM_t12'
  clear HM_t12'
  have HM_w0' := Lib.hid (HM_w0.out.below hb_)
  clear HM_w0
  have HM_w0 := HM_w0'
  clear HM_w0'
  have HM_x0' := Lib.hid (HM_x0.out.below hb_)
  clear HM_x0
  have HM_x0 := HM_x0'
  clear HM_x0'
  have HM_g0' := Lib.hid (HM_g0.out.below hb_)
  clear HM_g0
  have HM_g0 := HM_g0'
  clear HM_g0'
  have HBL' := Lib.hid (below_step HBL.out hb_)
  clear HBL
  have HBL := HBL'
  clear HBL'
  have HX_g0 := Lib.hid hx_
  clear hx_
  obtain ⟨s36, hs36⟩ : ∃ s, w35.heap.size = s := ⟨_, rfl⟩
  have hls36 : s34 + 1 = s36 := by omega
  have HWE_w35 := Lib.hid HW_w35
  clear HW_w35 hb_ hz_
  have hc37 : w35.cell? ⟨s34, 0, none⟩ = some (.slice Ak33_0 nk33_0 pk33_0) := cell_of_block HX_g0.out 0
  have hc38 : w35.cell? ⟨s34, 1, none⟩ = some (.slice Ak33_1 nk33_1 pk33_1) := cell_of_block HX_g0.out 1
  have hc39 : w35.cell? ⟨s34, 2, none⟩ = some (.slice Ak33_2 nk33_2 pk33_2) := cell_of_block HX_g0.out 2
  have : s18 < s34 := by omega
  have : w32.cell? ⟨s18, 0, none⟩ = some (.slice Ak17_0 nk17_0 pk17_0) := cell_of_block HXP_w0.out 0
  have : w32.cell? ⟨s18, 1, none⟩ = some (.slice Ak17_1 nk17_1 pk17_1) := cell_of_block HXP_w0.out 1
  have : w32.cell? ⟨s18, 2, none⟩ = some (.slice Ak17_2 nk17_2 pk17_2) := cell_of_block HXP_w0.out 2
  have hc40 : w35.cell? ⟨s18, 0, none⟩ = some (.slice Ak17_0 nk17_0 pk17_0) := cell_of_block HX_w0.out 0
  have hc41 : w35.cell? ⟨s18, 1, none⟩ = some (.slice Ak17_1 nk17_1 pk17_1) := cell_of_block HX_w0.out 1
  have hc42 : w35.cell? ⟨s18, 2, none⟩ = some (.slice Ak17_2 nk17_2 pk17_2) := cell_of_block HX_w0.out 2
  go_wp2_with fail
  rw [HWE_w35.out]
  clear HWE_w35 HXP_aM HXP_w0 HXP_x0
  refine (h_eqMachine (pStore x0 x1 x2).1 (.slice Ak33_0 nk33_0 pk33_0) (.slice Ak33_1 nk33_1 pk33_1) (.slice Ak33_2 nk33_2 pk33_2) (.slice Ak17_0 nk17_0 pk17_0) (.slice Ak17_1 nk17_1 pk17_1) (.slice Ak17_2 nk17_2 pk17_2) w35 HM_g0.out.rd HM_w0.out.rd (by omega)).mono ?_
  rintro e w43 ⟨rfl, hb_⟩
  have HX_aM' := Lib.hid ((hb_.block s0 (by omega)).trans HX_aM.out)
  clear HX_aM
  have HX_aM := HX_aM'
  clear HX_aM'
  have HX_w0' := Lib.hid ((hb_.block s18 (by omega)).trans HX_w0.out)
  clear HX_w0
  have HX_w0 := HX_w0'
  clear HX_w0'
  have HX_x0' := Lib.hid ((hb_.block s26 (by omega)).trans HX_x0.out)
  clear HX_x0
  have HX_x0 := HX_x0'
  clear HX_x0'
  have HX_g0' := Lib.hid ((hb_.block s34 (by omega)).trans HX_g0.out)
  clear HX_g0
  have HX_g0 := HX_g0'
  clear HX_g0'
  have HM_t12' := Lib.hid (HM_t12.out.below hb_)
  clear HM_t12
  have HM_t12 := HM_t12'
  clear HM_t12'
  have HM_w0' := Lib.hid (HM_w0.out.below hb_)
  clear HM_w0
  have HM_w0 := HM_w0'
  clear HM_w0'
  have HM_x0' := Lib.hid (HM_x0.out.below hb_)
  clear HM_x0
  have HM_x0 := HM_x0'
  clear HM_x0'
  have HM_g0' := Lib.hid (HM_g0.out.below hb_)
  clear HM_g0
  have HM_g0 := HM_g0'
  clear HM_g0'
  have HBL' := Lib.hid (below_step HBL.out hb_)
  clear HBL
  have HBL := HBL'
  clear HBL'
  obtain ⟨s44, hs44⟩ : ∃ s, w43.heap.size = s := ⟨_, rfl⟩
  have hls44 : s36 ≤ s44 := by have := hb_.size; omega
  clear hb_
  go_wp2_with fail
  have HT : Hid (∀ w', Below w43.heap.size w43 w' → Calls Tryd.prog 18 #[(.agg #[c0_0, c0_1, c0_2])] w' (fun e w'' => ∃ (A_0 : Option Addr) (n_0 p_0 : Nat) (A_1 : Option Addr) (n_1 p_1 : Nat) (A_2 : Option Addr) (n_2 p_2 : Nat), e = .returned (.agg #[.slice A_0 n_0 p_0, .slice A_1 n_1 p_1, .slice A_2 n_2 p_2]) ∧ Rd w'' (eMachine x0) [.slice A_0 n_0 p_0, .slice A_1 n_1 p_1, .slice A_2 n_2 p_2] ∧ Below w43.heap.size w43 w'')) := fun w' hb => (h_toMachine x0 c0_0 c0_1 c0_2 w' (raw_below (below_step HBL.out hb) _ HR0.out) (by omega)).mono (by
    rintro e w'' ⟨u_, rfl, hm_, hb_⟩
    have hsh_ := hm_
    obtain ⟨bs_, hsh_, _⟩ := hsh_
    obtain ⟨A_0, n_0, p_0, A_1, n_1, p_1, A_2, n_2, p_2, rfl⟩ := sinv_Machine hsh_
    exact ⟨A_0, n_0, p_0, A_1, n_1, p_1, A_2, n_2, p_2, rfl, hm_.rd, below_step hb hb_⟩)
  have HE : Hid (∀ w' (A_0 : Option Addr) (n_0 p_0 : Nat) (A_1 : Option Addr) (n_1 p_1 : Nat) (A_2 : Option Addr) (n_2 p_2 : Nat), Below w43.heap.size w43 w' → Rd w' (eMachine x0) [.slice A_0 n_0 p_0, .slice A_1 n_1 p_1, .slice A_2 n_2 p_2] → Calls Tryd.prog 19 #[(.agg #[.slice Ak25_0 nk25_0 pk25_0, .slice Ak25_1 nk25_1 pk25_1, .slice Ak25_2 nk25_2 pk25_2]), (.agg #[.slice A_0 n_0 p_0, .slice A_1 n_1 p_1, .slice A_2 n_2 p_2])] w' (fun e w'' => e = .returned (.bool true) ∧ Below w43.heap.size w43 w'')) := fun w' A_0 n_0 p_0 A_1 n_1 p_1 A_2 n_2 p_2 hb hr => (h_eqMachine x0 (.slice Ak25_0 nk25_0 pk25_0) (.slice Ak25_1 nk25_1 pk25_1) (.slice Ak25_2 nk25_2 pk25_2) (.slice A_0 n_0 p_0) (.slice A_1 n_1 p_1) (.slice A_2 n_2 p_2) w' (HM_x0.out.rd.below hb) hr (by omega)).mono (fun _ _ h => ⟨h.1, below_step hb h.2⟩)
  have hrf_ : Below w43.heap.size w43 w43.drew := (Below.refl _ _).drew
  have HK : Hid (∀ w', Below w43.heap.size w43 w' → w'.cell? ⟨s26, 0, none⟩ = some (.slice Ak25_0 nk25_0 pk25_0) ∧ w'.cell? ⟨s26, 1, none⟩ = some (.slice Ak25_1 nk25_1 pk25_1) ∧ w'.cell? ⟨s26, 2, none⟩ = some (.slice Ak25_2 nk25_2 pk25_2) ∧ w'.cell? ⟨s0, 0, none⟩ = some (c0_0) ∧ w'.cell? ⟨s0, 1, none⟩ = some (c0_1) ∧ w'.cell? ⟨s0, 2, none⟩ = some (c0_2) ∧ Below w43.heap.size w43 w') := fun w' hb => ⟨cell_below hb (cell_of_block HX_x0.out 0), cell_below hb (cell_of_block HX_x0.out 1), cell_below hb (cell_of_block HX_x0.out 2), cell_below hb (cell_of_block HX_aM.out 0), cell_below hb (cell_of_block HX_aM.out 1), cell_below hb (cell_of_block HX_aM.out 2), hb⟩
  go_region_held3 (fun w' => w'.cell? ⟨s26, 0, none⟩ = some (.slice Ak25_0 nk25_0 pk25_0) ∧ w'.cell? ⟨s26, 1, none⟩ = some (.slice Ak25_1 nk25_1 pk25_1) ∧ w'.cell? ⟨s26, 2, none⟩ = some (.slice Ak25_2 nk25_2 pk25_2) ∧ w'.cell? ⟨s0, 0, none⟩ = some (c0_0) ∧ w'.cell? ⟨s0, 1, none⟩ = some (c0_1) ∧ w'.cell? ⟨s0, 2, none⟩ = some (c0_2) ∧ Below w43.heap.size w43 w') (first | exact HK.out _ hrf_ | exact HK.out _ (by assumption)) (first | (go_at_call 18; refine (HT.out _ (by first | exact hrf_ | assumption)).mono ?_; rintro e wt_ ⟨A_0, n_0, p_0, A_1, n_1, p_1, A_2, n_2, p_2, rfl, hrt_, hbt_⟩) | (go_at_call 19; refine (HE.out _ _ _ _ _ _ _ _ _ _ (by first | exact hbt_ | assumption) (by first | exact hrt_ | assumption)).mono ?_; rintro e we_ ⟨rfl, hbe_⟩))
  obtain ⟨w45, hn_⟩ : ∃ z, we_ = z := ⟨_, rfl⟩
  rw [hn_] at hbe_
  rw [hn_]
  have HX_aM' := Lib.hid ((hbe_.block s0 (by omega)).trans HX_aM.out)
  clear HX_aM
  have HX_aM := HX_aM'
  clear HX_aM'
  have HX_w0' := Lib.hid ((hbe_.block s18 (by omega)).trans HX_w0.out)
  clear HX_w0
  have HX_w0 := HX_w0'
  clear HX_w0'
  have HX_x0' := Lib.hid ((hbe_.block s26 (by omega)).trans HX_x0.out)
  clear HX_x0
  have HX_x0 := HX_x0'
  clear HX_x0'
  have HX_g0' := Lib.hid ((hbe_.block s34 (by omega)).trans HX_g0.out)
  clear HX_g0
  have HX_g0 := HX_g0'
  clear HX_g0'
  have HM_t12' := Lib.hid (HM_t12.out.below hbe_)
  clear HM_t12
  have HM_t12 := HM_t12'
  clear HM_t12'
  have HM_w0' := Lib.hid (HM_w0.out.below hbe_)
  clear HM_w0
  have HM_w0 := HM_w0'
  clear HM_w0'
  have HM_x0' := Lib.hid (HM_x0.out.below hbe_)
  clear HM_x0
  have HM_x0 := HM_x0'
  clear HM_x0'
  have HM_g0' := Lib.hid (HM_g0.out.below hbe_)
  clear HM_g0
  have HM_g0 := HM_g0'
  clear HM_g0'
  have HBL' := Lib.hid (below_step HBL.out hbe_)
  clear HBL
  have HBL := HBL'
  clear HBL'
  obtain ⟨s46, hs46⟩ : ∃ s, w45.heap.size = s := ⟨_, rfl⟩
  have hls46 : s44 ≤ s46 := by have := hbe_.size; omega
  clear hbe_ hbt_ HT HE HK hrf_ hn_ hrt_
  have hc47 : w45.cell? ⟨s26, 0, none⟩ = some (.slice Ak25_0 nk25_0 pk25_0) := cell_of_block HX_x0.out 0
  have hc48 : w45.cell? ⟨s26, 1, none⟩ = some (.slice Ak25_1 nk25_1 pk25_1) := cell_of_block HX_x0.out 1
  have hc49 : w45.cell? ⟨s26, 2, none⟩ = some (.slice Ak25_2 nk25_2 pk25_2) := cell_of_block HX_x0.out 2
  go_wp2_with fail
  have hcb := cntb_Machine (x0)
  have hct := cntTop_le (eMachine x0)
  refine (mark_in HM_x0.out (fun bs_ ho_ hn_ => h_markMachine (x0) (.slice Ak25_0 nk25_0 pk25_0) (.slice Ak25_1 nk25_1 pk25_1) (.slice Ak25_2 nk25_2 pk25_2) bs_ 1 w45 ho_ hn_ (by omega) (by omega))).mono ?_
  rintro e w50 ⟨rfl, hm_, ht_⟩
  obtain ⟨k51, hkk51⟩ : ∃ q : Nat, 1 + (eMachine x0).cntTop = q := ⟨_, rfl⟩
  rw [hkk51]
  have HKk51 := Lib.hid hkk51
  clear hcb hct hkk51
  have HX_aM' := Lib.hid ((ht_.block s0 (by omega) (by omega)).trans HX_aM.out)
  clear HX_aM
  have HX_aM := HX_aM'
  clear HX_aM'
  have HX_w0' := Lib.hid ((ht_.block s18 (by omega) (by omega)).trans HX_w0.out)
  clear HX_w0
  have HX_w0 := HX_w0'
  clear HX_w0'
  have HX_x0' := Lib.hid ((ht_.block s26 (by omega) (by omega)).trans HX_x0.out)
  clear HX_x0
  have HX_x0 := HX_x0'
  clear HX_x0'
  have HX_g0' := Lib.hid ((ht_.block s34 (by omega) (by omega)).trans HX_g0.out)
  clear HX_g0
  have HX_g0 := HX_g0'
  clear HX_g0'
  have HM_t12' := Lib.hid (HM_t12.out.turn ht_ (by omega))
  clear HM_t12
  have HM_t12 := HM_t12'
  clear HM_t12'
  have HM_w0' := Lib.hid (HM_w0.out.turn ht_ (by omega))
  clear HM_w0
  have HM_w0 := HM_w0'
  clear HM_w0'
  have HM_g0' := Lib.hid (HM_g0.out.turn ht_ (by omega))
  clear HM_g0
  have HM_g0 := HM_g0'
  clear HM_g0'
  clear HM_x0
  have HM_x0 := Lib.hid hm_
  have HBL' := Lib.hid (HBL.out.trans (ht_.below (B := w.heap.size) (by omega) (by omega)))
  clear HBL
  have HBL := HBL'
  clear HBL'
  obtain ⟨s52, hs52⟩ : ∃ s, w50.heap.size = s := ⟨_, rfl⟩
  have hls52 : s46 ≤ s52 := by have := ht_.size; omega
  clear hm_ ht_
  have hc53 : w50.cell? ⟨s34, 0, none⟩ = some (.slice Ak33_0 nk33_0 pk33_0) := cell_of_block HX_g0.out 0
  have hc54 : w50.cell? ⟨s34, 1, none⟩ = some (.slice Ak33_1 nk33_1 pk33_1) := cell_of_block HX_g0.out 1
  have hc55 : w50.cell? ⟨s34, 2, none⟩ = some (.slice Ak33_2 nk33_2 pk33_2) := cell_of_block HX_g0.out 2
  have hc56 : w50.cell? ⟨s18, 0, none⟩ = some (.slice Ak17_0 nk17_0 pk17_0) := cell_of_block HX_w0.out 0
  have hc57 : w50.cell? ⟨s18, 1, none⟩ = some (.slice Ak17_1 nk17_1 pk17_1) := cell_of_block HX_w0.out 1
  have hc58 : w50.cell? ⟨s18, 2, none⟩ = some (.slice Ak17_2 nk17_2 pk17_2) := cell_of_block HX_w0.out 2
  go_wp2_with fail
  refine (h_eqMachine (pStore x0 x1 x2).1 (.slice Ak33_0 nk33_0 pk33_0) (.slice Ak33_1 nk33_1 pk33_1) (.slice Ak33_2 nk33_2 pk33_2) (.slice Ak17_0 nk17_0 pk17_0) (.slice Ak17_1 nk17_1 pk17_1) (.slice Ak17_2 nk17_2 pk17_2) w50 HM_g0.out.rd HM_w0.out.rd (by omega)).mono ?_
  rintro e w59 ⟨rfl, hb_⟩
  have HX_aM' := Lib.hid ((hb_.block s0 (by omega)).trans HX_aM.out)
  clear HX_aM
  have HX_aM := HX_aM'
  clear HX_aM'
  have HX_w0' := Lib.hid ((hb_.block s18 (by omega)).trans HX_w0.out)
  clear HX_w0
  have HX_w0 := HX_w0'
  clear HX_w0'
  have HX_x0' := Lib.hid ((hb_.block s26 (by omega)).trans HX_x0.out)
  clear HX_x0
  have HX_x0 := HX_x0'
  clear HX_x0'
  have HX_g0' := Lib.hid ((hb_.block s34 (by omega)).trans HX_g0.out)
  clear HX_g0
  have HX_g0 := HX_g0'
  clear HX_g0'
  have HM_t12' := Lib.hid (HM_t12.out.below hb_)
  clear HM_t12
  have HM_t12 := HM_t12'
  clear HM_t12'
  have HM_w0' := Lib.hid (HM_w0.out.below hb_)
  clear HM_w0
  have HM_w0 := HM_w0'
  clear HM_w0'
  have HM_x0' := Lib.hid (HM_x0.out.below hb_)
  clear HM_x0
  have HM_x0 := HM_x0'
  clear HM_x0'
  have HM_g0' := Lib.hid (HM_g0.out.below hb_)
  clear HM_g0
  have HM_g0 := HM_g0'
  clear HM_g0'
  have HBL' := Lib.hid (below_step HBL.out hb_)
  clear HBL
  have HBL := HBL'
  clear HBL'
  obtain ⟨s60, hs60⟩ : ∃ s, w59.heap.size = s := ⟨_, rfl⟩
  have hls60 : s52 ≤ s60 := by have := hb_.size; omega
  clear hb_
  have hc61 : w59.cell? ⟨s34, 0, none⟩ = some (.slice Ak33_0 nk33_0 pk33_0) := cell_of_block HX_g0.out 0
  have hc62 : w59.cell? ⟨s34, 1, none⟩ = some (.slice Ak33_1 nk33_1 pk33_1) := cell_of_block HX_g0.out 1
  have hc63 : w59.cell? ⟨s34, 2, none⟩ = some (.slice Ak33_2 nk33_2 pk33_2) := cell_of_block HX_g0.out 2
  go_wp2_with fail
  have hcb := cntb_Machine (pStore x0 x1 x2).1
  have hct := cntTop_le (eMachine (pStore x0 x1 x2).1)
  refine (mark_in HM_g0.out (fun bs_ ho_ hn_ => h_markMachine (pStore x0 x1 x2).1 (.slice Ak33_0 nk33_0 pk33_0) (.slice Ak33_1 nk33_1 pk33_1) (.slice Ak33_2 nk33_2 pk33_2) bs_ 1 w59 ho_ hn_ (by omega) (by omega))).mono ?_
  rintro e w64 ⟨rfl, hm_, ht_⟩
  obtain ⟨k65, hkk65⟩ : ∃ q : Nat, 1 + (eMachine (pStore x0 x1 x2).1).cntTop = q := ⟨_, rfl⟩
  rw [hkk65]
  have HKk65 := Lib.hid hkk65
  clear hcb hct hkk65
  have HX_aM' := Lib.hid ((ht_.block s0 (by omega) (by omega)).trans HX_aM.out)
  clear HX_aM
  have HX_aM := HX_aM'
  clear HX_aM'
  have HX_w0' := Lib.hid ((ht_.block s18 (by omega) (by omega)).trans HX_w0.out)
  clear HX_w0
  have HX_w0 := HX_w0'
  clear HX_w0'
  have HX_x0' := Lib.hid ((ht_.block s26 (by omega) (by omega)).trans HX_x0.out)
  clear HX_x0
  have HX_x0 := HX_x0'
  clear HX_x0'
  have HX_g0' := Lib.hid ((ht_.block s34 (by omega) (by omega)).trans HX_g0.out)
  clear HX_g0
  have HX_g0 := HX_g0'
  clear HX_g0'
  have HM_t12' := Lib.hid (HM_t12.out.turn ht_ (by omega))
  clear HM_t12
  have HM_t12 := HM_t12'
  clear HM_t12'
  have HM_w0' := Lib.hid (HM_w0.out.turn ht_ (by omega))
  clear HM_w0
  have HM_w0 := HM_w0'
  clear HM_w0'
  have HM_x0' := Lib.hid (HM_x0.out.turn ht_ (by omega))
  clear HM_x0
  have HM_x0 := HM_x0'
  clear HM_x0'
  clear HM_g0
  have HM_g0 := Lib.hid hm_
  have HBL' := Lib.hid (HBL.out.trans (ht_.below (B := w.heap.size) (by omega) (by omega)))
  clear HBL
  have HBL := HBL'
  clear HBL'
  obtain ⟨s66, hs66⟩ : ∃ s, w64.heap.size = s := ⟨_, rfl⟩
  have hls66 : s60 ≤ s66 := by have := ht_.size; omega
  clear hm_ ht_
  have hc67 : w64.cell? ⟨s34, 0, none⟩ = some (.slice Ak33_0 nk33_0 pk33_0) := cell_of_block HX_g0.out 0
  have hc68 : w64.cell? ⟨s34, 1, none⟩ = some (.slice Ak33_1 nk33_1 pk33_1) := cell_of_block HX_g0.out 1
  have hc69 : w64.cell? ⟨s34, 2, none⟩ = some (.slice Ak33_2 nk33_2 pk33_2) := cell_of_block HX_g0.out 2
  go_wp2_with fail
  have hcb := cntb_Machine (pStore x0 x1 x2).1
  have hct := cntTop_le (eMachine (pStore x0 x1 x2).1)
  refine (h_heldMachine (pStore x0 x1 x2).1 (.slice Ak33_0 nk33_0 pk33_0) (.slice Ak33_1 nk33_1 pk33_1) (.slice Ak33_2 nk33_2 pk33_2) 1 w64 HM_g0.out.rd (by omega) (by omega)).mono ?_
  rintro e w70 ⟨rfl, hb_⟩
  rw [HKk65.out]
  clear hcb hct
  have HX_aM' := Lib.hid ((hb_.block s0 (by omega)).trans HX_aM.out)
  clear HX_aM
  have HX_aM := HX_aM'
  clear HX_aM'
  have HX_w0' := Lib.hid ((hb_.block s18 (by omega)).trans HX_w0.out)
  clear HX_w0
  have HX_w0 := HX_w0'
  clear HX_w0'
  have HX_x0' := Lib.hid ((hb_.block s26 (by omega)).trans HX_x0.out)
  clear HX_x0
  have HX_x0 := HX_x0'
  clear HX_x0'
  have HX_g0' := Lib.hid ((hb_.block s34 (by omega)).trans HX_g0.out)
  clear HX_g0
  have HX_g0 := HX_g0'
  clear HX_g0'
  have HM_t12' := Lib.hid (HM_t12.out.below hb_)
  clear HM_t12
  have HM_t12 := HM_t12'
  clear HM_t12'
  have HM_w0' := Lib.hid (HM_w0.out.below hb_)
  clear HM_w0
  have HM_w0 := HM_w0'
  clear HM_w0'
  have HM_x0' := Lib.hid (HM_x0.out.below hb_)
  clear HM_x0
  have HM_x0 := HM_x0'
  clear HM_x0'
  have HM_g0' := Lib.hid (HM_g0.out.below hb_)
  clear HM_g0
  have HM_g0 := HM_g0'
  clear HM_g0'
  have HBL' := Lib.hid (below_step HBL.out hb_)
  clear HBL
  have HBL := HBL'
  clear HBL'
  obtain ⟨s71, hs71⟩ : ∃ s, w70.heap.size = s := ⟨_, rfl⟩
  have hls71 : s66 ≤ s71 := by have := hb_.size; omega
  clear hb_
  have hc72 : w70.cell? ⟨s0, 0, none⟩ = some (c0_0) := cell_of_block HX_aM.out 0
  have hc73 : w70.cell? ⟨s0, 1, none⟩ = some (c0_1) := cell_of_block HX_aM.out 1
  have hc74 : w70.cell? ⟨s0, 2, none⟩ = some (c0_2) := cell_of_block HX_aM.out 2
  go_wp2_with fail
  refine (h_toMachine x0 c0_0 c0_1 c0_2 w70 (raw_below HBL.out _ HR0.out) (by omega)).mono ?_
  rintro e w76 ⟨u_, rfl, hm_, hb_⟩
  have hsh_ := hm_
  obtain ⟨bs_, hsh_, _⟩ := hsh_
  obtain ⟨Ak77_0, nk77_0, pk77_0, Ak77_1, nk77_1, pk77_1, Ak77_2, nk77_2, pk77_2, rfl⟩ := sinv_Machine hsh_
  clear hsh_
  rw [hs71] at hm_
  have HX_aM' := Lib.hid ((hb_.block s0 (by omega)).trans HX_aM.out)
  clear HX_aM
  have HX_aM := HX_aM'
  clear HX_aM'
  have HX_w0' := Lib.hid ((hb_.block s18 (by omega)).trans HX_w0.out)
  clear HX_w0
  have HX_w0 := HX_w0'
  clear HX_w0'
  have HX_x0' := Lib.hid ((hb_.block s26 (by omega)).trans HX_x0.out)
  clear HX_x0
  have HX_x0 := HX_x0'
  clear HX_x0'
  have HX_g0' := Lib.hid ((hb_.block s34 (by omega)).trans HX_g0.out)
  clear HX_g0
  have HX_g0 := HX_g0'
  clear HX_g0'
  have HM_t12' := Lib.hid (HM_t12.out.below hb_)
  clear HM_t12
  have HM_t12 := HM_t12'
  clear HM_t12'
  have HM_w0' := Lib.hid (HM_w0.out.below hb_)
  clear HM_w0
  have HM_w0 := HM_w0'
  clear HM_w0'
  have HM_x0' := Lib.hid (HM_x0.out.below hb_)
  clear HM_x0
  have HM_x0 := HM_x0'
  clear HM_x0'
  have HM_g0' := Lib.hid (HM_g0.out.below hb_)
  clear HM_g0
  have HM_g0 := HM_g0'
  clear HM_g0'
  have HBL' := Lib.hid (below_step HBL.out hb_)
  clear HBL
  have HBL := HBL'
  clear HBL'
  obtain ⟨s78, hs78⟩ : ∃ s, w76.heap.size = s := ⟨_, rfl⟩
  have hls78 : s71 ≤ s78 := by have := hb_.size; omega
  have HM_t75 := Lib.hid (hm_.toIn (Nat.le_of_eq hs78))
  clear hm_ hb_
  go_wp2_with fail
  refine (impl_Store x0 (.slice Ak77_0 nk77_0 pk77_0) (.slice Ak77_1 nk77_1 pk77_1) (.slice Ak77_2 nk77_2 pk77_2) x1 x2 w76 HM_t75.out.rd hsz0 hw1 hw2 (HT_.out.below HBL.out).sents).mono ?_
  rintro e w79 ⟨u_, rfl, hm_, hb_⟩
  have hsh_ := hm_
  obtain ⟨bs_, hsh_, _⟩ := hsh_
  obtain ⟨Ak80_0, nk80_0, pk80_0, Ak80_1, nk80_1, pk80_1, Ak80_2, nk80_2, pk80_2, rfl⟩ := sinv_Machine hsh_
  clear hsh_
  rw [hs78] at hm_
  have HX_aM' := Lib.hid ((hb_.block s0 (by omega)).trans HX_aM.out)
  clear HX_aM
  have HX_aM := HX_aM'
  clear HX_aM'
  have HX_w0' := Lib.hid ((hb_.block s18 (by omega)).trans HX_w0.out)
  clear HX_w0
  have HX_w0 := HX_w0'
  clear HX_w0'
  have HX_x0' := Lib.hid ((hb_.block s26 (by omega)).trans HX_x0.out)
  clear HX_x0
  have HX_x0 := HX_x0'
  clear HX_x0'
  have HX_g0' := Lib.hid ((hb_.block s34 (by omega)).trans HX_g0.out)
  clear HX_g0
  have HX_g0 := HX_g0'
  clear HX_g0'
  have HM_t12' := Lib.hid (HM_t12.out.below hb_)
  clear HM_t12
  have HM_t12 := HM_t12'
  clear HM_t12'
  have HM_w0' := Lib.hid (HM_w0.out.below hb_)
  clear HM_w0
  have HM_w0 := HM_w0'
  clear HM_w0'
  have HM_x0' := Lib.hid (HM_x0.out.below hb_)
  clear HM_x0
  have HM_x0 := HM_x0'
  clear HM_x0'
  have HM_g0' := Lib.hid (HM_g0.out.below hb_)
  clear HM_g0
  have HM_g0 := HM_g0'
  clear HM_g0'
  have HM_t75' := Lib.hid (HM_t75.out.below hb_)
  clear HM_t75
  have HM_t75 := HM_t75'
  clear HM_t75'
  have HBL' := Lib.hid (below_step HBL.out hb_)
  clear HBL
  have HBL := HBL'
  clear HBL'
  obtain ⟨s81, hs81⟩ : ∃ s, w79.heap.size = s := ⟨_, rfl⟩
  have hls81 : s78 ≤ s81 := by have := hb_.size; omega
  have HM_h0 := Lib.hid (hm_.toIn (Nat.le_of_eq hs81))
  clear hm_ hb_
  have HXP_aM := HX_aM
  have HXP_w0 := HX_w0
  have HXP_x0 := HX_x0
  have HXP_g0 := HX_g0
  have hb_ : Below w79.heap.size w79 (w79.alloc (.cells #[.slice Ak80_0 nk80_0 pk80_0, .slice Ak80_1 nk80_1 pk80_1, .slice Ak80_2 nk80_2 pk80_2] 32)) := (Below.refl _ _).alloc (Nat.le_refl _) _
  have hx_ : (w79.alloc (.cells #[.slice Ak80_0 nk80_0 pk80_0, .slice Ak80_1 nk80_1 pk80_1, .slice Ak80_2 nk80_2 pk80_2] 32)).heap[s81]? = some (.cells #[.slice Ak80_0 nk80_0 pk80_0, .slice Ak80_1 nk80_1 pk80_1, .slice Ak80_2 nk80_2 pk80_2] 32 (0, 0)) := by rw [← hs81]; exact heap_alloc_new _ _
  have hz_ : (w79.alloc (.cells #[.slice Ak80_0 nk80_0 pk80_0, .slice Ak80_1 nk80_1 pk80_1, .slice Ak80_2 nk80_2 pk80_2] 32)).heap.size = s81 + 1 := by simp [hs81]
  obtain ⟨w82, HW_w82⟩ : ∃ z, (w79.alloc (.cells #[.slice Ak80_0 nk80_0 pk80_0, .slice Ak80_1 nk80_1 pk80_1, .slice Ak80_2 nk80_2 pk80_2] 32)) = z := ⟨_, rfl⟩
  rw [HW_w82] at hb_ hx_ hz_
  have HX_aM' := Lib.hid ((hb_.block s0 (by omega)).trans HX_aM.out)
  clear HX_aM
  have HX_aM := HX_aM'
  clear HX_aM'
  have HX_w0' := Lib.hid ((hb_.block s18 (by omega)).trans HX_w0.out)
  clear HX_w0
  have HX_w0 := HX_w0'
  clear HX_w0'
  have HX_x0' := Lib.hid ((hb_.block s26 (by omega)).trans HX_x0.out)
  clear HX_x0
  have HX_x0 := HX_x0'
  clear HX_x0'
  have HX_g0' := Lib.hid ((hb_.block s34 (by omega)).trans HX_g0.out)
  clear HX_g0
  have HX_g0 := HX_g0'
  clear HX_g0'
  have HM_t12' := Lib.hid (HM_t12.out.below hb_)
  clear HM_t12
  have HM_t12 := HM_t12'
  clear HM_t12'
  have HM_w0' := Lib.hid (HM_w0.out.below hb_)
  clear HM_w0
  have HM_w0 := HM_w0'
  clear HM_w0'
  have HM_x0' := Lib.hid (HM_x0.out.below hb_)
  clear HM_x0
  have HM_x0 := HM_x0'
  clear HM_x0'
  have HM_g0' := Lib.hid (HM_g0.out.below hb_)
  clear HM_g0
  have HM_g0 := HM_g0'
  clear HM_g0'
  have HM_t75' := Lib.hid (HM_t75.out.below hb_)
  clear HM_t75
  have HM_t75 := HM_t75'
  clear HM_t75'
  have HM_h0' := Lib.hid (HM_h0.out.below hb_)
  clear HM_h0
  have HM_h0 := HM_h0'
  clear HM_h0'
  have HBL' := Lib.hid (below_step HBL.out hb_)
  clear HBL
  have HBL := HBL'
  clear HBL'
  have HX_h0 := Lib.hid hx_
  clear hx_
  obtain ⟨s83, hs83⟩ : ∃ s, w82.heap.size = s := ⟨_, rfl⟩
  have hls83 : s81 + 1 = s83 := by omega
  have HWE_w82 := Lib.hid HW_w82
  clear HW_w82 hb_ hz_
  have hc84 : w82.cell? ⟨s81, 0, none⟩ = some (.slice Ak80_0 nk80_0 pk80_0) := cell_of_block HX_h0.out 0
  have hc85 : w82.cell? ⟨s81, 1, none⟩ = some (.slice Ak80_1 nk80_1 pk80_1) := cell_of_block HX_h0.out 1
  have hc86 : w82.cell? ⟨s81, 2, none⟩ = some (.slice Ak80_2 nk80_2 pk80_2) := cell_of_block HX_h0.out 2
  have : s18 < s81 := by omega
  have : w79.cell? ⟨s18, 0, none⟩ = some (.slice Ak17_0 nk17_0 pk17_0) := cell_of_block HXP_w0.out 0
  have : w79.cell? ⟨s18, 1, none⟩ = some (.slice Ak17_1 nk17_1 pk17_1) := cell_of_block HXP_w0.out 1
  have : w79.cell? ⟨s18, 2, none⟩ = some (.slice Ak17_2 nk17_2 pk17_2) := cell_of_block HXP_w0.out 2
  have hc87 : w82.cell? ⟨s18, 0, none⟩ = some (.slice Ak17_0 nk17_0 pk17_0) := cell_of_block HX_w0.out 0
  have hc88 : w82.cell? ⟨s18, 1, none⟩ = some (.slice Ak17_1 nk17_1 pk17_1) := cell_of_block HX_w0.out 1
  have hc89 : w82.cell? ⟨s18, 2, none⟩ = some (.slice Ak17_2 nk17_2 pk17_2) := cell_of_block HX_w0.out 2
  go_wp2_with fail
  rw [HWE_w82.out]
  clear HWE_w82 HXP_aM HXP_w0 HXP_x0 HXP_g0
  refine (h_eqMachine (pStore x0 x1 x2).1 (.slice Ak80_0 nk80_0 pk80_0) (.slice Ak80_1 nk80_1 pk80_1) (.slice Ak80_2 nk80_2 pk80_2) (.slice Ak17_0 nk17_0 pk17_0) (.slice Ak17_1 nk17_1 pk17_1) (.slice Ak17_2 nk17_2 pk17_2) w82 HM_h0.out.rd HM_w0.out.rd (by omega)).mono ?_
  rintro e w90 ⟨rfl, hb_⟩
  have HX_aM' := Lib.hid ((hb_.block s0 (by omega)).trans HX_aM.out)
  clear HX_aM
  have HX_aM := HX_aM'
  clear HX_aM'
  have HX_w0' := Lib.hid ((hb_.block s18 (by omega)).trans HX_w0.out)
  clear HX_w0
  have HX_w0 := HX_w0'
  clear HX_w0'
  have HX_x0' := Lib.hid ((hb_.block s26 (by omega)).trans HX_x0.out)
  clear HX_x0
  have HX_x0 := HX_x0'
  clear HX_x0'
  have HX_g0' := Lib.hid ((hb_.block s34 (by omega)).trans HX_g0.out)
  clear HX_g0
  have HX_g0 := HX_g0'
  clear HX_g0'
  have HX_h0' := Lib.hid ((hb_.block s81 (by omega)).trans HX_h0.out)
  clear HX_h0
  have HX_h0 := HX_h0'
  clear HX_h0'
  have HM_t12' := Lib.hid (HM_t12.out.below hb_)
  clear HM_t12
  have HM_t12 := HM_t12'
  clear HM_t12'
  have HM_w0' := Lib.hid (HM_w0.out.below hb_)
  clear HM_w0
  have HM_w0 := HM_w0'
  clear HM_w0'
  have HM_x0' := Lib.hid (HM_x0.out.below hb_)
  clear HM_x0
  have HM_x0 := HM_x0'
  clear HM_x0'
  have HM_g0' := Lib.hid (HM_g0.out.below hb_)
  clear HM_g0
  have HM_g0 := HM_g0'
  clear HM_g0'
  have HM_t75' := Lib.hid (HM_t75.out.below hb_)
  clear HM_t75
  have HM_t75 := HM_t75'
  clear HM_t75'
  have HM_h0' := Lib.hid (HM_h0.out.below hb_)
  clear HM_h0
  have HM_h0 := HM_h0'
  clear HM_h0'
  have HBL' := Lib.hid (below_step HBL.out hb_)
  clear HBL
  have HBL := HBL'
  clear HBL'
  obtain ⟨s91, hs91⟩ : ∃ s, w90.heap.size = s := ⟨_, rfl⟩
  have hls91 : s83 ≤ s91 := by have := hb_.size; omega
  clear hb_
  have hc92 : w90.cell? ⟨s34, 0, none⟩ = some (.slice Ak33_0 nk33_0 pk33_0) := cell_of_block HX_g0.out 0
  have hc93 : w90.cell? ⟨s34, 1, none⟩ = some (.slice Ak33_1 nk33_1 pk33_1) := cell_of_block HX_g0.out 1
  have hc94 : w90.cell? ⟨s34, 2, none⟩ = some (.slice Ak33_2 nk33_2 pk33_2) := cell_of_block HX_g0.out 2
  go_wp2_with fail
  have hcb := cntb_Machine (pStore x0 x1 x2).1
  have hct := cntTop_le (eMachine (pStore x0 x1 x2).1)
  refine (h_heldMachine (pStore x0 x1 x2).1 (.slice Ak33_0 nk33_0 pk33_0) (.slice Ak33_1 nk33_1 pk33_1) (.slice Ak33_2 nk33_2 pk33_2) 1 w90 HM_g0.out.rd (by omega) (by omega)).mono ?_
  rintro e w95 ⟨rfl, hb_⟩
  rw [HKk65.out]
  clear hcb hct
  have HX_aM' := Lib.hid ((hb_.block s0 (by omega)).trans HX_aM.out)
  clear HX_aM
  have HX_aM := HX_aM'
  clear HX_aM'
  have HX_w0' := Lib.hid ((hb_.block s18 (by omega)).trans HX_w0.out)
  clear HX_w0
  have HX_w0 := HX_w0'
  clear HX_w0'
  have HX_x0' := Lib.hid ((hb_.block s26 (by omega)).trans HX_x0.out)
  clear HX_x0
  have HX_x0 := HX_x0'
  clear HX_x0'
  have HX_g0' := Lib.hid ((hb_.block s34 (by omega)).trans HX_g0.out)
  clear HX_g0
  have HX_g0 := HX_g0'
  clear HX_g0'
  have HX_h0' := Lib.hid ((hb_.block s81 (by omega)).trans HX_h0.out)
  clear HX_h0
  have HX_h0 := HX_h0'
  clear HX_h0'
  have HM_t12' := Lib.hid (HM_t12.out.below hb_)
  clear HM_t12
  have HM_t12 := HM_t12'
  clear HM_t12'
  have HM_w0' := Lib.hid (HM_w0.out.below hb_)
  clear HM_w0
  have HM_w0 := HM_w0'
  clear HM_w0'
  have HM_x0' := Lib.hid (HM_x0.out.below hb_)
  clear HM_x0
  have HM_x0 := HM_x0'
  clear HM_x0'
  have HM_g0' := Lib.hid (HM_g0.out.below hb_)
  clear HM_g0
  have HM_g0 := HM_g0'
  clear HM_g0'
  have HM_t75' := Lib.hid (HM_t75.out.below hb_)
  clear HM_t75
  have HM_t75 := HM_t75'
  clear HM_t75'
  have HM_h0' := Lib.hid (HM_h0.out.below hb_)
  clear HM_h0
  have HM_h0 := HM_h0'
  clear HM_h0'
  have HBL' := Lib.hid (below_step HBL.out hb_)
  clear HBL
  have HBL := HBL'
  clear HBL'
  obtain ⟨s96, hs96⟩ : ∃ s, w95.heap.size = s := ⟨_, rfl⟩
  have hls96 : s91 ≤ s96 := by have := hb_.size; omega
  clear hb_
  go_wp2
  go_ret
  exact ⟨rfl, HBL.out⟩
set_option maxRecDepth 100000 in
theorem contract (H : Type) (enc : TypeId × Value → H) (W : World) (base : Nat) (args : Array Value) (ds gs : List (DataW H)) (before : List MemPlace)
    (hval0 : ∀ (j : Nat) t v, Tryd.f6.params[j]? = some t → args[j]? = some v → Value.okWide Tryd.prog W .any base t v)
    (hW : DataW.Whole enc Tryd.prog Tryd.f6.params.toList Rows.fnExactStoreSpec.vars false W args.toList ds gs before) (hT : Laid.LErrPageErrWriteErrValue W) :
    Calls Tryd.prog 6 args W fun e W' => ∃ v, e = .returned v ∧ Rows.fnExactStoreSpec.post enc Tryd.prog Tryd.f6 false true false false W args v W' := by
  have hval : ∀ (j : Nat) t v, Tryd.f6.params[j]? = some t → args[j]? = some v → Value.okWide Tryd.prog W .any base t v := hval0
  have hW' := hW
  obtain ⟨p, q, hA0, hV, rfl, hfz, hnd⟩ := hW
  have hA : DataW.TrodAll enc Tryd.prog W 0 (fun _ => true) true Tryd.f6.params.toList args.toList ds p := hA0
  rw [Tryd.params6] at hA hval
  obtain ⟨v0, vs0, d0, ds0, p0, q0, hargs, rfl, rfl, h0, r0⟩ := trodAll_cons hA
  obtain ⟨v1, vs1, d1, ds1, p1, q1, rfl, rfl, rfl, h1, r1⟩ := trodAll_cons r0
  obtain ⟨v2, vs2, d2, ds2, p2, q2, rfl, rfl, rfl, h2, r2⟩ := trodAll_cons r1
  obtain ⟨rfl, rfl, rfl⟩ := trodAll_nil r2
  obtain rfl : args = #[v0, v1, v2] := by cases args; simp_all
  obtain ⟨g0, g1, g2, rfl⟩ := Laid.vars3 hV
  have k0 := h0
  have lt0 : ∀ x ∈ p0, x.block < W.heap.size := by obtain ⟨m, hm⟩ := k0; exact DataW.trod_lt m _ _ _ hm
  obtain ⟨x0, raw0, ok0⟩ := opens_trod opens_Machine h0
  obtain ⟨cs0, rfl, _⟩ := okWide_struct Tryd.underlying50 (hval 0 50 v0 rfl rfl)
  obtain ⟨cs0⟩ := cs0
  have raw0 : Raw W (eMachine x0) cs0 := raw0
  obtain ⟨c0_0, c0_1, c0_2, rfl⟩ := rinv_Machine raw0
  obtain ⟨a1, rfl, rfl, rfl, w1⟩ := open_int Tryd.underlying3 (hval 1 3 v1 rfl rfl) h1
  obtain ⟨a2, rfl, rfl, rfl, w2⟩ := open_int Tryd.underlying3 (hval 2 3 v2 rfl rfl) h2
  clear hA0 hval0
  refine (walk x0 c0_0 c0_1 c0_2 a1 a2 W raw0 ok0 (okI_wf w1) (okI_wf w2) hT).mono fun e W' ⟨he, bel⟩ => ?_
  subst he
  exact ⟨_, rfl, _, _, _, [], _, q, hW', trodAll_mk1 (shut_bool Tryd.underlying4 _), (trodAll_cons_mk (Below.trod laidOut (by kernel_rfl) (of_decide_eq_true (by kernel_rfl)) k0 bel lt0) (trodAll_cons_mk (shut_int Tryd.underlying3 w1) (trodAll_cons_mk (shut_int Tryd.underlying3 w2) trodAll_mk0))), bel.trodVars laidOut (by kernel_rfl) hV, bel.frame _, fun h => by cases h⟩
theorem laid_met (os : Os) : laidMet Tryd.prog Rows.fnExactStoreRow.laid ((Laid.world os).forCall (fun _ _ => 0) ⟨#[], #[.agg #[.slice none 0 0, .slice none 0 0, .slice none 0 0], .int .i64 0, .int .i64 0], []⟩).memory :=
  laidMet_of_run' 8 (by kernel_rfl) (by kernel_rfl)
theorem witness_row (os : Os) {H : Type} (enc : TypeId × Value → H) :
    (OpenSpec.ofChange Rows.fnExactStoreSpec).preRow enc Tryd.prog Tryd.f6 Rows.fnExactStoreRow.domain false Rows.fnExactStoreRow.laid ((Laid.world os).forCall (fun _ _ => 0) ⟨#[], #[.agg #[.slice none 0 0, .slice none 0 0, .slice none 0 0], .int .i64 0, .int .i64 0], []⟩).memory #[.agg #[.slice none 0 0, .slice none 0 0, .slice none 0 0], .int .i64 0, .int .i64 0] := by
  have hw : (DataW.whole enc Tryd.prog ((Laid.world os).forCall (fun _ _ => 0) ⟨#[], #[.agg #[.slice none 0 0, .slice none 0 0, .slice none 0 0], .int .i64 0, .int .i64 0], []⟩).memory Tryd.f6.params.toList Rows.fnExactStoreSpec.vars false (#[.agg #[.slice none 0 0, .slice none 0 0, .slice none 0 0], .int .i64 0, .int .i64 0] : Array Value).toList 8).map (fun x => (x.1, x.2.1)) = some ([.agg [.agg [.nil, .nil], .agg [.nil]], .lit (.int .i64 0), .lit (.int .i64 0)], [.held (enc (133, .pointer (some ⟨(World.settled Tryd.prog os).heap.size + 1, 0, none⟩))), .held (enc (133, .pointer (some ⟨(World.settled Tryd.prog os).heap.size + 2, 0, none⟩))), .held (enc (133, .pointer (some ⟨(World.settled Tryd.prog os).heap.size + 0, 0, none⟩)))]) := by kernel_rfl
  obtain ⟨⟨x1, x2, x3⟩, hx, hx1⟩ := Option.map_eq_some_iff.1 hw
  simp only [Prod.mk.injEq] at hx1
  obtain ⟨rfl, rfl⟩ := hx1
  exact OpenSpec.preRow_of_cond 8 hx (by kernel_rfl) (fun k hk => by cases hk) (by kernel_rfl) (laid_met os)

set_option maxRecDepth 100000 in
theorem lifted (os : Os) (started : os.Started) (H : Type) (enc : TypeId × Value → H) (F : Stop.Interp) :
    ReturnsInHanded {} Tryd.checked os 6 .any ((OpenSpec.ofChange Rows.fnExactStoreSpec).preRow enc Tryd.prog Tryd.f6 Rows.fnExactStoreRow.domain false Rows.fnExactStoreRow.laid) (((OpenSpec.ofChange Rows.fnExactStoreSpec).at F).post enc Tryd.prog Tryd.f6 false true false false) := by
  refine returnsInHanded_of_row (C := Tryd.checked) (s := OpenSpec.ofChange Rows.fnExactStoreSpec) own started (by kernel_rfl) Tryd.func6
    (witness_row_atRef (enc := enc) (C := Tryd.checked) false (Laid.world os) #[.agg #[.slice none 0 0, .slice none 0 0, .slice none 0 0], .int .i64 0, .int .i64 0] rfl (by kernel_rfl) (by kernel_rfl) (by kernel_rfl) (witness_row os enc)) ?_
  intro W base args ds gs before hval hW _ _ _ hL _ _
  exact contract H enc W base args ds gs before hval hW (Laid.has_1 hL)

theorem said : Rows.FnExactStoreSaid :=
  OpenClaim.holds_of_cond 6 Tryd.f6 rfl rfl rfl rfl rfl rfl rfl ⟨rfl, rfl, rfl, rfl, rfl⟩ rfl rfl rfl rfl rfl (by kernel_rfl) Tryd.func6 (by kernel_rfl)
    (of_decide_eq_true (by kernel_rfl)) (by unfold Func.isWrapper; first | (rw [if_pos (by decide +kernel)]; kernel_rfl) | (rw [if_neg (by decide +kernel)]; exact ⟨rfl, rfl⟩))
    (fun os started H enc _ F => by rw [OpenClaim.pre_eq_preRow]; exact lifted os started H enc F)

theorem plain (f : FuncId) (fn : Func) (hf : Tryd.pinned.checked.prog.funcNamed "loop.example/g00978/laws.FnExactStore" = some f) (hfn : Tryd.pinned.checked.prog.funcs[f]? = some fn) :
    true = Tryd.pinned.checked.prog.looks [] ∧ ∀ (j : Nat) t, fn.params[j]? = some t → Tryd.pinned.checked.prog.wantsStandIn t = false := by
  obtain rfl : f = 6 := Option.some.inj ((show Tryd.prog.funcNamed "loop.example/g00978/laws.FnExactStore" = some 6 by kernel_rfl).symm.trans hf) |>.symm
  obtain rfl : fn = Tryd.f6 := (Option.some.inj (Tryd.func6.symm.trans hfn)).symm
  refine ⟨by kernel_rfl, fun j t ht => ?_⟩
  rw [Tryd.params6] at ht
  have hm := Array.mem_of_getElem? ht
  simp only [List.mem_toArray, List.mem_cons, List.not_mem_nil, or_false] at hm
  rcases hm with rfl | rfl | rfl
  · exact (show Tryd.prog.wantsStandIn 50 = false by kernel_rfl)
  · exact (show Tryd.prog.wantsStandIn 3 = false by kernel_rfl)
  · exact (show Tryd.prog.wantsStandIn 3 = false by kernel_rfl)

/-- THE CARD -/
theorem proved : Rows.FnExactStoreCardSaid :=
  Claim7.holds_tied_plain_at .later [] _ _ _ _ said (fun _ h => by cases h) (by kernel_rfl) (fun _ h => by cases h) fnExactStore_row_tie rfl ⟨rfl, rfl⟩ (by kernel_rfl) rfl plain (by kernel_rfl)
#print axioms proved
end Go.Proofs.YtkmkpjpopobdbaaDoor.fnExactStore

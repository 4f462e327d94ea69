/- Called with any arguments, the law FnExactFramesNew returns true and each argument reads afterwards as before. No condition. -/
import Derived.Test.YtmajlgnjgnodoaaRows
import Derived.Test.YtmajlgnjgnodoaaS05n
import Derived.Test.YtmajlgnjgnodoaaS05h
import Derived.Test.YtmajlgnjgnodoaaI05n
import Derived.Test.YtmajlgnjgnodoaaEq
import Derived.Test.YtmajlgnjgnodoaaMark
import Derived.Test.YtmajlgnjgnodoaaHeld
import Derived.WalkKit
import Derived.ProofKit
import Derived.OpenShut
import Derived.ShutString
import Derived.ChangeOld
import Derived.Below
import Derived.Carry
import Derived.Deep.RegionHeld3
namespace Go.Proofs.Ytmajlgnjgnodoaa.fnExactFramesNew
open Go.ChangeShapes Go.WideShapes Go.ChangeAt Go.RowKit Go.Proofs.Ytmajlgnjgnodoaa.Tr
set_option linter.unusedVariables false
theorem own : ownKnob Try.prog.godebug = none := by kernel_rfl
theorem laidOut : laidOutB Try.prog = true := by kernel_rfl
set_option maxRecDepth 100000 in
theorem walk (x0 : Int) (w : World) (hw0 : okI x0) :
    Calls Try.prog 6 #[(.int .i64 x0)] w fun e w' => e = .returned (.bool true) ∧ Below w.heap.size w w' := by
  have HO : Hid True := trivial
  obtain ⟨s0, hs0⟩ : ∃ s, w.heap.size = s := ⟨_, rfl⟩
  have HBL : Hid (Below w.heap.size w w) := Below.refl _ _
  go_enter Try.func6, Try.ntmps6
  go_wp2_with fail
  refine (spec_FramesNew x0 w hw0).mono ?_
  rintro e w1 ⟨u_, rfl, hm_, hb_⟩
  have hsh_ := hm_
  obtain ⟨bs_, hsh_, _⟩ := hsh_
  obtain ⟨Ak2_0, nk2_0, pk2_0, Ak2_1, nk2_1, pk2_1, rfl⟩ := sinv_Frames hsh_
  clear hsh_
  rw [hs0] at hm_
  have HBL' := Lib.hid (below_step HBL.out hb_)
  clear HBL
  have HBL := HBL'
  clear HBL'
  obtain ⟨s3, hs3⟩ : ∃ s, w1.heap.size = s := ⟨_, rfl⟩
  have hls3 : s0 ≤ s3 := by have := hb_.size; omega
  have HM_w0 := Lib.hid (hm_.toIn (Nat.le_of_eq hs3))
  clear hm_ hb_
  have hsr : (eFrames (pFramesNew x0).1).sz ≤ 50000000 := bound_FramesNew x0 
  have hb_ : Below w1.heap.size w1 (w1.alloc (.cells #[.slice Ak2_0 nk2_0 pk2_0, .slice Ak2_1 nk2_1 pk2_1] 27)) := (Below.refl _ _).alloc (Nat.le_refl _) _
  have hx_ : (w1.alloc (.cells #[.slice Ak2_0 nk2_0 pk2_0, .slice Ak2_1 nk2_1 pk2_1] 27)).heap[s3]? = some (.cells #[.slice Ak2_0 nk2_0 pk2_0, .slice Ak2_1 nk2_1 pk2_1] 27 (0, 0)) := by rw [← hs3]; exact heap_alloc_new _ _
  have hz_ : (w1.alloc (.cells #[.slice Ak2_0 nk2_0 pk2_0, .slice Ak2_1 nk2_1 pk2_1] 27)).heap.size = s3 + 1 := by simp [hs3]
  obtain ⟨w4, HW_w4⟩ : ∃ z, (w1.alloc (.cells #[.slice Ak2_0 nk2_0 pk2_0, .slice Ak2_1 nk2_1 pk2_1] 27)) = z := ⟨_, rfl⟩
  rw [HW_w4] at hb_ hx_ hz_
  have HM_w0' := Lib.hid (HM_w0.out.below hb_)
  clear HM_w0
  have HM_w0 := HM_w0'
  clear HM_w0'
  have HBL' := Lib.hid (below_step HBL.out hb_)
  clear HBL
  have HBL := HBL'
  clear HBL'
  have HX_w0 := Lib.hid hx_
  clear hx_
  obtain ⟨s5, hs5⟩ : ∃ s, w4.heap.size = s := ⟨_, rfl⟩
  have hls5 : s3 + 1 = s5 := by omega
  have HWE_w4 := Lib.hid HW_w4
  clear HW_w4 hb_ hz_
  go_wp2_with fail
  rw [HWE_w4.out]
  clear HWE_w4
  refine (impl_FramesNew x0 w4 hw0).mono ?_
  rintro e w6 ⟨u_, rfl, hm_, hb_⟩
  have hsh_ := hm_
  obtain ⟨bs_, hsh_, _⟩ := hsh_
  obtain ⟨Ak7_0, nk7_0, pk7_0, Ak7_1, nk7_1, pk7_1, rfl⟩ := sinv_Frames hsh_
  clear hsh_
  rw [hs5] at hm_
  have HX_w0' := Lib.hid ((hb_.block s3 (by omega)).trans HX_w0.out)
  clear HX_w0
  have HX_w0 := HX_w0'
  clear HX_w0'
  have HM_w0' := Lib.hid (HM_w0.out.below hb_)
  clear HM_w0
  have HM_w0 := HM_w0'
  clear HM_w0'
  have HBL' := Lib.hid (below_step HBL.out hb_)
  clear HBL
  have HBL := HBL'
  clear HBL'
  obtain ⟨s8, hs8⟩ : ∃ s, w6.heap.size = s := ⟨_, rfl⟩
  have hls8 : s5 ≤ s8 := by have := hb_.size; omega
  have HM_g0 := Lib.hid (hm_.toIn (Nat.le_of_eq hs8))
  clear hm_ hb_
  have HXP_w0 := HX_w0
  have hb_ : Below w6.heap.size w6 (w6.alloc (.cells #[.slice Ak7_0 nk7_0 pk7_0, .slice Ak7_1 nk7_1 pk7_1] 27)) := (Below.refl _ _).alloc (Nat.le_refl _) _
  have hx_ : (w6.alloc (.cells #[.slice Ak7_0 nk7_0 pk7_0, .slice Ak7_1 nk7_1 pk7_1] 27)).heap[s8]? = some (.cells #[.slice Ak7_0 nk7_0 pk7_0, .slice Ak7_1 nk7_1 pk7_1] 27 (0, 0)) := by rw [← hs8]; exact heap_alloc_new _ _
  have hz_ : (w6.alloc (.cells #[.slice Ak7_0 nk7_0 pk7_0, .slice Ak7_1 nk7_1 pk7_1] 27)).heap.size = s8 + 1 := by simp [hs8]
  obtain ⟨w9, HW_w9⟩ : ∃ z, (w6.alloc (.cells #[.slice Ak7_0 nk7_0 pk7_0, .slice Ak7_1 nk7_1 pk7_1] 27)) = z := ⟨_, rfl⟩
  rw [HW_w9] at hb_ hx_ hz_
  have HX_w0' := Lib.hid ((hb_.block s3 (by omega)).trans HX_w0.out)
  clear HX_w0
  have HX_w0 := HX_w0'
  clear HX_w0'
  have HM_w0' := Lib.hid (HM_w0.out.below hb_)
  clear HM_w0
  have HM_w0 := HM_w0'
  clear HM_w0'
  have HM_g0' := Lib.hid (HM_g0.out.below hb_)
  clear HM_g0
  have HM_g0 := HM_g0'
  clear HM_g0'
  have HBL' := Lib.hid (below_step HBL.out hb_)
  clear HBL
  have HBL := HBL'
  clear HBL'
  have HX_g0 := Lib.hid hx_
  clear hx_
  obtain ⟨s10, hs10⟩ : ∃ s, w9.heap.size = s := ⟨_, rfl⟩
  have hls10 : s8 + 1 = s10 := by omega
  have HWE_w9 := Lib.hid HW_w9
  clear HW_w9 hb_ hz_
  have hc11 : w9.cell? ⟨s8, 0, none⟩ = some (.slice Ak7_0 nk7_0 pk7_0) := cell_of_block HX_g0.out 0
  have hc12 : w9.cell? ⟨s8, 1, none⟩ = some (.slice Ak7_1 nk7_1 pk7_1) := cell_of_block HX_g0.out 1
  have : s3 < s8 := by omega
  have : w6.cell? ⟨s3, 0, none⟩ = some (.slice Ak2_0 nk2_0 pk2_0) := cell_of_block HXP_w0.out 0
  have : w6.cell? ⟨s3, 1, none⟩ = some (.slice Ak2_1 nk2_1 pk2_1) := cell_of_block HXP_w0.out 1
  have hc13 : w9.cell? ⟨s3, 0, none⟩ = some (.slice Ak2_0 nk2_0 pk2_0) := cell_of_block HX_w0.out 0
  have hc14 : w9.cell? ⟨s3, 1, none⟩ = some (.slice Ak2_1 nk2_1 pk2_1) := cell_of_block HX_w0.out 1
  go_wp2_with fail
  rw [HWE_w9.out]
  clear HWE_w9 HXP_w0
  refine (h_eqFrames (pFramesNew x0).1 (.slice Ak7_0 nk7_0 pk7_0) (.slice Ak7_1 nk7_1 pk7_1) (.slice Ak2_0 nk2_0 pk2_0) (.slice Ak2_1 nk2_1 pk2_1) w9 HM_g0.out.rd HM_w0.out.rd (by omega)).mono ?_
  rintro e w15 ⟨rfl, hb_⟩
  have HX_w0' := Lib.hid ((hb_.block s3 (by omega)).trans HX_w0.out)
  clear HX_w0
  have HX_w0 := HX_w0'
  clear HX_w0'
  have HX_g0' := Lib.hid ((hb_.block s8 (by omega)).trans HX_g0.out)
  clear HX_g0
  have HX_g0 := HX_g0'
  clear HX_g0'
  have HM_w0' := Lib.hid (HM_w0.out.below hb_)
  clear HM_w0
  have HM_w0 := HM_w0'
  clear HM_w0'
  have HM_g0' := Lib.hid (HM_g0.out.below hb_)
  clear HM_g0
  have HM_g0 := HM_g0'
  clear HM_g0'
  have HBL' := Lib.hid (below_step HBL.out hb_)
  clear HBL
  have HBL := HBL'
  clear HBL'
  obtain ⟨s16, hs16⟩ : ∃ s, w15.heap.size = s := ⟨_, rfl⟩
  have hls16 : s10 ≤ s16 := by have := hb_.size; omega
  clear hb_
  have hc17 : w15.cell? ⟨s8, 0, none⟩ = some (.slice Ak7_0 nk7_0 pk7_0) := cell_of_block HX_g0.out 0
  have hc18 : w15.cell? ⟨s8, 1, none⟩ = some (.slice Ak7_1 nk7_1 pk7_1) := cell_of_block HX_g0.out 1
  go_wp2_with fail
  have hcb := cntb_Frames (pFramesNew x0).1
  have hct := cntTop_le (eFrames (pFramesNew x0).1)
  refine (mark_in HM_g0.out (fun bs_ ho_ hn_ => h_markFrames (pFramesNew x0).1 (.slice Ak7_0 nk7_0 pk7_0) (.slice Ak7_1 nk7_1 pk7_1) bs_ 1 w15 ho_ hn_ (by omega) (by omega))).mono ?_
  rintro e w19 ⟨rfl, hm_, ht_⟩
  obtain ⟨k20, hkk20⟩ : ∃ q : Nat, 1 + (eFrames (pFramesNew x0).1).cntTop = q := ⟨_, rfl⟩
  rw [hkk20]
  have HKk20 := Lib.hid hkk20
  clear hcb hct hkk20
  have HX_w0' := Lib.hid ((ht_.block s3 (by omega) (by omega)).trans HX_w0.out)
  clear HX_w0
  have HX_w0 := HX_w0'
  clear HX_w0'
  have HX_g0' := Lib.hid ((ht_.block s8 (by omega) (by omega)).trans HX_g0.out)
  clear HX_g0
  have HX_g0 := HX_g0'
  clear HX_g0'
  have HM_w0' := Lib.hid (HM_w0.out.turn ht_ (by omega))
  clear HM_w0
  have HM_w0 := HM_w0'
  clear HM_w0'
  clear HM_g0
  have HM_g0 := Lib.hid hm_
  have HBL' := Lib.hid (HBL.out.trans (ht_.below (B := w.heap.size) (by omega) (by omega)))
  clear HBL
  have HBL := HBL'
  clear HBL'
  obtain ⟨s21, hs21⟩ : ∃ s, w19.heap.size = s := ⟨_, rfl⟩
  have hls21 : s16 ≤ s21 := by have := ht_.size; omega
  clear hm_ ht_
  have hc22 : w19.cell? ⟨s8, 0, none⟩ = some (.slice Ak7_0 nk7_0 pk7_0) := cell_of_block HX_g0.out 0
  have hc23 : w19.cell? ⟨s8, 1, none⟩ = some (.slice Ak7_1 nk7_1 pk7_1) := cell_of_block HX_g0.out 1
  go_wp2_with fail
  have hcb := cntb_Frames (pFramesNew x0).1
  have hct := cntTop_le (eFrames (pFramesNew x0).1)
  refine (h_heldFrames (pFramesNew x0).1 (.slice Ak7_0 nk7_0 pk7_0) (.slice Ak7_1 nk7_1 pk7_1) 1 w19 HM_g0.out.rd (by omega) (by omega)).mono ?_
  rintro e w24 ⟨rfl, hb_⟩
  rw [HKk20.out]
  clear hcb hct
  have HX_w0' := Lib.hid ((hb_.block s3 (by omega)).trans HX_w0.out)
  clear HX_w0
  have HX_w0 := HX_w0'
  clear HX_w0'
  have HX_g0' := Lib.hid ((hb_.block s8 (by omega)).trans HX_g0.out)
  clear HX_g0
  have HX_g0 := HX_g0'
  clear HX_g0'
  have HM_w0' := Lib.hid (HM_w0.out.below hb_)
  clear HM_w0
  have HM_w0 := HM_w0'
  clear HM_w0'
  have HM_g0' := Lib.hid (HM_g0.out.below hb_)
  clear HM_g0
  have HM_g0 := HM_g0'
  clear HM_g0'
  have HBL' := Lib.hid (below_step HBL.out hb_)
  clear HBL
  have HBL := HBL'
  clear HBL'
  obtain ⟨s25, hs25⟩ : ∃ s, w24.heap.size = s := ⟨_, rfl⟩
  have hls25 : s21 ≤ s25 := by have := hb_.size; omega
  clear hb_
  go_wp2_with fail
  refine (impl_FramesNew x0 w24 hw0).mono ?_
  rintro e w26 ⟨u_, rfl, hm_, hb_⟩
  have hsh_ := hm_
  obtain ⟨bs_, hsh_, _⟩ := hsh_
  obtain ⟨Ak27_0, nk27_0, pk27_0, Ak27_1, nk27_1, pk27_1, rfl⟩ := sinv_Frames hsh_
  clear hsh_
  rw [hs25] at hm_
  have HX_w0' := Lib.hid ((hb_.block s3 (by omega)).trans HX_w0.out)
  clear HX_w0
  have HX_w0 := HX_w0'
  clear HX_w0'
  have HX_g0' := Lib.hid ((hb_.block s8 (by omega)).trans HX_g0.out)
  clear HX_g0
  have HX_g0 := HX_g0'
  clear HX_g0'
  have HM_w0' := Lib.hid (HM_w0.out.below hb_)
  clear HM_w0
  have HM_w0 := HM_w0'
  clear HM_w0'
  have HM_g0' := Lib.hid (HM_g0.out.below hb_)
  clear HM_g0
  have HM_g0 := HM_g0'
  clear HM_g0'
  have HBL' := Lib.hid (below_step HBL.out hb_)
  clear HBL
  have HBL := HBL'
  clear HBL'
  obtain ⟨s28, hs28⟩ : ∃ s, w26.heap.size = s := ⟨_, rfl⟩
  have hls28 : s25 ≤ s28 := by have := hb_.size; omega
  have HM_h0 := Lib.hid (hm_.toIn (Nat.le_of_eq hs28))
  clear hm_ hb_
  have HXP_w0 := HX_w0
  have HXP_g0 := HX_g0
  have hb_ : Below w26.heap.size w26 (w26.alloc (.cells #[.slice Ak27_0 nk27_0 pk27_0, .slice Ak27_1 nk27_1 pk27_1] 27)) := (Below.refl _ _).alloc (Nat.le_refl _) _
  have hx_ : (w26.alloc (.cells #[.slice Ak27_0 nk27_0 pk27_0, .slice Ak27_1 nk27_1 pk27_1] 27)).heap[s28]? = some (.cells #[.slice Ak27_0 nk27_0 pk27_0, .slice Ak27_1 nk27_1 pk27_1] 27 (0, 0)) := by rw [← hs28]; exact heap_alloc_new _ _
  have hz_ : (w26.alloc (.cells #[.slice Ak27_0 nk27_0 pk27_0, .slice Ak27_1 nk27_1 pk27_1] 27)).heap.size = s28 + 1 := by simp [hs28]
  obtain ⟨w29, HW_w29⟩ : ∃ z, (w26.alloc (.cells #[.slice Ak27_0 nk27_0 pk27_0, .slice Ak27_1 nk27_1 pk27_1] 27)) = z := ⟨_, rfl⟩
  rw [HW_w29] at hb_ hx_ hz_
  have HX_w0' := Lib.hid ((hb_.block s3 (by omega)).trans HX_w0.out)
  clear HX_w0
  have HX_w0 := HX_w0'
  clear HX_w0'
  have HX_g0' := Lib.hid ((hb_.block s8 (by omega)).trans HX_g0.out)
  clear HX_g0
  have HX_g0 := HX_g0'
  clear HX_g0'
  have HM_w0' := Lib.hid (HM_w0.out.below hb_)
  clear HM_w0
  have HM_w0 := HM_w0'
  clear HM_w0'
  have HM_g0' := Lib.hid (HM_g0.out.below hb_)
  clear HM_g0
  have HM_g0 := HM_g0'
  clear HM_g0'
  have HM_h0' := Lib.hid (HM_h0.out.below hb_)
  clear HM_h0
  have HM_h0 := HM_h0'
  clear HM_h0'
  have HBL' := Lib.hid (below_step HBL.out hb_)
  clear HBL
  have HBL := HBL'
  clear HBL'
  have HX_h0 := Lib.hid hx_
  clear hx_
  obtain ⟨s30, hs30⟩ : ∃ s, w29.heap.size = s := ⟨_, rfl⟩
  have hls30 : s28 + 1 = s30 := by omega
  have HWE_w29 := Lib.hid HW_w29
  clear HW_w29 hb_ hz_
  have hc31 : w29.cell? ⟨s28, 0, none⟩ = some (.slice Ak27_0 nk27_0 pk27_0) := cell_of_block HX_h0.out 0
  have hc32 : w29.cell? ⟨s28, 1, none⟩ = some (.slice Ak27_1 nk27_1 pk27_1) := cell_of_block HX_h0.out 1
  have : s3 < s28 := by omega
  have : w26.cell? ⟨s3, 0, none⟩ = some (.slice Ak2_0 nk2_0 pk2_0) := cell_of_block HXP_w0.out 0
  have : w26.cell? ⟨s3, 1, none⟩ = some (.slice Ak2_1 nk2_1 pk2_1) := cell_of_block HXP_w0.out 1
  have hc33 : w29.cell? ⟨s3, 0, none⟩ = some (.slice Ak2_0 nk2_0 pk2_0) := cell_of_block HX_w0.out 0
  have hc34 : w29.cell? ⟨s3, 1, none⟩ = some (.slice Ak2_1 nk2_1 pk2_1) := cell_of_block HX_w0.out 1
  go_wp2_with fail
  rw [HWE_w29.out]
  clear HWE_w29 HXP_w0 HXP_g0
  refine (h_eqFrames (pFramesNew x0).1 (.slice Ak27_0 nk27_0 pk27_0) (.slice Ak27_1 nk27_1 pk27_1) (.slice Ak2_0 nk2_0 pk2_0) (.slice Ak2_1 nk2_1 pk2_1) w29 HM_h0.out.rd HM_w0.out.rd (by omega)).mono ?_
  rintro e w35 ⟨rfl, hb_⟩
  have HX_w0' := Lib.hid ((hb_.block s3 (by omega)).trans HX_w0.out)
  clear HX_w0
  have HX_w0 := HX_w0'
  clear HX_w0'
  have HX_g0' := Lib.hid ((hb_.block s8 (by omega)).trans HX_g0.out)
  clear HX_g0
  have HX_g0 := HX_g0'
  clear HX_g0'
  have HX_h0' := Lib.hid ((hb_.block s28 (by omega)).trans HX_h0.out)
  clear HX_h0
  have HX_h0 := HX_h0'
  clear HX_h0'
  have HM_w0' := Lib.hid (HM_w0.out.below hb_)
  clear HM_w0
  have HM_w0 := HM_w0'
  clear HM_w0'
  have HM_g0' := Lib.hid (HM_g0.out.below hb_)
  clear HM_g0
  have HM_g0 := HM_g0'
  clear HM_g0'
  have HM_h0' := Lib.hid (HM_h0.out.below hb_)
  clear HM_h0
  have HM_h0 := HM_h0'
  clear HM_h0'
  have HBL' := Lib.hid (below_step HBL.out hb_)
  clear HBL
  have HBL := HBL'
  clear HBL'
  obtain ⟨s36, hs36⟩ : ∃ s, w35.heap.size = s := ⟨_, rfl⟩
  have hls36 : s30 ≤ s36 := by have := hb_.size; omega
  clear hb_
  have hc37 : w35.cell? ⟨s8, 0, none⟩ = some (.slice Ak7_0 nk7_0 pk7_0) := cell_of_block HX_g0.out 0
  have hc38 : w35.cell? ⟨s8, 1, none⟩ = some (.slice Ak7_1 nk7_1 pk7_1) := cell_of_block HX_g0.out 1
  go_wp2_with fail
  have hcb := cntb_Frames (pFramesNew x0).1
  have hct := cntTop_le (eFrames (pFramesNew x0).1)
  refine (h_heldFrames (pFramesNew x0).1 (.slice Ak7_0 nk7_0 pk7_0) (.slice Ak7_1 nk7_1 pk7_1) 1 w35 HM_g0.out.rd (by omega) (by omega)).mono ?_
  rintro e w39 ⟨rfl, hb_⟩
  rw [HKk20.out]
  clear hcb hct
  have HX_w0' := Lib.hid ((hb_.block s3 (by omega)).trans HX_w0.out)
  clear HX_w0
  have HX_w0 := HX_w0'
  clear HX_w0'
  have HX_g0' := Lib.hid ((hb_.block s8 (by omega)).trans HX_g0.out)
  clear HX_g0
  have HX_g0 := HX_g0'
  clear HX_g0'
  have HX_h0' := Lib.hid ((hb_.block s28 (by omega)).trans HX_h0.out)
  clear HX_h0
  have HX_h0 := HX_h0'
  clear HX_h0'
  have HM_w0' := Lib.hid (HM_w0.out.below hb_)
  clear HM_w0
  have HM_w0 := HM_w0'
  clear HM_w0'
  have HM_g0' := Lib.hid (HM_g0.out.below hb_)
  clear HM_g0
  have HM_g0 := HM_g0'
  clear HM_g0'
  have HM_h0' := Lib.hid (HM_h0.out.below hb_)
  clear HM_h0
  have HM_h0 := HM_h0'
  clear HM_h0'
  have HBL' := Lib.hid (below_step HBL.out hb_)
  clear HBL
  have HBL := HBL'
  clear HBL'
  obtain ⟨s40, hs40⟩ : ∃ s, w39.heap.size = s := ⟨_, rfl⟩
  have hls40 : s36 ≤ s40 := by have := hb_.size; omega
  clear hb_
  go_wp2
  go_ret
  exact ⟨rfl, HBL.out⟩
theorem lifted (os : Os) (started : os.Started) (H : Type) (enc : TypeId × Value → H) :
    ReturnsInHanded {} Try.checked os 6 .any (Rows.fnExactFramesNewSpec.pre6 enc Try.prog Try.f6 Rows.fnExactFramesNewRow.domain false) (Rows.fnExactFramesNewSpec.post enc Try.prog Try.f6 false true false false) := by
  refine returnsInHanded_of_change (C := Try.checked) own started (by kernel_rfl) Try.func6
    (ChangeSpec.witness6 (enc := enc) (C := Try.checked) false ⟨#[], #[.int .i64 0], []⟩ 8 (by kernel_rfl) (by kernel_rfl) (by kernel_rfl) (by kernel_rfl)) ?_
  intro W base args ds gs before hval0 hW hcnd _
  have hval : ∀ (j : Nat) t v, Try.f6.params[j]? = some t → args[j]? = some v → Value.okWide Try.prog W .any base t v := hval0
  have hW' := hW
  obtain ⟨p, q, hA0, hV, rfl, hfz, hnd⟩ := hW
  have hA : DataW.TrodAll enc Try.prog W 0 (fun _ => true) true Try.f6.params.toList args.toList ds p := hA0
  rw [Try.params6] at hA hval
  obtain ⟨v0, vs0, d0, ds0, p0, q0, hargs, rfl, rfl, h0, r0⟩ := trodAll_cons hA
  obtain ⟨rfl, rfl, rfl⟩ := trodAll_nil r0
  obtain rfl : args = #[v0] := by cases args; simp_all
  obtain ⟨rfl, rfl⟩ := trodVars_none hV
  obtain ⟨a0, rfl, rfl, rfl, w0⟩ := open_int Try.underlying3 (hval 0 3 v0 rfl rfl) h0
  clear hA0 hval0
  refine (walk a0 W (okI_wf w0)).mono fun e W' ⟨he, bel⟩ => ?_
  subst he
  exact ⟨_, rfl, _, _, _, [], _, [], hW', trodAll_mk1 (shut_bool Try.underlying4 _), (trodAll_cons_mk (shut_int Try.underlying3 w0) trodAll_mk0), rfl, bel.frame _, fun h => by cases h⟩
theorem over : Rows.fnExactFramesNewRow.holds Try.pinned (OpenSpec.ofChange Rows.fnExactFramesNewSpec) :=
  OpenClaim.holds_of_wide 6 Try.f6 rfl rfl rfl rfl rfl rfl rfl ⟨rfl, rfl, rfl, rfl, rfl⟩ rfl rfl rfl rfl rfl (by kernel_rfl) Try.func6 (by kernel_rfl)
    (of_decide_eq_true (by kernel_rfl)) (by unfold Func.isWrapper; first | (rw [if_pos (by decide +kernel)]; kernel_rfl) | (rw [if_neg (by decide +kernel)]; exact ⟨rfl, rfl⟩))
    (fun os started H enc _ => lifted os started H enc)
theorem proved : Rows.FnExactFramesNewSaid := over
#print axioms proved
end Go.Proofs.Ytmajlgnjgnodoaa.fnExactFramesNew

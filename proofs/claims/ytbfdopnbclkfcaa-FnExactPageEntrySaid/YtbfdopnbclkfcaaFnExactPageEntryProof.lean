/- Called with any arguments, the law FnExactPageEntry returns true and each argument reads afterwards as before. No condition. -/
import Derived.Test.YtbfdopnbclkfcaaRows
import Derived.Test.YtbfdopnbclkfcaaS06
import Derived.Test.YtbfdopnbclkfcaaI06d
import Derived.Test.YtbfdopnbclkfcaaTo
import Derived.Test.YtbfdopnbclkfcaaEq
import Derived.Test.YtbfdopnbclkfcaaSz
import Derived.Test.YtbfdopnbclkfcaaMark
import Derived.Test.YtbfdopnbclkfcaaHeld
import Derived.Test.YtbfdopnbclkfcaaIn
import Derived.WalkKit
import Derived.ProofKit
import Derived.OpenShut
import Derived.ShutString
import Derived.ChangeOld
import Derived.Below
import Derived.Carry
import Derived.Deep.RegionHeld3
namespace Go.Proofs.Ytbfdopnbclkfcaa.fnExactPageEntry
open Go.ChangeShapes Go.WideShapes Go.ChangeAt Go.RowKit Go.Proofs.Ytbfdopnbclkfcaa.Tr
set_option linter.unusedVariables false
theorem own : ownKnob Try.prog.godebug = none := by kernel_rfl
theorem laidOut : laidOutB Try.prog = true := by kernel_rfl
set_option maxRecDepth 100000 in
set_option maxHeartbeats 800000 in
theorem walk (x0 : GTable) (c0_0 : Value) (x1 : Int) (w : World) (r0 : Raw w (eTable x0) [c0_0]) (hw0 : okTable x0) (hw1 : okI x1) :
    Calls Try.prog 7 #[(.agg #[c0_0]), (.int .i64 x1)] w fun e w' => e = .returned (.bool true) ∧ Below w.heap.size w w' := by
  have HO : Hid True := trivial
  have HR0 := Lib.hid r0
  clear r0
  obtain ⟨s0, hs0⟩ : ∃ s, w.heap.size = s := ⟨_, rfl⟩
  have HBL : Hid (Below w.heap.size w w) := Below.refl _ _
  have hb_ : Below w.heap.size w (w.alloc (.cells #[c0_0] 43)) := (Below.refl _ _).alloc (Nat.le_refl _) _
  have hx_ : (w.alloc (.cells #[c0_0] 43)).heap[s0]? = some (.cells #[c0_0] 43 (0, 0)) := by rw [← hs0]; exact heap_alloc_new _ _
  have hz_ : (w.alloc (.cells #[c0_0] 43)).heap.size = s0 + 1 := by simp [hs0]
  obtain ⟨w1, HW_w1⟩ : ∃ z, (w.alloc (.cells #[c0_0] 43)) = z := ⟨_, rfl⟩
  rw [HW_w1] at hb_ hx_ hz_
  have HBL' := Lib.hid (below_step HBL.out hb_)
  clear HBL
  have HBL := HBL'
  clear HBL'
  have HX_aT := Lib.hid hx_
  clear hx_
  obtain ⟨s2, hs2⟩ : ∃ s, w1.heap.size = s := ⟨_, rfl⟩
  have hls2 : s0 + 1 = s2 := by omega
  have HWE_w1 := Lib.hid HW_w1
  clear HW_w1 hb_ hz_
  go_enter Try.func7, Try.ntmps7
  have hc3 : w1.cell? ⟨s0, 0, none⟩ = some (c0_0) := cell_of_block HX_aT.out 0
  go_wp2_with fail
  rw [HWE_w1.out]
  clear HWE_w1
  refine (h_szTable x0 c0_0 1048576 w1 (raw_below HBL.out _ HR0.out) (by omega)).mono ?_
  rintro e w4 ⟨hcase, hb_⟩
  have HX_aT' := Lib.hid ((hb_.block s0 (by omega)).trans HX_aT.out)
  clear HX_aT
  have HX_aT := HX_aT'
  clear HX_aT'
  have HBL' := Lib.hid (below_step HBL.out hb_)
  clear HBL
  have HBL := HBL'
  clear HBL'
  obtain ⟨s6, hs6⟩ : ∃ s, w4.heap.size = s := ⟨_, rfl⟩
  have hls6 : s2 ≤ s6 := by have := hb_.size; omega
  clear hb_
  rcases hcase with ⟨q5, hq5, rfl⟩ | ⟨_, rfl⟩
  rotate_left
  · go_wp2
    go_ret
    exact ⟨rfl, HBL.out⟩
  have hsz0 : (eTable x0).sz ≤ 1048576 := by omega
  have hc7 : w4.cell? ⟨s0, 0, none⟩ = some (c0_0) := cell_of_block HX_aT.out 0
  go_wp2_with fail
  refine (h_toTable x0 c0_0 w4 (raw_below HBL.out _ HR0.out) (by omega)).mono ?_
  rintro e w9 ⟨u_, rfl, hm_, hb_⟩
  have hsh_ := hm_
  obtain ⟨bs_, hsh_, _⟩ := hsh_
  obtain ⟨Ak10_0, nk10_0, pk10_0, rfl⟩ := sinv_Table hsh_
  clear hsh_
  rw [hs6] at hm_
  have HX_aT' := Lib.hid ((hb_.block s0 (by omega)).trans HX_aT.out)
  clear HX_aT
  have HX_aT := HX_aT'
  clear HX_aT'
  have HBL' := Lib.hid (below_step HBL.out hb_)
  clear HBL
  have HBL := HBL'
  clear HBL'
  obtain ⟨s11, hs11⟩ : ∃ s, w9.heap.size = s := ⟨_, rfl⟩
  have hls11 : s6 ≤ s11 := by have := hb_.size; omega
  have HM_t8 := Lib.hid (hm_.toIn (Nat.le_of_eq hs11))
  clear hm_ hb_
  go_wp2_with fail
  refine (spec_PageEntry x0 (.slice Ak10_0 nk10_0 pk10_0) x1 w9 HM_t8.out.rd hsz0 hw1).mono ?_
  rintro e w12 ⟨rfl, hb_⟩
  have HX_aT' := Lib.hid ((hb_.block s0 (by omega)).trans HX_aT.out)
  clear HX_aT
  have HX_aT := HX_aT'
  clear HX_aT'
  have HM_t8' := Lib.hid (HM_t8.out.below hb_)
  clear HM_t8
  have HM_t8 := HM_t8'
  clear HM_t8'
  have HBL' := Lib.hid (below_step HBL.out hb_)
  clear HBL
  have HBL := HBL'
  clear HBL'
  obtain ⟨s13, hs13⟩ : ∃ s, w12.heap.size = s := ⟨_, rfl⟩
  have hls13 : s11 ≤ s13 := by have := hb_.size; omega
  clear hb_
  have HXP_aT := HX_aT
  have hb_ : Below w12.heap.size w12 (w12.alloc (.cells #[.int .i64 ((pPageEntry x0 x1).Mode), .int .i64 ((pPageEntry x0 x1).Frame)] 33)) := (Below.refl _ _).alloc (Nat.le_refl _) _
  have hx_ : (w12.alloc (.cells #[.int .i64 ((pPageEntry x0 x1).Mode), .int .i64 ((pPageEntry x0 x1).Frame)] 33)).heap[s13]? = some (.cells #[.int .i64 ((pPageEntry x0 x1).Mode), .int .i64 ((pPageEntry x0 x1).Frame)] 33 (0, 0)) := by rw [← hs13]; exact heap_alloc_new _ _
  have hz_ : (w12.alloc (.cells #[.int .i64 ((pPageEntry x0 x1).Mode), .int .i64 ((pPageEntry x0 x1).Frame)] 33)).heap.size = s13 + 1 := by simp [hs13]
  obtain ⟨w14, HW_w14⟩ : ∃ z, (w12.alloc (.cells #[.int .i64 ((pPageEntry x0 x1).Mode), .int .i64 ((pPageEntry x0 x1).Frame)] 33)) = z := ⟨_, rfl⟩
  rw [HW_w14] at hb_ hx_ hz_
  have HX_aT' := Lib.hid ((hb_.block s0 (by omega)).trans HX_aT.out)
  clear HX_aT
  have HX_aT := HX_aT'
  clear HX_aT'
  have HM_t8' := Lib.hid (HM_t8.out.below hb_)
  clear HM_t8
  have HM_t8 := HM_t8'
  clear HM_t8'
  have HBL' := Lib.hid (below_step HBL.out hb_)
  clear HBL
  have HBL := HBL'
  clear HBL'
  have HX_w0 := Lib.hid hx_
  clear hx_
  obtain ⟨s15, hs15⟩ : ∃ s, w14.heap.size = s := ⟨_, rfl⟩
  have hls15 : s13 + 1 = s15 := by omega
  have HWE_w14 := Lib.hid HW_w14
  clear HW_w14 hb_ hz_
  have : s0 < s13 := by omega
  have : w12.cell? ⟨s0, 0, none⟩ = some (c0_0) := cell_of_block HXP_aT.out 0
  have hc16 : w14.cell? ⟨s0, 0, none⟩ = some (c0_0) := cell_of_block HX_aT.out 0
  go_wp2_with fail
  rw [HWE_w14.out]
  clear HWE_w14 HXP_aT
  refine (h_toTable x0 c0_0 w14 (raw_below HBL.out _ HR0.out) (by omega)).mono ?_
  rintro e w17 ⟨u_, rfl, hm_, hb_⟩
  have hsh_ := hm_
  obtain ⟨bs_, hsh_, _⟩ := hsh_
  obtain ⟨Ak18_0, nk18_0, pk18_0, rfl⟩ := sinv_Table hsh_
  clear hsh_
  rw [hs15] at hm_
  have HX_aT' := Lib.hid ((hb_.block s0 (by omega)).trans HX_aT.out)
  clear HX_aT
  have HX_aT := HX_aT'
  clear HX_aT'
  have HX_w0' := Lib.hid ((hb_.block s13 (by omega)).trans HX_w0.out)
  clear HX_w0
  have HX_w0 := HX_w0'
  clear HX_w0'
  have HM_t8' := Lib.hid (HM_t8.out.below hb_)
  clear HM_t8
  have HM_t8 := HM_t8'
  clear HM_t8'
  have HBL' := Lib.hid (below_step HBL.out hb_)
  clear HBL
  have HBL := HBL'
  clear HBL'
  obtain ⟨s19, hs19⟩ : ∃ s, w17.heap.size = s := ⟨_, rfl⟩
  have hls19 : s15 ≤ s19 := by have := hb_.size; omega
  have HM_x0 := Lib.hid (hm_.toIn (Nat.le_of_eq hs19))
  clear hm_ hb_
  have HXP_aT := HX_aT
  have HXP_w0 := HX_w0
  have hb_ : Below w17.heap.size w17 (w17.alloc (.cells #[.slice Ak18_0 nk18_0 pk18_0] 28)) := (Below.refl _ _).alloc (Nat.le_refl _) _
  have hx_ : (w17.alloc (.cells #[.slice Ak18_0 nk18_0 pk18_0] 28)).heap[s19]? = some (.cells #[.slice Ak18_0 nk18_0 pk18_0] 28 (0, 0)) := by rw [← hs19]; exact heap_alloc_new _ _
  have hz_ : (w17.alloc (.cells #[.slice Ak18_0 nk18_0 pk18_0] 28)).heap.size = s19 + 1 := by simp [hs19]
  obtain ⟨w20, HW_w20⟩ : ∃ z, (w17.alloc (.cells #[.slice Ak18_0 nk18_0 pk18_0] 28)) = z := ⟨_, rfl⟩
  rw [HW_w20] at hb_ hx_ hz_
  have HX_aT' := Lib.hid ((hb_.block s0 (by omega)).trans HX_aT.out)
  clear HX_aT
  have HX_aT := HX_aT'
  clear HX_aT'
  have HX_w0' := Lib.hid ((hb_.block s13 (by omega)).trans HX_w0.out)
  clear HX_w0
  have HX_w0 := HX_w0'
  clear HX_w0'
  have HM_t8' := Lib.hid (HM_t8.out.below hb_)
  clear HM_t8
  have HM_t8 := HM_t8'
  clear HM_t8'
  have HM_x0' := Lib.hid (HM_x0.out.below hb_)
  clear HM_x0
  have HM_x0 := HM_x0'
  clear HM_x0'
  have HBL' := Lib.hid (below_step HBL.out hb_)
  clear HBL
  have HBL := HBL'
  clear HBL'
  have HX_x0 := Lib.hid hx_
  clear hx_
  obtain ⟨s21, hs21⟩ : ∃ s, w20.heap.size = s := ⟨_, rfl⟩
  have hls21 : s19 + 1 = s21 := by omega
  have HWE_w20 := Lib.hid HW_w20
  clear HW_w20 hb_ hz_
  have hc22 : w20.cell? ⟨s19, 0, none⟩ = some (.slice Ak18_0 nk18_0 pk18_0) := cell_of_block HX_x0.out 0
  go_wp2_with fail
  rw [HWE_w20.out]
  clear HWE_w20 HXP_aT HXP_w0
  refine (impl_PageEntry x0 (.slice Ak18_0 nk18_0 pk18_0) x1 w20 HM_x0.out.rd hsz0 hw1).mono ?_
  rintro e w23 ⟨rfl, hb_⟩
  have HX_aT' := Lib.hid ((hb_.block s0 (by omega)).trans HX_aT.out)
  clear HX_aT
  have HX_aT := HX_aT'
  clear HX_aT'
  have HX_w0' := Lib.hid ((hb_.block s13 (by omega)).trans HX_w0.out)
  clear HX_w0
  have HX_w0 := HX_w0'
  clear HX_w0'
  have HX_x0' := Lib.hid ((hb_.block s19 (by omega)).trans HX_x0.out)
  clear HX_x0
  have HX_x0 := HX_x0'
  clear HX_x0'
  have HM_t8' := Lib.hid (HM_t8.out.below hb_)
  clear HM_t8
  have HM_t8 := HM_t8'
  clear HM_t8'
  have HM_x0' := Lib.hid (HM_x0.out.below hb_)
  clear HM_x0
  have HM_x0 := HM_x0'
  clear HM_x0'
  have HBL' := Lib.hid (below_step HBL.out hb_)
  clear HBL
  have HBL := HBL'
  clear HBL'
  obtain ⟨s24, hs24⟩ : ∃ s, w23.heap.size = s := ⟨_, rfl⟩
  have hls24 : s21 ≤ s24 := by have := hb_.size; omega
  clear hb_
  have HXP_aT := HX_aT
  have HXP_w0 := HX_w0
  have HXP_x0 := HX_x0
  have hb_ : Below w23.heap.size w23 (w23.alloc (.cells #[.int .i64 ((pPageEntry x0 x1).Mode), .int .i64 ((pPageEntry x0 x1).Frame)] 33)) := (Below.refl _ _).alloc (Nat.le_refl _) _
  have hx_ : (w23.alloc (.cells #[.int .i64 ((pPageEntry x0 x1).Mode), .int .i64 ((pPageEntry x0 x1).Frame)] 33)).heap[s24]? = some (.cells #[.int .i64 ((pPageEntry x0 x1).Mode), .int .i64 ((pPageEntry x0 x1).Frame)] 33 (0, 0)) := by rw [← hs24]; exact heap_alloc_new _ _
  have hz_ : (w23.alloc (.cells #[.int .i64 ((pPageEntry x0 x1).Mode), .int .i64 ((pPageEntry x0 x1).Frame)] 33)).heap.size = s24 + 1 := by simp [hs24]
  obtain ⟨w25, HW_w25⟩ : ∃ z, (w23.alloc (.cells #[.int .i64 ((pPageEntry x0 x1).Mode), .int .i64 ((pPageEntry x0 x1).Frame)] 33)) = z := ⟨_, rfl⟩
  rw [HW_w25] at hb_ hx_ hz_
  have HX_aT' := Lib.hid ((hb_.block s0 (by omega)).trans HX_aT.out)
  clear HX_aT
  have HX_aT := HX_aT'
  clear HX_aT'
  have HX_w0' := Lib.hid ((hb_.block s13 (by omega)).trans HX_w0.out)
  clear HX_w0
  have HX_w0 := HX_w0'
  clear HX_w0'
  have HX_x0' := Lib.hid ((hb_.block s19 (by omega)).trans HX_x0.out)
  clear HX_x0
  have HX_x0 := HX_x0'
  clear HX_x0'
  have HM_t8' := Lib.hid (HM_t8.out.below hb_)
  clear HM_t8
  have HM_t8 := HM_t8'
  clear HM_t8'
  have HM_x0' := Lib.hid (HM_x0.out.below hb_)
  clear HM_x0
  have HM_x0 := HM_x0'
  clear HM_x0'
  have HBL' := Lib.hid (below_step HBL.out hb_)
  clear HBL
  have HBL := HBL'
  clear HBL'
  have HX_g0 := Lib.hid hx_
  clear hx_
  obtain ⟨s26, hs26⟩ : ∃ s, w25.heap.size = s := ⟨_, rfl⟩
  have hls26 : s24 + 1 = s26 := by omega
  have HWE_w25 := Lib.hid HW_w25
  clear HW_w25 hb_ hz_
  have hc27 : w25.cell? ⟨s24, 0, none⟩ = some (.int .i64 ((pPageEntry x0 x1).Mode)) := cell_of_block HX_g0.out 0
  have hc28 : w25.cell? ⟨s24, 1, none⟩ = some (.int .i64 ((pPageEntry x0 x1).Frame)) := cell_of_block HX_g0.out 1
  have : s13 < s24 := by omega
  have : w23.cell? ⟨s13, 0, none⟩ = some (.int .i64 ((pPageEntry x0 x1).Mode)) := cell_of_block HXP_w0.out 0
  have : w23.cell? ⟨s13, 1, none⟩ = some (.int .i64 ((pPageEntry x0 x1).Frame)) := cell_of_block HXP_w0.out 1
  have hc29 : w25.cell? ⟨s13, 0, none⟩ = some (.int .i64 ((pPageEntry x0 x1).Mode)) := cell_of_block HX_w0.out 0
  have hc30 : w25.cell? ⟨s13, 1, none⟩ = some (.int .i64 ((pPageEntry x0 x1).Frame)) := cell_of_block HX_w0.out 1
  go_wp2_with fail
  rw [HWE_w25.out]
  clear HWE_w25 HXP_aT HXP_w0 HXP_x0
  refine (h_eqEntry (pPageEntry x0 x1) w25).mono ?_
  rintro e w31 ⟨rfl, hb_⟩
  have HX_aT' := Lib.hid ((hb_.block s0 (by omega)).trans HX_aT.out)
  clear HX_aT
  have HX_aT := HX_aT'
  clear HX_aT'
  have HX_w0' := Lib.hid ((hb_.block s13 (by omega)).trans HX_w0.out)
  clear HX_w0
  have HX_w0 := HX_w0'
  clear HX_w0'
  have HX_x0' := Lib.hid ((hb_.block s19 (by omega)).trans HX_x0.out)
  clear HX_x0
  have HX_x0 := HX_x0'
  clear HX_x0'
  have HX_g0' := Lib.hid ((hb_.block s24 (by omega)).trans HX_g0.out)
  clear HX_g0
  have HX_g0 := HX_g0'
  clear HX_g0'
  have HM_t8' := Lib.hid (HM_t8.out.below hb_)
  clear HM_t8
  have HM_t8 := HM_t8'
  clear HM_t8'
  have HM_x0' := Lib.hid (HM_x0.out.below hb_)
  clear HM_x0
  have HM_x0 := HM_x0'
  clear HM_x0'
  have HBL' := Lib.hid (below_step HBL.out hb_)
  clear HBL
  have HBL := HBL'
  clear HBL'
  obtain ⟨s32, hs32⟩ : ∃ s, w31.heap.size = s := ⟨_, rfl⟩
  have hls32 : s26 ≤ s32 := by have := hb_.size; omega
  clear hb_
  go_wp2_with fail
  have HT : Hid (∀ w', Below w31.heap.size w31 w' → Calls Try.prog 24 #[(.agg #[c0_0])] w' (fun e w'' => ∃ (A_0 : Option Addr) (n_0 p_0 : Nat), e = .returned (.agg #[.slice A_0 n_0 p_0]) ∧ Rd w'' (eTable x0) [.slice A_0 n_0 p_0] ∧ Below w31.heap.size w31 w'')) := fun w' hb => (h_toTable x0 c0_0 w' (raw_below (below_step HBL.out hb) _ HR0.out) (by omega)).mono (by
    rintro e w'' ⟨u_, rfl, hm_, hb_⟩
    have hsh_ := hm_
    obtain ⟨bs_, hsh_, _⟩ := hsh_
    obtain ⟨A_0, n_0, p_0, rfl⟩ := sinv_Table hsh_
    exact ⟨A_0, n_0, p_0, rfl, hm_.rd, below_step hb hb_⟩)
  have HE : Hid (∀ w' (A_0 : Option Addr) (n_0 p_0 : Nat), Below w31.heap.size w31 w' → Rd w' (eTable x0) [.slice A_0 n_0 p_0] → Calls Try.prog 19 #[(.agg #[.slice Ak18_0 nk18_0 pk18_0]), (.agg #[.slice A_0 n_0 p_0])] w' (fun e w'' => e = .returned (.bool true) ∧ Below w31.heap.size w31 w'')) := fun w' A_0 n_0 p_0 hb hr => (h_eqTable x0 (.slice Ak18_0 nk18_0 pk18_0) (.slice A_0 n_0 p_0) w' (HM_x0.out.rd.below hb) hr (by omega)).mono (fun _ _ h => ⟨h.1, below_step hb h.2⟩)
  have hrf_ : Below w31.heap.size w31 w31.drew := (Below.refl _ _).drew
  have HK : Hid (∀ w', Below w31.heap.size w31 w' → w'.cell? ⟨s19, 0, none⟩ = some (.slice Ak18_0 nk18_0 pk18_0) ∧ w'.cell? ⟨s0, 0, none⟩ = some (c0_0) ∧ Below w31.heap.size w31 w') := fun w' hb => ⟨cell_below hb (cell_of_block HX_x0.out 0), cell_below hb (cell_of_block HX_aT.out 0), hb⟩
  go_region_held3 (fun w' => w'.cell? ⟨s19, 0, none⟩ = some (.slice Ak18_0 nk18_0 pk18_0) ∧ w'.cell? ⟨s0, 0, none⟩ = some (c0_0) ∧ Below w31.heap.size w31 w') (first | exact HK.out _ hrf_ | exact HK.out _ (by assumption)) (first | (go_at_call 24; refine (HT.out _ (by first | exact hrf_ | assumption)).mono ?_; rintro e wt_ ⟨A_0, n_0, p_0, rfl, hrt_, hbt_⟩) | (go_at_call 19; refine (HE.out _ _ _ _ (by first | exact hbt_ | assumption) (by first | exact hrt_ | assumption)).mono ?_; rintro e we_ ⟨rfl, hbe_⟩))
  obtain ⟨w33, hn_⟩ : ∃ z, we_ = z := ⟨_, rfl⟩
  rw [hn_] at hbe_
  rw [hn_]
  have HX_aT' := Lib.hid ((hbe_.block s0 (by omega)).trans HX_aT.out)
  clear HX_aT
  have HX_aT := HX_aT'
  clear HX_aT'
  have HX_w0' := Lib.hid ((hbe_.block s13 (by omega)).trans HX_w0.out)
  clear HX_w0
  have HX_w0 := HX_w0'
  clear HX_w0'
  have HX_x0' := Lib.hid ((hbe_.block s19 (by omega)).trans HX_x0.out)
  clear HX_x0
  have HX_x0 := HX_x0'
  clear HX_x0'
  have HX_g0' := Lib.hid ((hbe_.block s24 (by omega)).trans HX_g0.out)
  clear HX_g0
  have HX_g0 := HX_g0'
  clear HX_g0'
  have HM_t8' := Lib.hid (HM_t8.out.below hbe_)
  clear HM_t8
  have HM_t8 := HM_t8'
  clear HM_t8'
  have HM_x0' := Lib.hid (HM_x0.out.below hbe_)
  clear HM_x0
  have HM_x0 := HM_x0'
  clear HM_x0'
  have HBL' := Lib.hid (below_step HBL.out hbe_)
  clear HBL
  have HBL := HBL'
  clear HBL'
  obtain ⟨s34, hs34⟩ : ∃ s, w33.heap.size = s := ⟨_, rfl⟩
  have hls34 : s32 ≤ s34 := by have := hbe_.size; omega
  clear hbe_ hbt_ HT HE HK hrf_ hn_ hrt_
  go_wp2
  go_ret
  exact ⟨rfl, HBL.out⟩
set_option maxRecDepth 100000 in
theorem lifted (os : Os) (started : os.Started) (H : Type) (enc : TypeId × Value → H) :
    ReturnsInHanded {} Try.checked os 7 .any (Rows.fnExactPageEntrySpec.pre6 enc Try.prog Try.f7 Rows.fnExactPageEntryRow.domain false) (Rows.fnExactPageEntrySpec.post enc Try.prog Try.f7 false true false false) := by
  refine returnsInHanded_of_change (C := Try.checked) own started (by kernel_rfl) Try.func7
    (ChangeSpec.witness6 (enc := enc) (C := Try.checked) false ⟨#[], #[.agg #[.slice none 0 0], .int .i64 0], []⟩ 8 (by kernel_rfl) (by kernel_rfl) (by kernel_rfl) (by kernel_rfl)) ?_
  intro W base args ds gs before hval0 hW hcnd _
  have hval : ∀ (j : Nat) t v, Try.f7.params[j]? = some t → args[j]? = some v → Value.okWide Try.prog W .any base t v := hval0
  have hW' := hW
  obtain ⟨p, q, hA0, hV, rfl, hfz, hnd⟩ := hW
  have hA : DataW.TrodAll enc Try.prog W 0 (fun _ => true) true Try.f7.params.toList args.toList ds p := hA0
  rw [Try.params7] at hA hval
  obtain ⟨v0, vs0, d0, ds0, p0, q0, hargs, rfl, rfl, h0, r0⟩ := trodAll_cons hA
  obtain ⟨v1, vs1, d1, ds1, p1, q1, rfl, rfl, rfl, h1, r1⟩ := trodAll_cons r0
  obtain ⟨rfl, rfl, rfl⟩ := trodAll_nil r1
  obtain rfl : args = #[v0, v1] := by cases args; simp_all
  obtain ⟨rfl, rfl⟩ := trodVars_none hV
  have k0 := h0
  have lt0 : ∀ x ∈ p0, x.block < W.heap.size := by obtain ⟨m, hm⟩ := k0; exact DataW.trod_lt m _ _ _ hm
  obtain ⟨x0, raw0, ok0⟩ := opens_trod opens_Table h0
  obtain ⟨cs0, rfl, _⟩ := okWide_struct Try.underlying43 (hval 0 43 v0 rfl rfl)
  obtain ⟨cs0⟩ := cs0
  have raw0 : Raw W (eTable x0) cs0 := raw0
  obtain ⟨c0_0, rfl⟩ := rinv_Table raw0
  obtain ⟨a1, rfl, rfl, rfl, w1⟩ := open_int Try.underlying3 (hval 1 3 v1 rfl rfl) h1
  clear hA0 hval0
  refine (walk x0 c0_0 a1 W raw0 ok0 (okI_wf w1)).mono fun e W' ⟨he, bel⟩ => ?_
  subst he
  exact ⟨_, rfl, _, _, _, [], _, [], hW', trodAll_mk1 (shut_bool Try.underlying4 _), (trodAll_cons_mk (Below.trod laidOut (by kernel_rfl) (of_decide_eq_true (by kernel_rfl)) k0 bel lt0) (trodAll_cons_mk (shut_int Try.underlying3 w1) trodAll_mk0)), rfl, bel.frame _, fun h => by cases h⟩
theorem over : Rows.fnExactPageEntryRow.holds Try.pinned (OpenSpec.ofChange Rows.fnExactPageEntrySpec) :=
  OpenClaim.holds_of_wide 7 Try.f7 rfl rfl rfl rfl rfl rfl rfl ⟨rfl, rfl, rfl, rfl, rfl⟩ rfl rfl rfl rfl rfl (by kernel_rfl) Try.func7 (by kernel_rfl)
    (of_decide_eq_true (by kernel_rfl)) (by unfold Func.isWrapper; first | (rw [if_pos (by decide +kernel)]; kernel_rfl) | (rw [if_neg (by decide +kernel)]; exact ⟨rfl, rfl⟩))
    (fun os started H enc _ => lifted os started H enc)
theorem proved : Rows.FnExactPageEntrySaid := over
#print axioms proved
end Go.Proofs.Ytbfdopnbclkfcaa.fnExactPageEntry

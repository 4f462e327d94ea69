/- Called with any arguments, the law FnExactPagesOn returns true and each argument reads afterwards as before. No condition. -/
import Derived.Test.YtbfdopnbclkfcaaRows
import Derived.Test.YtbfdopnbclkfcaaS06
import Derived.Test.YtbfdopnbclkfcaaI06d
import Derived.Test.YtbfdopnbclkfcaaTo
import Derived.Test.YtbfdopnbclkfcaaEq
import Derived.Test.YtbfdopnbclkfcaaSz
import Derived.Test.YtbfdopnbclkfcaaMark
import Derived.Test.YtbfdopnbclkfcaaHeld
import Derived.Test.YtbfdopnbclkfcaaIn
import Derived.WalkKit
import Derived.ProofKit
import Derived.OpenShut
import Derived.ShutString
import Derived.ChangeOld
import Derived.Below
import Derived.Carry
import Derived.Deep.RegionHeld3
namespace Go.Proofs.Ytbfdopnbclkfcaa.fnExactPagesOn
open Go.ChangeShapes Go.WideShapes Go.ChangeAt Go.RowKit Go.Proofs.Ytbfdopnbclkfcaa.Tr
set_option linter.unusedVariables false
theorem own : ownKnob Try.prog.godebug = none := by kernel_rfl
theorem laidOut : laidOutB Try.prog = true := by kernel_rfl
set_option maxRecDepth 100000 in
set_option maxHeartbeats 800000 in
theorem walk (x0 : GTable) (c0_0 : Value) (x1 : Int) (w : World) (r0 : Raw w (eTable x0) [c0_0]) (hw0 : okTable x0) (hw1 : okI x1) :
    Calls Try.prog 8 #[(.agg #[c0_0]), (.int .i64 x1)] w fun e w' => e = .returned (.bool true) ∧ Below w.heap.size w w' := by
  have HO : Hid True := trivial
  have HR0 := Lib.hid r0
  clear r0
  obtain ⟨s0, hs0⟩ : ∃ s, w.heap.size = s := ⟨_, rfl⟩
  have HBL : Hid (Below w.heap.size w w) := Below.refl _ _
  have hb_ : Below w.heap.size w (w.alloc (.cells #[c0_0] 43)) := (Below.refl _ _).alloc (Nat.le_refl _) _
  have hx_ : (w.alloc (.cells #[c0_0] 43)).heap[s0]? = some (.cells #[c0_0] 43 (0, 0)) := by rw [← hs0]; exact heap_alloc_new _ _
  have hz_ : (w.alloc (.cells #[c0_0] 43)).heap.size = s0 + 1 := by simp [hs0]
  obtain ⟨w1, HW_w1⟩ : ∃ z, (w.alloc (.cells #[c0_0] 43)) = z := ⟨_, rfl⟩
  rw [HW_w1] at hb_ hx_ hz_
  have HBL' := Lib.hid (below_step HBL.out hb_)
  clear HBL
  have HBL := HBL'
  clear HBL'
  have HX_aT := Lib.hid hx_
  clear hx_
  obtain ⟨s2, hs2⟩ : ∃ s, w1.heap.size = s := ⟨_, rfl⟩
  have hls2 : s0 + 1 = s2 := by omega
  have HWE_w1 := Lib.hid HW_w1
  clear HW_w1 hb_ hz_
  go_enter Try.func8, Try.ntmps8
  have hc3 : w1.cell? ⟨s0, 0, none⟩ = some (c0_0) := cell_of_block HX_aT.out 0
  go_wp2_with fail
  rw [HWE_w1.out]
  clear HWE_w1
  refine (h_szTable x0 c0_0 1048576 w1 (raw_below HBL.out _ HR0.out) (by omega)).mono ?_
  rintro e w4 ⟨hcase, hb_⟩
  have HX_aT' := Lib.hid ((hb_.block s0 (by omega)).trans HX_aT.out)
  clear HX_aT
  have HX_aT := HX_aT'
  clear HX_aT'
  have HBL' := Lib.hid (below_step HBL.out hb_)
  clear HBL
  have HBL := HBL'
  clear HBL'
  obtain ⟨s6, hs6⟩ : ∃ s, w4.heap.size = s := ⟨_, rfl⟩
  have hls6 : s2 ≤ s6 := by have := hb_.size; omega
  clear hb_
  rcases hcase with ⟨q5, hq5, rfl⟩ | ⟨_, rfl⟩
  rotate_left
  · go_wp2
    go_ret
    exact ⟨rfl, HBL.out⟩
  have hsz0 : (eTable x0).sz ≤ 1048576 := by omega
  have hc7 : w4.cell? ⟨s0, 0, none⟩ = some (c0_0) := cell_of_block HX_aT.out 0
  go_wp2_with fail
  refine (h_toTable x0 c0_0 w4 (raw_below HBL.out _ HR0.out) (by omega)).mono ?_
  rintro e w9 ⟨u_, rfl, hm_, hb_⟩
  have hsh_ := hm_
  obtain ⟨bs_, hsh_, _⟩ := hsh_
  obtain ⟨Ak10_0, nk10_0, pk10_0, rfl⟩ := sinv_Table hsh_
  clear hsh_
  rw [hs6] at hm_
  have HX_aT' := Lib.hid ((hb_.block s0 (by omega)).trans HX_aT.out)
  clear HX_aT
  have HX_aT := HX_aT'
  clear HX_aT'
  have HBL' := Lib.hid (below_step HBL.out hb_)
  clear HBL
  have HBL := HBL'
  clear HBL'
  obtain ⟨s11, hs11⟩ : ∃ s, w9.heap.size = s := ⟨_, rfl⟩
  have hls11 : s6 ≤ s11 := by have := hb_.size; omega
  have HM_t8 := Lib.hid (hm_.toIn (Nat.le_of_eq hs11))
  clear hm_ hb_
  go_wp2_with fail
  refine (spec_PagesOn x0 (.slice Ak10_0 nk10_0 pk10_0) x1 w9 HM_t8.out.rd hsz0 hw1).mono ?_
  rintro e w12 ⟨u_, rfl, hm_, hb_⟩
  have hsh_ := hm_
  obtain ⟨bs_, hsh_, _⟩ := hsh_
  obtain ⟨Ak13, nk13, pk13, rfl⟩ := own_slice1 hsh_
  clear hsh_
  rw [hs11] at hm_
  have HX_aT' := Lib.hid ((hb_.block s0 (by omega)).trans HX_aT.out)
  clear HX_aT
  have HX_aT := HX_aT'
  clear HX_aT'
  have HM_t8' := Lib.hid (HM_t8.out.below hb_)
  clear HM_t8
  have HM_t8 := HM_t8'
  clear HM_t8'
  have HBL' := Lib.hid (below_step HBL.out hb_)
  clear HBL
  have HBL := HBL'
  clear HBL'
  obtain ⟨s14, hs14⟩ : ∃ s, w12.heap.size = s := ⟨_, rfl⟩
  have hls14 : s11 ≤ s14 := by have := hb_.size; omega
  have HM_w0 := Lib.hid (hm_.toIn (Nat.le_of_eq hs14))
  clear hm_ hb_
  simp only [List.headD_cons]
  have hsr : (eIntS (pPagesOn x0 x1)).sz ≤ 50000000 := bound_PagesOn x0 x1 hsz0
  have hc15 : w12.cell? ⟨s0, 0, none⟩ = some (c0_0) := cell_of_block HX_aT.out 0
  go_wp2_with fail
  refine (h_toTable x0 c0_0 w12 (raw_below HBL.out _ HR0.out) (by omega)).mono ?_
  rintro e w16 ⟨u_, rfl, hm_, hb_⟩
  have hsh_ := hm_
  obtain ⟨bs_, hsh_, _⟩ := hsh_
  obtain ⟨Ak17_0, nk17_0, pk17_0, rfl⟩ := sinv_Table hsh_
  clear hsh_
  rw [hs14] at hm_
  have HX_aT' := Lib.hid ((hb_.block s0 (by omega)).trans HX_aT.out)
  clear HX_aT
  have HX_aT := HX_aT'
  clear HX_aT'
  have HM_t8' := Lib.hid (HM_t8.out.below hb_)
  clear HM_t8
  have HM_t8 := HM_t8'
  clear HM_t8'
  have HM_w0' := Lib.hid (HM_w0.out.below hb_)
  clear HM_w0
  have HM_w0 := HM_w0'
  clear HM_w0'
  have HBL' := Lib.hid (below_step HBL.out hb_)
  clear HBL
  have HBL := HBL'
  clear HBL'
  obtain ⟨s18, hs18⟩ : ∃ s, w16.heap.size = s := ⟨_, rfl⟩
  have hls18 : s14 ≤ s18 := by have := hb_.size; omega
  have HM_x0 := Lib.hid (hm_.toIn (Nat.le_of_eq hs18))
  clear hm_ hb_
  have HXP_aT := HX_aT
  have hb_ : Below w16.heap.size w16 (w16.alloc (.cells #[.slice Ak17_0 nk17_0 pk17_0] 28)) := (Below.refl _ _).alloc (Nat.le_refl _) _
  have hx_ : (w16.alloc (.cells #[.slice Ak17_0 nk17_0 pk17_0] 28)).heap[s18]? = some (.cells #[.slice Ak17_0 nk17_0 pk17_0] 28 (0, 0)) := by rw [← hs18]; exact heap_alloc_new _ _
  have hz_ : (w16.alloc (.cells #[.slice Ak17_0 nk17_0 pk17_0] 28)).heap.size = s18 + 1 := by simp [hs18]
  obtain ⟨w19, HW_w19⟩ : ∃ z, (w16.alloc (.cells #[.slice Ak17_0 nk17_0 pk17_0] 28)) = z := ⟨_, rfl⟩
  rw [HW_w19] at hb_ hx_ hz_
  have HX_aT' := Lib.hid ((hb_.block s0 (by omega)).trans HX_aT.out)
  clear HX_aT
  have HX_aT := HX_aT'
  clear HX_aT'
  have HM_t8' := Lib.hid (HM_t8.out.below hb_)
  clear HM_t8
  have HM_t8 := HM_t8'
  clear HM_t8'
  have HM_w0' := Lib.hid (HM_w0.out.below hb_)
  clear HM_w0
  have HM_w0 := HM_w0'
  clear HM_w0'
  have HM_x0' := Lib.hid (HM_x0.out.below hb_)
  clear HM_x0
  have HM_x0 := HM_x0'
  clear HM_x0'
  have HBL' := Lib.hid (below_step HBL.out hb_)
  clear HBL
  have HBL := HBL'
  clear HBL'
  have HX_x0 := Lib.hid hx_
  clear hx_
  obtain ⟨s20, hs20⟩ : ∃ s, w19.heap.size = s := ⟨_, rfl⟩
  have hls20 : s18 + 1 = s20 := by omega
  have HWE_w19 := Lib.hid HW_w19
  clear HW_w19 hb_ hz_
  have hc21 : w19.cell? ⟨s18, 0, none⟩ = some (.slice Ak17_0 nk17_0 pk17_0) := cell_of_block HX_x0.out 0
  go_wp2_with fail
  rw [HWE_w19.out]
  clear HWE_w19 HXP_aT
  refine (impl_PagesOn x0 (.slice Ak17_0 nk17_0 pk17_0) x1 w19 HM_x0.out.rd hsz0 hw1).mono ?_
  rintro e w22 ⟨u_, rfl, hm_, hb_⟩
  have hsh_ := hm_
  obtain ⟨bs_, hsh_, _⟩ := hsh_
  obtain ⟨Ak23, nk23, pk23, rfl⟩ := own_slice1 hsh_
  clear hsh_
  rw [hs20] at hm_
  have HX_aT' := Lib.hid ((hb_.block s0 (by omega)).trans HX_aT.out)
  clear HX_aT
  have HX_aT := HX_aT'
  clear HX_aT'
  have HX_x0' := Lib.hid ((hb_.block s18 (by omega)).trans HX_x0.out)
  clear HX_x0
  have HX_x0 := HX_x0'
  clear HX_x0'
  have HM_t8' := Lib.hid (HM_t8.out.below hb_)
  clear HM_t8
  have HM_t8 := HM_t8'
  clear HM_t8'
  have HM_w0' := Lib.hid (HM_w0.out.below hb_)
  clear HM_w0
  have HM_w0 := HM_w0'
  clear HM_w0'
  have HM_x0' := Lib.hid (HM_x0.out.below hb_)
  clear HM_x0
  have HM_x0 := HM_x0'
  clear HM_x0'
  have HBL' := Lib.hid (below_step HBL.out hb_)
  clear HBL
  have HBL := HBL'
  clear HBL'
  obtain ⟨s24, hs24⟩ : ∃ s, w22.heap.size = s := ⟨_, rfl⟩
  have hls24 : s20 ≤ s24 := by have := hb_.size; omega
  have HM_g0 := Lib.hid (hm_.toIn (Nat.le_of_eq hs24))
  clear hm_ hb_
  simp only [List.headD_cons]
  go_wp2_with fail
  refine (h_eqIntS (pPagesOn x0 x1) (.slice Ak23 nk23 pk23) (.slice Ak13 nk13 pk13) w22 HM_g0.out.rd HM_w0.out.rd (by omega)).mono ?_
  rintro e w25 ⟨rfl, hb_⟩
  have HX_aT' := Lib.hid ((hb_.block s0 (by omega)).trans HX_aT.out)
  clear HX_aT
  have HX_aT := HX_aT'
  clear HX_aT'
  have HX_x0' := Lib.hid ((hb_.block s18 (by omega)).trans HX_x0.out)
  clear HX_x0
  have HX_x0 := HX_x0'
  clear HX_x0'
  have HM_t8' := Lib.hid (HM_t8.out.below hb_)
  clear HM_t8
  have HM_t8 := HM_t8'
  clear HM_t8'
  have HM_w0' := Lib.hid (HM_w0.out.below hb_)
  clear HM_w0
  have HM_w0 := HM_w0'
  clear HM_w0'
  have HM_x0' := Lib.hid (HM_x0.out.below hb_)
  clear HM_x0
  have HM_x0 := HM_x0'
  clear HM_x0'
  have HM_g0' := Lib.hid (HM_g0.out.below hb_)
  clear HM_g0
  have HM_g0 := HM_g0'
  clear HM_g0'
  have HBL' := Lib.hid (below_step HBL.out hb_)
  clear HBL
  have HBL := HBL'
  clear HBL'
  obtain ⟨s26, hs26⟩ : ∃ s, w25.heap.size = s := ⟨_, rfl⟩
  have hls26 : s24 ≤ s26 := by have := hb_.size; omega
  clear hb_
  go_wp2_with fail
  have HT : Hid (∀ w', Below w25.heap.size w25 w' → Calls Try.prog 24 #[(.agg #[c0_0])] w' (fun e w'' => ∃ (A_0 : Option Addr) (n_0 p_0 : Nat), e = .returned (.agg #[.slice A_0 n_0 p_0]) ∧ Rd w'' (eTable x0) [.slice A_0 n_0 p_0] ∧ Below w25.heap.size w25 w'')) := fun w' hb => (h_toTable x0 c0_0 w' (raw_below (below_step HBL.out hb) _ HR0.out) (by omega)).mono (by
    rintro e w'' ⟨u_, rfl, hm_, hb_⟩
    have hsh_ := hm_
    obtain ⟨bs_, hsh_, _⟩ := hsh_
    obtain ⟨A_0, n_0, p_0, rfl⟩ := sinv_Table hsh_
    exact ⟨A_0, n_0, p_0, rfl, hm_.rd, below_step hb hb_⟩)
  have HE : Hid (∀ w' (A_0 : Option Addr) (n_0 p_0 : Nat), Below w25.heap.size w25 w' → Rd w' (eTable x0) [.slice A_0 n_0 p_0] → Calls Try.prog 19 #[(.agg #[.slice Ak17_0 nk17_0 pk17_0]), (.agg #[.slice A_0 n_0 p_0])] w' (fun e w'' => e = .returned (.bool true) ∧ Below w25.heap.size w25 w'')) := fun w' A_0 n_0 p_0 hb hr => (h_eqTable x0 (.slice Ak17_0 nk17_0 pk17_0) (.slice A_0 n_0 p_0) w' (HM_x0.out.rd.below hb) hr (by omega)).mono (fun _ _ h => ⟨h.1, below_step hb h.2⟩)
  have hrf_ : Below w25.heap.size w25 w25.drew := (Below.refl _ _).drew
  have HK : Hid (∀ w', Below w25.heap.size w25 w' → w'.cell? ⟨s18, 0, none⟩ = some (.slice Ak17_0 nk17_0 pk17_0) ∧ w'.cell? ⟨s0, 0, none⟩ = some (c0_0) ∧ Below w25.heap.size w25 w') := fun w' hb => ⟨cell_below hb (cell_of_block HX_x0.out 0), cell_below hb (cell_of_block HX_aT.out 0), hb⟩
  go_region_held3 (fun w' => w'.cell? ⟨s18, 0, none⟩ = some (.slice Ak17_0 nk17_0 pk17_0) ∧ w'.cell? ⟨s0, 0, none⟩ = some (c0_0) ∧ Below w25.heap.size w25 w') (first | exact HK.out _ hrf_ | exact HK.out _ (by assumption)) (first | (go_at_call 24; refine (HT.out _ (by first | exact hrf_ | assumption)).mono ?_; rintro e wt_ ⟨A_0, n_0, p_0, rfl, hrt_, hbt_⟩) | (go_at_call 19; refine (HE.out _ _ _ _ (by first | exact hbt_ | assumption) (by first | exact hrt_ | assumption)).mono ?_; rintro e we_ ⟨rfl, hbe_⟩))
  obtain ⟨w27, hn_⟩ : ∃ z, we_ = z := ⟨_, rfl⟩
  rw [hn_] at hbe_
  rw [hn_]
  have HX_aT' := Lib.hid ((hbe_.block s0 (by omega)).trans HX_aT.out)
  clear HX_aT
  have HX_aT := HX_aT'
  clear HX_aT'
  have HX_x0' := Lib.hid ((hbe_.block s18 (by omega)).trans HX_x0.out)
  clear HX_x0
  have HX_x0 := HX_x0'
  clear HX_x0'
  have HM_t8' := Lib.hid (HM_t8.out.below hbe_)
  clear HM_t8
  have HM_t8 := HM_t8'
  clear HM_t8'
  have HM_w0' := Lib.hid (HM_w0.out.below hbe_)
  clear HM_w0
  have HM_w0 := HM_w0'
  clear HM_w0'
  have HM_x0' := Lib.hid (HM_x0.out.below hbe_)
  clear HM_x0
  have HM_x0 := HM_x0'
  clear HM_x0'
  have HM_g0' := Lib.hid (HM_g0.out.below hbe_)
  clear HM_g0
  have HM_g0 := HM_g0'
  clear HM_g0'
  have HBL' := Lib.hid (below_step HBL.out hbe_)
  clear HBL
  have HBL := HBL'
  clear HBL'
  obtain ⟨s28, hs28⟩ : ∃ s, w27.heap.size = s := ⟨_, rfl⟩
  have hls28 : s26 ≤ s28 := by have := hbe_.size; omega
  clear hbe_ hbt_ HT HE HK hrf_ hn_ hrt_
  have hc29 : w27.cell? ⟨s18, 0, none⟩ = some (.slice Ak17_0 nk17_0 pk17_0) := cell_of_block HX_x0.out 0
  go_wp2_with fail
  have hcb := cntb_Table (x0)
  have hct := cntTop_le (eTable x0)
  refine (mark_in HM_x0.out (fun bs_ ho_ hn_ => h_markTable (x0) (.slice Ak17_0 nk17_0 pk17_0) bs_ 1 w27 ho_ hn_ (by omega) (by omega))).mono ?_
  rintro e w30 ⟨rfl, hm_, ht_⟩
  obtain ⟨k31, hkk31⟩ : ∃ q : Nat, 1 + (eTable x0).cntTop = q := ⟨_, rfl⟩
  rw [hkk31]
  have HKk31 := Lib.hid hkk31
  clear hcb hct hkk31
  have HX_aT' := Lib.hid ((ht_.block s0 (by omega) (by omega)).trans HX_aT.out)
  clear HX_aT
  have HX_aT := HX_aT'
  clear HX_aT'
  have HX_x0' := Lib.hid ((ht_.block s18 (by omega) (by omega)).trans HX_x0.out)
  clear HX_x0
  have HX_x0 := HX_x0'
  clear HX_x0'
  have HM_t8' := Lib.hid (HM_t8.out.turn ht_ (by omega))
  clear HM_t8
  have HM_t8 := HM_t8'
  clear HM_t8'
  have HM_w0' := Lib.hid (HM_w0.out.turn ht_ (by omega))
  clear HM_w0
  have HM_w0 := HM_w0'
  clear HM_w0'
  have HM_g0' := Lib.hid (HM_g0.out.turn ht_ (by omega))
  clear HM_g0
  have HM_g0 := HM_g0'
  clear HM_g0'
  clear HM_x0
  have HM_x0 := Lib.hid hm_
  have HBL' := Lib.hid (HBL.out.trans (ht_.below (B := w.heap.size) (by omega) (by omega)))
  clear HBL
  have HBL := HBL'
  clear HBL'
  obtain ⟨s32, hs32⟩ : ∃ s, w30.heap.size = s := ⟨_, rfl⟩
  have hls32 : s28 ≤ s32 := by have := ht_.size; omega
  clear hm_ ht_
  go_wp2_with fail
  refine (h_eqIntS (pPagesOn x0 x1) (.slice Ak23 nk23 pk23) (.slice Ak13 nk13 pk13) w30 HM_g0.out.rd HM_w0.out.rd (by omega)).mono ?_
  rintro e w33 ⟨rfl, hb_⟩
  have HX_aT' := Lib.hid ((hb_.block s0 (by omega)).trans HX_aT.out)
  clear HX_aT
  have HX_aT := HX_aT'
  clear HX_aT'
  have HX_x0' := Lib.hid ((hb_.block s18 (by omega)).trans HX_x0.out)
  clear HX_x0
  have HX_x0 := HX_x0'
  clear HX_x0'
  have HM_t8' := Lib.hid (HM_t8.out.below hb_)
  clear HM_t8
  have HM_t8 := HM_t8'
  clear HM_t8'
  have HM_w0' := Lib.hid (HM_w0.out.below hb_)
  clear HM_w0
  have HM_w0 := HM_w0'
  clear HM_w0'
  have HM_x0' := Lib.hid (HM_x0.out.below hb_)
  clear HM_x0
  have HM_x0 := HM_x0'
  clear HM_x0'
  have HM_g0' := Lib.hid (HM_g0.out.below hb_)
  clear HM_g0
  have HM_g0 := HM_g0'
  clear HM_g0'
  have HBL' := Lib.hid (below_step HBL.out hb_)
  clear HBL
  have HBL := HBL'
  clear HBL'
  obtain ⟨s34, hs34⟩ : ∃ s, w33.heap.size = s := ⟨_, rfl⟩
  have hls34 : s32 ≤ s34 := by have := hb_.size; omega
  clear hb_
  go_wp2_with fail
  have hcb := cntb_IntS (pPagesOn x0 x1)
  have hct := cntTop_le (eIntS (pPagesOn x0 x1))
  refine (mark_in HM_g0.out (fun bs_ ho_ hn_ => h_markIntS (pPagesOn x0 x1) _ _ _ bs_ 1 w33 ho_ hn_ (by omega) (by omega))).mono ?_
  rintro e w35 ⟨rfl, hm_, ht_⟩
  obtain ⟨k36, hkk36⟩ : ∃ q : Nat, 1 + (eIntS (pPagesOn x0 x1)).cntTop = q := ⟨_, rfl⟩
  rw [hkk36]
  have HKk36 := Lib.hid hkk36
  clear hcb hct hkk36
  have HX_aT' := Lib.hid ((ht_.block s0 (by omega) (by omega)).trans HX_aT.out)
  clear HX_aT
  have HX_aT := HX_aT'
  clear HX_aT'
  have HX_x0' := Lib.hid ((ht_.block s18 (by omega) (by omega)).trans HX_x0.out)
  clear HX_x0
  have HX_x0 := HX_x0'
  clear HX_x0'
  have HM_t8' := Lib.hid (HM_t8.out.turn ht_ (by omega))
  clear HM_t8
  have HM_t8 := HM_t8'
  clear HM_t8'
  have HM_w0' := Lib.hid (HM_w0.out.turn ht_ (by omega))
  clear HM_w0
  have HM_w0 := HM_w0'
  clear HM_w0'
  have HM_x0' := Lib.hid (HM_x0.out.turn ht_ (by omega))
  clear HM_x0
  have HM_x0 := HM_x0'
  clear HM_x0'
  clear HM_g0
  have HM_g0 := Lib.hid hm_
  have HBL' := Lib.hid (HBL.out.trans (ht_.below (B := w.heap.size) (by omega) (by omega)))
  clear HBL
  have HBL := HBL'
  clear HBL'
  obtain ⟨s37, hs37⟩ : ∃ s, w35.heap.size = s := ⟨_, rfl⟩
  have hls37 : s34 ≤ s37 := by have := ht_.size; omega
  clear hm_ ht_
  go_wp2_with fail
  have hcb := cntb_IntS (pPagesOn x0 x1)
  have hct := cntTop_le (eIntS (pPagesOn x0 x1))
  refine (h_heldIntS (pPagesOn x0 x1) (.slice Ak23 nk23 pk23) 1 w35 HM_g0.out.rd (by omega) (by omega)).mono ?_
  rintro e w38 ⟨rfl, hb_⟩
  rw [HKk36.out]
  clear hcb hct
  have HX_aT' := Lib.hid ((hb_.block s0 (by omega)).trans HX_aT.out)
  clear HX_aT
  have HX_aT := HX_aT'
  clear HX_aT'
  have HX_x0' := Lib.hid ((hb_.block s18 (by omega)).trans HX_x0.out)
  clear HX_x0
  have HX_x0 := HX_x0'
  clear HX_x0'
  have HM_t8' := Lib.hid (HM_t8.out.below hb_)
  clear HM_t8
  have HM_t8 := HM_t8'
  clear HM_t8'
  have HM_w0' := Lib.hid (HM_w0.out.below hb_)
  clear HM_w0
  have HM_w0 := HM_w0'
  clear HM_w0'
  have HM_x0' := Lib.hid (HM_x0.out.below hb_)
  clear HM_x0
  have HM_x0 := HM_x0'
  clear HM_x0'
  have HM_g0' := Lib.hid (HM_g0.out.below hb_)
  clear HM_g0
  have HM_g0 := HM_g0'
  clear HM_g0'
  have HBL' := Lib.hid (below_step HBL.out hb_)
  clear HBL
  have HBL := HBL'
  clear HBL'
  obtain ⟨s39, hs39⟩ : ∃ s, w38.heap.size = s := ⟨_, rfl⟩
  have hls39 : s37 ≤ s39 := by have := hb_.size; omega
  clear hb_
  have hc40 : w38.cell? ⟨s0, 0, none⟩ = some (c0_0) := cell_of_block HX_aT.out 0
  go_wp2_with fail
  refine (h_toTable x0 c0_0 w38 (raw_below HBL.out _ HR0.out) (by omega)).mono ?_
  rintro e w42 ⟨u_, rfl, hm_, hb_⟩
  have hsh_ := hm_
  obtain ⟨bs_, hsh_, _⟩ := hsh_
  obtain ⟨Ak43_0, nk43_0, pk43_0, rfl⟩ := sinv_Table hsh_
  clear hsh_
  rw [hs39] at hm_
  have HX_aT' := Lib.hid ((hb_.block s0 (by omega)).trans HX_aT.out)
  clear HX_aT
  have HX_aT := HX_aT'
  clear HX_aT'
  have HX_x0' := Lib.hid ((hb_.block s18 (by omega)).trans HX_x0.out)
  clear HX_x0
  have HX_x0 := HX_x0'
  clear HX_x0'
  have HM_t8' := Lib.hid (HM_t8.out.below hb_)
  clear HM_t8
  have HM_t8 := HM_t8'
  clear HM_t8'
  have HM_w0' := Lib.hid (HM_w0.out.below hb_)
  clear HM_w0
  have HM_w0 := HM_w0'
  clear HM_w0'
  have HM_x0' := Lib.hid (HM_x0.out.below hb_)
  clear HM_x0
  have HM_x0 := HM_x0'
  clear HM_x0'
  have HM_g0' := Lib.hid (HM_g0.out.below hb_)
  clear HM_g0
  have HM_g0 := HM_g0'
  clear HM_g0'
  have HBL' := Lib.hid (below_step HBL.out hb_)
  clear HBL
  have HBL := HBL'
  clear HBL'
  obtain ⟨s44, hs44⟩ : ∃ s, w42.heap.size = s := ⟨_, rfl⟩
  have hls44 : s39 ≤ s44 := by have := hb_.size; omega
  have HM_t41 := Lib.hid (hm_.toIn (Nat.le_of_eq hs44))
  clear hm_ hb_
  go_wp2_with fail
  refine (impl_PagesOn x0 (.slice Ak43_0 nk43_0 pk43_0) x1 w42 HM_t41.out.rd hsz0 hw1).mono ?_
  rintro e w45 ⟨u_, rfl, hm_, hb_⟩
  have hsh_ := hm_
  obtain ⟨bs_, hsh_, _⟩ := hsh_
  obtain ⟨Ak46, nk46, pk46, rfl⟩ := own_slice1 hsh_
  clear hsh_
  rw [hs44] at hm_
  have HX_aT' := Lib.hid ((hb_.block s0 (by omega)).trans HX_aT.out)
  clear HX_aT
  have HX_aT := HX_aT'
  clear HX_aT'
  have HX_x0' := Lib.hid ((hb_.block s18 (by omega)).trans HX_x0.out)
  clear HX_x0
  have HX_x0 := HX_x0'
  clear HX_x0'
  have HM_t8' := Lib.hid (HM_t8.out.below hb_)
  clear HM_t8
  have HM_t8 := HM_t8'
  clear HM_t8'
  have HM_w0' := Lib.hid (HM_w0.out.below hb_)
  clear HM_w0
  have HM_w0 := HM_w0'
  clear HM_w0'
  have HM_x0' := Lib.hid (HM_x0.out.below hb_)
  clear HM_x0
  have HM_x0 := HM_x0'
  clear HM_x0'
  have HM_g0' := Lib.hid (HM_g0.out.below hb_)
  clear HM_g0
  have HM_g0 := HM_g0'
  clear HM_g0'
  have HM_t41' := Lib.hid (HM_t41.out.below hb_)
  clear HM_t41
  have HM_t41 := HM_t41'
  clear HM_t41'
  have HBL' := Lib.hid (below_step HBL.out hb_)
  clear HBL
  have HBL := HBL'
  clear HBL'
  obtain ⟨s47, hs47⟩ : ∃ s, w45.heap.size = s := ⟨_, rfl⟩
  have hls47 : s44 ≤ s47 := by have := hb_.size; omega
  have HM_h0 := Lib.hid (hm_.toIn (Nat.le_of_eq hs47))
  clear hm_ hb_
  simp only [List.headD_cons]
  go_wp2_with fail
  refine (h_eqIntS (pPagesOn x0 x1) (.slice Ak46 nk46 pk46) (.slice Ak13 nk13 pk13) w45 HM_h0.out.rd HM_w0.out.rd (by omega)).mono ?_
  rintro e w48 ⟨rfl, hb_⟩
  have HX_aT' := Lib.hid ((hb_.block s0 (by omega)).trans HX_aT.out)
  clear HX_aT
  have HX_aT := HX_aT'
  clear HX_aT'
  have HX_x0' := Lib.hid ((hb_.block s18 (by omega)).trans HX_x0.out)
  clear HX_x0
  have HX_x0 := HX_x0'
  clear HX_x0'
  have HM_t8' := Lib.hid (HM_t8.out.below hb_)
  clear HM_t8
  have HM_t8 := HM_t8'
  clear HM_t8'
  have HM_w0' := Lib.hid (HM_w0.out.below hb_)
  clear HM_w0
  have HM_w0 := HM_w0'
  clear HM_w0'
  have HM_x0' := Lib.hid (HM_x0.out.below hb_)
  clear HM_x0
  have HM_x0 := HM_x0'
  clear HM_x0'
  have HM_g0' := Lib.hid (HM_g0.out.below hb_)
  clear HM_g0
  have HM_g0 := HM_g0'
  clear HM_g0'
  have HM_t41' := Lib.hid (HM_t41.out.below hb_)
  clear HM_t41
  have HM_t41 := HM_t41'
  clear HM_t41'
  have HM_h0' := Lib.hid (HM_h0.out.below hb_)
  clear HM_h0
  have HM_h0 := HM_h0'
  clear HM_h0'
  have HBL' := Lib.hid (below_step HBL.out hb_)
  clear HBL
  have HBL := HBL'
  clear HBL'
  obtain ⟨s49, hs49⟩ : ∃ s, w48.heap.size = s := ⟨_, rfl⟩
  have hls49 : s47 ≤ s49 := by have := hb_.size; omega
  clear hb_
  go_wp2_with fail
  have hcb := cntb_IntS (pPagesOn x0 x1)
  have hct := cntTop_le (eIntS (pPagesOn x0 x1))
  refine (h_heldIntS (pPagesOn x0 x1) (.slice Ak23 nk23 pk23) 1 w48 HM_g0.out.rd (by omega) (by omega)).mono ?_
  rintro e w50 ⟨rfl, hb_⟩
  rw [HKk36.out]
  clear hcb hct
  have HX_aT' := Lib.hid ((hb_.block s0 (by omega)).trans HX_aT.out)
  clear HX_aT
  have HX_aT := HX_aT'
  clear HX_aT'
  have HX_x0' := Lib.hid ((hb_.block s18 (by omega)).trans HX_x0.out)
  clear HX_x0
  have HX_x0 := HX_x0'
  clear HX_x0'
  have HM_t8' := Lib.hid (HM_t8.out.below hb_)
  clear HM_t8
  have HM_t8 := HM_t8'
  clear HM_t8'
  have HM_w0' := Lib.hid (HM_w0.out.below hb_)
  clear HM_w0
  have HM_w0 := HM_w0'
  clear HM_w0'
  have HM_x0' := Lib.hid (HM_x0.out.below hb_)
  clear HM_x0
  have HM_x0 := HM_x0'
  clear HM_x0'
  have HM_g0' := Lib.hid (HM_g0.out.below hb_)
  clear HM_g0
  have HM_g0 := HM_g0'
  clear HM_g0'
  have HM_t41' := Lib.hid (HM_t41.out.below hb_)
  clear HM_t41
  have HM_t41 := HM_t41'
  clear HM_t41'
  have HM_h0' := Lib.hid (HM_h0.out.below hb_)
  clear HM_h0
  have HM_h0 := HM_h0'
  clear HM_h0'
  have HBL' := Lib.hid (below_step HBL.out hb_)
  clear HBL
  have HBL := HBL'
  clear HBL'
  obtain ⟨s51, hs51⟩ : ∃ s, w50.heap.size = s := ⟨_, rfl⟩
  have hls51 : s49 ≤ s51 := by have := hb_.size; omega
  clear hb_
  go_wp2
  go_ret
  exact ⟨rfl, HBL.out⟩
set_option maxRecDepth 100000 in
theorem lifted (os : Os) (started : os.Started) (H : Type) (enc : TypeId × Value → H) :
    ReturnsInHanded {} Try.checked os 8 .any (Rows.fnExactPagesOnSpec.pre6 enc Try.prog Try.f8 Rows.fnExactPagesOnRow.domain false) (Rows.fnExactPagesOnSpec.post enc Try.prog Try.f8 false true false false) := by
  refine returnsInHanded_of_change (C := Try.checked) own started (by kernel_rfl) Try.func8
    (ChangeSpec.witness6 (enc := enc) (C := Try.checked) false ⟨#[], #[.agg #[.slice none 0 0], .int .i64 0], []⟩ 8 (by kernel_rfl) (by kernel_rfl) (by kernel_rfl) (by kernel_rfl)) ?_
  intro W base args ds gs before hval0 hW hcnd _
  have hval : ∀ (j : Nat) t v, Try.f8.params[j]? = some t → args[j]? = some v → Value.okWide Try.prog W .any base t v := hval0
  have hW' := hW
  obtain ⟨p, q, hA0, hV, rfl, hfz, hnd⟩ := hW
  have hA : DataW.TrodAll enc Try.prog W 0 (fun _ => true) true Try.f8.params.toList args.toList ds p := hA0
  rw [Try.params8] at hA hval
  obtain ⟨v0, vs0, d0, ds0, p0, q0, hargs, rfl, rfl, h0, r0⟩ := trodAll_cons hA
  obtain ⟨v1, vs1, d1, ds1, p1, q1, rfl, rfl, rfl, h1, r1⟩ := trodAll_cons r0
  obtain ⟨rfl, rfl, rfl⟩ := trodAll_nil r1
  obtain rfl : args = #[v0, v1] := by cases args; simp_all
  obtain ⟨rfl, rfl⟩ := trodVars_none hV
  have k0 := h0
  have lt0 : ∀ x ∈ p0, x.block < W.heap.size := by obtain ⟨m, hm⟩ := k0; exact DataW.trod_lt m _ _ _ hm
  obtain ⟨x0, raw0, ok0⟩ := opens_trod opens_Table h0
  obtain ⟨cs0, rfl, _⟩ := okWide_struct Try.underlying43 (hval 0 43 v0 rfl rfl)
  obtain ⟨cs0⟩ := cs0
  have raw0 : Raw W (eTable x0) cs0 := raw0
  obtain ⟨c0_0, rfl⟩ := rinv_Table raw0
  obtain ⟨a1, rfl, rfl, rfl, w1⟩ := open_int Try.underlying3 (hval 1 3 v1 rfl rfl) h1
  clear hA0 hval0
  refine (walk x0 c0_0 a1 W raw0 ok0 (okI_wf w1)).mono fun e W' ⟨he, bel⟩ => ?_
  subst he
  exact ⟨_, rfl, _, _, _, [], _, [], hW', trodAll_mk1 (shut_bool Try.underlying4 _), (trodAll_cons_mk (Below.trod laidOut (by kernel_rfl) (of_decide_eq_true (by kernel_rfl)) k0 bel lt0) (trodAll_cons_mk (shut_int Try.underlying3 w1) trodAll_mk0)), rfl, bel.frame _, fun h => by cases h⟩
theorem over : Rows.fnExactPagesOnRow.holds Try.pinned (OpenSpec.ofChange Rows.fnExactPagesOnSpec) :=
  OpenClaim.holds_of_wide 8 Try.f8 rfl rfl rfl rfl rfl rfl rfl ⟨rfl, rfl, rfl, rfl, rfl⟩ rfl rfl rfl rfl rfl (by kernel_rfl) Try.func8 (by kernel_rfl)
    (of_decide_eq_true (by kernel_rfl)) (by unfold Func.isWrapper; first | (rw [if_pos (by decide +kernel)]; kernel_rfl) | (rw [if_neg (by decide +kernel)]; exact ⟨rfl, rfl⟩))
    (fun os started H enc _ => lifted os started H enc)
theorem proved : Rows.FnExactPagesOnSaid := over
#print axioms proved
end Go.Proofs.Ytbfdopnbclkfcaa.fnExactPagesOn

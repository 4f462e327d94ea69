/- Called with any arguments, the law FnExactUsedFrames returns true and each argument reads afterwards as before. No condition. -/
import Derived.Test.YtmajlgnjgnodoaaRows
import Derived.Test.YtmajlgnjgnodoaaS05b
import Derived.Test.YtmajlgnjgnodoaaS05e
import Derived.Test.YtmajlgnjgnodoaaS05f
import Derived.Test.YtmajlgnjgnodoaaS05g
import Derived.Test.YtmajlgnjgnodoaaS05h
import Derived.Test.YtmajlgnjgnodoaaI05e
import Derived.Test.YtmajlgnjgnodoaaTo
import Derived.Test.YtmajlgnjgnodoaaEq
import Derived.Test.YtmajlgnjgnodoaaSz
import Derived.Test.YtmajlgnjgnodoaaMark
import Derived.Test.YtmajlgnjgnodoaaHeld
import Derived.Test.YtmajlgnjgnodoaaIn
import Derived.WalkKit
import Derived.ProofKit
import Derived.OpenShut
import Derived.ShutString
import Derived.ChangeOld
import Derived.Below
import Derived.Carry
import Derived.Deep.RegionHeld3
namespace Go.Proofs.Ytmajlgnjgnodoaa.fnExactUsedFrames
open Go.ChangeShapes Go.WideShapes Go.ChangeAt Go.RowKit Go.Proofs.Ytmajlgnjgnodoaa.Tr
set_option linter.unusedVariables false
theorem own : ownKnob Try.prog.godebug = none := by kernel_rfl
theorem laidOut : laidOutB Try.prog = true := by kernel_rfl
set_option maxRecDepth 100000 in
theorem walk (x0 : GFrames) (c0_0 c0_1 : Value) (w : World) (r0 : Raw w (eFrames x0) [c0_0, c0_1]) (hw0 : okFrames x0) :
    Calls Try.prog 12 #[(.agg #[c0_0, c0_1])] w fun e w' => e = .returned (.bool true) ∧ Below w.heap.size w w' := by
  have HO : Hid True := trivial
  have HR0 := Lib.hid r0
  clear r0
  obtain ⟨s0, hs0⟩ : ∃ s, w.heap.size = s := ⟨_, rfl⟩
  have HBL : Hid (Below w.heap.size w w) := Below.refl _ _
  have hb_ : Below w.heap.size w (w.alloc (.cells #[c0_0, c0_1] 44)) := (Below.refl _ _).alloc (Nat.le_refl _) _
  have hx_ : (w.alloc (.cells #[c0_0, c0_1] 44)).heap[s0]? = some (.cells #[c0_0, c0_1] 44 (0, 0)) := by rw [← hs0]; exact heap_alloc_new _ _
  have hz_ : (w.alloc (.cells #[c0_0, c0_1] 44)).heap.size = s0 + 1 := by simp [hs0]
  obtain ⟨w1, HW_w1⟩ : ∃ z, (w.alloc (.cells #[c0_0, c0_1] 44)) = z := ⟨_, rfl⟩
  rw [HW_w1] at hb_ hx_ hz_
  have HBL' := Lib.hid (below_step HBL.out hb_)
  clear HBL
  have HBL := HBL'
  clear HBL'
  have HX_aF := Lib.hid hx_
  clear hx_
  obtain ⟨s2, hs2⟩ : ∃ s, w1.heap.size = s := ⟨_, rfl⟩
  have hls2 : s0 + 1 = s2 := by omega
  have HWE_w1 := Lib.hid HW_w1
  clear HW_w1 hb_ hz_
  go_enter Try.func12, Try.ntmps12
  have hc3 : w1.cell? ⟨s0, 0, none⟩ = some (c0_0) := cell_of_block HX_aF.out 0
  have hc4 : w1.cell? ⟨s0, 1, none⟩ = some (c0_1) := cell_of_block HX_aF.out 1
  go_wp2_with fail
  rw [HWE_w1.out]
  clear HWE_w1
  refine (h_szFrames x0 c0_0 c0_1 1048576 w1 (raw_below HBL.out _ HR0.out) (by omega)).mono ?_
  rintro e w5 ⟨hcase, hb_⟩
  have HX_aF' := Lib.hid ((hb_.block s0 (by omega)).trans HX_aF.out)
  clear HX_aF
  have HX_aF := HX_aF'
  clear HX_aF'
  have HBL' := Lib.hid (below_step HBL.out hb_)
  clear HBL
  have HBL := HBL'
  clear HBL'
  obtain ⟨s7, hs7⟩ : ∃ s, w5.heap.size = s := ⟨_, rfl⟩
  have hls7 : s2 ≤ s7 := by have := hb_.size; omega
  clear hb_
  rcases hcase with ⟨q6, hq6, rfl⟩ | ⟨_, rfl⟩
  rotate_left
  · go_wp2
    go_ret
    exact ⟨rfl, HBL.out⟩
  have hsz0 : (eFrames x0).sz ≤ 1048576 := by omega
  have hc8 : w5.cell? ⟨s0, 0, none⟩ = some (c0_0) := cell_of_block HX_aF.out 0
  have hc9 : w5.cell? ⟨s0, 1, none⟩ = some (c0_1) := cell_of_block HX_aF.out 1
  go_wp2_with fail
  refine (h_toFrames x0 c0_0 c0_1 w5 (raw_below HBL.out _ HR0.out) (by omega)).mono ?_
  rintro e w11 ⟨u_, rfl, hm_, hb_⟩
  have hsh_ := hm_
  obtain ⟨bs_, hsh_, _⟩ := hsh_
  obtain ⟨Ak12_0, nk12_0, pk12_0, Ak12_1, nk12_1, pk12_1, rfl⟩ := sinv_Frames hsh_
  clear hsh_
  rw [hs7] at hm_
  have HX_aF' := Lib.hid ((hb_.block s0 (by omega)).trans HX_aF.out)
  clear HX_aF
  have HX_aF := HX_aF'
  clear HX_aF'
  have HBL' := Lib.hid (below_step HBL.out hb_)
  clear HBL
  have HBL := HBL'
  clear HBL'
  obtain ⟨s13, hs13⟩ : ∃ s, w11.heap.size = s := ⟨_, rfl⟩
  have hls13 : s7 ≤ s13 := by have := hb_.size; omega
  have HM_t10 := Lib.hid (hm_.toIn (Nat.le_of_eq hs13))
  clear hm_ hb_
  go_wp2_with fail
  refine (spec_UsedFrames x0 (.slice Ak12_0 nk12_0 pk12_0) (.slice Ak12_1 nk12_1 pk12_1) w11 HM_t10.out.rd hsz0).mono ?_
  rintro e w14 ⟨rfl, hb_⟩
  have HX_aF' := Lib.hid ((hb_.block s0 (by omega)).trans HX_aF.out)
  clear HX_aF
  have HX_aF := HX_aF'
  clear HX_aF'
  have HM_t10' := Lib.hid (HM_t10.out.below hb_)
  clear HM_t10
  have HM_t10 := HM_t10'
  clear HM_t10'
  have HBL' := Lib.hid (below_step HBL.out hb_)
  clear HBL
  have HBL := HBL'
  clear HBL'
  obtain ⟨s15, hs15⟩ : ∃ s, w14.heap.size = s := ⟨_, rfl⟩
  have hls15 : s13 ≤ s15 := by have := hb_.size; omega
  clear hb_
  have hc16 : w14.cell? ⟨s0, 0, none⟩ = some (c0_0) := cell_of_block HX_aF.out 0
  have hc17 : w14.cell? ⟨s0, 1, none⟩ = some (c0_1) := cell_of_block HX_aF.out 1
  go_wp2_with fail
  refine (h_toFrames x0 c0_0 c0_1 w14 (raw_below HBL.out _ HR0.out) (by omega)).mono ?_
  rintro e w18 ⟨u_, rfl, hm_, hb_⟩
  have hsh_ := hm_
  obtain ⟨bs_, hsh_, _⟩ := hsh_
  obtain ⟨Ak19_0, nk19_0, pk19_0, Ak19_1, nk19_1, pk19_1, rfl⟩ := sinv_Frames hsh_
  clear hsh_
  rw [hs15] at hm_
  have HX_aF' := Lib.hid ((hb_.block s0 (by omega)).trans HX_aF.out)
  clear HX_aF
  have HX_aF := HX_aF'
  clear HX_aF'
  have HM_t10' := Lib.hid (HM_t10.out.below hb_)
  clear HM_t10
  have HM_t10 := HM_t10'
  clear HM_t10'
  have HBL' := Lib.hid (below_step HBL.out hb_)
  clear HBL
  have HBL := HBL'
  clear HBL'
  obtain ⟨s20, hs20⟩ : ∃ s, w18.heap.size = s := ⟨_, rfl⟩
  have hls20 : s15 ≤ s20 := by have := hb_.size; omega
  have HM_x0 := Lib.hid (hm_.toIn (Nat.le_of_eq hs20))
  clear hm_ hb_
  have HXP_aF := HX_aF
  have hb_ : Below w18.heap.size w18 (w18.alloc (.cells #[.slice Ak19_0 nk19_0 pk19_0, .slice Ak19_1 nk19_1 pk19_1] 27)) := (Below.refl _ _).alloc (Nat.le_refl _) _
  have hx_ : (w18.alloc (.cells #[.slice Ak19_0 nk19_0 pk19_0, .slice Ak19_1 nk19_1 pk19_1] 27)).heap[s20]? = some (.cells #[.slice Ak19_0 nk19_0 pk19_0, .slice Ak19_1 nk19_1 pk19_1] 27 (0, 0)) := by rw [← hs20]; exact heap_alloc_new _ _
  have hz_ : (w18.alloc (.cells #[.slice Ak19_0 nk19_0 pk19_0, .slice Ak19_1 nk19_1 pk19_1] 27)).heap.size = s20 + 1 := by simp [hs20]
  obtain ⟨w21, HW_w21⟩ : ∃ z, (w18.alloc (.cells #[.slice Ak19_0 nk19_0 pk19_0, .slice Ak19_1 nk19_1 pk19_1] 27)) = z := ⟨_, rfl⟩
  rw [HW_w21] at hb_ hx_ hz_
  have HX_aF' := Lib.hid ((hb_.block s0 (by omega)).trans HX_aF.out)
  clear HX_aF
  have HX_aF := HX_aF'
  clear HX_aF'
  have HM_t10' := Lib.hid (HM_t10.out.below hb_)
  clear HM_t10
  have HM_t10 := HM_t10'
  clear HM_t10'
  have HM_x0' := Lib.hid (HM_x0.out.below hb_)
  clear HM_x0
  have HM_x0 := HM_x0'
  clear HM_x0'
  have HBL' := Lib.hid (below_step HBL.out hb_)
  clear HBL
  have HBL := HBL'
  clear HBL'
  have HX_x0 := Lib.hid hx_
  clear hx_
  obtain ⟨s22, hs22⟩ : ∃ s, w21.heap.size = s := ⟨_, rfl⟩
  have hls22 : s20 + 1 = s22 := by omega
  have HWE_w21 := Lib.hid HW_w21
  clear HW_w21 hb_ hz_
  have hc23 : w21.cell? ⟨s20, 0, none⟩ = some (.slice Ak19_0 nk19_0 pk19_0) := cell_of_block HX_x0.out 0
  have hc24 : w21.cell? ⟨s20, 1, none⟩ = some (.slice Ak19_1 nk19_1 pk19_1) := cell_of_block HX_x0.out 1
  go_wp2_with fail
  rw [HWE_w21.out]
  clear HWE_w21 HXP_aF
  refine (impl_UsedFrames x0 (.slice Ak19_0 nk19_0 pk19_0) (.slice Ak19_1 nk19_1 pk19_1) w21 HM_x0.out.rd hsz0).mono ?_
  rintro e w25 ⟨rfl, hb_⟩
  have HX_aF' := Lib.hid ((hb_.block s0 (by omega)).trans HX_aF.out)
  clear HX_aF
  have HX_aF := HX_aF'
  clear HX_aF'
  have HX_x0' := Lib.hid ((hb_.block s20 (by omega)).trans HX_x0.out)
  clear HX_x0
  have HX_x0 := HX_x0'
  clear HX_x0'
  have HM_t10' := Lib.hid (HM_t10.out.below hb_)
  clear HM_t10
  have HM_t10 := HM_t10'
  clear HM_t10'
  have HM_x0' := Lib.hid (HM_x0.out.below hb_)
  clear HM_x0
  have HM_x0 := HM_x0'
  clear HM_x0'
  have HBL' := Lib.hid (below_step HBL.out hb_)
  clear HBL
  have HBL := HBL'
  clear HBL'
  obtain ⟨s26, hs26⟩ : ∃ s, w25.heap.size = s := ⟨_, rfl⟩
  have hls26 : s22 ≤ s26 := by have := hb_.size; omega
  clear hb_
  go_wp2_with fail
  have HT : Hid (∀ w', Below w25.heap.size w25 w' → Calls Try.prog 32 #[(.agg #[c0_0, c0_1])] w' (fun e w'' => ∃ (A_0 : Option Addr) (n_0 p_0 : Nat) (A_1 : Option Addr) (n_1 p_1 : Nat), e = .returned (.agg #[.slice A_0 n_0 p_0, .slice A_1 n_1 p_1]) ∧ Rd w'' (eFrames x0) [.slice A_0 n_0 p_0, .slice A_1 n_1 p_1] ∧ Below w25.heap.size w25 w'')) := fun w' hb => (h_toFrames x0 c0_0 c0_1 w' (raw_below (below_step HBL.out hb) _ HR0.out) (by omega)).mono (by
    rintro e w'' ⟨u_, rfl, hm_, hb_⟩
    have hsh_ := hm_
    obtain ⟨bs_, hsh_, _⟩ := hsh_
    obtain ⟨A_0, n_0, p_0, A_1, n_1, p_1, rfl⟩ := sinv_Frames hsh_
    exact ⟨A_0, n_0, p_0, A_1, n_1, p_1, rfl, hm_.rd, below_step hb hb_⟩)
  have HE : Hid (∀ w' (A_0 : Option Addr) (n_0 p_0 : Nat) (A_1 : Option Addr) (n_1 p_1 : Nat), Below w25.heap.size w25 w' → Rd w' (eFrames x0) [.slice A_0 n_0 p_0, .slice A_1 n_1 p_1] → Calls Try.prog 27 #[(.agg #[.slice Ak19_0 nk19_0 pk19_0, .slice Ak19_1 nk19_1 pk19_1]), (.agg #[.slice A_0 n_0 p_0, .slice A_1 n_1 p_1])] w' (fun e w'' => e = .returned (.bool true) ∧ Below w25.heap.size w25 w'')) := fun w' A_0 n_0 p_0 A_1 n_1 p_1 hb hr => (h_eqFrames x0 (.slice Ak19_0 nk19_0 pk19_0) (.slice Ak19_1 nk19_1 pk19_1) (.slice A_0 n_0 p_0) (.slice A_1 n_1 p_1) w' (HM_x0.out.rd.below hb) hr (by omega)).mono (fun _ _ h => ⟨h.1, below_step hb h.2⟩)
  have hrf_ : Below w25.heap.size w25 w25.drew := (Below.refl _ _).drew
  have HK : Hid (∀ w', Below w25.heap.size w25 w' → w'.cell? ⟨s20, 0, none⟩ = some (.slice Ak19_0 nk19_0 pk19_0) ∧ w'.cell? ⟨s20, 1, none⟩ = some (.slice Ak19_1 nk19_1 pk19_1) ∧ w'.cell? ⟨s0, 0, none⟩ = some (c0_0) ∧ w'.cell? ⟨s0, 1, none⟩ = some (c0_1) ∧ Below w25.heap.size w25 w') := fun w' hb => ⟨cell_below hb (cell_of_block HX_x0.out 0), cell_below hb (cell_of_block HX_x0.out 1), cell_below hb (cell_of_block HX_aF.out 0), cell_below hb (cell_of_block HX_aF.out 1), hb⟩
  go_region_held3 (fun w' => w'.cell? ⟨s20, 0, none⟩ = some (.slice Ak19_0 nk19_0 pk19_0) ∧ w'.cell? ⟨s20, 1, none⟩ = some (.slice Ak19_1 nk19_1 pk19_1) ∧ w'.cell? ⟨s0, 0, none⟩ = some (c0_0) ∧ w'.cell? ⟨s0, 1, none⟩ = some (c0_1) ∧ Below w25.heap.size w25 w') (first | exact HK.out _ hrf_ | exact HK.out _ (by assumption)) (first | (go_at_call 32; refine (HT.out _ (by first | exact hrf_ | assumption)).mono ?_; rintro e wt_ ⟨A_0, n_0, p_0, A_1, n_1, p_1, rfl, hrt_, hbt_⟩) | (go_at_call 27; refine (HE.out _ _ _ _ _ _ _ (by first | exact hbt_ | assumption) (by first | exact hrt_ | assumption)).mono ?_; rintro e we_ ⟨rfl, hbe_⟩))
  obtain ⟨w27, hn_⟩ : ∃ z, we_ = z := ⟨_, rfl⟩
  rw [hn_] at hbe_
  rw [hn_]
  have HX_aF' := Lib.hid ((hbe_.block s0 (by omega)).trans HX_aF.out)
  clear HX_aF
  have HX_aF := HX_aF'
  clear HX_aF'
  have HX_x0' := Lib.hid ((hbe_.block s20 (by omega)).trans HX_x0.out)
  clear HX_x0
  have HX_x0 := HX_x0'
  clear HX_x0'
  have HM_t10' := Lib.hid (HM_t10.out.below hbe_)
  clear HM_t10
  have HM_t10 := HM_t10'
  clear HM_t10'
  have HM_x0' := Lib.hid (HM_x0.out.below hbe_)
  clear HM_x0
  have HM_x0 := HM_x0'
  clear HM_x0'
  have HBL' := Lib.hid (below_step HBL.out hbe_)
  clear HBL
  have HBL := HBL'
  clear HBL'
  obtain ⟨s28, hs28⟩ : ∃ s, w27.heap.size = s := ⟨_, rfl⟩
  have hls28 : s26 ≤ s28 := by have := hbe_.size; omega
  clear hbe_ hbt_ HT HE HK hrf_ hn_ hrt_
  go_wp2
  go_ret
  exact ⟨rfl, HBL.out⟩
theorem lifted (os : Os) (started : os.Started) (H : Type) (enc : TypeId × Value → H) :
    ReturnsInHanded {} Try.checked os 12 .any (Rows.fnExactUsedFramesSpec.pre6 enc Try.prog Try.f12 Rows.fnExactUsedFramesRow.domain false) (Rows.fnExactUsedFramesSpec.post enc Try.prog Try.f12 false true false false) := by
  refine returnsInHanded_of_change (C := Try.checked) own started (by kernel_rfl) Try.func12
    (ChangeSpec.witness6 (enc := enc) (C := Try.checked) false ⟨#[], #[.agg #[.slice none 0 0, .slice none 0 0]], []⟩ 8 (by kernel_rfl) (by kernel_rfl) (by kernel_rfl) (by kernel_rfl)) ?_
  intro W base args ds gs before hval0 hW hcnd _
  have hval : ∀ (j : Nat) t v, Try.f12.params[j]? = some t → args[j]? = some v → Value.okWide Try.prog W .any base t v := hval0
  have hW' := hW
  obtain ⟨p, q, hA0, hV, rfl, hfz, hnd⟩ := hW
  have hA : DataW.TrodAll enc Try.prog W 0 (fun _ => true) true Try.f12.params.toList args.toList ds p := hA0
  rw [Try.params12] at hA hval
  obtain ⟨v0, vs0, d0, ds0, p0, q0, hargs, rfl, rfl, h0, r0⟩ := trodAll_cons hA
  obtain ⟨rfl, rfl, rfl⟩ := trodAll_nil r0
  obtain rfl : args = #[v0] := by cases args; simp_all
  obtain ⟨rfl, rfl⟩ := trodVars_none hV
  have k0 := h0
  have lt0 : ∀ x ∈ p0, x.block < W.heap.size := by obtain ⟨m, hm⟩ := k0; exact DataW.trod_lt m _ _ _ hm
  obtain ⟨x0, raw0, ok0⟩ := opens_trod opens_Frames h0
  obtain ⟨cs0, rfl, _⟩ := okWide_struct Try.underlying44 (hval 0 44 v0 rfl rfl)
  obtain ⟨cs0⟩ := cs0
  have raw0 : Raw W (eFrames x0) cs0 := raw0
  obtain ⟨c0_0, c0_1, rfl⟩ := rinv_Frames raw0
  clear hA0 hval0
  refine (walk x0 c0_0 c0_1 W raw0 ok0).mono fun e W' ⟨he, bel⟩ => ?_
  subst he
  exact ⟨_, rfl, _, _, _, [], _, [], hW', trodAll_mk1 (shut_bool Try.underlying4 _), (trodAll_cons_mk (Below.trod laidOut (by kernel_rfl) (of_decide_eq_true (by kernel_rfl)) k0 bel lt0) trodAll_mk0), rfl, bel.frame _, fun h => by cases h⟩
theorem over : Rows.fnExactUsedFramesRow.holds Try.pinned (OpenSpec.ofChange Rows.fnExactUsedFramesSpec) :=
  OpenClaim.holds_of_wide 12 Try.f12 rfl rfl rfl rfl rfl rfl rfl ⟨rfl, rfl, rfl, rfl, rfl⟩ rfl rfl rfl rfl rfl (by kernel_rfl) Try.func12 (by kernel_rfl)
    (of_decide_eq_true (by kernel_rfl)) (by unfold Func.isWrapper; first | (rw [if_pos (by decide +kernel)]; kernel_rfl) | (rw [if_neg (by decide +kernel)]; exact ⟨rfl, rfl⟩))
    (fun os started H enc _ => lifted os started H enc)
theorem proved : Rows.FnExactUsedFramesSaid := over
#print axioms proved
end Go.Proofs.Ytmajlgnjgnodoaa.fnExactUsedFrames

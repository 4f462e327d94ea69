/- Called with any arguments, the law FnExactMappedPages returns true and each argument reads afterwards as before. No condition. -/
import Derived.Test.YtbfdopnbclkfcaaRows
import Derived.Test.YtbfdopnbclkfcaaS06
import Derived.Test.YtbfdopnbclkfcaaI06d
import Derived.Test.YtbfdopnbclkfcaaTo
import Derived.Test.YtbfdopnbclkfcaaEq
import Derived.Test.YtbfdopnbclkfcaaSz
import Derived.Test.YtbfdopnbclkfcaaMark
import Derived.Test.YtbfdopnbclkfcaaHeld
import Derived.Test.YtbfdopnbclkfcaaIn
import Derived.WalkKit
import Derived.ProofKit
import Derived.OpenShut
import Derived.ShutString
import Derived.ChangeOld
import Derived.Below
import Derived.Carry
import Derived.Deep.RegionHeld3
namespace Go.Proofs.Ytbfdopnbclkfcaa.fnExactMappedPages
open Go.ChangeShapes Go.WideShapes Go.ChangeAt Go.RowKit Go.Proofs.Ytbfdopnbclkfcaa.Tr
set_option linter.unusedVariables false
theorem own : ownKnob Try.prog.godebug = none := by kernel_rfl
theorem laidOut : laidOutB Try.prog = true := by kernel_rfl
set_option maxRecDepth 100000 in
set_option maxHeartbeats 800000 in
theorem walk (x0 : GTable) (c0_0 : Value) (w : World) (r0 : Raw w (eTable x0) [c0_0]) (hw0 : okTable x0) :
    Calls Try.prog 9 #[(.agg #[c0_0])] w fun e w' => e = .returned (.bool true) ∧ Below w.heap.size w w' := by
  have HO : Hid True := trivial
  have HR0 := Lib.hid r0
  clear r0
  obtain ⟨s0, hs0⟩ : ∃ s, w.heap.size = s := ⟨_, rfl⟩
  have HBL : Hid (Below w.heap.size w w) := Below.refl _ _
  have hb_ : Below w.heap.size w (w.alloc (.cells #[c0_0] 43)) := (Below.refl _ _).alloc (Nat.le_refl _) _
  have hx_ : (w.alloc (.cells #[c0_0] 43)).heap[s0]? = some (.cells #[c0_0] 43 (0, 0)) := by rw [← hs0]; exact heap_alloc_new _ _
  have hz_ : (w.alloc (.cells #[c0_0] 43)).heap.size = s0 + 1 := by simp [hs0]
  obtain ⟨w1, HW_w1⟩ : ∃ z, (w.alloc (.cells #[c0_0] 43)) = z := ⟨_, rfl⟩
  rw [HW_w1] at hb_ hx_ hz_
  have HBL' := Lib.hid (below_step HBL.out hb_)
  clear HBL
  have HBL := HBL'
  clear HBL'
  have HX_aT := Lib.hid hx_
  clear hx_
  obtain ⟨s2, hs2⟩ : ∃ s, w1.heap.size = s := ⟨_, rfl⟩
  have hls2 : s0 + 1 = s2 := by omega
  have HWE_w1 := Lib.hid HW_w1
  clear HW_w1 hb_ hz_
  go_enter Try.func9, Try.ntmps9
  have hc3 : w1.cell? ⟨s0, 0, none⟩ = some (c0_0) := cell_of_block HX_aT.out 0
  go_wp2_with fail
  rw [HWE_w1.out]
  clear HWE_w1
  refine (h_szTable x0 c0_0 1048576 w1 (raw_below HBL.out _ HR0.out) (by omega)).mono ?_
  rintro e w4 ⟨hcase, hb_⟩
  have HX_aT' := Lib.hid ((hb_.block s0 (by omega)).trans HX_aT.out)
  clear HX_aT
  have HX_aT := HX_aT'
  clear HX_aT'
  have HBL' := Lib.hid (below_step HBL.out hb_)
  clear HBL
  have HBL := HBL'
  clear HBL'
  obtain ⟨s6, hs6⟩ : ∃ s, w4.heap.size = s := ⟨_, rfl⟩
  have hls6 : s2 ≤ s6 := by have := hb_.size; omega
  clear hb_
  rcases hcase with ⟨q5, hq5, rfl⟩ | ⟨_, rfl⟩
  rotate_left
  · go_wp2
    go_ret
    exact ⟨rfl, HBL.out⟩
  have hsz0 : (eTable x0).sz ≤ 1048576 := by omega
  have hc7 : w4.cell? ⟨s0, 0, none⟩ = some (c0_0) := cell_of_block HX_aT.out 0
  go_wp2_with fail
  refine (h_toTable x0 c0_0 w4 (raw_below HBL.out _ HR0.out) (by omega)).mono ?_
  rintro e w9 ⟨u_, rfl, hm_, hb_⟩
  have hsh_ := hm_
  obtain ⟨bs_, hsh_, _⟩ := hsh_
  obtain ⟨Ak10_0, nk10_0, pk10_0, rfl⟩ := sinv_Table hsh_
  clear hsh_
  rw [hs6] at hm_
  have HX_aT' := Lib.hid ((hb_.block s0 (by omega)).trans HX_aT.out)
  clear HX_aT
  have HX_aT := HX_aT'
  clear HX_aT'
  have HBL' := Lib.hid (below_step HBL.out hb_)
  clear HBL
  have HBL := HBL'
  clear HBL'
  obtain ⟨s11, hs11⟩ : ∃ s, w9.heap.size = s := ⟨_, rfl⟩
  have hls11 : s6 ≤ s11 := by have := hb_.size; omega
  have HM_t8 := Lib.hid (hm_.toIn (Nat.le_of_eq hs11))
  clear hm_ hb_
  go_wp2_with fail
  refine (spec_MappedPages x0 (.slice Ak10_0 nk10_0 pk10_0) w9 HM_t8.out.rd hsz0).mono ?_
  rintro e w12 ⟨rfl, hb_⟩
  have HX_aT' := Lib.hid ((hb_.block s0 (by omega)).trans HX_aT.out)
  clear HX_aT
  have HX_aT := HX_aT'
  clear HX_aT'
  have HM_t8' := Lib.hid (HM_t8.out.below hb_)
  clear HM_t8
  have HM_t8 := HM_t8'
  clear HM_t8'
  have HBL' := Lib.hid (below_step HBL.out hb_)
  clear HBL
  have HBL := HBL'
  clear HBL'
  obtain ⟨s13, hs13⟩ : ∃ s, w12.heap.size = s := ⟨_, rfl⟩
  have hls13 : s11 ≤ s13 := by have := hb_.size; omega
  clear hb_
  have hc14 : w12.cell? ⟨s0, 0, none⟩ = some (c0_0) := cell_of_block HX_aT.out 0
  go_wp2_with fail
  refine (h_toTable x0 c0_0 w12 (raw_below HBL.out _ HR0.out) (by omega)).mono ?_
  rintro e w15 ⟨u_, rfl, hm_, hb_⟩
  have hsh_ := hm_
  obtain ⟨bs_, hsh_, _⟩ := hsh_
  obtain ⟨Ak16_0, nk16_0, pk16_0, rfl⟩ := sinv_Table hsh_
  clear hsh_
  rw [hs13] at hm_
  have HX_aT' := Lib.hid ((hb_.block s0 (by omega)).trans HX_aT.out)
  clear HX_aT
  have HX_aT := HX_aT'
  clear HX_aT'
  have HM_t8' := Lib.hid (HM_t8.out.below hb_)
  clear HM_t8
  have HM_t8 := HM_t8'
  clear HM_t8'
  have HBL' := Lib.hid (below_step HBL.out hb_)
  clear HBL
  have HBL := HBL'
  clear HBL'
  obtain ⟨s17, hs17⟩ : ∃ s, w15.heap.size = s := ⟨_, rfl⟩
  have hls17 : s13 ≤ s17 := by have := hb_.size; omega
  have HM_x0 := Lib.hid (hm_.toIn (Nat.le_of_eq hs17))
  clear hm_ hb_
  have HXP_aT := HX_aT
  have hb_ : Below w15.heap.size w15 (w15.alloc (.cells #[.slice Ak16_0 nk16_0 pk16_0] 28)) := (Below.refl _ _).alloc (Nat.le_refl _) _
  have hx_ : (w15.alloc (.cells #[.slice Ak16_0 nk16_0 pk16_0] 28)).heap[s17]? = some (.cells #[.slice Ak16_0 nk16_0 pk16_0] 28 (0, 0)) := by rw [← hs17]; exact heap_alloc_new _ _
  have hz_ : (w15.alloc (.cells #[.slice Ak16_0 nk16_0 pk16_0] 28)).heap.size = s17 + 1 := by simp [hs17]
  obtain ⟨w18, HW_w18⟩ : ∃ z, (w15.alloc (.cells #[.slice Ak16_0 nk16_0 pk16_0] 28)) = z := ⟨_, rfl⟩
  rw [HW_w18] at hb_ hx_ hz_
  have HX_aT' := Lib.hid ((hb_.block s0 (by omega)).trans HX_aT.out)
  clear HX_aT
  have HX_aT := HX_aT'
  clear HX_aT'
  have HM_t8' := Lib.hid (HM_t8.out.below hb_)
  clear HM_t8
  have HM_t8 := HM_t8'
  clear HM_t8'
  have HM_x0' := Lib.hid (HM_x0.out.below hb_)
  clear HM_x0
  have HM_x0 := HM_x0'
  clear HM_x0'
  have HBL' := Lib.hid (below_step HBL.out hb_)
  clear HBL
  have HBL := HBL'
  clear HBL'
  have HX_x0 := Lib.hid hx_
  clear hx_
  obtain ⟨s19, hs19⟩ : ∃ s, w18.heap.size = s := ⟨_, rfl⟩
  have hls19 : s17 + 1 = s19 := by omega
  have HWE_w18 := Lib.hid HW_w18
  clear HW_w18 hb_ hz_
  have hc20 : w18.cell? ⟨s17, 0, none⟩ = some (.slice Ak16_0 nk16_0 pk16_0) := cell_of_block HX_x0.out 0
  go_wp2_with fail
  rw [HWE_w18.out]
  clear HWE_w18 HXP_aT
  refine (impl_MappedPages x0 (.slice Ak16_0 nk16_0 pk16_0) w18 HM_x0.out.rd hsz0).mono ?_
  rintro e w21 ⟨rfl, hb_⟩
  have HX_aT' := Lib.hid ((hb_.block s0 (by omega)).trans HX_aT.out)
  clear HX_aT
  have HX_aT := HX_aT'
  clear HX_aT'
  have HX_x0' := Lib.hid ((hb_.block s17 (by omega)).trans HX_x0.out)
  clear HX_x0
  have HX_x0 := HX_x0'
  clear HX_x0'
  have HM_t8' := Lib.hid (HM_t8.out.below hb_)
  clear HM_t8
  have HM_t8 := HM_t8'
  clear HM_t8'
  have HM_x0' := Lib.hid (HM_x0.out.below hb_)
  clear HM_x0
  have HM_x0 := HM_x0'
  clear HM_x0'
  have HBL' := Lib.hid (below_step HBL.out hb_)
  clear HBL
  have HBL := HBL'
  clear HBL'
  obtain ⟨s22, hs22⟩ : ∃ s, w21.heap.size = s := ⟨_, rfl⟩
  have hls22 : s19 ≤ s22 := by have := hb_.size; omega
  clear hb_
  go_wp2_with fail
  have HT : Hid (∀ w', Below w21.heap.size w21 w' → Calls Try.prog 24 #[(.agg #[c0_0])] w' (fun e w'' => ∃ (A_0 : Option Addr) (n_0 p_0 : Nat), e = .returned (.agg #[.slice A_0 n_0 p_0]) ∧ Rd w'' (eTable x0) [.slice A_0 n_0 p_0] ∧ Below w21.heap.size w21 w'')) := fun w' hb => (h_toTable x0 c0_0 w' (raw_below (below_step HBL.out hb) _ HR0.out) (by omega)).mono (by
    rintro e w'' ⟨u_, rfl, hm_, hb_⟩
    have hsh_ := hm_
    obtain ⟨bs_, hsh_, _⟩ := hsh_
    obtain ⟨A_0, n_0, p_0, rfl⟩ := sinv_Table hsh_
    exact ⟨A_0, n_0, p_0, rfl, hm_.rd, below_step hb hb_⟩)
  have HE : Hid (∀ w' (A_0 : Option Addr) (n_0 p_0 : Nat), Below w21.heap.size w21 w' → Rd w' (eTable x0) [.slice A_0 n_0 p_0] → Calls Try.prog 19 #[(.agg #[.slice Ak16_0 nk16_0 pk16_0]), (.agg #[.slice A_0 n_0 p_0])] w' (fun e w'' => e = .returned (.bool true) ∧ Below w21.heap.size w21 w'')) := fun w' A_0 n_0 p_0 hb hr => (h_eqTable x0 (.slice Ak16_0 nk16_0 pk16_0) (.slice A_0 n_0 p_0) w' (HM_x0.out.rd.below hb) hr (by omega)).mono (fun _ _ h => ⟨h.1, below_step hb h.2⟩)
  have hrf_ : Below w21.heap.size w21 w21.drew := (Below.refl _ _).drew
  have HK : Hid (∀ w', Below w21.heap.size w21 w' → w'.cell? ⟨s17, 0, none⟩ = some (.slice Ak16_0 nk16_0 pk16_0) ∧ w'.cell? ⟨s0, 0, none⟩ = some (c0_0) ∧ Below w21.heap.size w21 w') := fun w' hb => ⟨cell_below hb (cell_of_block HX_x0.out 0), cell_below hb (cell_of_block HX_aT.out 0), hb⟩
  go_region_held3 (fun w' => w'.cell? ⟨s17, 0, none⟩ = some (.slice Ak16_0 nk16_0 pk16_0) ∧ w'.cell? ⟨s0, 0, none⟩ = some (c0_0) ∧ Below w21.heap.size w21 w') (first | exact HK.out _ hrf_ | exact HK.out _ (by assumption)) (first | (go_at_call 24; refine (HT.out _ (by first | exact hrf_ | assumption)).mono ?_; rintro e wt_ ⟨A_0, n_0, p_0, rfl, hrt_, hbt_⟩) | (go_at_call 19; refine (HE.out _ _ _ _ (by first | exact hbt_ | assumption) (by first | exact hrt_ | assumption)).mono ?_; rintro e we_ ⟨rfl, hbe_⟩))
  obtain ⟨w23, hn_⟩ : ∃ z, we_ = z := ⟨_, rfl⟩
  rw [hn_] at hbe_
  rw [hn_]
  have HX_aT' := Lib.hid ((hbe_.block s0 (by omega)).trans HX_aT.out)
  clear HX_aT
  have HX_aT := HX_aT'
  clear HX_aT'
  have HX_x0' := Lib.hid ((hbe_.block s17 (by omega)).trans HX_x0.out)
  clear HX_x0
  have HX_x0 := HX_x0'
  clear HX_x0'
  have HM_t8' := Lib.hid (HM_t8.out.below hbe_)
  clear HM_t8
  have HM_t8 := HM_t8'
  clear HM_t8'
  have HM_x0' := Lib.hid (HM_x0.out.below hbe_)
  clear HM_x0
  have HM_x0 := HM_x0'
  clear HM_x0'
  have HBL' := Lib.hid (below_step HBL.out hbe_)
  clear HBL
  have HBL := HBL'
  clear HBL'
  obtain ⟨s24, hs24⟩ : ∃ s, w23.heap.size = s := ⟨_, rfl⟩
  have hls24 : s22 ≤ s24 := by have := hbe_.size; omega
  clear hbe_ hbt_ HT HE HK hrf_ hn_ hrt_
  go_wp2
  go_ret
  exact ⟨rfl, HBL.out⟩
set_option maxRecDepth 100000 in
theorem lifted (os : Os) (started : os.Started) (H : Type) (enc : TypeId × Value → H) :
    ReturnsInHanded {} Try.checked os 9 .any (Rows.fnExactMappedPagesSpec.pre6 enc Try.prog Try.f9 Rows.fnExactMappedPagesRow.domain false) (Rows.fnExactMappedPagesSpec.post enc Try.prog Try.f9 false true false false) := by
  refine returnsInHanded_of_change (C := Try.checked) own started (by kernel_rfl) Try.func9
    (ChangeSpec.witness6 (enc := enc) (C := Try.checked) false ⟨#[], #[.agg #[.slice none 0 0]], []⟩ 8 (by kernel_rfl) (by kernel_rfl) (by kernel_rfl) (by kernel_rfl)) ?_
  intro W base args ds gs before hval0 hW hcnd _
  have hval : ∀ (j : Nat) t v, Try.f9.params[j]? = some t → args[j]? = some v → Value.okWide Try.prog W .any base t v := hval0
  have hW' := hW
  obtain ⟨p, q, hA0, hV, rfl, hfz, hnd⟩ := hW
  have hA : DataW.TrodAll enc Try.prog W 0 (fun _ => true) true Try.f9.params.toList args.toList ds p := hA0
  rw [Try.params9] at hA hval
  obtain ⟨v0, vs0, d0, ds0, p0, q0, hargs, rfl, rfl, h0, r0⟩ := trodAll_cons hA
  obtain ⟨rfl, rfl, rfl⟩ := trodAll_nil r0
  obtain rfl : args = #[v0] := by cases args; simp_all
  obtain ⟨rfl, rfl⟩ := trodVars_none hV
  have k0 := h0
  have lt0 : ∀ x ∈ p0, x.block < W.heap.size := by obtain ⟨m, hm⟩ := k0; exact DataW.trod_lt m _ _ _ hm
  obtain ⟨x0, raw0, ok0⟩ := opens_trod opens_Table h0
  obtain ⟨cs0, rfl, _⟩ := okWide_struct Try.underlying43 (hval 0 43 v0 rfl rfl)
  obtain ⟨cs0⟩ := cs0
  have raw0 : Raw W (eTable x0) cs0 := raw0
  obtain ⟨c0_0, rfl⟩ := rinv_Table raw0
  clear hA0 hval0
  refine (walk x0 c0_0 W raw0 ok0).mono fun e W' ⟨he, bel⟩ => ?_
  subst he
  exact ⟨_, rfl, _, _, _, [], _, [], hW', trodAll_mk1 (shut_bool Try.underlying4 _), (trodAll_cons_mk (Below.trod laidOut (by kernel_rfl) (of_decide_eq_true (by kernel_rfl)) k0 bel lt0) trodAll_mk0), rfl, bel.frame _, fun h => by cases h⟩
theorem over : Rows.fnExactMappedPagesRow.holds Try.pinned (OpenSpec.ofChange Rows.fnExactMappedPagesSpec) :=
  OpenClaim.holds_of_wide 9 Try.f9 rfl rfl rfl rfl rfl rfl rfl ⟨rfl, rfl, rfl, rfl, rfl⟩ rfl rfl rfl rfl rfl (by kernel_rfl) Try.func9 (by kernel_rfl)
    (of_decide_eq_true (by kernel_rfl)) (by unfold Func.isWrapper; first | (rw [if_pos (by decide +kernel)]; kernel_rfl) | (rw [if_neg (by decide +kernel)]; exact ⟨rfl, rfl⟩))
    (fun os started H enc _ => lifted os started H enc)
theorem proved : Rows.FnExactMappedPagesSaid := over
#print axioms proved
end Go.Proofs.Ytbfdopnbclkfcaa.fnExactMappedPages

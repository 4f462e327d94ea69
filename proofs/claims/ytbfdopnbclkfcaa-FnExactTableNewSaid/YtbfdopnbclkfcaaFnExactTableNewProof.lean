/- Called with any arguments, the law FnExactTableNew returns true and each argument reads afterwards as before. No condition. -/
import Derived.Test.YtbfdopnbclkfcaaRows
import Derived.Test.YtbfdopnbclkfcaaS06
import Derived.Test.YtbfdopnbclkfcaaI06d
import Derived.Test.YtbfdopnbclkfcaaTo
import Derived.Test.YtbfdopnbclkfcaaEq
import Derived.Test.YtbfdopnbclkfcaaSz
import Derived.Test.YtbfdopnbclkfcaaMark
import Derived.Test.YtbfdopnbclkfcaaHeld
import Derived.Test.YtbfdopnbclkfcaaIn
import Derived.WalkKit
import Derived.ProofKit
import Derived.OpenShut
import Derived.ShutString
import Derived.ChangeOld
import Derived.Below
import Derived.Carry
import Derived.Deep.RegionHeld3
namespace Go.Proofs.Ytbfdopnbclkfcaa.fnExactTableNew
open Go.ChangeShapes Go.WideShapes Go.ChangeAt Go.RowKit Go.Proofs.Ytbfdopnbclkfcaa.Tr
set_option linter.unusedVariables false
theorem own : ownKnob Try.prog.godebug = none := by kernel_rfl
theorem laidOut : laidOutB Try.prog = true := by kernel_rfl
set_option maxRecDepth 100000 in
set_option maxHeartbeats 800000 in
theorem walk (x0 : Int) (w : World) (hw0 : okI x0) :
    Calls Try.prog 4 #[(.int .i64 x0)] w fun e w' => e = .returned (.bool true) ∧ Below w.heap.size w w' := by
  have HO : Hid True := trivial
  obtain ⟨s0, hs0⟩ : ∃ s, w.heap.size = s := ⟨_, rfl⟩
  have HBL : Hid (Below w.heap.size w w) := Below.refl _ _
  go_enter Try.func4, Try.ntmps4
  go_wp2_with fail
  refine (spec_TableNew x0 w hw0).mono ?_
  rintro e w1 ⟨u_, rfl, hm_, hb_⟩
  have hsh_ := hm_
  obtain ⟨bs_, hsh_, _⟩ := hsh_
  obtain ⟨Ak2_0, nk2_0, pk2_0, rfl⟩ := sinv_Table hsh_
  clear hsh_
  rw [hs0] at hm_
  have HBL' := Lib.hid (below_step HBL.out hb_)
  clear HBL
  have HBL := HBL'
  clear HBL'
  obtain ⟨s3, hs3⟩ : ∃ s, w1.heap.size = s := ⟨_, rfl⟩
  have hls3 : s0 ≤ s3 := by have := hb_.size; omega
  have HM_w0 := Lib.hid (hm_.toIn (Nat.le_of_eq hs3))
  clear hm_ hb_
  have hsr : (eTable (pTableNew x0).1).sz ≤ 50000000 := bound_TableNew x0 
  have hb_ : Below w1.heap.size w1 (w1.alloc (.cells #[.slice Ak2_0 nk2_0 pk2_0] 28)) := (Below.refl _ _).alloc (Nat.le_refl _) _
  have hx_ : (w1.alloc (.cells #[.slice Ak2_0 nk2_0 pk2_0] 28)).heap[s3]? = some (.cells #[.slice Ak2_0 nk2_0 pk2_0] 28 (0, 0)) := by rw [← hs3]; exact heap_alloc_new _ _
  have hz_ : (w1.alloc (.cells #[.slice Ak2_0 nk2_0 pk2_0] 28)).heap.size = s3 + 1 := by simp [hs3]
  obtain ⟨w4, HW_w4⟩ : ∃ z, (w1.alloc (.cells #[.slice Ak2_0 nk2_0 pk2_0] 28)) = z := ⟨_, rfl⟩
  rw [HW_w4] at hb_ hx_ hz_
  have HM_w0' := Lib.hid (HM_w0.out.below hb_)
  clear HM_w0
  have HM_w0 := HM_w0'
  clear HM_w0'
  have HBL' := Lib.hid (below_step HBL.out hb_)
  clear HBL
  have HBL := HBL'
  clear HBL'
  have HX_w0 := Lib.hid hx_
  clear hx_
  obtain ⟨s5, hs5⟩ : ∃ s, w4.heap.size = s := ⟨_, rfl⟩
  have hls5 : s3 + 1 = s5 := by omega
  have HWE_w4 := Lib.hid HW_w4
  clear HW_w4 hb_ hz_
  go_wp2_with fail
  rw [HWE_w4.out]
  clear HWE_w4
  refine (impl_TableNew x0 w4 hw0).mono ?_
  rintro e w6 ⟨u_, rfl, hm_, hb_⟩
  have hsh_ := hm_
  obtain ⟨bs_, hsh_, _⟩ := hsh_
  obtain ⟨Ak7_0, nk7_0, pk7_0, rfl⟩ := sinv_Table hsh_
  clear hsh_
  rw [hs5] at hm_
  have HX_w0' := Lib.hid ((hb_.block s3 (by omega)).trans HX_w0.out)
  clear HX_w0
  have HX_w0 := HX_w0'
  clear HX_w0'
  have HM_w0' := Lib.hid (HM_w0.out.below hb_)
  clear HM_w0
  have HM_w0 := HM_w0'
  clear HM_w0'
  have HBL' := Lib.hid (below_step HBL.out hb_)
  clear HBL
  have HBL := HBL'
  clear HBL'
  obtain ⟨s8, hs8⟩ : ∃ s, w6.heap.size = s := ⟨_, rfl⟩
  have hls8 : s5 ≤ s8 := by have := hb_.size; omega
  have HM_g0 := Lib.hid (hm_.toIn (Nat.le_of_eq hs8))
  clear hm_ hb_
  have HXP_w0 := HX_w0
  have hb_ : Below w6.heap.size w6 (w6.alloc (.cells #[.slice Ak7_0 nk7_0 pk7_0] 28)) := (Below.refl _ _).alloc (Nat.le_refl _) _
  have hx_ : (w6.alloc (.cells #[.slice Ak7_0 nk7_0 pk7_0] 28)).heap[s8]? = some (.cells #[.slice Ak7_0 nk7_0 pk7_0] 28 (0, 0)) := by rw [← hs8]; exact heap_alloc_new _ _
  have hz_ : (w6.alloc (.cells #[.slice Ak7_0 nk7_0 pk7_0] 28)).heap.size = s8 + 1 := by simp [hs8]
  obtain ⟨w9, HW_w9⟩ : ∃ z, (w6.alloc (.cells #[.slice Ak7_0 nk7_0 pk7_0] 28)) = z := ⟨_, rfl⟩
  rw [HW_w9] at hb_ hx_ hz_
  have HX_w0' := Lib.hid ((hb_.block s3 (by omega)).trans HX_w0.out)
  clear HX_w0
  have HX_w0 := HX_w0'
  clear HX_w0'
  have HM_w0' := Lib.hid (HM_w0.out.below hb_)
  clear HM_w0
  have HM_w0 := HM_w0'
  clear HM_w0'
  have HM_g0' := Lib.hid (HM_g0.out.below hb_)
  clear HM_g0
  have HM_g0 := HM_g0'
  clear HM_g0'
  have HBL' := Lib.hid (below_step HBL.out hb_)
  clear HBL
  have HBL := HBL'
  clear HBL'
  have HX_g0 := Lib.hid hx_
  clear hx_
  obtain ⟨s10, hs10⟩ : ∃ s, w9.heap.size = s := ⟨_, rfl⟩
  have hls10 : s8 + 1 = s10 := by omega
  have HWE_w9 := Lib.hid HW_w9
  clear HW_w9 hb_ hz_
  have hc11 : w9.cell? ⟨s8, 0, none⟩ = some (.slice Ak7_0 nk7_0 pk7_0) := cell_of_block HX_g0.out 0
  have : s3 < s8 := by omega
  have : w6.cell? ⟨s3, 0, none⟩ = some (.slice Ak2_0 nk2_0 pk2_0) := cell_of_block HXP_w0.out 0
  have hc12 : w9.cell? ⟨s3, 0, none⟩ = some (.slice Ak2_0 nk2_0 pk2_0) := cell_of_block HX_w0.out 0
  go_wp2_with fail
  rw [HWE_w9.out]
  clear HWE_w9 HXP_w0
  refine (h_eqTable (pTableNew x0).1 (.slice Ak7_0 nk7_0 pk7_0) (.slice Ak2_0 nk2_0 pk2_0) w9 HM_g0.out.rd HM_w0.out.rd (by omega)).mono ?_
  rintro e w13 ⟨rfl, hb_⟩
  have HX_w0' := Lib.hid ((hb_.block s3 (by omega)).trans HX_w0.out)
  clear HX_w0
  have HX_w0 := HX_w0'
  clear HX_w0'
  have HX_g0' := Lib.hid ((hb_.block s8 (by omega)).trans HX_g0.out)
  clear HX_g0
  have HX_g0 := HX_g0'
  clear HX_g0'
  have HM_w0' := Lib.hid (HM_w0.out.below hb_)
  clear HM_w0
  have HM_w0 := HM_w0'
  clear HM_w0'
  have HM_g0' := Lib.hid (HM_g0.out.below hb_)
  clear HM_g0
  have HM_g0 := HM_g0'
  clear HM_g0'
  have HBL' := Lib.hid (below_step HBL.out hb_)
  clear HBL
  have HBL := HBL'
  clear HBL'
  obtain ⟨s14, hs14⟩ : ∃ s, w13.heap.size = s := ⟨_, rfl⟩
  have hls14 : s10 ≤ s14 := by have := hb_.size; omega
  clear hb_
  have hc15 : w13.cell? ⟨s8, 0, none⟩ = some (.slice Ak7_0 nk7_0 pk7_0) := cell_of_block HX_g0.out 0
  go_wp2_with fail
  have hcb := cntb_Table (pTableNew x0).1
  have hct := cntTop_le (eTable (pTableNew x0).1)
  refine (mark_in HM_g0.out (fun bs_ ho_ hn_ => h_markTable (pTableNew x0).1 (.slice Ak7_0 nk7_0 pk7_0) bs_ 1 w13 ho_ hn_ (by omega) (by omega))).mono ?_
  rintro e w16 ⟨rfl, hm_, ht_⟩
  obtain ⟨k17, hkk17⟩ : ∃ q : Nat, 1 + (eTable (pTableNew x0).1).cntTop = q := ⟨_, rfl⟩
  rw [hkk17]
  have HKk17 := Lib.hid hkk17
  clear hcb hct hkk17
  have HX_w0' := Lib.hid ((ht_.block s3 (by omega) (by omega)).trans HX_w0.out)
  clear HX_w0
  have HX_w0 := HX_w0'
  clear HX_w0'
  have HX_g0' := Lib.hid ((ht_.block s8 (by omega) (by omega)).trans HX_g0.out)
  clear HX_g0
  have HX_g0 := HX_g0'
  clear HX_g0'
  have HM_w0' := Lib.hid (HM_w0.out.turn ht_ (by omega))
  clear HM_w0
  have HM_w0 := HM_w0'
  clear HM_w0'
  clear HM_g0
  have HM_g0 := Lib.hid hm_
  have HBL' := Lib.hid (HBL.out.trans (ht_.below (B := w.heap.size) (by omega) (by omega)))
  clear HBL
  have HBL := HBL'
  clear HBL'
  obtain ⟨s18, hs18⟩ : ∃ s, w16.heap.size = s := ⟨_, rfl⟩
  have hls18 : s14 ≤ s18 := by have := ht_.size; omega
  clear hm_ ht_
  have hc19 : w16.cell? ⟨s8, 0, none⟩ = some (.slice Ak7_0 nk7_0 pk7_0) := cell_of_block HX_g0.out 0
  go_wp2_with fail
  have hcb := cntb_Table (pTableNew x0).1
  have hct := cntTop_le (eTable (pTableNew x0).1)
  refine (h_heldTable (pTableNew x0).1 (.slice Ak7_0 nk7_0 pk7_0) 1 w16 HM_g0.out.rd (by omega) (by omega)).mono ?_
  rintro e w20 ⟨rfl, hb_⟩
  rw [HKk17.out]
  clear hcb hct
  have HX_w0' := Lib.hid ((hb_.block s3 (by omega)).trans HX_w0.out)
  clear HX_w0
  have HX_w0 := HX_w0'
  clear HX_w0'
  have HX_g0' := Lib.hid ((hb_.block s8 (by omega)).trans HX_g0.out)
  clear HX_g0
  have HX_g0 := HX_g0'
  clear HX_g0'
  have HM_w0' := Lib.hid (HM_w0.out.below hb_)
  clear HM_w0
  have HM_w0 := HM_w0'
  clear HM_w0'
  have HM_g0' := Lib.hid (HM_g0.out.below hb_)
  clear HM_g0
  have HM_g0 := HM_g0'
  clear HM_g0'
  have HBL' := Lib.hid (below_step HBL.out hb_)
  clear HBL
  have HBL := HBL'
  clear HBL'
  obtain ⟨s21, hs21⟩ : ∃ s, w20.heap.size = s := ⟨_, rfl⟩
  have hls21 : s18 ≤ s21 := by have := hb_.size; omega
  clear hb_
  go_wp2_with fail
  refine (impl_TableNew x0 w20 hw0).mono ?_
  rintro e w22 ⟨u_, rfl, hm_, hb_⟩
  have hsh_ := hm_
  obtain ⟨bs_, hsh_, _⟩ := hsh_
  obtain ⟨Ak23_0, nk23_0, pk23_0, rfl⟩ := sinv_Table hsh_
  clear hsh_
  rw [hs21] at hm_
  have HX_w0' := Lib.hid ((hb_.block s3 (by omega)).trans HX_w0.out)
  clear HX_w0
  have HX_w0 := HX_w0'
  clear HX_w0'
  have HX_g0' := Lib.hid ((hb_.block s8 (by omega)).trans HX_g0.out)
  clear HX_g0
  have HX_g0 := HX_g0'
  clear HX_g0'
  have HM_w0' := Lib.hid (HM_w0.out.below hb_)
  clear HM_w0
  have HM_w0 := HM_w0'
  clear HM_w0'
  have HM_g0' := Lib.hid (HM_g0.out.below hb_)
  clear HM_g0
  have HM_g0 := HM_g0'
  clear HM_g0'
  have HBL' := Lib.hid (below_step HBL.out hb_)
  clear HBL
  have HBL := HBL'
  clear HBL'
  obtain ⟨s24, hs24⟩ : ∃ s, w22.heap.size = s := ⟨_, rfl⟩
  have hls24 : s21 ≤ s24 := by have := hb_.size; omega
  have HM_h0 := Lib.hid (hm_.toIn (Nat.le_of_eq hs24))
  clear hm_ hb_
  have HXP_w0 := HX_w0
  have HXP_g0 := HX_g0
  have hb_ : Below w22.heap.size w22 (w22.alloc (.cells #[.slice Ak23_0 nk23_0 pk23_0] 28)) := (Below.refl _ _).alloc (Nat.le_refl _) _
  have hx_ : (w22.alloc (.cells #[.slice Ak23_0 nk23_0 pk23_0] 28)).heap[s24]? = some (.cells #[.slice Ak23_0 nk23_0 pk23_0] 28 (0, 0)) := by rw [← hs24]; exact heap_alloc_new _ _
  have hz_ : (w22.alloc (.cells #[.slice Ak23_0 nk23_0 pk23_0] 28)).heap.size = s24 + 1 := by simp [hs24]
  obtain ⟨w25, HW_w25⟩ : ∃ z, (w22.alloc (.cells #[.slice Ak23_0 nk23_0 pk23_0] 28)) = z := ⟨_, rfl⟩
  rw [HW_w25] at hb_ hx_ hz_
  have HX_w0' := Lib.hid ((hb_.block s3 (by omega)).trans HX_w0.out)
  clear HX_w0
  have HX_w0 := HX_w0'
  clear HX_w0'
  have HX_g0' := Lib.hid ((hb_.block s8 (by omega)).trans HX_g0.out)
  clear HX_g0
  have HX_g0 := HX_g0'
  clear HX_g0'
  have HM_w0' := Lib.hid (HM_w0.out.below hb_)
  clear HM_w0
  have HM_w0 := HM_w0'
  clear HM_w0'
  have HM_g0' := Lib.hid (HM_g0.out.below hb_)
  clear HM_g0
  have HM_g0 := HM_g0'
  clear HM_g0'
  have HM_h0' := Lib.hid (HM_h0.out.below hb_)
  clear HM_h0
  have HM_h0 := HM_h0'
  clear HM_h0'
  have HBL' := Lib.hid (below_step HBL.out hb_)
  clear HBL
  have HBL := HBL'
  clear HBL'
  have HX_h0 := Lib.hid hx_
  clear hx_
  obtain ⟨s26, hs26⟩ : ∃ s, w25.heap.size = s := ⟨_, rfl⟩
  have hls26 : s24 + 1 = s26 := by omega
  have HWE_w25 := Lib.hid HW_w25
  clear HW_w25 hb_ hz_
  have hc27 : w25.cell? ⟨s24, 0, none⟩ = some (.slice Ak23_0 nk23_0 pk23_0) := cell_of_block HX_h0.out 0
  have : s3 < s24 := by omega
  have : w22.cell? ⟨s3, 0, none⟩ = some (.slice Ak2_0 nk2_0 pk2_0) := cell_of_block HXP_w0.out 0
  have hc28 : w25.cell? ⟨s3, 0, none⟩ = some (.slice Ak2_0 nk2_0 pk2_0) := cell_of_block HX_w0.out 0
  go_wp2_with fail
  rw [HWE_w25.out]
  clear HWE_w25 HXP_w0 HXP_g0
  refine (h_eqTable (pTableNew x0).1 (.slice Ak23_0 nk23_0 pk23_0) (.slice Ak2_0 nk2_0 pk2_0) w25 HM_h0.out.rd HM_w0.out.rd (by omega)).mono ?_
  rintro e w29 ⟨rfl, hb_⟩
  have HX_w0' := Lib.hid ((hb_.block s3 (by omega)).trans HX_w0.out)
  clear HX_w0
  have HX_w0 := HX_w0'
  clear HX_w0'
  have HX_g0' := Lib.hid ((hb_.block s8 (by omega)).trans HX_g0.out)
  clear HX_g0
  have HX_g0 := HX_g0'
  clear HX_g0'
  have HX_h0' := Lib.hid ((hb_.block s24 (by omega)).trans HX_h0.out)
  clear HX_h0
  have HX_h0 := HX_h0'
  clear HX_h0'
  have HM_w0' := Lib.hid (HM_w0.out.below hb_)
  clear HM_w0
  have HM_w0 := HM_w0'
  clear HM_w0'
  have HM_g0' := Lib.hid (HM_g0.out.below hb_)
  clear HM_g0
  have HM_g0 := HM_g0'
  clear HM_g0'
  have HM_h0' := Lib.hid (HM_h0.out.below hb_)
  clear HM_h0
  have HM_h0 := HM_h0'
  clear HM_h0'
  have HBL' := Lib.hid (below_step HBL.out hb_)
  clear HBL
  have HBL := HBL'
  clear HBL'
  obtain ⟨s30, hs30⟩ : ∃ s, w29.heap.size = s := ⟨_, rfl⟩
  have hls30 : s26 ≤ s30 := by have := hb_.size; omega
  clear hb_
  have hc31 : w29.cell? ⟨s8, 0, none⟩ = some (.slice Ak7_0 nk7_0 pk7_0) := cell_of_block HX_g0.out 0
  go_wp2_with fail
  have hcb := cntb_Table (pTableNew x0).1
  have hct := cntTop_le (eTable (pTableNew x0).1)
  refine (h_heldTable (pTableNew x0).1 (.slice Ak7_0 nk7_0 pk7_0) 1 w29 HM_g0.out.rd (by omega) (by omega)).mono ?_
  rintro e w32 ⟨rfl, hb_⟩
  rw [HKk17.out]
  clear hcb hct
  have HX_w0' := Lib.hid ((hb_.block s3 (by omega)).trans HX_w0.out)
  clear HX_w0
  have HX_w0 := HX_w0'
  clear HX_w0'
  have HX_g0' := Lib.hid ((hb_.block s8 (by omega)).trans HX_g0.out)
  clear HX_g0
  have HX_g0 := HX_g0'
  clear HX_g0'
  have HX_h0' := Lib.hid ((hb_.block s24 (by omega)).trans HX_h0.out)
  clear HX_h0
  have HX_h0 := HX_h0'
  clear HX_h0'
  have HM_w0' := Lib.hid (HM_w0.out.below hb_)
  clear HM_w0
  have HM_w0 := HM_w0'
  clear HM_w0'
  have HM_g0' := Lib.hid (HM_g0.out.below hb_)
  clear HM_g0
  have HM_g0 := HM_g0'
  clear HM_g0'
  have HM_h0' := Lib.hid (HM_h0.out.below hb_)
  clear HM_h0
  have HM_h0 := HM_h0'
  clear HM_h0'
  have HBL' := Lib.hid (below_step HBL.out hb_)
  clear HBL
  have HBL := HBL'
  clear HBL'
  obtain ⟨s33, hs33⟩ : ∃ s, w32.heap.size = s := ⟨_, rfl⟩
  have hls33 : s30 ≤ s33 := by have := hb_.size; omega
  clear hb_
  go_wp2
  go_ret
  exact ⟨rfl, HBL.out⟩
set_option maxRecDepth 100000 in
theorem lifted (os : Os) (started : os.Started) (H : Type) (enc : TypeId × Value → H) :
    ReturnsInHanded {} Try.checked os 4 .any (Rows.fnExactTableNewSpec.pre6 enc Try.prog Try.f4 Rows.fnExactTableNewRow.domain false) (Rows.fnExactTableNewSpec.post enc Try.prog Try.f4 false true false false) := by
  refine returnsInHanded_of_change (C := Try.checked) own started (by kernel_rfl) Try.func4
    (ChangeSpec.witness6 (enc := enc) (C := Try.checked) false ⟨#[], #[.int .i64 0], []⟩ 8 (by kernel_rfl) (by kernel_rfl) (by kernel_rfl) (by kernel_rfl)) ?_
  intro W base args ds gs before hval0 hW hcnd _
  have hval : ∀ (j : Nat) t v, Try.f4.params[j]? = some t → args[j]? = some v → Value.okWide Try.prog W .any base t v := hval0
  have hW' := hW
  obtain ⟨p, q, hA0, hV, rfl, hfz, hnd⟩ := hW
  have hA : DataW.TrodAll enc Try.prog W 0 (fun _ => true) true Try.f4.params.toList args.toList ds p := hA0
  rw [Try.params4] at hA hval
  obtain ⟨v0, vs0, d0, ds0, p0, q0, hargs, rfl, rfl, h0, r0⟩ := trodAll_cons hA
  obtain ⟨rfl, rfl, rfl⟩ := trodAll_nil r0
  obtain rfl : args = #[v0] := by cases args; simp_all
  obtain ⟨rfl, rfl⟩ := trodVars_none hV
  obtain ⟨a0, rfl, rfl, rfl, w0⟩ := open_int Try.underlying3 (hval 0 3 v0 rfl rfl) h0
  clear hA0 hval0
  refine (walk a0 W (okI_wf w0)).mono fun e W' ⟨he, bel⟩ => ?_
  subst he
  exact ⟨_, rfl, _, _, _, [], _, [], hW', trodAll_mk1 (shut_bool Try.underlying4 _), (trodAll_cons_mk (shut_int Try.underlying3 w0) trodAll_mk0), rfl, bel.frame _, fun h => by cases h⟩
theorem over : Rows.fnExactTableNewRow.holds Try.pinned (OpenSpec.ofChange Rows.fnExactTableNewSpec) :=
  OpenClaim.holds_of_wide 4 Try.f4 rfl rfl rfl rfl rfl rfl rfl ⟨rfl, rfl, rfl, rfl, rfl⟩ rfl rfl rfl rfl rfl (by kernel_rfl) Try.func4 (by kernel_rfl)
    (of_decide_eq_true (by kernel_rfl)) (by unfold Func.isWrapper; first | (rw [if_pos (by decide +kernel)]; kernel_rfl) | (rw [if_neg (by decide +kernel)]; exact ⟨rfl, rfl⟩))
    (fun os started H enc _ => lifted os started H enc)
theorem proved : Rows.FnExactTableNewSaid := over
#print axioms proved
end Go.Proofs.Ytbfdopnbclkfcaa.fnExactTableNew

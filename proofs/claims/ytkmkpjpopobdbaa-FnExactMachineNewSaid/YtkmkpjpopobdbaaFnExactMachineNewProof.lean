/- Called with any arguments, the law FnExactMachineNew returns true and each argument reads afterwards as before. No condition. -/
import Derived.Test.YtkmkpjpopobdbaaRows
import Derived.Test.YtkmkpjpopobdbaaS07e
import Derived.Test.YtkmkpjpopobdbaaEI07n
import Derived.Test.YtkmkpjpopobdbaaTo
import Derived.Test.YtkmkpjpopobdbaaEq
import Derived.Test.YtkmkpjpopobdbaaSz
import Derived.Test.YtkmkpjpopobdbaaMark
import Derived.Test.YtkmkpjpopobdbaaHeld
import Derived.Test.YtkmkpjpopobdbaaIn
import Derived.WalkKit
import Derived.ProofKit
import Derived.OpenShut
import Derived.ShutString
import Derived.ChangeOld
import Derived.Below
import Derived.Carry
import Derived.Deep.RegionHeld3
namespace Go.Proofs.Ytkmkpjpopobdbaa.fnExactMachineNew
open Go.ChangeShapes Go.WideShapes Go.ChangeAt Go.RowKit Go.Proofs.Ytkmkpjpopobdbaa.Tr
set_option linter.unusedVariables false
theorem own : ownKnob Try.prog.godebug = none := by kernel_rfl
theorem laidOut : laidOutB Try.prog = true := by kernel_rfl
set_option maxRecDepth 100000 in
set_option maxHeartbeats 1000000 in
theorem walk (x0 : Int) (x1 : Int) (w : World) (hw0 : okI x0) (hw1 : okI x1) :
    Calls Try.prog 3 #[(.int .i64 x0), (.int .i64 x1)] w fun e w' => e = .returned (.bool true) ∧ Below w.heap.size w w' := by
  have HO : Hid True := trivial
  obtain ⟨s0, hs0⟩ : ∃ s, w.heap.size = s := ⟨_, rfl⟩
  have HBL : Hid (Below w.heap.size w w) := Below.refl _ _
  go_enter Try.func3, Try.ntmps3
  go_wp2_with fail
  refine (spec_MachineNew x0 x1 w hw0 hw1).mono ?_
  rintro e w1 ⟨u_, rfl, hm_, hb_⟩
  have hsh_ := hm_
  obtain ⟨bs_, hsh_, _⟩ := hsh_
  obtain ⟨Ak2_0, nk2_0, pk2_0, Ak2_1, nk2_1, pk2_1, Ak2_2, nk2_2, pk2_2, rfl⟩ := sinv_Machine hsh_
  clear hsh_
  rw [hs0] at hm_
  have HBL' := Lib.hid (below_step HBL.out hb_)
  clear HBL
  have HBL := HBL'
  clear HBL'
  obtain ⟨s3, hs3⟩ : ∃ s, w1.heap.size = s := ⟨_, rfl⟩
  have hls3 : s0 ≤ s3 := by have := hb_.size; omega
  have HM_w0 := Lib.hid (hm_.toIn (Nat.le_of_eq hs3))
  clear hm_ hb_
  have hsr : (eMachine (pMachineNew x0 x1).1).sz ≤ 50000000 := bound_MachineNew x0 x1 
  have hb_ : Below w1.heap.size w1 (w1.alloc (.cells #[.slice Ak2_0 nk2_0 pk2_0, .slice Ak2_1 nk2_1 pk2_1, .slice Ak2_2 nk2_2 pk2_2] 30)) := (Below.refl _ _).alloc (Nat.le_refl _) _
  have hx_ : (w1.alloc (.cells #[.slice Ak2_0 nk2_0 pk2_0, .slice Ak2_1 nk2_1 pk2_1, .slice Ak2_2 nk2_2 pk2_2] 30)).heap[s3]? = some (.cells #[.slice Ak2_0 nk2_0 pk2_0, .slice Ak2_1 nk2_1 pk2_1, .slice Ak2_2 nk2_2 pk2_2] 30 (0, 0)) := by rw [← hs3]; exact heap_alloc_new _ _
  have hz_ : (w1.alloc (.cells #[.slice Ak2_0 nk2_0 pk2_0, .slice Ak2_1 nk2_1 pk2_1, .slice Ak2_2 nk2_2 pk2_2] 30)).heap.size = s3 + 1 := by simp [hs3]
  obtain ⟨w4, HW_w4⟩ : ∃ z, (w1.alloc (.cells #[.slice Ak2_0 nk2_0 pk2_0, .slice Ak2_1 nk2_1 pk2_1, .slice Ak2_2 nk2_2 pk2_2] 30)) = z := ⟨_, rfl⟩
  rw [HW_w4] at hb_ hx_ hz_
  have HM_w0' := Lib.hid (HM_w0.out.below hb_)
  clear HM_w0
  have HM_w0 := HM_w0'
  clear HM_w0'
  have HBL' := Lib.hid (below_step HBL.out hb_)
  clear HBL
  have HBL := HBL'
  clear HBL'
  have HX_w0 := Lib.hid hx_
  clear hx_
  obtain ⟨s5, hs5⟩ : ∃ s, w4.heap.size = s := ⟨_, rfl⟩
  have hls5 : s3 + 1 = s5 := by omega
  have HWE_w4 := Lib.hid HW_w4
  clear HW_w4 hb_ hz_
  go_wp2_with fail
  rw [HWE_w4.out]
  clear HWE_w4
  refine (impl_MachineNew x0 x1 w4 hw0 hw1).mono ?_
  rintro e w6 ⟨u_, rfl, hm_, hb_⟩
  have hsh_ := hm_
  obtain ⟨bs_, hsh_, _⟩ := hsh_
  obtain ⟨Ak7_0, nk7_0, pk7_0, Ak7_1, nk7_1, pk7_1, Ak7_2, nk7_2, pk7_2, rfl⟩ := sinv_Machine hsh_
  clear hsh_
  rw [hs5] at hm_
  have HX_w0' := Lib.hid ((hb_.block s3 (by omega)).trans HX_w0.out)
  clear HX_w0
  have HX_w0 := HX_w0'
  clear HX_w0'
  have HM_w0' := Lib.hid (HM_w0.out.below hb_)
  clear HM_w0
  have HM_w0 := HM_w0'
  clear HM_w0'
  have HBL' := Lib.hid (below_step HBL.out hb_)
  clear HBL
  have HBL := HBL'
  clear HBL'
  obtain ⟨s8, hs8⟩ : ∃ s, w6.heap.size = s := ⟨_, rfl⟩
  have hls8 : s5 ≤ s8 := by have := hb_.size; omega
  have HM_g0 := Lib.hid (hm_.toIn (Nat.le_of_eq hs8))
  clear hm_ hb_
  have HXP_w0 := HX_w0
  have hb_ : Below w6.heap.size w6 (w6.alloc (.cells #[.slice Ak7_0 nk7_0 pk7_0, .slice Ak7_1 nk7_1 pk7_1, .slice Ak7_2 nk7_2 pk7_2] 30)) := (Below.refl _ _).alloc (Nat.le_refl _) _
  have hx_ : (w6.alloc (.cells #[.slice Ak7_0 nk7_0 pk7_0, .slice Ak7_1 nk7_1 pk7_1, .slice Ak7_2 nk7_2 pk7_2] 30)).heap[s8]? = some (.cells #[.slice Ak7_0 nk7_0 pk7_0, .slice Ak7_1 nk7_1 pk7_1, .slice Ak7_2 nk7_2 pk7_2] 30 (0, 0)) := by rw [← hs8]; exact heap_alloc_new _ _
  have hz_ : (w6.alloc (.cells #[.slice Ak7_0 nk7_0 pk7_0, .slice Ak7_1 nk7_1 pk7_1, .slice Ak7_2 nk7_2 pk7_2] 30)).heap.size = s8 + 1 := by simp [hs8]
  obtain ⟨w9, HW_w9⟩ : ∃ z, (w6.alloc (.cells #[.slice Ak7_0 nk7_0 pk7_0, .slice Ak7_1 nk7_1 pk7_1, .slice Ak7_2 nk7_2 pk7_2] 30)) = z := ⟨_, rfl⟩
  rw [HW_w9] at hb_ hx_ hz_
  have HX_w0' := Lib.hid ((hb_.block s3 (by omega)).trans HX_w0.out)
  clear HX_w0
  have HX_w0 := HX_w0'
  clear HX_w0'
  have HM_w0' := Lib.hid (HM_w0.out.below hb_)
  clear HM_w0
  have HM_w0 := HM_w0'
  clear HM_w0'
  have HM_g0' := Lib.hid (HM_g0.out.below hb_)
  clear HM_g0
  have HM_g0 := HM_g0'
  clear HM_g0'
  have HBL' := Lib.hid (below_step HBL.out hb_)
  clear HBL
  have HBL := HBL'
  clear HBL'
  have HX_g0 := Lib.hid hx_
  clear hx_
  obtain ⟨s10, hs10⟩ : ∃ s, w9.heap.size = s := ⟨_, rfl⟩
  have hls10 : s8 + 1 = s10 := by omega
  have HWE_w9 := Lib.hid HW_w9
  clear HW_w9 hb_ hz_
  have hc11 : w9.cell? ⟨s8, 0, none⟩ = some (.slice Ak7_0 nk7_0 pk7_0) := cell_of_block HX_g0.out 0
  have hc12 : w9.cell? ⟨s8, 1, none⟩ = some (.slice Ak7_1 nk7_1 pk7_1) := cell_of_block HX_g0.out 1
  have hc13 : w9.cell? ⟨s8, 2, none⟩ = some (.slice Ak7_2 nk7_2 pk7_2) := cell_of_block HX_g0.out 2
  have : s3 < s8 := by omega
  have : w6.cell? ⟨s3, 0, none⟩ = some (.slice Ak2_0 nk2_0 pk2_0) := cell_of_block HXP_w0.out 0
  have : w6.cell? ⟨s3, 1, none⟩ = some (.slice Ak2_1 nk2_1 pk2_1) := cell_of_block HXP_w0.out 1
  have : w6.cell? ⟨s3, 2, none⟩ = some (.slice Ak2_2 nk2_2 pk2_2) := cell_of_block HXP_w0.out 2
  have hc14 : w9.cell? ⟨s3, 0, none⟩ = some (.slice Ak2_0 nk2_0 pk2_0) := cell_of_block HX_w0.out 0
  have hc15 : w9.cell? ⟨s3, 1, none⟩ = some (.slice Ak2_1 nk2_1 pk2_1) := cell_of_block HX_w0.out 1
  have hc16 : w9.cell? ⟨s3, 2, none⟩ = some (.slice Ak2_2 nk2_2 pk2_2) := cell_of_block HX_w0.out 2
  go_wp2_with fail
  rw [HWE_w9.out]
  clear HWE_w9 HXP_w0
  refine (h_eqMachine (pMachineNew x0 x1).1 (.slice Ak7_0 nk7_0 pk7_0) (.slice Ak7_1 nk7_1 pk7_1) (.slice Ak7_2 nk7_2 pk7_2) (.slice Ak2_0 nk2_0 pk2_0) (.slice Ak2_1 nk2_1 pk2_1) (.slice Ak2_2 nk2_2 pk2_2) w9 HM_g0.out.rd HM_w0.out.rd (by omega)).mono ?_
  rintro e w17 ⟨rfl, hb_⟩
  have HX_w0' := Lib.hid ((hb_.block s3 (by omega)).trans HX_w0.out)
  clear HX_w0
  have HX_w0 := HX_w0'
  clear HX_w0'
  have HX_g0' := Lib.hid ((hb_.block s8 (by omega)).trans HX_g0.out)
  clear HX_g0
  have HX_g0 := HX_g0'
  clear HX_g0'
  have HM_w0' := Lib.hid (HM_w0.out.below hb_)
  clear HM_w0
  have HM_w0 := HM_w0'
  clear HM_w0'
  have HM_g0' := Lib.hid (HM_g0.out.below hb_)
  clear HM_g0
  have HM_g0 := HM_g0'
  clear HM_g0'
  have HBL' := Lib.hid (below_step HBL.out hb_)
  clear HBL
  have HBL := HBL'
  clear HBL'
  obtain ⟨s18, hs18⟩ : ∃ s, w17.heap.size = s := ⟨_, rfl⟩
  have hls18 : s10 ≤ s18 := by have := hb_.size; omega
  clear hb_
  have hc19 : w17.cell? ⟨s8, 0, none⟩ = some (.slice Ak7_0 nk7_0 pk7_0) := cell_of_block HX_g0.out 0
  have hc20 : w17.cell? ⟨s8, 1, none⟩ = some (.slice Ak7_1 nk7_1 pk7_1) := cell_of_block HX_g0.out 1
  have hc21 : w17.cell? ⟨s8, 2, none⟩ = some (.slice Ak7_2 nk7_2 pk7_2) := cell_of_block HX_g0.out 2
  go_wp2_with fail
  have hcb := cntb_Machine (pMachineNew x0 x1).1
  have hct := cntTop_le (eMachine (pMachineNew x0 x1).1)
  refine (mark_in HM_g0.out (fun bs_ ho_ hn_ => h_markMachine (pMachineNew x0 x1).1 (.slice Ak7_0 nk7_0 pk7_0) (.slice Ak7_1 nk7_1 pk7_1) (.slice Ak7_2 nk7_2 pk7_2) bs_ 1 w17 ho_ hn_ (by omega) (by omega))).mono ?_
  rintro e w22 ⟨rfl, hm_, ht_⟩
  obtain ⟨k23, hkk23⟩ : ∃ q : Nat, 1 + (eMachine (pMachineNew x0 x1).1).cntTop = q := ⟨_, rfl⟩
  rw [hkk23]
  have HKk23 := Lib.hid hkk23
  clear hcb hct hkk23
  have HX_w0' := Lib.hid ((ht_.block s3 (by omega) (by omega)).trans HX_w0.out)
  clear HX_w0
  have HX_w0 := HX_w0'
  clear HX_w0'
  have HX_g0' := Lib.hid ((ht_.block s8 (by omega) (by omega)).trans HX_g0.out)
  clear HX_g0
  have HX_g0 := HX_g0'
  clear HX_g0'
  have HM_w0' := Lib.hid (HM_w0.out.turn ht_ (by omega))
  clear HM_w0
  have HM_w0 := HM_w0'
  clear HM_w0'
  clear HM_g0
  have HM_g0 := Lib.hid hm_
  have HBL' := Lib.hid (HBL.out.trans (ht_.below (B := w.heap.size) (by omega) (by omega)))
  clear HBL
  have HBL := HBL'
  clear HBL'
  obtain ⟨s24, hs24⟩ : ∃ s, w22.heap.size = s := ⟨_, rfl⟩
  have hls24 : s18 ≤ s24 := by have := ht_.size; omega
  clear hm_ ht_
  have hc25 : w22.cell? ⟨s8, 0, none⟩ = some (.slice Ak7_0 nk7_0 pk7_0) := cell_of_block HX_g0.out 0
  have hc26 : w22.cell? ⟨s8, 1, none⟩ = some (.slice Ak7_1 nk7_1 pk7_1) := cell_of_block HX_g0.out 1
  have hc27 : w22.cell? ⟨s8, 2, none⟩ = some (.slice Ak7_2 nk7_2 pk7_2) := cell_of_block HX_g0.out 2
  go_wp2_with fail
  have hcb := cntb_Machine (pMachineNew x0 x1).1
  have hct := cntTop_le (eMachine (pMachineNew x0 x1).1)
  refine (h_heldMachine (pMachineNew x0 x1).1 (.slice Ak7_0 nk7_0 pk7_0) (.slice Ak7_1 nk7_1 pk7_1) (.slice Ak7_2 nk7_2 pk7_2) 1 w22 HM_g0.out.rd (by omega) (by omega)).mono ?_
  rintro e w28 ⟨rfl, hb_⟩
  rw [HKk23.out]
  clear hcb hct
  have HX_w0' := Lib.hid ((hb_.block s3 (by omega)).trans HX_w0.out)
  clear HX_w0
  have HX_w0 := HX_w0'
  clear HX_w0'
  have HX_g0' := Lib.hid ((hb_.block s8 (by omega)).trans HX_g0.out)
  clear HX_g0
  have HX_g0 := HX_g0'
  clear HX_g0'
  have HM_w0' := Lib.hid (HM_w0.out.below hb_)
  clear HM_w0
  have HM_w0 := HM_w0'
  clear HM_w0'
  have HM_g0' := Lib.hid (HM_g0.out.below hb_)
  clear HM_g0
  have HM_g0 := HM_g0'
  clear HM_g0'
  have HBL' := Lib.hid (below_step HBL.out hb_)
  clear HBL
  have HBL := HBL'
  clear HBL'
  obtain ⟨s29, hs29⟩ : ∃ s, w28.heap.size = s := ⟨_, rfl⟩
  have hls29 : s24 ≤ s29 := by have := hb_.size; omega
  clear hb_
  go_wp2_with fail
  refine (impl_MachineNew x0 x1 w28 hw0 hw1).mono ?_
  rintro e w30 ⟨u_, rfl, hm_, hb_⟩
  have hsh_ := hm_
  obtain ⟨bs_, hsh_, _⟩ := hsh_
  obtain ⟨Ak31_0, nk31_0, pk31_0, Ak31_1, nk31_1, pk31_1, Ak31_2, nk31_2, pk31_2, rfl⟩ := sinv_Machine hsh_
  clear hsh_
  rw [hs29] at hm_
  have HX_w0' := Lib.hid ((hb_.block s3 (by omega)).trans HX_w0.out)
  clear HX_w0
  have HX_w0 := HX_w0'
  clear HX_w0'
  have HX_g0' := Lib.hid ((hb_.block s8 (by omega)).trans HX_g0.out)
  clear HX_g0
  have HX_g0 := HX_g0'
  clear HX_g0'
  have HM_w0' := Lib.hid (HM_w0.out.below hb_)
  clear HM_w0
  have HM_w0 := HM_w0'
  clear HM_w0'
  have HM_g0' := Lib.hid (HM_g0.out.below hb_)
  clear HM_g0
  have HM_g0 := HM_g0'
  clear HM_g0'
  have HBL' := Lib.hid (below_step HBL.out hb_)
  clear HBL
  have HBL := HBL'
  clear HBL'
  obtain ⟨s32, hs32⟩ : ∃ s, w30.heap.size = s := ⟨_, rfl⟩
  have hls32 : s29 ≤ s32 := by have := hb_.size; omega
  have HM_h0 := Lib.hid (hm_.toIn (Nat.le_of_eq hs32))
  clear hm_ hb_
  have HXP_w0 := HX_w0
  have HXP_g0 := HX_g0
  have hb_ : Below w30.heap.size w30 (w30.alloc (.cells #[.slice Ak31_0 nk31_0 pk31_0, .slice Ak31_1 nk31_1 pk31_1, .slice Ak31_2 nk31_2 pk31_2] 30)) := (Below.refl _ _).alloc (Nat.le_refl _) _
  have hx_ : (w30.alloc (.cells #[.slice Ak31_0 nk31_0 pk31_0, .slice Ak31_1 nk31_1 pk31_1, .slice Ak31_2 nk31_2 pk31_2] 30)).heap[s32]? = some (.cells #[.slice Ak31_0 nk31_0 pk31_0, .slice Ak31_1 nk31_1 pk31_1, .slice Ak31_2 nk31_2 pk31_2] 30 (0, 0)) := by rw [← hs32]; exact heap_alloc_new _ _
  have hz_ : (w30.alloc (.cells #[.slice Ak31_0 nk31_0 pk31_0, .slice Ak31_1 nk31_1 pk31_1, .slice Ak31_2 nk31_2 pk31_2] 30)).heap.size = s32 + 1 := by simp [hs32]
  obtain ⟨w33, HW_w33⟩ : ∃ z, (w30.alloc (.cells #[.slice Ak31_0 nk31_0 pk31_0, .slice Ak31_1 nk31_1 pk31_1, .slice Ak31_2 nk31_2 pk31_2] 30)) = z := ⟨_, rfl⟩
  rw [HW_w33] at hb_ hx_ hz_
  have HX_w0' := Lib.hid ((hb_.block s3 (by omega)).trans HX_w0.out)
  clear HX_w0
  have HX_w0 := HX_w0'
  clear HX_w0'
  have HX_g0' := Lib.hid ((hb_.block s8 (by omega)).trans HX_g0.out)
  clear HX_g0
  have HX_g0 := HX_g0'
  clear HX_g0'
  have HM_w0' := Lib.hid (HM_w0.out.below hb_)
  clear HM_w0
  have HM_w0 := HM_w0'
  clear HM_w0'
  have HM_g0' := Lib.hid (HM_g0.out.below hb_)
  clear HM_g0
  have HM_g0 := HM_g0'
  clear HM_g0'
  have HM_h0' := Lib.hid (HM_h0.out.below hb_)
  clear HM_h0
  have HM_h0 := HM_h0'
  clear HM_h0'
  have HBL' := Lib.hid (below_step HBL.out hb_)
  clear HBL
  have HBL := HBL'
  clear HBL'
  have HX_h0 := Lib.hid hx_
  clear hx_
  obtain ⟨s34, hs34⟩ : ∃ s, w33.heap.size = s := ⟨_, rfl⟩
  have hls34 : s32 + 1 = s34 := by omega
  have HWE_w33 := Lib.hid HW_w33
  clear HW_w33 hb_ hz_
  have hc35 : w33.cell? ⟨s32, 0, none⟩ = some (.slice Ak31_0 nk31_0 pk31_0) := cell_of_block HX_h0.out 0
  have hc36 : w33.cell? ⟨s32, 1, none⟩ = some (.slice Ak31_1 nk31_1 pk31_1) := cell_of_block HX_h0.out 1
  have hc37 : w33.cell? ⟨s32, 2, none⟩ = some (.slice Ak31_2 nk31_2 pk31_2) := cell_of_block HX_h0.out 2
  have : s3 < s32 := by omega
  have : w30.cell? ⟨s3, 0, none⟩ = some (.slice Ak2_0 nk2_0 pk2_0) := cell_of_block HXP_w0.out 0
  have : w30.cell? ⟨s3, 1, none⟩ = some (.slice Ak2_1 nk2_1 pk2_1) := cell_of_block HXP_w0.out 1
  have : w30.cell? ⟨s3, 2, none⟩ = some (.slice Ak2_2 nk2_2 pk2_2) := cell_of_block HXP_w0.out 2
  have hc38 : w33.cell? ⟨s3, 0, none⟩ = some (.slice Ak2_0 nk2_0 pk2_0) := cell_of_block HX_w0.out 0
  have hc39 : w33.cell? ⟨s3, 1, none⟩ = some (.slice Ak2_1 nk2_1 pk2_1) := cell_of_block HX_w0.out 1
  have hc40 : w33.cell? ⟨s3, 2, none⟩ = some (.slice Ak2_2 nk2_2 pk2_2) := cell_of_block HX_w0.out 2
  go_wp2_with fail
  rw [HWE_w33.out]
  clear HWE_w33 HXP_w0 HXP_g0
  refine (h_eqMachine (pMachineNew x0 x1).1 (.slice Ak31_0 nk31_0 pk31_0) (.slice Ak31_1 nk31_1 pk31_1) (.slice Ak31_2 nk31_2 pk31_2) (.slice Ak2_0 nk2_0 pk2_0) (.slice Ak2_1 nk2_1 pk2_1) (.slice Ak2_2 nk2_2 pk2_2) w33 HM_h0.out.rd HM_w0.out.rd (by omega)).mono ?_
  rintro e w41 ⟨rfl, hb_⟩
  have HX_w0' := Lib.hid ((hb_.block s3 (by omega)).trans HX_w0.out)
  clear HX_w0
  have HX_w0 := HX_w0'
  clear HX_w0'
  have HX_g0' := Lib.hid ((hb_.block s8 (by omega)).trans HX_g0.out)
  clear HX_g0
  have HX_g0 := HX_g0'
  clear HX_g0'
  have HX_h0' := Lib.hid ((hb_.block s32 (by omega)).trans HX_h0.out)
  clear HX_h0
  have HX_h0 := HX_h0'
  clear HX_h0'
  have HM_w0' := Lib.hid (HM_w0.out.below hb_)
  clear HM_w0
  have HM_w0 := HM_w0'
  clear HM_w0'
  have HM_g0' := Lib.hid (HM_g0.out.below hb_)
  clear HM_g0
  have HM_g0 := HM_g0'
  clear HM_g0'
  have HM_h0' := Lib.hid (HM_h0.out.below hb_)
  clear HM_h0
  have HM_h0 := HM_h0'
  clear HM_h0'
  have HBL' := Lib.hid (below_step HBL.out hb_)
  clear HBL
  have HBL := HBL'
  clear HBL'
  obtain ⟨s42, hs42⟩ : ∃ s, w41.heap.size = s := ⟨_, rfl⟩
  have hls42 : s34 ≤ s42 := by have := hb_.size; omega
  clear hb_
  have hc43 : w41.cell? ⟨s8, 0, none⟩ = some (.slice Ak7_0 nk7_0 pk7_0) := cell_of_block HX_g0.out 0
  have hc44 : w41.cell? ⟨s8, 1, none⟩ = some (.slice Ak7_1 nk7_1 pk7_1) := cell_of_block HX_g0.out 1
  have hc45 : w41.cell? ⟨s8, 2, none⟩ = some (.slice Ak7_2 nk7_2 pk7_2) := cell_of_block HX_g0.out 2
  go_wp2_with fail
  have hcb := cntb_Machine (pMachineNew x0 x1).1
  have hct := cntTop_le (eMachine (pMachineNew x0 x1).1)
  refine (h_heldMachine (pMachineNew x0 x1).1 (.slice Ak7_0 nk7_0 pk7_0) (.slice Ak7_1 nk7_1 pk7_1) (.slice Ak7_2 nk7_2 pk7_2) 1 w41 HM_g0.out.rd (by omega) (by omega)).mono ?_
  rintro e w46 ⟨rfl, hb_⟩
  rw [HKk23.out]
  clear hcb hct
  have HX_w0' := Lib.hid ((hb_.block s3 (by omega)).trans HX_w0.out)
  clear HX_w0
  have HX_w0 := HX_w0'
  clear HX_w0'
  have HX_g0' := Lib.hid ((hb_.block s8 (by omega)).trans HX_g0.out)
  clear HX_g0
  have HX_g0 := HX_g0'
  clear HX_g0'
  have HX_h0' := Lib.hid ((hb_.block s32 (by omega)).trans HX_h0.out)
  clear HX_h0
  have HX_h0 := HX_h0'
  clear HX_h0'
  have HM_w0' := Lib.hid (HM_w0.out.below hb_)
  clear HM_w0
  have HM_w0 := HM_w0'
  clear HM_w0'
  have HM_g0' := Lib.hid (HM_g0.out.below hb_)
  clear HM_g0
  have HM_g0 := HM_g0'
  clear HM_g0'
  have HM_h0' := Lib.hid (HM_h0.out.below hb_)
  clear HM_h0
  have HM_h0 := HM_h0'
  clear HM_h0'
  have HBL' := Lib.hid (below_step HBL.out hb_)
  clear HBL
  have HBL := HBL'
  clear HBL'
  obtain ⟨s47, hs47⟩ : ∃ s, w46.heap.size = s := ⟨_, rfl⟩
  have hls47 : s42 ≤ s47 := by have := hb_.size; omega
  clear hb_
  go_wp2
  go_ret
  exact ⟨rfl, HBL.out⟩
set_option maxRecDepth 100000 in
theorem lifted (os : Os) (started : os.Started) (H : Type) (enc : TypeId × Value → H) :
    ReturnsInHanded {} Try.checked os 3 .any (Rows.fnExactMachineNewSpec.pre6 enc Try.prog Try.f3 Rows.fnExactMachineNewRow.domain false) (Rows.fnExactMachineNewSpec.post enc Try.prog Try.f3 false true false false) := by
  refine returnsInHanded_of_change (C := Try.checked) own started (by kernel_rfl) Try.func3
    (ChangeSpec.witness6 (enc := enc) (C := Try.checked) false ⟨#[], #[.int .i64 0, .int .i64 0], []⟩ 8 (by kernel_rfl) (by kernel_rfl) (by kernel_rfl) (by kernel_rfl)) ?_
  intro W base args ds gs before hval0 hW hcnd _
  have hval : ∀ (j : Nat) t v, Try.f3.params[j]? = some t → args[j]? = some v → Value.okWide Try.prog W .any base t v := hval0
  have hW' := hW
  obtain ⟨p, q, hA0, hV, rfl, hfz, hnd⟩ := hW
  have hA : DataW.TrodAll enc Try.prog W 0 (fun _ => true) true Try.f3.params.toList args.toList ds p := hA0
  rw [Try.params3] at hA hval
  obtain ⟨v0, vs0, d0, ds0, p0, q0, hargs, rfl, rfl, h0, r0⟩ := trodAll_cons hA
  obtain ⟨v1, vs1, d1, ds1, p1, q1, rfl, rfl, rfl, h1, r1⟩ := trodAll_cons r0
  obtain ⟨rfl, rfl, rfl⟩ := trodAll_nil r1
  obtain rfl : args = #[v0, v1] := by cases args; simp_all
  obtain ⟨rfl, rfl⟩ := trodVars_none hV
  obtain ⟨a0, rfl, rfl, rfl, w0⟩ := open_int Try.underlying3 (hval 0 3 v0 rfl rfl) h0
  obtain ⟨a1, rfl, rfl, rfl, w1⟩ := open_int Try.underlying3 (hval 1 3 v1 rfl rfl) h1
  clear hA0 hval0
  refine (walk a0 a1 W (okI_wf w0) (okI_wf w1)).mono fun e W' ⟨he, bel⟩ => ?_
  subst he
  exact ⟨_, rfl, _, _, _, [], _, [], hW', trodAll_mk1 (shut_bool Try.underlying4 _), (trodAll_cons_mk (shut_int Try.underlying3 w0) (trodAll_cons_mk (shut_int Try.underlying3 w1) trodAll_mk0)), rfl, bel.frame _, fun h => by cases h⟩
theorem over : Rows.fnExactMachineNewRow.holds Try.pinned (OpenSpec.ofChange Rows.fnExactMachineNewSpec) :=
  OpenClaim.holds_of_wide 3 Try.f3 rfl rfl rfl rfl rfl rfl rfl ⟨rfl, rfl, rfl, rfl, rfl⟩ rfl rfl rfl rfl rfl (by kernel_rfl) Try.func3 (by kernel_rfl)
    (of_decide_eq_true (by kernel_rfl)) (by unfold Func.isWrapper; first | (rw [if_pos (by decide +kernel)]; kernel_rfl) | (rw [if_neg (by decide +kernel)]; exact ⟨rfl, rfl⟩))
    (fun os started H enc _ => lifted os started H enc)
theorem proved : Rows.FnExactMachineNewSaid := over
#print axioms proved
end Go.Proofs.Ytkmkpjpopobdbaa.fnExactMachineNew

/- Called with any arguments, the law FnExactKernelNew returns true and each argument reads afterwards as before. No condition. -/
import Derived.Test.YtcdmijnlpapjaaaRows
import Derived.Test.YtcdmijnlpapjaaaEI08n
import Derived.Test.YtcdmijnlpapjaaaTreeCut
import Derived.Test.YtcdmijnlpapjaaaTo
import Derived.Test.YtcdmijnlpapjaaaEq
import Derived.Test.YtcdmijnlpapjaaaSz
import Derived.Test.YtcdmijnlpapjaaaMark
import Derived.Test.YtcdmijnlpapjaaaHeld
import Derived.Test.YtcdmijnlpapjaaaIn
import Derived.WalkKit
import Derived.ProofKit
import Derived.OpenShut
import Derived.ShutString
import Derived.ChangeOld
import Derived.Below
import Derived.Carry
import Derived.Deep.RegionHeld3
namespace Go.Proofs.Ytcdmijnlpapjaaa.fnExactKernelNew
open Go.ChangeShapes Go.WideShapes Go.ChangeAt Go.RowKit Go.Proofs.Ytcdmijnlpapjaaa.Tr
set_option linter.unusedVariables false
theorem own : ownKnob Try.prog.godebug = none := by kernel_rfl
theorem laidOut : laidOutB Try.prog = true := by kernel_rfl
set_option maxRecDepth 100000 in
set_option maxHeartbeats 1000000 in
theorem walk (x0 : Int) (x1 : Int) (x2 : List Int) (c2_0 : Value) (w : World) (hw0 : okI x0) (hw1 : okI x1) (r2 : Raw w (eIntS x2) [c2_0]) (hw2 : okIntS x2) :
    Calls Try.prog 6 #[(.int .i64 x0), (.int .i64 x1), (c2_0)] w fun e w' => e = .returned (.bool true) ∧ Below w.heap.size w w' := by
  have HO : Hid True := trivial
  have HR2 := Lib.hid r2
  clear r2
  obtain ⟨s0, hs0⟩ : ∃ s, w.heap.size = s := ⟨_, rfl⟩
  have HBL : Hid (Below w.heap.size w w) := Below.refl _ _
  go_enter Try.func6, Try.ntmps6
  obtain ⟨Al2, nl2, pl2, hcl_, hnl_, _⟩ := read_raw HR2.out (fun _ => rfl) (by decide)
  subst hcl_ hnl_
  by_cases hlen2 : ((x2.length : Nat) : Int) > 1048576
  · have hd_ : decide (((x2.length : Nat) : Int) > 1048576) = true := decide_eq_true hlen2
    go_wp2_with fail
    go_ret
    exact ⟨rfl, HBL.out⟩
  have hd_ : decide (((x2.length : Nat) : Int) > 1048576) = false := decide_eq_false hlen2
  have hsz2 : (eIntS x2).sz ≤ 1048576 := by rw [sz_ints]; omega
  go_wp2_with fail
  refine (h_toIntS x2 (.slice Al2 x2.length pl2) w (raw_below HBL.out _ HR2.out) (by omega)).mono ?_
  rintro e w2 ⟨u_, rfl, hm_, hb_⟩
  have hsh_ := hm_
  obtain ⟨bs_, hsh_, _⟩ := hsh_
  obtain ⟨Ak3, nk3, pk3, rfl⟩ := own_slice hsh_
  clear hsh_
  rw [hs0] at hm_
  have HBL' := Lib.hid (below_step HBL.out hb_)
  clear HBL
  have HBL := HBL'
  clear HBL'
  obtain ⟨s4, hs4⟩ : ∃ s, w2.heap.size = s := ⟨_, rfl⟩
  have hls4 : s0 ≤ s4 := by have := hb_.size; omega
  have HM_t1 := Lib.hid (hm_.toIn (Nat.le_of_eq hs4))
  clear hm_ hb_
  go_wp2_with fail
  refine (spec_KernelNew x0 x1 x2 (.slice Ak3 nk3 pk3) w2 HM_t1.out.rd hsz2 hw0 hw1).mono ?_
  rintro e w5 ⟨u_, rfl, hm_, hb_⟩
  have hsh_ := hm_
  obtain ⟨bs_, hsh_, _⟩ := hsh_
  obtain ⟨Ak6_0, nk6_0, pk6_0, Ak6_1, nk6_1, pk6_1, Ak6_2, nk6_2, pk6_2, Ak6_4, nk6_4, pk6_4, rfl⟩ := sinv_Kernel hsh_
  clear hsh_
  rw [hs4] at hm_
  have HM_t1' := Lib.hid (HM_t1.out.below hb_)
  clear HM_t1
  have HM_t1 := HM_t1'
  clear HM_t1'
  have HBL' := Lib.hid (below_step HBL.out hb_)
  clear HBL
  have HBL := HBL'
  clear HBL'
  obtain ⟨s7, hs7⟩ : ∃ s, w5.heap.size = s := ⟨_, rfl⟩
  have hls7 : s4 ≤ s7 := by have := hb_.size; omega
  have HM_w0 := Lib.hid (hm_.toIn (Nat.le_of_eq hs7))
  clear hm_ hb_
  have hsr : (eKernel (pKernelNew x0 x1 x2).1).sz ≤ 50000000 := bound_KernelNew x0 x1 x2 hsz2
  have hb_ : Below w5.heap.size w5 (w5.alloc (.cells #[.slice Ak6_0 nk6_0 pk6_0, .slice Ak6_1 nk6_1 pk6_1, .slice Ak6_2 nk6_2 pk6_2, .int .i64 ((pKernelNew x0 x1 x2).1.Calls), .slice Ak6_4 nk6_4 pk6_4] 35)) := (Below.refl _ _).alloc (Nat.le_refl _) _
  have hx_ : (w5.alloc (.cells #[.slice Ak6_0 nk6_0 pk6_0, .slice Ak6_1 nk6_1 pk6_1, .slice Ak6_2 nk6_2 pk6_2, .int .i64 ((pKernelNew x0 x1 x2).1.Calls), .slice Ak6_4 nk6_4 pk6_4] 35)).heap[s7]? = some (.cells #[.slice Ak6_0 nk6_0 pk6_0, .slice Ak6_1 nk6_1 pk6_1, .slice Ak6_2 nk6_2 pk6_2, .int .i64 ((pKernelNew x0 x1 x2).1.Calls), .slice Ak6_4 nk6_4 pk6_4] 35 (0, 0)) := by rw [← hs7]; exact heap_alloc_new _ _
  have hz_ : (w5.alloc (.cells #[.slice Ak6_0 nk6_0 pk6_0, .slice Ak6_1 nk6_1 pk6_1, .slice Ak6_2 nk6_2 pk6_2, .int .i64 ((pKernelNew x0 x1 x2).1.Calls), .slice Ak6_4 nk6_4 pk6_4] 35)).heap.size = s7 + 1 := by simp [hs7]
  obtain ⟨w8, HW_w8⟩ : ∃ z, (w5.alloc (.cells #[.slice Ak6_0 nk6_0 pk6_0, .slice Ak6_1 nk6_1 pk6_1, .slice Ak6_2 nk6_2 pk6_2, .int .i64 ((pKernelNew x0 x1 x2).1.Calls), .slice Ak6_4 nk6_4 pk6_4] 35)) = z := ⟨_, rfl⟩
  rw [HW_w8] at hb_ hx_ hz_
  have HM_t1' := Lib.hid (HM_t1.out.below hb_)
  clear HM_t1
  have HM_t1 := HM_t1'
  clear HM_t1'
  have HM_w0' := Lib.hid (HM_w0.out.below hb_)
  clear HM_w0
  have HM_w0 := HM_w0'
  clear HM_w0'
  have HBL' := Lib.hid (below_step HBL.out hb_)
  clear HBL
  have HBL := HBL'
  clear HBL'
  have HX_w0 := Lib.hid hx_
  clear hx_
  obtain ⟨s9, hs9⟩ : ∃ s, w8.heap.size = s := ⟨_, rfl⟩
  have hls9 : s7 + 1 = s9 := by omega
  have HWE_w8 := Lib.hid HW_w8
  clear HW_w8 hb_ hz_
  go_wp2_with fail
  rw [HWE_w8.out]
  clear HWE_w8
  refine (h_toIntS x2 (.slice Al2 x2.length pl2) w8 (raw_below HBL.out _ HR2.out) (by omega)).mono ?_
  rintro e w10 ⟨u_, rfl, hm_, hb_⟩
  have hsh_ := hm_
  obtain ⟨bs_, hsh_, _⟩ := hsh_
  obtain ⟨Ak11, nk11, pk11, rfl⟩ := own_slice hsh_
  clear hsh_
  rw [hs9] at hm_
  have HX_w0' := Lib.hid ((hb_.block s7 (by omega)).trans HX_w0.out)
  clear HX_w0
  have HX_w0 := HX_w0'
  clear HX_w0'
  have HM_t1' := Lib.hid (HM_t1.out.below hb_)
  clear HM_t1
  have HM_t1 := HM_t1'
  clear HM_t1'
  have HM_w0' := Lib.hid (HM_w0.out.below hb_)
  clear HM_w0
  have HM_w0 := HM_w0'
  clear HM_w0'
  have HBL' := Lib.hid (below_step HBL.out hb_)
  clear HBL
  have HBL := HBL'
  clear HBL'
  obtain ⟨s12, hs12⟩ : ∃ s, w10.heap.size = s := ⟨_, rfl⟩
  have hls12 : s9 ≤ s12 := by have := hb_.size; omega
  have HM_x2 := Lib.hid (hm_.toIn (Nat.le_of_eq hs12))
  clear hm_ hb_
  go_wp2_with fail
  refine (impl_KernelNew x0 x1 x2 (.slice Ak11 nk11 pk11) w10 HM_x2.out.rd hsz2 hw0 hw1).mono ?_
  rintro e w13 ⟨u_, rfl, hm_, hb_⟩
  have hsh_ := hm_
  obtain ⟨bs_, hsh_, _⟩ := hsh_
  obtain ⟨Ak14_0, nk14_0, pk14_0, Ak14_1, nk14_1, pk14_1, Ak14_2, nk14_2, pk14_2, Ak14_4, nk14_4, pk14_4, rfl⟩ := sinv_Kernel hsh_
  clear hsh_
  rw [hs12] at hm_
  have HX_w0' := Lib.hid ((hb_.block s7 (by omega)).trans HX_w0.out)
  clear HX_w0
  have HX_w0 := HX_w0'
  clear HX_w0'
  have HM_t1' := Lib.hid (HM_t1.out.below hb_)
  clear HM_t1
  have HM_t1 := HM_t1'
  clear HM_t1'
  have HM_w0' := Lib.hid (HM_w0.out.below hb_)
  clear HM_w0
  have HM_w0 := HM_w0'
  clear HM_w0'
  have HM_x2' := Lib.hid (HM_x2.out.below hb_)
  clear HM_x2
  have HM_x2 := HM_x2'
  clear HM_x2'
  have HBL' := Lib.hid (below_step HBL.out hb_)
  clear HBL
  have HBL := HBL'
  clear HBL'
  obtain ⟨s15, hs15⟩ : ∃ s, w13.heap.size = s := ⟨_, rfl⟩
  have hls15 : s12 ≤ s15 := by have := hb_.size; omega
  have HM_g0 := Lib.hid (hm_.toIn (Nat.le_of_eq hs15))
  clear hm_ hb_
  have HXP_w0 := HX_w0
  have hb_ : Below w13.heap.size w13 (w13.alloc (.cells #[.slice Ak14_0 nk14_0 pk14_0, .slice Ak14_1 nk14_1 pk14_1, .slice Ak14_2 nk14_2 pk14_2, .int .i64 ((pKernelNew x0 x1 x2).1.Calls), .slice Ak14_4 nk14_4 pk14_4] 35)) := (Below.refl _ _).alloc (Nat.le_refl _) _
  have hx_ : (w13.alloc (.cells #[.slice Ak14_0 nk14_0 pk14_0, .slice Ak14_1 nk14_1 pk14_1, .slice Ak14_2 nk14_2 pk14_2, .int .i64 ((pKernelNew x0 x1 x2).1.Calls), .slice Ak14_4 nk14_4 pk14_4] 35)).heap[s15]? = some (.cells #[.slice Ak14_0 nk14_0 pk14_0, .slice Ak14_1 nk14_1 pk14_1, .slice Ak14_2 nk14_2 pk14_2, .int .i64 ((pKernelNew x0 x1 x2).1.Calls), .slice Ak14_4 nk14_4 pk14_4] 35 (0, 0)) := by rw [← hs15]; exact heap_alloc_new _ _
  have hz_ : (w13.alloc (.cells #[.slice Ak14_0 nk14_0 pk14_0, .slice Ak14_1 nk14_1 pk14_1, .slice Ak14_2 nk14_2 pk14_2, .int .i64 ((pKernelNew x0 x1 x2).1.Calls), .slice Ak14_4 nk14_4 pk14_4] 35)).heap.size = s15 + 1 := by simp [hs15]
  obtain ⟨w16, HW_w16⟩ : ∃ z, (w13.alloc (.cells #[.slice Ak14_0 nk14_0 pk14_0, .slice Ak14_1 nk14_1 pk14_1, .slice Ak14_2 nk14_2 pk14_2, .int .i64 ((pKernelNew x0 x1 x2).1.Calls), .slice Ak14_4 nk14_4 pk14_4] 35)) = z := ⟨_, rfl⟩
  rw [HW_w16] at hb_ hx_ hz_
  have HX_w0' := Lib.hid ((hb_.block s7 (by omega)).trans HX_w0.out)
  clear HX_w0
  have HX_w0 := HX_w0'
  clear HX_w0'
  have HM_t1' := Lib.hid (HM_t1.out.below hb_)
  clear HM_t1
  have HM_t1 := HM_t1'
  clear HM_t1'
  have HM_w0' := Lib.hid (HM_w0.out.below hb_)
  clear HM_w0
  have HM_w0 := HM_w0'
  clear HM_w0'
  have HM_x2' := Lib.hid (HM_x2.out.below hb_)
  clear HM_x2
  have HM_x2 := HM_x2'
  clear HM_x2'
  have HM_g0' := Lib.hid (HM_g0.out.below hb_)
  clear HM_g0
  have HM_g0 := HM_g0'
  clear HM_g0'
  have HBL' := Lib.hid (below_step HBL.out hb_)
  clear HBL
  have HBL := HBL'
  clear HBL'
  have HX_g0 := Lib.hid hx_
  clear hx_
  obtain ⟨s17, hs17⟩ : ∃ s, w16.heap.size = s := ⟨_, rfl⟩
  have hls17 : s15 + 1 = s17 := by omega
  have HWE_w16 := Lib.hid HW_w16
  clear HW_w16 hb_ hz_
  have hc18 : w16.cell? ⟨s15, 0, none⟩ = some (.slice Ak14_0 nk14_0 pk14_0) := cell_of_block HX_g0.out 0
  have hc19 : w16.cell? ⟨s15, 1, none⟩ = some (.slice Ak14_1 nk14_1 pk14_1) := cell_of_block HX_g0.out 1
  have hc20 : w16.cell? ⟨s15, 2, none⟩ = some (.slice Ak14_2 nk14_2 pk14_2) := cell_of_block HX_g0.out 2
  have hc21 : w16.cell? ⟨s15, 3, none⟩ = some (.int .i64 ((pKernelNew x0 x1 x2).1.Calls)) := cell_of_block HX_g0.out 3
  have hc22 : w16.cell? ⟨s15, 4, none⟩ = some (.slice Ak14_4 nk14_4 pk14_4) := cell_of_block HX_g0.out 4
  have : s7 < s15 := by omega
  have : w13.cell? ⟨s7, 0, none⟩ = some (.slice Ak6_0 nk6_0 pk6_0) := cell_of_block HXP_w0.out 0
  have : w13.cell? ⟨s7, 1, none⟩ = some (.slice Ak6_1 nk6_1 pk6_1) := cell_of_block HXP_w0.out 1
  have : w13.cell? ⟨s7, 2, none⟩ = some (.slice Ak6_2 nk6_2 pk6_2) := cell_of_block HXP_w0.out 2
  have : w13.cell? ⟨s7, 3, none⟩ = some (.int .i64 ((pKernelNew x0 x1 x2).1.Calls)) := cell_of_block HXP_w0.out 3
  have : w13.cell? ⟨s7, 4, none⟩ = some (.slice Ak6_4 nk6_4 pk6_4) := cell_of_block HXP_w0.out 4
  have hc23 : w16.cell? ⟨s7, 0, none⟩ = some (.slice Ak6_0 nk6_0 pk6_0) := cell_of_block HX_w0.out 0
  have hc24 : w16.cell? ⟨s7, 1, none⟩ = some (.slice Ak6_1 nk6_1 pk6_1) := cell_of_block HX_w0.out 1
  have hc25 : w16.cell? ⟨s7, 2, none⟩ = some (.slice Ak6_2 nk6_2 pk6_2) := cell_of_block HX_w0.out 2
  have hc26 : w16.cell? ⟨s7, 3, none⟩ = some (.int .i64 ((pKernelNew x0 x1 x2).1.Calls)) := cell_of_block HX_w0.out 3
  have hc27 : w16.cell? ⟨s7, 4, none⟩ = some (.slice Ak6_4 nk6_4 pk6_4) := cell_of_block HX_w0.out 4
  go_wp2_with fail
  rw [HWE_w16.out]
  clear HWE_w16 HXP_w0
  refine (h_eqKernel (pKernelNew x0 x1 x2).1 (.slice Ak14_0 nk14_0 pk14_0) (.slice Ak14_1 nk14_1 pk14_1) (.slice Ak14_2 nk14_2 pk14_2) (.slice Ak14_4 nk14_4 pk14_4) (.slice Ak6_0 nk6_0 pk6_0) (.slice Ak6_1 nk6_1 pk6_1) (.slice Ak6_2 nk6_2 pk6_2) (.slice Ak6_4 nk6_4 pk6_4) w16 HM_g0.out.rd HM_w0.out.rd (by omega)).mono ?_
  rintro e w28 ⟨rfl, hb_⟩
  have HX_w0' := Lib.hid ((hb_.block s7 (by omega)).trans HX_w0.out)
  clear HX_w0
  have HX_w0 := HX_w0'
  clear HX_w0'
  have HX_g0' := Lib.hid ((hb_.block s15 (by omega)).trans HX_g0.out)
  clear HX_g0
  have HX_g0 := HX_g0'
  clear HX_g0'
  have HM_t1' := Lib.hid (HM_t1.out.below hb_)
  clear HM_t1
  have HM_t1 := HM_t1'
  clear HM_t1'
  have HM_w0' := Lib.hid (HM_w0.out.below hb_)
  clear HM_w0
  have HM_w0 := HM_w0'
  clear HM_w0'
  have HM_x2' := Lib.hid (HM_x2.out.below hb_)
  clear HM_x2
  have HM_x2 := HM_x2'
  clear HM_x2'
  have HM_g0' := Lib.hid (HM_g0.out.below hb_)
  clear HM_g0
  have HM_g0 := HM_g0'
  clear HM_g0'
  have HBL' := Lib.hid (below_step HBL.out hb_)
  clear HBL
  have HBL := HBL'
  clear HBL'
  obtain ⟨s29, hs29⟩ : ∃ s, w28.heap.size = s := ⟨_, rfl⟩
  have hls29 : s17 ≤ s29 := by have := hb_.size; omega
  clear hb_
  go_wp2_with fail
  have HT : Hid (∀ w', Below w28.heap.size w28 w' → Calls Try.prog 27 #[((.slice Al2 x2.length pl2))] w' (fun e w'' => ∃ (A_0 : Option Addr) (n_0 p_0 : Nat), e = .returned (.slice A_0 n_0 p_0) ∧ Rd w'' (eIntS x2) [.slice A_0 n_0 p_0] ∧ Below w28.heap.size w28 w'')) := fun w' hb => (h_toIntS x2 (.slice Al2 x2.length pl2) w' (raw_below (below_step HBL.out hb) _ HR2.out) (by omega)).mono (by
    rintro e w'' ⟨u_, rfl, hm_, hb_⟩
    have hsh_ := hm_
    obtain ⟨bs_, hsh_, _⟩ := hsh_
    obtain ⟨A_0, n_0, p_0, rfl⟩ := own_slice hsh_
    exact ⟨A_0, n_0, p_0, rfl, hm_.rd, below_step hb hb_⟩)
  have HE : Hid (∀ w' (A_0 : Option Addr) (n_0 p_0 : Nat), Below w28.heap.size w28 w' → Rd w' (eIntS x2) [.slice A_0 n_0 p_0] → Calls Try.prog 29 #[(.slice Ak11 nk11 pk11), (.slice A_0 n_0 p_0)] w' (fun e w'' => e = .returned (.bool true) ∧ Below w28.heap.size w28 w'')) := fun w' A_0 n_0 p_0 hb hr => (h_eqIntS x2 (.slice Ak11 nk11 pk11) (.slice A_0 n_0 p_0) w' (HM_x2.out.rd.below hb) hr (by omega)).mono (fun _ _ h => ⟨h.1, below_step hb h.2⟩)
  have hrf_ : Below w28.heap.size w28 w28.drew := (Below.refl _ _).drew
  have HK : Hid (∀ w', Below w28.heap.size w28 w' → Below w28.heap.size w28 w') := fun w' hb => hb
  refine (HT.out _ (Below.refl _ _)).mono ?_
  rintro e wt_ ⟨A_0, n_0, p_0, rfl, hrt_, hbt_⟩
  go_wp2_with fail
  refine (HE.out _ _ _ _ (by first | exact hbt_ | assumption) (by first | exact hrt_ | assumption)).mono ?_
  rintro e we_ ⟨rfl, hbe_⟩
  obtain ⟨w30, hn_⟩ : ∃ z, we_ = z := ⟨_, rfl⟩
  rw [hn_] at hbe_
  rw [hn_]
  have HX_w0' := Lib.hid ((hbe_.block s7 (by omega)).trans HX_w0.out)
  clear HX_w0
  have HX_w0 := HX_w0'
  clear HX_w0'
  have HX_g0' := Lib.hid ((hbe_.block s15 (by omega)).trans HX_g0.out)
  clear HX_g0
  have HX_g0 := HX_g0'
  clear HX_g0'
  have HM_t1' := Lib.hid (HM_t1.out.below hbe_)
  clear HM_t1
  have HM_t1 := HM_t1'
  clear HM_t1'
  have HM_w0' := Lib.hid (HM_w0.out.below hbe_)
  clear HM_w0
  have HM_w0 := HM_w0'
  clear HM_w0'
  have HM_x2' := Lib.hid (HM_x2.out.below hbe_)
  clear HM_x2
  have HM_x2 := HM_x2'
  clear HM_x2'
  have HM_g0' := Lib.hid (HM_g0.out.below hbe_)
  clear HM_g0
  have HM_g0 := HM_g0'
  clear HM_g0'
  have HBL' := Lib.hid (below_step HBL.out hbe_)
  clear HBL
  have HBL := HBL'
  clear HBL'
  obtain ⟨s31, hs31⟩ : ∃ s, w30.heap.size = s := ⟨_, rfl⟩
  have hls31 : s29 ≤ s31 := by have := hbe_.size; omega
  clear hbe_ hbt_ HT HE HK hrf_ hn_ hrt_
  go_wp2_with fail
  have hcb := cntb_IntS (x2)
  have hct := cntTop_le (eIntS x2)
  refine (mark_in HM_x2.out (fun bs_ ho_ hn_ => h_markIntS (x2) _ _ _ bs_ 1 w30 ho_ hn_ (by omega) (by omega))).mono ?_
  rintro e w32 ⟨rfl, hm_, ht_⟩
  obtain ⟨k33, hkk33⟩ : ∃ q : Nat, 1 + (eIntS x2).cntTop = q := ⟨_, rfl⟩
  rw [hkk33]
  have HKk33 := Lib.hid hkk33
  clear hcb hct hkk33
  have HX_w0' := Lib.hid ((ht_.block s7 (by omega) (by omega)).trans HX_w0.out)
  clear HX_w0
  have HX_w0 := HX_w0'
  clear HX_w0'
  have HX_g0' := Lib.hid ((ht_.block s15 (by omega) (by omega)).trans HX_g0.out)
  clear HX_g0
  have HX_g0 := HX_g0'
  clear HX_g0'
  have HM_t1' := Lib.hid (HM_t1.out.turn ht_ (by omega))
  clear HM_t1
  have HM_t1 := HM_t1'
  clear HM_t1'
  have HM_w0' := Lib.hid (HM_w0.out.turn ht_ (by omega))
  clear HM_w0
  have HM_w0 := HM_w0'
  clear HM_w0'
  have HM_g0' := Lib.hid (HM_g0.out.turn ht_ (by omega))
  clear HM_g0
  have HM_g0 := HM_g0'
  clear HM_g0'
  clear HM_x2
  have HM_x2 := Lib.hid hm_
  have HBL' := Lib.hid (HBL.out.trans (ht_.below (B := w.heap.size) (by omega) (by omega)))
  clear HBL
  have HBL := HBL'
  clear HBL'
  obtain ⟨s34, hs34⟩ : ∃ s, w32.heap.size = s := ⟨_, rfl⟩
  have hls34 : s31 ≤ s34 := by have := ht_.size; omega
  clear hm_ ht_
  have hc35 : w32.cell? ⟨s15, 0, none⟩ = some (.slice Ak14_0 nk14_0 pk14_0) := cell_of_block HX_g0.out 0
  have hc36 : w32.cell? ⟨s15, 1, none⟩ = some (.slice Ak14_1 nk14_1 pk14_1) := cell_of_block HX_g0.out 1
  have hc37 : w32.cell? ⟨s15, 2, none⟩ = some (.slice Ak14_2 nk14_2 pk14_2) := cell_of_block HX_g0.out 2
  have hc38 : w32.cell? ⟨s15, 3, none⟩ = some (.int .i64 ((pKernelNew x0 x1 x2).1.Calls)) := cell_of_block HX_g0.out 3
  have hc39 : w32.cell? ⟨s15, 4, none⟩ = some (.slice Ak14_4 nk14_4 pk14_4) := cell_of_block HX_g0.out 4
  have hc40 : w32.cell? ⟨s7, 0, none⟩ = some (.slice Ak6_0 nk6_0 pk6_0) := cell_of_block HX_w0.out 0
  have hc41 : w32.cell? ⟨s7, 1, none⟩ = some (.slice Ak6_1 nk6_1 pk6_1) := cell_of_block HX_w0.out 1
  have hc42 : w32.cell? ⟨s7, 2, none⟩ = some (.slice Ak6_2 nk6_2 pk6_2) := cell_of_block HX_w0.out 2
  have hc43 : w32.cell? ⟨s7, 3, none⟩ = some (.int .i64 ((pKernelNew x0 x1 x2).1.Calls)) := cell_of_block HX_w0.out 3
  have hc44 : w32.cell? ⟨s7, 4, none⟩ = some (.slice Ak6_4 nk6_4 pk6_4) := cell_of_block HX_w0.out 4
  go_wp2_with fail
  refine (h_eqKernel (pKernelNew x0 x1 x2).1 (.slice Ak14_0 nk14_0 pk14_0) (.slice Ak14_1 nk14_1 pk14_1) (.slice Ak14_2 nk14_2 pk14_2) (.slice Ak14_4 nk14_4 pk14_4) (.slice Ak6_0 nk6_0 pk6_0) (.slice Ak6_1 nk6_1 pk6_1) (.slice Ak6_2 nk6_2 pk6_2) (.slice Ak6_4 nk6_4 pk6_4) w32 HM_g0.out.rd HM_w0.out.rd (by omega)).mono ?_
  rintro e w45 ⟨rfl, hb_⟩
  have HX_w0' := Lib.hid ((hb_.block s7 (by omega)).trans HX_w0.out)
  clear HX_w0
  have HX_w0 := HX_w0'
  clear HX_w0'
  have HX_g0' := Lib.hid ((hb_.block s15 (by omega)).trans HX_g0.out)
  clear HX_g0
  have HX_g0 := HX_g0'
  clear HX_g0'
  have HM_t1' := Lib.hid (HM_t1.out.below hb_)
  clear HM_t1
  have HM_t1 := HM_t1'
  clear HM_t1'
  have HM_w0' := Lib.hid (HM_w0.out.below hb_)
  clear HM_w0
  have HM_w0 := HM_w0'
  clear HM_w0'
  have HM_x2' := Lib.hid (HM_x2.out.below hb_)
  clear HM_x2
  have HM_x2 := HM_x2'
  clear HM_x2'
  have HM_g0' := Lib.hid (HM_g0.out.below hb_)
  clear HM_g0
  have HM_g0 := HM_g0'
  clear HM_g0'
  have HBL' := Lib.hid (below_step HBL.out hb_)
  clear HBL
  have HBL := HBL'
  clear HBL'
  obtain ⟨s46, hs46⟩ : ∃ s, w45.heap.size = s := ⟨_, rfl⟩
  have hls46 : s34 ≤ s46 := by have := hb_.size; omega
  clear hb_
  have hc47 : w45.cell? ⟨s15, 0, none⟩ = some (.slice Ak14_0 nk14_0 pk14_0) := cell_of_block HX_g0.out 0
  have hc48 : w45.cell? ⟨s15, 1, none⟩ = some (.slice Ak14_1 nk14_1 pk14_1) := cell_of_block HX_g0.out 1
  have hc49 : w45.cell? ⟨s15, 2, none⟩ = some (.slice Ak14_2 nk14_2 pk14_2) := cell_of_block HX_g0.out 2
  have hc50 : w45.cell? ⟨s15, 3, none⟩ = some (.int .i64 ((pKernelNew x0 x1 x2).1.Calls)) := cell_of_block HX_g0.out 3
  have hc51 : w45.cell? ⟨s15, 4, none⟩ = some (.slice Ak14_4 nk14_4 pk14_4) := cell_of_block HX_g0.out 4
  go_wp2_with fail
  have hcb := cntb_Kernel (pKernelNew x0 x1 x2).1
  have hct := cntTop_le (eKernel (pKernelNew x0 x1 x2).1)
  refine (mark_in HM_g0.out (fun bs_ ho_ hn_ => h_markKernel (pKernelNew x0 x1 x2).1 (.slice Ak14_0 nk14_0 pk14_0) (.slice Ak14_1 nk14_1 pk14_1) (.slice Ak14_2 nk14_2 pk14_2) (.slice Ak14_4 nk14_4 pk14_4) bs_ 1 w45 ho_ hn_ (by omega) (by omega))).mono ?_
  rintro e w52 ⟨rfl, hm_, ht_⟩
  obtain ⟨k53, hkk53⟩ : ∃ q : Nat, 1 + (eKernel (pKernelNew x0 x1 x2).1).cntTop = q := ⟨_, rfl⟩
  rw [hkk53]
  have HKk53 := Lib.hid hkk53
  clear hcb hct hkk53
  have HX_w0' := Lib.hid ((ht_.block s7 (by omega) (by omega)).trans HX_w0.out)
  clear HX_w0
  have HX_w0 := HX_w0'
  clear HX_w0'
  have HX_g0' := Lib.hid ((ht_.block s15 (by omega) (by omega)).trans HX_g0.out)
  clear HX_g0
  have HX_g0 := HX_g0'
  clear HX_g0'
  have HM_t1' := Lib.hid (HM_t1.out.turn ht_ (by omega))
  clear HM_t1
  have HM_t1 := HM_t1'
  clear HM_t1'
  have HM_w0' := Lib.hid (HM_w0.out.turn ht_ (by omega))
  clear HM_w0
  have HM_w0 := HM_w0'
  clear HM_w0'
  have HM_x2' := Lib.hid (HM_x2.out.turn ht_ (by omega))
  clear HM_x2
  have HM_x2 := HM_x2'
  clear HM_x2'
  clear HM_g0
  have HM_g0 := Lib.hid hm_
  have HBL' := Lib.hid (HBL.out.trans (ht_.below (B := w.heap.size) (by omega) (by omega)))
  clear HBL
  have HBL := HBL'
  clear HBL'
  obtain ⟨s54, hs54⟩ : ∃ s, w52.heap.size = s := ⟨_, rfl⟩
  have hls54 : s46 ≤ s54 := by have := ht_.size; omega
  clear hm_ ht_
  have hc55 : w52.cell? ⟨s15, 0, none⟩ = some (.slice Ak14_0 nk14_0 pk14_0) := cell_of_block HX_g0.out 0
  have hc56 : w52.cell? ⟨s15, 1, none⟩ = some (.slice Ak14_1 nk14_1 pk14_1) := cell_of_block HX_g0.out 1
  have hc57 : w52.cell? ⟨s15, 2, none⟩ = some (.slice Ak14_2 nk14_2 pk14_2) := cell_of_block HX_g0.out 2
  have hc58 : w52.cell? ⟨s15, 3, none⟩ = some (.int .i64 ((pKernelNew x0 x1 x2).1.Calls)) := cell_of_block HX_g0.out 3
  have hc59 : w52.cell? ⟨s15, 4, none⟩ = some (.slice Ak14_4 nk14_4 pk14_4) := cell_of_block HX_g0.out 4
  go_wp2_with fail
  have hcb := cntb_Kernel (pKernelNew x0 x1 x2).1
  have hct := cntTop_le (eKernel (pKernelNew x0 x1 x2).1)
  refine (h_heldKernel (pKernelNew x0 x1 x2).1 (.slice Ak14_0 nk14_0 pk14_0) (.slice Ak14_1 nk14_1 pk14_1) (.slice Ak14_2 nk14_2 pk14_2) (.slice Ak14_4 nk14_4 pk14_4) 1 w52 HM_g0.out.rd (by omega) (by omega)).mono ?_
  rintro e w60 ⟨rfl, hb_⟩
  rw [HKk53.out]
  clear hcb hct
  have HX_w0' := Lib.hid ((hb_.block s7 (by omega)).trans HX_w0.out)
  clear HX_w0
  have HX_w0 := HX_w0'
  clear HX_w0'
  have HX_g0' := Lib.hid ((hb_.block s15 (by omega)).trans HX_g0.out)
  clear HX_g0
  have HX_g0 := HX_g0'
  clear HX_g0'
  have HM_t1' := Lib.hid (HM_t1.out.below hb_)
  clear HM_t1
  have HM_t1 := HM_t1'
  clear HM_t1'
  have HM_w0' := Lib.hid (HM_w0.out.below hb_)
  clear HM_w0
  have HM_w0 := HM_w0'
  clear HM_w0'
  have HM_x2' := Lib.hid (HM_x2.out.below hb_)
  clear HM_x2
  have HM_x2 := HM_x2'
  clear HM_x2'
  have HM_g0' := Lib.hid (HM_g0.out.below hb_)
  clear HM_g0
  have HM_g0 := HM_g0'
  clear HM_g0'
  have HBL' := Lib.hid (below_step HBL.out hb_)
  clear HBL
  have HBL := HBL'
  clear HBL'
  obtain ⟨s61, hs61⟩ : ∃ s, w60.heap.size = s := ⟨_, rfl⟩
  have hls61 : s54 ≤ s61 := by have := hb_.size; omega
  clear hb_
  go_wp2_with fail
  refine (h_toIntS x2 (.slice Al2 x2.length pl2) w60 (raw_below HBL.out _ HR2.out) (by omega)).mono ?_
  rintro e w63 ⟨u_, rfl, hm_, hb_⟩
  have hsh_ := hm_
  obtain ⟨bs_, hsh_, _⟩ := hsh_
  obtain ⟨Ak64, nk64, pk64, rfl⟩ := own_slice hsh_
  clear hsh_
  rw [hs61] at hm_
  have HX_w0' := Lib.hid ((hb_.block s7 (by omega)).trans HX_w0.out)
  clear HX_w0
  have HX_w0 := HX_w0'
  clear HX_w0'
  have HX_g0' := Lib.hid ((hb_.block s15 (by omega)).trans HX_g0.out)
  clear HX_g0
  have HX_g0 := HX_g0'
  clear HX_g0'
  have HM_t1' := Lib.hid (HM_t1.out.below hb_)
  clear HM_t1
  have HM_t1 := HM_t1'
  clear HM_t1'
  have HM_w0' := Lib.hid (HM_w0.out.below hb_)
  clear HM_w0
  have HM_w0 := HM_w0'
  clear HM_w0'
  have HM_x2' := Lib.hid (HM_x2.out.below hb_)
  clear HM_x2
  have HM_x2 := HM_x2'
  clear HM_x2'
  have HM_g0' := Lib.hid (HM_g0.out.below hb_)
  clear HM_g0
  have HM_g0 := HM_g0'
  clear HM_g0'
  have HBL' := Lib.hid (below_step HBL.out hb_)
  clear HBL
  have HBL := HBL'
  clear HBL'
  obtain ⟨s65, hs65⟩ : ∃ s, w63.heap.size = s := ⟨_, rfl⟩
  have hls65 : s61 ≤ s65 := by have := hb_.size; omega
  have HM_t62 := Lib.hid (hm_.toIn (Nat.le_of_eq hs65))
  clear hm_ hb_
  go_wp2_with fail
  refine (impl_KernelNew x0 x1 x2 (.slice Ak64 nk64 pk64) w63 HM_t62.out.rd hsz2 hw0 hw1).mono ?_
  rintro e w66 ⟨u_, rfl, hm_, hb_⟩
  have hsh_ := hm_
  obtain ⟨bs_, hsh_, _⟩ := hsh_
  obtain ⟨Ak67_0, nk67_0, pk67_0, Ak67_1, nk67_1, pk67_1, Ak67_2, nk67_2, pk67_2, Ak67_4, nk67_4, pk67_4, rfl⟩ := sinv_Kernel hsh_
  clear hsh_
  rw [hs65] at hm_
  have HX_w0' := Lib.hid ((hb_.block s7 (by omega)).trans HX_w0.out)
  clear HX_w0
  have HX_w0 := HX_w0'
  clear HX_w0'
  have HX_g0' := Lib.hid ((hb_.block s15 (by omega)).trans HX_g0.out)
  clear HX_g0
  have HX_g0 := HX_g0'
  clear HX_g0'
  have HM_t1' := Lib.hid (HM_t1.out.below hb_)
  clear HM_t1
  have HM_t1 := HM_t1'
  clear HM_t1'
  have HM_w0' := Lib.hid (HM_w0.out.below hb_)
  clear HM_w0
  have HM_w0 := HM_w0'
  clear HM_w0'
  have HM_x2' := Lib.hid (HM_x2.out.below hb_)
  clear HM_x2
  have HM_x2 := HM_x2'
  clear HM_x2'
  have HM_g0' := Lib.hid (HM_g0.out.below hb_)
  clear HM_g0
  have HM_g0 := HM_g0'
  clear HM_g0'
  have HM_t62' := Lib.hid (HM_t62.out.below hb_)
  clear HM_t62
  have HM_t62 := HM_t62'
  clear HM_t62'
  have HBL' := Lib.hid (below_step HBL.out hb_)
  clear HBL
  have HBL := HBL'
  clear HBL'
  obtain ⟨s68, hs68⟩ : ∃ s, w66.heap.size = s := ⟨_, rfl⟩
  have hls68 : s65 ≤ s68 := by have := hb_.size; omega
  have HM_h0 := Lib.hid (hm_.toIn (Nat.le_of_eq hs68))
  clear hm_ hb_
  have HXP_w0 := HX_w0
  have HXP_g0 := HX_g0
  have hb_ : Below w66.heap.size w66 (w66.alloc (.cells #[.slice Ak67_0 nk67_0 pk67_0, .slice Ak67_1 nk67_1 pk67_1, .slice Ak67_2 nk67_2 pk67_2, .int .i64 ((pKernelNew x0 x1 x2).1.Calls), .slice Ak67_4 nk67_4 pk67_4] 35)) := (Below.refl _ _).alloc (Nat.le_refl _) _
  have hx_ : (w66.alloc (.cells #[.slice Ak67_0 nk67_0 pk67_0, .slice Ak67_1 nk67_1 pk67_1, .slice Ak67_2 nk67_2 pk67_2, .int .i64 ((pKernelNew x0 x1 x2).1.Calls), .slice Ak67_4 nk67_4 pk67_4] 35)).heap[s68]? = some (.cells #[.slice Ak67_0 nk67_0 pk67_0, .slice Ak67_1 nk67_1 pk67_1, .slice Ak67_2 nk67_2 pk67_2, .int .i64 ((pKernelNew x0 x1 x2).1.Calls), .slice Ak67_4 nk67_4 pk67_4] 35 (0, 0)) := by rw [← hs68]; exact heap_alloc_new _ _
  have hz_ : (w66.alloc (.cells #[.slice Ak67_0 nk67_0 pk67_0, .slice Ak67_1 nk67_1 pk67_1, .slice Ak67_2 nk67_2 pk67_2, .int .i64 ((pKernelNew x0 x1 x2).1.Calls), .slice Ak67_4 nk67_4 pk67_4] 35)).heap.size = s68 + 1 := by simp [hs68]
  obtain ⟨w69, HW_w69⟩ : ∃ z, (w66.alloc (.cells #[.slice Ak67_0 nk67_0 pk67_0, .slice Ak67_1 nk67_1 pk67_1, .slice Ak67_2 nk67_2 pk67_2, .int .i64 ((pKernelNew x0 x1 x2).1.Calls), .slice Ak67_4 nk67_4 pk67_4] 35)) = z := ⟨_, rfl⟩
  rw [HW_w69] at hb_ hx_ hz_
  have HX_w0' := Lib.hid ((hb_.block s7 (by omega)).trans HX_w0.out)
  clear HX_w0
  have HX_w0 := HX_w0'
  clear HX_w0'
  have HX_g0' := Lib.hid ((hb_.block s15 (by omega)).trans HX_g0.out)
  clear HX_g0
  have HX_g0 := HX_g0'
  clear HX_g0'
  have HM_t1' := Lib.hid (HM_t1.out.below hb_)
  clear HM_t1
  have HM_t1 := HM_t1'
  clear HM_t1'
  have HM_w0' := Lib.hid (HM_w0.out.below hb_)
  clear HM_w0
  have HM_w0 := HM_w0'
  clear HM_w0'
  have HM_x2' := Lib.hid (HM_x2.out.below hb_)
  clear HM_x2
  have HM_x2 := HM_x2'
  clear HM_x2'
  have HM_g0' := Lib.hid (HM_g0.out.below hb_)
  clear HM_g0
  have HM_g0 := HM_g0'
  clear HM_g0'
  have HM_t62' := Lib.hid (HM_t62.out.below hb_)
  clear HM_t62
  have HM_t62 := HM_t62'
  clear HM_t62'
  have HM_h0' := Lib.hid (HM_h0.out.below hb_)
  clear HM_h0
  have HM_h0 := HM_h0'
  clear HM_h0'
  have HBL' := Lib.hid (below_step HBL.out hb_)
  clear HBL
  have HBL := HBL'
  clear HBL'
  have HX_h0 := Lib.hid hx_
  clear hx_
  obtain ⟨s70, hs70⟩ : ∃ s, w69.heap.size = s := ⟨_, rfl⟩
  have hls70 : s68 + 1 = s70 := by omega
  have HWE_w69 := Lib.hid HW_w69
  clear HW_w69 hb_ hz_
  have hc71 : w69.cell? ⟨s68, 0, none⟩ = some (.slice Ak67_0 nk67_0 pk67_0) := cell_of_block HX_h0.out 0
  have hc72 : w69.cell? ⟨s68, 1, none⟩ = some (.slice Ak67_1 nk67_1 pk67_1) := cell_of_block HX_h0.out 1
  have hc73 : w69.cell? ⟨s68, 2, none⟩ = some (.slice Ak67_2 nk67_2 pk67_2) := cell_of_block HX_h0.out 2
  have hc74 : w69.cell? ⟨s68, 3, none⟩ = some (.int .i64 ((pKernelNew x0 x1 x2).1.Calls)) := cell_of_block HX_h0.out 3
  have hc75 : w69.cell? ⟨s68, 4, none⟩ = some (.slice Ak67_4 nk67_4 pk67_4) := cell_of_block HX_h0.out 4
  have : s7 < s68 := by omega
  have : w66.cell? ⟨s7, 0, none⟩ = some (.slice Ak6_0 nk6_0 pk6_0) := cell_of_block HXP_w0.out 0
  have : w66.cell? ⟨s7, 1, none⟩ = some (.slice Ak6_1 nk6_1 pk6_1) := cell_of_block HXP_w0.out 1
  have : w66.cell? ⟨s7, 2, none⟩ = some (.slice Ak6_2 nk6_2 pk6_2) := cell_of_block HXP_w0.out 2
  have : w66.cell? ⟨s7, 3, none⟩ = some (.int .i64 ((pKernelNew x0 x1 x2).1.Calls)) := cell_of_block HXP_w0.out 3
  have : w66.cell? ⟨s7, 4, none⟩ = some (.slice Ak6_4 nk6_4 pk6_4) := cell_of_block HXP_w0.out 4
  have hc76 : w69.cell? ⟨s7, 0, none⟩ = some (.slice Ak6_0 nk6_0 pk6_0) := cell_of_block HX_w0.out 0
  have hc77 : w69.cell? ⟨s7, 1, none⟩ = some (.slice Ak6_1 nk6_1 pk6_1) := cell_of_block HX_w0.out 1
  have hc78 : w69.cell? ⟨s7, 2, none⟩ = some (.slice Ak6_2 nk6_2 pk6_2) := cell_of_block HX_w0.out 2
  have hc79 : w69.cell? ⟨s7, 3, none⟩ = some (.int .i64 ((pKernelNew x0 x1 x2).1.Calls)) := cell_of_block HX_w0.out 3
  have hc80 : w69.cell? ⟨s7, 4, none⟩ = some (.slice Ak6_4 nk6_4 pk6_4) := cell_of_block HX_w0.out 4
  go_wp2_with fail
  rw [HWE_w69.out]
  clear HWE_w69 HXP_w0 HXP_g0
  refine (h_eqKernel (pKernelNew x0 x1 x2).1 (.slice Ak67_0 nk67_0 pk67_0) (.slice Ak67_1 nk67_1 pk67_1) (.slice Ak67_2 nk67_2 pk67_2) (.slice Ak67_4 nk67_4 pk67_4) (.slice Ak6_0 nk6_0 pk6_0) (.slice Ak6_1 nk6_1 pk6_1) (.slice Ak6_2 nk6_2 pk6_2) (.slice Ak6_4 nk6_4 pk6_4) w69 HM_h0.out.rd HM_w0.out.rd (by omega)).mono ?_
  rintro e w81 ⟨rfl, hb_⟩
  have HX_w0' := Lib.hid ((hb_.block s7 (by omega)).trans HX_w0.out)
  clear HX_w0
  have HX_w0 := HX_w0'
  clear HX_w0'
  have HX_g0' := Lib.hid ((hb_.block s15 (by omega)).trans HX_g0.out)
  clear HX_g0
  have HX_g0 := HX_g0'
  clear HX_g0'
  have HX_h0' := Lib.hid ((hb_.block s68 (by omega)).trans HX_h0.out)
  clear HX_h0
  have HX_h0 := HX_h0'
  clear HX_h0'
  have HM_t1' := Lib.hid (HM_t1.out.below hb_)
  clear HM_t1
  have HM_t1 := HM_t1'
  clear HM_t1'
  have HM_w0' := Lib.hid (HM_w0.out.below hb_)
  clear HM_w0
  have HM_w0 := HM_w0'
  clear HM_w0'
  have HM_x2' := Lib.hid (HM_x2.out.below hb_)
  clear HM_x2
  have HM_x2 := HM_x2'
  clear HM_x2'
  have HM_g0' := Lib.hid (HM_g0.out.below hb_)
  clear HM_g0
  have HM_g0 := HM_g0'
  clear HM_g0'
  have HM_t62' := Lib.hid (HM_t62.out.below hb_)
  clear HM_t62
  have HM_t62 := HM_t62'
  clear HM_t62'
  have HM_h0' := Lib.hid (HM_h0.out.below hb_)
  clear HM_h0
  have HM_h0 := HM_h0'
  clear HM_h0'
  have HBL' := Lib.hid (below_step HBL.out hb_)
  clear HBL
  have HBL := HBL'
  clear HBL'
  obtain ⟨s82, hs82⟩ : ∃ s, w81.heap.size = s := ⟨_, rfl⟩
  have hls82 : s70 ≤ s82 := by have := hb_.size; omega
  clear hb_
  have hc83 : w81.cell? ⟨s15, 0, none⟩ = some (.slice Ak14_0 nk14_0 pk14_0) := cell_of_block HX_g0.out 0
  have hc84 : w81.cell? ⟨s15, 1, none⟩ = some (.slice Ak14_1 nk14_1 pk14_1) := cell_of_block HX_g0.out 1
  have hc85 : w81.cell? ⟨s15, 2, none⟩ = some (.slice Ak14_2 nk14_2 pk14_2) := cell_of_block HX_g0.out 2
  have hc86 : w81.cell? ⟨s15, 3, none⟩ = some (.int .i64 ((pKernelNew x0 x1 x2).1.Calls)) := cell_of_block HX_g0.out 3
  have hc87 : w81.cell? ⟨s15, 4, none⟩ = some (.slice Ak14_4 nk14_4 pk14_4) := cell_of_block HX_g0.out 4
  go_wp2_with fail
  have hcb := cntb_Kernel (pKernelNew x0 x1 x2).1
  have hct := cntTop_le (eKernel (pKernelNew x0 x1 x2).1)
  refine (h_heldKernel (pKernelNew x0 x1 x2).1 (.slice Ak14_0 nk14_0 pk14_0) (.slice Ak14_1 nk14_1 pk14_1) (.slice Ak14_2 nk14_2 pk14_2) (.slice Ak14_4 nk14_4 pk14_4) 1 w81 HM_g0.out.rd (by omega) (by omega)).mono ?_
  rintro e w88 ⟨rfl, hb_⟩
  rw [HKk53.out]
  clear hcb hct
  have HX_w0' := Lib.hid ((hb_.block s7 (by omega)).trans HX_w0.out)
  clear HX_w0
  have HX_w0 := HX_w0'
  clear HX_w0'
  have HX_g0' := Lib.hid ((hb_.block s15 (by omega)).trans HX_g0.out)
  clear HX_g0
  have HX_g0 := HX_g0'
  clear HX_g0'
  have HX_h0' := Lib.hid ((hb_.block s68 (by omega)).trans HX_h0.out)
  clear HX_h0
  have HX_h0 := HX_h0'
  clear HX_h0'
  have HM_t1' := Lib.hid (HM_t1.out.below hb_)
  clear HM_t1
  have HM_t1 := HM_t1'
  clear HM_t1'
  have HM_w0' := Lib.hid (HM_w0.out.below hb_)
  clear HM_w0
  have HM_w0 := HM_w0'
  clear HM_w0'
  have HM_x2' := Lib.hid (HM_x2.out.below hb_)
  clear HM_x2
  have HM_x2 := HM_x2'
  clear HM_x2'
  have HM_g0' := Lib.hid (HM_g0.out.below hb_)
  clear HM_g0
  have HM_g0 := HM_g0'
  clear HM_g0'
  have HM_t62' := Lib.hid (HM_t62.out.below hb_)
  clear HM_t62
  have HM_t62 := HM_t62'
  clear HM_t62'
  have HM_h0' := Lib.hid (HM_h0.out.below hb_)
  clear HM_h0
  have HM_h0 := HM_h0'
  clear HM_h0'
  have HBL' := Lib.hid (below_step HBL.out hb_)
  clear HBL
  have HBL := HBL'
  clear HBL'
  obtain ⟨s89, hs89⟩ : ∃ s, w88.heap.size = s := ⟨_, rfl⟩
  have hls89 : s82 ≤ s89 := by have := hb_.size; omega
  clear hb_
  go_wp2
  go_ret
  exact ⟨rfl, HBL.out⟩
set_option maxRecDepth 100000 in
theorem lifted (os : Os) (started : os.Started) (H : Type) (enc : TypeId × Value → H) :
    ReturnsInHanded {} Try.checked os 6 .any (Rows.fnExactKernelNewSpec.pre6 enc Try.prog Try.f6 Rows.fnExactKernelNewRow.domain false) (Rows.fnExactKernelNewSpec.post enc Try.prog Try.f6 false true false false) := by
  refine returnsInHanded_of_change (C := Try.checked) own started (by kernel_rfl) Try.func6
    (ChangeSpec.witness6 (enc := enc) (C := Try.checked) false ⟨#[], #[.int .i64 0, .int .i64 0, .slice none 0 0], []⟩ 8 (by kernel_rfl) (by kernel_rfl) (by kernel_rfl) (by kernel_rfl)) ?_
  intro W base args ds gs before hval0 hW hcnd _
  have hval : ∀ (j : Nat) t v, Try.f6.params[j]? = some t → args[j]? = some v → Value.okWide Try.prog W .any base t v := hval0
  have hW' := hW
  obtain ⟨p, q, hA0, hV, rfl, hfz, hnd⟩ := hW
  have hA : DataW.TrodAll enc Try.prog W 0 (fun _ => true) true Try.f6.params.toList args.toList ds p := hA0
  rw [Try.params6] at hA hval
  obtain ⟨v0, vs0, d0, ds0, p0, q0, hargs, rfl, rfl, h0, r0⟩ := trodAll_cons hA
  obtain ⟨v1, vs1, d1, ds1, p1, q1, rfl, rfl, rfl, h1, r1⟩ := trodAll_cons r0
  obtain ⟨v2, vs2, d2, ds2, p2, q2, rfl, rfl, rfl, h2, r2⟩ := trodAll_cons r1
  obtain ⟨rfl, rfl, rfl⟩ := trodAll_nil r2
  obtain rfl : args = #[v0, v1, v2] := by cases args; simp_all
  obtain ⟨rfl, rfl⟩ := trodVars_none hV
  obtain ⟨a0, rfl, rfl, rfl, w0⟩ := open_int Try.underlying3 (hval 0 3 v0 rfl rfl) h0
  obtain ⟨a1, rfl, rfl, rfl, w1⟩ := open_int Try.underlying3 (hval 1 3 v1 rfl rfl) h1
  have k2 := h2
  have lt2 : ∀ x ∈ p2, x.block < W.heap.size := by obtain ⟨m, hm⟩ := k2; exact DataW.trod_lt m _ _ _ hm
  obtain ⟨x2, raw2, ok2⟩ := opens_trod opens_IntS h2
  obtain ⟨c2_0, len2, cap2, rfl⟩ := okWide_slice Try.underlying33 (hval 2 33 v2 rfl rfl)
  have raw2 : Raw W (eIntS x2) [.slice c2_0 len2 cap2] := raw2
  clear hA0 hval0
  refine (walk a0 a1 x2 (.slice c2_0 len2 cap2) W (okI_wf w0) (okI_wf w1) raw2 ok2).mono fun e W' ⟨he, bel⟩ => ?_
  subst he
  exact ⟨_, rfl, _, _, _, [], _, [], hW', trodAll_mk1 (shut_bool Try.underlying4 _), (trodAll_cons_mk (shut_int Try.underlying3 w0) (trodAll_cons_mk (shut_int Try.underlying3 w1) (trodAll_cons_mk (Below.trod laidOut (by kernel_rfl) (of_decide_eq_true (by kernel_rfl)) k2 bel lt2) trodAll_mk0))), rfl, bel.frame _, fun h => by cases h⟩
theorem over : Rows.fnExactKernelNewRow.holds Try.pinned (OpenSpec.ofChange Rows.fnExactKernelNewSpec) :=
  OpenClaim.holds_of_wide 6 Try.f6 rfl rfl rfl rfl rfl rfl rfl ⟨rfl, rfl, rfl, rfl, rfl⟩ rfl rfl rfl rfl rfl (by kernel_rfl) Try.func6 (by kernel_rfl)
    (of_decide_eq_true (by kernel_rfl)) (by unfold Func.isWrapper; first | (rw [if_pos (by decide +kernel)]; kernel_rfl) | (rw [if_neg (by decide +kernel)]; exact ⟨rfl, rfl⟩))
    (fun os started H enc _ => lifted os started H enc)
theorem proved : Rows.FnExactKernelNewSaid := over
#print axioms proved
end Go.Proofs.Ytcdmijnlpapjaaa.fnExactKernelNew

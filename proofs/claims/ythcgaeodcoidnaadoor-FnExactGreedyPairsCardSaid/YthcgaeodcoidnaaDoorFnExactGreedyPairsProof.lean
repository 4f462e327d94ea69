/- Called with any arguments, the law FnExactGreedyPairs returns true and each argument reads afterwards as before. The listed package-level variables hold what the program's text lays. -/
import Derived.Test.YthcgaeodcoidnaaDoorRows
import Derived.Test.YthcgaeodcoidnaaDoorCards
import Derived.Test.YthcgaeodcoidnaaDoorTie
import Derived.Test.YthcgaeodcoidnaaDoorLaid
import Derived.Deep.DeepHandedRow
import Derived.Deep.DeepWitnessRowRef
import Derived.Lib.LaidTab
import Derived.OpenVars
import Derived.Test.YthcgaeodcoidnaaDoorEI11n
import Derived.Test.YthcgaeodcoidnaaDoorTo
import Derived.Test.YthcgaeodcoidnaaDoorEq
import Derived.Test.YthcgaeodcoidnaaDoorSz
import Derived.Test.YthcgaeodcoidnaaDoorMark
import Derived.Test.YthcgaeodcoidnaaDoorHeld
import Derived.Test.YthcgaeodcoidnaaDoorIn
import Derived.WalkKit
import Derived.ProofKit
import Derived.OpenShut
import Derived.ShutString
import Derived.ChangeOld
import Derived.Below
import Derived.Carry
import Derived.Deep.RegionHeld3
namespace Go.Proofs.YthcgaeodcoidnaaDoor.fnExactGreedyPairs
open Go.ChangeShapes Go.WideShapes Go.ChangeAt Go.RowKit Go.Proofs.YthcgaeodcoidnaaDoor.Tr
set_option linter.unusedVariables false
theorem own : ownKnob Tryd.prog.godebug = none := by kernel_rfl
theorem laidOut : laidOutB Tryd.prog = true := by kernel_rfl
set_option maxRecDepth 100000 in
set_option maxHeartbeats 1000000 in
theorem walk (x0 : List GSpan) (c0_0 : Value) (w : World) (r0 : Raw w (eSpanS x0) [c0_0]) (hw0 : okSpanS x0) (hT : Laid.LSlotMasksClassSizes w) :
    Calls Tryd.prog 8 #[(c0_0)] w fun e w' => e = .returned (.bool true) ∧ Below w.heap.size w w' := by
  have HO : Hid True := trivial
  have HT_ := Lib.hid hT
  clear hT
  have HR0 := Lib.hid r0
  clear r0
  obtain ⟨s0, hs0⟩ : ∃ s, w.heap.size = s := ⟨_, rfl⟩
  have HBL : Hid (Below w.heap.size w w) := Below.refl _ _
  go_enter Tryd.func8, Tryd.ntmps8
  go_wp2_with fail
  refine (h_szSpanS x0 c0_0 1048576 w (raw_below HBL.out _ HR0.out) (by omega)).mono ?_
  rintro e w1 ⟨hcase, hb_⟩
  have HBL' := Lib.hid (below_step HBL.out hb_)
  clear HBL
  have HBL := HBL'
  clear HBL'
  obtain ⟨s3, hs3⟩ : ∃ s, w1.heap.size = s := ⟨_, rfl⟩
  have hls3 : s0 ≤ s3 := by have := hb_.size; omega
  clear hb_
  rcases hcase with ⟨q2, hq2, rfl⟩ | ⟨_, rfl⟩
  rotate_left
  · go_wp2
    go_ret
    exact ⟨rfl, HBL.out⟩
  have hsz0 : (eSpanS x0).sz ≤ 1048576 := by omega
  go_wp2_with fail
  refine (h_toSpanS x0 c0_0 w1 (raw_below HBL.out _ HR0.out) (by omega)).mono ?_
  rintro e w5 ⟨u_, rfl, hm_, hb_⟩
  have hsh_ := hm_
  obtain ⟨bs_, hsh_, _⟩ := hsh_
  obtain ⟨Ak6, nk6, pk6, rfl⟩ := own_slice hsh_
  clear hsh_
  rw [hs3] at hm_
  have HBL' := Lib.hid (below_step HBL.out hb_)
  clear HBL
  have HBL := HBL'
  clear HBL'
  obtain ⟨s7, hs7⟩ : ∃ s, w5.heap.size = s := ⟨_, rfl⟩
  have hls7 : s3 ≤ s7 := by have := hb_.size; omega
  have HM_t4 := Lib.hid (hm_.toIn (Nat.le_of_eq hs7))
  clear hm_ hb_
  go_wp2_with fail
  refine (spec_GreedyPairs x0 (.slice Ak6 nk6 pk6) w5 HM_t4.out.rd hsz0).mono ?_
  rintro e w8 ⟨u_, rfl, hm_, hb_⟩
  have hsh_ := hm_
  obtain ⟨bs_, hsh_, _⟩ := hsh_
  obtain ⟨Ak9, nk9, pk9, rfl⟩ := own_slice1 hsh_
  clear hsh_
  rw [hs7] at hm_
  have HM_t4' := Lib.hid (HM_t4.out.below hb_)
  clear HM_t4
  have HM_t4 := HM_t4'
  clear HM_t4'
  have HBL' := Lib.hid (below_step HBL.out hb_)
  clear HBL
  have HBL := HBL'
  clear HBL'
  obtain ⟨s10, hs10⟩ : ∃ s, w8.heap.size = s := ⟨_, rfl⟩
  have hls10 : s7 ≤ s10 := by have := hb_.size; omega
  have HM_w0 := Lib.hid (hm_.toIn (Nat.le_of_eq hs10))
  clear hm_ hb_
  simp only [List.headD_cons]
  have hsr : (ePairS (pGreedyPairs x0)).sz ≤ 50000000 := bound_GreedyPairs x0 hsz0
  go_wp2_with fail
  refine (h_toSpanS x0 c0_0 w8 (raw_below HBL.out _ HR0.out) (by omega)).mono ?_
  rintro e w11 ⟨u_, rfl, hm_, hb_⟩
  have hsh_ := hm_
  obtain ⟨bs_, hsh_, _⟩ := hsh_
  obtain ⟨Ak12, nk12, pk12, rfl⟩ := own_slice hsh_
  clear hsh_
  rw [hs10] at hm_
  have HM_t4' := Lib.hid (HM_t4.out.below hb_)
  clear HM_t4
  have HM_t4 := HM_t4'
  clear HM_t4'
  have HM_w0' := Lib.hid (HM_w0.out.below hb_)
  clear HM_w0
  have HM_w0 := HM_w0'
  clear HM_w0'
  have HBL' := Lib.hid (below_step HBL.out hb_)
  clear HBL
  have HBL := HBL'
  clear HBL'
  obtain ⟨s13, hs13⟩ : ∃ s, w11.heap.size = s := ⟨_, rfl⟩
  have hls13 : s10 ≤ s13 := by have := hb_.size; omega
  have HM_x0 := Lib.hid (hm_.toIn (Nat.le_of_eq hs13))
  clear hm_ hb_
  go_wp2_with fail
  refine (impl_GreedyPairs x0 (.slice Ak12 nk12 pk12) w11 HM_x0.out.rd hsz0 (HT_.out.below HBL.out).slotMasks (HT_.out.below HBL.out).classSizes).mono ?_
  rintro e w14 ⟨u_, rfl, hm_, hb_⟩
  have hsh_ := hm_
  obtain ⟨bs_, hsh_, _⟩ := hsh_
  obtain ⟨Ak15, nk15, pk15, rfl⟩ := own_slice1 hsh_
  clear hsh_
  rw [hs13] at hm_
  have HM_t4' := Lib.hid (HM_t4.out.below hb_)
  clear HM_t4
  have HM_t4 := HM_t4'
  clear HM_t4'
  have HM_w0' := Lib.hid (HM_w0.out.below hb_)
  clear HM_w0
  have HM_w0 := HM_w0'
  clear HM_w0'
  have HM_x0' := Lib.hid (HM_x0.out.below hb_)
  clear HM_x0
  have HM_x0 := HM_x0'
  clear HM_x0'
  have HBL' := Lib.hid (below_step HBL.out hb_)
  clear HBL
  have HBL := HBL'
  clear HBL'
  obtain ⟨s16, hs16⟩ : ∃ s, w14.heap.size = s := ⟨_, rfl⟩
  have hls16 : s13 ≤ s16 := by have := hb_.size; omega
  have HM_g0 := Lib.hid (hm_.toIn (Nat.le_of_eq hs16))
  clear hm_ hb_
  simp only [List.headD_cons]
  go_wp2_with fail
  refine (h_eqPairS (pGreedyPairs x0) (.slice Ak15 nk15 pk15) (.slice Ak9 nk9 pk9) w14 HM_g0.out.rd HM_w0.out.rd (by omega)).mono ?_
  rintro e w17 ⟨rfl, hb_⟩
  have HM_t4' := Lib.hid (HM_t4.out.below hb_)
  clear HM_t4
  have HM_t4 := HM_t4'
  clear HM_t4'
  have HM_w0' := Lib.hid (HM_w0.out.below hb_)
  clear HM_w0
  have HM_w0 := HM_w0'
  clear HM_w0'
  have HM_x0' := Lib.hid (HM_x0.out.below hb_)
  clear HM_x0
  have HM_x0 := HM_x0'
  clear HM_x0'
  have HM_g0' := Lib.hid (HM_g0.out.below hb_)
  clear HM_g0
  have HM_g0 := HM_g0'
  clear HM_g0'
  have HBL' := Lib.hid (below_step HBL.out hb_)
  clear HBL
  have HBL := HBL'
  clear HBL'
  obtain ⟨s18, hs18⟩ : ∃ s, w17.heap.size = s := ⟨_, rfl⟩
  have hls18 : s16 ≤ s18 := by have := hb_.size; omega
  clear hb_
  go_wp2_with fail
  have HT : Hid (∀ w', Below w17.heap.size w17 w' → Calls Tryd.prog 21 #[(c0_0)] w' (fun e w'' => ∃ (A_0 : Option Addr) (n_0 p_0 : Nat), e = .returned (.slice A_0 n_0 p_0) ∧ Rd w'' (eSpanS x0) [.slice A_0 n_0 p_0] ∧ Below w17.heap.size w17 w'')) := fun w' hb => (h_toSpanS x0 c0_0 w' (raw_below (below_step HBL.out hb) _ HR0.out) (by omega)).mono (by
    rintro e w'' ⟨u_, rfl, hm_, hb_⟩
    have hsh_ := hm_
    obtain ⟨bs_, hsh_, _⟩ := hsh_
    obtain ⟨A_0, n_0, p_0, rfl⟩ := own_slice hsh_
    exact ⟨A_0, n_0, p_0, rfl, hm_.rd, below_step hb hb_⟩)
  have HE : Hid (∀ w' (A_0 : Option Addr) (n_0 p_0 : Nat), Below w17.heap.size w17 w' → Rd w' (eSpanS x0) [.slice A_0 n_0 p_0] → Calls Tryd.prog 23 #[(.slice Ak12 nk12 pk12), (.slice A_0 n_0 p_0)] w' (fun e w'' => e = .returned (.bool true) ∧ Below w17.heap.size w17 w'')) := fun w' A_0 n_0 p_0 hb hr => (h_eqSpanS x0 (.slice Ak12 nk12 pk12) (.slice A_0 n_0 p_0) w' (HM_x0.out.rd.below hb) hr (by omega)).mono (fun _ _ h => ⟨h.1, below_step hb h.2⟩)
  have hrf_ : Below w17.heap.size w17 w17.drew := (Below.refl _ _).drew
  have HK : Hid (∀ w', Below w17.heap.size w17 w' → Below w17.heap.size w17 w') := fun w' hb => hb
  refine (HT.out _ (Below.refl _ _)).mono ?_
  rintro e wt_ ⟨A_0, n_0, p_0, rfl, hrt_, hbt_⟩
  go_wp2_with fail
  refine (HE.out _ _ _ _ (by first | exact hbt_ | assumption) (by first | exact hrt_ | assumption)).mono ?_
  rintro e we_ ⟨rfl, hbe_⟩
  obtain ⟨w19, hn_⟩ : ∃ z, we_ = z := ⟨_, rfl⟩
  rw [hn_] at hbe_
  rw [hn_]
  have HM_t4' := Lib.hid (HM_t4.out.below hbe_)
  clear HM_t4
  have HM_t4 := HM_t4'
  clear HM_t4'
  have HM_w0' := Lib.hid (HM_w0.out.below hbe_)
  clear HM_w0
  have HM_w0 := HM_w0'
  clear HM_w0'
  have HM_x0' := Lib.hid (HM_x0.out.below hbe_)
  clear HM_x0
  have HM_x0 := HM_x0'
  clear HM_x0'
  have HM_g0' := Lib.hid (HM_g0.out.below hbe_)
  clear HM_g0
  have HM_g0 := HM_g0'
  clear HM_g0'
  have HBL' := Lib.hid (below_step HBL.out hbe_)
  clear HBL
  have HBL := HBL'
  clear HBL'
  obtain ⟨s20, hs20⟩ : ∃ s, w19.heap.size = s := ⟨_, rfl⟩
  have hls20 : s18 ≤ s20 := by have := hbe_.size; omega
  clear hbe_ hbt_ HT HE HK hrf_ hn_ hrt_
  go_wp2_with fail
  have hcb := cntb_SpanS (x0)
  have hct := cntTop_le (eSpanS x0)
  refine (mark_in HM_x0.out (fun bs_ ho_ hn_ => h_markSpanS (x0) _ _ _ bs_ 1 w19 ho_ hn_ (by omega) (by omega))).mono ?_
  rintro e w21 ⟨rfl, hm_, ht_⟩
  obtain ⟨k22, hkk22⟩ : ∃ q : Nat, 1 + (eSpanS x0).cntTop = q := ⟨_, rfl⟩
  rw [hkk22]
  have HKk22 := Lib.hid hkk22
  clear hcb hct hkk22 
  have HM_t4' := Lib.hid (HM_t4.out.turn ht_ (by omega))
  clear HM_t4
  have HM_t4 := HM_t4'
  clear HM_t4'
  have HM_w0' := Lib.hid (HM_w0.out.turn ht_ (by omega))
  clear HM_w0
  have HM_w0 := HM_w0'
  clear HM_w0'
  have HM_g0' := Lib.hid (HM_g0.out.turn ht_ (by omega))
  clear HM_g0
  have HM_g0 := HM_g0'
  clear HM_g0'
  clear HM_x0
  have HM_x0 := Lib.hid hm_
  have HBL' := Lib.hid (HBL.out.trans (ht_.below (B := w.heap.size) (by omega) (by omega)))
  clear HBL
  have HBL := HBL'
  clear HBL'
  obtain ⟨s23, hs23⟩ : ∃ s, w21.heap.size = s := ⟨_, rfl⟩
  have hls23 : s20 ≤ s23 := by have := ht_.size; omega
  clear hm_ ht_
  go_wp2_with fail
  refine (h_eqPairS (pGreedyPairs x0) (.slice Ak15 nk15 pk15) (.slice Ak9 nk9 pk9) w21 HM_g0.out.rd HM_w0.out.rd (by omega)).mono ?_
  rintro e w24 ⟨rfl, hb_⟩
  have HM_t4' := Lib.hid (HM_t4.out.below hb_)
  clear HM_t4
  have HM_t4 := HM_t4'
  clear HM_t4'
  have HM_w0' := Lib.hid (HM_w0.out.below hb_)
  clear HM_w0
  have HM_w0 := HM_w0'
  clear HM_w0'
  have HM_x0' := Lib.hid (HM_x0.out.below hb_)
  clear HM_x0
  have HM_x0 := HM_x0'
  clear HM_x0'
  have HM_g0' := Lib.hid (HM_g0.out.below hb_)
  clear HM_g0
  have HM_g0 := HM_g0'
  clear HM_g0'
  have HBL' := Lib.hid (below_step HBL.out hb_)
  clear HBL
  have HBL := HBL'
  clear HBL'
  obtain ⟨s25, hs25⟩ : ∃ s, w24.heap.size = s := ⟨_, rfl⟩
  have hls25 : s23 ≤ s25 := by have := hb_.size; omega
  clear hb_
  go_wp2_with fail
  have hcb := cntb_PairS (pGreedyPairs x0)
  have hct := cntTop_le (ePairS (pGreedyPairs x0))
  refine (mark_in HM_g0.out (fun bs_ ho_ hn_ => h_markPairS (pGreedyPairs x0) _ _ _ bs_ 1 w24 ho_ hn_ (by omega) (by omega))).mono ?_
  rintro e w26 ⟨rfl, hm_, ht_⟩
  obtain ⟨k27, hkk27⟩ : ∃ q : Nat, 1 + (ePairS (pGreedyPairs x0)).cntTop = q := ⟨_, rfl⟩
  rw [hkk27]
  have HKk27 := Lib.hid hkk27
  clear hcb hct hkk27 
  have HM_t4' := Lib.hid (HM_t4.out.turn ht_ (by omega))
  clear HM_t4
  have HM_t4 := HM_t4'
  clear HM_t4'
  have HM_w0' := Lib.hid (HM_w0.out.turn ht_ (by omega))
  clear HM_w0
  have HM_w0 := HM_w0'
  clear HM_w0'
  have HM_x0' := Lib.hid (HM_x0.out.turn ht_ (by omega))
  clear HM_x0
  have HM_x0 := HM_x0'
  clear HM_x0'
  clear HM_g0
  have HM_g0 := Lib.hid hm_
  have HBL' := Lib.hid (HBL.out.trans (ht_.below (B := w.heap.size) (by omega) (by omega)))
  clear HBL
  have HBL := HBL'
  clear HBL'
  obtain ⟨s28, hs28⟩ : ∃ s, w26.heap.size = s := ⟨_, rfl⟩
  have hls28 : s25 ≤ s28 := by have := ht_.size; omega
  clear hm_ ht_
  go_wp2_with fail
  have hcb := cntb_PairS (pGreedyPairs x0)
  have hct := cntTop_le (ePairS (pGreedyPairs x0))
  refine (h_heldPairS (pGreedyPairs x0) (.slice Ak15 nk15 pk15) 1 w26 HM_g0.out.rd (by omega) (by omega)).mono ?_
  rintro e w29 ⟨rfl, hb_⟩
  rw [HKk27.out]
  clear hcb hct
  have HM_t4' := Lib.hid (HM_t4.out.below hb_)
  clear HM_t4
  have HM_t4 := HM_t4'
  clear HM_t4'
  have HM_w0' := Lib.hid (HM_w0.out.below hb_)
  clear HM_w0
  have HM_w0 := HM_w0'
  clear HM_w0'
  have HM_x0' := Lib.hid (HM_x0.out.below hb_)
  clear HM_x0
  have HM_x0 := HM_x0'
  clear HM_x0'
  have HM_g0' := Lib.hid (HM_g0.out.below hb_)
  clear HM_g0
  have HM_g0 := HM_g0'
  clear HM_g0'
  have HBL' := Lib.hid (below_step HBL.out hb_)
  clear HBL
  have HBL := HBL'
  clear HBL'
  obtain ⟨s30, hs30⟩ : ∃ s, w29.heap.size = s := ⟨_, rfl⟩
  have hls30 : s28 ≤ s30 := by have := hb_.size; omega
  clear hb_
  go_wp2_with fail
  refine (h_toSpanS x0 c0_0 w29 (raw_below HBL.out _ HR0.out) (by omega)).mono ?_
  rintro e w32 ⟨u_, rfl, hm_, hb_⟩
  have hsh_ := hm_
  obtain ⟨bs_, hsh_, _⟩ := hsh_
  obtain ⟨Ak33, nk33, pk33, rfl⟩ := own_slice hsh_
  clear hsh_
  rw [hs30] at hm_
  have HM_t4' := Lib.hid (HM_t4.out.below hb_)
  clear HM_t4
  have HM_t4 := HM_t4'
  clear HM_t4'
  have HM_w0' := Lib.hid (HM_w0.out.below hb_)
  clear HM_w0
  have HM_w0 := HM_w0'
  clear HM_w0'
  have HM_x0' := Lib.hid (HM_x0.out.below hb_)
  clear HM_x0
  have HM_x0 := HM_x0'
  clear HM_x0'
  have HM_g0' := Lib.hid (HM_g0.out.below hb_)
  clear HM_g0
  have HM_g0 := HM_g0'
  clear HM_g0'
  have HBL' := Lib.hid (below_step HBL.out hb_)
  clear HBL
  have HBL := HBL'
  clear HBL'
  obtain ⟨s34, hs34⟩ : ∃ s, w32.heap.size = s := ⟨_, rfl⟩
  have hls34 : s30 ≤ s34 := by have := hb_.size; omega
  have HM_t31 := Lib.hid (hm_.toIn (Nat.le_of_eq hs34))
  clear hm_ hb_
  go_wp2_with fail
  refine (impl_GreedyPairs x0 (.slice Ak33 nk33 pk33) w32 HM_t31.out.rd hsz0 (HT_.out.below HBL.out).slotMasks (HT_.out.below HBL.out).classSizes).mono ?_
  rintro e w35 ⟨u_, rfl, hm_, hb_⟩
  have hsh_ := hm_
  obtain ⟨bs_, hsh_, _⟩ := hsh_
  obtain ⟨Ak36, nk36, pk36, rfl⟩ := own_slice1 hsh_
  clear hsh_
  rw [hs34] at hm_
  have HM_t4' := Lib.hid (HM_t4.out.below hb_)
  clear HM_t4
  have HM_t4 := HM_t4'
  clear HM_t4'
  have HM_w0' := Lib.hid (HM_w0.out.below hb_)
  clear HM_w0
  have HM_w0 := HM_w0'
  clear HM_w0'
  have HM_x0' := Lib.hid (HM_x0.out.below hb_)
  clear HM_x0
  have HM_x0 := HM_x0'
  clear HM_x0'
  have HM_g0' := Lib.hid (HM_g0.out.below hb_)
  clear HM_g0
  have HM_g0 := HM_g0'
  clear HM_g0'
  have HM_t31' := Lib.hid (HM_t31.out.below hb_)
  clear HM_t31
  have HM_t31 := HM_t31'
  clear HM_t31'
  have HBL' := Lib.hid (below_step HBL.out hb_)
  clear HBL
  have HBL := HBL'
  clear HBL'
  obtain ⟨s37, hs37⟩ : ∃ s, w35.heap.size = s := ⟨_, rfl⟩
  have hls37 : s34 ≤ s37 := by have := hb_.size; omega
  have HM_h0 := Lib.hid (hm_.toIn (Nat.le_of_eq hs37))
  clear hm_ hb_
  simp only [List.headD_cons]
  go_wp2_with fail
  refine (h_eqPairS (pGreedyPairs x0) (.slice Ak36 nk36 pk36) (.slice Ak9 nk9 pk9) w35 HM_h0.out.rd HM_w0.out.rd (by omega)).mono ?_
  rintro e w38 ⟨rfl, hb_⟩
  have HM_t4' := Lib.hid (HM_t4.out.below hb_)
  clear HM_t4
  have HM_t4 := HM_t4'
  clear HM_t4'
  have HM_w0' := Lib.hid (HM_w0.out.below hb_)
  clear HM_w0
  have HM_w0 := HM_w0'
  clear HM_w0'
  have HM_x0' := Lib.hid (HM_x0.out.below hb_)
  clear HM_x0
  have HM_x0 := HM_x0'
  clear HM_x0'
  have HM_g0' := Lib.hid (HM_g0.out.below hb_)
  clear HM_g0
  have HM_g0 := HM_g0'
  clear HM_g0'
  have HM_t31' := Lib.hid (HM_t31.out.below hb_)
  clear HM_t31
  have HM_t31 := HM_t31'
  clear HM_t31'
  have HM_h0' := Lib.hid (HM_h0.out.below hb_)
  clear HM_h0
  have HM_h0 := HM_h0'
  clear HM_h0'
  have HBL' := Lib.hid (below_step HBL.out hb_)
  clear HBL
  have HBL := HBL'
  clear HBL'
  obtain ⟨s39, hs39⟩ : ∃ s, w38.heap.size = s := ⟨_, rfl⟩
  have hls39 : s37 ≤ s39 := by have := hb_.size; omega
  clear hb_
  go_wp2_with fail
  have hcb := cntb_PairS (pGreedyPairs x0)
  have hct := cntTop_le (ePairS (pGreedyPairs x0))
  refine (h_heldPairS (pGreedyPairs x0) (.slice Ak15 nk15 pk15) 1 w38 HM_g0.out.rd (by omega) (by omega)).mono ?_
  rintro e w40 ⟨rfl, hb_⟩
  rw [HKk27.out]
  clear hcb hct
  have HM_t4' := Lib.hid (HM_t4.out.below hb_)
  clear HM_t4
  have HM_t4 := HM_t4'
  clear HM_t4'
  have HM_w0' := Lib.hid (HM_w0.out.below hb_)
  clear HM_w0
  have HM_w0 := HM_w0'
  clear HM_w0'
  have HM_x0' := Lib.hid (HM_x0.out.below hb_)
  clear HM_x0
  have HM_x0 := HM_x0'
  clear HM_x0'
  have HM_g0' := Lib.hid (HM_g0.out.below hb_)
  clear HM_g0
  have HM_g0 := HM_g0'
  clear HM_g0'
  have HM_t31' := Lib.hid (HM_t31.out.below hb_)
  clear HM_t31
  have HM_t31 := HM_t31'
  clear HM_t31'
  have HM_h0' := Lib.hid (HM_h0.out.below hb_)
  clear HM_h0
  have HM_h0 := HM_h0'
  clear HM_h0'
  have HBL' := Lib.hid (below_step HBL.out hb_)
  clear HBL
  have HBL := HBL'
  clear HBL'
  obtain ⟨s41, hs41⟩ : ∃ s, w40.heap.size = s := ⟨_, rfl⟩
  have hls41 : s39 ≤ s41 := by have := hb_.size; omega
  clear hb_
  go_wp2
  go_ret
  exact ⟨rfl, HBL.out⟩
set_option maxRecDepth 100000 in
theorem contract (H : Type) (enc : TypeId × Value → H) (W : World) (base : Nat) (args : Array Value) (ds gs : List (DataW H)) (before : List MemPlace)
    (hval0 : ∀ (j : Nat) t v, Tryd.f8.params[j]? = some t → args[j]? = some v → Value.okWide Tryd.prog W .any base t v)
    (hW : DataW.Whole enc Tryd.prog Tryd.f8.params.toList Rows.fnExactGreedyPairsSpec.vars false W args.toList ds gs before) (hT : Laid.LSlotMasksClassSizes W) :
    Calls Tryd.prog 8 args W fun e W' => ∃ v, e = .returned v ∧ Rows.fnExactGreedyPairsSpec.post enc Tryd.prog Tryd.f8 false true false false W args v W' := by
  have hval : ∀ (j : Nat) t v, Tryd.f8.params[j]? = some t → args[j]? = some v → Value.okWide Tryd.prog W .any base t v := hval0
  have hW' := hW
  obtain ⟨p, q, hA0, hV, rfl, hfz, hnd⟩ := hW
  have hA : DataW.TrodAll enc Tryd.prog W 0 (fun _ => true) true Tryd.f8.params.toList args.toList ds p := hA0
  rw [Tryd.params8] at hA hval
  obtain ⟨v0, vs0, d0, ds0, p0, q0, hargs, rfl, rfl, h0, r0⟩ := trodAll_cons hA
  obtain ⟨rfl, rfl, rfl⟩ := trodAll_nil r0
  obtain rfl : args = #[v0] := by cases args; simp_all
  obtain ⟨g0, g1, rfl⟩ := Laid.vars2 hV
  have k0 := h0
  have lt0 : ∀ x ∈ p0, x.block < W.heap.size := by obtain ⟨m, hm⟩ := k0; exact DataW.trod_lt m _ _ _ hm
  obtain ⟨x0, raw0, ok0⟩ := opens_trod opens_SpanS h0
  obtain ⟨c0_0, len0, cap0, rfl⟩ := okWide_slice Tryd.underlying39 (hval 0 39 v0 rfl rfl)
  have raw0 : Raw W (eSpanS x0) [.slice c0_0 len0 cap0] := raw0
  clear hA0 hval0
  refine (walk x0 (.slice c0_0 len0 cap0) W raw0 ok0 hT).mono fun e W' ⟨he, bel⟩ => ?_
  subst he
  exact ⟨_, rfl, _, _, _, [], _, q, hW', trodAll_mk1 (shut_bool Tryd.underlying4 _), (trodAll_cons_mk (Below.trod laidOut (by kernel_rfl) (of_decide_eq_true (by kernel_rfl)) k0 bel lt0) trodAll_mk0), bel.trodVars laidOut (by kernel_rfl) hV, bel.frame _, fun h => by cases h⟩
theorem laid_met (os : Os) : laidMet Tryd.prog Rows.fnExactGreedyPairsRow.laid ((Laid.world os).forCall (fun _ _ => 0) ⟨#[], #[.slice none 0 0], []⟩).memory :=
  laidMet_of_run' 8 (by kernel_rfl) (by kernel_rfl)
theorem witness_row (os : Os) {H : Type} (enc : TypeId × Value → H) :
    (OpenSpec.ofChange Rows.fnExactGreedyPairsSpec).preRow enc Tryd.prog Tryd.f8 Rows.fnExactGreedyPairsRow.domain false Rows.fnExactGreedyPairsRow.laid ((Laid.world os).forCall (fun _ _ => 0) ⟨#[], #[.slice none 0 0], []⟩).memory #[.slice none 0 0] := by
  have hw : (DataW.whole enc Tryd.prog ((Laid.world os).forCall (fun _ _ => 0) ⟨#[], #[.slice none 0 0], []⟩).memory Tryd.f8.params.toList Rows.fnExactGreedyPairsSpec.vars false (#[.slice none 0 0] : Array Value).toList 8).map (fun x => (x.1, x.2.1)) = some ([.nil], [Rows.laid_loop_example_g00978_impl_classSizes, Rows.laid_loop_example_g00978_impl_slotMasks]) := by kernel_rfl
  obtain ⟨⟨x1, x2, x3⟩, hx, hx1⟩ := Option.map_eq_some_iff.1 hw
  simp only [Prod.mk.injEq] at hx1
  obtain ⟨rfl, rfl⟩ := hx1
  exact OpenSpec.preRow_of_cond 8 hx (by kernel_rfl) (fun k hk => by cases hk) (by kernel_rfl) (laid_met os)

set_option maxRecDepth 100000 in
theorem lifted (os : Os) (started : os.Started) (H : Type) (enc : TypeId × Value → H) (F : Stop.Interp) :
    ReturnsInHanded {} Tryd.checked os 8 .any ((OpenSpec.ofChange Rows.fnExactGreedyPairsSpec).preRow enc Tryd.prog Tryd.f8 Rows.fnExactGreedyPairsRow.domain false Rows.fnExactGreedyPairsRow.laid) (((OpenSpec.ofChange Rows.fnExactGreedyPairsSpec).at F).post enc Tryd.prog Tryd.f8 false true false false) := by
  refine returnsInHanded_of_row (C := Tryd.checked) (s := OpenSpec.ofChange Rows.fnExactGreedyPairsSpec) own started (by kernel_rfl) Tryd.func8
    (witness_row_at (enc := enc) (C := Tryd.checked) false (Laid.world os) #[.slice none 0 0] rfl (by kernel_rfl) (by kernel_rfl) (by kernel_rfl) (witness_row os enc)) ?_
  intro W base args ds gs before hval hW _ _ _ hL _ _
  exact contract H enc W base args ds gs before hval hW (Laid.has_0 hL)

theorem said : Rows.FnExactGreedyPairsSaid :=
  OpenClaim.holds_of_cond 8 Tryd.f8 rfl rfl rfl rfl rfl rfl rfl ⟨rfl, rfl, rfl, rfl, rfl⟩ rfl rfl rfl rfl rfl (by kernel_rfl) Tryd.func8 (by kernel_rfl)
    (of_decide_eq_true (by kernel_rfl)) (by unfold Func.isWrapper; first | (rw [if_pos (by decide +kernel)]; kernel_rfl) | (rw [if_neg (by decide +kernel)]; exact ⟨rfl, rfl⟩))
    (fun os started H enc _ F => by rw [OpenClaim.pre_eq_preRow]; exact lifted os started H enc F)

theorem plain (f : FuncId) (fn : Func) (hf : Tryd.pinned.checked.prog.funcNamed "loop.example/g00978/laws.FnExactGreedyPairs" = some f) (hfn : Tryd.pinned.checked.prog.funcs[f]? = some fn) :
    false = Tryd.pinned.checked.prog.looks [] ∧ ∀ (j : Nat) t, fn.params[j]? = some t → Tryd.pinned.checked.prog.wantsStandIn t = false := by
  obtain rfl : f = 8 := Option.some.inj ((show Tryd.prog.funcNamed "loop.example/g00978/laws.FnExactGreedyPairs" = some 8 by kernel_rfl).symm.trans hf) |>.symm
  obtain rfl : fn = Tryd.f8 := (Option.some.inj (Tryd.func8.symm.trans hfn)).symm
  refine ⟨by kernel_rfl, fun j t ht => ?_⟩
  rw [Tryd.params8] at ht
  have hm := Array.mem_of_getElem? ht
  simp only [List.mem_toArray, List.mem_cons, List.not_mem_nil, or_false] at hm
  subst hm
  exact (show Tryd.prog.wantsStandIn 39 = false by kernel_rfl)

/-- THE CARD -/
theorem proved : Rows.FnExactGreedyPairsCardSaid :=
  Claim7.holds_tied_plain_at .later [] _ _ _ _ said (fun _ h => by cases h) (by kernel_rfl) (fun _ h => by cases h) fnExactGreedyPairs_row_tie rfl ⟨rfl, rfl⟩ (by kernel_rfl) rfl plain (by kernel_rfl)
#print axioms proved
end Go.Proofs.YthcgaeodcoidnaaDoor.fnExactGreedyPairs

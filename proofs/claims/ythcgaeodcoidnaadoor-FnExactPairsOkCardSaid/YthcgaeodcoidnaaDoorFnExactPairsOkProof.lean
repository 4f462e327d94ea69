/- Called with any arguments, the law FnExactPairsOk returns true and each argument reads afterwards as before. The listed package-level variables hold what the program's text lays. -/
import Derived.Test.YthcgaeodcoidnaaDoorRows
import Derived.Test.YthcgaeodcoidnaaDoorCards
import Derived.Test.YthcgaeodcoidnaaDoorTie
import Derived.Test.YthcgaeodcoidnaaDoorLaid
import Derived.Deep.DeepHandedRow
import Derived.Deep.DeepWitnessRowRef
import Derived.Lib.LaidTab
import Derived.OpenVars
import Derived.Test.YthcgaeodcoidnaaDoorEI11n
import Derived.Test.YthcgaeodcoidnaaDoorTo
import Derived.Test.YthcgaeodcoidnaaDoorEq
import Derived.Test.YthcgaeodcoidnaaDoorSz
import Derived.Test.YthcgaeodcoidnaaDoorMark
import Derived.Test.YthcgaeodcoidnaaDoorHeld
import Derived.Test.YthcgaeodcoidnaaDoorIn
import Derived.WalkKit
import Derived.ProofKit
import Derived.OpenShut
import Derived.ShutString
import Derived.ChangeOld
import Derived.Below
import Derived.Carry
import Derived.Deep.RegionHeld3
namespace Go.Proofs.YthcgaeodcoidnaaDoor.fnExactPairsOk
open Go.ChangeShapes Go.WideShapes Go.ChangeAt Go.RowKit Go.Proofs.YthcgaeodcoidnaaDoor.Tr
set_option linter.unusedVariables false
theorem own : ownKnob Tryd.prog.godebug = none := by kernel_rfl
theorem laidOut : laidOutB Tryd.prog = true := by kernel_rfl
set_option maxRecDepth 100000 in
set_option maxHeartbeats 1000000 in
theorem walk (x0 : List GSpan) (c0_0 : Value) (x1 : List GPair) (c1_0 : Value) (w : World) (r0 : Raw w (eSpanS x0) [c0_0]) (hw0 : okSpanS x0) (r1 : Raw w (ePairS x1) [c1_0]) (hw1 : okPairS x1) (hT : Laid.LSlotMasksClassSizes w) :
    Calls Tryd.prog 6 #[(c0_0), (c1_0)] w fun e w' => e = .returned (.bool true) ∧ Below w.heap.size w w' := by
  have HO : Hid True := trivial
  have HT_ := Lib.hid hT
  clear hT
  have HR0 := Lib.hid r0
  clear r0
  have HR1 := Lib.hid r1
  clear r1
  obtain ⟨s0, hs0⟩ : ∃ s, w.heap.size = s := ⟨_, rfl⟩
  have HBL : Hid (Below w.heap.size w w) := Below.refl _ _
  go_enter Tryd.func6, Tryd.ntmps6
  go_wp2_with fail
  refine (h_szSpanS x0 c0_0 1048576 w (raw_below HBL.out _ HR0.out) (by omega)).mono ?_
  rintro e w1 ⟨hcase, hb_⟩
  have HBL' := Lib.hid (below_step HBL.out hb_)
  clear HBL
  have HBL := HBL'
  clear HBL'
  obtain ⟨s3, hs3⟩ : ∃ s, w1.heap.size = s := ⟨_, rfl⟩
  have hls3 : s0 ≤ s3 := by have := hb_.size; omega
  clear hb_
  rcases hcase with ⟨q2, hq2, rfl⟩ | ⟨_, rfl⟩
  rotate_left
  · go_wp2
    go_ret
    exact ⟨rfl, HBL.out⟩
  have hsz0 : (eSpanS x0).sz ≤ 1048576 := by omega
  go_wp2_with fail
  refine (h_szPairS x1 c1_0 q2 w1 (raw_below HBL.out _ HR1.out) (by omega)).mono ?_
  rintro e w4 ⟨hcase, hb_⟩
  have HBL' := Lib.hid (below_step HBL.out hb_)
  clear HBL
  have HBL := HBL'
  clear HBL'
  obtain ⟨s6, hs6⟩ : ∃ s, w4.heap.size = s := ⟨_, rfl⟩
  have hls6 : s3 ≤ s6 := by have := hb_.size; omega
  clear hb_
  rcases hcase with ⟨q5, hq5, rfl⟩ | ⟨_, rfl⟩
  rotate_left
  · go_wp2
    go_ret
    exact ⟨rfl, HBL.out⟩
  have hsz1 : (ePairS x1).sz ≤ 1048576 := by omega
  go_wp2_with fail
  refine (h_toSpanS x0 c0_0 w4 (raw_below HBL.out _ HR0.out) (by omega)).mono ?_
  rintro e w8 ⟨u_, rfl, hm_, hb_⟩
  have hsh_ := hm_
  obtain ⟨bs_, hsh_, _⟩ := hsh_
  obtain ⟨Ak9, nk9, pk9, rfl⟩ := own_slice hsh_
  clear hsh_
  rw [hs6] at hm_
  have HBL' := Lib.hid (below_step HBL.out hb_)
  clear HBL
  have HBL := HBL'
  clear HBL'
  obtain ⟨s10, hs10⟩ : ∃ s, w8.heap.size = s := ⟨_, rfl⟩
  have hls10 : s6 ≤ s10 := by have := hb_.size; omega
  have HM_t7 := Lib.hid (hm_.toIn (Nat.le_of_eq hs10))
  clear hm_ hb_
  go_wp2_with fail
  refine (h_toPairS x1 c1_0 w8 (raw_below HBL.out _ HR1.out) (by omega)).mono ?_
  rintro e w12 ⟨u_, rfl, hm_, hb_⟩
  have hsh_ := hm_
  obtain ⟨bs_, hsh_, _⟩ := hsh_
  obtain ⟨Ak13, nk13, pk13, rfl⟩ := own_slice hsh_
  clear hsh_
  rw [hs10] at hm_
  have HM_t7' := Lib.hid (HM_t7.out.below hb_)
  clear HM_t7
  have HM_t7 := HM_t7'
  clear HM_t7'
  have HBL' := Lib.hid (below_step HBL.out hb_)
  clear HBL
  have HBL := HBL'
  clear HBL'
  obtain ⟨s14, hs14⟩ : ∃ s, w12.heap.size = s := ⟨_, rfl⟩
  have hls14 : s10 ≤ s14 := by have := hb_.size; omega
  have HM_t11 := Lib.hid (hm_.toIn (Nat.le_of_eq hs14))
  clear hm_ hb_
  go_wp2_with fail
  refine (spec_PairsOk x0 (.slice Ak9 nk9 pk9) x1 (.slice Ak13 nk13 pk13) w12 HM_t7.out.rd HM_t11.out.rd hsz0 hsz1).mono ?_
  rintro e w15 ⟨rfl, hb_⟩
  have HM_t7' := Lib.hid (HM_t7.out.below hb_)
  clear HM_t7
  have HM_t7 := HM_t7'
  clear HM_t7'
  have HM_t11' := Lib.hid (HM_t11.out.below hb_)
  clear HM_t11
  have HM_t11 := HM_t11'
  clear HM_t11'
  have HBL' := Lib.hid (below_step HBL.out hb_)
  clear HBL
  have HBL := HBL'
  clear HBL'
  obtain ⟨s16, hs16⟩ : ∃ s, w15.heap.size = s := ⟨_, rfl⟩
  have hls16 : s14 ≤ s16 := by have := hb_.size; omega
  clear hb_
  go_wp2_with fail
  refine (h_toSpanS x0 c0_0 w15 (raw_below HBL.out _ HR0.out) (by omega)).mono ?_
  rintro e w17 ⟨u_, rfl, hm_, hb_⟩
  have hsh_ := hm_
  obtain ⟨bs_, hsh_, _⟩ := hsh_
  obtain ⟨Ak18, nk18, pk18, rfl⟩ := own_slice hsh_
  clear hsh_
  rw [hs16] at hm_
  have HM_t7' := Lib.hid (HM_t7.out.below hb_)
  clear HM_t7
  have HM_t7 := HM_t7'
  clear HM_t7'
  have HM_t11' := Lib.hid (HM_t11.out.below hb_)
  clear HM_t11
  have HM_t11 := HM_t11'
  clear HM_t11'
  have HBL' := Lib.hid (below_step HBL.out hb_)
  clear HBL
  have HBL := HBL'
  clear HBL'
  obtain ⟨s19, hs19⟩ : ∃ s, w17.heap.size = s := ⟨_, rfl⟩
  have hls19 : s16 ≤ s19 := by have := hb_.size; omega
  have HM_x0 := Lib.hid (hm_.toIn (Nat.le_of_eq hs19))
  clear hm_ hb_
  go_wp2_with fail
  refine (h_toPairS x1 c1_0 w17 (raw_below HBL.out _ HR1.out) (by omega)).mono ?_
  rintro e w20 ⟨u_, rfl, hm_, hb_⟩
  have hsh_ := hm_
  obtain ⟨bs_, hsh_, _⟩ := hsh_
  obtain ⟨Ak21, nk21, pk21, rfl⟩ := own_slice hsh_
  clear hsh_
  rw [hs19] at hm_
  have HM_t7' := Lib.hid (HM_t7.out.below hb_)
  clear HM_t7
  have HM_t7 := HM_t7'
  clear HM_t7'
  have HM_t11' := Lib.hid (HM_t11.out.below hb_)
  clear HM_t11
  have HM_t11 := HM_t11'
  clear HM_t11'
  have HM_x0' := Lib.hid (HM_x0.out.below hb_)
  clear HM_x0
  have HM_x0 := HM_x0'
  clear HM_x0'
  have HBL' := Lib.hid (below_step HBL.out hb_)
  clear HBL
  have HBL := HBL'
  clear HBL'
  obtain ⟨s22, hs22⟩ : ∃ s, w20.heap.size = s := ⟨_, rfl⟩
  have hls22 : s19 ≤ s22 := by have := hb_.size; omega
  have HM_x1 := Lib.hid (hm_.toIn (Nat.le_of_eq hs22))
  clear hm_ hb_
  go_wp2_with fail
  refine (impl_PairsOk x0 (.slice Ak18 nk18 pk18) x1 (.slice Ak21 nk21 pk21) w20 HM_x0.out.rd HM_x1.out.rd hsz0 hsz1 (HT_.out.below HBL.out).slotMasks (HT_.out.below HBL.out).classSizes).mono ?_
  rintro e w23 ⟨rfl, hb_⟩
  have HM_t7' := Lib.hid (HM_t7.out.below hb_)
  clear HM_t7
  have HM_t7 := HM_t7'
  clear HM_t7'
  have HM_t11' := Lib.hid (HM_t11.out.below hb_)
  clear HM_t11
  have HM_t11 := HM_t11'
  clear HM_t11'
  have HM_x0' := Lib.hid (HM_x0.out.below hb_)
  clear HM_x0
  have HM_x0 := HM_x0'
  clear HM_x0'
  have HM_x1' := Lib.hid (HM_x1.out.below hb_)
  clear HM_x1
  have HM_x1 := HM_x1'
  clear HM_x1'
  have HBL' := Lib.hid (below_step HBL.out hb_)
  clear HBL
  have HBL := HBL'
  clear HBL'
  obtain ⟨s24, hs24⟩ : ∃ s, w23.heap.size = s := ⟨_, rfl⟩
  have hls24 : s22 ≤ s24 := by have := hb_.size; omega
  clear hb_
  go_wp2_with fail
  have HT : Hid (∀ w', Below w23.heap.size w23 w' → Calls Tryd.prog 21 #[(c0_0)] w' (fun e w'' => ∃ (A_0 : Option Addr) (n_0 p_0 : Nat), e = .returned (.slice A_0 n_0 p_0) ∧ Rd w'' (eSpanS x0) [.slice A_0 n_0 p_0] ∧ Below w23.heap.size w23 w'')) := fun w' hb => (h_toSpanS x0 c0_0 w' (raw_below (below_step HBL.out hb) _ HR0.out) (by omega)).mono (by
    rintro e w'' ⟨u_, rfl, hm_, hb_⟩
    have hsh_ := hm_
    obtain ⟨bs_, hsh_, _⟩ := hsh_
    obtain ⟨A_0, n_0, p_0, rfl⟩ := own_slice hsh_
    exact ⟨A_0, n_0, p_0, rfl, hm_.rd, below_step hb hb_⟩)
  have HE : Hid (∀ w' (A_0 : Option Addr) (n_0 p_0 : Nat), Below w23.heap.size w23 w' → Rd w' (eSpanS x0) [.slice A_0 n_0 p_0] → Calls Tryd.prog 23 #[(.slice Ak18 nk18 pk18), (.slice A_0 n_0 p_0)] w' (fun e w'' => e = .returned (.bool true) ∧ Below w23.heap.size w23 w'')) := fun w' A_0 n_0 p_0 hb hr => (h_eqSpanS x0 (.slice Ak18 nk18 pk18) (.slice A_0 n_0 p_0) w' (HM_x0.out.rd.below hb) hr (by omega)).mono (fun _ _ h => ⟨h.1, below_step hb h.2⟩)
  have hrf_ : Below w23.heap.size w23 w23.drew := (Below.refl _ _).drew
  have HK : Hid (∀ w', Below w23.heap.size w23 w' → Below w23.heap.size w23 w') := fun w' hb => hb
  refine (HT.out _ (Below.refl _ _)).mono ?_
  rintro e wt_ ⟨A_0, n_0, p_0, rfl, hrt_, hbt_⟩
  go_wp2_with fail
  refine (HE.out _ _ _ _ (by first | exact hbt_ | assumption) (by first | exact hrt_ | assumption)).mono ?_
  rintro e we_ ⟨rfl, hbe_⟩
  obtain ⟨w25, hn_⟩ : ∃ z, we_ = z := ⟨_, rfl⟩
  rw [hn_] at hbe_
  rw [hn_]
  have HM_t7' := Lib.hid (HM_t7.out.below hbe_)
  clear HM_t7
  have HM_t7 := HM_t7'
  clear HM_t7'
  have HM_t11' := Lib.hid (HM_t11.out.below hbe_)
  clear HM_t11
  have HM_t11 := HM_t11'
  clear HM_t11'
  have HM_x0' := Lib.hid (HM_x0.out.below hbe_)
  clear HM_x0
  have HM_x0 := HM_x0'
  clear HM_x0'
  have HM_x1' := Lib.hid (HM_x1.out.below hbe_)
  clear HM_x1
  have HM_x1 := HM_x1'
  clear HM_x1'
  have HBL' := Lib.hid (below_step HBL.out hbe_)
  clear HBL
  have HBL := HBL'
  clear HBL'
  obtain ⟨s26, hs26⟩ : ∃ s, w25.heap.size = s := ⟨_, rfl⟩
  have hls26 : s24 ≤ s26 := by have := hbe_.size; omega
  clear hbe_ hbt_ HT HE HK hrf_ hn_ hrt_
  go_wp2_with fail
  have HT : Hid (∀ w', Below w25.heap.size w25 w' → Calls Tryd.prog 29 #[(c1_0)] w' (fun e w'' => ∃ (A_0 : Option Addr) (n_0 p_0 : Nat), e = .returned (.slice A_0 n_0 p_0) ∧ Rd w'' (ePairS x1) [.slice A_0 n_0 p_0] ∧ Below w25.heap.size w25 w'')) := fun w' hb => (h_toPairS x1 c1_0 w' (raw_below (below_step HBL.out hb) _ HR1.out) (by omega)).mono (by
    rintro e w'' ⟨u_, rfl, hm_, hb_⟩
    have hsh_ := hm_
    obtain ⟨bs_, hsh_, _⟩ := hsh_
    obtain ⟨A_0, n_0, p_0, rfl⟩ := own_slice hsh_
    exact ⟨A_0, n_0, p_0, rfl, hm_.rd, below_step hb hb_⟩)
  have HE : Hid (∀ w' (A_0 : Option Addr) (n_0 p_0 : Nat), Below w25.heap.size w25 w' → Rd w' (ePairS x1) [.slice A_0 n_0 p_0] → Calls Tryd.prog 22 #[(.slice Ak21 nk21 pk21), (.slice A_0 n_0 p_0)] w' (fun e w'' => e = .returned (.bool true) ∧ Below w25.heap.size w25 w'')) := fun w' A_0 n_0 p_0 hb hr => (h_eqPairS x1 (.slice Ak21 nk21 pk21) (.slice A_0 n_0 p_0) w' (HM_x1.out.rd.below hb) hr (by omega)).mono (fun _ _ h => ⟨h.1, below_step hb h.2⟩)
  have hrf_ : Below w25.heap.size w25 w25.drew := (Below.refl _ _).drew
  have HK : Hid (∀ w', Below w25.heap.size w25 w' → Below w25.heap.size w25 w') := fun w' hb => hb
  refine (HT.out _ (Below.refl _ _)).mono ?_
  rintro e wt_ ⟨A_0, n_0, p_0, rfl, hrt_, hbt_⟩
  go_wp2_with fail
  refine (HE.out _ _ _ _ (by first | exact hbt_ | assumption) (by first | exact hrt_ | assumption)).mono ?_
  rintro e we_ ⟨rfl, hbe_⟩
  obtain ⟨w27, hn_⟩ : ∃ z, we_ = z := ⟨_, rfl⟩
  rw [hn_] at hbe_
  rw [hn_]
  have HM_t7' := Lib.hid (HM_t7.out.below hbe_)
  clear HM_t7
  have HM_t7 := HM_t7'
  clear HM_t7'
  have HM_t11' := Lib.hid (HM_t11.out.below hbe_)
  clear HM_t11
  have HM_t11 := HM_t11'
  clear HM_t11'
  have HM_x0' := Lib.hid (HM_x0.out.below hbe_)
  clear HM_x0
  have HM_x0 := HM_x0'
  clear HM_x0'
  have HM_x1' := Lib.hid (HM_x1.out.below hbe_)
  clear HM_x1
  have HM_x1 := HM_x1'
  clear HM_x1'
  have HBL' := Lib.hid (below_step HBL.out hbe_)
  clear HBL
  have HBL := HBL'
  clear HBL'
  obtain ⟨s28, hs28⟩ : ∃ s, w27.heap.size = s := ⟨_, rfl⟩
  have hls28 : s26 ≤ s28 := by have := hbe_.size; omega
  clear hbe_ hbt_ HT HE HK hrf_ hn_ hrt_
  go_wp2
  go_ret
  exact ⟨rfl, HBL.out⟩
set_option maxRecDepth 100000 in
theorem contract (H : Type) (enc : TypeId × Value → H) (W : World) (base : Nat) (args : Array Value) (ds gs : List (DataW H)) (before : List MemPlace)
    (hval0 : ∀ (j : Nat) t v, Tryd.f6.params[j]? = some t → args[j]? = some v → Value.okWide Tryd.prog W .any base t v)
    (hW : DataW.Whole enc Tryd.prog Tryd.f6.params.toList Rows.fnExactPairsOkSpec.vars false W args.toList ds gs before) (hT : Laid.LSlotMasksClassSizes W) :
    Calls Tryd.prog 6 args W fun e W' => ∃ v, e = .returned v ∧ Rows.fnExactPairsOkSpec.post enc Tryd.prog Tryd.f6 false true false false W args v W' := by
  have hval : ∀ (j : Nat) t v, Tryd.f6.params[j]? = some t → args[j]? = some v → Value.okWide Tryd.prog W .any base t v := hval0
  have hW' := hW
  obtain ⟨p, q, hA0, hV, rfl, hfz, hnd⟩ := hW
  have hA : DataW.TrodAll enc Tryd.prog W 0 (fun _ => true) true Tryd.f6.params.toList args.toList ds p := hA0
  rw [Tryd.params6] at hA hval
  obtain ⟨v0, vs0, d0, ds0, p0, q0, hargs, rfl, rfl, h0, r0⟩ := trodAll_cons hA
  obtain ⟨v1, vs1, d1, ds1, p1, q1, rfl, rfl, rfl, h1, r1⟩ := trodAll_cons r0
  obtain ⟨rfl, rfl, rfl⟩ := trodAll_nil r1
  obtain rfl : args = #[v0, v1] := by cases args; simp_all
  obtain ⟨g0, g1, rfl⟩ := Laid.vars2 hV
  have k0 := h0
  have lt0 : ∀ x ∈ p0, x.block < W.heap.size := by obtain ⟨m, hm⟩ := k0; exact DataW.trod_lt m _ _ _ hm
  obtain ⟨x0, raw0, ok0⟩ := opens_trod opens_SpanS h0
  obtain ⟨c0_0, len0, cap0, rfl⟩ := okWide_slice Tryd.underlying39 (hval 0 39 v0 rfl rfl)
  have raw0 : Raw W (eSpanS x0) [.slice c0_0 len0 cap0] := raw0
  have k1 := h1
  have lt1 : ∀ x ∈ p1, x.block < W.heap.size := by obtain ⟨m, hm⟩ := k1; exact DataW.trod_lt m _ _ _ hm
  obtain ⟨x1, raw1, ok1⟩ := opens_trod opens_PairS h1
  obtain ⟨c1_0, len1, cap1, rfl⟩ := okWide_slice Tryd.underlying47 (hval 1 47 v1 rfl rfl)
  have raw1 : Raw W (ePairS x1) [.slice c1_0 len1 cap1] := raw1
  clear hA0 hval0
  refine (walk x0 (.slice c0_0 len0 cap0) x1 (.slice c1_0 len1 cap1) W raw0 ok0 raw1 ok1 hT).mono fun e W' ⟨he, bel⟩ => ?_
  subst he
  exact ⟨_, rfl, _, _, _, [], _, q, hW', trodAll_mk1 (shut_bool Tryd.underlying4 _), (trodAll_cons_mk (Below.trod laidOut (by kernel_rfl) (of_decide_eq_true (by kernel_rfl)) k0 bel lt0) (trodAll_cons_mk (Below.trod laidOut (by kernel_rfl) (of_decide_eq_true (by kernel_rfl)) k1 bel lt1) trodAll_mk0)), bel.trodVars laidOut (by kernel_rfl) hV, bel.frame _, fun h => by cases h⟩
theorem laid_met (os : Os) : laidMet Tryd.prog Rows.fnExactPairsOkRow.laid ((Laid.world os).forCall (fun _ _ => 0) ⟨#[], #[.slice none 0 0, .slice none 0 0], []⟩).memory :=
  laidMet_of_run' 8 (by kernel_rfl) (by kernel_rfl)
theorem witness_row (os : Os) {H : Type} (enc : TypeId × Value → H) :
    (OpenSpec.ofChange Rows.fnExactPairsOkSpec).preRow enc Tryd.prog Tryd.f6 Rows.fnExactPairsOkRow.domain false Rows.fnExactPairsOkRow.laid ((Laid.world os).forCall (fun _ _ => 0) ⟨#[], #[.slice none 0 0, .slice none 0 0], []⟩).memory #[.slice none 0 0, .slice none 0 0] := by
  have hw : (DataW.whole enc Tryd.prog ((Laid.world os).forCall (fun _ _ => 0) ⟨#[], #[.slice none 0 0, .slice none 0 0], []⟩).memory Tryd.f6.params.toList Rows.fnExactPairsOkSpec.vars false (#[.slice none 0 0, .slice none 0 0] : Array Value).toList 8).map (fun x => (x.1, x.2.1)) = some ([.nil, .nil], [Rows.laid_loop_example_g00978_impl_classSizes, Rows.laid_loop_example_g00978_impl_slotMasks]) := by kernel_rfl
  obtain ⟨⟨x1, x2, x3⟩, hx, hx1⟩ := Option.map_eq_some_iff.1 hw
  simp only [Prod.mk.injEq] at hx1
  obtain ⟨rfl, rfl⟩ := hx1
  exact OpenSpec.preRow_of_cond 8 hx (by kernel_rfl) (fun k hk => by cases hk) (by kernel_rfl) (laid_met os)

set_option maxRecDepth 100000 in
theorem lifted (os : Os) (started : os.Started) (H : Type) (enc : TypeId × Value → H) (F : Stop.Interp) :
    ReturnsInHanded {} Tryd.checked os 6 .any ((OpenSpec.ofChange Rows.fnExactPairsOkSpec).preRow enc Tryd.prog Tryd.f6 Rows.fnExactPairsOkRow.domain false Rows.fnExactPairsOkRow.laid) (((OpenSpec.ofChange Rows.fnExactPairsOkSpec).at F).post enc Tryd.prog Tryd.f6 false true false false) := by
  refine returnsInHanded_of_row (C := Tryd.checked) (s := OpenSpec.ofChange Rows.fnExactPairsOkSpec) own started (by kernel_rfl) Tryd.func6
    (witness_row_at (enc := enc) (C := Tryd.checked) false (Laid.world os) #[.slice none 0 0, .slice none 0 0] rfl (by kernel_rfl) (by kernel_rfl) (by kernel_rfl) (witness_row os enc)) ?_
  intro W base args ds gs before hval hW _ _ _ hL _ _
  exact contract H enc W base args ds gs before hval hW (Laid.has_0 hL)

theorem said : Rows.FnExactPairsOkSaid :=
  OpenClaim.holds_of_cond 6 Tryd.f6 rfl rfl rfl rfl rfl rfl rfl ⟨rfl, rfl, rfl, rfl, rfl⟩ rfl rfl rfl rfl rfl (by kernel_rfl) Tryd.func6 (by kernel_rfl)
    (of_decide_eq_true (by kernel_rfl)) (by unfold Func.isWrapper; first | (rw [if_pos (by decide +kernel)]; kernel_rfl) | (rw [if_neg (by decide +kernel)]; exact ⟨rfl, rfl⟩))
    (fun os started H enc _ F => by rw [OpenClaim.pre_eq_preRow]; exact lifted os started H enc F)

theorem plain (f : FuncId) (fn : Func) (hf : Tryd.pinned.checked.prog.funcNamed "loop.example/g00978/laws.FnExactPairsOk" = some f) (hfn : Tryd.pinned.checked.prog.funcs[f]? = some fn) :
    false = Tryd.pinned.checked.prog.looks [] ∧ ∀ (j : Nat) t, fn.params[j]? = some t → Tryd.pinned.checked.prog.wantsStandIn t = false := by
  obtain rfl : f = 6 := Option.some.inj ((show Tryd.prog.funcNamed "loop.example/g00978/laws.FnExactPairsOk" = some 6 by kernel_rfl).symm.trans hf) |>.symm
  obtain rfl : fn = Tryd.f6 := (Option.some.inj (Tryd.func6.symm.trans hfn)).symm
  refine ⟨by kernel_rfl, fun j t ht => ?_⟩
  rw [Tryd.params6] at ht
  have hm := Array.mem_of_getElem? ht
  simp only [List.mem_toArray, List.mem_cons, List.not_mem_nil, or_false] at hm
  rcases hm with rfl | rfl
  · exact (show Tryd.prog.wantsStandIn 39 = false by kernel_rfl)
  · exact (show Tryd.prog.wantsStandIn 47 = false by kernel_rfl)

/-- THE CARD -/
theorem proved : Rows.FnExactPairsOkCardSaid :=
  Claim7.holds_tied_plain_at .later [] _ _ _ _ said (fun _ h => by cases h) (by kernel_rfl) (fun _ h => by cases h) fnExactPairsOk_row_tie rfl ⟨rfl, rfl⟩ (by kernel_rfl) rfl plain (by kernel_rfl)
#print axioms proved
end Go.Proofs.YthcgaeodcoidnaaDoor.fnExactPairsOk

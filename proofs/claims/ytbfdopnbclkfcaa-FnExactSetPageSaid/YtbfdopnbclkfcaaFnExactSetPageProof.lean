/- Called with any arguments, the law FnExactSetPage returns true and each argument reads afterwards as before. No condition. -/
import Derived.Test.YtbfdopnbclkfcaaRows
import Derived.Test.YtbfdopnbclkfcaaS06
import Derived.Test.YtbfdopnbclkfcaaI06d
import Derived.Test.YtbfdopnbclkfcaaTreeCut
import Derived.Test.YtbfdopnbclkfcaaTo
import Derived.Test.YtbfdopnbclkfcaaEq
import Derived.Test.YtbfdopnbclkfcaaSz
import Derived.Test.YtbfdopnbclkfcaaMark
import Derived.Test.YtbfdopnbclkfcaaHeld
import Derived.Test.YtbfdopnbclkfcaaIn
import Derived.WalkKit
import Derived.ProofKit
import Derived.OpenShut
import Derived.ShutString
import Derived.ChangeOld
import Derived.Below
import Derived.Carry
import Derived.Deep.RegionHeld3
namespace Go.Proofs.Ytbfdopnbclkfcaa.fnExactSetPage
open Go.ChangeShapes Go.WideShapes Go.ChangeAt Go.RowKit Go.Proofs.Ytbfdopnbclkfcaa.Tr
set_option linter.unusedVariables false
theorem own : ownKnob Try.prog.godebug = none := by kernel_rfl
theorem laidOut : laidOutB Try.prog = true := by kernel_rfl
set_option maxRecDepth 100000 in
set_option maxHeartbeats 800000 in
theorem walk (x0 : GTable) (c0_0 : Value) (x1 : Int) (x2 : GEntry) (w : World) (r0 : Raw w (eTable x0) [c0_0]) (hw0 : okTable x0) (hw1 : okI x1) (hw2 : okEntry x2) :
    Calls Try.prog 6 #[(.agg #[c0_0]), (.int .i64 x1), (.agg #[.int .i64 x2.Mode, .int .i64 x2.Frame])] w fun e w' => e = .returned (.bool true) ∧ Below w.heap.size w w' := by
  have HO : Hid True := trivial
  have HR0 := Lib.hid r0
  clear r0
  obtain ⟨s0, hs0⟩ : ∃ s, w.heap.size = s := ⟨_, rfl⟩
  have HBL : Hid (Below w.heap.size w w) := Below.refl _ _
  have hb_ : Below w.heap.size w (w.alloc (.cells #[c0_0] 43)) := (Below.refl _ _).alloc (Nat.le_refl _) _
  have hx_ : (w.alloc (.cells #[c0_0] 43)).heap[s0]? = some (.cells #[c0_0] 43 (0, 0)) := by rw [← hs0]; exact heap_alloc_new _ _
  have hz_ : (w.alloc (.cells #[c0_0] 43)).heap.size = s0 + 1 := by simp [hs0]
  obtain ⟨w1, HW_w1⟩ : ∃ z, (w.alloc (.cells #[c0_0] 43)) = z := ⟨_, rfl⟩
  rw [HW_w1] at hb_ hx_ hz_
  have HBL' := Lib.hid (below_step HBL.out hb_)
  clear HBL
  have HBL := HBL'
  clear HBL'
  have HX_aT := Lib.hid hx_
  clear hx_
  obtain ⟨s2, hs2⟩ : ∃ s, w1.heap.size = s := ⟨_, rfl⟩
  have hls2 : s0 + 1 = s2 := by omega
  have HWE_w1 := Lib.hid HW_w1
  clear HW_w1 hb_ hz_
  have hb_ : Below w1.heap.size w1 (w1.alloc (.cells #[.int .i64 x2.Mode, .int .i64 x2.Frame] 47)) := (Below.refl _ _).alloc (Nat.le_refl _) _
  have hx_ : (w1.alloc (.cells #[.int .i64 x2.Mode, .int .i64 x2.Frame] 47)).heap[s2]? = some (.cells #[.int .i64 x2.Mode, .int .i64 x2.Frame] 47 (0, 0)) := by rw [← hs2]; exact heap_alloc_new _ _
  have hz_ : (w1.alloc (.cells #[.int .i64 x2.Mode, .int .i64 x2.Frame] 47)).heap.size = s2 + 1 := by simp [hs2]
  obtain ⟨w3, HW_w3⟩ : ∃ z, (w1.alloc (.cells #[.int .i64 x2.Mode, .int .i64 x2.Frame] 47)) = z := ⟨_, rfl⟩
  rw [HW_w3] at hb_ hx_ hz_
  have HX_aT' := Lib.hid ((hb_.block s0 (by omega)).trans HX_aT.out)
  clear HX_aT
  have HX_aT := HX_aT'
  clear HX_aT'
  have HBL' := Lib.hid (below_step HBL.out hb_)
  clear HBL
  have HBL := HBL'
  clear HBL'
  have HX_aE := Lib.hid hx_
  clear hx_
  obtain ⟨s4, hs4⟩ : ∃ s, w3.heap.size = s := ⟨_, rfl⟩
  have hls4 : s2 + 1 = s4 := by omega
  have HWE_w3 := Lib.hid HW_w3
  clear HW_w3 hb_ hz_
  go_enter Try.func6, Try.ntmps6
  have : s0 < s2 := by omega
  have hc5 : w3.cell? ⟨s0, 0, none⟩ = some (c0_0) := cell_of_block HX_aT.out 0
  go_wp2_with fail
  rw [HWE_w1.out]
  rw [HWE_w3.out]
  clear HWE_w1 HWE_w3
  refine (h_szTable x0 c0_0 1048576 w3 (raw_below HBL.out _ HR0.out) (by omega)).mono ?_
  rintro e w6 ⟨hcase, hb_⟩
  have HX_aT' := Lib.hid ((hb_.block s0 (by omega)).trans HX_aT.out)
  clear HX_aT
  have HX_aT := HX_aT'
  clear HX_aT'
  have HX_aE' := Lib.hid ((hb_.block s2 (by omega)).trans HX_aE.out)
  clear HX_aE
  have HX_aE := HX_aE'
  clear HX_aE'
  have HBL' := Lib.hid (below_step HBL.out hb_)
  clear HBL
  have HBL := HBL'
  clear HBL'
  obtain ⟨s8, hs8⟩ : ∃ s, w6.heap.size = s := ⟨_, rfl⟩
  have hls8 : s4 ≤ s8 := by have := hb_.size; omega
  clear hb_
  rcases hcase with ⟨q7, hq7, rfl⟩ | ⟨_, rfl⟩
  rotate_left
  · go_wp2
    go_ret
    exact ⟨rfl, HBL.out⟩
  have hsz0 : (eTable x0).sz ≤ 1048576 := by omega
  go_upto_region 5 with fail
  have HT0 : Hid (∀ w', Below w6.heap.size w6 w' → Calls Try.prog 24 #[(.agg #[c0_0])] w' (fun e w'' => ∃ (A0_0 : Option Addr) (n0_0 p0_0 : Nat), e = .returned (.agg #[.slice A0_0 n0_0 p0_0]) ∧ Rd w'' (eTable x0) [.slice A0_0 n0_0 p0_0] ∧ Below w6.heap.size w6 w'' ∧ Below w'.heap.size w' w'')) := fun w' hb => (h_toTable x0 c0_0 w' (raw_below (below_step HBL.out hb) _ HR0.out) (by omega)).mono (by
    rintro e w'' ⟨u_, rfl, hm_, hb_⟩
    have hsh_ := hm_
    obtain ⟨bs_, hsh_, _⟩ := hsh_
    obtain ⟨A0_0, n0_0, p0_0, rfl⟩ := sinv_Table hsh_
    exact ⟨A0_0, n0_0, p0_0, rfl, hm_.rd, below_step hb hb_, hb_⟩)
  have HT2 : Hid (∀ w', Below w6.heap.size w6 w' → Calls Try.prog 26 #[(.agg #[.int .i64 x2.Mode, .int .i64 x2.Frame])] w' (fun e w'' => e = .returned ((.agg #[.int .i64 x2.Mode, .int .i64 x2.Frame])) ∧ Below w6.heap.size w6 w'' ∧ Below w'.heap.size w' w'')) := fun w' hb => (h_toEntry x2 w').mono (fun _ _ h => ⟨h.1, below_step hb h.2, h.2⟩)
  have HF : Hid (∀ w' (A0_0 : Option Addr) (n0_0 p0_0 : Nat) (hr0_ : Rd w' (eTable x0) [.slice A0_0 n0_0 p0_0]), Below w6.heap.size w6 w' → Calls Try.prog 25 #[(.agg #[.slice A0_0 n0_0 p0_0]), (.int .i64 x1), (.agg #[.int .i64 x2.Mode, .int .i64 x2.Frame])] w' (fun e w'' => ∃ (Ar_0 : Option Addr) (nr_0 pr_0 : Nat), e = .returned (.tuple #[(.agg #[.slice Ar_0 nr_0 pr_0]), (.bool ((pSetPage x0 x1 x2).2))]) ∧ Owned w'' w'.heap.size (eTable (pSetPage x0 x1 x2).1) [.slice Ar_0 nr_0 pr_0] ∧ Below w6.heap.size w6 w'' ∧ Below w'.heap.size w' w'')) := fun w' A0_0 n0_0 p0_0 hr0_ hb => (spec_SetPage x0 (.slice A0_0 n0_0 p0_0) x1 x2 w' hr0_ hsz0 hw1).mono (by
    rintro e w'' ⟨u_, rfl, hm_, hb_⟩
    have hsh_ := hm_
    obtain ⟨bs_, hsh_, _⟩ := hsh_
    obtain ⟨Ar_0, nr_0, pr_0, rfl⟩ := sinv_Table hsh_
    exact ⟨Ar_0, nr_0, pr_0, rfl, hm_, below_step hb hb_, hb_⟩)
  have hrf_ : Below w6.heap.size w6 w6.drew := (Below.refl _ _).drew
  have HK : Hid (∀ w', Below w6.heap.size w6 w' → w'.cell? ⟨s0, 0, none⟩ = some (c0_0) ∧ w'.cell? ⟨s2, 0, none⟩ = some (.int .i64 x2.Mode) ∧ w'.cell? ⟨s2, 1, none⟩ = some (.int .i64 x2.Frame) ∧ Below w6.heap.size w6 w') := fun w' hb => ⟨cell_below hb (cell_of_block HX_aT.out 0), cell_below hb (cell_of_block HX_aE.out 0), cell_below hb (cell_of_block HX_aE.out 1), hb⟩
  go_cut [8, 9] (fun s8_ s9_ wx => ∃ (blk_ lo_ hi_ : Nat) (Ar_0 : Option Addr) (nr_0 pr_0 : Nat), s8_ = .pointer (some ⟨blk_, 0, none⟩) ∧ s9_ = (.bool ((pSetPage x0 x1 x2).2)) ∧ Hid (BoxIn w6 28 (eTable (pSetPage x0 x1 x2).1) [.slice Ar_0 nr_0 pr_0] lo_ hi_ blk_ wx))
  case first =>
    clear hs8
    go_region_held3 (fun w' => w'.cell? ⟨s0, 0, none⟩ = some (c0_0) ∧ w'.cell? ⟨s2, 0, none⟩ = some (.int .i64 x2.Mode) ∧ w'.cell? ⟨s2, 1, none⟩ = some (.int .i64 x2.Frame) ∧ Below w6.heap.size w6 w') (first | exact HK.out _ (by assumption) | exact HK.out _ below_al0 | exact HK.out _ (below_al (by assumption)) | exact HK.out _ (hBf_.setCell (p := ⟨_, 0, none⟩) hga_ _)) (first | (go_at_call 24; (with_reducible refine (HT0.out (w6.alloc (.cells #[.slice none 0 0] 28)).drew below_al0).mono ?_); rintro e wt0_ ⟨A0_0, n0_0, p0_0, rfl, hr0_, hBt0_, hbt0_⟩; have ha_ := (hbt0_.block w6.heap.size (by simp)).trans (heap_alloc_new w6 (.cells #[.slice none 0 0] 28)); have hga_ : w6.heap.size ≤ w6.heap.size := Nat.le_refl _) | (go_at_call 24; (with_reducible refine (HT0.out w6.drew hrf_).mono ?_); rintro e wt0_ ⟨A0_0, n0_0, p0_0, rfl, hr0_, hBt0_, hbt0_⟩) | (go_at_call 26; (with_reducible refine (HT2.out (wt0_.alloc (.cells #[.slice none 0 0] 28)) (below_al hBt0_)).mono ?_); rintro e wt2_ ⟨rfl, hBt2_, hbt2_⟩; have hr0_ : Rd wt2_ (eTable x0) [.slice A0_0 n0_0 p0_0] := (by first | exact hr0_.below hbt2_ | exact (hr0_.alloc _).below hbt2_); have ha_ := (hbt2_.block wt0_.heap.size (by simp)).trans (heap_alloc_new wt0_ (.cells #[.slice none 0 0] 28)); have hga_ : w6.heap.size ≤ wt0_.heap.size := hBt0_.size) | (go_at_call 26; (with_reducible refine (HT2.out wt0_ hBt0_).mono ?_); rintro e wt2_ ⟨rfl, hBt2_, hbt2_⟩; have hr0_ : Rd wt2_ (eTable x0) [.slice A0_0 n0_0 p0_0] := (by first | exact hr0_.below hbt2_ | exact (hr0_.alloc _).below hbt2_); have ha_ := (hbt2_.block _ (lt_of_block ha_)).trans ha_) | (go_at_call 26; (with_reducible refine (HT2.out wt0_ hBt0_).mono ?_); rintro e wt2_ ⟨rfl, hBt2_, hbt2_⟩; have hr0_ : Rd wt2_ (eTable x0) [.slice A0_0 n0_0 p0_0] := (by first | exact hr0_.below hbt2_ | exact (hr0_.alloc _).below hbt2_)) | (go_at_call 25; (with_reducible refine (HF.out (wt2_.alloc (.cells #[.slice none 0 0] 28)) _ _ _ (hr0_.alloc _)  (below_al hBt2_)).mono ?_); rintro e wf_ ⟨Ar_0, nr_0, pr_0, rfl, ho_, hBf_, hbf_⟩; have ha_ := (hbf_.block wt2_.heap.size (by simp)).trans (heap_alloc_new wt2_ (.cells #[.slice none 0 0] 28)); have hga_ : w6.heap.size ≤ wt2_.heap.size := hBt2_.size; obtain ⟨q0a_, q0b_, hbx_⟩ := boxin_old1 hBf_ ha_ hga_ ho_ (below_al (o := (.cells #[.slice none 0 0] 28)) hBt2_).size hbf_.size (by simp)) | (go_at_call 25; (with_reducible refine (HF.out wt2_ _ _ _ hr0_  hBt2_).mono ?_); rintro e wf_ ⟨Ar_0, nr_0, pr_0, rfl, ho_, hBf_, hbf_⟩; have hla_ := lt_of_block ha_; have ha_ := (hbf_.block _ (lt_of_block ha_)).trans ha_; obtain ⟨q0a_, q0b_, hbx_⟩ := boxin_old1 hBf_ ha_ hga_ ho_ hBt2_.size hbf_.size hla_) | (go_at_call 25; (with_reducible refine (HF.out wt2_ _ _ _ hr0_  hBt2_).mono ?_); rintro e wf_ ⟨Ar_0, nr_0, pr_0, rfl, ho_, hBf_, hbf_⟩; have hbx_ := Lib.hid (boxin_new (T := 28) hBf_ ho_ hBt2_.size hbf_.size)))
    all_goals go_wp2_with fail
    all_goals (go_meet; exact ⟨_, _, _, _, _, _, rfl, rfl, hbx_.out⟩)
  clear HF HK hrf_ HT0 HT2
  obtain ⟨b9, l10, m11, Ak12_0, nk12_0, pk12_0, rfl, rfl, hbx_⟩ := hcut
  have hb_ := hbx_.out.below
  obtain ⟨w13, hnw_⟩ : ∃ z, wc = z := ⟨_, rfl⟩
  rw [hnw_] at hbx_ hb_
  rw [hnw_]
  clear hnw_
  have HX_aT' := Lib.hid ((hb_.block s0 (by omega)).trans HX_aT.out)
  clear HX_aT
  have HX_aT := HX_aT'
  clear HX_aT'
  have HX_aE' := Lib.hid ((hb_.block s2 (by omega)).trans HX_aE.out)
  clear HX_aE
  have HX_aE := HX_aE'
  clear HX_aE'
  have HBL' := Lib.hid (below_step HBL.out hb_)
  clear HBL
  have HBL := HBL'
  clear HBL'
  have hx_ := hbx_.out.block
  obtain ⟨s14, hs14⟩ : ∃ s, w13.heap.size = s := ⟨_, rfl⟩
  have hi1_ := hbx_.out.ilo
  have hi2_ := hbx_.out.ihi
  have hi3_ := hbx_.out.top
  have hi4_ := hbx_.out.ge
  have hi5_ := hbx_.out.lt
  have hi6_ := hbx_.out.apart
  rw [hs8] at hi1_ hi4_
  rw [hs14] at hi3_ hi5_
  have hlob9 := hi1_
  clear hi1_
  have hhib9 := hi2_
  clear hi2_
  have htpb9 := hi3_
  clear hi3_
  have hgeb9 := hi4_
  clear hi4_
  have hltb9 := hi5_
  clear hi5_
  have hapb9 := hi6_
  clear hi6_
  have hls14 : s8 ≤ s14 := by omega
  have HX_w0 := Lib.hid hx_
  clear hx_
  have HM_w0 := Lib.hid hbx_.out.own
  clear hbx_ hb_
  have hsr : (eTable (pSetPage x0 x1 x2).1).sz ≤ 50000000 := bound_SetPage x0 x1 x2 hsz0
  have hc15 : w13.cell? ⟨s0, 0, none⟩ = some (c0_0) := cell_of_block HX_aT.out 0
  go_wp2_with fail
  refine (h_toTable x0 c0_0 w13 (raw_below HBL.out _ HR0.out) (by omega)).mono ?_
  rintro e w16 ⟨u_, rfl, hm_, hb_⟩
  have hsh_ := hm_
  obtain ⟨bs_, hsh_, _⟩ := hsh_
  obtain ⟨Ak17_0, nk17_0, pk17_0, rfl⟩ := sinv_Table hsh_
  clear hsh_
  rw [hs14] at hm_
  have HX_aT' := Lib.hid ((hb_.block s0 (by omega)).trans HX_aT.out)
  clear HX_aT
  have HX_aT := HX_aT'
  clear HX_aT'
  have HX_aE' := Lib.hid ((hb_.block s2 (by omega)).trans HX_aE.out)
  clear HX_aE
  have HX_aE := HX_aE'
  clear HX_aE'
  have HX_w0' := Lib.hid ((hb_.block b9 (by omega)).trans HX_w0.out)
  clear HX_w0
  have HX_w0 := HX_w0'
  clear HX_w0'
  have HM_w0' := Lib.hid (HM_w0.out.below hb_)
  clear HM_w0
  have HM_w0 := HM_w0'
  clear HM_w0'
  have HBL' := Lib.hid (below_step HBL.out hb_)
  clear HBL
  have HBL := HBL'
  clear HBL'
  obtain ⟨s18, hs18⟩ : ∃ s, w16.heap.size = s := ⟨_, rfl⟩
  have hls18 : s14 ≤ s18 := by have := hb_.size; omega
  have HM_x0 := Lib.hid (hm_.toIn (Nat.le_of_eq hs18))
  clear hm_ hb_
  have HXP_aT := HX_aT
  have HXP_aE := HX_aE
  have HXP_w0 := HX_w0
  have hb_ : Below w16.heap.size w16 (w16.alloc (.cells #[.slice Ak17_0 nk17_0 pk17_0] 28)) := (Below.refl _ _).alloc (Nat.le_refl _) _
  have hx_ : (w16.alloc (.cells #[.slice Ak17_0 nk17_0 pk17_0] 28)).heap[s18]? = some (.cells #[.slice Ak17_0 nk17_0 pk17_0] 28 (0, 0)) := by rw [← hs18]; exact heap_alloc_new _ _
  have hz_ : (w16.alloc (.cells #[.slice Ak17_0 nk17_0 pk17_0] 28)).heap.size = s18 + 1 := by simp [hs18]
  obtain ⟨w19, HW_w19⟩ : ∃ z, (w16.alloc (.cells #[.slice Ak17_0 nk17_0 pk17_0] 28)) = z := ⟨_, rfl⟩
  rw [HW_w19] at hb_ hx_ hz_
  have HX_aT' := Lib.hid ((hb_.block s0 (by omega)).trans HX_aT.out)
  clear HX_aT
  have HX_aT := HX_aT'
  clear HX_aT'
  have HX_aE' := Lib.hid ((hb_.block s2 (by omega)).trans HX_aE.out)
  clear HX_aE
  have HX_aE := HX_aE'
  clear HX_aE'
  have HX_w0' := Lib.hid ((hb_.block b9 (by omega)).trans HX_w0.out)
  clear HX_w0
  have HX_w0 := HX_w0'
  clear HX_w0'
  have HM_w0' := Lib.hid (HM_w0.out.below hb_)
  clear HM_w0
  have HM_w0 := HM_w0'
  clear HM_w0'
  have HM_x0' := Lib.hid (HM_x0.out.below hb_)
  clear HM_x0
  have HM_x0 := HM_x0'
  clear HM_x0'
  have HBL' := Lib.hid (below_step HBL.out hb_)
  clear HBL
  have HBL := HBL'
  clear HBL'
  have HX_x0 := Lib.hid hx_
  clear hx_
  obtain ⟨s20, hs20⟩ : ∃ s, w19.heap.size = s := ⟨_, rfl⟩
  have hls20 : s18 + 1 = s20 := by omega
  have HWE_w19 := Lib.hid HW_w19
  clear HW_w19 hb_ hz_
  go_upto_region 7 with fail
  rw [HWE_w19.out]
  clear HWE_w19 HXP_aT HXP_aE HXP_w0
  have HT2 : Hid (∀ w', Below w19.heap.size w19 w' → Calls Try.prog 26 #[(.agg #[.int .i64 x2.Mode, .int .i64 x2.Frame])] w' (fun e w'' => e = .returned ((.agg #[.int .i64 x2.Mode, .int .i64 x2.Frame])) ∧ Below w19.heap.size w19 w'' ∧ Below w'.heap.size w' w'')) := fun w' hb => (h_toEntry x2 w').mono (fun _ _ h => ⟨h.1, below_step hb h.2, h.2⟩)
  have HF : Hid (∀ w' , Below w19.heap.size w19 w' → Calls Try.prog 13 #[(.agg #[.slice Ak17_0 nk17_0 pk17_0]), (.int .i64 x1), (.agg #[.int .i64 x2.Mode, .int .i64 x2.Frame])] w' (fun e w'' => ∃ (Ar_0 : Option Addr) (nr_0 pr_0 : Nat), e = .returned (.tuple #[(.agg #[.slice Ar_0 nr_0 pr_0]), (.bool ((pSetPage x0 x1 x2).2))]) ∧ Owned w'' w'.heap.size (eTable (pSetPage x0 x1 x2).1) [.slice Ar_0 nr_0 pr_0] ∧ Below w19.heap.size w19 w'' ∧ Below w'.heap.size w' w'')) := fun w'   hb => (impl_SetPage x0 (.slice Ak17_0 nk17_0 pk17_0) x1 x2 w' (HM_x0.out.rd.below hb) hsz0 hw1).mono (by
    rintro e w'' ⟨u_, rfl, hm_, hb_⟩
    have hsh_ := hm_
    obtain ⟨bs_, hsh_, _⟩ := hsh_
    obtain ⟨Ar_0, nr_0, pr_0, rfl⟩ := sinv_Table hsh_
    exact ⟨Ar_0, nr_0, pr_0, rfl, hm_, below_step hb hb_, hb_⟩)
  have hrf_ : Below w19.heap.size w19 w19.drew := (Below.refl _ _).drew
  have HK : Hid (∀ w', Below w19.heap.size w19 w' → w'.cell? ⟨s18, 0, none⟩ = some (.slice Ak17_0 nk17_0 pk17_0) ∧ w'.cell? ⟨s2, 0, none⟩ = some (.int .i64 x2.Mode) ∧ w'.cell? ⟨s2, 1, none⟩ = some (.int .i64 x2.Frame) ∧ Below w19.heap.size w19 w') := fun w' hb => ⟨cell_below hb (cell_of_block HX_x0.out 0), cell_below hb (cell_of_block HX_aE.out 0), cell_below hb (cell_of_block HX_aE.out 1), hb⟩
  go_cut [11, 12] (fun s11_ s12_ wx => ∃ (blk_ lo_ hi_ : Nat) (Ar_0 : Option Addr) (nr_0 pr_0 : Nat), s11_ = .pointer (some ⟨blk_, 0, none⟩) ∧ s12_ = (.bool ((pSetPage x0 x1 x2).2)) ∧ Hid (BoxIn w19 28 (eTable (pSetPage x0 x1 x2).1) [.slice Ar_0 nr_0 pr_0] lo_ hi_ blk_ wx))
  case first =>
    clear hs20
    go_region_held3 (fun w' => w'.cell? ⟨s18, 0, none⟩ = some (.slice Ak17_0 nk17_0 pk17_0) ∧ w'.cell? ⟨s2, 0, none⟩ = some (.int .i64 x2.Mode) ∧ w'.cell? ⟨s2, 1, none⟩ = some (.int .i64 x2.Frame) ∧ Below w19.heap.size w19 w') (first | exact HK.out _ (by assumption) | exact HK.out _ below_al0 | exact HK.out _ (below_al (by assumption)) | exact HK.out _ (hBf_.setCell (p := ⟨_, 0, none⟩) hga_ _)) (first | (go_at_call 26; (with_reducible refine (HT2.out (w19.alloc (.cells #[.slice none 0 0] 28)).drew below_al0).mono ?_); rintro e wt2_ ⟨rfl, hBt2_, hbt2_⟩; have ha_ := (hbt2_.block w19.heap.size (by simp)).trans (heap_alloc_new w19 (.cells #[.slice none 0 0] 28)); have hga_ : w19.heap.size ≤ w19.heap.size := Nat.le_refl _) | (go_at_call 26; (with_reducible refine (HT2.out w19.drew hrf_).mono ?_); rintro e wt2_ ⟨rfl, hBt2_, hbt2_⟩) | (go_at_call 13; (with_reducible refine (HF.out (wt2_.alloc (.cells #[.slice none 0 0] 28))  (below_al hBt2_)).mono ?_); rintro e wf_ ⟨Ar_0, nr_0, pr_0, rfl, ho_, hBf_, hbf_⟩; have ha_ := (hbf_.block wt2_.heap.size (by simp)).trans (heap_alloc_new wt2_ (.cells #[.slice none 0 0] 28)); have hga_ : w19.heap.size ≤ wt2_.heap.size := hBt2_.size; obtain ⟨q0a_, q0b_, hbx_⟩ := boxin_old1 hBf_ ha_ hga_ ho_ (below_al (o := (.cells #[.slice none 0 0] 28)) hBt2_).size hbf_.size (by simp)) | (go_at_call 13; (with_reducible refine (HF.out wt2_  hBt2_).mono ?_); rintro e wf_ ⟨Ar_0, nr_0, pr_0, rfl, ho_, hBf_, hbf_⟩; have hla_ := lt_of_block ha_; have ha_ := (hbf_.block _ (lt_of_block ha_)).trans ha_; obtain ⟨q0a_, q0b_, hbx_⟩ := boxin_old1 hBf_ ha_ hga_ ho_ hBt2_.size hbf_.size hla_) | (go_at_call 13; (with_reducible refine (HF.out wt2_  hBt2_).mono ?_); rintro e wf_ ⟨Ar_0, nr_0, pr_0, rfl, ho_, hBf_, hbf_⟩; have hbx_ := Lib.hid (boxin_new (T := 28) hBf_ ho_ hBt2_.size hbf_.size)))
    all_goals go_wp2_with fail
    all_goals (go_meet; exact ⟨_, _, _, _, _, _, rfl, rfl, hbx_.out⟩)
  clear HF HK hrf_ HT2
  obtain ⟨b21, l22, m23, Ak24_0, nk24_0, pk24_0, rfl, rfl, hbx_⟩ := hcut
  have hb_ := hbx_.out.below
  obtain ⟨w25, hnw_⟩ : ∃ z, wc = z := ⟨_, rfl⟩
  rw [hnw_] at hbx_ hb_
  rw [hnw_]
  clear hnw_
  have HX_aT' := Lib.hid ((hb_.block s0 (by omega)).trans HX_aT.out)
  clear HX_aT
  have HX_aT := HX_aT'
  clear HX_aT'
  have HX_aE' := Lib.hid ((hb_.block s2 (by omega)).trans HX_aE.out)
  clear HX_aE
  have HX_aE := HX_aE'
  clear HX_aE'
  have HX_w0' := Lib.hid ((hb_.block b9 (by omega)).trans HX_w0.out)
  clear HX_w0
  have HX_w0 := HX_w0'
  clear HX_w0'
  have HX_x0' := Lib.hid ((hb_.block s18 (by omega)).trans HX_x0.out)
  clear HX_x0
  have HX_x0 := HX_x0'
  clear HX_x0'
  have HM_w0' := Lib.hid (HM_w0.out.below hb_)
  clear HM_w0
  have HM_w0 := HM_w0'
  clear HM_w0'
  have HM_x0' := Lib.hid (HM_x0.out.below hb_)
  clear HM_x0
  have HM_x0 := HM_x0'
  clear HM_x0'
  have HBL' := Lib.hid (below_step HBL.out hb_)
  clear HBL
  have HBL := HBL'
  clear HBL'
  have hx_ := hbx_.out.block
  obtain ⟨s26, hs26⟩ : ∃ s, w25.heap.size = s := ⟨_, rfl⟩
  have hi1_ := hbx_.out.ilo
  have hi2_ := hbx_.out.ihi
  have hi3_ := hbx_.out.top
  have hi4_ := hbx_.out.ge
  have hi5_ := hbx_.out.lt
  have hi6_ := hbx_.out.apart
  rw [hs20] at hi1_ hi4_
  rw [hs26] at hi3_ hi5_
  have hlob21 := hi1_
  clear hi1_
  have hhib21 := hi2_
  clear hi2_
  have htpb21 := hi3_
  clear hi3_
  have hgeb21 := hi4_
  clear hi4_
  have hltb21 := hi5_
  clear hi5_
  have hapb21 := hi6_
  clear hi6_
  have hls26 : s20 ≤ s26 := by omega
  have HX_g0 := Lib.hid hx_
  clear hx_
  have HM_g0 := Lib.hid hbx_.out.own
  clear hbx_ hb_
  have hc27 : w25.cell? ⟨b21, 0, none⟩ = some (.slice Ak24_0 nk24_0 pk24_0) := cell_of_block HX_g0.out 0
  have hc28 : w25.cell? ⟨b9, 0, none⟩ = some (.slice Ak12_0 nk12_0 pk12_0) := cell_of_block HX_w0.out 0
  go_wp2_with fail
  refine (h_eqTable (pSetPage x0 x1 x2).1 (.slice Ak24_0 nk24_0 pk24_0) (.slice Ak12_0 nk12_0 pk12_0) w25 HM_g0.out.rd HM_w0.out.rd (by omega)).mono ?_
  rintro e w29 ⟨rfl, hb_⟩
  have HX_aT' := Lib.hid ((hb_.block s0 (by omega)).trans HX_aT.out)
  clear HX_aT
  have HX_aT := HX_aT'
  clear HX_aT'
  have HX_aE' := Lib.hid ((hb_.block s2 (by omega)).trans HX_aE.out)
  clear HX_aE
  have HX_aE := HX_aE'
  clear HX_aE'
  have HX_w0' := Lib.hid ((hb_.block b9 (by omega)).trans HX_w0.out)
  clear HX_w0
  have HX_w0 := HX_w0'
  clear HX_w0'
  have HX_x0' := Lib.hid ((hb_.block s18 (by omega)).trans HX_x0.out)
  clear HX_x0
  have HX_x0 := HX_x0'
  clear HX_x0'
  have HX_g0' := Lib.hid ((hb_.block b21 (by omega)).trans HX_g0.out)
  clear HX_g0
  have HX_g0 := HX_g0'
  clear HX_g0'
  have HM_w0' := Lib.hid (HM_w0.out.below hb_)
  clear HM_w0
  have HM_w0 := HM_w0'
  clear HM_w0'
  have HM_x0' := Lib.hid (HM_x0.out.below hb_)
  clear HM_x0
  have HM_x0 := HM_x0'
  clear HM_x0'
  have HM_g0' := Lib.hid (HM_g0.out.below hb_)
  clear HM_g0
  have HM_g0 := HM_g0'
  clear HM_g0'
  have HBL' := Lib.hid (below_step HBL.out hb_)
  clear HBL
  have HBL := HBL'
  clear HBL'
  obtain ⟨s30, hs30⟩ : ∃ s, w29.heap.size = s := ⟨_, rfl⟩
  have hls30 : s26 ≤ s30 := by have := hb_.size; omega
  clear hb_
  go_wp2_with fail
  have HT : Hid (∀ w', Below w29.heap.size w29 w' → Calls Try.prog 24 #[(.agg #[c0_0])] w' (fun e w'' => ∃ (A_0 : Option Addr) (n_0 p_0 : Nat), e = .returned (.agg #[.slice A_0 n_0 p_0]) ∧ Rd w'' (eTable x0) [.slice A_0 n_0 p_0] ∧ Below w29.heap.size w29 w'')) := fun w' hb => (h_toTable x0 c0_0 w' (raw_below (below_step HBL.out hb) _ HR0.out) (by omega)).mono (by
    rintro e w'' ⟨u_, rfl, hm_, hb_⟩
    have hsh_ := hm_
    obtain ⟨bs_, hsh_, _⟩ := hsh_
    obtain ⟨A_0, n_0, p_0, rfl⟩ := sinv_Table hsh_
    exact ⟨A_0, n_0, p_0, rfl, hm_.rd, below_step hb hb_⟩)
  have HE : Hid (∀ w' (A_0 : Option Addr) (n_0 p_0 : Nat), Below w29.heap.size w29 w' → Rd w' (eTable x0) [.slice A_0 n_0 p_0] → Calls Try.prog 19 #[(.agg #[.slice Ak17_0 nk17_0 pk17_0]), (.agg #[.slice A_0 n_0 p_0])] w' (fun e w'' => e = .returned (.bool true) ∧ Below w29.heap.size w29 w'')) := fun w' A_0 n_0 p_0 hb hr => (h_eqTable x0 (.slice Ak17_0 nk17_0 pk17_0) (.slice A_0 n_0 p_0) w' (HM_x0.out.rd.below hb) hr (by omega)).mono (fun _ _ h => ⟨h.1, below_step hb h.2⟩)
  have hrf_ : Below w29.heap.size w29 w29.drew := (Below.refl _ _).drew
  have HK : Hid (∀ w', Below w29.heap.size w29 w' → w'.cell? ⟨s18, 0, none⟩ = some (.slice Ak17_0 nk17_0 pk17_0) ∧ w'.cell? ⟨s0, 0, none⟩ = some (c0_0) ∧ Below w29.heap.size w29 w') := fun w' hb => ⟨cell_below hb (cell_of_block HX_x0.out 0), cell_below hb (cell_of_block HX_aT.out 0), hb⟩
  go_region_held3 (fun w' => w'.cell? ⟨s18, 0, none⟩ = some (.slice Ak17_0 nk17_0 pk17_0) ∧ w'.cell? ⟨s0, 0, none⟩ = some (c0_0) ∧ Below w29.heap.size w29 w') (first | exact HK.out _ hrf_ | exact HK.out _ (by assumption)) (first | (go_at_call 24; refine (HT.out _ (by first | exact hrf_ | assumption)).mono ?_; rintro e wt_ ⟨A_0, n_0, p_0, rfl, hrt_, hbt_⟩) | (go_at_call 19; refine (HE.out _ _ _ _ (by first | exact hbt_ | assumption) (by first | exact hrt_ | assumption)).mono ?_; rintro e we_ ⟨rfl, hbe_⟩))
  obtain ⟨w31, hn_⟩ : ∃ z, we_ = z := ⟨_, rfl⟩
  rw [hn_] at hbe_
  rw [hn_]
  have HX_aT' := Lib.hid ((hbe_.block s0 (by omega)).trans HX_aT.out)
  clear HX_aT
  have HX_aT := HX_aT'
  clear HX_aT'
  have HX_aE' := Lib.hid ((hbe_.block s2 (by omega)).trans HX_aE.out)
  clear HX_aE
  have HX_aE := HX_aE'
  clear HX_aE'
  have HX_w0' := Lib.hid ((hbe_.block b9 (by omega)).trans HX_w0.out)
  clear HX_w0
  have HX_w0 := HX_w0'
  clear HX_w0'
  have HX_x0' := Lib.hid ((hbe_.block s18 (by omega)).trans HX_x0.out)
  clear HX_x0
  have HX_x0 := HX_x0'
  clear HX_x0'
  have HX_g0' := Lib.hid ((hbe_.block b21 (by omega)).trans HX_g0.out)
  clear HX_g0
  have HX_g0 := HX_g0'
  clear HX_g0'
  have HM_w0' := Lib.hid (HM_w0.out.below hbe_)
  clear HM_w0
  have HM_w0 := HM_w0'
  clear HM_w0'
  have HM_x0' := Lib.hid (HM_x0.out.below hbe_)
  clear HM_x0
  have HM_x0 := HM_x0'
  clear HM_x0'
  have HM_g0' := Lib.hid (HM_g0.out.below hbe_)
  clear HM_g0
  have HM_g0 := HM_g0'
  clear HM_g0'
  have HBL' := Lib.hid (below_step HBL.out hbe_)
  clear HBL
  have HBL := HBL'
  clear HBL'
  obtain ⟨s32, hs32⟩ : ∃ s, w31.heap.size = s := ⟨_, rfl⟩
  have hls32 : s30 ≤ s32 := by have := hbe_.size; omega
  clear hbe_ hbt_ HT HE HK hrf_ hn_ hrt_
  have hc33 : w31.cell? ⟨s18, 0, none⟩ = some (.slice Ak17_0 nk17_0 pk17_0) := cell_of_block HX_x0.out 0
  go_wp2_with fail
  have hcb := cntb_Table (x0)
  have hct := cntTop_le (eTable x0)
  refine (mark_in HM_x0.out (fun bs_ ho_ hn_ => h_markTable (x0) (.slice Ak17_0 nk17_0 pk17_0) bs_ 1 w31 ho_ hn_ (by omega) (by omega))).mono ?_
  rintro e w34 ⟨rfl, hm_, ht_⟩
  obtain ⟨k35, hkk35⟩ : ∃ q : Nat, 1 + (eTable x0).cntTop = q := ⟨_, rfl⟩
  rw [hkk35]
  have HKk35 := Lib.hid hkk35
  clear hcb hct hkk35
  have HX_aT' := Lib.hid ((ht_.block s0 (by omega) (by omega)).trans HX_aT.out)
  clear HX_aT
  have HX_aT := HX_aT'
  clear HX_aT'
  have HX_aE' := Lib.hid ((ht_.block s2 (by omega) (by omega)).trans HX_aE.out)
  clear HX_aE
  have HX_aE := HX_aE'
  clear HX_aE'
  have HX_w0' := Lib.hid ((ht_.block b9 (by omega) (by omega)).trans HX_w0.out)
  clear HX_w0
  have HX_w0 := HX_w0'
  clear HX_w0'
  have HX_x0' := Lib.hid ((ht_.block s18 (by omega) (by omega)).trans HX_x0.out)
  clear HX_x0
  have HX_x0 := HX_x0'
  clear HX_x0'
  have HX_g0' := Lib.hid ((ht_.block b21 (by omega) (by omega)).trans HX_g0.out)
  clear HX_g0
  have HX_g0 := HX_g0'
  clear HX_g0'
  have HM_w0' := Lib.hid (HM_w0.out.turn ht_ (by omega))
  clear HM_w0
  have HM_w0 := HM_w0'
  clear HM_w0'
  have HM_g0' := Lib.hid (HM_g0.out.turn ht_ (by omega))
  clear HM_g0
  have HM_g0 := HM_g0'
  clear HM_g0'
  clear HM_x0
  have HM_x0 := Lib.hid hm_
  have HBL' := Lib.hid (HBL.out.trans (ht_.below (B := w.heap.size) (by omega) (by omega)))
  clear HBL
  have HBL := HBL'
  clear HBL'
  obtain ⟨s36, hs36⟩ : ∃ s, w34.heap.size = s := ⟨_, rfl⟩
  have hls36 : s32 ≤ s36 := by have := ht_.size; omega
  clear hm_ ht_
  have hc37 : w34.cell? ⟨b21, 0, none⟩ = some (.slice Ak24_0 nk24_0 pk24_0) := cell_of_block HX_g0.out 0
  have hc38 : w34.cell? ⟨b9, 0, none⟩ = some (.slice Ak12_0 nk12_0 pk12_0) := cell_of_block HX_w0.out 0
  go_wp2_with fail
  refine (h_eqTable (pSetPage x0 x1 x2).1 (.slice Ak24_0 nk24_0 pk24_0) (.slice Ak12_0 nk12_0 pk12_0) w34 HM_g0.out.rd HM_w0.out.rd (by omega)).mono ?_
  rintro e w39 ⟨rfl, hb_⟩
  have HX_aT' := Lib.hid ((hb_.block s0 (by omega)).trans HX_aT.out)
  clear HX_aT
  have HX_aT := HX_aT'
  clear HX_aT'
  have HX_aE' := Lib.hid ((hb_.block s2 (by omega)).trans HX_aE.out)
  clear HX_aE
  have HX_aE := HX_aE'
  clear HX_aE'
  have HX_w0' := Lib.hid ((hb_.block b9 (by omega)).trans HX_w0.out)
  clear HX_w0
  have HX_w0 := HX_w0'
  clear HX_w0'
  have HX_x0' := Lib.hid ((hb_.block s18 (by omega)).trans HX_x0.out)
  clear HX_x0
  have HX_x0 := HX_x0'
  clear HX_x0'
  have HX_g0' := Lib.hid ((hb_.block b21 (by omega)).trans HX_g0.out)
  clear HX_g0
  have HX_g0 := HX_g0'
  clear HX_g0'
  have HM_w0' := Lib.hid (HM_w0.out.below hb_)
  clear HM_w0
  have HM_w0 := HM_w0'
  clear HM_w0'
  have HM_x0' := Lib.hid (HM_x0.out.below hb_)
  clear HM_x0
  have HM_x0 := HM_x0'
  clear HM_x0'
  have HM_g0' := Lib.hid (HM_g0.out.below hb_)
  clear HM_g0
  have HM_g0 := HM_g0'
  clear HM_g0'
  have HBL' := Lib.hid (below_step HBL.out hb_)
  clear HBL
  have HBL := HBL'
  clear HBL'
  obtain ⟨s40, hs40⟩ : ∃ s, w39.heap.size = s := ⟨_, rfl⟩
  have hls40 : s36 ≤ s40 := by have := hb_.size; omega
  clear hb_
  have hc41 : w39.cell? ⟨b21, 0, none⟩ = some (.slice Ak24_0 nk24_0 pk24_0) := cell_of_block HX_g0.out 0
  go_wp2_with fail
  have hcb := cntb_Table (pSetPage x0 x1 x2).1
  have hct := cntTop_le (eTable (pSetPage x0 x1 x2).1)
  refine (mark_in HM_g0.out (fun bs_ ho_ hn_ => h_markTable (pSetPage x0 x1 x2).1 (.slice Ak24_0 nk24_0 pk24_0) bs_ 1 w39 ho_ hn_ (by omega) (by omega))).mono ?_
  rintro e w42 ⟨rfl, hm_, ht_⟩
  obtain ⟨k43, hkk43⟩ : ∃ q : Nat, 1 + (eTable (pSetPage x0 x1 x2).1).cntTop = q := ⟨_, rfl⟩
  rw [hkk43]
  have HKk43 := Lib.hid hkk43
  clear hcb hct hkk43
  have HX_aT' := Lib.hid ((ht_.block s0 (by omega) (by omega)).trans HX_aT.out)
  clear HX_aT
  have HX_aT := HX_aT'
  clear HX_aT'
  have HX_aE' := Lib.hid ((ht_.block s2 (by omega) (by omega)).trans HX_aE.out)
  clear HX_aE
  have HX_aE := HX_aE'
  clear HX_aE'
  have HX_w0' := Lib.hid ((ht_.block b9 (by omega) (by omega)).trans HX_w0.out)
  clear HX_w0
  have HX_w0 := HX_w0'
  clear HX_w0'
  have HX_x0' := Lib.hid ((ht_.block s18 (by omega) (by omega)).trans HX_x0.out)
  clear HX_x0
  have HX_x0 := HX_x0'
  clear HX_x0'
  have HX_g0' := Lib.hid ((ht_.block b21 (by omega) (by omega)).trans HX_g0.out)
  clear HX_g0
  have HX_g0 := HX_g0'
  clear HX_g0'
  have HM_w0' := Lib.hid (HM_w0.out.turn ht_ (by omega))
  clear HM_w0
  have HM_w0 := HM_w0'
  clear HM_w0'
  have HM_x0' := Lib.hid (HM_x0.out.turn ht_ (by omega))
  clear HM_x0
  have HM_x0 := HM_x0'
  clear HM_x0'
  clear HM_g0
  have HM_g0 := Lib.hid hm_
  have HBL' := Lib.hid (HBL.out.trans (ht_.below (B := w.heap.size) (by omega) (by omega)))
  clear HBL
  have HBL := HBL'
  clear HBL'
  obtain ⟨s44, hs44⟩ : ∃ s, w42.heap.size = s := ⟨_, rfl⟩
  have hls44 : s40 ≤ s44 := by have := ht_.size; omega
  clear hm_ ht_
  have hc45 : w42.cell? ⟨b21, 0, none⟩ = some (.slice Ak24_0 nk24_0 pk24_0) := cell_of_block HX_g0.out 0
  go_wp2_with fail
  have hcb := cntb_Table (pSetPage x0 x1 x2).1
  have hct := cntTop_le (eTable (pSetPage x0 x1 x2).1)
  refine (h_heldTable (pSetPage x0 x1 x2).1 (.slice Ak24_0 nk24_0 pk24_0) 1 w42 HM_g0.out.rd (by omega) (by omega)).mono ?_
  rintro e w46 ⟨rfl, hb_⟩
  rw [HKk43.out]
  clear hcb hct
  have HX_aT' := Lib.hid ((hb_.block s0 (by omega)).trans HX_aT.out)
  clear HX_aT
  have HX_aT := HX_aT'
  clear HX_aT'
  have HX_aE' := Lib.hid ((hb_.block s2 (by omega)).trans HX_aE.out)
  clear HX_aE
  have HX_aE := HX_aE'
  clear HX_aE'
  have HX_w0' := Lib.hid ((hb_.block b9 (by omega)).trans HX_w0.out)
  clear HX_w0
  have HX_w0 := HX_w0'
  clear HX_w0'
  have HX_x0' := Lib.hid ((hb_.block s18 (by omega)).trans HX_x0.out)
  clear HX_x0
  have HX_x0 := HX_x0'
  clear HX_x0'
  have HX_g0' := Lib.hid ((hb_.block b21 (by omega)).trans HX_g0.out)
  clear HX_g0
  have HX_g0 := HX_g0'
  clear HX_g0'
  have HM_w0' := Lib.hid (HM_w0.out.below hb_)
  clear HM_w0
  have HM_w0 := HM_w0'
  clear HM_w0'
  have HM_x0' := Lib.hid (HM_x0.out.below hb_)
  clear HM_x0
  have HM_x0 := HM_x0'
  clear HM_x0'
  have HM_g0' := Lib.hid (HM_g0.out.below hb_)
  clear HM_g0
  have HM_g0 := HM_g0'
  clear HM_g0'
  have HBL' := Lib.hid (below_step HBL.out hb_)
  clear HBL
  have HBL := HBL'
  clear HBL'
  obtain ⟨s47, hs47⟩ : ∃ s, w46.heap.size = s := ⟨_, rfl⟩
  have hls47 : s44 ≤ s47 := by have := hb_.size; omega
  clear hb_
  go_upto_region 24 with fail
  have HT0 : Hid (∀ w', Below w46.heap.size w46 w' → Calls Try.prog 24 #[(.agg #[c0_0])] w' (fun e w'' => ∃ (A0_0 : Option Addr) (n0_0 p0_0 : Nat), e = .returned (.agg #[.slice A0_0 n0_0 p0_0]) ∧ Rd w'' (eTable x0) [.slice A0_0 n0_0 p0_0] ∧ Below w46.heap.size w46 w'' ∧ Below w'.heap.size w' w'')) := fun w' hb => (h_toTable x0 c0_0 w' (raw_below (below_step HBL.out hb) _ HR0.out) (by omega)).mono (by
    rintro e w'' ⟨u_, rfl, hm_, hb_⟩
    have hsh_ := hm_
    obtain ⟨bs_, hsh_, _⟩ := hsh_
    obtain ⟨A0_0, n0_0, p0_0, rfl⟩ := sinv_Table hsh_
    exact ⟨A0_0, n0_0, p0_0, rfl, hm_.rd, below_step hb hb_, hb_⟩)
  have HT2 : Hid (∀ w', Below w46.heap.size w46 w' → Calls Try.prog 26 #[(.agg #[.int .i64 x2.Mode, .int .i64 x2.Frame])] w' (fun e w'' => e = .returned ((.agg #[.int .i64 x2.Mode, .int .i64 x2.Frame])) ∧ Below w46.heap.size w46 w'' ∧ Below w'.heap.size w' w'')) := fun w' hb => (h_toEntry x2 w').mono (fun _ _ h => ⟨h.1, below_step hb h.2, h.2⟩)
  have HF : Hid (∀ w' (A0_0 : Option Addr) (n0_0 p0_0 : Nat) (hr0_ : Rd w' (eTable x0) [.slice A0_0 n0_0 p0_0]), Below w46.heap.size w46 w' → Calls Try.prog 13 #[(.agg #[.slice A0_0 n0_0 p0_0]), (.int .i64 x1), (.agg #[.int .i64 x2.Mode, .int .i64 x2.Frame])] w' (fun e w'' => ∃ (Ar_0 : Option Addr) (nr_0 pr_0 : Nat), e = .returned (.tuple #[(.agg #[.slice Ar_0 nr_0 pr_0]), (.bool ((pSetPage x0 x1 x2).2))]) ∧ Owned w'' w'.heap.size (eTable (pSetPage x0 x1 x2).1) [.slice Ar_0 nr_0 pr_0] ∧ Below w46.heap.size w46 w'' ∧ Below w'.heap.size w' w'')) := fun w' A0_0 n0_0 p0_0 hr0_ hb => (impl_SetPage x0 (.slice A0_0 n0_0 p0_0) x1 x2 w' hr0_ hsz0 hw1).mono (by
    rintro e w'' ⟨u_, rfl, hm_, hb_⟩
    have hsh_ := hm_
    obtain ⟨bs_, hsh_, _⟩ := hsh_
    obtain ⟨Ar_0, nr_0, pr_0, rfl⟩ := sinv_Table hsh_
    exact ⟨Ar_0, nr_0, pr_0, rfl, hm_, below_step hb hb_, hb_⟩)
  have hrf_ : Below w46.heap.size w46 w46.drew := (Below.refl _ _).drew
  have HK : Hid (∀ w', Below w46.heap.size w46 w' → w'.cell? ⟨s0, 0, none⟩ = some (c0_0) ∧ w'.cell? ⟨s2, 0, none⟩ = some (.int .i64 x2.Mode) ∧ w'.cell? ⟨s2, 1, none⟩ = some (.int .i64 x2.Frame) ∧ Below w46.heap.size w46 w') := fun w' hb => ⟨cell_below hb (cell_of_block HX_aT.out 0), cell_below hb (cell_of_block HX_aE.out 0), cell_below hb (cell_of_block HX_aE.out 1), hb⟩
  go_cut [16, 17] (fun s16_ s17_ wx => ∃ (blk_ lo_ hi_ : Nat) (Ar_0 : Option Addr) (nr_0 pr_0 : Nat), s16_ = .pointer (some ⟨blk_, 0, none⟩) ∧ s17_ = (.bool ((pSetPage x0 x1 x2).2)) ∧ Hid (BoxIn w46 28 (eTable (pSetPage x0 x1 x2).1) [.slice Ar_0 nr_0 pr_0] lo_ hi_ blk_ wx))
  case first =>
    clear hs47
    go_region_held3 (fun w' => w'.cell? ⟨s0, 0, none⟩ = some (c0_0) ∧ w'.cell? ⟨s2, 0, none⟩ = some (.int .i64 x2.Mode) ∧ w'.cell? ⟨s2, 1, none⟩ = some (.int .i64 x2.Frame) ∧ Below w46.heap.size w46 w') (first | exact HK.out _ (by assumption) | exact HK.out _ below_al0 | exact HK.out _ (below_al (by assumption)) | exact HK.out _ (hBf_.setCell (p := ⟨_, 0, none⟩) hga_ _)) (first | (go_at_call 24; (with_reducible refine (HT0.out (w46.alloc (.cells #[.slice none 0 0] 28)).drew below_al0).mono ?_); rintro e wt0_ ⟨A0_0, n0_0, p0_0, rfl, hr0_, hBt0_, hbt0_⟩; have ha_ := (hbt0_.block w46.heap.size (by simp)).trans (heap_alloc_new w46 (.cells #[.slice none 0 0] 28)); have hga_ : w46.heap.size ≤ w46.heap.size := Nat.le_refl _) | (go_at_call 24; (with_reducible refine (HT0.out w46.drew hrf_).mono ?_); rintro e wt0_ ⟨A0_0, n0_0, p0_0, rfl, hr0_, hBt0_, hbt0_⟩) | (go_at_call 26; (with_reducible refine (HT2.out (wt0_.alloc (.cells #[.slice none 0 0] 28)) (below_al hBt0_)).mono ?_); rintro e wt2_ ⟨rfl, hBt2_, hbt2_⟩; have hr0_ : Rd wt2_ (eTable x0) [.slice A0_0 n0_0 p0_0] := (by first | exact hr0_.below hbt2_ | exact (hr0_.alloc _).below hbt2_); have ha_ := (hbt2_.block wt0_.heap.size (by simp)).trans (heap_alloc_new wt0_ (.cells #[.slice none 0 0] 28)); have hga_ : w46.heap.size ≤ wt0_.heap.size := hBt0_.size) | (go_at_call 26; (with_reducible refine (HT2.out wt0_ hBt0_).mono ?_); rintro e wt2_ ⟨rfl, hBt2_, hbt2_⟩; have hr0_ : Rd wt2_ (eTable x0) [.slice A0_0 n0_0 p0_0] := (by first | exact hr0_.below hbt2_ | exact (hr0_.alloc _).below hbt2_); have ha_ := (hbt2_.block _ (lt_of_block ha_)).trans ha_) | (go_at_call 26; (with_reducible refine (HT2.out wt0_ hBt0_).mono ?_); rintro e wt2_ ⟨rfl, hBt2_, hbt2_⟩; have hr0_ : Rd wt2_ (eTable x0) [.slice A0_0 n0_0 p0_0] := (by first | exact hr0_.below hbt2_ | exact (hr0_.alloc _).below hbt2_)) | (go_at_call 13; (with_reducible refine (HF.out (wt2_.alloc (.cells #[.slice none 0 0] 28)) _ _ _ (hr0_.alloc _)  (below_al hBt2_)).mono ?_); rintro e wf_ ⟨Ar_0, nr_0, pr_0, rfl, ho_, hBf_, hbf_⟩; have ha_ := (hbf_.block wt2_.heap.size (by simp)).trans (heap_alloc_new wt2_ (.cells #[.slice none 0 0] 28)); have hga_ : w46.heap.size ≤ wt2_.heap.size := hBt2_.size; obtain ⟨q0a_, q0b_, hbx_⟩ := boxin_old1 hBf_ ha_ hga_ ho_ (below_al (o := (.cells #[.slice none 0 0] 28)) hBt2_).size hbf_.size (by simp)) | (go_at_call 13; (with_reducible refine (HF.out wt2_ _ _ _ hr0_  hBt2_).mono ?_); rintro e wf_ ⟨Ar_0, nr_0, pr_0, rfl, ho_, hBf_, hbf_⟩; have hla_ := lt_of_block ha_; have ha_ := (hbf_.block _ (lt_of_block ha_)).trans ha_; obtain ⟨q0a_, q0b_, hbx_⟩ := boxin_old1 hBf_ ha_ hga_ ho_ hBt2_.size hbf_.size hla_) | (go_at_call 13; (with_reducible refine (HF.out wt2_ _ _ _ hr0_  hBt2_).mono ?_); rintro e wf_ ⟨Ar_0, nr_0, pr_0, rfl, ho_, hBf_, hbf_⟩; have hbx_ := Lib.hid (boxin_new (T := 28) hBf_ ho_ hBt2_.size hbf_.size)))
    all_goals go_wp2_with fail
    all_goals (go_meet; exact ⟨_, _, _, _, _, _, rfl, rfl, hbx_.out⟩)
  clear HF HK hrf_ HT0 HT2
  obtain ⟨b48, l49, m50, Ak51_0, nk51_0, pk51_0, rfl, rfl, hbx_⟩ := hcut
  have hb_ := hbx_.out.below
  obtain ⟨w52, hnw_⟩ : ∃ z, wc = z := ⟨_, rfl⟩
  rw [hnw_] at hbx_ hb_
  rw [hnw_]
  clear hnw_
  have HX_aT' := Lib.hid ((hb_.block s0 (by omega)).trans HX_aT.out)
  clear HX_aT
  have HX_aT := HX_aT'
  clear HX_aT'
  have HX_aE' := Lib.hid ((hb_.block s2 (by omega)).trans HX_aE.out)
  clear HX_aE
  have HX_aE := HX_aE'
  clear HX_aE'
  have HX_w0' := Lib.hid ((hb_.block b9 (by omega)).trans HX_w0.out)
  clear HX_w0
  have HX_w0 := HX_w0'
  clear HX_w0'
  have HX_x0' := Lib.hid ((hb_.block s18 (by omega)).trans HX_x0.out)
  clear HX_x0
  have HX_x0 := HX_x0'
  clear HX_x0'
  have HX_g0' := Lib.hid ((hb_.block b21 (by omega)).trans HX_g0.out)
  clear HX_g0
  have HX_g0 := HX_g0'
  clear HX_g0'
  have HM_w0' := Lib.hid (HM_w0.out.below hb_)
  clear HM_w0
  have HM_w0 := HM_w0'
  clear HM_w0'
  have HM_x0' := Lib.hid (HM_x0.out.below hb_)
  clear HM_x0
  have HM_x0 := HM_x0'
  clear HM_x0'
  have HM_g0' := Lib.hid (HM_g0.out.below hb_)
  clear HM_g0
  have HM_g0 := HM_g0'
  clear HM_g0'
  have HBL' := Lib.hid (below_step HBL.out hb_)
  clear HBL
  have HBL := HBL'
  clear HBL'
  have hx_ := hbx_.out.block
  obtain ⟨s53, hs53⟩ : ∃ s, w52.heap.size = s := ⟨_, rfl⟩
  have hi1_ := hbx_.out.ilo
  have hi2_ := hbx_.out.ihi
  have hi3_ := hbx_.out.top
  have hi4_ := hbx_.out.ge
  have hi5_ := hbx_.out.lt
  have hi6_ := hbx_.out.apart
  rw [hs47] at hi1_ hi4_
  rw [hs53] at hi3_ hi5_
  have hlob48 := hi1_
  clear hi1_
  have hhib48 := hi2_
  clear hi2_
  have htpb48 := hi3_
  clear hi3_
  have hgeb48 := hi4_
  clear hi4_
  have hltb48 := hi5_
  clear hi5_
  have hapb48 := hi6_
  clear hi6_
  have hls53 : s47 ≤ s53 := by omega
  have HX_h0 := Lib.hid hx_
  clear hx_
  have HM_h0 := Lib.hid hbx_.out.own
  clear hbx_ hb_
  have hc54 : w52.cell? ⟨b48, 0, none⟩ = some (.slice Ak51_0 nk51_0 pk51_0) := cell_of_block HX_h0.out 0
  have hc55 : w52.cell? ⟨b9, 0, none⟩ = some (.slice Ak12_0 nk12_0 pk12_0) := cell_of_block HX_w0.out 0
  go_wp2_with fail
  refine (h_eqTable (pSetPage x0 x1 x2).1 (.slice Ak51_0 nk51_0 pk51_0) (.slice Ak12_0 nk12_0 pk12_0) w52 HM_h0.out.rd HM_w0.out.rd (by omega)).mono ?_
  rintro e w56 ⟨rfl, hb_⟩
  have HX_aT' := Lib.hid ((hb_.block s0 (by omega)).trans HX_aT.out)
  clear HX_aT
  have HX_aT := HX_aT'
  clear HX_aT'
  have HX_aE' := Lib.hid ((hb_.block s2 (by omega)).trans HX_aE.out)
  clear HX_aE
  have HX_aE := HX_aE'
  clear HX_aE'
  have HX_w0' := Lib.hid ((hb_.block b9 (by omega)).trans HX_w0.out)
  clear HX_w0
  have HX_w0 := HX_w0'
  clear HX_w0'
  have HX_x0' := Lib.hid ((hb_.block s18 (by omega)).trans HX_x0.out)
  clear HX_x0
  have HX_x0 := HX_x0'
  clear HX_x0'
  have HX_g0' := Lib.hid ((hb_.block b21 (by omega)).trans HX_g0.out)
  clear HX_g0
  have HX_g0 := HX_g0'
  clear HX_g0'
  have HX_h0' := Lib.hid ((hb_.block b48 (by omega)).trans HX_h0.out)
  clear HX_h0
  have HX_h0 := HX_h0'
  clear HX_h0'
  have HM_w0' := Lib.hid (HM_w0.out.below hb_)
  clear HM_w0
  have HM_w0 := HM_w0'
  clear HM_w0'
  have HM_x0' := Lib.hid (HM_x0.out.below hb_)
  clear HM_x0
  have HM_x0 := HM_x0'
  clear HM_x0'
  have HM_g0' := Lib.hid (HM_g0.out.below hb_)
  clear HM_g0
  have HM_g0 := HM_g0'
  clear HM_g0'
  have HM_h0' := Lib.hid (HM_h0.out.below hb_)
  clear HM_h0
  have HM_h0 := HM_h0'
  clear HM_h0'
  have HBL' := Lib.hid (below_step HBL.out hb_)
  clear HBL
  have HBL := HBL'
  clear HBL'
  obtain ⟨s57, hs57⟩ : ∃ s, w56.heap.size = s := ⟨_, rfl⟩
  have hls57 : s53 ≤ s57 := by have := hb_.size; omega
  clear hb_
  have hc58 : w56.cell? ⟨b21, 0, none⟩ = some (.slice Ak24_0 nk24_0 pk24_0) := cell_of_block HX_g0.out 0
  go_wp2_with fail
  have hcb := cntb_Table (pSetPage x0 x1 x2).1
  have hct := cntTop_le (eTable (pSetPage x0 x1 x2).1)
  refine (h_heldTable (pSetPage x0 x1 x2).1 (.slice Ak24_0 nk24_0 pk24_0) 1 w56 HM_g0.out.rd (by omega) (by omega)).mono ?_
  rintro e w59 ⟨rfl, hb_⟩
  rw [HKk43.out]
  clear hcb hct
  have HX_aT' := Lib.hid ((hb_.block s0 (by omega)).trans HX_aT.out)
  clear HX_aT
  have HX_aT := HX_aT'
  clear HX_aT'
  have HX_aE' := Lib.hid ((hb_.block s2 (by omega)).trans HX_aE.out)
  clear HX_aE
  have HX_aE := HX_aE'
  clear HX_aE'
  have HX_w0' := Lib.hid ((hb_.block b9 (by omega)).trans HX_w0.out)
  clear HX_w0
  have HX_w0 := HX_w0'
  clear HX_w0'
  have HX_x0' := Lib.hid ((hb_.block s18 (by omega)).trans HX_x0.out)
  clear HX_x0
  have HX_x0 := HX_x0'
  clear HX_x0'
  have HX_g0' := Lib.hid ((hb_.block b21 (by omega)).trans HX_g0.out)
  clear HX_g0
  have HX_g0 := HX_g0'
  clear HX_g0'
  have HX_h0' := Lib.hid ((hb_.block b48 (by omega)).trans HX_h0.out)
  clear HX_h0
  have HX_h0 := HX_h0'
  clear HX_h0'
  have HM_w0' := Lib.hid (HM_w0.out.below hb_)
  clear HM_w0
  have HM_w0 := HM_w0'
  clear HM_w0'
  have HM_x0' := Lib.hid (HM_x0.out.below hb_)
  clear HM_x0
  have HM_x0 := HM_x0'
  clear HM_x0'
  have HM_g0' := Lib.hid (HM_g0.out.below hb_)
  clear HM_g0
  have HM_g0 := HM_g0'
  clear HM_g0'
  have HM_h0' := Lib.hid (HM_h0.out.below hb_)
  clear HM_h0
  have HM_h0 := HM_h0'
  clear HM_h0'
  have HBL' := Lib.hid (below_step HBL.out hb_)
  clear HBL
  have HBL := HBL'
  clear HBL'
  obtain ⟨s60, hs60⟩ : ∃ s, w59.heap.size = s := ⟨_, rfl⟩
  have hls60 : s57 ≤ s60 := by have := hb_.size; omega
  clear hb_
  go_wp2
  go_ret
  exact ⟨rfl, HBL.out⟩
set_option maxRecDepth 100000 in
theorem lifted (os : Os) (started : os.Started) (H : Type) (enc : TypeId × Value → H) :
    ReturnsInHanded {} Try.checked os 6 .any (Rows.fnExactSetPageSpec.pre6 enc Try.prog Try.f6 Rows.fnExactSetPageRow.domain false) (Rows.fnExactSetPageSpec.post enc Try.prog Try.f6 false true false false) := by
  refine returnsInHanded_of_change (C := Try.checked) own started (by kernel_rfl) Try.func6
    (ChangeSpec.witness6 (enc := enc) (C := Try.checked) false ⟨#[], #[.agg #[.slice none 0 0], .int .i64 0, .agg #[.int .i64 0, .int .i64 0]], []⟩ 8 (by kernel_rfl) (by kernel_rfl) (by kernel_rfl) (by kernel_rfl)) ?_
  intro W base args ds gs before hval0 hW hcnd _
  have hval : ∀ (j : Nat) t v, Try.f6.params[j]? = some t → args[j]? = some v → Value.okWide Try.prog W .any base t v := hval0
  have hW' := hW
  obtain ⟨p, q, hA0, hV, rfl, hfz, hnd⟩ := hW
  have hA : DataW.TrodAll enc Try.prog W 0 (fun _ => true) true Try.f6.params.toList args.toList ds p := hA0
  rw [Try.params6] at hA hval
  obtain ⟨v0, vs0, d0, ds0, p0, q0, hargs, rfl, rfl, h0, r0⟩ := trodAll_cons hA
  obtain ⟨v1, vs1, d1, ds1, p1, q1, rfl, rfl, rfl, h1, r1⟩ := trodAll_cons r0
  obtain ⟨v2, vs2, d2, ds2, p2, q2, rfl, rfl, rfl, h2, r2⟩ := trodAll_cons r1
  obtain ⟨rfl, rfl, rfl⟩ := trodAll_nil r2
  obtain rfl : args = #[v0, v1, v2] := by cases args; simp_all
  obtain ⟨rfl, rfl⟩ := trodVars_none hV
  have k0 := h0
  have lt0 : ∀ x ∈ p0, x.block < W.heap.size := by obtain ⟨m, hm⟩ := k0; exact DataW.trod_lt m _ _ _ hm
  obtain ⟨x0, raw0, ok0⟩ := opens_trod opens_Table h0
  obtain ⟨cs0, rfl, _⟩ := okWide_struct Try.underlying43 (hval 0 43 v0 rfl rfl)
  obtain ⟨cs0⟩ := cs0
  have raw0 : Raw W (eTable x0) cs0 := raw0
  obtain ⟨c0_0, rfl⟩ := rinv_Table raw0
  obtain ⟨a1, rfl, rfl, rfl, w1⟩ := open_int Try.underlying3 (hval 1 3 v1 rfl rfl) h1
  have k2 := h2
  have lt2 : ∀ x ∈ p2, x.block < W.heap.size := by obtain ⟨m, hm⟩ := k2; exact DataW.trod_lt m _ _ _ hm
  obtain ⟨x2, raw2, ok2⟩ := opens_trod opens_Entry h2
  obtain ⟨cs2, rfl, _⟩ := okWide_struct Try.underlying47 (hval 2 47 v2 rfl rfl)
  obtain ⟨cs2⟩ := cs2
  have raw2 : Raw W (eEntry x2) cs2 := raw2
  obtain rfl := rinv_Entry raw2
  clear hA0 hval0
  refine (walk x0 c0_0 a1 x2 W raw0 ok0 (okI_wf w1) ok2).mono fun e W' ⟨he, bel⟩ => ?_
  subst he
  exact ⟨_, rfl, _, _, _, [], _, [], hW', trodAll_mk1 (shut_bool Try.underlying4 _), (trodAll_cons_mk (Below.trod laidOut (by kernel_rfl) (of_decide_eq_true (by kernel_rfl)) k0 bel lt0) (trodAll_cons_mk (shut_int Try.underlying3 w1) (trodAll_cons_mk (Below.trod laidOut (by kernel_rfl) (of_decide_eq_true (by kernel_rfl)) k2 bel lt2) trodAll_mk0))), rfl, bel.frame _, fun h => by cases h⟩
theorem over : Rows.fnExactSetPageRow.holds Try.pinned (OpenSpec.ofChange Rows.fnExactSetPageSpec) :=
  OpenClaim.holds_of_wide 6 Try.f6 rfl rfl rfl rfl rfl rfl rfl ⟨rfl, rfl, rfl, rfl, rfl⟩ rfl rfl rfl rfl rfl (by kernel_rfl) Try.func6 (by kernel_rfl)
    (of_decide_eq_true (by kernel_rfl)) (by unfold Func.isWrapper; first | (rw [if_pos (by decide +kernel)]; kernel_rfl) | (rw [if_neg (by decide +kernel)]; exact ⟨rfl, rfl⟩))
    (fun os started H enc _ => lifted os started H enc)
theorem proved : Rows.FnExactSetPageSaid := over
#print axioms proved
end Go.Proofs.Ytbfdopnbclkfcaa.fnExactSetPage

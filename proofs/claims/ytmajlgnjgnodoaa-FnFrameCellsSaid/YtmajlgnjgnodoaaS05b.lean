/- Physical frames: the specification's functions that read, behind FramesOk. -/
import Derived.Test.YtmajlgnjgnodoaaS05
namespace Go.Proofs.Ytmajlgnjgnodoaa
open Go.RowKit
set_option linter.unusedVariables false
namespace Tr
theorem rd_box {w w' : World} {d : D} {vs : List Value} (h : Rd w d vs) (hb : Below w.heap.size w w') : Rd w' d vs := h.below hb
theorem spec_l05Free (f : GFrames) (c0 c1 : Value) (w : World) (h : Rd w (eFrames f) [c0, c1]) (hs : (eFrames f).sz ≤ 1048576) : Calls Try.prog 47 #[.agg #[c0, c1]] w (RetP (.int .i64 (pFree f)) w) := by
  obtain ⟨bs, h⟩ := h
  obtain ⟨b0, b1, rfl, h0, h1⟩ := parts_Frames h
  rw [sz_Frames] at hs
  have hl2 := sz_len (T := 4) (k := 1) (E := eB) (l := f.Used) (n := 1048576) (by show (eBoolS f.Used).sz ≤ _; omega)
  obtain ⟨A, n, cap, rfl⟩ := own_slice h0
  obtain ⟨A2, n2, cap2, rfl, hn2, _, _, hA2⟩ := read_bools (T := 4) h1
  obtain ⟨B, hs_B⟩ : ∃ B, w.heap.size = B := ⟨_, rfl⟩
  have hzo_ := hs_B
  have hx_ : (w.alloc (.cells #[.slice A n cap, .slice A2 n2 cap2] 27)).heap[B]? = some (.cells #[.slice A n cap, .slice A2 n2 cap2] 27 (0, 0)) := by rw [← hzo_]; exact heap_alloc_new w _
  have hb_ : Below w.heap.size w (w.alloc (.cells #[.slice A n cap, .slice A2 n2 cap2] 27)) := (Below.refl _ _).alloc (Nat.le_refl _) _
  have hz_ : (w.alloc (.cells #[.slice A n cap, .slice A2 n2 cap2] 27)).heap.size = B + 1 := by simp [hzo_]
  obtain ⟨w0, hw_⟩ : ∃ z, (w.alloc (.cells #[.slice A n cap, .slice A2 n2 cap2] 27)) = z := ⟨_, rfl⟩
  rw [hw_] at hx_ hb_ hz_
  have HX_w0 := Lib.hid hx_
  have HB_w0 := Lib.hid hb_
  have HW_w0 := Lib.hid hw_
  have hz_w0 := Lib.hid hz_
  clear hx_ hb_ hw_ hz_ hzo_
  have hc1 : w0.cell? ⟨B, 1, none⟩ = some (.slice A2 n2 cap2) := cell_of_block HX_w0.out 1
  have HA2 := Lib.hid hA2
  have HN2 := Lib.hid hn2
  have hn2' : n2 ≤ 1048576 := by omega
  clear h h0 h1 hs hl2 hA2 hn2
  go_enter Try.func47, Try.ntmps47
  go_wp2_with fail
  rw [HW_w0.out]
  go_loopw [3] (fun c wr => ∃ i : Nat, i ≤ n2 ∧ c = .int .i64 i ∧ Hid (∀ u ∈ f.Used.take i, u = true) ∧ Hid (wr = w0)) (fun c _ => n2 - (intOf c).toNat)
  case atStart => exact ⟨0, Nat.zero_le _, rfl, by intro p hp; simp at hp, rfl⟩
  case round =>
    obtain ⟨i, hi, rfl, HQ, HWR⟩ := hrel
    rw [HWR.out]
    by_cases hlt : (i : Int) < n2
    · have hi0 : (0 : Int) ≤ i := by omega
      obtain ⟨g2, o2, u, rfl, hu, hcu⟩ := HA2.out i (by omega)
      have hcu' : w0.cell? ⟨g2, o2 + i, none⟩ = some (.bool u) := cell_below HB_w0.out hcu
      have HU := Lib.hid hu
      clear hcu hu
      cases u with
      | true =>
        have HQ2 : Hid (∀ u ∈ f.Used.take (i + 1), u = true) := mem_take_succ HU.out HQ.out rfl
        go_wp2
        go_roundw
        case rel => exact ⟨i + 1, by omega, by go_num, HQ2.out, by first | exact (rfl : _ = _) | exact True.intro⟩
        case measure => simp [intOf]; omega
      | false =>
        have HF : Hid (pFree f = (i : Int)) := freeAt_hit f.Used i HU.out HQ.out
        go_wp2
        go_ret
        exact ⟨by rw [HF.out]; rfl, HB_w0.out⟩
    · obtain rfl : i = n2 := by omega
      have HF : Hid (pFree f = -1) := freeAt_none f.Used (by have := HQ.out; rw [HN2.out, List.take_length] at this; exact this)
      go_wp2
      go_ret
      exact ⟨by rw [HF.out]; rfl, HB_w0.out⟩
theorem spec_l05Is (f : GFrames) (c0 c1 : Value) (i : Int) (w : World) (h : Rd w (eFrames f) [c0, c1]) (hs : (eFrames f).sz ≤ 1048576) : Calls Try.prog 49 #[.agg #[c0, c1], .int .i64 i] w (RetP (.bool (decide (isUsed f i))) w) := by
  have HRD := Lib.hid h
  have HSZ := Lib.hid hs
  obtain ⟨bs, h⟩ := h
  obtain ⟨b0, b1, rfl, h0, h1⟩ := parts_Frames h
  rw [sz_Frames] at hs
  have hl2 := sz_len (T := 4) (k := 1) (E := eB) (l := f.Used) (n := 1048576) (by show (eBoolS f.Used).sz ≤ _; omega)
  obtain ⟨A, n, cap, rfl⟩ := own_slice h0
  obtain ⟨A2, n2, cap2, rfl, hn2, _, _, hA2⟩ := read_bools (T := 4) h1
  obtain ⟨B, hs_B⟩ : ∃ B, w.heap.size = B := ⟨_, rfl⟩
  have hzo_ := hs_B
  have hx_ : (w.alloc (.cells #[.slice A n cap, .slice A2 n2 cap2] 27)).heap[B]? = some (.cells #[.slice A n cap, .slice A2 n2 cap2] 27 (0, 0)) := by rw [← hzo_]; exact heap_alloc_new w _
  have hb_ : Below w.heap.size w (w.alloc (.cells #[.slice A n cap, .slice A2 n2 cap2] 27)) := (Below.refl _ _).alloc (Nat.le_refl _) _
  have hz_ : (w.alloc (.cells #[.slice A n cap, .slice A2 n2 cap2] 27)).heap.size = B + 1 := by simp [hzo_]
  obtain ⟨w0, hw_⟩ : ∃ z, (w.alloc (.cells #[.slice A n cap, .slice A2 n2 cap2] 27)) = z := ⟨_, rfl⟩
  rw [hw_] at hx_ hb_ hz_
  have HX_w0 := Lib.hid hx_
  have HB_w0 := Lib.hid hb_
  have HW_w0 := Lib.hid hw_
  have hz_w0 := Lib.hid hz_
  clear hx_ hb_ hw_ hz_ hzo_
  have HA2 := Lib.hid hA2
  have HN2 := Lib.hid hn2
  have hn2' : n2 ≤ 1048576 := by omega
  have HOK : Hid (∀ w', Below w.heap.size w w' → Calls Try.prog 31 #[.agg #[.slice A n cap, .slice A2 n2 cap2]] w' (RetP (.bool (decide (okF f))) w')) := fun w' hb => spec_FramesOk f _ _ w' (HRD.out.below hb) HSZ.out
  clear h h0 h1 hs hl2 hA2 hn2 HRD HSZ
  go_enter Try.func49, Try.ntmps49
  go_wp2_with fail
  rw [HW_w0.out]
  refine (HOK.out _ HB_w0.out).mono ?_
  rintro e w1 ⟨rfl, hb1⟩
  have HB1 := Lib.hid (below_step HB_w0.out hb1)
  have hc1 : w1.cell? ⟨B, 1, none⟩ = some (.slice A2 n2 cap2) := cell_below hb1 (cell_of_block HX_w0.out 1)
  clear hb1
  by_cases hok : okF f
  · have hd : decide (okF f) = true := decide_eq_true hok
    rw [hd]
    by_cases hin : 0 ≤ i ∧ i ≤ (n2 : Int) - 1
    · obtain ⟨j, rfl⟩ := Int.eq_ofNat_of_zero_le hin.1
      obtain ⟨g2, o2, u, rfl, hu, hcu⟩ := HA2.out j (by omega)
      have hcu' : w1.cell? ⟨g2, o2 + j, none⟩ = some (.bool u) := cell_below HB1.out hcu
      have hjn : (j : Int) < n2 := by omega
      have HF : Hid (decide (isUsed f (j : Int)) = u) := by
        show _ = _
        have h2 := HN2.out
        cases u with
        | true => rw [decide_eq_true_iff]; exact ⟨hok, by omega, by rw [Int.toNat_natCast]; exact hu⟩
        | false =>
          rw [decide_eq_false_iff_not]
          intro hh
          have h3 := hh.2.2
          rw [Int.toNat_natCast, hu] at h3
          cases h3
      clear hcu hu hok hd
      go_wp2_with fail
      refine (Bm.in_yes _ _ _ _ hin.1 hin.2).mono ?_
      rintro e w' ⟨rfl, rfl⟩
      go_wp2
      go_ret
      exact ⟨by rw [HF.out]; rfl, HB1.out⟩
    · have HF : Hid (decide (isUsed f i) = false) := by
        show _ = _
        rw [decide_eq_false_iff_not]
        have h2 := HN2.out
        exact fun hh => hin (by have := hh.2.1; omega)
      have HI := Lib.hid hin
      clear hin hok hd
      go_wp2_with fail
      refine (Bm.in_no _ _ _ _ HI.out).mono ?_
      rintro e w' ⟨rfl, rfl⟩
      go_wp2
      go_ret
      exact ⟨by rw [HF.out]; rfl, HB1.out⟩
  · have hd : decide (okF f) = false := decide_eq_false hok
    rw [hd]
    have HF : Hid (decide (isUsed f i) = false) := by
      show _ = _
      rw [decide_eq_false_iff_not]
      exact fun hh => hok hh.1
    clear hok hd
    go_wp2
    go_ret
    exact ⟨by rw [HF.out]; rfl, HB1.out⟩
theorem spec_FrameRead (f : GFrames) (c0 c1 : Value) (i at_ : Int) (w : World) (h : Rd w (eFrames f) [c0, c1]) (hs : (eFrames f).sz ≤ 1048576) (hi : okI i) (ha : okI at_) : Calls Try.prog 24 #[.agg #[c0, c1], .int .i64 i, .int .i64 at_] w (RetP (.tuple #[.int .i64 (pFrameRead f i at_).1, .bool (pFrameRead f i at_).2]) w) := by
  have HRD := Lib.hid h
  have HSZ := Lib.hid hs
  obtain ⟨bs, h⟩ := h
  obtain ⟨b0, b1, rfl, h0, h1⟩ := parts_Frames h
  rw [sz_Frames] at hs
  have hl := sz_len (T := 38) (k := 1) (E := eIntS) (l := f.Cells) (n := 1048576) (by show (eIntSS f.Cells).sz ≤ _; omega)
  obtain ⟨A, n, cap, rfl, hn, _, _, hA⟩ := read_rowD (T := 38) (E := eIntS) (k := 1) h0 (fun _ => rfl)
  obtain ⟨A2, n2, cap2, rfl⟩ := own_slice h1
  obtain ⟨B, hs_B⟩ : ∃ B, w.heap.size = B := ⟨_, rfl⟩
  have hzo_ := hs_B
  have hx_ : (w.alloc (.cells #[.slice A n cap, .slice A2 n2 cap2] 27)).heap[B]? = some (.cells #[.slice A n cap, .slice A2 n2 cap2] 27 (0, 0)) := by rw [← hzo_]; exact heap_alloc_new w _
  have hb_ : Below w.heap.size w (w.alloc (.cells #[.slice A n cap, .slice A2 n2 cap2] 27)) := (Below.refl _ _).alloc (Nat.le_refl _) _
  have hz_ : (w.alloc (.cells #[.slice A n cap, .slice A2 n2 cap2] 27)).heap.size = B + 1 := by simp [hzo_]
  obtain ⟨w0, hw_⟩ : ∃ z, (w.alloc (.cells #[.slice A n cap, .slice A2 n2 cap2] 27)) = z := ⟨_, rfl⟩
  rw [hw_] at hx_ hb_ hz_
  have HX_w0 := Lib.hid hx_
  have HB_w0 := Lib.hid hb_
  have HW_w0 := Lib.hid hw_
  have hz_w0 := Lib.hid hz_
  clear hx_ hb_ hw_ hz_ hzo_
  have HA := Lib.hid hA
  have HN := Lib.hid hn
  have hn' : n ≤ 1048576 := by omega
  have HIS : Hid (∀ w', Below w.heap.size w w' → Calls Try.prog 49 #[.agg #[.slice A n cap, .slice A2 n2 cap2], .int .i64 i] w' (RetP (.bool (decide (isUsed f i))) w')) := fun w' hb => spec_l05Is f _ _ i w' (HRD.out.below hb) HSZ.out
  clear h h0 h1 hs hl hA hn HRD HSZ hi ha
  go_enter Try.func24, Try.ntmps24
  go_wp2_with fail
  rw [HW_w0.out]
  refine (HIS.out _ HB_w0.out).mono ?_
  rintro e w1 ⟨rfl, hb1⟩
  have HB1 := Lib.hid (below_step HB_w0.out hb1)
  have hc0 : w1.cell? ⟨B, 0, none⟩ = some (.slice A n cap) := cell_below hb1 (cell_of_block HX_w0.out 0)
  clear hb1
  by_cases hu : isUsed f i
  · have hd : decide (isUsed f i) = true := decide_eq_true hu
    rw [hd]
    by_cases ha : 0 ≤ at_ ∧ at_ ≤ 15
    · obtain ⟨j, rfl⟩ := Int.eq_ofNat_of_zero_le hu.2.1.1
      obtain ⟨k, rfl⟩ := Int.eq_ofNat_of_zero_le ha.1
      have hjn : j < n := by have h1 := hu.1.2.1; have h2 := hu.2.1.2; have h3 := HN.out; omega
      obtain ⟨g, o, r, us, b, rfl, hr, hus, hc, ho, _⟩ := HA.out j hjn
      simp only [Nat.mul_one] at hc
      match us, hus with
      | [c], _ =>
      obtain ⟨A3, m, cap3, rfl, hm, _, _, hA3⟩ := read_ints (T := 3) ho
      have hju : j < f.Used.length := by have := hu.2.1.2; omega
      have hm16 : m = 16 := by
        have h1 := hu.1.2.2 _ (List.mem_of_getElem? (zip_at hr (List.getElem?_eq_getElem hju)))
        rw [hm]; exact h1.1
      subst hm16
      obtain ⟨g3, o3, v, rfl, hv, hcv⟩ := hA3 k (by omega)
      have hcr : w1.cell? ⟨g, o + j, none⟩ = some (.slice (some ⟨g3, o3, none⟩) 16 cap3) := cell_below HB1.out (hc 0 (by omega))
      have hcv' : w1.cell? ⟨g3, o3 + k, none⟩ = some (.int .i64 v) := cell_below HB1.out hcv
      have HF : Hid (pFrameRead f (j : Int) (k : Int) = (v, true)) := by
        show _ = _
        unfold pFrameRead
        have e1 : f.Cells.getD j [] = r := by rw [List.getD_eq_getElem?_getD, hr]; rfl
        rw [if_pos ⟨hu, ha⟩, Int.toNat_natCast, Int.toNat_natCast, e1, List.getD_eq_getElem?_getD, hv]; rfl
      have hj2 : (j : Int) < n := by omega
      have hk2 : (k : Int) < 16 := by omega
      have hj0 : (0 : Int) ≤ j := by omega
      clear hc ho hr hA3 hm hv hcv hu hd hju
      go_wp2_with fail
      refine (Bm.in_yes _ _ _ _ ha.1 ha.2).mono ?_
      rintro e w' ⟨rfl, rfl⟩
      go_wp2
      go_ret2
      exact ⟨by rw [HF.out]; rfl, HB1.out⟩
    · have HF : Hid (pFrameRead f i at_ = (0, false)) := by show _ = _; unfold pFrameRead; rw [if_neg (fun hh => ha hh.2)]
      have HI := Lib.hid ha
      clear ha hu hd
      go_wp2_with fail
      refine (Bm.in_no _ _ _ _ HI.out).mono ?_
      rintro e w' ⟨rfl, rfl⟩
      go_wp2
      go_ret2
      exact ⟨by rw [HF.out]; rfl, HB1.out⟩
  · have hd : decide (isUsed f i) = false := decide_eq_false hu
    rw [hd]
    have HF : Hid (pFrameRead f i at_ = (0, false)) := by show _ = _; unfold pFrameRead; rw [if_neg (fun hh => hu hh.1)]
    clear hu hd
    go_wp2
    go_ret2
    exact ⟨by rw [HF.out]; rfl, HB1.out⟩
theorem spec_UsedFrames (f : GFrames) (c0 c1 : Value) (w : World) (h : Rd w (eFrames f) [c0, c1]) (hs : (eFrames f).sz ≤ 1048576) : Calls Try.prog 35 #[.agg #[c0, c1]] w (RetP (.int .i64 (pUsedFrames f)) w) := by
  have HRD := Lib.hid h
  have HSZ := Lib.hid hs
  obtain ⟨bs, h⟩ := h
  obtain ⟨b0, b1, rfl, h0, h1⟩ := parts_Frames h
  rw [sz_Frames] at hs
  have hl2 := sz_len (T := 4) (k := 1) (E := eB) (l := f.Used) (n := 1048576) (by show (eBoolS f.Used).sz ≤ _; omega)
  obtain ⟨A, n, cap, rfl⟩ := own_slice h0
  obtain ⟨A2, n2, cap2, rfl, hn2, _, _, hA2⟩ := read_bools (T := 4) h1
  obtain ⟨B, hs_B⟩ : ∃ B, w.heap.size = B := ⟨_, rfl⟩
  have hzo_ := hs_B
  have hx_ : (w.alloc (.cells #[.slice A n cap, .slice A2 n2 cap2] 27)).heap[B]? = some (.cells #[.slice A n cap, .slice A2 n2 cap2] 27 (0, 0)) := by rw [← hzo_]; exact heap_alloc_new w _
  have hb_ : Below w.heap.size w (w.alloc (.cells #[.slice A n cap, .slice A2 n2 cap2] 27)) := (Below.refl _ _).alloc (Nat.le_refl _) _
  have hz_ : (w.alloc (.cells #[.slice A n cap, .slice A2 n2 cap2] 27)).heap.size = B + 1 := by simp [hzo_]
  obtain ⟨w0, hw_⟩ : ∃ z, (w.alloc (.cells #[.slice A n cap, .slice A2 n2 cap2] 27)) = z := ⟨_, rfl⟩
  rw [hw_] at hx_ hb_ hz_
  have HX_w0 := Lib.hid hx_
  have HB_w0 := Lib.hid hb_
  have HW_w0 := Lib.hid hw_
  have hz_w0 := Lib.hid hz_
  clear hx_ hb_ hw_ hz_ hzo_
  have HA2 := Lib.hid hA2
  have HN2 := Lib.hid hn2
  have hn2' : n2 ≤ 1048576 := by omega
  have HOK : Hid (∀ w', Below w.heap.size w w' → Calls Try.prog 31 #[.agg #[.slice A n cap, .slice A2 n2 cap2]] w' (RetP (.bool (decide (okF f))) w')) := fun w' hb => spec_FramesOk f _ _ w' (HRD.out.below hb) HSZ.out
  clear h h0 h1 hs hl2 hA2 hn2 HRD HSZ
  go_enter Try.func35, Try.ntmps35
  go_wp2_with fail
  rw [HW_w0.out]
  go_loopw [3, 4] (fun q c wr => ∃ i k : Nat, i ≤ n2 ∧ k ≤ i ∧ c = .int .i64 i ∧ q = .int .i64 k ∧ Hid ((f.Used.take i).countP (fun u => u) = k) ∧ Hid (0 < i → okF f) ∧ Hid (Below w0.heap.size w0 wr)) (fun _ c _ => n2 - (intOf c).toNat)
  case atStart => exact ⟨0, 0, Nat.zero_le _, Nat.le_refl _, rfl, rfl, by show _ = _; simp, fun h => by omega, Below.refl _ _⟩
  case round =>
    obtain ⟨i, k, hi, hk, rfl, rfl, HQ, HOI, HBL⟩ := hrel
    have hc1 : wr.cell? ⟨B, 1, none⟩ = some (.slice A2 n2 cap2) := cell_below HBL.out (cell_of_block HX_w0.out 1)
    have hc0 : wr.cell? ⟨B, 0, none⟩ = some (.slice A n cap) := cell_below HBL.out (cell_of_block HX_w0.out 0)
    by_cases hlt : (i : Int) < n2
    · have hi0 : (0 : Int) ≤ i := by omega
      obtain ⟨g2, o2, u, rfl, hu, hcu⟩ := HA2.out i (by omega)
      go_wp2_with fail
      refine (HOK.out _ (below_step HB_w0.out HBL.out)).mono ?_
      rintro e w1 ⟨rfl, hb1⟩
      have HB1 := Lib.hid (below_step HBL.out hb1)
      have hc1' : w1.cell? ⟨B, 1, none⟩ = some (.slice (some ⟨g2, o2, none⟩) n2 cap2) := cell_below hb1 hc1
      have hcu' : w1.cell? ⟨g2, o2 + i, none⟩ = some (.bool u) := cell_below (below_step HB_w0.out HB1.out) hcu
      have HBE := Lib.hid (below_step HB_w0.out HB1.out)
      have hcp := countP_take (fun u => u) f.Used i u hu
      rw [HQ.out] at hcp
      clear hcu hu hb1
      by_cases hok : okF f
      · have hd : decide (okF f) = true := decide_eq_true hok
        rw [hd]
        have HOK2 : Hid (0 < i + 1 → okF f) := fun _ => hok
        clear hok hd
        cases u with
        | true =>
          have HCP : Hid ((f.Used.take (i + 1)).countP (fun u => u) = k + 1) := hcp
          clear hcp
          go_wp2
          go_roundw
          case rel => exact ⟨i + 1, k + 1, by omega, by omega, by go_num, by go_num, HCP.out, HOK2.out, HB1.out⟩
          case measure => simp [intOf]; omega
        | false =>
          have HCP : Hid ((f.Used.take (i + 1)).countP (fun u => u) = k) := hcp
          clear hcp
          go_wp2
          go_roundw
          case rel => exact ⟨i + 1, k, by omega, by omega, by go_num, by go_num, HCP.out, HOK2.out, HB1.out⟩
          case measure => simp [intOf]; omega
      · have hd : decide (okF f) = false := decide_eq_false hok
        rw [hd]
        have hi00 : i = 0 := by
          rcases Nat.eq_zero_or_pos i with h | h
          · exact h
          · exact absurd (HOI.out h) hok
        have HF : Hid (pUsedFrames f = (k : Int)) := by
          show _ = _
          unfold pUsedFrames
          rw [if_neg hok]
          have := HQ.out
          rw [hi00] at this
          have h0 : k = 0 := by simpa using this.symm
          rw [h0]; rfl
        clear hok hd hcp hi00
        go_wp2
        go_ret
        exact ⟨by rw [HF.out]; rfl, HBE.out⟩
    · obtain rfl : i = n2 := by omega
      have HF : Hid (pUsedFrames f = (k : Int)) := by
        show _ = _
        unfold pUsedFrames
        have h1 := HQ.out
        rw [HN2.out, List.take_length] at h1
        by_cases hok : okF f
        · rw [if_pos hok, h1]
        · rw [if_neg hok]
          have h0 : i = 0 := by
            rcases Nat.eq_zero_or_pos i with h | h
            · exact h
            · exact absurd (HOI.out h) hok
          have h2 : f.Used = [] := List.length_eq_zero_iff.1 (by rw [← HN2.out]; exact h0)
          rw [h2] at h1
          have : k = 0 := by simpa using h1.symm
          rw [this]; rfl
      have HBE := Lib.hid (below_step HB_w0.out HBL.out)
      go_wp2
      go_ret
      exact ⟨by rw [HF.out]; rfl, HBE.out⟩
end Tr
end Go.Proofs.Ytmajlgnjgnodoaa

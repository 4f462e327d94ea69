/- Physical frames: the program's functions that read, more. -/
import Derived.Test.YtmajlgnjgnodoaaI05a
namespace Go.Proofs.Ytmajlgnjgnodoaa
open Go.RowKit
set_option linter.unusedVariables false
namespace Tr
theorem impl_FramesOk (f : GFrames) (c0 c1 : Value) (w : World) (h : Rd w (eFrames f) [c0, c1]) (hs : (eFrames f).sz ≤ 1048576) : Calls Try.prog 20 #[.agg #[c0, c1]] w (RetP (.bool (pFramesOk f)) w) := by
  obtain ⟨bs, h⟩ := h
  obtain ⟨b0, b1, rfl, h0, h1⟩ := parts_Frames h
  rw [sz_Frames] at hs
  have hsC : (eIntSS f.Cells).sz ≤ 1048576 := by omega
  have hl := sz_len (T := 38) (k := 1) (E := eIntS) (l := f.Cells) (n := 1048576) hsC
  have hl2 := sz_len (T := 4) (k := 1) (E := eB) (l := f.Used) (n := 1048576) (by show (eBoolS f.Used).sz ≤ _; omega)
  obtain ⟨A, n, cap, rfl, hn, _, _, hA⟩ := read_rowD (T := 38) (E := eIntS) (k := 1) h0 (fun _ => rfl)
  obtain ⟨A2, n2, cap2, rfl, hn2, _, _, hA2⟩ := read_bools (T := 4) h1
  obtain ⟨B, hs_B⟩ : ∃ B, w.heap.size = B := ⟨_, rfl⟩
  have hzo_ := hs_B
  have hx_ : (w.alloc (.cells #[.slice A n cap, .slice A2 n2 cap2] 27)).heap[B]? = some (.cells #[.slice A n cap, .slice A2 n2 cap2] 27 (0, 0)) := by rw [← hzo_]; exact heap_alloc_new w _
  have hb_ : Below w.heap.size w (w.alloc (.cells #[.slice A n cap, .slice A2 n2 cap2] 27)) := (Below.refl _ _).alloc (Nat.le_refl _) _
  have hz_ : (w.alloc (.cells #[.slice A n cap, .slice A2 n2 cap2] 27)).heap.size = B + 1 := by simp [hzo_]
  obtain ⟨w0, hw_⟩ : ∃ z, (w.alloc (.cells #[.slice A n cap, .slice A2 n2 cap2] 27)) = z := ⟨_, rfl⟩
  rw [hw_] at hx_ hb_ hz_
  have HX_w0 := Lib.hid hx_
  have HB_w0 := Lib.hid hb_
  have HW_w0 := Lib.hid hw_
  have hz_w0 := Lib.hid hz_
  clear hx_ hb_ hw_ hz_ hzo_
  have hc0 : w0.cell? ⟨B, 0, none⟩ = some (.slice A n cap) := cell_of_block HX_w0.out 0
  have hc1 : w0.cell? ⟨B, 1, none⟩ = some (.slice A2 n2 cap2) := cell_of_block HX_w0.out 1
  have HA := Lib.hid hA
  have HA2 := Lib.hid hA2
  have HN := Lib.hid hn
  have HN2 := Lib.hid hn2
  have hn' : n ≤ 1048576 := by omega
  have hn2' : n2 ≤ 1048576 := by omega
  have hno : ∀ P : Prop, (okF f → P) → ¬ P → pFramesOk f = false := fun P hp hnp => by
    unfold pFramesOk
    rw [decide_eq_false_iff_not]
    exact fun hh => hnp (hp hh)
  have HNO := Lib.hid hno
  have HSC := Lib.hid hsC
  clear h h0 h1 hs hl hl2 hA hA2 hn hn2 hno hsC
  by_cases hlo : 1 ≤ n
  · have g1 : decide ((n : Int) < 1) = false := decide_eq_false (by omega)
    by_cases hhi : n ≤ 32
    · have g2 : decide ((32 : Int) < (n : Int)) = false := decide_eq_false (by omega)
      by_cases heq : n2 = n
      · subst heq
        have hne : ((n2 : Int) != (n2 : Int)) = false := by simp
        go_enter Try.func20, Try.ntmps20
        go_wp2_with fail
        rw [HW_w0.out]
        go_loopw [27] (fun c wr => ∃ i : Nat, i ≤ n2 ∧ c = .int .i64 i ∧ Hid (∀ p ∈ (f.Cells.zip f.Used).take i, okRow p.2 p.1) ∧ Hid (wr = w0)) (fun c _ => n2 - (intOf c).toNat)
        case atStart => exact ⟨0, Nat.zero_le _, rfl, by intro p hp; simp at hp, rfl⟩
        case round =>
          obtain ⟨i, hi, rfl, HQ, HWR⟩ := hrel
          rw [HWR.out]
          by_cases hlt : (i : Int) < n2
          · have hi0 : (0 : Int) ≤ i := by omega
            obtain ⟨g, o, r, us, b, rfl, hr, hus, hc, ho, _⟩ := HA.out i (by omega)
            obtain ⟨g2, o2, u, rfl, hu, hcu⟩ := HA2.out i (by omega)
            simp only [Nat.mul_one] at hc
            match us, hus with
            | [c], _ =>
            obtain ⟨A3, m, cap3, rfl⟩ := own_slice ho
            obtain ⟨hm, hm'⟩ := row_n (T := 3) (k := 1) (E := eI) (l := r) ho (sz_elem HSC.out hr)
            have hcr : w0.cell? ⟨g, o + i, none⟩ = some (.slice A3 m cap3) := cell_below HB_w0.out (hc 0 (by omega))
            have hcu' : w0.cell? ⟨g2, o2 + i, none⟩ = some (.bool u) := cell_below HB_w0.out hcu
            have HZ := Lib.hid (zip_at hr hu)
            have HO := Lib.hid (own_below ho HB_w0.out (own_lt _ ho))
            clear hc ho hcu hr hu hm
            go_wp2_with fail
            refine (impl_frameOk r u _ _ _ b _ HO.out hm').mono ?_
            rintro e w' ⟨rfl, rfl⟩
            by_cases hok : okRow u r
            · have hd : decide (okRow u r) = true := decide_eq_true hok
              rw [hd]
              have HQ2 : Hid (∀ p ∈ (f.Cells.zip f.Used).take (i + 1), okRow p.2 p.1) := mem_take_succ HZ.out HQ.out hok
              clear hd hok
              go_wp2
              go_roundw
              case rel => exact ⟨i + 1, by omega, by go_num, HQ2.out, by first | exact (rfl : _ = _) | exact True.intro⟩
              case measure => simp [intOf]; omega
            · have hd : decide (okRow u r) = false := decide_eq_false hok
              rw [hd]
              have HF : Hid (pFramesOk f = false) := HNO.out _ (fun hh => hh.2.2 _ (List.mem_of_getElem? HZ.out)) hok
              clear hd hok
              go_wp2
              go_ret
              exact ⟨by rw [HF.out]; rfl, HB_w0.out⟩
          · obtain rfl : i = n2 := by omega
            have HF : Hid (pFramesOk f = true) := by
              show _ = _
              unfold pFramesOk
              rw [decide_eq_true_iff]
              have h1 := HN.out
              have h2 := HN2.out
              refine ⟨⟨by omega, by omega⟩, by omega, ?_⟩
              have := HQ.out
              rw [List.take_of_length_le (by rw [List.length_zip]; omega)] at this
              exact this
            go_wp2
            go_ret
            exact ⟨by rw [HF.out]; rfl, HB_w0.out⟩
      · have hb : ((n2 : Int) != (n : Int)) = true := by rw [bne_iff_ne]; omega
        have HF : Hid (pFramesOk f = false) := HNO.out _ (fun hh => hh.2.1) (by have h1 := HN.out; have h2 := HN2.out; omega)
        clear heq
        go_enter Try.func20, Try.ntmps20
        go_wp2_with fail
        rw [HW_w0.out]
        go_ret
        exact ⟨by rw [HF.out]; rfl, HB_w0.out⟩
    · have g2 : decide ((32 : Int) < (n : Int)) = true := decide_eq_true (by omega)
      have HF : Hid (pFramesOk f = false) := HNO.out _ (fun hh => hh.1) (by have h1 := HN.out; omega)
      clear hhi
      go_enter Try.func20, Try.ntmps20
      go_wp2_with fail
      rw [HW_w0.out]
      go_ret
      exact ⟨by rw [HF.out]; rfl, HB_w0.out⟩
  · have g1 : decide ((n : Int) < 1) = true := decide_eq_true (by omega)
    have HF : Hid (pFramesOk f = false) := HNO.out _ (fun hh => hh.1) (by have h1 := HN.out; omega)
    clear hlo
    go_enter Try.func20, Try.ntmps20
    go_wp2_with fail
    rw [HW_w0.out]
    go_ret
    exact ⟨by rw [HF.out]; rfl, HB_w0.out⟩
theorem impl_frameUsed (f : GFrames) (c0 c1 : Value) (i : Int) (w : World) (h : Rd w (eFrames f) [c0, c1]) (hs : (eFrames f).sz ≤ 1048576) : Calls Try.prog 40 #[.agg #[c0, c1], .int .i64 i] w (RetP (.bool (decide (isUsed f i))) w) := by
  have HRD := Lib.hid h
  have HSZ := Lib.hid hs
  obtain ⟨bs, h⟩ := h
  obtain ⟨b0, b1, rfl, h0, h1⟩ := parts_Frames h
  rw [sz_Frames] at hs
  have hl2 := sz_len (T := 4) (k := 1) (E := eB) (l := f.Used) (n := 1048576) (by show (eBoolS f.Used).sz ≤ _; omega)
  obtain ⟨A, n, cap, rfl⟩ := own_slice h0
  obtain ⟨A2, n2, cap2, rfl, hn2, _, _, hA2⟩ := read_bools (T := 4) h1
  obtain ⟨B, hs_B⟩ : ∃ B, w.heap.size = B := ⟨_, rfl⟩
  have hzo_ := hs_B
  have hx_ : (w.alloc (.cells #[.slice A n cap, .slice A2 n2 cap2] 27)).heap[B]? = some (.cells #[.slice A n cap, .slice A2 n2 cap2] 27 (0, 0)) := by rw [← hzo_]; exact heap_alloc_new w _
  have hb_ : Below w.heap.size w (w.alloc (.cells #[.slice A n cap, .slice A2 n2 cap2] 27)) := (Below.refl _ _).alloc (Nat.le_refl _) _
  have hz_ : (w.alloc (.cells #[.slice A n cap, .slice A2 n2 cap2] 27)).heap.size = B + 1 := by simp [hzo_]
  obtain ⟨w0, hw_⟩ : ∃ z, (w.alloc (.cells #[.slice A n cap, .slice A2 n2 cap2] 27)) = z := ⟨_, rfl⟩
  rw [hw_] at hx_ hb_ hz_
  have HX_w0 := Lib.hid hx_
  have HB_w0 := Lib.hid hb_
  have HW_w0 := Lib.hid hw_
  have hz_w0 := Lib.hid hz_
  clear hx_ hb_ hw_ hz_ hzo_
  have HA2 := Lib.hid hA2
  have HN2 := Lib.hid hn2
  have hn2' : n2 ≤ 1048576 := by omega
  have HOK : Hid (∀ w', Below w.heap.size w w' → Calls Try.prog 20 #[.agg #[.slice A n cap, .slice A2 n2 cap2]] w' (RetP (.bool (decide (okF f))) w')) := fun w' hb => impl_FramesOk f _ _ w' (HRD.out.below hb) HSZ.out
  clear h h0 h1 hs hl2 hA2 hn2 HRD HSZ
  go_enter Try.func40, Try.ntmps40
  go_wp2_with fail
  rw [HW_w0.out]
  refine (HOK.out _ HB_w0.out).mono ?_
  rintro e w1 ⟨rfl, hb1⟩
  have HB1 := Lib.hid (below_step HB_w0.out hb1)
  have hc1 : w1.cell? ⟨B, 1, none⟩ = some (.slice A2 n2 cap2) := cell_below hb1 (cell_of_block HX_w0.out 1)
  clear hb1
  by_cases hok : okF f
  · have hd : decide (okF f) = true := decide_eq_true hok
    rw [hd]
    by_cases hlo : 0 ≤ i
    · by_cases hhi : i < (n2 : Int)
      · obtain ⟨j, rfl⟩ := Int.eq_ofNat_of_zero_le hlo
        obtain ⟨g2, o2, u, rfl, hu, hcu⟩ := HA2.out j (by omega)
        have hcu' : w1.cell? ⟨g2, o2 + j, none⟩ = some (.bool u) := cell_below HB1.out hcu
        have HF : Hid (decide (isUsed f (j : Int)) = u) := by
          show _ = _
          have h2 := HN2.out
          cases u with
          | true => rw [decide_eq_true_iff]; exact ⟨hok, by omega, by rw [Int.toNat_natCast]; exact hu⟩
          | false =>
            rw [decide_eq_false_iff_not]
            intro hh
            have h3 := hh.2.2
            rw [Int.toNat_natCast, hu] at h3
            cases h3
        clear hcu hu hok hd
        go_wp2
        go_ret
        exact ⟨by rw [HF.out]; rfl, HB1.out⟩
      · have HF : Hid (decide (isUsed f i) = false) := by
          show _ = _
          rw [decide_eq_false_iff_not]
          have h2 := HN2.out
          exact fun hh => hhi (by have := hh.2.1; omega)
        have hd2 : decide (i < (n2 : Int)) = false := decide_eq_false hhi
        clear hhi hok hd
        go_wp2
        go_ret
        exact ⟨by rw [HF.out]; rfl, HB1.out⟩
    · have HF : Hid (decide (isUsed f i) = false) := by
        show _ = _
        rw [decide_eq_false_iff_not]
        exact fun hh => hlo hh.2.1.1
      have hd2 : decide (0 ≤ i) = false := decide_eq_false hlo
      clear hlo hok hd
      go_wp2
      go_ret
      exact ⟨by rw [HF.out]; rfl, HB1.out⟩
  · have hd : decide (okF f) = false := decide_eq_false hok
    rw [hd]
    have HF : Hid (decide (isUsed f i) = false) := by
      show _ = _
      rw [decide_eq_false_iff_not]
      exact fun hh => hok hh.1
    clear hok hd
    go_wp2
    go_ret
    exact ⟨by rw [HF.out]; rfl, HB1.out⟩
theorem impl_FrameRead (f : GFrames) (c0 c1 : Value) (i at_ : Int) (w : World) (h : Rd w (eFrames f) [c0, c1]) (hs : (eFrames f).sz ≤ 1048576) (hi : okI i) (ha : okI at_) : Calls Try.prog 17 #[.agg #[c0, c1], .int .i64 i, .int .i64 at_] w (RetP (.tuple #[.int .i64 (pFrameRead f i at_).1, .bool (pFrameRead f i at_).2]) w) := by
  have HRD := Lib.hid h
  have HSZ := Lib.hid hs
  obtain ⟨bs, h⟩ := h
  obtain ⟨b0, b1, rfl, h0, h1⟩ := parts_Frames h
  rw [sz_Frames] at hs
  have hl := sz_len (T := 38) (k := 1) (E := eIntS) (l := f.Cells) (n := 1048576) (by show (eIntSS f.Cells).sz ≤ _; omega)
  obtain ⟨A, n, cap, rfl, hn, _, _, hA⟩ := read_rowD (T := 38) (E := eIntS) (k := 1) h0 (fun _ => rfl)
  obtain ⟨A2, n2, cap2, rfl⟩ := own_slice h1
  obtain ⟨B, hs_B⟩ : ∃ B, w.heap.size = B := ⟨_, rfl⟩
  have hzo_ := hs_B
  have hx_ : (w.alloc (.cells #[.slice A n cap, .slice A2 n2 cap2] 27)).heap[B]? = some (.cells #[.slice A n cap, .slice A2 n2 cap2] 27 (0, 0)) := by rw [← hzo_]; exact heap_alloc_new w _
  have hb_ : Below w.heap.size w (w.alloc (.cells #[.slice A n cap, .slice A2 n2 cap2] 27)) := (Below.refl _ _).alloc (Nat.le_refl _) _
  have hz_ : (w.alloc (.cells #[.slice A n cap, .slice A2 n2 cap2] 27)).heap.size = B + 1 := by simp [hzo_]
  obtain ⟨w0, hw_⟩ : ∃ z, (w.alloc (.cells #[.slice A n cap, .slice A2 n2 cap2] 27)) = z := ⟨_, rfl⟩
  rw [hw_] at hx_ hb_ hz_
  have HX_w0 := Lib.hid hx_
  have HB_w0 := Lib.hid hb_
  have HW_w0 := Lib.hid hw_
  have hz_w0 := Lib.hid hz_
  clear hx_ hb_ hw_ hz_ hzo_
  have HA := Lib.hid hA
  have HN := Lib.hid hn
  have hn' : n ≤ 1048576 := by omega
  have HIS : Hid (∀ w', Below w.heap.size w w' → Calls Try.prog 40 #[.agg #[.slice A n cap, .slice A2 n2 cap2], .int .i64 i] w' (RetP (.bool (decide (isUsed f i))) w')) := fun w' hb => impl_frameUsed f _ _ i w' (HRD.out.below hb) HSZ.out
  clear h h0 h1 hs hl hA hn HRD HSZ hi ha
  go_enter Try.func17, Try.ntmps17
  go_wp2_with fail
  rw [HW_w0.out]
  refine (HIS.out _ HB_w0.out).mono ?_
  rintro e w1 ⟨rfl, hb1⟩
  have HB1 := Lib.hid (below_step HB_w0.out hb1)
  have hc0 : w1.cell? ⟨B, 0, none⟩ = some (.slice A n cap) := cell_below hb1 (cell_of_block HX_w0.out 0)
  clear hb1
  by_cases hu : isUsed f i
  · have hd : decide (isUsed f i) = true := decide_eq_true hu
    rw [hd]
    by_cases ha : 0 ≤ at_ ∧ at_ ≤ 15
    · obtain ⟨j, rfl⟩ := Int.eq_ofNat_of_zero_le hu.2.1.1
      obtain ⟨k, rfl⟩ := Int.eq_ofNat_of_zero_le ha.1
      have hjn : j < n := by have h1 := hu.1.2.1; have h2 := hu.2.1.2; have h3 := HN.out; omega
      obtain ⟨g, o, r, us, b, rfl, hr, hus, hc, ho, _⟩ := HA.out j hjn
      simp only [Nat.mul_one] at hc
      match us, hus with
      | [c], _ =>
      obtain ⟨A3, m, cap3, rfl, hm, _, _, hA3⟩ := read_ints (T := 3) ho
      have hju : j < f.Used.length := by have := hu.2.1.2; omega
      have hm16 : m = 16 := by
        have h1 := hu.1.2.2 _ (List.mem_of_getElem? (zip_at hr (List.getElem?_eq_getElem hju)))
        rw [hm]; exact h1.1
      subst hm16
      obtain ⟨g3, o3, v, rfl, hv, hcv⟩ := hA3 k (by omega)
      have hcr : w1.cell? ⟨g, o + j, none⟩ = some (.slice (some ⟨g3, o3, none⟩) 16 cap3) := cell_below HB1.out (hc 0 (by omega))
      have hcv' : w1.cell? ⟨g3, o3 + k, none⟩ = some (.int .i64 v) := cell_below HB1.out hcv
      have HF : Hid (pFrameRead f (j : Int) (k : Int) = (v, true)) := by
        show _ = _
        unfold pFrameRead
        have e1 : f.Cells.getD j [] = r := by rw [List.getD_eq_getElem?_getD, hr]; rfl
        rw [if_pos ⟨hu, ha⟩, Int.toNat_natCast, Int.toNat_natCast, e1, List.getD_eq_getElem?_getD, hv]; rfl
      have hj2 : (j : Int) < n := by omega
      have hk2 : (k : Int) < 16 := by omega
      have hj0 : (0 : Int) ≤ j := by omega
      have hd2 : decide (0 ≤ (k : Int) ∧ (k : Int) ≤ 15) = true := decide_eq_true ha
      have HD2 := Lib.hid hd2
      clear hc ho hr hA3 hm hv hcv hu hd hju hd2
      go_wp2_with fail
      refine (impl_cell _ _).mono ?_
      rintro e w' ⟨rfl, rfl⟩
      rw [HD2.out]
      go_wp2
      go_ret2
      exact ⟨by rw [HF.out]; rfl, HB1.out⟩
    · have HF : Hid (pFrameRead f i at_ = (0, false)) := by show _ = _; unfold pFrameRead; rw [if_neg (fun hh => ha hh.2)]
      have HD2 : Hid (decide (0 ≤ at_ ∧ at_ ≤ 15) = false) := decide_eq_false ha
      clear ha hu hd
      go_wp2_with fail
      refine (impl_cell _ _).mono ?_
      rintro e w' ⟨rfl, rfl⟩
      rw [HD2.out]
      go_wp2
      go_ret2
      exact ⟨by rw [HF.out]; rfl, HB1.out⟩
  · have hd : decide (isUsed f i) = false := decide_eq_false hu
    rw [hd]
    have HF : Hid (pFrameRead f i at_ = (0, false)) := by show _ = _; unfold pFrameRead; rw [if_neg (fun hh => hu hh.1)]
    clear hu hd
    go_wp2
    go_ret2
    exact ⟨by rw [HF.out]; rfl, HB1.out⟩
theorem impl_UsedFrames (f : GFrames) (c0 c1 : Value) (w : World) (h : Rd w (eFrames f) [c0, c1]) (hs : (eFrames f).sz ≤ 1048576) : Calls Try.prog 16 #[.agg #[c0, c1]] w (RetP (.int .i64 (pUsedFrames f)) w) := by
  have HRD := Lib.hid h
  have HSZ := Lib.hid hs
  obtain ⟨bs, h⟩ := h
  obtain ⟨b0, b1, rfl, h0, h1⟩ := parts_Frames h
  rw [sz_Frames] at hs
  have hl2 := sz_len (T := 4) (k := 1) (E := eB) (l := f.Used) (n := 1048576) (by show (eBoolS f.Used).sz ≤ _; omega)
  obtain ⟨A, n, cap, rfl⟩ := own_slice h0
  obtain ⟨A2, n2, cap2, rfl, hn2, _, _, hA2⟩ := read_bools (T := 4) h1
  obtain ⟨B, hs_B⟩ : ∃ B, w.heap.size = B := ⟨_, rfl⟩
  have hzo_ := hs_B
  have hx_ : (w.alloc (.cells #[.slice A n cap, .slice A2 n2 cap2] 27)).heap[B]? = some (.cells #[.slice A n cap, .slice A2 n2 cap2] 27 (0, 0)) := by rw [← hzo_]; exact heap_alloc_new w _
  have hb_ : Below w.heap.size w (w.alloc (.cells #[.slice A n cap, .slice A2 n2 cap2] 27)) := (Below.refl _ _).alloc (Nat.le_refl _) _
  have hz_ : (w.alloc (.cells #[.slice A n cap, .slice A2 n2 cap2] 27)).heap.size = B + 1 := by simp [hzo_]
  obtain ⟨w0, hw_⟩ : ∃ z, (w.alloc (.cells #[.slice A n cap, .slice A2 n2 cap2] 27)) = z := ⟨_, rfl⟩
  rw [hw_] at hx_ hb_ hz_
  have HX_w0 := Lib.hid hx_
  have HB_w0 := Lib.hid hb_
  have HW_w0 := Lib.hid hw_
  have hz_w0 := Lib.hid hz_
  clear hx_ hb_ hw_ hz_ hzo_
  have HA2 := Lib.hid hA2
  have HN2 := Lib.hid hn2
  have hn2' : n2 ≤ 1048576 := by omega
  have HOK : Hid (∀ w', Below w.heap.size w w' → Calls Try.prog 20 #[.agg #[.slice A n cap, .slice A2 n2 cap2]] w' (RetP (.bool (decide (okF f))) w')) := fun w' hb => impl_FramesOk f _ _ w' (HRD.out.below hb) HSZ.out
  clear h h0 h1 hs hl2 hA2 hn2 HRD HSZ
  go_enter Try.func16, Try.ntmps16
  go_wp2_with fail
  rw [HW_w0.out]
  refine (HOK.out _ HB_w0.out).mono ?_
  rintro e w1 ⟨rfl, hb1⟩
  have HB1 := Lib.hid (below_step HB_w0.out hb1)
  have hc1 : w1.cell? ⟨B, 1, none⟩ = some (.slice A2 n2 cap2) := cell_below hb1 (cell_of_block HX_w0.out 1)
  clear hb1
  by_cases hok : okF f
  · have hd : decide (okF f) = true := decide_eq_true hok
    rw [hd]
    have HP : Hid (pUsedFrames f = ((f.Used.countP (fun u => u) : Nat) : Int)) := by show _ = _; unfold pUsedFrames; rw [if_pos hok]
    clear hok hd
    go_wp2_with fail
    go_loop [3, 12] (fun q c => ∃ i k : Nat, i ≤ n2 ∧ k ≤ i ∧ c = .int .i64 i ∧ q = .int .i64 k ∧ Hid ((f.Used.take i).countP (fun u => u) = k)) (fun _ c => n2 - (intOf c).toNat)
    case atStart => exact ⟨0, 0, Nat.zero_le _, Nat.le_refl _, rfl, rfl, by show _ = _; simp⟩
    case round =>
      obtain ⟨i, k, hi, hk, rfl, rfl, HQ⟩ := hrel
      by_cases hlt : (i : Int) < n2
      · have hi0 : (0 : Int) ≤ i := by omega
        obtain ⟨g2, o2, u, rfl, hu, hcu⟩ := HA2.out i (by omega)
        have hcu' : w1.cell? ⟨g2, o2 + i, none⟩ = some (.bool u) := cell_below HB1.out hcu
        have hcp := countP_take (fun u => u) f.Used i u hu
        rw [HQ.out] at hcp
        clear hcu hu
        cases u with
        | true =>
          have HCP : Hid ((f.Used.take (i + 1)).countP (fun u => u) = k + 1) := hcp
          clear hcp
          go_wp2
          go_round
          case rel => exact ⟨i + 1, k + 1, by omega, by omega, by go_num, by go_num, HCP.out⟩
          case measure => simp [intOf]; omega
        | false =>
          have HCP : Hid ((f.Used.take (i + 1)).countP (fun u => u) = k) := hcp
          clear hcp
          go_wp2
          go_round
          case rel => exact ⟨i + 1, k, by omega, by omega, by go_num, by go_num, HCP.out⟩
          case measure => simp [intOf]; omega
      · obtain rfl : i = n2 := by omega
        have HF : Hid (pUsedFrames f = (k : Int)) := by
          have h1 := HP.out
          have h2 := HQ.out
          rw [HN2.out, List.take_length] at h2
          rw [h1, h2]; exact Lib.hid rfl
        go_wp2
        go_ret
        exact ⟨by rw [HF.out]; rfl, HB1.out⟩
  · have hd : decide (okF f) = false := decide_eq_false hok
    rw [hd]
    have HF : Hid (pUsedFrames f = 0) := by show _ = _; unfold pUsedFrames; rw [if_neg hok]
    clear hok hd
    go_wp2
    go_ret
    exact ⟨by rw [HF.out]; rfl, HB1.out⟩
end Tr
end Go.Proofs.Ytmajlgnjgnodoaa

/- Page tables: the program's functions that read, and the new table. -/
import Derived.Test.YtbfdopnbclkfcaaI06a
namespace Go.Proofs.Ytbfdopnbclkfcaa
open Go.RowKit
set_option linter.unusedVariables false
namespace Tr
theorem impl_MappedPages (t : GTable) (c0 : Value) (w : World) (h : Rd w (eTable t) [c0]) (hs : (eTable t).sz ≤ 1048576) : Calls Try.prog 15 #[.agg #[c0]] w (RetP (.int .i64 (pMappedPages t)) w) := by
  obtain ⟨bs, h⟩ := h
  have hl := sz_len (T := 33) (k := 2) (E := eEntry) (l := t.Entries) hs
  obtain ⟨A, n, cap, rfl, hn, _, _, hA⟩ := read_rowD (T := 33) (E := eEntry) (k := 2) h (fun _ => rfl)
  obtain ⟨B, hs_B⟩ : ∃ B, w.heap.size = B := ⟨_, rfl⟩
  have hzo_ := hs_B
  have hx_ : (w.alloc (.cells #[.slice A n cap] 28)).heap[B]? = some (.cells #[.slice A n cap] 28 (0, 0)) := by rw [← hzo_]; exact heap_alloc_new w _
  have hb_ : Below w.heap.size w (w.alloc (.cells #[.slice A n cap] 28)) := (Below.refl _ _).alloc (Nat.le_refl _) _
  have hz_ : (w.alloc (.cells #[.slice A n cap] 28)).heap.size = B + 1 := by simp [hzo_]
  obtain ⟨w0, hw_⟩ : ∃ z, (w.alloc (.cells #[.slice A n cap] 28)) = z := ⟨_, rfl⟩
  rw [hw_] at hx_ hb_ hz_
  have HX_w0 := Lib.hid hx_
  have HB_w0 := Lib.hid hb_
  have HW_w0 := Lib.hid hw_
  have hz_w0 := Lib.hid hz_
  clear hx_ hb_ hw_ hz_ hzo_
  have hc0 : w0.cell? ⟨B, 0, none⟩ = some (.slice A n cap) := cell_of_block HX_w0.out 0
  have HA := Lib.hid hA
  have HN := Lib.hid hn
  have hn' : n ≤ 1048576 := by omega
  have HF : Hid (pMappedPages t = ((t.Entries.take n).countP (fun e => e.Mode != 0) : Nat)) := by show _ = _; rw [hn, List.take_length]; rfl
  clear hA hn h hs hl
  go_enter Try.func15, Try.ntmps15
  go_wp2_with fail
  rw [HW_w0.out]
  go_loopw [3, 9] (fun c i wr => ∃ k q : Nat, k ≤ n ∧ q ≤ k ∧ i = .int .i64 k ∧ c = .int .i64 q ∧ Hid ((t.Entries.take k).countP (fun e => e.Mode != 0) = q) ∧ Hid (Below w0.heap.size w0 wr)) (fun _ i _ => n - (intOf i).toNat)
  case atStart => exact ⟨0, 0, Nat.zero_le _, Nat.le_refl _, rfl, rfl, by show _ = _; simp, Below.refl _ _⟩
  case round =>
    obtain ⟨k, q, hk, hq, rfl, rfl, HQ, HBL⟩ := hrel
    by_cases hlt : (k : Int) < n
    · have hk0 : (0 : Int) ≤ k := by omega
      obtain ⟨g, o, x, us, b, rfl, hx, hus, hc, ho, _⟩ := HA.out k (by omega)
      obtain rfl := inv_Entry ho
      have hb0 := below_step HB_w0.out HBL.out
      have hc1 : wr.cell? ⟨g, o + k * 2, none⟩ = some (.int .i64 x.Mode) := cell_below hb0 (hc 0 (by omega))
      have hc2 : wr.cell? ⟨g, o + k * 2 + 1, none⟩ = some (.int .i64 x.Frame) := cell_below hb0 (hc 1 (by omega))
      obtain ⟨C, hs_C⟩ : ∃ B, wr.heap.size = B := ⟨_, rfl⟩
      have hzo_ := hs_C
      have hx_ : (wr.alloc (.cells #[.int .i64 x.Mode, .int .i64 x.Frame] 33)).heap[C]? = some (.cells #[.int .i64 x.Mode, .int .i64 x.Frame] 33 (0, 0)) := by rw [← hzo_]; exact heap_alloc_new wr _
      have hb_ : Below wr.heap.size wr (wr.alloc (.cells #[.int .i64 x.Mode, .int .i64 x.Frame] 33)) := (Below.refl _ _).alloc (Nat.le_refl _) _
      have hz_ : (wr.alloc (.cells #[.int .i64 x.Mode, .int .i64 x.Frame] 33)).heap.size = C + 1 := by simp [hzo_]
      obtain ⟨wx, hw_⟩ : ∃ z, (wr.alloc (.cells #[.int .i64 x.Mode, .int .i64 x.Frame] 33)) = z := ⟨_, rfl⟩
      rw [hw_] at hx_ hb_ hz_
      have HX_wx := Lib.hid hx_
      have HB_wx := Lib.hid hb_
      have HW_wx := Lib.hid hw_
      have hz_wx := Lib.hid hz_
      clear hx_ hb_ hw_ hz_ hzo_
      have hcp := countP_take (fun e => e.Mode != 0) t.Entries k x hx
      rw [HQ.out] at hcp
      have HC := Lib.hid (impl_isMapped x.Mode x.Frame wx)
      by_cases h0 : x.Mode = 0
      · have hb1 : (x.Mode != 0) = false := by rw [h0]; rfl
        rw [hb1] at hcp HC
        have HCP := Lib.hid hcp
        clear hcp hc ho hx h0 hb1 hb0
        generalize x.Mode = md at *
        generalize x.Frame = fr at *
        go_wp2_with fail
        rw [HW_wx.out]
        refine HC.out.mono ?_
        rintro e w2 ⟨rfl, hb2⟩
        have HB2 := Lib.hid (below_step (below_step HBL.out HB_wx.out) hb2)
        clear hb2
        go_wp2
        go_roundw
        case rel => exact ⟨k + 1, q, by omega, by omega, by go_num, rfl, HCP.out, HB2.out⟩
        case measure => simp [intOf]; omega
      · have hb1 : (x.Mode != 0) = true := by simpa using h0
        rw [hb1] at hcp HC
        have HCP := Lib.hid hcp
        clear hcp hc ho hx h0 hb1 hb0
        generalize x.Mode = md at *
        generalize x.Frame = fr at *
        go_wp2_with fail
        rw [HW_wx.out]
        refine HC.out.mono ?_
        rintro e w2 ⟨rfl, hb2⟩
        have HB2 := Lib.hid (below_step (below_step HBL.out HB_wx.out) hb2)
        clear hb2
        go_wp2
        go_roundw
        case rel => exact ⟨k + 1, q + 1, by omega, by omega, by go_num, by go_num, HCP.out, HB2.out⟩
        case measure => simp [intOf]; omega
    · obtain rfl : k = n := by omega
      go_wp2
      go_ret
      exact ⟨by rw [HF.out, HQ.out]; rfl, below_step HB_w0.out HBL.out⟩
theorem okE_iff (frames : Int) (x : GEntry) : okE frames x ↔ okA x.Mode x.Frame ∧ (x.Mode ≠ 0 → x.Frame < frames) := by
  unfold okE okA
  constructor
  · intro h
    refine ⟨by omega, by omega⟩
  · rintro ⟨h1, h2⟩
    rcases h1 with h | ⟨h, h3⟩
    · exact .inl h
    · exact .inr ⟨h, h3, h2 (by omega)⟩
theorem impl_TableOk (t : GTable) (c0 : Value) (frames : Int) (w : World) (h : Rd w (eTable t) [c0]) (hs : (eTable t).sz ≤ 1048576) (hf : okI frames) : Calls Try.prog 17 #[.agg #[c0], .int .i64 frames] w (RetP (.bool (pTableOk t frames)) w) := by
  obtain ⟨bs, h⟩ := h
  have hl := sz_len (T := 33) (k := 2) (E := eEntry) (l := t.Entries) hs
  obtain ⟨A, n, cap, rfl, hn, _, _, hA⟩ := read_rowD (T := 33) (E := eEntry) (k := 2) h (fun _ => rfl)
  obtain ⟨B, hs_B⟩ : ∃ B, w.heap.size = B := ⟨_, rfl⟩
  have hzo_ := hs_B
  have hx_ : (w.alloc (.cells #[.slice A n cap] 28)).heap[B]? = some (.cells #[.slice A n cap] 28 (0, 0)) := by rw [← hzo_]; exact heap_alloc_new w _
  have hb_ : Below w.heap.size w (w.alloc (.cells #[.slice A n cap] 28)) := (Below.refl _ _).alloc (Nat.le_refl _) _
  have hz_ : (w.alloc (.cells #[.slice A n cap] 28)).heap.size = B + 1 := by simp [hzo_]
  obtain ⟨w0, hw_⟩ : ∃ z, (w.alloc (.cells #[.slice A n cap] 28)) = z := ⟨_, rfl⟩
  rw [hw_] at hx_ hb_ hz_
  have HX_w0 := Lib.hid hx_
  have HB_w0 := Lib.hid hb_
  have HW_w0 := Lib.hid hw_
  have hz_w0 := Lib.hid hz_
  clear hx_ hb_ hw_ hz_ hzo_
  have hc0 : w0.cell? ⟨B, 0, none⟩ = some (.slice A n cap) := cell_of_block HX_w0.out 0
  have HA := Lib.hid hA
  have HN := Lib.hid hn
  have hn' : n ≤ 1048576 := by omega
  have hno : ∀ P : Prop, ((∀ e ∈ t.Entries, okE frames e) ∧ 1 ≤ n ∧ n ≤ 32 → P) → ¬ P → pTableOk t frames = false := fun P hp hnp => by
    unfold pTableOk
    rw [decide_eq_false_iff_not, ← hn]
    exact fun hh => hnp (hp hh)
  have HNO := Lib.hid hno
  clear hA hn h hs hl hf hno
  by_cases hlo : 1 ≤ n
  · have g1 : decide ((n : Int) < 1) = false := decide_eq_false (by omega)
    by_cases hhi : n ≤ 32
    · have g2 : decide ((32 : Int) < (n : Int)) = false := decide_eq_false (by omega)
      go_enter Try.func17, Try.ntmps17
      go_wp2_with fail
      rw [HW_w0.out]
      go_loopw [20] (fun i wr => ∃ k : Nat, k ≤ n ∧ i = .int .i64 k ∧ Hid (∀ e ∈ t.Entries.take k, okE frames e) ∧ Hid (Below w0.heap.size w0 wr)) (fun i _ => n - (intOf i).toNat)
      case atStart => exact ⟨0, Nat.zero_le _, rfl, by intro e he; simp at he, Below.refl _ _⟩
      case round =>
        obtain ⟨k, hk, rfl, HQ, HBL⟩ := hrel
        by_cases hlt : (k : Int) < n
        · have hk0 : (0 : Int) ≤ k := by omega
          obtain ⟨g, o, x, us, b, rfl, hx, hus, hc, ho, _⟩ := HA.out k (by omega)
          obtain rfl := inv_Entry ho
          have hb1 := below_step HB_w0.out HBL.out
          have hc1 : wr.cell? ⟨g, o + k * 2, none⟩ = some (.int .i64 x.Mode) := cell_below hb1 (hc 0 (by omega))
          have hc2 : wr.cell? ⟨g, o + k * 2 + 1, none⟩ = some (.int .i64 x.Frame) := cell_below hb1 (hc 1 (by omega))
          obtain ⟨C, hs_C⟩ : ∃ B, wr.heap.size = B := ⟨_, rfl⟩
          have hzo_ := hs_C
          have hx_ : (wr.alloc (.cells #[.int .i64 x.Mode, .int .i64 x.Frame] 33)).heap[C]? = some (.cells #[.int .i64 x.Mode, .int .i64 x.Frame] 33 (0, 0)) := by rw [← hzo_]; exact heap_alloc_new wr _
          have hb_ : Below wr.heap.size wr (wr.alloc (.cells #[.int .i64 x.Mode, .int .i64 x.Frame] 33)) := (Below.refl _ _).alloc (Nat.le_refl _) _
          have hz_ : (wr.alloc (.cells #[.int .i64 x.Mode, .int .i64 x.Frame] 33)).heap.size = C + 1 := by simp [hzo_]
          obtain ⟨wx, hw_⟩ : ∃ z, (wr.alloc (.cells #[.int .i64 x.Mode, .int .i64 x.Frame] 33)) = z := ⟨_, rfl⟩
          rw [hw_] at hx_ hb_ hz_
          have HX_wx := Lib.hid hx_
          have HB_wx := Lib.hid hb_
          have HW_wx := Lib.hid hw_
          have hz_wx := Lib.hid hz_
          clear hx_ hb_ hw_ hz_ hzo_
          have HX := Lib.hid hx
          have HC1 := Lib.hid (impl_entryOk x.Mode x.Frame wx)
          have HI := Lib.hid (okE_iff frames x)
          have HBX := Lib.hid (below_step HBL.out HB_wx.out)
          clear hc ho hx hus hb1
          by_cases hoa : okA x.Mode x.Frame
          · have hd1 : decide (okA x.Mode x.Frame) = true := decide_eq_true hoa
            rw [hd1] at HC1
            clear hd1
            go_wp2_with fail
            rw [HW_wx.out]
            refine HC1.out.mono ?_
            rintro e w2 ⟨rfl, hb2⟩
            have hd0 : w2.cell? ⟨C, 0, none⟩ = some (.int .i64 x.Mode) := cell_below hb2 (cell_of_block HX_wx.out 0)
            have hd1 : w2.cell? ⟨C, 1, none⟩ = some (.int .i64 x.Frame) := cell_below hb2 (cell_of_block HX_wx.out 1)
            have HB2 := Lib.hid (below_step HBX.out hb2)
            have HC2 := Lib.hid (impl_isMapped x.Mode x.Frame w2)
            clear hb2
            by_cases h0 : x.Mode = 0
            · have hb1 : (x.Mode != 0) = false := by rw [h0]; rfl
              have HQ2 : Hid (∀ e ∈ t.Entries.take (k + 1), okE frames e) := mem_take_succ HX.out HQ.out (HI.out.2 ⟨hoa, fun hh => absurd h0 hh⟩)
              rw [hb1] at HC2
              clear hb1 h0 hoa
              go_wp2_with fail
              refine HC2.out.mono ?_
              rintro e w3 ⟨rfl, hb3⟩
              have HB3 := Lib.hid (below_step HB2.out hb3)
              clear hb3
              go_wp2
              go_roundw
              case rel => exact ⟨k + 1, by omega, by go_num, HQ2.out, HB3.out⟩
              case measure => simp [intOf]; omega
            · have hb1 : (x.Mode != 0) = true := by simpa using h0
              rw [hb1] at HC2
              clear hb1
              by_cases hfr : x.Frame < frames
              · have HQ2 : Hid (∀ e ∈ t.Entries.take (k + 1), okE frames e) := mem_take_succ HX.out HQ.out (HI.out.2 ⟨hoa, fun _ => hfr⟩)
                have hg : decide (frames ≤ x.Frame) = false := decide_eq_false (by omega)
                clear h0 hoa hfr
                go_wp2_with fail
                refine HC2.out.mono ?_
                rintro e w3 ⟨rfl, hb3⟩
                have he1 : w3.cell? ⟨C, 1, none⟩ = some (.int .i64 x.Frame) := cell_below hb3 hd1
                have HB3 := Lib.hid (below_step HB2.out hb3)
                clear hb3
                go_wp2
                go_roundw
                case rel => exact ⟨k + 1, by omega, by go_num, HQ2.out, HB3.out⟩
                case measure => simp [intOf]; omega
              · have HF : Hid (pTableOk t frames = false) := HNO.out _ (fun hh => hh.1 x (List.mem_of_getElem? HX.out)) (fun hh => hfr ((HI.out.1 hh).2 h0))
                have hg : decide (frames ≤ x.Frame) = true := decide_eq_true (by omega)
                clear h0 hoa hfr
                go_wp2_with fail
                refine HC2.out.mono ?_
                rintro e w3 ⟨rfl, hb3⟩
                have he1 : w3.cell? ⟨C, 1, none⟩ = some (.int .i64 x.Frame) := cell_below hb3 hd1
                have HB3 := Lib.hid (below_step HB_w0.out (below_step HB2.out hb3))
                clear hb3
                go_wp2
                go_ret
                exact ⟨by rw [HF.out]; rfl, HB3.out⟩
          · have hd1 : decide (okA x.Mode x.Frame) = false := decide_eq_false hoa
            have HF : Hid (pTableOk t frames = false) := HNO.out _ (fun hh => hh.1 x (List.mem_of_getElem? HX.out)) (fun hh => hoa (HI.out.1 hh).1)
            rw [hd1] at HC1
            clear hd1 hoa
            go_wp2_with fail
            rw [HW_wx.out]
            refine HC1.out.mono ?_
            rintro e w2 ⟨rfl, hb2⟩
            have HB2 := Lib.hid (below_step HB_w0.out (below_step HBX.out hb2))
            clear hb2
            go_wp2
            go_ret
            exact ⟨by rw [HF.out]; rfl, HB2.out⟩
        · obtain rfl : k = n := by omega
          have HBF : Hid (Below w.heap.size w wr) := below_step HB_w0.out HBL.out
          have HF : Hid (pTableOk t frames = true) := by
            show _ = _
            unfold pTableOk
            rw [decide_eq_true_iff]
            have h1 := HN.out
            have h2 := HQ.out
            rw [h1, List.take_length] at h2
            exact ⟨h2, by omega, by omega⟩
          go_wp2
          go_ret
          exact ⟨by rw [HF.out]; rfl, HBF.out⟩
    · have g2 : decide ((32 : Int) < (n : Int)) = true := decide_eq_true (by omega)
      have HF : Hid (pTableOk t frames = false) := HNO.out _ (fun hh => hh.2.2) hhi
      clear hhi
      go_enter Try.func17, Try.ntmps17
      go_wp2_with fail
      rw [HW_w0.out]
      go_ret
      exact ⟨by rw [HF.out]; rfl, HB_w0.out⟩
  · have g1 : decide ((n : Int) < 1) = true := decide_eq_true (by omega)
    have HF : Hid (pTableOk t frames = false) := HNO.out _ (fun hh => hh.2.1) hlo
    clear hlo
    go_enter Try.func17, Try.ntmps17
    go_wp2_with fail
    rw [HW_w0.out]
    go_ret
    exact ⟨by rw [HF.out]; rfl, HB_w0.out⟩
end Tr
end Go.Proofs.Ytbfdopnbclkfcaa

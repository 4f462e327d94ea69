/- Physical frames: the specification's functions that read. -/
import Derived.Test.YtkmkpjpopobdbaaDoorEnc
import Derived.Test.YtkmkpjpopobdbaaDoorTreeIn
import Derived.Test.YtkmkpjpopobdbaaDoorBits
import Derived.Test.YtkmkpjpopobdbaaDoorM05
import Derived.WalkKit
import Derived.ProofKit
import Derived.Lib.Hide
import Derived.OwnWalk
namespace Go.Proofs.YtkmkpjpopobdbaaDoor
open Go.RowKit
set_option linter.unusedVariables false
namespace Tr
theorem spec_FramesOk (f : GFrames) (c0 c1 : Value) (w : World) (h : Rd w (eFrames f) [c0, c1]) (hs : (eFrames f).sz ≤ 1048576) : Calls Tryd.prog 63 #[.agg #[c0, c1]] w (RetP (.bool (pFramesOk f)) w) := by
  obtain ⟨bs, h⟩ := h
  obtain ⟨b0, b1, rfl, h0, h1⟩ := parts_Frames h
  rw [sz_Frames] at hs
  have hl := sz_len (T := 34) (k := 1) (E := eIntS) (l := f.Cells) (n := 1048576) (by show (eIntSS f.Cells).sz ≤ _; omega)
  have hl2 := sz_len (T := 4) (k := 1) (E := eB) (l := f.Used) (n := 1048576) (by show (eBoolS f.Used).sz ≤ _; omega)
  obtain ⟨A, n, cap, rfl, hn, _, _, hA⟩ := read_rowD (T := 34) (E := eIntS) (k := 1) h0 (fun _ => rfl)
  obtain ⟨A2, n2, cap2, rfl, hn2, _, _, hA2⟩ := read_bools (T := 4) h1
  obtain ⟨B, hs_B⟩ : ∃ B, w.heap.size = B := ⟨_, rfl⟩
  have hzo_ := hs_B
  have hx_ : (w.alloc (.cells #[.slice A n cap, .slice A2 n2 cap2] 27)).heap[B]? = some (.cells #[.slice A n cap, .slice A2 n2 cap2] 27 (0, 0)) := by rw [← hzo_]; exact heap_alloc_new w _
  have hb_ : Below w.heap.size w (w.alloc (.cells #[.slice A n cap, .slice A2 n2 cap2] 27)) := (Below.refl _ _).alloc (Nat.le_refl _) _
  have hz_ : (w.alloc (.cells #[.slice A n cap, .slice A2 n2 cap2] 27)).heap.size = B + 1 := by simp [hzo_]
  obtain ⟨w0, hw_⟩ : ∃ z, (w.alloc (.cells #[.slice A n cap, .slice A2 n2 cap2] 27)) = z := ⟨_, rfl⟩
  rw [hw_] at hx_ hb_ hz_
  have HX_w0 := Lib.hid hx_
  have HB_w0 := Lib.hid hb_
  have HW_w0 := Lib.hid hw_
  have hz_w0 := Lib.hid hz_
  clear hx_ hb_ hw_ hz_ hzo_
  have hc0 : w0.cell? ⟨B, 0, none⟩ = some (.slice A n cap) := cell_of_block HX_w0.out 0
  have hc1 : w0.cell? ⟨B, 1, none⟩ = some (.slice A2 n2 cap2) := cell_of_block HX_w0.out 1
  have HA := Lib.hid hA
  have HA2 := Lib.hid hA2
  have HN := Lib.hid hn
  have HN2 := Lib.hid hn2
  have hn' : n ≤ 1048576 := by omega
  have hn2' : n2 ≤ 1048576 := by omega
  have hno : ∀ P : Prop, (okF f → P) → ¬ P → pFramesOk f = false := fun P hp hnp => by
    unfold pFramesOk
    rw [decide_eq_false_iff_not]
    exact fun hh => hnp (hp hh)
  have HNO := Lib.hid hno
  clear h h0 h1 hs hl hl2 hA hA2 hn hn2 hno
  by_cases hlen : (1 : Int) ≤ n ∧ (n : Int) ≤ 32
  · by_cases heq : n2 = n
    · subst heq
      have hne : ((n2 : Int) != (n2 : Int)) = false := by simp
      go_enter Tryd.func63, Tryd.ntmps63
      go_wp2_with fail
      rw [HW_w0.out]
      refine (Bm.in_yes _ _ _ _ hlen.1 hlen.2).mono ?_
      rintro e w' ⟨rfl, rfl⟩
      go_wp2_with fail
      go_loopw [3] (fun c wr => ∃ i : Nat, i ≤ n2 ∧ c = .int .i64 i ∧ Hid (∀ p ∈ (f.Cells.zip f.Used).take i, okRow p.2 p.1) ∧ Hid (wr = w0)) (fun c _ => n2 - (intOf c).toNat)
      case atStart => exact ⟨0, Nat.zero_le _, rfl, by intro p hp; simp at hp, rfl⟩
      case round =>
        obtain ⟨i, hi, rfl, HQ, HWR⟩ := hrel
        rw [HWR.out]
        by_cases hlt : (i : Int) < n2
        · have hi0 : (0 : Int) ≤ i := by omega
          obtain ⟨g, o, r, us, b, rfl, hr, hus, hc, ho, _⟩ := HA.out i (by omega)
          obtain ⟨g2, o2, u, rfl, hu, hcu⟩ := HA2.out i (by omega)
          simp only [Nat.mul_one] at hc
          match us, hus with
          | [c], _ =>
          obtain ⟨A3, m, cap3, rfl, hm, _, _, hA3⟩ := read_ints (T := 3) ho
          have hcr : w0.cell? ⟨g, o + i, none⟩ = some (.slice A3 m cap3) := cell_below HB_w0.out (hc 0 (by omega))
          have hcu' : w0.cell? ⟨g2, o2 + i, none⟩ = some (.bool u) := cell_below HB_w0.out hcu
          have HZ := Lib.hid (zip_at hr hu)
          have HR := Lib.hid hr
          have HA3 := Lib.hid hA3
          have HM := Lib.hid hm
          clear hc ho hcu hr hu hm hA3
          by_cases h16 : m = 16
          · subst h16
            go_wp2_with fail
            go_loopw [4] (fun c wq => ∃ k : Nat, k ≤ 16 ∧ c = .int .i64 k ∧ Hid (∀ v ∈ r.take k, okV u v) ∧ Hid (wq = w0)) (fun c _ => 16 - (intOf c).toNat)
            case atStart => exact ⟨0, Nat.zero_le _, rfl, by intro v hv; simp at hv, rfl⟩
            case round =>
              obtain ⟨k, hk, rfl, HV, HWQ⟩ := hrel
              rw [HWQ.out]
              by_cases hlk : (k : Int) < 16
              · have hk0 : (0 : Int) ≤ k := by omega
                obtain ⟨g3, o3, v, rfl, hv, hcv⟩ := HA3.out k (by omega)
                have hcv' : w0.cell? ⟨g3, o3 + k, none⟩ = some (.int .i64 v) := cell_below HB_w0.out hcv
                have HVV := Lib.hid hv
                clear hcv hv
                by_cases hin : 0 ≤ v ∧ v ≤ 999
                · cases u with
                  | true =>
                    have HV2 : Hid (∀ x ∈ r.take (k + 1), okV true x) := mem_take_succ HVV.out HV.out ⟨hin, Or.inl rfl⟩
                    go_wp2_with fail
                    refine (Bm.in_yes _ _ _ _ hin.1 hin.2).mono ?_
                    rintro e w' ⟨rfl, rfl⟩
                    go_wp2
                    go_roundw
                    case rel => exact ⟨k + 1, by omega, by go_num, HV2.out, by first | exact (rfl : _ = _) | exact True.intro⟩
                    case measure => simp [intOf]; omega
                  | false =>
                    by_cases hv0 : v = 0
                    · have HV2 : Hid (∀ x ∈ r.take (k + 1), okV false x) := mem_take_succ HVV.out HV.out ⟨hin, Or.inr hv0⟩
                      subst hv0
                      go_wp2_with fail
                      refine (Bm.in_yes _ _ _ _ hin.1 hin.2).mono ?_
                      rintro e w' ⟨rfl, rfl⟩
                      go_wp2
                      go_roundw
                      case rel => exact ⟨k + 1, by omega, by go_num, HV2.out, by first | exact (rfl : _ = _) | exact True.intro⟩
                      case measure => simp [intOf]; omega
                    · have hb : (v != 0) = true := by rw [bne_iff_ne]; exact hv0
                      have HF : Hid (pFramesOk f = false) := HNO.out _ (fun hh => (hh.2.2 _ (List.mem_of_getElem? HZ.out)).2 v (List.mem_of_getElem? HVV.out)) (fun hh => by have := hh.2; simp at this; exact hv0 this)
                      clear hv0
                      go_wp2_with fail
                      refine (Bm.in_yes _ _ _ _ hin.1 hin.2).mono ?_
                      rintro e w' ⟨rfl, rfl⟩
                      go_wp2
                      go_ret
                      exact ⟨by rw [HF.out]; rfl, HB_w0.out⟩
                · have HF : Hid (pFramesOk f = false) := HNO.out _ (fun hh => (hh.2.2 _ (List.mem_of_getElem? HZ.out)).2 v (List.mem_of_getElem? HVV.out)) (fun hh => hin hh.1)
                  have HI := Lib.hid hin
                  clear hin
                  go_wp2_with fail
                  refine (Bm.in_no _ _ _ _ HI.out).mono ?_
                  rintro e w' ⟨rfl, rfl⟩
                  go_wp2
                  go_ret
                  exact ⟨by rw [HF.out]; rfl, HB_w0.out⟩
              · obtain rfl : k = 16 := by omega
                have HQ2 : Hid (∀ p ∈ (f.Cells.zip f.Used).take (i + 1), okRow p.2 p.1) := mem_take_succ HZ.out HQ.out ⟨HM.out.symm, by have := HV.out; rw [HM.out, List.take_length] at this; exact this⟩
                go_wp2
                go_roundw
                case rel => exact ⟨i + 1, by omega, by go_num, HQ2.out, by first | exact (rfl : _ = _) | exact True.intro⟩
                case measure => simp [intOf]; omega
          · have hb : ((m : Int) != 16) = true := by rw [bne_iff_ne]; omega
            have HF : Hid (pFramesOk f = false) := HNO.out _ (fun hh => (hh.2.2 _ (List.mem_of_getElem? HZ.out)).1) (fun hh => h16 (by rw [HM.out]; exact hh))
            clear h16
            go_wp2
            go_ret
            exact ⟨by rw [HF.out]; rfl, HB_w0.out⟩
        · obtain rfl : i = n2 := by omega
          have HF : Hid (pFramesOk f = true) := by
            show _ = _
            unfold pFramesOk
            rw [decide_eq_true_iff]
            have h1 := HN.out
            have h2 := HN2.out
            refine ⟨⟨by omega, by omega⟩, by omega, ?_⟩
            have := HQ.out
            rw [List.take_of_length_le (by rw [List.length_zip]; omega)] at this
            exact this
          go_wp2
          go_ret
          exact ⟨by rw [HF.out]; rfl, HB_w0.out⟩
    · have hb : ((n2 : Int) != (n : Int)) = true := by rw [bne_iff_ne]; omega
      have HF : Hid (pFramesOk f = false) := HNO.out _ (fun hh => hh.2.1) (by have h1 := HN.out; have h2 := HN2.out; omega)
      clear heq
      go_enter Tryd.func63, Tryd.ntmps63
      go_wp2_with fail
      rw [HW_w0.out]
      refine (Bm.in_yes _ _ _ _ hlen.1 hlen.2).mono ?_
      rintro e w' ⟨rfl, rfl⟩
      go_wp2
      go_ret
      exact ⟨by rw [HF.out]; rfl, HB_w0.out⟩
  · have HF : Hid (pFramesOk f = false) := HNO.out _ (fun hh => hh.1) (by have h1 := HN.out; omega)
    have HL := Lib.hid hlen
    clear hlen
    go_enter Tryd.func63, Tryd.ntmps63
    go_wp2_with fail
    rw [HW_w0.out]
    refine (Bm.in_no _ _ _ _ HL.out).mono ?_
    rintro e w' ⟨rfl, rfl⟩
    go_wp2
    go_ret
    exact ⟨by rw [HF.out]; rfl, HB_w0.out⟩
end Tr
end Go.Proofs.YtkmkpjpopobdbaaDoor

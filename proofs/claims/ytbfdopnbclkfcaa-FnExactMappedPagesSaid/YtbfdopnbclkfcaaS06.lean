/- Page tables: the specification's functions. -/
import Derived.Test.YtbfdopnbclkfcaaEnc
import Derived.Test.YtbfdopnbclkfcaaTreeIn
import Derived.Test.YtbfdopnbclkfcaaBits
import Derived.OwnWalk
import Derived.Deep.AppendLies
import Derived.Test.YtbfdopnbclkfcaaM06
import Derived.WalkKit
import Derived.ProofKit
import Derived.Lib.Hide
namespace Go.Proofs.Ytbfdopnbclkfcaa
open Go.RowKit
set_option linter.unusedVariables false
namespace Tr
theorem spec_MappedPages (t : GTable) (c0 : Value) (w : World) (h : Rd w (eTable t) [c0]) (hs : (eTable t).sz ≤ 1048576) : Calls Try.prog 33 #[.agg #[c0]] w (RetP (.int .i64 (pMappedPages t)) w) := by
  obtain ⟨bs, h⟩ := h
  have hl := sz_len (T := 33) (k := 2) (E := eEntry) (l := t.Entries) hs
  obtain ⟨A, n, cap, rfl, hn, _, _, hA⟩ := read_rowD (T := 33) (E := eEntry) (k := 2) h (fun _ => rfl)
  obtain ⟨B, hs_B⟩ : ∃ B, w.heap.size = B := ⟨_, rfl⟩
  have hzo_ := hs_B
  have hx_ : (w.alloc (.cells #[.slice A n cap] 28)).heap[B]? = some (.cells #[.slice A n cap] 28 (0, 0)) := by rw [← hzo_]; exact heap_alloc_new w _
  have hb_ : Below w.heap.size w (w.alloc (.cells #[.slice A n cap] 28)) := (Below.refl _ _).alloc (Nat.le_refl _) _
  have hz_ : (w.alloc (.cells #[.slice A n cap] 28)).heap.size = B + 1 := by simp [hzo_]
  obtain ⟨w0, hw_⟩ : ∃ z, (w.alloc (.cells #[.slice A n cap] 28)) = z := ⟨_, rfl⟩
  rw [hw_] at hx_ hb_ hz_
  have HX_w0 := Lib.hid hx_
  have HB_w0 := Lib.hid hb_
  have HW_w0 := Lib.hid hw_
  have hz_w0 := Lib.hid hz_
  clear hx_ hb_ hw_ hz_ hzo_
  have hc0 : w0.cell? ⟨B, 0, none⟩ = some (.slice A n cap) := cell_of_block HX_w0.out 0
  have HA := Lib.hid hA
  have HN := Lib.hid hn
  have hn' : n ≤ 1048576 := by omega
  have HF : Hid (pMappedPages t = ((t.Entries.take n).countP (fun e => e.Mode != 0) : Nat)) := by show _ = _; rw [hn, List.take_length]; rfl
  clear hA hn h hs hl
  go_enter Try.func33, Try.ntmps33
  go_wp2_with fail
  rw [HW_w0.out]
  go_loopw [3, 4] (fun c i wr => ∃ k q : Nat, k ≤ n ∧ q ≤ k ∧ i = .int .i64 k ∧ c = .int .i64 q ∧ Hid ((t.Entries.take k).countP (fun e => e.Mode != 0) = q) ∧ wr = w0) (fun _ i _ => n - (intOf i).toNat)
  case atStart => exact ⟨0, 0, Nat.zero_le _, Nat.le_refl _, rfl, rfl, by show _ = _; simp, rfl⟩
  case round =>
    obtain ⟨k, q, hk, hq, rfl, rfl, HQ, rfl⟩ := hrel
    by_cases hlt : (k : Int) < n
    · have hk0 : (0 : Int) ≤ k := by omega
      obtain ⟨g, o, x, us, b, rfl, hx, hus, hc, ho, _⟩ := HA.out k (by omega)
      obtain rfl := inv_Entry ho
      have hc1 : wr.cell? ⟨g, o + k * 2, none⟩ = some (.int .i64 x.Mode) := cell_below HB_w0.out (hc 0 (by omega))
      have hcp := countP_take (fun e => e.Mode != 0) t.Entries k x hx
      rw [HQ.out] at hcp
      by_cases h0 : x.Mode = 0
      · have hb1 : (x.Mode != 0) = false := by rw [h0]; rfl
        rw [hb1] at hcp
        have HCP := Lib.hid hcp
        clear hcp hc ho hx h0
        generalize x.Mode = y at *
        go_wp2
        go_roundw
        case rel => exact ⟨k + 1, q, by omega, by omega, by go_num, rfl, HCP.out, by trivial⟩
        case measure => simp [intOf]; omega
      · have hb1 : (x.Mode != 0) = true := by simpa using h0
        rw [hb1] at hcp
        have HCP := Lib.hid hcp
        clear hcp hc ho hx h0
        generalize x.Mode = y at *
        go_wp2
        go_roundw
        case rel => exact ⟨k + 1, q + 1, by omega, by omega, by go_num, by go_num, HCP.out, by trivial⟩
        case measure => simp [intOf]; omega
    · obtain rfl : k = n := by omega
      go_wp2
      go_ret
      exact ⟨by rw [HF.out, HQ.out]; rfl, HB_w0.out⟩
theorem spec_TableOk (t : GTable) (c0 : Value) (frames : Int) (w : World) (h : Rd w (eTable t) [c0]) (hs : (eTable t).sz ≤ 1048576) (hf : okI frames) : Calls Try.prog 23 #[.agg #[c0], .int .i64 frames] w (RetP (.bool (pTableOk t frames)) w) := by
  obtain ⟨bs, h⟩ := h
  have hl := sz_len (T := 33) (k := 2) (E := eEntry) (l := t.Entries) hs
  obtain ⟨A, n, cap, rfl, hn, _, _, hA⟩ := read_rowD (T := 33) (E := eEntry) (k := 2) h (fun _ => rfl)
  obtain ⟨B, hs_B⟩ : ∃ B, w.heap.size = B := ⟨_, rfl⟩
  have hzo_ := hs_B
  have hx_ : (w.alloc (.cells #[.slice A n cap] 28)).heap[B]? = some (.cells #[.slice A n cap] 28 (0, 0)) := by rw [← hzo_]; exact heap_alloc_new w _
  have hb_ : Below w.heap.size w (w.alloc (.cells #[.slice A n cap] 28)) := (Below.refl _ _).alloc (Nat.le_refl _) _
  have hz_ : (w.alloc (.cells #[.slice A n cap] 28)).heap.size = B + 1 := by simp [hzo_]
  obtain ⟨w0, hw_⟩ : ∃ z, (w.alloc (.cells #[.slice A n cap] 28)) = z := ⟨_, rfl⟩
  rw [hw_] at hx_ hb_ hz_
  have HX_w0 := Lib.hid hx_
  have HB_w0 := Lib.hid hb_
  have HW_w0 := Lib.hid hw_
  have hz_w0 := Lib.hid hz_
  clear hx_ hb_ hw_ hz_ hzo_
  have HA := Lib.hid hA
  have HN := Lib.hid hn
  have hn' : n ≤ 1048576 := by omega
  clear hA hn h hs hl hf
  go_enter Try.func23, Try.ntmps23
  go_wp2_with fail
  rw [HW_w0.out]
  go_loopw [5] (fun i wr => ∃ k : Nat, k ≤ n ∧ i = .int .i64 k ∧ Hid (∀ e ∈ t.Entries.take k, okE frames e) ∧ Hid (Below w0.heap.size w0 wr)) (fun i _ => n - (intOf i).toNat)
  case atStart => exact ⟨0, Nat.zero_le _, rfl, by intro e he; simp at he, Below.refl _ _⟩
  case round =>
    obtain ⟨k, hk, rfl, HQ, HBL⟩ := hrel
    have hc0 : wr.cell? ⟨B, 0, none⟩ = some (.slice A n cap) := cell_below HBL.out (cell_of_block HX_w0.out 0)
    by_cases hlt : (k : Int) < n
    · have hk0 : (0 : Int) ≤ k := by omega
      obtain ⟨g, o, x, us, b, rfl, hx, hus, hc, ho, _⟩ := HA.out k (by omega)
      obtain rfl := inv_Entry ho
      have hb1 := below_step HB_w0.out HBL.out
      have hc1 : wr.cell? ⟨g, o + k * 2, none⟩ = some (.int .i64 x.Mode) := cell_below hb1 (hc 0 (by omega))
      have hc2 : wr.cell? ⟨g, o + k * 2 + 1, none⟩ = some (.int .i64 x.Frame) := cell_below hb1 (hc 1 (by omega))
      have HB2 : Hid (Below w0.heap.size w0 (wr.alloc (.cells #[.int .i64 x.Mode, .int .i64 x.Frame] 33))) := HBL.out.alloc HBL.out.size _
      have HBF : Hid (Below w.heap.size w (wr.alloc (.cells #[.int .i64 x.Mode, .int .i64 x.Frame] 33))) := below_step HB_w0.out HB2.out
      by_cases hok : okE frames x
      · have HQ2 : Hid (∀ e ∈ t.Entries.take (k + 1), okE frames e) := mem_take_succ hx HQ.out hok
        clear HQ hb1 hc ho hx hus
        unfold okE at hok
        generalize x.Mode = md at *
        generalize x.Frame = fr at *
        rcases hok with ⟨rfl, rfl⟩ | ⟨rfl | rfl, h1, h2⟩
        · go_wp2_with fail
          refine (Bm.in_yes _ _ _ _ (by omega) (by omega)).mono ?_
          rintro e w' ⟨rfl, rfl⟩
          go_wp2
          go_roundw
          case rel => exact ⟨k + 1, by omega, by go_num, HQ2.out, HB2.out⟩
          case measure => simp [intOf]; omega
        · go_wp2_with fail
          refine (Bm.in_yes _ _ _ _ (by omega) (by omega)).mono ?_
          rintro e w' ⟨rfl, rfl⟩
          go_wp2
          go_roundw
          case rel => exact ⟨k + 1, by omega, by go_num, HQ2.out, HB2.out⟩
          case measure => simp [intOf]; omega
        · go_wp2_with fail
          refine (Bm.in_yes _ _ _ _ (by omega) (by omega)).mono ?_
          rintro e w' ⟨rfl, rfl⟩
          go_wp2
          go_roundw
          case rel => exact ⟨k + 1, by omega, by go_num, HQ2.out, HB2.out⟩
          case measure => simp [intOf]; omega
      · have HF : Hid (pTableOk t frames = false) := by
          show _ = _
          unfold pTableOk
          rw [decide_eq_false_iff_not]
          exact fun hh => hok (hh.1 x (List.mem_of_getElem? hx))
        clear HQ hb1 hc ho hx hus
        unfold okE at hok
        generalize x.Mode = md at *
        generalize x.Frame = fr at *
        by_cases hm : 0 ≤ md ∧ md ≤ 2
        · rcases (show md = 0 ∨ md = 1 ∨ md = 2 by omega) with rfl | rfl | rfl
          · have hne : (fr != 0) = true := by rw [bne_iff_ne]; omega
            clear hok hm
            go_wp2_with fail
            refine (Bm.in_yes _ _ _ _ (by omega) (by omega)).mono ?_
            rintro e w' ⟨rfl, rfl⟩
            go_wp2
            go_ret
            exact ⟨by rw [HF.out]; rfl, HBF.out⟩
          · by_cases h0 : 0 ≤ fr
            · have h1 : decide (fr < frames) = false := by simp; omega
              clear hok hm
              go_wp2_with fail
              refine (Bm.in_yes _ _ _ _ (by omega) (by omega)).mono ?_
              rintro e w' ⟨rfl, rfl⟩
              go_wp2
              go_ret
              exact ⟨by rw [HF.out]; rfl, HBF.out⟩
            · have h1 : decide (0 ≤ fr) = false := by simp; omega
              clear hok hm
              go_wp2_with fail
              refine (Bm.in_yes _ _ _ _ (by omega) (by omega)).mono ?_
              rintro e w' ⟨rfl, rfl⟩
              go_wp2
              go_ret
              exact ⟨by rw [HF.out]; rfl, HBF.out⟩
          · by_cases h0 : 0 ≤ fr
            · have h1 : decide (fr < frames) = false := by simp; omega
              clear hok hm
              go_wp2_with fail
              refine (Bm.in_yes _ _ _ _ (by omega) (by omega)).mono ?_
              rintro e w' ⟨rfl, rfl⟩
              go_wp2
              go_ret
              exact ⟨by rw [HF.out]; rfl, HBF.out⟩
            · have h1 : decide (0 ≤ fr) = false := by simp; omega
              clear hok hm
              go_wp2_with fail
              refine (Bm.in_yes _ _ _ _ (by omega) (by omega)).mono ?_
              rintro e w' ⟨rfl, rfl⟩
              go_wp2
              go_ret
              exact ⟨by rw [HF.out]; rfl, HBF.out⟩
        · clear hok
          have HM := Lib.hid hm
          clear hm
          go_wp2_with fail
          refine (Bm.in_no _ _ _ _ HM.out).mono ?_
          rintro e w' ⟨rfl, rfl⟩
          go_wp2
          go_ret
          exact ⟨by rw [HF.out]; rfl, HBF.out⟩
    · obtain rfl : k = n := by omega
      have HBF : Hid (Below w.heap.size w wr) := below_step HB_w0.out HBL.out
      have hall : ∀ e ∈ t.Entries, okE frames e := by have := HQ.out; rw [HN.out, List.take_length] at this; exact this
      by_cases hl : (1 : Int) ≤ k ∧ (k : Int) ≤ 32
      · have HF : Hid (pTableOk t frames = true) := by
          show _ = _
          unfold pTableOk
          rw [decide_eq_true_iff]
          have := HN.out
          exact ⟨hall, by omega, by omega⟩
        clear hall
        go_wp2_with fail
        refine (Bm.in_yes _ _ _ _ hl.1 hl.2).mono ?_
        rintro e w' ⟨rfl, rfl⟩
        go_wp2
        go_ret
        exact ⟨by rw [HF.out]; rfl, HBF.out⟩
      · have HF : Hid (pTableOk t frames = false) := by
          show _ = _
          unfold pTableOk
          rw [decide_eq_false_iff_not]
          have := HN.out
          exact fun hh => hl (by omega)
        have HL := Lib.hid hl
        clear hall hl
        go_wp2_with fail
        refine (Bm.in_no _ _ _ _ HL.out).mono ?_
        rintro e w' ⟨rfl, rfl⟩
        go_wp2
        go_ret
        exact ⟨by rw [HF.out]; rfl, HBF.out⟩
theorem flatE (x : GEntry) : (eEntry x).flat := ⟨rfl, rfl, trivial⟩
theorem infoE : (Try.prog.info? 33).map (fun i => (i.zero, i.size, i.bytes)) = some (some (.agg #[.int .i64 0, .int .i64 0]), 2, 16) := by kernel_rfl
theorem sizeT : (Try.prog.info? 28).map (·.size) = some 1 := by kernel_rfl
theorem spec_l06Copy (t : GTable) (c0 : Value) (w : World) (h : Rd w (eTable t) [c0]) (hs : (eTable t).sz ≤ 1048576) : Calls Try.prog 46 #[.agg #[c0]] w (RetM (fun us => .agg us.toArray) (eTable t) w) := by
  obtain ⟨bs, h⟩ := h
  obtain ⟨A, n, cap, rfl⟩ := own_slice h
  obtain ⟨hn, hn'⟩ := row_n (T := 33) (k := 2) (E := eEntry) (l := t.Entries) h hs
  obtain ⟨i0, hi, hz0, hz1, hz2⟩ := info_parts infoE
  obtain ⟨B, hs_B⟩ : ∃ B, w.heap.size = B := ⟨_, rfl⟩
  have hzo_ := hs_B
  have hx_ : (w.alloc (.cells #[.slice A n cap] 28)).heap[B]? = some (.cells #[.slice A n cap] 28 (0, 0)) := by rw [← hzo_]; exact heap_alloc_new w _
  have hb_ : Below w.heap.size w (w.alloc (.cells #[.slice A n cap] 28)) := (Below.refl _ _).alloc (Nat.le_refl _) _
  have hz_ : (w.alloc (.cells #[.slice A n cap] 28)).heap.size = B + 1 := by simp [hzo_]
  obtain ⟨w0, hw_⟩ : ∃ z, (w.alloc (.cells #[.slice A n cap] 28)) = z := ⟨_, rfl⟩
  rw [hw_] at hx_ hb_ hz_
  have HX_w0 := Lib.hid hx_
  have HB_w0 := Lib.hid hb_
  have HW_w0 := Lib.hid hw_
  have hz_w0 := Lib.hid hz_
  clear hx_ hb_ hw_ hz_ hzo_
  have hzo_ := hz_w0.out
  have hx_ : (w0.alloc (.cells #[.slice none 0 0] 28)).heap[B + 1]? = some (.cells #[.slice none 0 0] 28 (0, 0)) := by rw [← hzo_]; exact heap_alloc_new w0 _
  have hb_ : Below w0.heap.size w0 (w0.alloc (.cells #[.slice none 0 0] 28)) := (Below.refl _ _).alloc (Nat.le_refl _) _
  have hz_ : (w0.alloc (.cells #[.slice none 0 0] 28)).heap.size = B + 1 + 1 := by simp [hzo_]
  obtain ⟨w1, hw_⟩ : ∃ z, (w0.alloc (.cells #[.slice none 0 0] 28)) = z := ⟨_, rfl⟩
  rw [hw_] at hx_ hb_ hz_
  have HX_w1 := Lib.hid hx_
  have HB_w1 := Lib.hid hb_
  have HW_w1 := Lib.hid hw_
  have hz_w1 := Lib.hid hz_
  clear hx_ hb_ hw_ hz_ hzo_
  have hzo_ := hz_w1.out
  have hx_ : (w1.alloc (.cells #[] 33)).heap[B + 1 + 1]? = some (.cells #[] 33 (0, 0)) := by rw [← hzo_]; exact heap_alloc_new w1 _
  have hb_ : Below w1.heap.size w1 (w1.alloc (.cells #[] 33)) := (Below.refl _ _).alloc (Nat.le_refl _) _
  have hz_ : (w1.alloc (.cells #[] 33)).heap.size = B + 1 + 1 + 1 := by simp [hzo_]
  obtain ⟨w2, hw_⟩ : ∃ z, (w1.alloc (.cells #[] 33)) = z := ⟨_, rfl⟩
  rw [hw_] at hx_ hb_ hz_
  have HX_w2 := Lib.hid hx_
  have HB_w2 := Lib.hid hb_
  have HW_w2 := Lib.hid hw_
  have hz_w2 := Lib.hid hz_
  clear hx_ hb_ hw_ hz_ hzo_
  have hc0 : w2.cell? ⟨B, 0, none⟩ = some (.slice A n cap) := cell_below HB_w2.out (cell_below HB_w1.out (cell_of_block HX_w0.out 0))
  have HB2 := Lib.hid (below_step (below_step HB_w0.out HB_w1.out) HB_w2.out)
  have H := Lib.hid (own_below h HB2.out (own_lt _ h))
  have hown : w2.ownsRow (B + 1 + 1) 33 2 (.slice (some ⟨B + 1 + 1, 0, none⟩) 0 0) 0 [] := ⟨by simp, .inr ⟨_, 0, _, rfl, Nat.le_refl _, HX_w2.out, Nat.le_refl _, by unfold maxLen; omega, rfl, by simp⟩⟩
  have HO := Lib.hid hown
  have hr1 : w2.heap[B + 1]? = some (.cells #[.slice none 0 0] 28 (0, 0)) := (HB_w2.out.block _ (by have := hz_w1.out; omega)).trans HX_w1.out
  have HR := Lib.hid hr1
  clear h hs hn hown hr1
  go_enter Try.func46, Try.ntmps46
  go_wp2_with (at_builtin; rw [HW_w0.out, HW_w1.out, HW_w2.out]; refine wpList_copy_flat rfl _ _ 26 rfl (B + 1 + 1) 33 i0 _ 2 16 Try.underlying26 hi hz0 hz1 hz2 rfl (by omega) _ rfl HO.out A n cap rfl eEntry t.Entries bs H.out (fun _ => rfl) flatE (by omega) (by omega) (by have := hz_w2.out; omega) ?_)
  intro v' w3 hown3 hgrow
  obtain ⟨A1, n1, p1, rfl⟩ := owned_slice hown3
  have hr3 := (hgrow.block (B + 1) (by have := hz_w2.out; omega) (by simp [Value.ownBlock])).trans HR.out
  have hk3 : w3.cell? ⟨B + 1, 0, none⟩ = some (.slice none 0 0) := cell_of_block hr3 0
  have hf3 := free_of_block hr3 0
  have HG := Lib.hid (block_set hr3 0 (.slice A1 n1 p1))
  have HE : Hid (Owned (w3.setCell ⟨B + 1, 0, none⟩ (.slice A1 n1 p1)) w.heap.size (eTable t) [.slice A1 n1 p1]) := (hown3.setCell (by show B + 1 < B + 1 + 1; omega) _).mono (by omega)
  have HBE : Hid (Below w.heap.size w (w3.setCell ⟨B + 1, 0, none⟩ (.slice A1 n1 p1))) := (HB2.out.grown hgrow (by have := hz_w2.out; omega) (fun k hk => by have : B + 1 + 1 = k := (by simpa [Value.ownBlock] using hk); omega)).setCell (by show _ ≤ B + 1; omega) _
  clear hr3 hown3 hgrow
  go_wp2
  refine ret_c rfl HG.out rfl Try.underlying28 rfl sizeT rfl ?_
  exact ⟨[_], rfl, HE.out, HBE.out⟩
theorem sizeE : (Try.prog.info? 33).map (·.size) = some 2 := by kernel_rfl
theorem spec_PageEntry (t : GTable) (c0 : Value) (page : Int) (w : World) (h : Rd w (eTable t) [c0]) (hs : (eTable t).sz ≤ 1048576) (hp : okI page) : Calls Try.prog 27 #[.agg #[c0], .int .i64 page] w (RetP (.agg #[.int .i64 (pPageEntry t page).Mode, .int .i64 (pPageEntry t page).Frame]) w) := by
  obtain ⟨bs, h⟩ := h
  have hl := sz_len (T := 33) (k := 2) (E := eEntry) (l := t.Entries) hs
  obtain ⟨A, n, cap, rfl, hn, _, _, hA⟩ := read_rowD (T := 33) (E := eEntry) (k := 2) h (fun _ => rfl)
  obtain ⟨B, hs_B⟩ : ∃ B, w.heap.size = B := ⟨_, rfl⟩
  have hzo_ := hs_B
  have hx_ : (w.alloc (.cells #[.slice A n cap] 28)).heap[B]? = some (.cells #[.slice A n cap] 28 (0, 0)) := by rw [← hzo_]; exact heap_alloc_new w _
  have hb_ : Below w.heap.size w (w.alloc (.cells #[.slice A n cap] 28)) := (Below.refl _ _).alloc (Nat.le_refl _) _
  have hz_ : (w.alloc (.cells #[.slice A n cap] 28)).heap.size = B + 1 := by simp [hzo_]
  obtain ⟨w0, hw_⟩ : ∃ z, (w.alloc (.cells #[.slice A n cap] 28)) = z := ⟨_, rfl⟩
  rw [hw_] at hx_ hb_ hz_
  have HX_w0 := Lib.hid hx_
  have HB_w0 := Lib.hid hb_
  have HW_w0 := Lib.hid hw_
  have hz_w0 := Lib.hid hz_
  clear hx_ hb_ hw_ hz_ hzo_
  have hzo_ := hz_w0.out
  have hx_ : (w0.alloc (.cells #[.int .i64 0, .int .i64 0] 33)).heap[B + 1]? = some (.cells #[.int .i64 0, .int .i64 0] 33 (0, 0)) := by rw [← hzo_]; exact heap_alloc_new w0 _
  have hb_ : Below w0.heap.size w0 (w0.alloc (.cells #[.int .i64 0, .int .i64 0] 33)) := (Below.refl _ _).alloc (Nat.le_refl _) _
  have hz_ : (w0.alloc (.cells #[.int .i64 0, .int .i64 0] 33)).heap.size = B + 1 + 1 := by simp [hzo_]
  obtain ⟨w1, hw_⟩ : ∃ z, (w0.alloc (.cells #[.int .i64 0, .int .i64 0] 33)) = z := ⟨_, rfl⟩
  rw [hw_] at hx_ hb_ hz_
  have HX_w1 := Lib.hid hx_
  have HB_w1 := Lib.hid hb_
  have HW_w1 := Lib.hid hw_
  have hz_w1 := Lib.hid hz_
  clear hx_ hb_ hw_ hz_ hzo_
  have hc0 : w1.cell? ⟨B, 0, none⟩ = some (.slice A n cap) := cell_below HB_w1.out (cell_of_block HX_w0.out 0)
  have HB2 := Lib.hid (below_step HB_w0.out HB_w1.out)
  have hk0 : w1.cell? ⟨B + 1, 0, none⟩ = some (.int .i64 0) := cell_of_block HX_w1.out 0
  have hf0 := free_of_block HX_w1.out 0
  have hn' : n ≤ 1048576 := by omega
  have HN := Lib.hid hn
  clear h hs hn hl hp
  by_cases hin : 0 ≤ page ∧ page ≤ (n : Int) - 1
  · obtain ⟨i, rfl⟩ := Int.eq_ofNat_of_zero_le hin.1
    obtain ⟨g, o, x, us, b, rfl, hx, hus, hc, ho, _⟩ := hA i (by omega)
    obtain rfl := inv_Entry ho
    have HF : Hid (pPageEntry t (i : Int) = x) := by
      show _ = _
      unfold pPageEntry
      have := HN.out
      rw [if_pos (by omega), Int.toNat_natCast, List.getD_eq_getElem?_getD, hx]; rfl
    rw [HF.out]
    have hc1 : w1.cell? ⟨g, o + i * 2, none⟩ = some (.int .i64 x.Mode) := cell_below HB2.out (hc 0 (by omega))
    have hc2 : w1.cell? ⟨g, o + i * 2 + 1, none⟩ = some (.int .i64 x.Frame) := cell_below HB2.out (hc 1 (by omega))
    have hi2 : (i : Int) < n := by omega
    have hg1 := block_set HX_w1.out 0 (.int .i64 x.Mode)
    have hk1 : (w1.setCell ⟨B + 1, 0, none⟩ (.int .i64 x.Mode)).cell? ⟨B + 1, 1, none⟩ = some (.int .i64 0) := cell_of_block hg1 1
    have hf1 := free_of_block hg1 1
    have HG := Lib.hid (block_set hg1 1 (.int .i64 x.Frame))
    have HBE : Hid (Below w.heap.size w ((w1.setCell ⟨B + 1, 0, none⟩ (.int .i64 x.Mode)).setCell ⟨B + 1, 1, none⟩ (.int .i64 x.Frame))) := (HB2.out.setCell (p := ⟨B + 1, 0, none⟩) (by show _ ≤ B + 1; omega) _).setCell (p := ⟨B + 1, 1, none⟩) (by show _ ≤ B + 1; omega) _
    clear hc ho hx hus hA hg1
    generalize x.Mode = md at *
    generalize x.Frame = fr at *
    go_enter Try.func27, Try.ntmps27
    go_wp2_with fail
    rw [HW_w0.out, HW_w1.out]
    refine (Bm.in_yes _ _ _ _ hin.1 hin.2).mono ?_
    rintro e w' ⟨rfl, rfl⟩
    go_wp2
    refine ret_c rfl HG.out rfl Try.underlying33 rfl sizeE rfl ?_
    exact ⟨rfl, HBE.out⟩
  · have HF : Hid (pPageEntry t page = ⟨0, 0⟩) := by
      show _ = _
      unfold pPageEntry
      have := HN.out
      rw [if_neg (by omega)]
    rw [HF.out]
    have hg1 := block_set HX_w1.out 0 (.int .i64 0)
    have hk1 : (w1.setCell ⟨B + 1, 0, none⟩ (.int .i64 0)).cell? ⟨B + 1, 1, none⟩ = some (.int .i64 0) := cell_of_block hg1 1
    have hf1 := free_of_block hg1 1
    have HG := Lib.hid (block_set hg1 1 (.int .i64 0))
    have HBE : Hid (Below w.heap.size w ((w1.setCell ⟨B + 1, 0, none⟩ (.int .i64 0)).setCell ⟨B + 1, 1, none⟩ (.int .i64 0))) := (HB2.out.setCell (p := ⟨B + 1, 0, none⟩) (by show _ ≤ B + 1; omega) _).setCell (p := ⟨B + 1, 1, none⟩) (by show _ ≤ B + 1; omega) _
    have HI := Lib.hid hin
    clear hA hg1 hin
    go_enter Try.func27, Try.ntmps27
    go_wp2_with fail
    rw [HW_w0.out, HW_w1.out]
    refine (Bm.in_no _ _ _ _ HI.out).mono ?_
    rintro e w' ⟨rfl, rfl⟩
    go_wp2
    refine ret_c rfl HG.out rfl Try.underlying33 rfl sizeE rfl ?_
    exact ⟨rfl, HBE.out⟩
set_option maxHeartbeats 2000000 in
theorem spec_SetPage (t : GTable) (c0 : Value) (page : Int) (e : GEntry) (w : World) (h : Rd w (eTable t) [c0]) (hs : (eTable t).sz ≤ 1048576) (hp : okI page) : Calls Try.prog 25 #[.agg #[c0], .int .i64 page, .agg #[.int .i64 e.Mode, .int .i64 e.Frame]] w (RetM (fun us => .tuple #[.agg us.toArray, .bool (pSetPage t page e).2]) (eTable (pSetPage t page e).1) w) := by
  obtain ⟨bs, h⟩ := h
  obtain ⟨A, n, cap, rfl⟩ := own_slice h
  obtain ⟨hn, hn'⟩ := row_n (T := 33) (k := 2) (E := eEntry) (l := t.Entries) h hs
  obtain ⟨md, hmd⟩ : ∃ z, e.Mode = z := ⟨_, rfl⟩
  obtain ⟨fr, hfr⟩ : ∃ z, e.Frame = z := ⟨_, rfl⟩
  rw [hmd, hfr]
  obtain ⟨B, hs_B⟩ : ∃ B, w.heap.size = B := ⟨_, rfl⟩
  have hzo_ := hs_B
  have hx_ : (w.alloc (.cells #[.slice A n cap] 28)).heap[B]? = some (.cells #[.slice A n cap] 28 (0, 0)) := by rw [← hzo_]; exact heap_alloc_new w _
  have hb_ : Below w.heap.size w (w.alloc (.cells #[.slice A n cap] 28)) := (Below.refl _ _).alloc (Nat.le_refl _) _
  have hz_ : (w.alloc (.cells #[.slice A n cap] 28)).heap.size = B + 1 := by simp [hzo_]
  obtain ⟨w0, hw_⟩ : ∃ z, (w.alloc (.cells #[.slice A n cap] 28)) = z := ⟨_, rfl⟩
  rw [hw_] at hx_ hb_ hz_
  have HX_w0 := Lib.hid hx_
  have HB_w0 := Lib.hid hb_
  have HW_w0 := Lib.hid hw_
  have hz_w0 := Lib.hid hz_
  clear hx_ hb_ hw_ hz_ hzo_
  have hzo_ := hz_w0.out
  have hx_ : (w0.alloc (.cells #[.int .i64 md, .int .i64 fr] 33)).heap[B + 1]? = some (.cells #[.int .i64 md, .int .i64 fr] 33 (0, 0)) := by rw [← hzo_]; exact heap_alloc_new w0 _
  have hb_ : Below w0.heap.size w0 (w0.alloc (.cells #[.int .i64 md, .int .i64 fr] 33)) := (Below.refl _ _).alloc (Nat.le_refl _) _
  have hz_ : (w0.alloc (.cells #[.int .i64 md, .int .i64 fr] 33)).heap.size = B + 1 + 1 := by simp [hzo_]
  obtain ⟨w1, hw_⟩ : ∃ z, (w0.alloc (.cells #[.int .i64 md, .int .i64 fr] 33)) = z := ⟨_, rfl⟩
  rw [hw_] at hx_ hb_ hz_
  have HX_w1 := Lib.hid hx_
  have HB_w1 := Lib.hid hb_
  have HW_w1 := Lib.hid hw_
  have hz_w1 := Lib.hid hz_
  clear hx_ hb_ hw_ hz_ hzo_
  have hzo_ := hz_w1.out
  have hx_ : (w1.alloc (.cells #[.slice none 0 0] 28)).heap[B + 1 + 1]? = some (.cells #[.slice none 0 0] 28 (0, 0)) := by rw [← hzo_]; exact heap_alloc_new w1 _
  have hb_ : Below w1.heap.size w1 (w1.alloc (.cells #[.slice none 0 0] 28)) := (Below.refl _ _).alloc (Nat.le_refl _) _
  have hz_ : (w1.alloc (.cells #[.slice none 0 0] 28)).heap.size = B + 1 + 1 + 1 := by simp [hzo_]
  obtain ⟨w2, hw_⟩ : ∃ z, (w1.alloc (.cells #[.slice none 0 0] 28)) = z := ⟨_, rfl⟩
  rw [hw_] at hx_ hb_ hz_
  have HX_w2 := Lib.hid hx_
  have HB_w2 := Lib.hid hb_
  have HW_w2 := Lib.hid hw_
  have hz_w2 := Lib.hid hz_
  clear hx_ hb_ hw_ hz_ hzo_
  have HB2 := Lib.hid (below_step (below_step HB_w0.out HB_w1.out) HB_w2.out)
  have H := Lib.hid (own_below h HB2.out (own_lt _ h))
  have HX0 := Lib.hid ((HB_w2.out.block _ (by have := hz_w1.out; omega)).trans ((HB_w1.out.block _ (by have := hz_w0.out; omega)).trans HX_w0.out))
  have HX1 := Lib.hid ((HB_w2.out.block _ (by have := hz_w1.out; omega)).trans HX_w1.out)
  have HN := Lib.hid hn
  have HMD := Lib.hid hmd
  have HFR := Lib.hid hfr
  have HS := Lib.hid hs
  clear h hs hn hmd hfr hp HX_w0 HX_w1
  go_enter Try.func25, Try.ntmps25
  go_wp2_with fail
  rw [HW_w0.out, HW_w1.out, HW_w2.out]
  refine (spec_l06Copy t (.slice A n cap) w2 ⟨_, H.out⟩ HS.out).mono ?_
  rintro e' w3 ⟨us, rfl, hown3, hb3⟩
  have hsh := hown3
  obtain ⟨bs3, hsh, _⟩ := hsh
  obtain ⟨A1, n1, p1, rfl⟩ := own_slice1 hsh
  obtain ⟨hn1, _⟩ := row_n (T := 33) (k := 2) (E := eEntry) (l := t.Entries) hsh HS.out
  obtain rfl : n1 = n := by rw [hn1, HN.out]
  clear hn1 hsh
  obtain ⟨C, hs_C⟩ : ∃ B, w3.heap.size = B := ⟨_, rfl⟩
  have hzo_ := hs_C
  have hx_ : (w3.alloc (.cells #[.slice A1 n1 p1] 28)).heap[C]? = some (.cells #[.slice A1 n1 p1] 28 (0, 0)) := by rw [← hzo_]; exact heap_alloc_new w3 _
  have hb_ : Below w3.heap.size w3 (w3.alloc (.cells #[.slice A1 n1 p1] 28)) := (Below.refl _ _).alloc (Nat.le_refl _) _
  have hz_ : (w3.alloc (.cells #[.slice A1 n1 p1] 28)).heap.size = C + 1 := by simp [hzo_]
  obtain ⟨w4, hw_⟩ : ∃ z, (w3.alloc (.cells #[.slice A1 n1 p1] 28)) = z := ⟨_, rfl⟩
  rw [hw_] at hx_ hb_ hz_
  have HX_w4 := Lib.hid hx_
  have HB_w4 := Lib.hid hb_
  have HW_w4 := Lib.hid hw_
  have hz_w4 := Lib.hid hz_
  clear hx_ hb_ hw_ hz_ hzo_
  have HB34 := Lib.hid (below_step hb3 HB_w4.out)
  have HBA := Lib.hid (below_step HB2.out HB34.out)
  have HY0 := Lib.hid ((HB34.out.block _ (by have := hz_w2.out; omega)).trans HX0.out)
  have HY1 := Lib.hid ((HB34.out.block _ (by have := hz_w2.out; omega)).trans HX1.out)
  have HY2 := Lib.hid ((HB34.out.block _ (by have := hz_w2.out; omega)).trans HX_w2.out)
  have HO4 := Lib.hid (hown3.below HB_w4.out)
  have hC : B + 1 + 1 + 1 ≤ C := by have := hb3.size; have := hz_w2.out; omega
  have hz2 := hz_w2.out
  rw [hz2] at HO4
  have hc0 : w4.cell? ⟨B, 0, none⟩ = some (.slice A n1 cap) := cell_of_block HY0.out 0
  have hcm : w4.cell? ⟨B + 1, 0, none⟩ = some (.int .i64 md) := cell_of_block HY1.out 0
  have hcf : w4.cell? ⟨B + 1, 1, none⟩ = some (.int .i64 fr) := cell_of_block HY1.out 1
  have hcr : w4.cell? ⟨B + 1 + 1, 0, none⟩ = some (.slice none 0 0) := cell_of_block HY2.out 0
  have hfrz := free_of_block HY2.out 0
  have hco : w4.cell? ⟨C, 0, none⟩ = some (.slice A1 n1 p1) := cell_of_block HX_w4.out 0
  have hBC : B < C := by omega
  have hBC1 : B + 1 < C := by omega
  have hBC2 : B + 1 + 1 < C := by omega
  have hl0 : w3.cell? ⟨B, 0, none⟩ = some (.slice A n1 cap) := cell_of_block ((hb3.block _ (by have := hz_w2.out; omega)).trans HX0.out) 0
  clear hown3 hb3 hz2
  by_cases hok : okSet t page e
  · have HF : Hid (pSetPage t page e = (⟨t.Entries.set page.toNat e⟩, true)) := by show _ = _; unfold pSetPage; rw [if_pos hok]
    unfold okSet at hok
    rw [HMD.out, HFR.out, ← HN.out] at hok
    obtain ⟨⟨hp0, hp1⟩, hcase⟩ := hok
    obtain ⟨i, rfl⟩ := Int.eq_ofNat_of_zero_le hp0
    rw [Int.toNat_natCast] at HF
    have hin : i < n1 := by omega
    obtain ⟨g, o, cur, us, e1, hgB, hg, hm, hset⟩ := owned_store HO4.out (E := eEntry) (k := 2) (T := 33) (l := t.Entries) (fun _ => rfl) hin e (us' := [.int .i64 md, .int .i64 fr]) (fun w' => ⟨_, by rw [HMD.out], _, by rw [HFR.out], rfl, rfl⟩)
    subst e1
    have hul := hm.1
    match us, hul, hm with
    | [z0, z1], _, hm =>
    have hgl := lt_of_block hg
    have hgC : g ≠ C := by
      intro hh
      have h1 := HX_w4.out
      rw [hh] at hg
      rw [hg] at h1
      have := (Option.some.inj h1)
      simp at this
    have hk0 : w4.cell? ⟨g, o + i * 2, none⟩ = some z0 := Mid.cell (m := o + i * 2) (k := 2) hm hg 0 (by omega)
    have hfz0 := free_of_block hg (o + i * 2)
    have hg1 := block_set hg (o + i * 2) (.int .i64 md)
    have hm1 := Mid.set (k := 2) hm 0 (by omega) (.int .i64 md)
    have hk1 : (w4.setCell ⟨g, o + i * 2, none⟩ (.int .i64 md)).cell? ⟨g, o + i * 2 + 1, none⟩ = some z1 := Mid.cell (m := o + i * 2) (k := 2) hm1 hg1 1 (by omega)
    have hfz1 := free_of_block hg1 (o + i * 2 + 1)
    have hg2 := block_set hg1 (o + i * 2 + 1) (.int .i64 fr)
    have hm2 := Mid.set (k := 2) hm1 1 (by omega) (.int .i64 fr)
    have hfar : ∀ y, y ≠ g → ((w4.setCell ⟨g, o + i * 2, none⟩ (.int .i64 md)).setCell ⟨g, o + i * 2 + 1, none⟩ (.int .i64 fr)).heap[y]? = w4.heap[y]? := fun y hy => (Below.heap_setCell _ _ _ _ hy).trans (Below.heap_setCell _ _ _ _ hy)
    have hown5 := hset _ _ hg2 hm2 hfar
    have hY2 := (hfar (B + 1 + 1) (by omega)).trans HY2.out
    have hX4 := (hfar C (fun hh => hgC hh.symm)).trans HX_w4.out
    have HBE : Hid (Below w.heap.size w (((w4.setCell ⟨g, o + i * 2, none⟩ (.int .i64 md)).setCell ⟨g, o + i * 2 + 1, none⟩ (.int .i64 fr)).setCell ⟨B + 1 + 1, 0, none⟩ (.slice (some ⟨g, o, none⟩) n1 p1))) := ((HBA.out.setCell (p := ⟨g, o + i * 2, none⟩) (by show _ ≤ g; omega) _).setCell (p := ⟨g, o + i * 2 + 1, none⟩) (by show _ ≤ g; omega) _).setCell (p := ⟨B + 1 + 1, 0, none⟩) (by show _ ≤ B + 1 + 1; omega) _
    have hcr5 : ((w4.setCell ⟨g, o + i * 2, none⟩ (.int .i64 md)).setCell ⟨g, o + i * 2 + 1, none⟩ (.int .i64 fr)).cell? ⟨B + 1 + 1, 0, none⟩ = some (.slice none 0 0) := cell_of_block hY2 0
    have hfr5 := free_of_block hY2 0
    have hco5 : ((w4.setCell ⟨g, o + i * 2, none⟩ (.int .i64 md)).setCell ⟨g, o + i * 2 + 1, none⟩ (.int .i64 fr)).cell? ⟨C, 0, none⟩ = some (.slice (some ⟨g, o, none⟩) n1 p1) := cell_of_block hX4 0
    have HG := Lib.hid (block_set hY2 0 (.slice (some ⟨g, o, none⟩) n1 p1))
    have HE : Hid (Owned (((w4.setCell ⟨g, o + i * 2, none⟩ (.int .i64 md)).setCell ⟨g, o + i * 2 + 1, none⟩ (.int .i64 fr)).setCell ⟨B + 1 + 1, 0, none⟩ (.slice (some ⟨g, o, none⟩) n1 p1)) w.heap.size (eTable ⟨t.Entries.set i e⟩) [.slice (some ⟨g, o, none⟩) n1 p1]) := (hown5.setCell (by show B + 1 + 1 < B + 1 + 1 + 1; omega) _).mono (by omega)
    have hi0 : (0 : Int) ≤ i := by omega
    have hi1 : (i : Int) ≤ (n1 : Int) - 1 := by omega
    have hi2 : (i : Int) < n1 := by omega
    clear hown5 hset hm hm1 hm2 hg hg1 hg2 hfar hY2 hX4
    rcases hcase with ⟨rfl, rfl⟩ | ⟨rfl | rfl, hf0⟩
    · go_wp2_with fail
      rw [HW_w4.out]
      refine (Bm.in_yes _ _ _ _ hi0 hi1).mono ?_
      rintro e w' ⟨rfl, rfl⟩
      go_wp2_with fail
      refine (Bm.in_yes _ _ _ _ (by omega) (by omega)).mono ?_
      rintro e w' ⟨rfl, rfl⟩
      go_wp2
      refine ret_ct rfl HG.out rfl Try.underlying28 rfl sizeT rfl ?_
      rw [HF.out]; exact ⟨[_], rfl, HE.out, HBE.out⟩
    · go_wp2_with fail
      rw [HW_w4.out]
      refine (Bm.in_yes _ _ _ _ hi0 hi1).mono ?_
      rintro e w' ⟨rfl, rfl⟩
      go_wp2_with fail
      refine (Bm.in_yes _ _ _ _ (by omega) (by omega)).mono ?_
      rintro e w' ⟨rfl, rfl⟩
      go_wp2
      refine ret_ct rfl HG.out rfl Try.underlying28 rfl sizeT rfl ?_
      rw [HF.out]; exact ⟨[_], rfl, HE.out, HBE.out⟩
    · go_wp2_with fail
      rw [HW_w4.out]
      refine (Bm.in_yes _ _ _ _ hi0 hi1).mono ?_
      rintro e w' ⟨rfl, rfl⟩
      go_wp2_with fail
      refine (Bm.in_yes _ _ _ _ (by omega) (by omega)).mono ?_
      rintro e w' ⟨rfl, rfl⟩
      go_wp2
      refine ret_ct rfl HG.out rfl Try.underlying28 rfl sizeT rfl ?_
      rw [HF.out]; exact ⟨[_], rfl, HE.out, HBE.out⟩
  · have HF : Hid (pSetPage t page e = (t, false)) := by show _ = _; unfold pSetPage; rw [if_neg hok]
    unfold okSet at hok
    rw [HMD.out, HFR.out, ← HN.out] at hok
    have HG := Lib.hid (block_set HY2.out 0 (.slice A1 n1 p1))
    have HBE : Hid (Below w.heap.size w (w4.setCell ⟨B + 1 + 1, 0, none⟩ (.slice A1 n1 p1))) := HBA.out.setCell (p := ⟨B + 1 + 1, 0, none⟩) (by show _ ≤ B + 1 + 1; omega) _
    have HE : Hid (Owned (w4.setCell ⟨B + 1 + 1, 0, none⟩ (.slice A1 n1 p1)) w.heap.size (eTable t) [.slice A1 n1 p1]) := (HO4.out.setCell (by show B + 1 + 1 < B + 1 + 1 + 1; omega) _).mono (by omega)
    by_cases h1 : 0 ≤ page ∧ page ≤ (n1 : Int) - 1
    · by_cases h2 : 0 ≤ md ∧ md ≤ 2
      · rcases (show md = 0 ∨ md = 1 ∨ md = 2 by omega) with rfl | rfl | rfl
        · by_cases h3 : fr < 0
          · clear hok
            go_wp2_with fail
            rw [HW_w4.out]
            refine (Bm.in_yes _ _ _ _ h1.1 h1.2).mono ?_
            rintro e w' ⟨rfl, rfl⟩
            go_wp2_with fail
            refine (Bm.in_yes _ _ _ _ (by omega) (by omega)).mono ?_
            rintro e w' ⟨rfl, rfl⟩
            go_wp2
            refine ret_ct rfl HG.out rfl Try.underlying28 rfl sizeT rfl ?_
            rw [HF.out]; exact ⟨[_], rfl, HE.out, HBE.out⟩
          · have hne : (fr != 0) = true := by rw [bne_iff_ne]; omega
            clear hok
            go_wp2_with fail
            rw [HW_w4.out]
            refine (Bm.in_yes _ _ _ _ h1.1 h1.2).mono ?_
            rintro e w' ⟨rfl, rfl⟩
            go_wp2_with fail
            refine (Bm.in_yes _ _ _ _ (by omega) (by omega)).mono ?_
            rintro e w' ⟨rfl, rfl⟩
            go_wp2
            refine ret_ct rfl HG.out rfl Try.underlying28 rfl sizeT rfl ?_
            rw [HF.out]; exact ⟨[_], rfl, HE.out, HBE.out⟩
        · have h3 : fr < 0 := by omega
          clear hok
          go_wp2_with fail
          rw [HW_w4.out]
          refine (Bm.in_yes _ _ _ _ h1.1 h1.2).mono ?_
          rintro e w' ⟨rfl, rfl⟩
          go_wp2_with fail
          refine (Bm.in_yes _ _ _ _ (by omega) (by omega)).mono ?_
          rintro e w' ⟨rfl, rfl⟩
          go_wp2
          refine ret_ct rfl HG.out rfl Try.underlying28 rfl sizeT rfl ?_
          rw [HF.out]; exact ⟨[_], rfl, HE.out, HBE.out⟩
        · have h3 : fr < 0 := by omega
          clear hok
          go_wp2_with fail
          rw [HW_w4.out]
          refine (Bm.in_yes _ _ _ _ h1.1 h1.2).mono ?_
          rintro e w' ⟨rfl, rfl⟩
          go_wp2_with fail
          refine (Bm.in_yes _ _ _ _ (by omega) (by omega)).mono ?_
          rintro e w' ⟨rfl, rfl⟩
          go_wp2
          refine ret_ct rfl HG.out rfl Try.underlying28 rfl sizeT rfl ?_
          rw [HF.out]; exact ⟨[_], rfl, HE.out, HBE.out⟩
      · have H2 := Lib.hid h2
        clear hok h2
        go_wp2_with fail
        rw [HW_w4.out]
        refine (Bm.in_yes _ _ _ _ h1.1 h1.2).mono ?_
        rintro e w' ⟨rfl, rfl⟩
        go_wp2_with fail
        refine (Bm.in_no _ _ _ _ H2.out).mono ?_
        rintro e w' ⟨rfl, rfl⟩
        go_wp2
        refine ret_ct rfl HG.out rfl Try.underlying28 rfl sizeT rfl ?_
        rw [HF.out]; exact ⟨[_], rfl, HE.out, HBE.out⟩
    · have H1 := Lib.hid h1
      clear hok h1
      go_wp2_with fail
      rw [HW_w4.out]
      refine (Bm.in_no _ _ _ _ H1.out).mono ?_
      rintro e w' ⟨rfl, rfl⟩
      go_wp2
      refine ret_ct rfl HG.out rfl Try.underlying28 rfl sizeT rfl ?_
      rw [HF.out]; exact ⟨[_], rfl, HE.out, HBE.out⟩
theorem infoI : (Try.prog.info? 3).map (fun i => (i.zero, i.size, i.bytes)) = some (some (.int .i64 0), 1, 8) := by kernel_rfl
theorem spec_PagesOn (t : GTable) (c0 : Value) (frame : Int) (w : World) (h : Rd w (eTable t) [c0]) (hs : (eTable t).sz ≤ 1048576) (hp : okI frame) : Calls Try.prog 29 #[.agg #[c0], .int .i64 frame] w (RetM (fun us => us.headD undef) (eIntS (pPagesOn t frame)) w) := by
  obtain ⟨bs, h⟩ := h
  have hl := sz_len (T := 33) (k := 2) (E := eEntry) (l := t.Entries) hs
  obtain ⟨A, n, cap, rfl, hn, _, _, hA⟩ := read_rowD (T := 33) (E := eEntry) (k := 2) h (fun _ => rfl)
  obtain ⟨i0, hi, hz0, hz1, hz2⟩ := info_parts infoI
  obtain ⟨B, hs_B⟩ : ∃ B, w.heap.size = B := ⟨_, rfl⟩
  have hzo_ := hs_B
  have hx_ : (w.alloc (.cells #[.slice A n cap] 28)).heap[B]? = some (.cells #[.slice A n cap] 28 (0, 0)) := by rw [← hzo_]; exact heap_alloc_new w _
  have hb_ : Below w.heap.size w (w.alloc (.cells #[.slice A n cap] 28)) := (Below.refl _ _).alloc (Nat.le_refl _) _
  have hz_ : (w.alloc (.cells #[.slice A n cap] 28)).heap.size = B + 1 := by simp [hzo_]
  obtain ⟨w0, hw_⟩ : ∃ z, (w.alloc (.cells #[.slice A n cap] 28)) = z := ⟨_, rfl⟩
  rw [hw_] at hx_ hb_ hz_
  have HX_w0 := Lib.hid hx_
  have HB_w0 := Lib.hid hb_
  have HW_w0 := Lib.hid hw_
  have hz_w0 := Lib.hid hz_
  clear hx_ hb_ hw_ hz_ hzo_
  have hzo_ := hz_w0.out
  have hx_ : (w0.alloc (.cells #[] 3)).heap[B + 1]? = some (.cells #[] 3 (0, 0)) := by rw [← hzo_]; exact heap_alloc_new w0 _
  have hb_ : Below w0.heap.size w0 (w0.alloc (.cells #[] 3)) := (Below.refl _ _).alloc (Nat.le_refl _) _
  have hz_ : (w0.alloc (.cells #[] 3)).heap.size = B + 1 + 1 := by simp [hzo_]
  obtain ⟨w1, hw_⟩ : ∃ z, (w0.alloc (.cells #[] 3)) = z := ⟨_, rfl⟩
  rw [hw_] at hx_ hb_ hz_
  have HX_w1 := Lib.hid hx_
  have HB_w1 := Lib.hid hb_
  have HW_w1 := Lib.hid hw_
  have hz_w1 := Lib.hid hz_
  clear hx_ hb_ hw_ hz_ hzo_
  have HB2 := Lib.hid (below_step HB_w0.out HB_w1.out)
  have hown : w1.ownsRow (B + 1) 3 1 (.slice (some ⟨B + 1, 0, none⟩) 0 0) 0 [] := ⟨by simp, .inr ⟨_, 0, _, rfl, Nat.le_refl _, HX_w1.out, Nat.le_refl _, by unfold maxLen; omega, rfl, by simp⟩⟩
  have HO1 := Lib.hid hown
  have hn' : n ≤ 1048576 := by omega
  have HN := Lib.hid hn
  have HA := Lib.hid hA
  have HX0 := Lib.hid ((HB_w1.out.block _ (by have := hz_w0.out; omega)).trans HX_w0.out)
  have hlen : ∀ k, (onFrame frame 0 (t.Entries.take k)).length ≤ n := fun k => by
    have h1 := onFrame_len frame 0 (t.Entries.take k)
    rw [List.length_take] at h1
    omega
  have HLEN := Lib.hid hlen
  clear h hs hn hl hp hown hA hlen
  go_enter Try.func29, Try.ntmps29
  go_wp2_with fail
  rw [HW_w0.out, HW_w1.out]
  go_loopw [5, 6] (fun u i wr => ∃ k q : Nat, k ≤ n ∧ q ≤ n ∧ i = .int .i64 k ∧ Hid ((onFrame frame 0 (t.Entries.take k)).length = q) ∧ Hid (wr.ownsRow (B + 1) 3 1 u q ((onFrame frame 0 (t.Entries.take k)).map (Value.int .i64))) ∧ Hid (Below (B + 1) w1 wr)) (fun _ i _ => n - (intOf i).toNat)
  case atStart => exact ⟨0, 0, Nat.zero_le _, Nat.zero_le _, rfl, by show _ = _; simp [onFrame], by show World.ownsRow _ _ _ _ _ _ _; simpa [onFrame] using HO1.out, Below.refl _ _⟩
  case round =>
    clear HO1
    obtain ⟨k, q, hk, hq, rfl, HQ, HO, HBL⟩ := hrel
    have hc0 : wr.cell? ⟨B, 0, none⟩ = some (.slice A n cap) := cell_of_block ((HBL.out.block B (by omega)).trans HX0.out) 0
    by_cases hlt : (k : Int) < n
    · have hk0 : (0 : Int) ≤ k := by omega
      obtain ⟨g, o, x, us, b, rfl, hx, hus, hc, ho, hbb⟩ := HA.out k (by omega)
      obtain rfl := inv_Entry ho
      have hge : ∀ j, (w.cell? ⟨g, o + k * 2 + j, none⟩).isSome → g < B := fun j hj => by
        obtain ⟨v, hv⟩ := Option.isSome_iff_exists.1 hj
        have := World.block_lt_of_cell? w _ hv
        have h2 : g < w.heap.size := this
        omega
      have hgB : g < B := hge 0 (by rw [hc 0 (by omega)]; rfl)
      have hcc : ∀ (j : Nat) (v : Value), w.cell? ⟨g, o + k * 2 + j, none⟩ = some v → wr.cell? ⟨g, o + k * 2 + j, none⟩ = some v := fun j v hv => (HBL.out.cell (p := ⟨g, o + k * 2 + j, none⟩) (by show g < B + 1; omega)).trans (cell_below HB2.out hv)
      have hc1 : wr.cell? ⟨g, o + k * 2, none⟩ = some (.int .i64 x.Mode) := hcc 0 _ (hc 0 (by omega))
      have hc2 : wr.cell? ⟨g, o + k * 2 + 1, none⟩ = some (.int .i64 x.Frame) := hcc 1 _ (hc 1 (by omega))
      have hst := onFrame_take frame t.Entries k x hx
      have hlk := HLEN.out (k + 1)
      have hsz1 : B + 1 ≤ wr.heap.size := by have := HBL.out.size; have := hz_w1.out; omega
      by_cases hyes : x.Mode ≠ 0 ∧ x.Frame = frame
      · rw [if_pos hyes] at hst
        have hm : (x.Mode != 0) = true := by rw [bne_iff_ne]; exact hyes.1
        have hf : (x.Frame == frame) = true := by rw [beq_iff_eq]; exact hyes.2
        rw [hst, List.length_append, HQ.out] at hlk
        have hlk' : q + 1 ≤ n := hlk
        have HST := Lib.hid hst
        clear hst hlk hcc hge hbb hc ho hx hus hyes
        generalize x.Mode = md at *
        generalize x.Frame = fr at *
        go_wp2_with (at_builtin; refine wpList_append_own _ rfl (.tmp 32) (.tmp 34) 24 rfl (B + 1) 3 i0 (.int .i64 0) 1 8 Try.underlying24 hi hz0 hz1 hz2 rfl (by decide) u5 q _ rfl (HO.out.alloc _) ⟨wr.heap.size, 0, none⟩ 1 1 [_] rfl rfl (World.news_of_block (cs := #[_]) (heap_alloc_new wr _)) (by simp [Value.oneCell']) (by unfold maxLen; omega) (by omega) (by simp; omega) ?_)
        intro v2 w2 ho2 hg2 _
        have HO2 : Hid (w2.ownsRow (B + 1) 3 1 v2 (q + 1) ((onFrame frame 0 (t.Entries.take (k + 1))).map (Value.int .i64))) := by
          show World.ownsRow _ _ _ _ _ _ _
          rw [HST.out, List.map_append]; exact ho2
        have HQ2 : Hid ((onFrame frame 0 (t.Entries.take (k + 1))).length = q + 1) := by show _ = _; rw [HST.out, List.length_append, HQ.out]; rfl
        have HB3 := Lib.hid ((HBL.out.alloc hsz1 _).grown hg2 (by simp; omega) (fun y hy => (HO.out.lt y hy).1))
        clear ho2 hg2
        go_wp2
        go_roundw
        case rel => exact ⟨k + 1, q + 1, by omega, by omega, by go_num, HQ2.out, HO2.out, HB3.out⟩
        case measure => simp [intOf]; omega
      · rw [if_neg hyes, List.append_nil] at hst
        have HO2 : Hid (wr.ownsRow (B + 1) 3 1 u5 q ((onFrame frame 0 (t.Entries.take (k + 1))).map (Value.int .i64))) := by
          show World.ownsRow _ _ _ _ _ _ _
          rw [hst]; exact HO.out
        have HQ2 : Hid ((onFrame frame 0 (t.Entries.take (k + 1))).length = q) := by show _ = _; rw [hst]; exact HQ.out
        clear hst hlk hcc hge hbb hc ho hx hus
        generalize x.Mode = md at *
        generalize x.Frame = fr at *
        by_cases h0 : md = 0
        · subst h0
          clear hyes
          go_wp2
          go_roundw
          case rel => exact ⟨k + 1, q, by omega, by omega, by go_num, HQ2.out, HO2.out, HBL.out⟩
          case measure => simp [intOf]; omega
        · have hm : (md != 0) = true := by rw [bne_iff_ne]; exact h0
          have hf : (fr == frame) = false := by rw [beq_eq_false_iff_ne]; exact fun hh => hyes ⟨h0, hh⟩
          clear hyes h0
          go_wp2
          go_roundw
          case rel => exact ⟨k + 1, q, by omega, by omega, by go_num, HQ2.out, HO2.out, HBL.out⟩
          case measure => simp [intOf]; omega
    · obtain rfl : k = n := by omega
      have HF : Hid (Owned wr w.heap.size (eIntS (pPagesOn t frame)) [u5]) := by
        show Owned _ _ _ _
        have h1 := HO.out
        have h2 := HQ.out
        rw [HN.out, List.take_length] at h1 h2
        exact (ints_owned h1 h2).mono (by omega)
      have HBF : Hid (Below w.heap.size w wr) := HB2.out.trans (HBL.out.mono (by omega))
      go_wp2
      go_ret
      exact ⟨[_], rfl, HF.out, HBF.out⟩
theorem spec_TableNew (pages : Int) (w : World) (hp : okI pages) : Calls Try.prog 18 #[.int .i64 pages] w (RetM (fun us => .tuple #[.agg us.toArray, .bool (pTableNew pages).2]) (eTable (pTableNew pages).1) w) := by
  obtain ⟨i0, hi, hz0, hz1, hz2⟩ := info_parts infoE
  obtain ⟨B, hs_B⟩ : ∃ B, w.heap.size = B := ⟨_, rfl⟩
  have hzo_ := hs_B
  have hx_ : (w.alloc (.cells #[.slice none 0 0] 28)).heap[B]? = some (.cells #[.slice none 0 0] 28 (0, 0)) := by rw [← hzo_]; exact heap_alloc_new w _
  have hb_ : Below w.heap.size w (w.alloc (.cells #[.slice none 0 0] 28)) := (Below.refl _ _).alloc (Nat.le_refl _) _
  have hz_ : (w.alloc (.cells #[.slice none 0 0] 28)).heap.size = B + 1 := by simp [hzo_]
  obtain ⟨w0, hw_⟩ : ∃ z, (w.alloc (.cells #[.slice none 0 0] 28)) = z := ⟨_, rfl⟩
  rw [hw_] at hx_ hb_ hz_
  have HX_w0 := Lib.hid hx_
  have HB_w0 := Lib.hid hb_
  have HW_w0 := Lib.hid hw_
  have hz_w0 := Lib.hid hz_
  clear hx_ hb_ hw_ hz_ hzo_
  have hk0 : w0.cell? ⟨B, 0, none⟩ = some (.slice none 0 0) := cell_of_block HX_w0.out 0
  have hf0 := free_of_block HX_w0.out 0
  by_cases hin : 1 ≤ pages ∧ pages ≤ 32
  · have HF : Hid (pTableNew pages = (⟨List.replicate pages.toNat ⟨0, 0⟩⟩, true)) := by show _ = _; unfold pTableNew; rw [if_pos hin]
    obtain ⟨h1, h2⟩ := hin
    obtain ⟨n, rfl⟩ := Int.eq_ofNat_of_zero_le (show 0 ≤ pages by omega)
    rw [Int.toNat_natCast] at HF
    have hn1 : n ≤ 32 := by omega
    go_enter Try.func18, Try.ntmps18
    go_wp2_with fail
    rw [HW_w0.out]
    refine (Bm.in_yes _ _ _ _ h1 h2).mono ?_
    rintro e w' ⟨rfl, rfl⟩
    go_wp2_with (at_make; refine wpList_make_full _ rfl _ _ 26 rfl (B + 1) 33 i0 (.agg #[.int .i64 0, .int .i64 0]) 2 Try.underlying26 hi hz0 hz1 _ _ _ _ n rfl rfl rfl rfl (by rw [hz2]; omega) (by unfold maxLen; omega) (by rw [hz_w0.out]; exact Nat.le_refl _) ?_)
    intro w1 hown hgrow
    rw [hz_w0.out] at hown ⊢
    have H0 := own_made (z := eEntry ⟨0, 0⟩) (zc := [.int .i64 0, .int .i64 0]) (k := 2) hown ⟨_, rfl, _, rfl, rfl, rfl⟩ rfl (by omega) rfl
    have hx := (hgrow.block B (by have := hz_w0.out; omega) (by simp)).trans HX_w0.out
    have hk1 : w1.cell? ⟨B, 0, none⟩ = some (.slice none 0 0) := cell_of_block hx 0
    have hf1 := free_of_block hx 0
    have HG := Lib.hid (block_set hx 0 (.slice (some ⟨B + 1, 0, none⟩) n n))
    have HE : Hid (Owned (w1.setCell ⟨B, 0, none⟩ (.slice (some ⟨B + 1, 0, none⟩) n n)) w.heap.size (eTable ⟨List.replicate n ⟨0, 0⟩⟩) [.slice (some ⟨B + 1, 0, none⟩) n n]) := by
      show Owned _ _ _ _
      rw [← List.map_replicate (f := eEntry)] at H0
      have h5 : Owned w1 (B + 1) (eTable ⟨List.replicate n ⟨0, 0⟩⟩) [.slice (some ⟨B + 1, 0, none⟩) n n] := ⟨_, H0, by simp, by simp⟩
      exact (h5.setCell (by show B < B + 1; omega) _).mono (by omega)
    have HBE : Hid (Below w.heap.size w (w1.setCell ⟨B, 0, none⟩ (.slice (some ⟨B + 1, 0, none⟩) n n))) := (HB_w0.out.grown hgrow (by have := hz_w0.out; omega) (fun _ h => by cases h)).setCell (by show _ ≤ B; omega) _
    clear H0 hown hgrow hx
    go_wp2
    refine ret_ct rfl HG.out rfl Try.underlying28 rfl sizeT rfl ?_
    rw [HF.out]
    exact ⟨[_], rfl, HE.out, HBE.out⟩
  · have HF : Hid (pTableNew pages = (⟨[]⟩, false)) := by show _ = _; unfold pTableNew; rw [if_neg hin]
    have HI := Lib.hid hin
    have HG := Lib.hid (block_set HX_w0.out 0 (.slice none 0 0))
    have HBE : Hid (Below w.heap.size w (w0.setCell ⟨B, 0, none⟩ (.slice none 0 0))) := HB_w0.out.setCell (by show _ ≤ B; omega) _
    clear hin
    go_enter Try.func18, Try.ntmps18
    go_wp2_with fail
    rw [HW_w0.out]
    refine (Bm.in_no _ _ _ _ HI.out).mono ?_
    rintro e w' ⟨rfl, rfl⟩
    go_wp2
    refine ret_ct rfl HG.out rfl Try.underlying28 rfl sizeT rfl ?_
    rw [HF.out]
    exact ⟨[_], rfl, ⟨[], ⟨_, [], [], [], rfl, rfl, ⟨rfl, rfl⟩, Or.inl ⟨⟨none, rfl⟩, rfl, rfl, rfl⟩⟩, by simp, by simp⟩, HBE.out⟩
theorem szs_flat {α : Type} {E : α → D} (h : ∀ x, (E x).sz = 0) (l : List α) : szs (l.map E) = 0 := szs_zero h
theorem bound_PagesOn (t : GTable) (frame : Int) (h : (eTable t).sz ≤ 1048576) : (eIntS (pPagesOn t frame)).sz ≤ 50000000 := by
  have hl := sz_len (T := 33) (k := 2) (E := eEntry) (l := t.Entries) h
  have h1 := onFrame_len frame 0 t.Entries
  unfold eIntS pPagesOn
  rw [rowD_sz, szs_zero (fun _ => rfl)]
  omega
theorem sz_Table_len (t : GTable) : (eTable t).sz = t.Entries.length := by
  show (rowD _ _ eEntry t.Entries).sz = _
  rw [rowD_sz, szs_zero (fun _ => rfl)]; rfl
theorem bound_SetPage (t : GTable) (page : Int) (e : GEntry) (h : (eTable t).sz ≤ 1048576) : (eTable (pSetPage t page e).1).sz ≤ 50000000 := by
  rw [sz_Table_len] at h ⊢
  unfold pSetPage
  split
  · show (t.Entries.set _ _).length ≤ _
    rw [List.length_set]; omega
  · show t.Entries.length ≤ _
    omega
theorem bound_TableNew (pages : Int) : (eTable (pTableNew pages).1).sz ≤ 50000000 := by
  rw [sz_Table_len]
  unfold pTableNew
  split
  · show (List.replicate _ _).length ≤ _
    rw [List.length_replicate]; omega
  · show (0 : Nat) ≤ _
    omega
end Tr
end Go.Proofs.Ytbfdopnbclkfcaa

/- Page tables: the specification's functions. -/
import Derived.Test.YtkmkpjpopobdbaaDoorEnc
import Derived.Test.YtkmkpjpopobdbaaDoorTreeIn
import Derived.Test.YtkmkpjpopobdbaaDoorBits
import Derived.OwnWalk
import Derived.Deep.AppendLies
import Derived.Test.YtkmkpjpopobdbaaDoorM06
import Derived.WalkKit
import Derived.ProofKit
import Derived.Lib.Hide
namespace Go.Proofs.YtkmkpjpopobdbaaDoor
open Go.RowKit
set_option linter.unusedVariables false
namespace Tr
theorem spec_TableOk (t : GTable) (c0 : Value) (frames : Int) (w : World) (h : Rd w (eTable t) [c0]) (hs : (eTable t).sz ≤ 1048576) (hf : okI frames) : Calls Tryd.prog 64 #[.agg #[c0], .int .i64 frames] w (RetP (.bool (pTableOk t frames)) w) := by
  obtain ⟨bs, h⟩ := h
  have hl := sz_len (T := 39) (k := 2) (E := eEntry) (l := t.Entries) hs
  obtain ⟨A, n, cap, rfl, hn, _, _, hA⟩ := read_rowD (T := 39) (E := eEntry) (k := 2) h (fun _ => rfl)
  obtain ⟨B, hs_B⟩ : ∃ B, w.heap.size = B := ⟨_, rfl⟩
  have hzo_ := hs_B
  have hx_ : (w.alloc (.cells #[.slice A n cap] 30)).heap[B]? = some (.cells #[.slice A n cap] 30 (0, 0)) := by rw [← hzo_]; exact heap_alloc_new w _
  have hb_ : Below w.heap.size w (w.alloc (.cells #[.slice A n cap] 30)) := (Below.refl _ _).alloc (Nat.le_refl _) _
  have hz_ : (w.alloc (.cells #[.slice A n cap] 30)).heap.size = B + 1 := by simp [hzo_]
  obtain ⟨w0, hw_⟩ : ∃ z, (w.alloc (.cells #[.slice A n cap] 30)) = z := ⟨_, rfl⟩
  rw [hw_] at hx_ hb_ hz_
  have HX_w0 := Lib.hid hx_
  have HB_w0 := Lib.hid hb_
  have HW_w0 := Lib.hid hw_
  have hz_w0 := Lib.hid hz_
  clear hx_ hb_ hw_ hz_ hzo_
  have HA := Lib.hid hA
  have HN := Lib.hid hn
  have hn' : n ≤ 1048576 := by omega
  clear hA hn h hs hl hf
  go_enter Tryd.func64, Tryd.ntmps64
  go_wp2_with fail
  rw [HW_w0.out]
  go_loopw [5] (fun i wr => ∃ k : Nat, k ≤ n ∧ i = .int .i64 k ∧ Hid (∀ e ∈ t.Entries.take k, okE frames e) ∧ Hid (Below w0.heap.size w0 wr)) (fun i _ => n - (intOf i).toNat)
  case atStart => exact ⟨0, Nat.zero_le _, rfl, by intro e he; simp at he, Below.refl _ _⟩
  case round =>
    obtain ⟨k, hk, rfl, HQ, HBL⟩ := hrel
    have hc0 : wr.cell? ⟨B, 0, none⟩ = some (.slice A n cap) := cell_below HBL.out (cell_of_block HX_w0.out 0)
    by_cases hlt : (k : Int) < n
    · have hk0 : (0 : Int) ≤ k := by omega
      obtain ⟨g, o, x, us, b, rfl, hx, hus, hc, ho, _⟩ := HA.out k (by omega)
      obtain rfl := inv_Entry ho
      have hb1 := below_step HB_w0.out HBL.out
      have hc1 : wr.cell? ⟨g, o + k * 2, none⟩ = some (.int .i64 x.Mode) := cell_below hb1 (hc 0 (by omega))
      have hc2 : wr.cell? ⟨g, o + k * 2 + 1, none⟩ = some (.int .i64 x.Frame) := cell_below hb1 (hc 1 (by omega))
      have HB2 : Hid (Below w0.heap.size w0 (wr.alloc (.cells #[.int .i64 x.Mode, .int .i64 x.Frame] 39))) := HBL.out.alloc HBL.out.size _
      have HBF : Hid (Below w.heap.size w (wr.alloc (.cells #[.int .i64 x.Mode, .int .i64 x.Frame] 39))) := below_step HB_w0.out HB2.out
      by_cases hok : okE frames x
      · have HQ2 : Hid (∀ e ∈ t.Entries.take (k + 1), okE frames e) := mem_take_succ hx HQ.out hok
        clear HQ hb1 hc ho hx hus
        unfold okE at hok
        generalize x.Mode = md at *
        generalize x.Frame = fr at *
        rcases hok with ⟨rfl, rfl⟩ | ⟨rfl | rfl, h1, h2⟩
        · go_wp2_with fail
          refine (Bm.in_yes _ _ _ _ (by omega) (by omega)).mono ?_
          rintro e w' ⟨rfl, rfl⟩
          go_wp2
          go_roundw
          case rel => exact ⟨k + 1, by omega, by go_num, HQ2.out, HB2.out⟩
          case measure => simp [intOf]; omega
        · go_wp2_with fail
          refine (Bm.in_yes _ _ _ _ (by omega) (by omega)).mono ?_
          rintro e w' ⟨rfl, rfl⟩
          go_wp2
          go_roundw
          case rel => exact ⟨k + 1, by omega, by go_num, HQ2.out, HB2.out⟩
          case measure => simp [intOf]; omega
        · go_wp2_with fail
          refine (Bm.in_yes _ _ _ _ (by omega) (by omega)).mono ?_
          rintro e w' ⟨rfl, rfl⟩
          go_wp2
          go_roundw
          case rel => exact ⟨k + 1, by omega, by go_num, HQ2.out, HB2.out⟩
          case measure => simp [intOf]; omega
      · have HF : Hid (pTableOk t frames = false) := by
          show _ = _
          unfold pTableOk
          rw [decide_eq_false_iff_not]
          exact fun hh => hok (hh.1 x (List.mem_of_getElem? hx))
        clear HQ hb1 hc ho hx hus
        unfold okE at hok
        generalize x.Mode = md at *
        generalize x.Frame = fr at *
        by_cases hm : 0 ≤ md ∧ md ≤ 2
        · rcases (show md = 0 ∨ md = 1 ∨ md = 2 by omega) with rfl | rfl | rfl
          · have hne : (fr != 0) = true := by rw [bne_iff_ne]; omega
            clear hok hm
            go_wp2_with fail
            refine (Bm.in_yes _ _ _ _ (by omega) (by omega)).mono ?_
            rintro e w' ⟨rfl, rfl⟩
            go_wp2
            go_ret
            exact ⟨by rw [HF.out]; rfl, HBF.out⟩
          · by_cases h0 : 0 ≤ fr
            · have h1 : decide (fr < frames) = false := by simp; omega
              clear hok hm
              go_wp2_with fail
              refine (Bm.in_yes _ _ _ _ (by omega) (by omega)).mono ?_
              rintro e w' ⟨rfl, rfl⟩
              go_wp2
              go_ret
              exact ⟨by rw [HF.out]; rfl, HBF.out⟩
            · have h1 : decide (0 ≤ fr) = false := by simp; omega
              clear hok hm
              go_wp2_with fail
              refine (Bm.in_yes _ _ _ _ (by omega) (by omega)).mono ?_
              rintro e w' ⟨rfl, rfl⟩
              go_wp2
              go_ret
              exact ⟨by rw [HF.out]; rfl, HBF.out⟩
          · by_cases h0 : 0 ≤ fr
            · have h1 : decide (fr < frames) = false := by simp; omega
              clear hok hm
              go_wp2_with fail
              refine (Bm.in_yes _ _ _ _ (by omega) (by omega)).mono ?_
              rintro e w' ⟨rfl, rfl⟩
              go_wp2
              go_ret
              exact ⟨by rw [HF.out]; rfl, HBF.out⟩
            · have h1 : decide (0 ≤ fr) = false := by simp; omega
              clear hok hm
              go_wp2_with fail
              refine (Bm.in_yes _ _ _ _ (by omega) (by omega)).mono ?_
              rintro e w' ⟨rfl, rfl⟩
              go_wp2
              go_ret
              exact ⟨by rw [HF.out]; rfl, HBF.out⟩
        · clear hok
          have HM := Lib.hid hm
          clear hm
          go_wp2_with fail
          refine (Bm.in_no _ _ _ _ HM.out).mono ?_
          rintro e w' ⟨rfl, rfl⟩
          go_wp2
          go_ret
          exact ⟨by rw [HF.out]; rfl, HBF.out⟩
    · obtain rfl : k = n := by omega
      have HBF : Hid (Below w.heap.size w wr) := below_step HB_w0.out HBL.out
      have hall : ∀ e ∈ t.Entries, okE frames e := by have := HQ.out; rw [HN.out, List.take_length] at this; exact this
      by_cases hl : (1 : Int) ≤ k ∧ (k : Int) ≤ 32
      · have HF : Hid (pTableOk t frames = true) := by
          show _ = _
          unfold pTableOk
          rw [decide_eq_true_iff]
          have := HN.out
          exact ⟨hall, by omega, by omega⟩
        clear hall
        go_wp2_with fail
        refine (Bm.in_yes _ _ _ _ hl.1 hl.2).mono ?_
        rintro e w' ⟨rfl, rfl⟩
        go_wp2
        go_ret
        exact ⟨by rw [HF.out]; rfl, HBF.out⟩
      · have HF : Hid (pTableOk t frames = false) := by
          show _ = _
          unfold pTableOk
          rw [decide_eq_false_iff_not]
          have := HN.out
          exact fun hh => hl (by omega)
        have HL := Lib.hid hl
        clear hall hl
        go_wp2_with fail
        refine (Bm.in_no _ _ _ _ HL.out).mono ?_
        rintro e w' ⟨rfl, rfl⟩
        go_wp2
        go_ret
        exact ⟨by rw [HF.out]; rfl, HBF.out⟩
theorem flatE (x : GEntry) : (eEntry x).flat := ⟨rfl, rfl, trivial⟩
theorem infoE : (Tryd.prog.info? 39).map (fun i => (i.zero, i.size, i.bytes)) = some (some (.agg #[.int .i64 0, .int .i64 0]), 2, 16) := by kernel_rfl
theorem sizeT : (Tryd.prog.info? 30).map (·.size) = some 1 := by kernel_rfl
theorem spec_l06Copy (t : GTable) (c0 : Value) (w : World) (h : Rd w (eTable t) [c0]) (hs : (eTable t).sz ≤ 1048576) : Calls Tryd.prog 78 #[.agg #[c0]] w (RetM (fun us => .agg us.toArray) (eTable t) w) := by
  obtain ⟨bs, h⟩ := h
  obtain ⟨A, n, cap, rfl⟩ := own_slice h
  obtain ⟨hn, hn'⟩ := row_n (T := 39) (k := 2) (E := eEntry) (l := t.Entries) h hs
  obtain ⟨i0, hi, hz0, hz1, hz2⟩ := info_parts infoE
  obtain ⟨B, hs_B⟩ : ∃ B, w.heap.size = B := ⟨_, rfl⟩
  have hzo_ := hs_B
  have hx_ : (w.alloc (.cells #[.slice A n cap] 30)).heap[B]? = some (.cells #[.slice A n cap] 30 (0, 0)) := by rw [← hzo_]; exact heap_alloc_new w _
  have hb_ : Below w.heap.size w (w.alloc (.cells #[.slice A n cap] 30)) := (Below.refl _ _).alloc (Nat.le_refl _) _
  have hz_ : (w.alloc (.cells #[.slice A n cap] 30)).heap.size = B + 1 := by simp [hzo_]
  obtain ⟨w0, hw_⟩ : ∃ z, (w.alloc (.cells #[.slice A n cap] 30)) = z := ⟨_, rfl⟩
  rw [hw_] at hx_ hb_ hz_
  have HX_w0 := Lib.hid hx_
  have HB_w0 := Lib.hid hb_
  have HW_w0 := Lib.hid hw_
  have hz_w0 := Lib.hid hz_
  clear hx_ hb_ hw_ hz_ hzo_
  have hzo_ := hz_w0.out
  have hx_ : (w0.alloc (.cells #[.slice none 0 0] 30)).heap[B + 1]? = some (.cells #[.slice none 0 0] 30 (0, 0)) := by rw [← hzo_]; exact heap_alloc_new w0 _
  have hb_ : Below w0.heap.size w0 (w0.alloc (.cells #[.slice none 0 0] 30)) := (Below.refl _ _).alloc (Nat.le_refl _) _
  have hz_ : (w0.alloc (.cells #[.slice none 0 0] 30)).heap.size = B + 1 + 1 := by simp [hzo_]
  obtain ⟨w1, hw_⟩ : ∃ z, (w0.alloc (.cells #[.slice none 0 0] 30)) = z := ⟨_, rfl⟩
  rw [hw_] at hx_ hb_ hz_
  have HX_w1 := Lib.hid hx_
  have HB_w1 := Lib.hid hb_
  have HW_w1 := Lib.hid hw_
  have hz_w1 := Lib.hid hz_
  clear hx_ hb_ hw_ hz_ hzo_
  have hzo_ := hz_w1.out
  have hx_ : (w1.alloc (.cells #[] 39)).heap[B + 1 + 1]? = some (.cells #[] 39 (0, 0)) := by rw [← hzo_]; exact heap_alloc_new w1 _
  have hb_ : Below w1.heap.size w1 (w1.alloc (.cells #[] 39)) := (Below.refl _ _).alloc (Nat.le_refl _) _
  have hz_ : (w1.alloc (.cells #[] 39)).heap.size = B + 1 + 1 + 1 := by simp [hzo_]
  obtain ⟨w2, hw_⟩ : ∃ z, (w1.alloc (.cells #[] 39)) = z := ⟨_, rfl⟩
  rw [hw_] at hx_ hb_ hz_
  have HX_w2 := Lib.hid hx_
  have HB_w2 := Lib.hid hb_
  have HW_w2 := Lib.hid hw_
  have hz_w2 := Lib.hid hz_
  clear hx_ hb_ hw_ hz_ hzo_
  have hc0 : w2.cell? ⟨B, 0, none⟩ = some (.slice A n cap) := cell_below HB_w2.out (cell_below HB_w1.out (cell_of_block HX_w0.out 0))
  have HB2 := Lib.hid (below_step (below_step HB_w0.out HB_w1.out) HB_w2.out)
  have H := Lib.hid (own_below h HB2.out (own_lt _ h))
  have hown : w2.ownsRow (B + 1 + 1) 39 2 (.slice (some ⟨B + 1 + 1, 0, none⟩) 0 0) 0 [] := ⟨by simp, .inr ⟨_, 0, _, rfl, Nat.le_refl _, HX_w2.out, Nat.le_refl _, by unfold maxLen; omega, rfl, by simp⟩⟩
  have HO := Lib.hid hown
  have hr1 : w2.heap[B + 1]? = some (.cells #[.slice none 0 0] 30 (0, 0)) := (HB_w2.out.block _ (by have := hz_w1.out; omega)).trans HX_w1.out
  have HR := Lib.hid hr1
  clear h hs hn hown hr1
  go_enter Tryd.func78, Tryd.ntmps78
  go_wp2_with (at_builtin; rw [HW_w0.out, HW_w1.out, HW_w2.out]; refine wpList_copy_flat rfl _ _ 28 rfl (B + 1 + 1) 39 i0 _ 2 16 Tryd.underlying28 hi hz0 hz1 hz2 rfl (by omega) _ rfl HO.out A n cap rfl eEntry t.Entries bs H.out (fun _ => rfl) flatE (by omega) (by omega) (by have := hz_w2.out; omega) ?_)
  intro v' w3 hown3 hgrow
  obtain ⟨A1, n1, p1, rfl⟩ := owned_slice hown3
  have hr3 := (hgrow.block (B + 1) (by have := hz_w2.out; omega) (by simp [Value.ownBlock])).trans HR.out
  have hk3 : w3.cell? ⟨B + 1, 0, none⟩ = some (.slice none 0 0) := cell_of_block hr3 0
  have hf3 := free_of_block hr3 0
  have HG := Lib.hid (block_set hr3 0 (.slice A1 n1 p1))
  have HE : Hid (Owned (w3.setCell ⟨B + 1, 0, none⟩ (.slice A1 n1 p1)) w.heap.size (eTable t) [.slice A1 n1 p1]) := (hown3.setCell (by show B + 1 < B + 1 + 1; omega) _).mono (by omega)
  have HBE : Hid (Below w.heap.size w (w3.setCell ⟨B + 1, 0, none⟩ (.slice A1 n1 p1))) := (HB2.out.grown hgrow (by have := hz_w2.out; omega) (fun k hk => by have : B + 1 + 1 = k := (by simpa [Value.ownBlock] using hk); omega)).setCell (by show _ ≤ B + 1; omega) _
  clear hr3 hown3 hgrow
  go_wp2
  refine ret_c rfl HG.out rfl Tryd.underlying30 rfl sizeT rfl ?_
  exact ⟨[_], rfl, HE.out, HBE.out⟩
theorem sizeE : (Tryd.prog.info? 39).map (·.size) = some 2 := by kernel_rfl
theorem spec_PageEntry (t : GTable) (c0 : Value) (page : Int) (w : World) (h : Rd w (eTable t) [c0]) (hs : (eTable t).sz ≤ 1048576) (hp : okI page) : Calls Tryd.prog 12 #[.agg #[c0], .int .i64 page] w (RetP (.agg #[.int .i64 (pPageEntry t page).Mode, .int .i64 (pPageEntry t page).Frame]) w) := by
  obtain ⟨bs, h⟩ := h
  have hl := sz_len (T := 39) (k := 2) (E := eEntry) (l := t.Entries) hs
  obtain ⟨A, n, cap, rfl, hn, _, _, hA⟩ := read_rowD (T := 39) (E := eEntry) (k := 2) h (fun _ => rfl)
  obtain ⟨B, hs_B⟩ : ∃ B, w.heap.size = B := ⟨_, rfl⟩
  have hzo_ := hs_B
  have hx_ : (w.alloc (.cells #[.slice A n cap] 30)).heap[B]? = some (.cells #[.slice A n cap] 30 (0, 0)) := by rw [← hzo_]; exact heap_alloc_new w _
  have hb_ : Below w.heap.size w (w.alloc (.cells #[.slice A n cap] 30)) := (Below.refl _ _).alloc (Nat.le_refl _) _
  have hz_ : (w.alloc (.cells #[.slice A n cap] 30)).heap.size = B + 1 := by simp [hzo_]
  obtain ⟨w0, hw_⟩ : ∃ z, (w.alloc (.cells #[.slice A n cap] 30)) = z := ⟨_, rfl⟩
  rw [hw_] at hx_ hb_ hz_
  have HX_w0 := Lib.hid hx_
  have HB_w0 := Lib.hid hb_
  have HW_w0 := Lib.hid hw_
  have hz_w0 := Lib.hid hz_
  clear hx_ hb_ hw_ hz_ hzo_
  have hzo_ := hz_w0.out
  have hx_ : (w0.alloc (.cells #[.int .i64 0, .int .i64 0] 39)).heap[B + 1]? = some (.cells #[.int .i64 0, .int .i64 0] 39 (0, 0)) := by rw [← hzo_]; exact heap_alloc_new w0 _
  have hb_ : Below w0.heap.size w0 (w0.alloc (.cells #[.int .i64 0, .int .i64 0] 39)) := (Below.refl _ _).alloc (Nat.le_refl _) _
  have hz_ : (w0.alloc (.cells #[.int .i64 0, .int .i64 0] 39)).heap.size = B + 1 + 1 := by simp [hzo_]
  obtain ⟨w1, hw_⟩ : ∃ z, (w0.alloc (.cells #[.int .i64 0, .int .i64 0] 39)) = z := ⟨_, rfl⟩
  rw [hw_] at hx_ hb_ hz_
  have HX_w1 := Lib.hid hx_
  have HB_w1 := Lib.hid hb_
  have HW_w1 := Lib.hid hw_
  have hz_w1 := Lib.hid hz_
  clear hx_ hb_ hw_ hz_ hzo_
  have hc0 : w1.cell? ⟨B, 0, none⟩ = some (.slice A n cap) := cell_below HB_w1.out (cell_of_block HX_w0.out 0)
  have HB2 := Lib.hid (below_step HB_w0.out HB_w1.out)
  have hk0 : w1.cell? ⟨B + 1, 0, none⟩ = some (.int .i64 0) := cell_of_block HX_w1.out 0
  have hf0 := free_of_block HX_w1.out 0
  have hn' : n ≤ 1048576 := by omega
  have HN := Lib.hid hn
  clear h hs hn hl hp
  by_cases hin : 0 ≤ page ∧ page ≤ (n : Int) - 1
  · obtain ⟨i, rfl⟩ := Int.eq_ofNat_of_zero_le hin.1
    obtain ⟨g, o, x, us, b, rfl, hx, hus, hc, ho, _⟩ := hA i (by omega)
    obtain rfl := inv_Entry ho
    have HF : Hid (pPageEntry t (i : Int) = x) := by
      show _ = _
      unfold pPageEntry
      have := HN.out
      rw [if_pos (by omega), Int.toNat_natCast, List.getD_eq_getElem?_getD, hx]; rfl
    rw [HF.out]
    have hc1 : w1.cell? ⟨g, o + i * 2, none⟩ = some (.int .i64 x.Mode) := cell_below HB2.out (hc 0 (by omega))
    have hc2 : w1.cell? ⟨g, o + i * 2 + 1, none⟩ = some (.int .i64 x.Frame) := cell_below HB2.out (hc 1 (by omega))
    have hi2 : (i : Int) < n := by omega
    have hg1 := block_set HX_w1.out 0 (.int .i64 x.Mode)
    have hk1 : (w1.setCell ⟨B + 1, 0, none⟩ (.int .i64 x.Mode)).cell? ⟨B + 1, 1, none⟩ = some (.int .i64 0) := cell_of_block hg1 1
    have hf1 := free_of_block hg1 1
    have HG := Lib.hid (block_set hg1 1 (.int .i64 x.Frame))
    have HBE : Hid (Below w.heap.size w ((w1.setCell ⟨B + 1, 0, none⟩ (.int .i64 x.Mode)).setCell ⟨B + 1, 1, none⟩ (.int .i64 x.Frame))) := (HB2.out.setCell (p := ⟨B + 1, 0, none⟩) (by show _ ≤ B + 1; omega) _).setCell (p := ⟨B + 1, 1, none⟩) (by show _ ≤ B + 1; omega) _
    clear hc ho hx hus hA hg1
    generalize x.Mode = md at *
    generalize x.Frame = fr at *
    go_enter Tryd.func12, Tryd.ntmps12
    go_wp2_with fail
    rw [HW_w0.out, HW_w1.out]
    refine (Bm.in_yes _ _ _ _ hin.1 hin.2).mono ?_
    rintro e w' ⟨rfl, rfl⟩
    go_wp2
    refine ret_c rfl HG.out rfl Tryd.underlying39 rfl sizeE rfl ?_
    exact ⟨rfl, HBE.out⟩
  · have HF : Hid (pPageEntry t page = ⟨0, 0⟩) := by
      show _ = _
      unfold pPageEntry
      have := HN.out
      rw [if_neg (by omega)]
    rw [HF.out]
    have hg1 := block_set HX_w1.out 0 (.int .i64 0)
    have hk1 : (w1.setCell ⟨B + 1, 0, none⟩ (.int .i64 0)).cell? ⟨B + 1, 1, none⟩ = some (.int .i64 0) := cell_of_block hg1 1
    have hf1 := free_of_block hg1 1
    have HG := Lib.hid (block_set hg1 1 (.int .i64 0))
    have HBE : Hid (Below w.heap.size w ((w1.setCell ⟨B + 1, 0, none⟩ (.int .i64 0)).setCell ⟨B + 1, 1, none⟩ (.int .i64 0))) := (HB2.out.setCell (p := ⟨B + 1, 0, none⟩) (by show _ ≤ B + 1; omega) _).setCell (p := ⟨B + 1, 1, none⟩) (by show _ ≤ B + 1; omega) _
    have HI := Lib.hid hin
    clear hA hg1 hin
    go_enter Tryd.func12, Tryd.ntmps12
    go_wp2_with fail
    rw [HW_w0.out, HW_w1.out]
    refine (Bm.in_no _ _ _ _ HI.out).mono ?_
    rintro e w' ⟨rfl, rfl⟩
    go_wp2
    refine ret_c rfl HG.out rfl Tryd.underlying39 rfl sizeE rfl ?_
    exact ⟨rfl, HBE.out⟩
theorem infoI : (Tryd.prog.info? 3).map (fun i => (i.zero, i.size, i.bytes)) = some (some (.int .i64 0), 1, 8) := by kernel_rfl
theorem spec_PagesOn (t : GTable) (c0 : Value) (frame : Int) (w : World) (h : Rd w (eTable t) [c0]) (hs : (eTable t).sz ≤ 1048576) (hp : okI frame) : Calls Tryd.prog 65 #[.agg #[c0], .int .i64 frame] w (RetM (fun us => us.headD undef) (eIntS (pPagesOn t frame)) w) := by
  obtain ⟨bs, h⟩ := h
  have hl := sz_len (T := 39) (k := 2) (E := eEntry) (l := t.Entries) hs
  obtain ⟨A, n, cap, rfl, hn, _, _, hA⟩ := read_rowD (T := 39) (E := eEntry) (k := 2) h (fun _ => rfl)
  obtain ⟨i0, hi, hz0, hz1, hz2⟩ := info_parts infoI
  obtain ⟨B, hs_B⟩ : ∃ B, w.heap.size = B := ⟨_, rfl⟩
  have hzo_ := hs_B
  have hx_ : (w.alloc (.cells #[.slice A n cap] 30)).heap[B]? = some (.cells #[.slice A n cap] 30 (0, 0)) := by rw [← hzo_]; exact heap_alloc_new w _
  have hb_ : Below w.heap.size w (w.alloc (.cells #[.slice A n cap] 30)) := (Below.refl _ _).alloc (Nat.le_refl _) _
  have hz_ : (w.alloc (.cells #[.slice A n cap] 30)).heap.size = B + 1 := by simp [hzo_]
  obtain ⟨w0, hw_⟩ : ∃ z, (w.alloc (.cells #[.slice A n cap] 30)) = z := ⟨_, rfl⟩
  rw [hw_] at hx_ hb_ hz_
  have HX_w0 := Lib.hid hx_
  have HB_w0 := Lib.hid hb_
  have HW_w0 := Lib.hid hw_
  have hz_w0 := Lib.hid hz_
  clear hx_ hb_ hw_ hz_ hzo_
  have hzo_ := hz_w0.out
  have hx_ : (w0.alloc (.cells #[] 3)).heap[B + 1]? = some (.cells #[] 3 (0, 0)) := by rw [← hzo_]; exact heap_alloc_new w0 _
  have hb_ : Below w0.heap.size w0 (w0.alloc (.cells #[] 3)) := (Below.refl _ _).alloc (Nat.le_refl _) _
  have hz_ : (w0.alloc (.cells #[] 3)).heap.size = B + 1 + 1 := by simp [hzo_]
  obtain ⟨w1, hw_⟩ : ∃ z, (w0.alloc (.cells #[] 3)) = z := ⟨_, rfl⟩
  rw [hw_] at hx_ hb_ hz_
  have HX_w1 := Lib.hid hx_
  have HB_w1 := Lib.hid hb_
  have HW_w1 := Lib.hid hw_
  have hz_w1 := Lib.hid hz_
  clear hx_ hb_ hw_ hz_ hzo_
  have HB2 := Lib.hid (below_step HB_w0.out HB_w1.out)
  have hown : w1.ownsRow (B + 1) 3 1 (.slice (some ⟨B + 1, 0, none⟩) 0 0) 0 [] := ⟨by simp, .inr ⟨_, 0, _, rfl, Nat.le_refl _, HX_w1.out, Nat.le_refl _, by unfold maxLen; omega, rfl, by simp⟩⟩
  have HO1 := Lib.hid hown
  have hn' : n ≤ 1048576 := by omega
  have HN := Lib.hid hn
  have HA := Lib.hid hA
  have HX0 := Lib.hid ((HB_w1.out.block _ (by have := hz_w0.out; omega)).trans HX_w0.out)
  have hlen : ∀ k, (onFrame frame 0 (t.Entries.take k)).length ≤ n := fun k => by
    have h1 := onFrame_len frame 0 (t.Entries.take k)
    rw [List.length_take] at h1
    omega
  have HLEN := Lib.hid hlen
  clear h hs hn hl hp hown hA hlen
  go_enter Tryd.func65, Tryd.ntmps65
  go_wp2_with fail
  rw [HW_w0.out, HW_w1.out]
  go_loopw [5, 6] (fun u i wr => ∃ k q : Nat, k ≤ n ∧ q ≤ n ∧ i = .int .i64 k ∧ Hid ((onFrame frame 0 (t.Entries.take k)).length = q) ∧ Hid (wr.ownsRow (B + 1) 3 1 u q ((onFrame frame 0 (t.Entries.take k)).map (Value.int .i64))) ∧ Hid (Below (B + 1) w1 wr)) (fun _ i _ => n - (intOf i).toNat)
  case atStart => exact ⟨0, 0, Nat.zero_le _, Nat.zero_le _, rfl, by show _ = _; simp [onFrame], by show World.ownsRow _ _ _ _ _ _ _; simpa [onFrame] using HO1.out, Below.refl _ _⟩
  case round =>
    clear HO1
    obtain ⟨k, q, hk, hq, rfl, HQ, HO, HBL⟩ := hrel
    have hc0 : wr.cell? ⟨B, 0, none⟩ = some (.slice A n cap) := cell_of_block ((HBL.out.block B (by omega)).trans HX0.out) 0
    by_cases hlt : (k : Int) < n
    · have hk0 : (0 : Int) ≤ k := by omega
      obtain ⟨g, o, x, us, b, rfl, hx, hus, hc, ho, hbb⟩ := HA.out k (by omega)
      obtain rfl := inv_Entry ho
      have hge : ∀ j, (w.cell? ⟨g, o + k * 2 + j, none⟩).isSome → g < B := fun j hj => by
        obtain ⟨v, hv⟩ := Option.isSome_iff_exists.1 hj
        have := World.block_lt_of_cell? w _ hv
        have h2 : g < w.heap.size := this
        omega
      have hgB : g < B := hge 0 (by rw [hc 0 (by omega)]; rfl)
      have hcc : ∀ (j : Nat) (v : Value), w.cell? ⟨g, o + k * 2 + j, none⟩ = some v → wr.cell? ⟨g, o + k * 2 + j, none⟩ = some v := fun j v hv => (HBL.out.cell (p := ⟨g, o + k * 2 + j, none⟩) (by show g < B + 1; omega)).trans (cell_below HB2.out hv)
      have hc1 : wr.cell? ⟨g, o + k * 2, none⟩ = some (.int .i64 x.Mode) := hcc 0 _ (hc 0 (by omega))
      have hc2 : wr.cell? ⟨g, o + k * 2 + 1, none⟩ = some (.int .i64 x.Frame) := hcc 1 _ (hc 1 (by omega))
      have hst := onFrame_take frame t.Entries k x hx
      have hlk := HLEN.out (k + 1)
      have hsz1 : B + 1 ≤ wr.heap.size := by have := HBL.out.size; have := hz_w1.out; omega
      by_cases hyes : x.Mode ≠ 0 ∧ x.Frame = frame
      · rw [if_pos hyes] at hst
        have hm : (x.Mode != 0) = true := by rw [bne_iff_ne]; exact hyes.1
        have hf : (x.Frame == frame) = true := by rw [beq_iff_eq]; exact hyes.2
        rw [hst, List.length_append, HQ.out] at hlk
        have hlk' : q + 1 ≤ n := hlk
        have HST := Lib.hid hst
        clear hst hlk hcc hge hbb hc ho hx hus hyes
        generalize x.Mode = md at *
        generalize x.Frame = fr at *
        go_wp2_with (at_builtin; refine wpList_append_own _ rfl (.tmp 32) (.tmp 34) 34 rfl (B + 1) 3 i0 (.int .i64 0) 1 8 Tryd.underlying34 hi hz0 hz1 hz2 rfl (by decide) u5 q _ rfl (HO.out.alloc _) ⟨wr.heap.size, 0, none⟩ 1 1 [_] rfl rfl (World.news_of_block (cs := #[_]) (heap_alloc_new wr _)) (by simp [Value.oneCell']) (by unfold maxLen; omega) (by omega) (by simp; omega) ?_)
        intro v2 w2 ho2 hg2 _
        have HO2 : Hid (w2.ownsRow (B + 1) 3 1 v2 (q + 1) ((onFrame frame 0 (t.Entries.take (k + 1))).map (Value.int .i64))) := by
          show World.ownsRow _ _ _ _ _ _ _
          rw [HST.out, List.map_append]; exact ho2
        have HQ2 : Hid ((onFrame frame 0 (t.Entries.take (k + 1))).length = q + 1) := by show _ = _; rw [HST.out, List.length_append, HQ.out]; rfl
        have HB3 := Lib.hid ((HBL.out.alloc hsz1 _).grown hg2 (by simp; omega) (fun y hy => (HO.out.lt y hy).1))
        clear ho2 hg2
        go_wp2
        go_roundw
        case rel => exact ⟨k + 1, q + 1, by omega, by omega, by go_num, HQ2.out, HO2.out, HB3.out⟩
        case measure => simp [intOf]; omega
      · rw [if_neg hyes, List.append_nil] at hst
        have HO2 : Hid (wr.ownsRow (B + 1) 3 1 u5 q ((onFrame frame 0 (t.Entries.take (k + 1))).map (Value.int .i64))) := by
          show World.ownsRow _ _ _ _ _ _ _
          rw [hst]; exact HO.out
        have HQ2 : Hid ((onFrame frame 0 (t.Entries.take (k + 1))).length = q) := by show _ = _; rw [hst]; exact HQ.out
        clear hst hlk hcc hge hbb hc ho hx hus
        generalize x.Mode = md at *
        generalize x.Frame = fr at *
        by_cases h0 : md = 0
        · subst h0
          clear hyes
          go_wp2
          go_roundw
          case rel => exact ⟨k + 1, q, by omega, by omega, by go_num, HQ2.out, HO2.out, HBL.out⟩
          case measure => simp [intOf]; omega
        · have hm : (md != 0) = true := by rw [bne_iff_ne]; exact h0
          have hf : (fr == frame) = false := by rw [beq_eq_false_iff_ne]; exact fun hh => hyes ⟨h0, hh⟩
          clear hyes h0
          go_wp2
          go_roundw
          case rel => exact ⟨k + 1, q, by omega, by omega, by go_num, HQ2.out, HO2.out, HBL.out⟩
          case measure => simp [intOf]; omega
    · obtain rfl : k = n := by omega
      have HF : Hid (Owned wr w.heap.size (eIntS (pPagesOn t frame)) [u5]) := by
        show Owned _ _ _ _
        have h1 := HO.out
        have h2 := HQ.out
        rw [HN.out, List.take_length] at h1 h2
        exact (ints_owned h1 h2).mono (by omega)
      have HBF : Hid (Below w.heap.size w wr) := HB2.out.trans (HBL.out.mono (by omega))
      go_wp2
      go_ret
      exact ⟨[_], rfl, HF.out, HBF.out⟩
theorem spec_TableNew (pages : Int) (w : World) (hp : okI pages) : Calls Tryd.prog 85 #[.int .i64 pages] w (RetM (fun us => .tuple #[.agg us.toArray, .bool (pTableNew pages).2]) (eTable (pTableNew pages).1) w) := by
  obtain ⟨i0, hi, hz0, hz1, hz2⟩ := info_parts infoE
  obtain ⟨B, hs_B⟩ : ∃ B, w.heap.size = B := ⟨_, rfl⟩
  have hzo_ := hs_B
  have hx_ : (w.alloc (.cells #[.slice none 0 0] 30)).heap[B]? = some (.cells #[.slice none 0 0] 30 (0, 0)) := by rw [← hzo_]; exact heap_alloc_new w _
  have hb_ : Below w.heap.size w (w.alloc (.cells #[.slice none 0 0] 30)) := (Below.refl _ _).alloc (Nat.le_refl _) _
  have hz_ : (w.alloc (.cells #[.slice none 0 0] 30)).heap.size = B + 1 := by simp [hzo_]
  obtain ⟨w0, hw_⟩ : ∃ z, (w.alloc (.cells #[.slice none 0 0] 30)) = z := ⟨_, rfl⟩
  rw [hw_] at hx_ hb_ hz_
  have HX_w0 := Lib.hid hx_
  have HB_w0 := Lib.hid hb_
  have HW_w0 := Lib.hid hw_
  have hz_w0 := Lib.hid hz_
  clear hx_ hb_ hw_ hz_ hzo_
  have hk0 : w0.cell? ⟨B, 0, none⟩ = some (.slice none 0 0) := cell_of_block HX_w0.out 0
  have hf0 := free_of_block HX_w0.out 0
  by_cases hin : 1 ≤ pages ∧ pages ≤ 32
  · have HF : Hid (pTableNew pages = (⟨List.replicate pages.toNat ⟨0, 0⟩⟩, true)) := by show _ = _; unfold pTableNew; rw [if_pos hin]
    obtain ⟨h1, h2⟩ := hin
    obtain ⟨n, rfl⟩ := Int.eq_ofNat_of_zero_le (show 0 ≤ pages by omega)
    rw [Int.toNat_natCast] at HF
    have hn1 : n ≤ 32 := by omega
    go_enter Tryd.func85, Tryd.ntmps85
    go_wp2_with fail
    rw [HW_w0.out]
    refine (Bm.in_yes _ _ _ _ h1 h2).mono ?_
    rintro e w' ⟨rfl, rfl⟩
    go_wp2_with (at_make; refine wpList_make_full _ rfl _ _ 28 rfl (B + 1) 39 i0 (.agg #[.int .i64 0, .int .i64 0]) 2 Tryd.underlying28 hi hz0 hz1 _ _ _ _ n rfl rfl rfl rfl (by rw [hz2]; omega) (by unfold maxLen; omega) (by rw [hz_w0.out]; exact Nat.le_refl _) ?_)
    intro w1 hown hgrow
    rw [hz_w0.out] at hown ⊢
    have H0 := own_made (z := eEntry ⟨0, 0⟩) (zc := [.int .i64 0, .int .i64 0]) (k := 2) hown ⟨_, rfl, _, rfl, rfl, rfl⟩ rfl (by omega) rfl
    have hx := (hgrow.block B (by have := hz_w0.out; omega) (by simp)).trans HX_w0.out
    have hk1 : w1.cell? ⟨B, 0, none⟩ = some (.slice none 0 0) := cell_of_block hx 0
    have hf1 := free_of_block hx 0
    have HG := Lib.hid (block_set hx 0 (.slice (some ⟨B + 1, 0, none⟩) n n))
    have HE : Hid (Owned (w1.setCell ⟨B, 0, none⟩ (.slice (some ⟨B + 1, 0, none⟩) n n)) w.heap.size (eTable ⟨List.replicate n ⟨0, 0⟩⟩) [.slice (some ⟨B + 1, 0, none⟩) n n]) := by
      show Owned _ _ _ _
      rw [← List.map_replicate (f := eEntry)] at H0
      have h5 : Owned w1 (B + 1) (eTable ⟨List.replicate n ⟨0, 0⟩⟩) [.slice (some ⟨B + 1, 0, none⟩) n n] := ⟨_, H0, by simp, by simp⟩
      exact (h5.setCell (by show B < B + 1; omega) _).mono (by omega)
    have HBE : Hid (Below w.heap.size w (w1.setCell ⟨B, 0, none⟩ (.slice (some ⟨B + 1, 0, none⟩) n n))) := (HB_w0.out.grown hgrow (by have := hz_w0.out; omega) (fun _ h => by cases h)).setCell (by show _ ≤ B; omega) _
    clear H0 hown hgrow hx
    go_wp2
    refine ret_ct rfl HG.out rfl Tryd.underlying30 rfl sizeT rfl ?_
    rw [HF.out]
    exact ⟨[_], rfl, HE.out, HBE.out⟩
  · have HF : Hid (pTableNew pages = (⟨[]⟩, false)) := by show _ = _; unfold pTableNew; rw [if_neg hin]
    have HI := Lib.hid hin
    have HG := Lib.hid (block_set HX_w0.out 0 (.slice none 0 0))
    have HBE : Hid (Below w.heap.size w (w0.setCell ⟨B, 0, none⟩ (.slice none 0 0))) := HB_w0.out.setCell (by show _ ≤ B; omega) _
    clear hin
    go_enter Tryd.func85, Tryd.ntmps85
    go_wp2_with fail
    rw [HW_w0.out]
    refine (Bm.in_no _ _ _ _ HI.out).mono ?_
    rintro e w' ⟨rfl, rfl⟩
    go_wp2
    refine ret_ct rfl HG.out rfl Tryd.underlying30 rfl sizeT rfl ?_
    rw [HF.out]
    exact ⟨[_], rfl, ⟨[], ⟨_, [], [], [], rfl, rfl, ⟨rfl, rfl⟩, Or.inl ⟨⟨none, rfl⟩, rfl, rfl, rfl⟩⟩, by simp, by simp⟩, HBE.out⟩
theorem szs_flat {α : Type} {E : α → D} (h : ∀ x, (E x).sz = 0) (l : List α) : szs (l.map E) = 0 := szs_zero h
theorem bound_PagesOn (t : GTable) (frame : Int) (h : (eTable t).sz ≤ 1048576) : (eIntS (pPagesOn t frame)).sz ≤ 50000000 := by
  have hl := sz_len (T := 39) (k := 2) (E := eEntry) (l := t.Entries) h
  have h1 := onFrame_len frame 0 t.Entries
  unfold eIntS pPagesOn
  rw [rowD_sz, szs_zero (fun _ => rfl)]
  omega
theorem sz_Table_len (t : GTable) : (eTable t).sz = t.Entries.length := by
  show (rowD _ _ eEntry t.Entries).sz = _
  rw [rowD_sz, szs_zero (fun _ => rfl)]; rfl
theorem bound_SetPage (t : GTable) (page : Int) (e : GEntry) (h : (eTable t).sz ≤ 1048576) : (eTable (pSetPage t page e).1).sz ≤ 50000000 := by
  rw [sz_Table_len] at h ⊢
  unfold pSetPage
  split
  · show (t.Entries.set _ _).length ≤ _
    rw [List.length_set]; omega
  · show t.Entries.length ≤ _
    omega
theorem bound_TableNew (pages : Int) : (eTable (pTableNew pages).1).sz ≤ 50000000 := by
  rw [sz_Table_len]
  unfold pTableNew
  split
  · show (List.replicate _ _).length ≤ _
    rw [List.length_replicate]; omega
  · show (0 : Nat) ≤ _
    omega
end Tr
end Go.Proofs.YtkmkpjpopobdbaaDoor

/- Page tables: the program's functions with results in memory. -/
import Derived.Test.YtbfdopnbclkfcaaI06b
namespace Go.Proofs.Ytbfdopnbclkfcaa
open Go.RowKit
set_option linter.unusedVariables false
namespace Tr
theorem row_below {w w' : World} {base e size n : Nat} {v : Value} {xs : List Value} (h : w.ownsRow base e size v n xs) (hb : Below w.heap.size w w') : w'.ownsRow base e size v n xs := by
  refine ⟨h.1, ?_⟩
  rcases h.2 with hl | ⟨g, cap, cur, e1, hb', hg, r⟩
  · exact .inl hl
  · exact .inr ⟨g, cap, cur, e1, hb', (hb.block g (lt_of_block hg)).trans hg, r⟩
theorem impl_PageEntry (t : GTable) (c0 : Value) (page : Int) (w : World) (h : Rd w (eTable t) [c0]) (hs : (eTable t).sz ≤ 1048576) (hp : okI page) : Calls Try.prog 16 #[.agg #[c0], .int .i64 page] w (RetP (.agg #[.int .i64 (pPageEntry t page).Mode, .int .i64 (pPageEntry t page).Frame]) w) := by
  obtain ⟨bs, h⟩ := h
  have hl := sz_len (T := 33) (k := 2) (E := eEntry) (l := t.Entries) hs
  obtain ⟨A, n, cap, rfl, hn, _, _, hA⟩ := read_rowD (T := 33) (E := eEntry) (k := 2) h (fun _ => rfl)
  obtain ⟨B, hs_B⟩ : ∃ B, w.heap.size = B := ⟨_, rfl⟩
  have hzo_ := hs_B
  have hx_ : (w.alloc (.cells #[.slice A n cap] 28)).heap[B]? = some (.cells #[.slice A n cap] 28 (0, 0)) := by rw [← hzo_]; exact heap_alloc_new w _
  have hb_ : Below w.heap.size w (w.alloc (.cells #[.slice A n cap] 28)) := (Below.refl _ _).alloc (Nat.le_refl _) _
  have hz_ : (w.alloc (.cells #[.slice A n cap] 28)).heap.size = B + 1 := by simp [hzo_]
  obtain ⟨w0, hw_⟩ : ∃ z, (w.alloc (.cells #[.slice A n cap] 28)) = z := ⟨_, rfl⟩
  rw [hw_] at hx_ hb_ hz_
  have HX_w0 := Lib.hid hx_
  have HB_w0 := Lib.hid hb_
  have HW_w0 := Lib.hid hw_
  have hz_w0 := Lib.hid hz_
  clear hx_ hb_ hw_ hz_ hzo_
  have hzo_ := hz_w0.out
  have hx_ : (w0.alloc (.cells #[.int .i64 0, .int .i64 0] 33)).heap[B + 1]? = some (.cells #[.int .i64 0, .int .i64 0] 33 (0, 0)) := by rw [← hzo_]; exact heap_alloc_new w0 _
  have hb_ : Below w0.heap.size w0 (w0.alloc (.cells #[.int .i64 0, .int .i64 0] 33)) := (Below.refl _ _).alloc (Nat.le_refl _) _
  have hz_ : (w0.alloc (.cells #[.int .i64 0, .int .i64 0] 33)).heap.size = B + 1 + 1 := by simp [hzo_]
  obtain ⟨w1, hw_⟩ : ∃ z, (w0.alloc (.cells #[.int .i64 0, .int .i64 0] 33)) = z := ⟨_, rfl⟩
  rw [hw_] at hx_ hb_ hz_
  have HX_w1 := Lib.hid hx_
  have HB_w1 := Lib.hid hb_
  have HW_w1 := Lib.hid hw_
  have hz_w1 := Lib.hid hz_
  clear hx_ hb_ hw_ hz_ hzo_
  have hc0 : w1.cell? ⟨B, 0, none⟩ = some (.slice A n cap) := cell_below HB_w1.out (cell_of_block HX_w0.out 0)
  have HX0 := Lib.hid ((HB_w1.out.block _ (by have := hz_w0.out; omega)).trans HX_w0.out)
  have HB2 := Lib.hid (below_step HB_w0.out HB_w1.out)
  have hn' : n ≤ 1048576 := by omega
  have HPE := Lib.hid (impl_pageExists t (.slice A n cap) page w1 (Rd.below ⟨_, h⟩ HB2.out) hs)
  rw [← hn] at HPE
  have HN := Lib.hid hn
  have hzz := hz_w1.out
  clear h hs hn hl hp
  by_cases hin : 0 ≤ page ∧ page < (n : Int)
  · have hd : decide (0 ≤ page ∧ page < (n : Int)) = true := decide_eq_true hin
    rw [hd] at HPE
    obtain ⟨i, rfl⟩ := Int.eq_ofNat_of_zero_le hin.1
    obtain ⟨g, o, x, us, b, rfl, hx, hus, hc, ho, _⟩ := hA i (by omega)
    obtain rfl := inv_Entry ho
    have HF : Hid (pPageEntry t (i : Int) = x) := by
      show _ = _
      unfold pPageEntry
      have := HN.out
      rw [if_pos (by omega), Int.toNat_natCast, List.getD_eq_getElem?_getD, hx]; rfl
    rw [HF.out]
    have HC1 : Hid (w1.cell? ⟨g, o + i * 2, none⟩ = some (.int .i64 x.Mode)) := cell_below HB2.out (hc 0 (by omega))
    have HC2 : Hid (w1.cell? ⟨g, o + i * 2 + 1, none⟩ = some (.int .i64 x.Frame)) := cell_below HB2.out (hc 1 (by omega))
    have hi0 : (0 : Int) ≤ i := by omega
    have hi2 : (i : Int) < n := by omega
    clear hc ho hx hus hA hd hin
    generalize x.Mode = md at *
    generalize x.Frame = fr at *
    go_enter Try.func16, Try.ntmps16
    go_wp2_with fail
    rw [HW_w0.out, HW_w1.out]
    refine HPE.out.mono ?_
    rintro e w2 ⟨rfl, hb2⟩
    have hy0 := (hb2.block B (by omega)).trans HX0.out
    have hy1 := (hb2.block (B + 1) (by omega)).trans HX_w1.out
    have hd0 : w2.cell? ⟨B, 0, none⟩ = some (.slice (some ⟨g, o, none⟩) n cap) := cell_of_block hy0 0
    have hd1 : w2.cell? ⟨g, o + i * 2, none⟩ = some (.int .i64 md) := cell_below hb2 HC1.out
    have hd2 : w2.cell? ⟨g, o + i * 2 + 1, none⟩ = some (.int .i64 fr) := cell_below hb2 HC2.out
    have hk0 : w2.cell? ⟨B + 1, 0, none⟩ = some (.int .i64 0) := cell_of_block hy1 0
    have hf0 := free_of_block hy1 0
    have hg1 := block_set hy1 0 (.int .i64 md)
    have hk1 : (w2.setCell ⟨B + 1, 0, none⟩ (.int .i64 md)).cell? ⟨B + 1, 1, none⟩ = some (.int .i64 0) := cell_of_block hg1 1
    have hf1 := free_of_block hg1 1
    have HG := Lib.hid (block_set hg1 1 (.int .i64 fr))
    have HBE : Hid (Below w.heap.size w ((w2.setCell ⟨B + 1, 0, none⟩ (.int .i64 md)).setCell ⟨B + 1, 1, none⟩ (.int .i64 fr))) := ((below_step HB2.out hb2).setCell (p := ⟨B + 1, 0, none⟩) (by show _ ≤ B + 1; omega) _).setCell (p := ⟨B + 1, 1, none⟩) (by show _ ≤ B + 1; omega) _
    clear hg1 hb2 hy0 hy1
    go_wp2
    refine ret_c rfl HG.out rfl Try.underlying33 rfl sizeE rfl ?_
    exact ⟨rfl, HBE.out⟩
  · have hd : decide (0 ≤ page ∧ page < (n : Int)) = false := decide_eq_false hin
    rw [hd] at HPE
    have HF : Hid (pPageEntry t page = ⟨0, 0⟩) := by
      show _ = _
      unfold pPageEntry
      have := HN.out
      rw [if_neg (by omega)]
    rw [HF.out]
    clear hA hd hin
    go_enter Try.func16, Try.ntmps16
    go_wp2_with fail
    rw [HW_w0.out, HW_w1.out]
    refine HPE.out.mono ?_
    rintro e w2 ⟨rfl, hb2⟩
    have hy1 := (hb2.block (B + 1) (by omega)).trans HX_w1.out
    have hk0 : w2.cell? ⟨B + 1, 0, none⟩ = some (.int .i64 0) := cell_of_block hy1 0
    have hf0 := free_of_block hy1 0
    have hg1 := block_set hy1 0 (.int .i64 0)
    have hk1 : (w2.setCell ⟨B + 1, 0, none⟩ (.int .i64 0)).cell? ⟨B + 1, 1, none⟩ = some (.int .i64 0) := cell_of_block hg1 1
    have hf1 := free_of_block hg1 1
    have HG := Lib.hid (block_set hg1 1 (.int .i64 0))
    have HBE : Hid (Below w.heap.size w ((w2.setCell ⟨B + 1, 0, none⟩ (.int .i64 0)).setCell ⟨B + 1, 1, none⟩ (.int .i64 0))) := ((below_step HB2.out hb2).setCell (p := ⟨B + 1, 0, none⟩) (by show _ ≤ B + 1; omega) _).setCell (p := ⟨B + 1, 1, none⟩) (by show _ ≤ B + 1; omega) _
    clear hg1 hb2 hy1
    go_wp2
    refine ret_c rfl HG.out rfl Try.underlying33 rfl sizeE rfl ?_
    exact ⟨rfl, HBE.out⟩
theorem impl_TableNew (pages : Int) (w : World) (hp : okI pages) : Calls Try.prog 12 #[.int .i64 pages] w (RetM (fun us => .tuple #[.agg us.toArray, .bool (pTableNew pages).2]) (eTable (pTableNew pages).1) w) := by
  obtain ⟨i0, hi, hz0, hz1, hz2⟩ := info_parts infoE
  obtain ⟨B, hs_B⟩ : ∃ B, w.heap.size = B := ⟨_, rfl⟩
  have hzo_ := hs_B
  have hx_ : (w.alloc (.cells #[.slice none 0 0] 28)).heap[B]? = some (.cells #[.slice none 0 0] 28 (0, 0)) := by rw [← hzo_]; exact heap_alloc_new w _
  have hb_ : Below w.heap.size w (w.alloc (.cells #[.slice none 0 0] 28)) := (Below.refl _ _).alloc (Nat.le_refl _) _
  have hz_ : (w.alloc (.cells #[.slice none 0 0] 28)).heap.size = B + 1 := by simp [hzo_]
  obtain ⟨w0, hw_⟩ : ∃ z, (w.alloc (.cells #[.slice none 0 0] 28)) = z := ⟨_, rfl⟩
  rw [hw_] at hx_ hb_ hz_
  have HX_w0 := Lib.hid hx_
  have HB_w0 := Lib.hid hb_
  have HW_w0 := Lib.hid hw_
  have hz_w0 := Lib.hid hz_
  clear hx_ hb_ hw_ hz_ hzo_
  have hk0 : w0.cell? ⟨B, 0, none⟩ = some (.slice none 0 0) := cell_of_block HX_w0.out 0
  have hf0 := free_of_block HX_w0.out 0
  by_cases hin : 1 ≤ pages ∧ pages ≤ 32
  · have HF : Hid (pTableNew pages = (⟨List.replicate pages.toNat ⟨0, 0⟩⟩, true)) := by show _ = _; unfold pTableNew; rw [if_pos hin]
    obtain ⟨h1, h2⟩ := hin
    obtain ⟨n, rfl⟩ := Int.eq_ofNat_of_zero_le (show 0 ≤ pages by omega)
    rw [Int.toNat_natCast] at HF
    have hn1 : n ≤ 32 := by omega
    have g1 : decide ((n : Int) < 1) = false := decide_eq_false (by omega)
    have g2 : decide ((32 : Int) < (n : Int)) = false := decide_eq_false (by omega)
    have HH1 := Lib.hid h1
    have HH2 := Lib.hid h2
    clear h1 h2
    go_enter Try.func12, Try.ntmps12
    go_wp2_with (at_make; rw [HW_w0.out]; refine wpList_make_full _ rfl _ _ 26 rfl (B + 1) 33 i0 (.agg #[.int .i64 0, .int .i64 0]) 2 Try.underlying26 hi hz0 hz1 _ _ _ _ n rfl rfl rfl rfl (by rw [hz2]; omega) (by unfold maxLen; omega) (by rw [hz_w0.out]; exact Nat.le_refl _) ?_)
    intro w1 hown hgrow
    rw [hz_w0.out] at hown ⊢
    have H0 := own_made (z := eEntry ⟨0, 0⟩) (zc := [.int .i64 0, .int .i64 0]) (k := 2) hown ⟨_, rfl, _, rfl, rfl, rfl⟩ rfl (by omega) rfl
    have hx := (hgrow.block B (by have := hz_w0.out; omega) (by simp)).trans HX_w0.out
    have hk1 : w1.cell? ⟨B, 0, none⟩ = some (.slice none 0 0) := cell_of_block hx 0
    have hf1 := free_of_block hx 0
    have HG := Lib.hid (block_set hx 0 (.slice (some ⟨B + 1, 0, none⟩) n n))
    have HE : Hid (Owned (w1.setCell ⟨B, 0, none⟩ (.slice (some ⟨B + 1, 0, none⟩) n n)) w.heap.size (eTable ⟨List.replicate n ⟨0, 0⟩⟩) [.slice (some ⟨B + 1, 0, none⟩) n n]) := by
      show Owned _ _ _ _
      rw [← List.map_replicate (f := eEntry)] at H0
      have h5 : Owned w1 (B + 1) (eTable ⟨List.replicate n ⟨0, 0⟩⟩) [.slice (some ⟨B + 1, 0, none⟩) n n] := ⟨_, H0, by simp, by simp⟩
      exact (h5.setCell (by show B < B + 1; omega) _).mono (by omega)
    have HBE : Hid (Below w.heap.size w (w1.setCell ⟨B, 0, none⟩ (.slice (some ⟨B + 1, 0, none⟩) n n))) := (HB_w0.out.grown hgrow (by have := hz_w0.out; omega) (fun _ h => by cases h)).setCell (by show _ ≤ B; omega) _
    clear H0 hown hgrow hx
    go_wp2
    refine ret_ct rfl HG.out rfl Try.underlying28 rfl sizeT rfl ?_
    rw [HF.out]
    exact ⟨[_], rfl, HE.out, HBE.out⟩
  · have HF : Hid (pTableNew pages = (⟨[]⟩, false)) := by show _ = _; unfold pTableNew; rw [if_neg hin]
    have HI := Lib.hid hin
    have HG := Lib.hid HX_w0.out
    have HBE : Hid (Below w.heap.size w w0) := HB_w0.out
    by_cases hlt : pages < 1
    · have g1 : decide (pages < 1) = true := decide_eq_true hlt
      clear hin hlt
      go_enter Try.func12, Try.ntmps12
      go_wp2
      rw [HW_w0.out]
      refine ret_ct rfl HG.out rfl Try.underlying28 rfl sizeT rfl ?_
      rw [HF.out]
      exact ⟨[_], rfl, ⟨[], ⟨_, [], [], [], rfl, rfl, ⟨rfl, rfl⟩, Or.inl ⟨⟨none, rfl⟩, rfl, rfl, rfl⟩⟩, by simp, by simp⟩, HBE.out⟩
    · have g1 : decide (pages < 1) = false := decide_eq_false hlt
      have g2 : decide ((32 : Int) < pages) = true := decide_eq_true (by omega)
      clear hin hlt
      go_enter Try.func12, Try.ntmps12
      go_wp2
      rw [HW_w0.out]
      refine ret_ct rfl HG.out rfl Try.underlying28 rfl sizeT rfl ?_
      rw [HF.out]
      exact ⟨[_], rfl, ⟨[], ⟨_, [], [], [], rfl, rfl, ⟨rfl, rfl⟩, Or.inl ⟨⟨none, rfl⟩, rfl, rfl, rfl⟩⟩, by simp, by simp⟩, HBE.out⟩
theorem impl_PagesOn (t : GTable) (c0 : Value) (frame : Int) (w : World) (h : Rd w (eTable t) [c0]) (hs : (eTable t).sz ≤ 1048576) (hp : okI frame) : Calls Try.prog 14 #[.agg #[c0], .int .i64 frame] w (RetM (fun us => us.headD undef) (eIntS (pPagesOn t frame)) w) := by
  obtain ⟨bs, h⟩ := h
  have hl := sz_len (T := 33) (k := 2) (E := eEntry) (l := t.Entries) hs
  obtain ⟨A, n, cap, rfl, hn, _, _, hA⟩ := read_rowD (T := 33) (E := eEntry) (k := 2) h (fun _ => rfl)
  obtain ⟨i0, hi, hz0, hz1, hz2⟩ := info_parts infoI
  obtain ⟨B, hs_B⟩ : ∃ B, w.heap.size = B := ⟨_, rfl⟩
  have hzo_ := hs_B
  have hx_ : (w.alloc (.cells #[.slice A n cap] 28)).heap[B]? = some (.cells #[.slice A n cap] 28 (0, 0)) := by rw [← hzo_]; exact heap_alloc_new w _
  have hb_ : Below w.heap.size w (w.alloc (.cells #[.slice A n cap] 28)) := (Below.refl _ _).alloc (Nat.le_refl _) _
  have hz_ : (w.alloc (.cells #[.slice A n cap] 28)).heap.size = B + 1 := by simp [hzo_]
  obtain ⟨w1, hw_⟩ : ∃ z, (w.alloc (.cells #[.slice A n cap] 28)) = z := ⟨_, rfl⟩
  rw [hw_] at hx_ hb_ hz_
  have HX_w1 := Lib.hid hx_
  have HB_w1 := Lib.hid hb_
  have HW_w1 := Lib.hid hw_
  have hz_w1 := Lib.hid hz_
  clear hx_ hb_ hw_ hz_ hzo_
  have hc0 : w1.cell? ⟨B, 0, none⟩ = some (.slice A n cap) := cell_of_block HX_w1.out 0
  have hown : w1.ownsRow (B + 1) 3 1 (.slice none 0 0) 0 [] := ⟨by simp, .inl ⟨rfl, rfl⟩⟩
  have HO1 := Lib.hid hown
  have hn' : n ≤ 1048576 := by omega
  have HN := Lib.hid hn
  have HA := Lib.hid hA
  have hlen : ∀ k, (onFrame frame 0 (t.Entries.take k)).length ≤ n := fun k => by
    have h1 := onFrame_len frame 0 (t.Entries.take k)
    rw [List.length_take] at h1
    omega
  have HLEN := Lib.hid hlen
  have hz1' := hz_w1.out
  clear h hs hn hl hp hown hA hlen
  go_enter Try.func14, Try.ntmps14
  go_wp2_with fail
  rw [HW_w1.out]
  go_loopw [5, 11] (fun u i wr => ∃ k q : Nat, k ≤ n ∧ q ≤ n ∧ i = .int .i64 k ∧ Hid ((onFrame frame 0 (t.Entries.take k)).length = q) ∧ Hid (wr.ownsRow (B + 1) 3 1 u q ((onFrame frame 0 (t.Entries.take k)).map (Value.int .i64))) ∧ Hid (Below (B + 1) w1 wr)) (fun _ i _ => n - (intOf i).toNat)
  case atStart => exact ⟨0, 0, Nat.zero_le _, Nat.zero_le _, rfl, by show _ = _; simp [onFrame], by show World.ownsRow _ _ _ _ _ _ _; simpa [onFrame] using HO1.out, Below.refl _ _⟩
  case round =>
    clear HO1
    obtain ⟨k, q, hk, hq, rfl, HQ, HO, HBL⟩ := hrel
    by_cases hlt : (k : Int) < n
    · have hk0 : (0 : Int) ≤ k := by omega
      obtain ⟨g, o, x, us, b, rfl, hx, hus, hc, ho, hbb⟩ := HA.out k (by omega)
      obtain rfl := inv_Entry ho
      have hge : ∀ j, (w.cell? ⟨g, o + k * 2 + j, none⟩).isSome → g < B := fun j hj => by
        obtain ⟨v, hv⟩ := Option.isSome_iff_exists.1 hj
        have := World.block_lt_of_cell? w _ hv
        have h2 : g < w.heap.size := this
        omega
      have hgB : g < B := hge 0 (by rw [hc 0 (by omega)]; rfl)
      have hcc : ∀ (j : Nat) (v : Value), w.cell? ⟨g, o + k * 2 + j, none⟩ = some v → wr.cell? ⟨g, o + k * 2 + j, none⟩ = some v := fun j v hv => (HBL.out.cell (p := ⟨g, o + k * 2 + j, none⟩) (by show g < B + 1; omega)).trans (cell_below HB_w1.out hv)
      have hc1 : wr.cell? ⟨g, o + k * 2, none⟩ = some (.int .i64 x.Mode) := hcc 0 _ (hc 0 (by omega))
      have hc2 : wr.cell? ⟨g, o + k * 2 + 1, none⟩ = some (.int .i64 x.Frame) := hcc 1 _ (hc 1 (by omega))
      have hst := onFrame_take frame t.Entries k x hx
      have hlk := HLEN.out (k + 1)
      have hsz1 : B + 1 ≤ wr.heap.size := by have := HBL.out.size; omega
      obtain ⟨C, hs_C⟩ : ∃ B, wr.heap.size = B := ⟨_, rfl⟩
      have hzo_ := hs_C
      have hx_ : (wr.alloc (.cells #[.int .i64 x.Mode, .int .i64 x.Frame] 33)).heap[C]? = some (.cells #[.int .i64 x.Mode, .int .i64 x.Frame] 33 (0, 0)) := by rw [← hzo_]; exact heap_alloc_new wr _
      have hb_ : Below wr.heap.size wr (wr.alloc (.cells #[.int .i64 x.Mode, .int .i64 x.Frame] 33)) := (Below.refl _ _).alloc (Nat.le_refl _) _
      have hz_ : (wr.alloc (.cells #[.int .i64 x.Mode, .int .i64 x.Frame] 33)).heap.size = C + 1 := by simp [hzo_]
      obtain ⟨wx, hw_⟩ : ∃ z, (wr.alloc (.cells #[.int .i64 x.Mode, .int .i64 x.Frame] 33)) = z := ⟨_, rfl⟩
      rw [hw_] at hx_ hb_ hz_
      have HX_wx := Lib.hid hx_
      have HB_wx := Lib.hid hb_
      have HW_wx := Lib.hid hw_
      have hz_wx := Lib.hid hz_
      clear hx_ hb_ hw_ hz_ hzo_
      have HC := Lib.hid (impl_isMapped x.Mode x.Frame wx)
      have HBX := Lib.hid (HBL.out.trans (HB_wx.out.mono (by omega)))
      have HOX : Hid (∀ w2, Below wx.heap.size wx w2 → w2.ownsRow (B + 1) 3 1 u5 q ((onFrame frame 0 (t.Entries.take k)).map (Value.int .i64))) := fun w2 hb => row_below (row_below HO.out HB_wx.out) hb
      clear hcc hge hbb hc ho hus
      by_cases hyes : x.Mode ≠ 0 ∧ x.Frame = frame
      · rw [if_pos hyes] at hst
        have hm : (x.Mode != 0) = true := by rw [bne_iff_ne]; exact hyes.1
        have hf : (x.Frame == frame) = true := by rw [beq_iff_eq]; exact hyes.2
        rw [hst, List.length_append, HQ.out] at hlk
        have hlk' : q + 1 ≤ n := hlk
        have HST := Lib.hid hst
        rw [hm] at HC
        clear hst hlk hx hyes hm
        generalize x.Mode = md at *
        generalize x.Frame = fr at *
        go_wp2_with fail
        rw [HW_wx.out]
        refine HC.out.mono ?_
        rintro e w2 ⟨rfl, hb2⟩
        have hd1 : w2.cell? ⟨C, 1, none⟩ = some (.int .i64 fr) := cell_below hb2 (cell_of_block HX_wx.out 1)
        have HO2 := Lib.hid (HOX.out w2 hb2)
        have HB2 := Lib.hid (HBX.out.trans (hb2.mono (by have := hz_wx.out; omega)))
        have hsz2 : B + 1 ≤ w2.heap.size := by have := HB2.out.size; omega
        clear hb2
        go_wp2_with (at_builtin; refine wpList_append_own _ rfl (.tmp 24) (.tmp 26) 24 rfl (B + 1) 3 i0 (.int .i64 0) 1 8 Try.underlying24 hi hz0 hz1 hz2 rfl (by decide) u5 q _ rfl (HO2.out.alloc _) ⟨w2.heap.size, 0, none⟩ 1 1 [_] rfl rfl (World.news_of_block (cs := #[_]) (heap_alloc_new w2 _)) (by simp [Value.oneCell']) (by unfold maxLen; omega) (by omega) (by simp; omega) ?_)
        intro v2 w3 ho2 hg2 _
        have HO3 : Hid (w3.ownsRow (B + 1) 3 1 v2 (q + 1) ((onFrame frame 0 (t.Entries.take (k + 1))).map (Value.int .i64))) := by
          show World.ownsRow _ _ _ _ _ _ _
          rw [HST.out, List.map_append]; exact ho2
        have HQ2 : Hid ((onFrame frame 0 (t.Entries.take (k + 1))).length = q + 1) := by show _ = _; rw [HST.out, List.length_append, HQ.out]; rfl
        have HB3 := Lib.hid ((HB2.out.alloc hsz2 _).grown hg2 (by simp; omega) (fun y hy => (HO2.out.lt y hy).1))
        clear ho2 hg2
        go_wp2
        go_roundw
        case rel => exact ⟨k + 1, q + 1, by omega, by omega, by go_num, HQ2.out, HO3.out, HB3.out⟩
        case measure => simp [intOf]; omega
      · rw [if_neg hyes, List.append_nil] at hst
        have HST := Lib.hid hst
        have HQ2 : Hid ((onFrame frame 0 (t.Entries.take (k + 1))).length = q) := by show _ = _; rw [hst]; exact HQ.out
        clear hst hlk hx
        generalize x.Mode = md at *
        generalize x.Frame = fr at *
        by_cases h0 : md = 0
        · have hm : (md != 0) = false := by rw [h0]; rfl
          rw [hm] at HC
          clear hyes hm h0
          go_wp2_with fail
          rw [HW_wx.out]
          refine HC.out.mono ?_
          rintro e w2 ⟨rfl, hb2⟩
          have HO2 := Lib.hid (HOX.out w2 hb2)
          rw [← HST.out] at HO2
          have HB2 := Lib.hid (HBX.out.trans (hb2.mono (by have := hz_wx.out; omega)))
          clear hb2
          go_wp2
          go_roundw
          case rel => exact ⟨k + 1, q, by omega, by omega, by go_num, HQ2.out, HO2.out, HB2.out⟩
          case measure => simp [intOf]; omega
        · have hm : (md != 0) = true := by rw [bne_iff_ne]; exact h0
          have hf : (fr == frame) = false := by rw [beq_eq_false_iff_ne]; exact fun hh => hyes ⟨h0, hh⟩
          rw [hm] at HC
          clear hyes h0 hm
          go_wp2_with fail
          rw [HW_wx.out]
          refine HC.out.mono ?_
          rintro e w2 ⟨rfl, hb2⟩
          have hd1 : w2.cell? ⟨C, 1, none⟩ = some (.int .i64 fr) := cell_below hb2 (cell_of_block HX_wx.out 1)
          have HO2 := Lib.hid (HOX.out w2 hb2)
          rw [← HST.out] at HO2
          have HB2 := Lib.hid (HBX.out.trans (hb2.mono (by have := hz_wx.out; omega)))
          clear hb2
          go_wp2
          go_roundw
          case rel => exact ⟨k + 1, q, by omega, by omega, by go_num, HQ2.out, HO2.out, HB2.out⟩
          case measure => simp [intOf]; omega
    · obtain rfl : k = n := by omega
      have HF : Hid (Owned wr w.heap.size (eIntS (pPagesOn t frame)) [u5]) := by
        show Owned _ _ _ _
        have h1 := HO.out
        have h2 := HQ.out
        rw [HN.out, List.take_length] at h1 h2
        exact (ints_owned h1 h2).mono (by omega)
      have HBF : Hid (Below w.heap.size w wr) := HB_w1.out.trans (HBL.out.mono (by omega))
      go_wp2
      go_ret
      exact ⟨[_], rfl, HF.out, HBF.out⟩
end Tr
end Go.Proofs.Ytbfdopnbclkfcaa

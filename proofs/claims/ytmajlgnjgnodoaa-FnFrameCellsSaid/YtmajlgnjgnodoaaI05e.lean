/- Physical frames: the program's functions that write. -/
import Derived.Test.YtmajlgnjgnodoaaI05c
import Derived.Test.YtmajlgnjgnodoaaI05d
namespace Go.Proofs.Ytmajlgnjgnodoaa
open Go.RowKit
set_option linter.unusedVariables false
namespace Tr
theorem impl_FrameTake (f : GFrames) (c0 c1 : Value) (w : World) (h : Rd w (eFrames f) [c0, c1]) (hs : (eFrames f).sz ≤ 1048576) : Calls Try.prog 15 #[.agg #[c0, c1]] w (RetM (fun us => .tuple #[.agg us.toArray, .int .i64 (pFrameTake f).2.1, .bool (pFrameTake f).2.2]) (eFrames (pFrameTake f).1) w) := by
  have HRD := Lib.hid h
  have HSZ := Lib.hid hs
  have hszF := hs
  obtain ⟨bs, h⟩ := h
  obtain ⟨A, n, cap, A2, n2, cap2, e⟩ := sinv_Frames h
  obtain ⟨rfl, rfl⟩ : c0 = .slice A n cap ∧ c1 = .slice A2 n2 cap2 := by simpa using e
  obtain ⟨B, hs_B⟩ : ∃ B, w.heap.size = B := ⟨_, rfl⟩
  have hzo_ := hs_B
  have hx_ : (w.alloc (.cells #[.slice A n cap, .slice A2 n2 cap2] 27)).heap[B]? = some (.cells #[.slice A n cap, .slice A2 n2 cap2] 27 (0, 0)) := by rw [← hzo_]; exact heap_alloc_new w _
  have hb_ : Below w.heap.size w (w.alloc (.cells #[.slice A n cap, .slice A2 n2 cap2] 27)) := (Below.refl _ _).alloc (Nat.le_refl _) _
  have hz_ : (w.alloc (.cells #[.slice A n cap, .slice A2 n2 cap2] 27)).heap.size = B + 1 := by simp [hzo_]
  obtain ⟨w0, hw_⟩ : ∃ z, (w.alloc (.cells #[.slice A n cap, .slice A2 n2 cap2] 27)) = z := ⟨_, rfl⟩
  rw [hw_] at hx_ hb_ hz_
  have HX_w0 := Lib.hid hx_
  have HB_w0 := Lib.hid hb_
  have HW_w0 := Lib.hid hw_
  have hz_w0 := Lib.hid hz_
  clear hx_ hb_ hw_ hz_ hzo_
  have hzo_ := hz_w0.out
  have hx_ : (w0.alloc (.cells #[.slice none 0 0, .slice none 0 0] 27)).heap[B + 1]? = some (.cells #[.slice none 0 0, .slice none 0 0] 27 (0, 0)) := by rw [← hzo_]; exact heap_alloc_new w0 _
  have hb_ : Below w0.heap.size w0 (w0.alloc (.cells #[.slice none 0 0, .slice none 0 0] 27)) := (Below.refl _ _).alloc (Nat.le_refl _) _
  have hz_ : (w0.alloc (.cells #[.slice none 0 0, .slice none 0 0] 27)).heap.size = B + 1 + 1 := by simp [hzo_]
  obtain ⟨w1, hw_⟩ : ∃ z, (w0.alloc (.cells #[.slice none 0 0, .slice none 0 0] 27)) = z := ⟨_, rfl⟩
  rw [hw_] at hx_ hb_ hz_
  have HX_w1 := Lib.hid hx_
  have HB_w1 := Lib.hid hb_
  have HW_w1 := Lib.hid hw_
  have hz_w1 := Lib.hid hz_
  clear hx_ hb_ hw_ hz_ hzo_
  have HB1 := Lib.hid (below_step HB_w0.out HB_w1.out)
  have HX0 := Lib.hid ((HB_w1.out.block _ (by have := hz_w0.out; omega)).trans HX_w0.out)
  have HC : Hid (∀ w', Below w.heap.size w w' → Calls Try.prog 38 #[.agg #[.slice A n cap, .slice A2 n2 cap2]] w' (RetM (fun us => .agg us.toArray) (eFrames f) w')) := fun w' hb => impl_copyFrames f _ _ w' (HRD.out.below hb) HSZ.out
  have HOK : Hid (∀ w', Below w.heap.size w w' → Calls Try.prog 20 #[.agg #[.slice A n cap, .slice A2 n2 cap2]] w' (RetP (.bool (decide (okF f))) w')) := fun w' hb => impl_FramesOk f _ _ w' (HRD.out.below hb) HSZ.out
  clear h hs e HRD HSZ
  go_enter Try.func15, Try.ntmps15
  go_wp2_with fail
  rw [HW_w0.out, HW_w1.out]
  refine (HC.out _ HB1.out).mono ?_
  rintro e' w2 ⟨us, rfl, hown2, hb2⟩
  have hsh := hown2
  obtain ⟨bs2, hsh, _⟩ := hsh
  obtain ⟨A3, n3, cap3, A4, n4, cap4, rfl⟩ := sinv_Frames hsh
  have hn4 : n4 = f.Used.length := by
    obtain ⟨_, _, _, _, k1⟩ := parts_Frames hsh
    rw [(own_cells k1 (len_map (E := eB) (k := 1) (fun _ => rfl))).1, List.length_map]
  have HN4 := Lib.hid hn4
  have hn4s : n4 ≤ 1048576 := by
    have h1 := sz_len (T := 4) (k := 1) (E := eB) (l := f.Used) (n := 1048576) (by have h2 := hszF; rw [sz_Frames] at h2; show (eBoolS f.Used).sz ≤ _; omega)
    omega
  obtain ⟨bU, hU2⟩ : ∃ bU, Own w2 (eBoolS f.Used) [.slice A4 n4 cap4] bU := by
    obtain ⟨_, b1', _, _, k1⟩ := parts_Frames hsh
    exact ⟨b1', k1⟩
  have HU2 := Lib.hid hU2
  clear hsh hn4 hU2 hszF
  obtain ⟨C, hs_C⟩ : ∃ B, w2.heap.size = B := ⟨_, rfl⟩
  have hzo_ := hs_C
  have hx_ : (w2.alloc (.cells #[.slice A3 n3 cap3, .slice A4 n4 cap4] 27)).heap[C]? = some (.cells #[.slice A3 n3 cap3, .slice A4 n4 cap4] 27 (0, 0)) := by rw [← hzo_]; exact heap_alloc_new w2 _
  have hb_ : Below w2.heap.size w2 (w2.alloc (.cells #[.slice A3 n3 cap3, .slice A4 n4 cap4] 27)) := (Below.refl _ _).alloc (Nat.le_refl _) _
  have hz_ : (w2.alloc (.cells #[.slice A3 n3 cap3, .slice A4 n4 cap4] 27)).heap.size = C + 1 := by simp [hzo_]
  obtain ⟨w3, hw_⟩ : ∃ z, (w2.alloc (.cells #[.slice A3 n3 cap3, .slice A4 n4 cap4] 27)) = z := ⟨_, rfl⟩
  rw [hw_] at hx_ hb_ hz_
  have HX_w3 := Lib.hid hx_
  have HB_w3 := Lib.hid hb_
  have HW_w3 := Lib.hid hw_
  have hz_w3 := Lib.hid hz_
  clear hx_ hb_ hw_ hz_ hzo_
  have hz1 := hz_w1.out
  have HB13 := Lib.hid (below_step hb2 HB_w3.out)
  have HB3 := Lib.hid (below_step HB1.out HB13.out)
  have hC : B + 1 + 1 ≤ C := by have := hb2.size; omega
  have HO3 := Lib.hid (hown2.below HB_w3.out)
  have HFR := Lib.hid (impl_Index f.Used A4 n4 cap4 bU w3 (own_below HU2.out HB_w3.out (own_lt _ HU2.out)) hn4s)
  have hcC1 : w3.cell? ⟨C, 1, none⟩ = some (.slice A4 n4 cap4) := cell_of_block HX_w3.out 1
  have HY0 := Lib.hid ((HB13.out.block B (by omega)).trans HX0.out)
  have HY1 := Lib.hid ((HB13.out.block (B + 1) (by omega)).trans HX_w1.out)
  rw [hz1] at HO3
  have hcB : w3.cell? ⟨B, 0, none⟩ = some (.slice A n cap) := cell_of_block HY0.out 0
  have hcB1 : w3.cell? ⟨B, 1, none⟩ = some (.slice A2 n2 cap2) := cell_of_block HY0.out 1
  have hcb : w2.cell? ⟨B, 0, none⟩ = some (.slice A n cap) := cell_of_block ((hb2.block B (by omega)).trans HX0.out) 0
  have hcb1 : w2.cell? ⟨B, 1, none⟩ = some (.slice A2 n2 cap2) := cell_of_block ((hb2.block B (by omega)).trans HX0.out) 1
  have hBC : B < C := by omega
  have hBC1 : B + 1 < C := by omega
  clear hown2 hb2 hz1
  go_wp2_with fail
  rw [HW_w3.out]
  refine HFR.out.mono ?_
  rintro e' w4 ⟨rfl, hw34⟩
  have hb4 : Below w3.heap.size w3 w4 := by rw [← hw34]; exact Below.refl _ _
  clear hw34
  rw [show freeAt 0 f.Used = pFree f from rfl]
  have hd0 : w4.cell? ⟨B, 0, none⟩ = some (.slice A n cap) := cell_below hb4 hcB
  have hd1 : w4.cell? ⟨B, 1, none⟩ = some (.slice A2 n2 cap2) := cell_below hb4 hcB1
  have HB34 := Lib.hid hb4
  have HB4 := Lib.hid (below_step HB3.out hb4)
  clear hb4
  go_wp2_with fail
  refine (HOK.out _ HB4.out).mono ?_
  rintro e' w5 ⟨rfl, hb5⟩
  have HB35 := Lib.hid (below_step HB34.out hb5)
  have HB5 := Lib.hid (below_step HB4.out hb5)
  clear hb5
  have hs3 := hz_w3.out
  have HZ1 := Lib.hid ((HB35.out.block (B + 1) (by omega)).trans HY1.out)
  have HZC := Lib.hid ((HB35.out.block C (by omega)).trans HX_w3.out)
  have HO5 := Lib.hid (HO3.out.below HB35.out)
  have hk0 : w5.cell? ⟨C, 0, none⟩ = some (.slice A3 n3 cap3) := cell_of_block HZC.out 0
  have hk1 : w5.cell? ⟨C, 1, none⟩ = some (.slice A4 n4 cap4) := cell_of_block HZC.out 1
  clear hs3
  by_cases hin : okF f ∧ 0 ≤ pFree f
  · have hlt := freeAt_lt 0 f.Used hin.2
    obtain ⟨i, hi⟩ := Int.eq_ofNat_of_zero_le hin.2
    have HF : Hid (pFrameTake f = (⟨f.Cells, f.Used.set i true⟩, (i : Int), true)) := by
      show _ = _
      unfold pFrameTake
      rw [if_pos hin, hi, Int.toNat_natCast]
    have hd : decide (okF f) = true := decide_eq_true hin.1
    have hin4 : i < n4 := by
      have h1 := HN4.out
      have h2 : pFree f < ((0 : Nat) : Int) + f.Used.length := hlt
      omega
    rw [hd, hi]
    obtain ⟨g, o, cur, u, e1, hgB, hg, hu, hset⟩ := fr_used HO5.out hin4 true
    subst e1
    have hgC : g ≠ C := by
      intro hh
      have h1 := HZC.out
      rw [hh] at hg
      rw [hg] at h1
      have := (Option.some.inj h1)
      simp at this
    have hgl := lt_of_block hg
    have hku : w5.cell? ⟨g, o + i, none⟩ = some u := (cell_of_block hg (o + i)).trans hu
    have hfu := free_of_block hg (o + i)
    have hown6 := hset _ (block_set hg (o + i) (.bool true)) (fun y hy => Below.heap_setCell _ _ _ _ hy)
    have hx6 := (Below.heap_setCell w5 ⟨g, o + i, none⟩ (.bool true) (B + 1) (by show B + 1 ≠ g; omega)).trans HZ1.out
    have hxC := (Below.heap_setCell w5 ⟨g, o + i, none⟩ (.bool true) C (by show C ≠ g; omega)).trans HZC.out
    have hk06 : (w5.setCell ⟨g, o + i, none⟩ (.bool true)).cell? ⟨C, 0, none⟩ = some (.slice A3 n3 cap3) := cell_of_block hxC 0
    have hk16 : (w5.setCell ⟨g, o + i, none⟩ (.bool true)).cell? ⟨C, 1, none⟩ = some (.slice (some ⟨g, o, none⟩) n4 cap4) := cell_of_block hxC 1
    have hb6 : Below w.heap.size w (w5.setCell ⟨g, o + i, none⟩ (.bool true)) := HB5.out.setCell (p := ⟨g, o + i, none⟩) (by show _ ≤ g; omega) _
    obtain ⟨r0, r1, r2, r3, HG, HE, HBE⟩ := fr_ret (by omega) hb6 hown6 (by omega) hx6
    have hi0 : (0 : Int) ≤ i := by omega
    have hi2 : (i : Int) < n4 := by omega
    clear hd hi hin hset hg hu hown6 hx6 hxC hb6 hlt
    go_wp2
    refine ret_ctt rfl HG.out rfl Try.underlying27 rfl sizeF rfl ?_
    rw [HF.out]; exact ⟨[_, _], rfl, HE.out, HBE.out⟩
  · have HF : Hid (pFrameTake f = (f, -1, false)) := by show _ = _; unfold pFrameTake; rw [if_neg hin]
    obtain ⟨r0, r1, r2, r3, HG, HE, HBE⟩ := fr_ret (by omega) HB5.out HO5.out (by omega) HZ1.out
    by_cases hok : okF f
    · have hd : decide (okF f) = true := decide_eq_true hok
      obtain ⟨z, hz⟩ : ∃ z, pFree f = z := ⟨_, rfl⟩
      have hz0 : z < 0 := by
        have : ¬ 0 ≤ z := fun h => hin ⟨hok, by rw [hz]; exact h⟩
        omega
      rw [hd, hz]
      clear hd hok hin hz
      go_wp2
      refine ret_ctt rfl HG.out rfl Try.underlying27 rfl sizeF rfl ?_
      rw [HF.out]; exact ⟨[_, _], rfl, HE.out, HBE.out⟩
    · have hd : decide (okF f) = false := decide_eq_false hok
      rw [hd]
      clear hd hok hin
      go_wp2
      refine ret_ctt rfl HG.out rfl Try.underlying27 rfl sizeF rfl ?_
      rw [HF.out]; exact ⟨[_, _], rfl, HE.out, HBE.out⟩
theorem impl_FrameWrite (f : GFrames) (c0 c1 : Value) (i at_ v : Int) (w : World) (h : Rd w (eFrames f) [c0, c1]) (hs : (eFrames f).sz ≤ 1048576) (hi : okI i) (ha : okI at_) (hv : okI v) : Calls Try.prog 23 #[.agg #[c0, c1], .int .i64 i, .int .i64 at_, .int .i64 v] w (RetM (fun us => .tuple #[.agg us.toArray, .bool (pFrameWrite f i at_ v).2]) (eFrames (pFrameWrite f i at_ v).1) w) := by
  have HRD := Lib.hid h
  have HSZ := Lib.hid hs
  obtain ⟨bs, h⟩ := h
  obtain ⟨A, n, cap, A2, n2, cap2, e⟩ := sinv_Frames h
  obtain ⟨rfl, rfl⟩ : c0 = .slice A n cap ∧ c1 = .slice A2 n2 cap2 := by simpa using e
  obtain ⟨B, hs_B⟩ : ∃ B, w.heap.size = B := ⟨_, rfl⟩
  have hzo_ := hs_B
  have hx_ : (w.alloc (.cells #[.slice A n cap, .slice A2 n2 cap2] 27)).heap[B]? = some (.cells #[.slice A n cap, .slice A2 n2 cap2] 27 (0, 0)) := by rw [← hzo_]; exact heap_alloc_new w _
  have hb_ : Below w.heap.size w (w.alloc (.cells #[.slice A n cap, .slice A2 n2 cap2] 27)) := (Below.refl _ _).alloc (Nat.le_refl _) _
  have hz_ : (w.alloc (.cells #[.slice A n cap, .slice A2 n2 cap2] 27)).heap.size = B + 1 := by simp [hzo_]
  obtain ⟨w0, hw_⟩ : ∃ z, (w.alloc (.cells #[.slice A n cap, .slice A2 n2 cap2] 27)) = z := ⟨_, rfl⟩
  rw [hw_] at hx_ hb_ hz_
  have HX_w0 := Lib.hid hx_
  have HB_w0 := Lib.hid hb_
  have HW_w0 := Lib.hid hw_
  have hz_w0 := Lib.hid hz_
  clear hx_ hb_ hw_ hz_ hzo_
  have hzo_ := hz_w0.out
  have hx_ : (w0.alloc (.cells #[.slice none 0 0, .slice none 0 0] 27)).heap[B + 1]? = some (.cells #[.slice none 0 0, .slice none 0 0] 27 (0, 0)) := by rw [← hzo_]; exact heap_alloc_new w0 _
  have hb_ : Below w0.heap.size w0 (w0.alloc (.cells #[.slice none 0 0, .slice none 0 0] 27)) := (Below.refl _ _).alloc (Nat.le_refl _) _
  have hz_ : (w0.alloc (.cells #[.slice none 0 0, .slice none 0 0] 27)).heap.size = B + 1 + 1 := by simp [hzo_]
  obtain ⟨w1, hw_⟩ : ∃ z, (w0.alloc (.cells #[.slice none 0 0, .slice none 0 0] 27)) = z := ⟨_, rfl⟩
  rw [hw_] at hx_ hb_ hz_
  have HX_w1 := Lib.hid hx_
  have HB_w1 := Lib.hid hb_
  have HW_w1 := Lib.hid hw_
  have hz_w1 := Lib.hid hz_
  clear hx_ hb_ hw_ hz_ hzo_
  have HB1 := Lib.hid (below_step HB_w0.out HB_w1.out)
  have HX0 := Lib.hid ((HB_w1.out.block _ (by have := hz_w0.out; omega)).trans HX_w0.out)
  have HC : Hid (∀ w', Below w.heap.size w w' → Calls Try.prog 38 #[.agg #[.slice A n cap, .slice A2 n2 cap2]] w' (RetM (fun us => .agg us.toArray) (eFrames f) w')) := fun w' hb => impl_copyFrames f _ _ w' (HRD.out.below hb) HSZ.out
  have HIS : Hid (∀ w', Below w.heap.size w w' → Calls Try.prog 40 #[.agg #[.slice A n cap, .slice A2 n2 cap2], .int .i64 i] w' (RetP (.bool (decide (isUsed f i))) w')) := fun w' hb => impl_frameUsed f _ _ i w' (HRD.out.below hb) HSZ.out
  clear h hs e HRD HSZ hi ha hv
  go_enter Try.func23, Try.ntmps23
  go_wp2_with fail
  rw [HW_w0.out, HW_w1.out]
  refine (HC.out _ HB1.out).mono ?_
  rintro e' w2 ⟨us, rfl, hown2, hb2⟩
  have hsh := hown2
  obtain ⟨bs2, hsh, _⟩ := hsh
  obtain ⟨A3, n3, cap3, A4, n4, cap4, rfl⟩ := sinv_Frames hsh
  have hn : n3 = f.Cells.length ∧ n4 = f.Used.length := by
    obtain ⟨_, _, _, k0, k1⟩ := parts_Frames hsh
    rw [(own_cells k1 (len_map (E := eB) (k := 1) (fun _ => rfl))).1, (own_cells k0 (len_map (E := eIntS) (k := 1) (fun _ => rfl))).1, List.length_map, List.length_map]
    exact ⟨rfl, rfl⟩
  have HN3 := Lib.hid hn.1
  have HN4 := Lib.hid hn.2
  clear hsh hn
  obtain ⟨C, hs_C⟩ : ∃ B, w2.heap.size = B := ⟨_, rfl⟩
  have hzo_ := hs_C
  have hx_ : (w2.alloc (.cells #[.slice A3 n3 cap3, .slice A4 n4 cap4] 27)).heap[C]? = some (.cells #[.slice A3 n3 cap3, .slice A4 n4 cap4] 27 (0, 0)) := by rw [← hzo_]; exact heap_alloc_new w2 _
  have hb_ : Below w2.heap.size w2 (w2.alloc (.cells #[.slice A3 n3 cap3, .slice A4 n4 cap4] 27)) := (Below.refl _ _).alloc (Nat.le_refl _) _
  have hz_ : (w2.alloc (.cells #[.slice A3 n3 cap3, .slice A4 n4 cap4] 27)).heap.size = C + 1 := by simp [hzo_]
  obtain ⟨w3, hw_⟩ : ∃ z, (w2.alloc (.cells #[.slice A3 n3 cap3, .slice A4 n4 cap4] 27)) = z := ⟨_, rfl⟩
  rw [hw_] at hx_ hb_ hz_
  have HX_w3 := Lib.hid hx_
  have HB_w3 := Lib.hid hb_
  have HW_w3 := Lib.hid hw_
  have hz_w3 := Lib.hid hz_
  clear hx_ hb_ hw_ hz_ hzo_
  have hz1 := hz_w1.out
  have HB13 := Lib.hid (below_step hb2 HB_w3.out)
  have HB3 := Lib.hid (below_step HB1.out HB13.out)
  have hC : B + 1 + 1 ≤ C := by have := hb2.size; omega
  have HO3 := Lib.hid (hown2.below HB_w3.out)
  have HY0 := Lib.hid ((HB13.out.block B (by omega)).trans HX0.out)
  have HY1 := Lib.hid ((HB13.out.block (B + 1) (by omega)).trans HX_w1.out)
  rw [hz1] at HO3
  have hcB : w3.cell? ⟨B, 0, none⟩ = some (.slice A n cap) := cell_of_block HY0.out 0
  have hcB1 : w3.cell? ⟨B, 1, none⟩ = some (.slice A2 n2 cap2) := cell_of_block HY0.out 1
  have hcb : w2.cell? ⟨B, 0, none⟩ = some (.slice A n cap) := cell_of_block ((hb2.block B (by omega)).trans HX0.out) 0
  have hcb1 : w2.cell? ⟨B, 1, none⟩ = some (.slice A2 n2 cap2) := cell_of_block ((hb2.block B (by omega)).trans HX0.out) 1
  have hBC : B < C := by omega
  have hBC1 : B + 1 < C := by omega
  clear hown2 hb2 hz1
  go_wp2_with fail
  rw [HW_w3.out]
  refine (HIS.out _ HB3.out).mono ?_
  rintro e' w5 ⟨rfl, hb5⟩
  have HB35 := Lib.hid hb5
  have HB5 := Lib.hid (below_step HB3.out hb5)
  clear hb5
  have hs3 := hz_w3.out
  have HZ1 := Lib.hid ((HB35.out.block (B + 1) (by omega)).trans HY1.out)
  have HZC := Lib.hid ((HB35.out.block C (by omega)).trans HX_w3.out)
  have HO5 := Lib.hid (HO3.out.below HB35.out)
  have hk0 : w5.cell? ⟨C, 0, none⟩ = some (.slice A3 n3 cap3) := cell_of_block HZC.out 0
  have hk1 : w5.cell? ⟨C, 1, none⟩ = some (.slice A4 n4 cap4) := cell_of_block HZC.out 1
  clear hs3
  by_cases hin : isUsed f i ∧ (0 ≤ at_ ∧ at_ ≤ 15) ∧ 0 ≤ v ∧ v ≤ 999
  · obtain ⟨hu, ⟨ha0, ha1⟩, hv0, hv1⟩ := hin
    have hd : decide (isUsed f i) = true := decide_eq_true hu
    obtain ⟨j, rfl⟩ := Int.eq_ofNat_of_zero_le hu.2.1.1
    obtain ⟨k, rfl⟩ := Int.eq_ofNat_of_zero_le ha0
    have hju : j < f.Used.length := by have := hu.2.1.2; omega
    have hjc : j < f.Cells.length := by have := hu.1.2.1; omega
    obtain ⟨r, hr⟩ : ∃ r, f.Cells[j]? = some r := ⟨_, List.getElem?_eq_getElem hjc⟩
    have hr16 : r.length = 16 := (hu.1.2.2 _ (List.mem_of_getElem? (zip_at hr (List.getElem?_eq_getElem hju)))).1
    have HF : Hid (pFrameWrite f j k v = (⟨f.Cells.set j (r.set k v), f.Used⟩, true)) := by
      show _ = _
      unfold pFrameWrite
      have e1 : f.Cells.getD j [] = r := by rw [List.getD_eq_getElem?_getD, hr]; rfl
      rw [if_pos ⟨hu, ⟨ha0, ha1⟩, hv0, hv1⟩, Int.toNat_natCast, Int.toNat_natCast, e1]
    obtain ⟨g, o, g2, o2, cap5, cur2, u, e1, hrow, hgB, hg, hu2, hset⟩ := fr_cell HO5.out hr (k := k) (by omega) v
    subst e1
    rw [hr16] at hrow
    have hgC : g2 ≠ C := by
      intro hh
      have h1 := HZC.out
      rw [hh] at hg
      rw [hg] at h1
      have := (Option.some.inj h1)
      simp at this
    have hgl := lt_of_block hg
    have hku : w5.cell? ⟨g2, o2 + k, none⟩ = some u := (cell_of_block hg (o2 + k)).trans hu2
    have hfu := free_of_block hg (o2 + k)
    have hown6 := hset _ (block_set hg (o2 + k) (.int .i64 v)) (fun y hy => Below.heap_setCell _ _ _ _ hy)
    have hx6 := (Below.heap_setCell w5 ⟨g2, o2 + k, none⟩ (.int .i64 v) (B + 1) (by show B + 1 ≠ g2; omega)).trans HZ1.out
    have hxC := (Below.heap_setCell w5 ⟨g2, o2 + k, none⟩ (.int .i64 v) C (by show C ≠ g2; omega)).trans HZC.out
    have hk06 : (w5.setCell ⟨g2, o2 + k, none⟩ (.int .i64 v)).cell? ⟨C, 0, none⟩ = some (.slice (some ⟨g, o, none⟩) n3 cap3) := cell_of_block hxC 0
    have hk16 : (w5.setCell ⟨g2, o2 + k, none⟩ (.int .i64 v)).cell? ⟨C, 1, none⟩ = some (.slice A4 n4 cap4) := cell_of_block hxC 1
    have hb6 : Below w.heap.size w (w5.setCell ⟨g2, o2 + k, none⟩ (.int .i64 v)) := HB5.out.setCell (p := ⟨g2, o2 + k, none⟩) (by show _ ≤ g2; omega) _
    obtain ⟨r0, r1, r2, r3, HG, HE, HBE⟩ := fr_ret (by omega) hb6 hown6 (by omega) hx6
    have hj0 : (0 : Int) ≤ j := by omega
    have hj2 : (j : Int) < n3 := by have := HN3.out; omega
    have hk2 : (k : Int) < 16 := by omega
    rw [hd]
    clear hd hr hr16 hu hset hg hu2 hown6 hx6 hxC hb6 hju hjc
    have HD1 : Hid (decide (0 ≤ (k : Int) ∧ (k : Int) ≤ 15) = true) := decide_eq_true ⟨ha0, ha1⟩
    have HD2 : Hid (decide (0 ≤ v ∧ v ≤ 999) = true) := decide_eq_true ⟨hv0, hv1⟩
    go_wp2_with fail
    refine (impl_cell _ _).mono ?_
    rintro e w' ⟨rfl, rfl⟩
    rw [HD1.out]
    go_wp2_with fail
    refine (impl_value _ _).mono ?_
    rintro e w' ⟨rfl, rfl⟩
    rw [HD2.out]
    go_wp2
    refine ret_ct rfl HG.out rfl Try.underlying27 rfl sizeF rfl ?_
    rw [HF.out]; exact ⟨[_, _], rfl, HE.out, HBE.out⟩
  · have HF : Hid (pFrameWrite f i at_ v = (f, false)) := by show _ = _; unfold pFrameWrite; rw [if_neg hin]
    obtain ⟨r0, r1, r2, r3, HG, HE, HBE⟩ := fr_ret (by omega) HB5.out HO5.out (by omega) HZ1.out
    by_cases hu : isUsed f i
    · have hd : decide (isUsed f i) = true := decide_eq_true hu
      rw [hd]
      by_cases ha : 0 ≤ at_ ∧ at_ ≤ 15
      · have hv : ¬ (0 ≤ v ∧ v ≤ 999) := fun h => hin ⟨hu, ha, h⟩
        have HD1 : Hid (decide (0 ≤ at_ ∧ at_ ≤ 15) = true) := decide_eq_true ha
        have HD2 : Hid (decide (0 ≤ v ∧ v ≤ 999) = false) := decide_eq_false hv
        clear hd hu hin hv
        go_wp2_with fail
        refine (impl_cell _ _).mono ?_
        rintro e w' ⟨rfl, rfl⟩
        rw [HD1.out]
        go_wp2_with fail
        refine (impl_value _ _).mono ?_
        rintro e w' ⟨rfl, rfl⟩
        rw [HD2.out]
        go_wp2
        refine ret_ct rfl HG.out rfl Try.underlying27 rfl sizeF rfl ?_
        rw [HF.out]; exact ⟨[_, _], rfl, HE.out, HBE.out⟩
      · have HD1 : Hid (decide (0 ≤ at_ ∧ at_ ≤ 15) = false) := decide_eq_false ha
        clear hd hu hin ha
        go_wp2_with fail
        refine (impl_cell _ _).mono ?_
        rintro e w' ⟨rfl, rfl⟩
        rw [HD1.out]
        go_wp2
        refine ret_ct rfl HG.out rfl Try.underlying27 rfl sizeF rfl ?_
        rw [HF.out]; exact ⟨[_, _], rfl, HE.out, HBE.out⟩
    · have hd : decide (isUsed f i) = false := decide_eq_false hu
      rw [hd]
      clear hd hu hin
      go_wp2
      refine ret_ct rfl HG.out rfl Try.underlying27 rfl sizeF rfl ?_
      rw [HF.out]; exact ⟨[_, _], rfl, HE.out, HBE.out⟩
theorem impl_FrameGive (f : GFrames) (c0 c1 : Value) (i : Int) (w : World) (h : Rd w (eFrames f) [c0, c1]) (hs : (eFrames f).sz ≤ 1048576) (hi : okI i) : Calls Try.prog 18 #[.agg #[c0, c1], .int .i64 i] w (RetM (fun us => .tuple #[.agg us.toArray, .bool (pFrameGive f i).2]) (eFrames (pFrameGive f i).1) w) := by
  have HRD := Lib.hid h
  have HSZ := Lib.hid hs
  obtain ⟨bs, h⟩ := h
  obtain ⟨A, n, cap, A2, n2, cap2, e⟩ := sinv_Frames h
  obtain ⟨rfl, rfl⟩ : c0 = .slice A n cap ∧ c1 = .slice A2 n2 cap2 := by simpa using e
  obtain ⟨B, hs_B⟩ : ∃ B, w.heap.size = B := ⟨_, rfl⟩
  have hzo_ := hs_B
  have hx_ : (w.alloc (.cells #[.slice A n cap, .slice A2 n2 cap2] 27)).heap[B]? = some (.cells #[.slice A n cap, .slice A2 n2 cap2] 27 (0, 0)) := by rw [← hzo_]; exact heap_alloc_new w _
  have hb_ : Below w.heap.size w (w.alloc (.cells #[.slice A n cap, .slice A2 n2 cap2] 27)) := (Below.refl _ _).alloc (Nat.le_refl _) _
  have hz_ : (w.alloc (.cells #[.slice A n cap, .slice A2 n2 cap2] 27)).heap.size = B + 1 := by simp [hzo_]
  obtain ⟨w0, hw_⟩ : ∃ z, (w.alloc (.cells #[.slice A n cap, .slice A2 n2 cap2] 27)) = z := ⟨_, rfl⟩
  rw [hw_] at hx_ hb_ hz_
  have HX_w0 := Lib.hid hx_
  have HB_w0 := Lib.hid hb_
  have HW_w0 := Lib.hid hw_
  have hz_w0 := Lib.hid hz_
  clear hx_ hb_ hw_ hz_ hzo_
  have hzo_ := hz_w0.out
  have hx_ : (w0.alloc (.cells #[.slice none 0 0, .slice none 0 0] 27)).heap[B + 1]? = some (.cells #[.slice none 0 0, .slice none 0 0] 27 (0, 0)) := by rw [← hzo_]; exact heap_alloc_new w0 _
  have hb_ : Below w0.heap.size w0 (w0.alloc (.cells #[.slice none 0 0, .slice none 0 0] 27)) := (Below.refl _ _).alloc (Nat.le_refl _) _
  have hz_ : (w0.alloc (.cells #[.slice none 0 0, .slice none 0 0] 27)).heap.size = B + 1 + 1 := by simp [hzo_]
  obtain ⟨w1, hw_⟩ : ∃ z, (w0.alloc (.cells #[.slice none 0 0, .slice none 0 0] 27)) = z := ⟨_, rfl⟩
  rw [hw_] at hx_ hb_ hz_
  have HX_w1 := Lib.hid hx_
  have HB_w1 := Lib.hid hb_
  have HW_w1 := Lib.hid hw_
  have hz_w1 := Lib.hid hz_
  clear hx_ hb_ hw_ hz_ hzo_
  have HB1 := Lib.hid (below_step HB_w0.out HB_w1.out)
  have HX0 := Lib.hid ((HB_w1.out.block _ (by have := hz_w0.out; omega)).trans HX_w0.out)
  have HC : Hid (∀ w', Below w.heap.size w w' → Calls Try.prog 38 #[.agg #[.slice A n cap, .slice A2 n2 cap2]] w' (RetM (fun us => .agg us.toArray) (eFrames f) w')) := fun w' hb => impl_copyFrames f _ _ w' (HRD.out.below hb) HSZ.out
  have HIS : Hid (∀ w', Below w.heap.size w w' → Calls Try.prog 40 #[.agg #[.slice A n cap, .slice A2 n2 cap2], .int .i64 i] w' (RetP (.bool (decide (isUsed f i))) w')) := fun w' hb => impl_frameUsed f _ _ i w' (HRD.out.below hb) HSZ.out
  clear h hs e HRD HSZ hi
  go_enter Try.func18, Try.ntmps18
  go_wp2_with fail
  rw [HW_w0.out, HW_w1.out]
  refine (HC.out _ HB1.out).mono ?_
  rintro e' w2 ⟨us, rfl, hown2, hb2⟩
  have hsh := hown2
  obtain ⟨bs2, hsh, _⟩ := hsh
  obtain ⟨A3, n3, cap3, A4, n4, cap4, rfl⟩ := sinv_Frames hsh
  have hn : n3 = f.Cells.length ∧ n4 = f.Used.length := by
    obtain ⟨_, _, _, k0, k1⟩ := parts_Frames hsh
    rw [(own_cells k1 (len_map (E := eB) (k := 1) (fun _ => rfl))).1, (own_cells k0 (len_map (E := eIntS) (k := 1) (fun _ => rfl))).1, List.length_map, List.length_map]
    exact ⟨rfl, rfl⟩
  have HN3 := Lib.hid hn.1
  have HN4 := Lib.hid hn.2
  clear hsh hn
  obtain ⟨C, hs_C⟩ : ∃ B, w2.heap.size = B := ⟨_, rfl⟩
  have hzo_ := hs_C
  have hx_ : (w2.alloc (.cells #[.slice A3 n3 cap3, .slice A4 n4 cap4] 27)).heap[C]? = some (.cells #[.slice A3 n3 cap3, .slice A4 n4 cap4] 27 (0, 0)) := by rw [← hzo_]; exact heap_alloc_new w2 _
  have hb_ : Below w2.heap.size w2 (w2.alloc (.cells #[.slice A3 n3 cap3, .slice A4 n4 cap4] 27)) := (Below.refl _ _).alloc (Nat.le_refl _) _
  have hz_ : (w2.alloc (.cells #[.slice A3 n3 cap3, .slice A4 n4 cap4] 27)).heap.size = C + 1 := by simp [hzo_]
  obtain ⟨w3, hw_⟩ : ∃ z, (w2.alloc (.cells #[.slice A3 n3 cap3, .slice A4 n4 cap4] 27)) = z := ⟨_, rfl⟩
  rw [hw_] at hx_ hb_ hz_
  have HX_w3 := Lib.hid hx_
  have HB_w3 := Lib.hid hb_
  have HW_w3 := Lib.hid hw_
  have hz_w3 := Lib.hid hz_
  clear hx_ hb_ hw_ hz_ hzo_
  have hz1 := hz_w1.out
  have HB13 := Lib.hid (below_step hb2 HB_w3.out)
  have HB3 := Lib.hid (below_step HB1.out HB13.out)
  have hC : B + 1 + 1 ≤ C := by have := hb2.size; omega
  have HO3 := Lib.hid (hown2.below HB_w3.out)
  have HY0 := Lib.hid ((HB13.out.block B (by omega)).trans HX0.out)
  have HY1 := Lib.hid ((HB13.out.block (B + 1) (by omega)).trans HX_w1.out)
  rw [hz1] at HO3
  have hcB : w3.cell? ⟨B, 0, none⟩ = some (.slice A n cap) := cell_of_block HY0.out 0
  have hcB1 : w3.cell? ⟨B, 1, none⟩ = some (.slice A2 n2 cap2) := cell_of_block HY0.out 1
  have hcb : w2.cell? ⟨B, 0, none⟩ = some (.slice A n cap) := cell_of_block ((hb2.block B (by omega)).trans HX0.out) 0
  have hcb1 : w2.cell? ⟨B, 1, none⟩ = some (.slice A2 n2 cap2) := cell_of_block ((hb2.block B (by omega)).trans HX0.out) 1
  have hBC : B < C := by omega
  have hBC1 : B + 1 < C := by omega
  clear hown2 hb2 hz1
  go_wp2_with fail
  rw [HW_w3.out]
  refine (HIS.out _ HB3.out).mono ?_
  rintro e' w5 ⟨rfl, hb5⟩
  have HB35 := Lib.hid hb5
  have HB5 := Lib.hid (below_step HB3.out hb5)
  clear hb5
  have hs3 := hz_w3.out
  have HZ1 := Lib.hid ((HB35.out.block (B + 1) (by omega)).trans HY1.out)
  have HZC := Lib.hid ((HB35.out.block C (by omega)).trans HX_w3.out)
  have HO5 := Lib.hid (HO3.out.below HB35.out)
  have hk0 : w5.cell? ⟨C, 0, none⟩ = some (.slice A3 n3 cap3) := cell_of_block HZC.out 0
  have hk1 : w5.cell? ⟨C, 1, none⟩ = some (.slice A4 n4 cap4) := cell_of_block HZC.out 1
  clear hs3
  by_cases hu : isUsed f i
  · have hd : decide (isUsed f i) = true := decide_eq_true hu
    obtain ⟨j, rfl⟩ := Int.eq_ofNat_of_zero_le hu.2.1.1
    have hju : j < f.Used.length := by have := hu.2.1.2; omega
    have hjc : j < f.Cells.length := by have := hu.1.2.1; omega
    have HF : Hid (pFrameGive f j = (⟨f.Cells.set j (List.replicate 16 0), f.Used.set j false⟩, true)) := by
      show _ = _
      unfold pFrameGive
      rw [if_pos hu, Int.toNat_natCast]
    obtain ⟨g, o, cur, u, e1, hgB, hg, hu2, hset⟩ := fr_used HO5.out (i := j) (by have := HN4.out; omega) false
    subst e1
    have hgC : g ≠ C := by
      intro hh
      have h1 := HZC.out
      rw [hh] at hg
      rw [hg] at h1
      have := (Option.some.inj h1)
      simp at this
    have hgl := lt_of_block hg
    have hku : w5.cell? ⟨g, o + j, none⟩ = some u := (cell_of_block hg (o + j)).trans hu2
    have hfu := free_of_block hg (o + j)
    have hown6 := Lib.hid (hset _ (block_set hg (o + j) (.bool false)) (fun y hy => Below.heap_setCell _ _ _ _ hy))
    have hx6 := Lib.hid ((Below.heap_setCell w5 ⟨g, o + j, none⟩ (.bool false) (B + 1) (by show B + 1 ≠ g; omega)).trans HZ1.out)
    have hxC := Lib.hid ((Below.heap_setCell w5 ⟨g, o + j, none⟩ (.bool false) C (by show C ≠ g; omega)).trans HZC.out)
    have hb6 := Lib.hid (HB5.out.setCell (p := ⟨g, o + j, none⟩) (by show _ ≤ g; omega) (.bool false))
    have hj0 : (0 : Int) ≤ j := by omega
    have hj3 : (j : Int) < n3 := by have := HN3.out; omega
    have hj4 : (j : Int) < n4 := by have := HN4.out; omega
    rw [hd]
    have hjc2 : ∃ r, f.Cells[j]? = some r ∧ r.length = 16 := ⟨_, List.getElem?_eq_getElem hjc, (hu.1.2.2 _ (List.mem_of_getElem? (zip_at (List.getElem?_eq_getElem hjc) (List.getElem?_eq_getElem hju)))).1⟩
    clear hd hu hset hg hu2 hju hjc
    obtain ⟨w6, hw6⟩ : ∃ w6, w5.setCell ⟨g, o + j, none⟩ (.bool false) = w6 := ⟨_, rfl⟩
    have hxC' := hxC.out
    have hown6' := hown6.out
    have hx6' := hx6.out
    have hb6' := hb6.out
    rw [hw6] at hxC' hown6' hx6' hb6'
    have HW6 := Lib.hid hw6
    clear hw6
    obtain ⟨r, hr, hr16⟩ := hjc2
    obtain ⟨g1, o1, g2, o2, cap5, cur2, e1, hrow, hgB2, hg2, hsz2, hset2⟩ := fr_clear hown6' (r := r) hr (by omega) (List.replicate 16 0) (by rw [List.length_replicate, hr16])
    rw [hr16] at hrow hsz2 hset2
    subst e1
    have hg2C : g2 ≠ C := by
      intro hh
      rw [hh] at hg2
      rw [hg2] at hxC'
      have := (Option.some.inj hxC')
      simp at this
    have hq0 : w6.cell? ⟨C, 0, none⟩ = some (.slice (some ⟨g1, o1, none⟩) n3 cap3) := cell_of_block hxC' 0
    have hq0' : (w5.setCell ⟨g, o + j, none⟩ (.bool false)).cell? ⟨C, 0, none⟩ = some (.slice (some ⟨g1, o1, none⟩) n3 cap3) := by rw [HW6.out]; exact hq0
    have hq1' : (w5.setCell ⟨g, o + j, none⟩ (.bool false)).cell? ⟨g1, o1 + j, none⟩ = some (.slice (some ⟨g2, o2, none⟩) 16 cap5) := by rw [HW6.out]; exact hrow
    have hlen : (List.replicate 16 (Value.int .i64 0)).length = 16 := List.length_replicate
    obtain ⟨cur', hcur', hmid⟩ := cells_own (List.replicate 16 (.int .i64 0)) o2 w6 cur2 hg2 (by rw [hlen]; exact hsz2)
    rw [hlen] at hmid
    have hown8 := hset2 _ cur' hcur' (by rw [List.map_replicate]; exact hmid) (fun y hy => cells_far _ _ _ _ hy)
    have hx8 := (cells_far (g := g2) (List.replicate 16 (Value.int .i64 0)) o2 w6 (B + 1) (by omega)).trans hx6'
    have hxC8 := (cells_far (g := g2) (List.replicate 16 (Value.int .i64 0)) o2 w6 C (fun e => hg2C e.symm)).trans hxC'
    have hb8 : Below w.heap.size w (w6.setCells g2 o2 (List.replicate 16 (.int .i64 0))) := cells_below (g := g2) (by omega) _ _ hb6'
    obtain ⟨w8, hw8⟩ : ∃ w8, w6.setCells g2 o2 (List.replicate 16 (.int .i64 0)) = w8 := ⟨_, rfl⟩
    have hcl : ∀ ty, (Builtin.clear_ #[38] ty #[.slice (some ⟨g2, o2, none⟩) 16 cap5]).run Try.prog (w5.setCell ⟨g, o + j, none⟩ (.bool false)) = .ok (.tuple #[]) w8 := fun ty => by
      rw [HW6.out, ← hw8]
      refine Lib.run_clear_slice w6 38 3 ty (.int .i64 0) Try.underlying38 (fun _ => by kernel_rfl) rfl rfl g2 o2 16 cap5 (by omega) (fun q hq => ?_) (fun q _ => free_of_block hg2 (o2 + q))
      rw [cell_of_block hg2, Array.getElem?_eq_getElem (by omega)]
      rfl
    rw [hw8] at hb8 hown8 hx8 hxC8
    obtain ⟨r0, r1, r2, r3, HG, HE, HBE⟩ := fr_ret (by omega) hb8 hown8 (by omega) hx8
    have hd0 : w8.cell? ⟨C, 0, none⟩ = some (.slice (some ⟨g1, o1, none⟩) n3 cap3) := cell_of_block hxC8 0
    have hd1 : w8.cell? ⟨C, 1, none⟩ = some (.slice (some ⟨g, o, none⟩) n4 cap4) := cell_of_block hxC8 1
    clear hown8 hx8 hxC8 hb8 hw8 hset2 hg2 hcur' hmid hxC' hx6' hb6' hown6' hrow hr hr16 hlen hq0
    go_wp2
    refine ret_ct rfl HG.out rfl Try.underlying27 rfl sizeF rfl ?_
    rw [HF.out]; exact ⟨[_, _], rfl, HE.out, HBE.out⟩
  · have HF : Hid (pFrameGive f i = (f, false)) := by show _ = _; unfold pFrameGive; rw [if_neg hu]
    obtain ⟨r0, r1, r2, r3, HG, HE, HBE⟩ := fr_ret (by omega) HB5.out HO5.out (by omega) HZ1.out
    have hd : decide (isUsed f i) = false := decide_eq_false hu
    rw [hd]
    clear hd hu
    go_wp2
    refine ret_ct rfl HG.out rfl Try.underlying27 rfl sizeF rfl ?_
    rw [HF.out]; exact ⟨[_, _], rfl, HE.out, HBE.out⟩
end Tr
end Go.Proofs.Ytmajlgnjgnodoaa

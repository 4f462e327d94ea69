/- Physical frames: the specification's functions that write. -/
import Derived.Test.YtmajlgnjgnodoaaS05d
namespace Go.Proofs.Ytmajlgnjgnodoaa
open Go.RowKit
set_option linter.unusedVariables false
namespace Tr
theorem spec_FrameTake (f : GFrames) (c0 c1 : Value) (w : World) (h : Rd w (eFrames f) [c0, c1]) (hs : (eFrames f).sz ≤ 1048576) : Calls Try.prog 22 #[.agg #[c0, c1]] w (RetM (fun us => .tuple #[.agg us.toArray, .int .i64 (pFrameTake f).2.1, .bool (pFrameTake f).2.2]) (eFrames (pFrameTake f).1) w) := by
  have HRD := Lib.hid h
  have HSZ := Lib.hid hs
  obtain ⟨bs, h⟩ := h
  obtain ⟨A, n, cap, A2, n2, cap2, e⟩ := sinv_Frames h
  obtain ⟨rfl, rfl⟩ : c0 = .slice A n cap ∧ c1 = .slice A2 n2 cap2 := by simpa using e
  obtain ⟨B, hs_B⟩ : ∃ B, w.heap.size = B := ⟨_, rfl⟩
  have hzo_ := hs_B
  have hx_ : (w.alloc (.cells #[.slice A n cap, .slice A2 n2 cap2] 27)).heap[B]? = some (.cells #[.slice A n cap, .slice A2 n2 cap2] 27 (0, 0)) := by rw [← hzo_]; exact heap_alloc_new w _
  have hb_ : Below w.heap.size w (w.alloc (.cells #[.slice A n cap, .slice A2 n2 cap2] 27)) := (Below.refl _ _).alloc (Nat.le_refl _) _
  have hz_ : (w.alloc (.cells #[.slice A n cap, .slice A2 n2 cap2] 27)).heap.size = B + 1 := by simp [hzo_]
  obtain ⟨w0, hw_⟩ : ∃ z, (w.alloc (.cells #[.slice A n cap, .slice A2 n2 cap2] 27)) = z := ⟨_, rfl⟩
  rw [hw_] at hx_ hb_ hz_
  have HX_w0 := Lib.hid hx_
  have HB_w0 := Lib.hid hb_
  have HW_w0 := Lib.hid hw_
  have hz_w0 := Lib.hid hz_
  clear hx_ hb_ hw_ hz_ hzo_
  have hzo_ := hz_w0.out
  have hx_ : (w0.alloc (.cells #[.slice none 0 0, .slice none 0 0] 27)).heap[B + 1]? = some (.cells #[.slice none 0 0, .slice none 0 0] 27 (0, 0)) := by rw [← hzo_]; exact heap_alloc_new w0 _
  have hb_ : Below w0.heap.size w0 (w0.alloc (.cells #[.slice none 0 0, .slice none 0 0] 27)) := (Below.refl _ _).alloc (Nat.le_refl _) _
  have hz_ : (w0.alloc (.cells #[.slice none 0 0, .slice none 0 0] 27)).heap.size = B + 1 + 1 := by simp [hzo_]
  obtain ⟨w1, hw_⟩ : ∃ z, (w0.alloc (.cells #[.slice none 0 0, .slice none 0 0] 27)) = z := ⟨_, rfl⟩
  rw [hw_] at hx_ hb_ hz_
  have HX_w1 := Lib.hid hx_
  have HB_w1 := Lib.hid hb_
  have HW_w1 := Lib.hid hw_
  have hz_w1 := Lib.hid hz_
  clear hx_ hb_ hw_ hz_ hzo_
  have HB1 := Lib.hid (below_step HB_w0.out HB_w1.out)
  have HX0 := Lib.hid ((HB_w1.out.block _ (by have := hz_w0.out; omega)).trans HX_w0.out)
  have HC : Hid (∀ w', Below w.heap.size w w' → Calls Try.prog 46 #[.agg #[.slice A n cap, .slice A2 n2 cap2]] w' (RetM (fun us => .agg us.toArray) (eFrames f) w')) := fun w' hb => spec_l05Copy f _ _ w' (HRD.out.below hb) HSZ.out
  have HFR : Hid (∀ w', Below w.heap.size w w' → Calls Try.prog 47 #[.agg #[.slice A n cap, .slice A2 n2 cap2]] w' (RetP (.int .i64 (pFree f)) w')) := fun w' hb => spec_l05Free f _ _ w' (HRD.out.below hb) HSZ.out
  have HOK : Hid (∀ w', Below w.heap.size w w' → Calls Try.prog 31 #[.agg #[.slice A n cap, .slice A2 n2 cap2]] w' (RetP (.bool (decide (okF f))) w')) := fun w' hb => spec_FramesOk f _ _ w' (HRD.out.below hb) HSZ.out
  clear h hs e HRD HSZ
  go_enter Try.func22, Try.ntmps22
  go_wp2_with fail
  rw [HW_w0.out, HW_w1.out]
  refine (HC.out _ HB1.out).mono ?_
  rintro e' w2 ⟨us, rfl, hown2, hb2⟩
  have hsh := hown2
  obtain ⟨bs2, hsh, _⟩ := hsh
  obtain ⟨A3, n3, cap3, A4, n4, cap4, rfl⟩ := sinv_Frames hsh
  have hn4 : n4 = f.Used.length := by
    obtain ⟨_, _, _, _, k1⟩ := parts_Frames hsh
    rw [(own_cells k1 (len_map (E := eB) (k := 1) (fun _ => rfl))).1, List.length_map]
  have HN4 := Lib.hid hn4
  clear hsh hn4
  obtain ⟨C, hs_C⟩ : ∃ B, w2.heap.size = B := ⟨_, rfl⟩
  have hzo_ := hs_C
  have hx_ : (w2.alloc (.cells #[.slice A3 n3 cap3, .slice A4 n4 cap4] 27)).heap[C]? = some (.cells #[.slice A3 n3 cap3, .slice A4 n4 cap4] 27 (0, 0)) := by rw [← hzo_]; exact heap_alloc_new w2 _
  have hb_ : Below w2.heap.size w2 (w2.alloc (.cells #[.slice A3 n3 cap3, .slice A4 n4 cap4] 27)) := (Below.refl _ _).alloc (Nat.le_refl _) _
  have hz_ : (w2.alloc (.cells #[.slice A3 n3 cap3, .slice A4 n4 cap4] 27)).heap.size = C + 1 := by simp [hzo_]
  obtain ⟨w3, hw_⟩ : ∃ z, (w2.alloc (.cells #[.slice A3 n3 cap3, .slice A4 n4 cap4] 27)) = z := ⟨_, rfl⟩
  rw [hw_] at hx_ hb_ hz_
  have HX_w3 := Lib.hid hx_
  have HB_w3 := Lib.hid hb_
  have HW_w3 := Lib.hid hw_
  have hz_w3 := Lib.hid hz_
  clear hx_ hb_ hw_ hz_ hzo_
  have hz1 := hz_w1.out
  have HB13 := Lib.hid (below_step hb2 HB_w3.out)
  have HB3 := Lib.hid (below_step HB1.out HB13.out)
  have hC : B + 1 + 1 ≤ C := by have := hb2.size; omega
  have HO3 := Lib.hid (hown2.below HB_w3.out)
  have HY0 := Lib.hid ((HB13.out.block B (by omega)).trans HX0.out)
  have HY1 := Lib.hid ((HB13.out.block (B + 1) (by omega)).trans HX_w1.out)
  rw [hz1] at HO3
  have hcB : w3.cell? ⟨B, 0, none⟩ = some (.slice A n cap) := cell_of_block HY0.out 0
  have hcB1 : w3.cell? ⟨B, 1, none⟩ = some (.slice A2 n2 cap2) := cell_of_block HY0.out 1
  have hcb : w2.cell? ⟨B, 0, none⟩ = some (.slice A n cap) := cell_of_block ((hb2.block B (by omega)).trans HX0.out) 0
  have hcb1 : w2.cell? ⟨B, 1, none⟩ = some (.slice A2 n2 cap2) := cell_of_block ((hb2.block B (by omega)).trans HX0.out) 1
  have hBC : B < C := by omega
  have hBC1 : B + 1 < C := by omega
  clear hown2 hb2 hz1
  go_wp2_with fail
  rw [HW_w3.out]
  refine (HFR.out _ HB3.out).mono ?_
  rintro e' w4 ⟨rfl, hb4⟩
  have hd0 : w4.cell? ⟨B, 0, none⟩ = some (.slice A n cap) := cell_below hb4 hcB
  have hd1 : w4.cell? ⟨B, 1, none⟩ = some (.slice A2 n2 cap2) := cell_below hb4 hcB1
  have HB34 := Lib.hid hb4
  have HB4 := Lib.hid (below_step HB3.out hb4)
  clear hb4
  go_wp2_with fail
  refine (HOK.out _ HB4.out).mono ?_
  rintro e' w5 ⟨rfl, hb5⟩
  have HB35 := Lib.hid (below_step HB34.out hb5)
  have HB5 := Lib.hid (below_step HB4.out hb5)
  clear hb5
  have hs3 := hz_w3.out
  have HZ1 := Lib.hid ((HB35.out.block (B + 1) (by omega)).trans HY1.out)
  have HZC := Lib.hid ((HB35.out.block C (by omega)).trans HX_w3.out)
  have HO5 := Lib.hid (HO3.out.below HB35.out)
  have hk0 : w5.cell? ⟨C, 0, none⟩ = some (.slice A3 n3 cap3) := cell_of_block HZC.out 0
  have hk1 : w5.cell? ⟨C, 1, none⟩ = some (.slice A4 n4 cap4) := cell_of_block HZC.out 1
  clear hs3
  by_cases hin : okF f ∧ 0 ≤ pFree f
  · have hlt := freeAt_lt 0 f.Used hin.2
    obtain ⟨i, hi⟩ := Int.eq_ofNat_of_zero_le hin.2
    have HF : Hid (pFrameTake f = (⟨f.Cells, f.Used.set i true⟩, (i : Int), true)) := by
      show _ = _
      unfold pFrameTake
      rw [if_pos hin, hi, Int.toNat_natCast]
    have hd : decide (okF f) = true := decide_eq_true hin.1
    have hin4 : i < n4 := by
      have h1 := HN4.out
      have h2 : pFree f < ((0 : Nat) : Int) + f.Used.length := hlt
      omega
    rw [hd, hi]
    obtain ⟨g, o, cur, u, e1, hgB, hg, hu, hset⟩ := fr_used HO5.out hin4 true
    subst e1
    have hgC : g ≠ C := by
      intro hh
      have h1 := HZC.out
      rw [hh] at hg
      rw [hg] at h1
      have := (Option.some.inj h1)
      simp at this
    have hgl := lt_of_block hg
    have hku : w5.cell? ⟨g, o + i, none⟩ = some u := (cell_of_block hg (o + i)).trans hu
    have hfu := free_of_block hg (o + i)
    have hown6 := hset _ (block_set hg (o + i) (.bool true)) (fun y hy => Below.heap_setCell _ _ _ _ hy)
    have hx6 := (Below.heap_setCell w5 ⟨g, o + i, none⟩ (.bool true) (B + 1) (by show B + 1 ≠ g; omega)).trans HZ1.out
    have hxC := (Below.heap_setCell w5 ⟨g, o + i, none⟩ (.bool true) C (by show C ≠ g; omega)).trans HZC.out
    have hk06 : (w5.setCell ⟨g, o + i, none⟩ (.bool true)).cell? ⟨C, 0, none⟩ = some (.slice A3 n3 cap3) := cell_of_block hxC 0
    have hk16 : (w5.setCell ⟨g, o + i, none⟩ (.bool true)).cell? ⟨C, 1, none⟩ = some (.slice (some ⟨g, o, none⟩) n4 cap4) := cell_of_block hxC 1
    have hb6 : Below w.heap.size w (w5.setCell ⟨g, o + i, none⟩ (.bool true)) := HB5.out.setCell (p := ⟨g, o + i, none⟩) (by show _ ≤ g; omega) _
    obtain ⟨r0, r1, r2, r3, HG, HE, HBE⟩ := fr_ret (by omega) hb6 hown6 (by omega) hx6
    have hi0 : (0 : Int) ≤ i := by omega
    have hi2 : (i : Int) < n4 := by omega
    clear hd hi hin hset hg hu hown6 hx6 hxC hb6 hlt
    go_wp2
    refine ret_ctt rfl HG.out rfl Try.underlying27 rfl sizeF rfl ?_
    rw [HF.out]; exact ⟨[_, _], rfl, HE.out, HBE.out⟩
  · have HF : Hid (pFrameTake f = (f, -1, false)) := by show _ = _; unfold pFrameTake; rw [if_neg hin]
    obtain ⟨r0, r1, r2, r3, HG, HE, HBE⟩ := fr_ret (by omega) HB5.out HO5.out (by omega) HZ1.out
    by_cases hok : okF f
    · have hd : decide (okF f) = true := decide_eq_true hok
      obtain ⟨z, hz⟩ : ∃ z, pFree f = z := ⟨_, rfl⟩
      have hz0 : z < 0 := by
        have : ¬ 0 ≤ z := fun h => hin ⟨hok, by rw [hz]; exact h⟩
        omega
      rw [hd, hz]
      clear hd hok hin hz
      go_wp2
      refine ret_ctt rfl HG.out rfl Try.underlying27 rfl sizeF rfl ?_
      rw [HF.out]; exact ⟨[_, _], rfl, HE.out, HBE.out⟩
    · have hd : decide (okF f) = false := decide_eq_false hok
      rw [hd]
      clear hd hok hin
      go_wp2
      refine ret_ctt rfl HG.out rfl Try.underlying27 rfl sizeF rfl ?_
      rw [HF.out]; exact ⟨[_, _], rfl, HE.out, HBE.out⟩
end Tr
end Go.Proofs.Ytmajlgnjgnodoaa

/- Physical frames: the specification's functions that write, more. -/
import Derived.Test.YtmajlgnjgnodoaaS05e
namespace Go.Proofs.Ytmajlgnjgnodoaa
open Go.RowKit
set_option linter.unusedVariables false
namespace Tr
theorem spec_FrameWrite (f : GFrames) (c0 c1 : Value) (i at_ v : Int) (w : World) (h : Rd w (eFrames f) [c0, c1]) (hs : (eFrames f).sz ≤ 1048576) (hi : okI i) (ha : okI at_) (hv : okI v) : Calls Try.prog 34 #[.agg #[c0, c1], .int .i64 i, .int .i64 at_, .int .i64 v] w (RetM (fun us => .tuple #[.agg us.toArray, .bool (pFrameWrite f i at_ v).2]) (eFrames (pFrameWrite f i at_ v).1) w) := by
  have HRD := Lib.hid h
  have HSZ := Lib.hid hs
  obtain ⟨bs, h⟩ := h
  obtain ⟨A, n, cap, A2, n2, cap2, e⟩ := sinv_Frames h
  obtain ⟨rfl, rfl⟩ : c0 = .slice A n cap ∧ c1 = .slice A2 n2 cap2 := by simpa using e
  obtain ⟨B, hs_B⟩ : ∃ B, w.heap.size = B := ⟨_, rfl⟩
  have hzo_ := hs_B
  have hx_ : (w.alloc (.cells #[.slice A n cap, .slice A2 n2 cap2] 27)).heap[B]? = some (.cells #[.slice A n cap, .slice A2 n2 cap2] 27 (0, 0)) := by rw [← hzo_]; exact heap_alloc_new w _
  have hb_ : Below w.heap.size w (w.alloc (.cells #[.slice A n cap, .slice A2 n2 cap2] 27)) := (Below.refl _ _).alloc (Nat.le_refl _) _
  have hz_ : (w.alloc (.cells #[.slice A n cap, .slice A2 n2 cap2] 27)).heap.size = B + 1 := by simp [hzo_]
  obtain ⟨w0, hw_⟩ : ∃ z, (w.alloc (.cells #[.slice A n cap, .slice A2 n2 cap2] 27)) = z := ⟨_, rfl⟩
  rw [hw_] at hx_ hb_ hz_
  have HX_w0 := Lib.hid hx_
  have HB_w0 := Lib.hid hb_
  have HW_w0 := Lib.hid hw_
  have hz_w0 := Lib.hid hz_
  clear hx_ hb_ hw_ hz_ hzo_
  have hzo_ := hz_w0.out
  have hx_ : (w0.alloc (.cells #[.slice none 0 0, .slice none 0 0] 27)).heap[B + 1]? = some (.cells #[.slice none 0 0, .slice none 0 0] 27 (0, 0)) := by rw [← hzo_]; exact heap_alloc_new w0 _
  have hb_ : Below w0.heap.size w0 (w0.alloc (.cells #[.slice none 0 0, .slice none 0 0] 27)) := (Below.refl _ _).alloc (Nat.le_refl _) _
  have hz_ : (w0.alloc (.cells #[.slice none 0 0, .slice none 0 0] 27)).heap.size = B + 1 + 1 := by simp [hzo_]
  obtain ⟨w1, hw_⟩ : ∃ z, (w0.alloc (.cells #[.slice none 0 0, .slice none 0 0] 27)) = z := ⟨_, rfl⟩
  rw [hw_] at hx_ hb_ hz_
  have HX_w1 := Lib.hid hx_
  have HB_w1 := Lib.hid hb_
  have HW_w1 := Lib.hid hw_
  have hz_w1 := Lib.hid hz_
  clear hx_ hb_ hw_ hz_ hzo_
  have HB1 := Lib.hid (below_step HB_w0.out HB_w1.out)
  have HX0 := Lib.hid ((HB_w1.out.block _ (by have := hz_w0.out; omega)).trans HX_w0.out)
  have HC : Hid (∀ w', Below w.heap.size w w' → Calls Try.prog 46 #[.agg #[.slice A n cap, .slice A2 n2 cap2]] w' (RetM (fun us => .agg us.toArray) (eFrames f) w')) := fun w' hb => spec_l05Copy f _ _ w' (HRD.out.below hb) HSZ.out
  have HIS : Hid (∀ w', Below w.heap.size w w' → Calls Try.prog 49 #[.agg #[.slice A n cap, .slice A2 n2 cap2], .int .i64 i] w' (RetP (.bool (decide (isUsed f i))) w')) := fun w' hb => spec_l05Is f _ _ i w' (HRD.out.below hb) HSZ.out
  clear h hs e HRD HSZ hi ha hv
  go_enter Try.func34, Try.ntmps34
  go_wp2_with fail
  rw [HW_w0.out, HW_w1.out]
  refine (HC.out _ HB1.out).mono ?_
  rintro e' w2 ⟨us, rfl, hown2, hb2⟩
  have hsh := hown2
  obtain ⟨bs2, hsh, _⟩ := hsh
  obtain ⟨A3, n3, cap3, A4, n4, cap4, rfl⟩ := sinv_Frames hsh
  have hn : n3 = f.Cells.length ∧ n4 = f.Used.length := by
    obtain ⟨_, _, _, k0, k1⟩ := parts_Frames hsh
    rw [(own_cells k1 (len_map (E := eB) (k := 1) (fun _ => rfl))).1, (own_cells k0 (len_map (E := eIntS) (k := 1) (fun _ => rfl))).1, List.length_map, List.length_map]
    exact ⟨rfl, rfl⟩
  have HN3 := Lib.hid hn.1
  have HN4 := Lib.hid hn.2
  clear hsh hn
  obtain ⟨C, hs_C⟩ : ∃ B, w2.heap.size = B := ⟨_, rfl⟩
  have hzo_ := hs_C
  have hx_ : (w2.alloc (.cells #[.slice A3 n3 cap3, .slice A4 n4 cap4] 27)).heap[C]? = some (.cells #[.slice A3 n3 cap3, .slice A4 n4 cap4] 27 (0, 0)) := by rw [← hzo_]; exact heap_alloc_new w2 _
  have hb_ : Below w2.heap.size w2 (w2.alloc (.cells #[.slice A3 n3 cap3, .slice A4 n4 cap4] 27)) := (Below.refl _ _).alloc (Nat.le_refl _) _
  have hz_ : (w2.alloc (.cells #[.slice A3 n3 cap3, .slice A4 n4 cap4] 27)).heap.size = C + 1 := by simp [hzo_]
  obtain ⟨w3, hw_⟩ : ∃ z, (w2.alloc (.cells #[.slice A3 n3 cap3, .slice A4 n4 cap4] 27)) = z := ⟨_, rfl⟩
  rw [hw_] at hx_ hb_ hz_
  have HX_w3 := Lib.hid hx_
  have HB_w3 := Lib.hid hb_
  have HW_w3 := Lib.hid hw_
  have hz_w3 := Lib.hid hz_
  clear hx_ hb_ hw_ hz_ hzo_
  have hz1 := hz_w1.out
  have HB13 := Lib.hid (below_step hb2 HB_w3.out)
  have HB3 := Lib.hid (below_step HB1.out HB13.out)
  have hC : B + 1 + 1 ≤ C := by have := hb2.size; omega
  have HO3 := Lib.hid (hown2.below HB_w3.out)
  have HY0 := Lib.hid ((HB13.out.block B (by omega)).trans HX0.out)
  have HY1 := Lib.hid ((HB13.out.block (B + 1) (by omega)).trans HX_w1.out)
  rw [hz1] at HO3
  have hcB : w3.cell? ⟨B, 0, none⟩ = some (.slice A n cap) := cell_of_block HY0.out 0
  have hcB1 : w3.cell? ⟨B, 1, none⟩ = some (.slice A2 n2 cap2) := cell_of_block HY0.out 1
  have hcb : w2.cell? ⟨B, 0, none⟩ = some (.slice A n cap) := cell_of_block ((hb2.block B (by omega)).trans HX0.out) 0
  have hcb1 : w2.cell? ⟨B, 1, none⟩ = some (.slice A2 n2 cap2) := cell_of_block ((hb2.block B (by omega)).trans HX0.out) 1
  have hBC : B < C := by omega
  have hBC1 : B + 1 < C := by omega
  clear hown2 hb2 hz1
  go_wp2_with fail
  rw [HW_w3.out]
  refine (HIS.out _ HB3.out).mono ?_
  rintro e' w5 ⟨rfl, hb5⟩
  have HB35 := Lib.hid hb5
  have HB5 := Lib.hid (below_step HB3.out hb5)
  clear hb5
  have hs3 := hz_w3.out
  have HZ1 := Lib.hid ((HB35.out.block (B + 1) (by omega)).trans HY1.out)
  have HZC := Lib.hid ((HB35.out.block C (by omega)).trans HX_w3.out)
  have HO5 := Lib.hid (HO3.out.below HB35.out)
  have hk0 : w5.cell? ⟨C, 0, none⟩ = some (.slice A3 n3 cap3) := cell_of_block HZC.out 0
  have hk1 : w5.cell? ⟨C, 1, none⟩ = some (.slice A4 n4 cap4) := cell_of_block HZC.out 1
  clear hs3
  by_cases hin : isUsed f i ∧ (0 ≤ at_ ∧ at_ ≤ 15) ∧ 0 ≤ v ∧ v ≤ 999
  · obtain ⟨hu, ⟨ha0, ha1⟩, hv0, hv1⟩ := hin
    have hd : decide (isUsed f i) = true := decide_eq_true hu
    obtain ⟨j, rfl⟩ := Int.eq_ofNat_of_zero_le hu.2.1.1
    obtain ⟨k, rfl⟩ := Int.eq_ofNat_of_zero_le ha0
    have hju : j < f.Used.length := by have := hu.2.1.2; omega
    have hjc : j < f.Cells.length := by have := hu.1.2.1; omega
    obtain ⟨r, hr⟩ : ∃ r, f.Cells[j]? = some r := ⟨_, List.getElem?_eq_getElem hjc⟩
    have hr16 : r.length = 16 := (hu.1.2.2 _ (List.mem_of_getElem? (zip_at hr (List.getElem?_eq_getElem hju)))).1
    have HF : Hid (pFrameWrite f j k v = (⟨f.Cells.set j (r.set k v), f.Used⟩, true)) := by
      show _ = _
      unfold pFrameWrite
      have e1 : f.Cells.getD j [] = r := by rw [List.getD_eq_getElem?_getD, hr]; rfl
      rw [if_pos ⟨hu, ⟨ha0, ha1⟩, hv0, hv1⟩, Int.toNat_natCast, Int.toNat_natCast, e1]
    obtain ⟨g, o, g2, o2, cap5, cur2, u, e1, hrow, hgB, hg, hu2, hset⟩ := fr_cell HO5.out hr (k := k) (by omega) v
    subst e1
    rw [hr16] at hrow
    have hgC : g2 ≠ C := by
      intro hh
      have h1 := HZC.out
      rw [hh] at hg
      rw [hg] at h1
      have := (Option.some.inj h1)
      simp at this
    have hgl := lt_of_block hg
    have hku : w5.cell? ⟨g2, o2 + k, none⟩ = some u := (cell_of_block hg (o2 + k)).trans hu2
    have hfu := free_of_block hg (o2 + k)
    have hown6 := hset _ (block_set hg (o2 + k) (.int .i64 v)) (fun y hy => Below.heap_setCell _ _ _ _ hy)
    have hx6 := (Below.heap_setCell w5 ⟨g2, o2 + k, none⟩ (.int .i64 v) (B + 1) (by show B + 1 ≠ g2; omega)).trans HZ1.out
    have hxC := (Below.heap_setCell w5 ⟨g2, o2 + k, none⟩ (.int .i64 v) C (by show C ≠ g2; omega)).trans HZC.out
    have hk06 : (w5.setCell ⟨g2, o2 + k, none⟩ (.int .i64 v)).cell? ⟨C, 0, none⟩ = some (.slice (some ⟨g, o, none⟩) n3 cap3) := cell_of_block hxC 0
    have hk16 : (w5.setCell ⟨g2, o2 + k, none⟩ (.int .i64 v)).cell? ⟨C, 1, none⟩ = some (.slice A4 n4 cap4) := cell_of_block hxC 1
    have hb6 : Below w.heap.size w (w5.setCell ⟨g2, o2 + k, none⟩ (.int .i64 v)) := HB5.out.setCell (p := ⟨g2, o2 + k, none⟩) (by show _ ≤ g2; omega) _
    obtain ⟨r0, r1, r2, r3, HG, HE, HBE⟩ := fr_ret (by omega) hb6 hown6 (by omega) hx6
    have hj0 : (0 : Int) ≤ j := by omega
    have hj2 : (j : Int) < n3 := by have := HN3.out; omega
    have hk2 : (k : Int) < 16 := by omega
    rw [hd]
    clear hd hr hr16 hu hset hg hu2 hown6 hx6 hxC hb6 hju hjc
    go_wp2_with fail
    refine (Bm.in_yes _ _ _ _ ha0 ha1).mono ?_
    rintro e w' ⟨rfl, rfl⟩
    go_wp2_with fail
    refine (Bm.in_yes _ _ _ _ hv0 hv1).mono ?_
    rintro e w' ⟨rfl, rfl⟩
    go_wp2
    refine ret_ct rfl HG.out rfl Try.underlying27 rfl sizeF rfl ?_
    rw [HF.out]; exact ⟨[_, _], rfl, HE.out, HBE.out⟩
  · have HF : Hid (pFrameWrite f i at_ v = (f, false)) := by show _ = _; unfold pFrameWrite; rw [if_neg hin]
    obtain ⟨r0, r1, r2, r3, HG, HE, HBE⟩ := fr_ret (by omega) HB5.out HO5.out (by omega) HZ1.out
    by_cases hu : isUsed f i
    · have hd : decide (isUsed f i) = true := decide_eq_true hu
      rw [hd]
      by_cases ha : 0 ≤ at_ ∧ at_ ≤ 15
      · have hv : ¬ (0 ≤ v ∧ v ≤ 999) := fun h => hin ⟨hu, ha, h⟩
        have HV := Lib.hid hv
        clear hd hu hin hv
        go_wp2_with fail
        refine (Bm.in_yes _ _ _ _ ha.1 ha.2).mono ?_
        rintro e w' ⟨rfl, rfl⟩
        go_wp2_with fail
        refine (Bm.in_no _ _ _ _ HV.out).mono ?_
        rintro e w' ⟨rfl, rfl⟩
        go_wp2
        refine ret_ct rfl HG.out rfl Try.underlying27 rfl sizeF rfl ?_
        rw [HF.out]; exact ⟨[_, _], rfl, HE.out, HBE.out⟩
      · have HA := Lib.hid ha
        clear hd hu hin ha
        go_wp2_with fail
        refine (Bm.in_no _ _ _ _ HA.out).mono ?_
        rintro e w' ⟨rfl, rfl⟩
        go_wp2
        refine ret_ct rfl HG.out rfl Try.underlying27 rfl sizeF rfl ?_
        rw [HF.out]; exact ⟨[_, _], rfl, HE.out, HBE.out⟩
    · have hd : decide (isUsed f i) = false := decide_eq_false hu
      rw [hd]
      clear hd hu hin
      go_wp2
      refine ret_ct rfl HG.out rfl Try.underlying27 rfl sizeF rfl ?_
      rw [HF.out]; exact ⟨[_, _], rfl, HE.out, HBE.out⟩
end Tr
end Go.Proofs.Ytmajlgnjgnodoaa

/- Physical frames: the specification's functions that write, more. -/
import Derived.Test.YtmajlgnjgnodoaaS05e
import Derived.Deep.RegionLaw
import Derived.Deep.OwnRows
import Derived.Laws.OwnMore
namespace Go.Proofs.Ytmajlgnjgnodoaa
open Go.RowKit
set_option linter.unusedVariables false
namespace Tr
theorem spec_FrameGive (f : GFrames) (c0 c1 : Value) (i : Int) (w : World) (h : Rd w (eFrames f) [c0, c1]) (hs : (eFrames f).sz ≤ 1048576) (hi : okI i) : Calls Try.prog 33 #[.agg #[c0, c1], .int .i64 i] w (RetM (fun us => .tuple #[.agg us.toArray, .bool (pFrameGive f i).2]) (eFrames (pFrameGive f i).1) w) := by
  have HRD := Lib.hid h
  have HSZ := Lib.hid hs
  obtain ⟨bs, h⟩ := h
  obtain ⟨A, n, cap, A2, n2, cap2, e⟩ := sinv_Frames h
  obtain ⟨rfl, rfl⟩ : c0 = .slice A n cap ∧ c1 = .slice A2 n2 cap2 := by simpa using e
  obtain ⟨B, hs_B⟩ : ∃ B, w.heap.size = B := ⟨_, rfl⟩
  have hzo_ := hs_B
  have hx_ : (w.alloc (.cells #[.slice A n cap, .slice A2 n2 cap2] 27)).heap[B]? = some (.cells #[.slice A n cap, .slice A2 n2 cap2] 27 (0, 0)) := by rw [← hzo_]; exact heap_alloc_new w _
  have hb_ : Below w.heap.size w (w.alloc (.cells #[.slice A n cap, .slice A2 n2 cap2] 27)) := (Below.refl _ _).alloc (Nat.le_refl _) _
  have hz_ : (w.alloc (.cells #[.slice A n cap, .slice A2 n2 cap2] 27)).heap.size = B + 1 := by simp [hzo_]
  obtain ⟨w0, hw_⟩ : ∃ z, (w.alloc (.cells #[.slice A n cap, .slice A2 n2 cap2] 27)) = z := ⟨_, rfl⟩
  rw [hw_] at hx_ hb_ hz_
  have HX_w0 := Lib.hid hx_
  have HB_w0 := Lib.hid hb_
  have HW_w0 := Lib.hid hw_
  have hz_w0 := Lib.hid hz_
  clear hx_ hb_ hw_ hz_ hzo_
  have hzo_ := hz_w0.out
  have hx_ : (w0.alloc (.cells #[.slice none 0 0, .slice none 0 0] 27)).heap[B + 1]? = some (.cells #[.slice none 0 0, .slice none 0 0] 27 (0, 0)) := by rw [← hzo_]; exact heap_alloc_new w0 _
  have hb_ : Below w0.heap.size w0 (w0.alloc (.cells #[.slice none 0 0, .slice none 0 0] 27)) := (Below.refl _ _).alloc (Nat.le_refl _) _
  have hz_ : (w0.alloc (.cells #[.slice none 0 0, .slice none 0 0] 27)).heap.size = B + 1 + 1 := by simp [hzo_]
  obtain ⟨w1, hw_⟩ : ∃ z, (w0.alloc (.cells #[.slice none 0 0, .slice none 0 0] 27)) = z := ⟨_, rfl⟩
  rw [hw_] at hx_ hb_ hz_
  have HX_w1 := Lib.hid hx_
  have HB_w1 := Lib.hid hb_
  have HW_w1 := Lib.hid hw_
  have hz_w1 := Lib.hid hz_
  clear hx_ hb_ hw_ hz_ hzo_
  have HB1 := Lib.hid (below_step HB_w0.out HB_w1.out)
  have HX0 := Lib.hid ((HB_w1.out.block _ (by have := hz_w0.out; omega)).trans HX_w0.out)
  have HC : Hid (∀ w', Below w.heap.size w w' → Calls Try.prog 46 #[.agg #[.slice A n cap, .slice A2 n2 cap2]] w' (RetM (fun us => .agg us.toArray) (eFrames f) w')) := fun w' hb => spec_l05Copy f _ _ w' (HRD.out.below hb) HSZ.out
  have HIS : Hid (∀ w', Below w.heap.size w w' → Calls Try.prog 49 #[.agg #[.slice A n cap, .slice A2 n2 cap2], .int .i64 i] w' (RetP (.bool (decide (isUsed f i))) w')) := fun w' hb => spec_l05Is f _ _ i w' (HRD.out.below hb) HSZ.out
  clear h hs e HRD HSZ hi
  go_enter Try.func33, Try.ntmps33
  go_wp2_with fail
  rw [HW_w0.out, HW_w1.out]
  refine (HC.out _ HB1.out).mono ?_
  rintro e' w2 ⟨us, rfl, hown2, hb2⟩
  have hsh := hown2
  obtain ⟨bs2, hsh, _⟩ := hsh
  obtain ⟨A3, n3, cap3, A4, n4, cap4, rfl⟩ := sinv_Frames hsh
  have hn : n3 = f.Cells.length ∧ n4 = f.Used.length := by
    obtain ⟨_, _, _, k0, k1⟩ := parts_Frames hsh
    rw [(own_cells k1 (len_map (E := eB) (k := 1) (fun _ => rfl))).1, (own_cells k0 (len_map (E := eIntS) (k := 1) (fun _ => rfl))).1, List.length_map, List.length_map]
    exact ⟨rfl, rfl⟩
  have HN3 := Lib.hid hn.1
  have HN4 := Lib.hid hn.2
  clear hsh hn
  obtain ⟨C, hs_C⟩ : ∃ B, w2.heap.size = B := ⟨_, rfl⟩
  have hzo_ := hs_C
  have hx_ : (w2.alloc (.cells #[.slice A3 n3 cap3, .slice A4 n4 cap4] 27)).heap[C]? = some (.cells #[.slice A3 n3 cap3, .slice A4 n4 cap4] 27 (0, 0)) := by rw [← hzo_]; exact heap_alloc_new w2 _
  have hb_ : Below w2.heap.size w2 (w2.alloc (.cells #[.slice A3 n3 cap3, .slice A4 n4 cap4] 27)) := (Below.refl _ _).alloc (Nat.le_refl _) _
  have hz_ : (w2.alloc (.cells #[.slice A3 n3 cap3, .slice A4 n4 cap4] 27)).heap.size = C + 1 := by simp [hzo_]
  obtain ⟨w3, hw_⟩ : ∃ z, (w2.alloc (.cells #[.slice A3 n3 cap3, .slice A4 n4 cap4] 27)) = z := ⟨_, rfl⟩
  rw [hw_] at hx_ hb_ hz_
  have HX_w3 := Lib.hid hx_
  have HB_w3 := Lib.hid hb_
  have HW_w3 := Lib.hid hw_
  have hz_w3 := Lib.hid hz_
  clear hx_ hb_ hw_ hz_ hzo_
  have hz1 := hz_w1.out
  have HB13 := Lib.hid (below_step hb2 HB_w3.out)
  have HB3 := Lib.hid (below_step HB1.out HB13.out)
  have hC : B + 1 + 1 ≤ C := by have := hb2.size; omega
  have HO3 := Lib.hid (hown2.below HB_w3.out)
  have HY0 := Lib.hid ((HB13.out.block B (by omega)).trans HX0.out)
  have HY1 := Lib.hid ((HB13.out.block (B + 1) (by omega)).trans HX_w1.out)
  rw [hz1] at HO3
  have hcB : w3.cell? ⟨B, 0, none⟩ = some (.slice A n cap) := cell_of_block HY0.out 0
  have hcB1 : w3.cell? ⟨B, 1, none⟩ = some (.slice A2 n2 cap2) := cell_of_block HY0.out 1
  have hcb : w2.cell? ⟨B, 0, none⟩ = some (.slice A n cap) := cell_of_block ((hb2.block B (by omega)).trans HX0.out) 0
  have hcb1 : w2.cell? ⟨B, 1, none⟩ = some (.slice A2 n2 cap2) := cell_of_block ((hb2.block B (by omega)).trans HX0.out) 1
  have hBC : B < C := by omega
  have hBC1 : B + 1 < C := by omega
  clear hown2 hb2 hz1
  go_wp2_with fail
  rw [HW_w3.out]
  refine (HIS.out _ HB3.out).mono ?_
  rintro e' w5 ⟨rfl, hb5⟩
  have HB35 := Lib.hid hb5
  have HB5 := Lib.hid (below_step HB3.out hb5)
  clear hb5
  have hs3 := hz_w3.out
  have HZ1 := Lib.hid ((HB35.out.block (B + 1) (by omega)).trans HY1.out)
  have HZC := Lib.hid ((HB35.out.block C (by omega)).trans HX_w3.out)
  have HO5 := Lib.hid (HO3.out.below HB35.out)
  have hk0 : w5.cell? ⟨C, 0, none⟩ = some (.slice A3 n3 cap3) := cell_of_block HZC.out 0
  have hk1 : w5.cell? ⟨C, 1, none⟩ = some (.slice A4 n4 cap4) := cell_of_block HZC.out 1
  clear hs3
  by_cases hu : isUsed f i
  · have hd : decide (isUsed f i) = true := decide_eq_true hu
    obtain ⟨j, rfl⟩ := Int.eq_ofNat_of_zero_le hu.2.1.1
    have hju : j < f.Used.length := by have := hu.2.1.2; omega
    have hjc : j < f.Cells.length := by have := hu.1.2.1; omega
    have HF : Hid (pFrameGive f j = (⟨f.Cells.set j (List.replicate 16 0), f.Used.set j false⟩, true)) := by
      show _ = _
      unfold pFrameGive
      rw [if_pos hu, Int.toNat_natCast]
    obtain ⟨g, o, cur, u, e1, hgB, hg, hu2, hset⟩ := fr_used HO5.out (i := j) (by have := HN4.out; omega) false
    subst e1
    have hgC : g ≠ C := by
      intro hh
      have h1 := HZC.out
      rw [hh] at hg
      rw [hg] at h1
      have := (Option.some.inj h1)
      simp at this
    have hgl := lt_of_block hg
    have hku : w5.cell? ⟨g, o + j, none⟩ = some u := (cell_of_block hg (o + j)).trans hu2
    have hfu := free_of_block hg (o + j)
    have hown6 := Lib.hid (hset _ (block_set hg (o + j) (.bool false)) (fun y hy => Below.heap_setCell _ _ _ _ hy))
    have hx6 := Lib.hid ((Below.heap_setCell w5 ⟨g, o + j, none⟩ (.bool false) (B + 1) (by show B + 1 ≠ g; omega)).trans HZ1.out)
    have hxC := Lib.hid ((Below.heap_setCell w5 ⟨g, o + j, none⟩ (.bool false) C (by show C ≠ g; omega)).trans HZC.out)
    have hb6 := Lib.hid (HB5.out.setCell (p := ⟨g, o + j, none⟩) (by show _ ≤ g; omega) (.bool false))
    have hj0 : (0 : Int) ≤ j := by omega
    have hj3 : (j : Int) < n3 := by have := HN3.out; omega
    have hj4 : (j : Int) < n4 := by have := HN4.out; omega
    rw [hd]
    clear hd hu hset hg hu2 hju hjc
    obtain ⟨w6, hw6⟩ : ∃ w6, w5.setCell ⟨g, o + j, none⟩ (.bool false) = w6 := ⟨_, rfl⟩
    have hxC' := hxC.out
    have hown6' := hown6.out
    have hx6' := hx6.out
    have hb6' := hb6.out
    rw [hw6] at hxC' hown6' hx6' hb6'
    have HW6 := Lib.hid hw6
    clear hw6
    obtain ⟨g1, o1, cur1, u1, e1, hgB1, hg1, hu1, hset1⟩ := fr_row hown6' (i := j) (by have := HN3.out; omega) (List.replicate 16 0)
    subst e1
    have hg1C : g1 ≠ C := by
      intro hh
      rw [hh] at hg1
      rw [hg1] at hxC'
      have := (Option.some.inj hxC')
      simp at this
    have hgl1 := lt_of_block hg1
    have hCl1 := lt_of_block hxC'
    obtain ⟨M, hM⟩ : ∃ M, madeCells #[.int .i64 0] 16 = M := ⟨_, rfl⟩
    have hmk : ∀ W : World, (Instr.makeSlice 38 (.int .i64 16) (.int .i64 16)).run Try.prog W = .ok (.slice (some ⟨W.heap.size, 0, none⟩) 16 16) (W.alloc (.cells M 3)) := fun W => by
      rw [← hM]; exact run_make_row' 38 3 (.int .i64 0) 8 Try.underlying38 infoII rfl .i64 .i64 16 (by omega) (by omega) W
    have HM := Lib.hid hM
    have hq0 : w6.cell? ⟨C, 0, none⟩ = some (.slice (some ⟨g1, o1, none⟩) n3 cap3) := cell_of_block hxC' 0
    have hq1 : w6.cell? ⟨g1, o1 + j, none⟩ = some u1 := (cell_of_block hg1 (o1 + j)).trans hu1
    have hq2 := free_of_block hg1 (o1 + j)
    have hp0 : (w6.alloc (.cells M 3)).cell? ⟨C, 0, none⟩ = some (.slice (some ⟨g1, o1, none⟩) n3 cap3) := (((Below.refl w6.heap.size w6).alloc (Nat.le_refl _) _).cell (p := ⟨C, 0, none⟩) hCl1).trans hq0
    have hp1 : (w6.alloc (.cells M 3)).cell? ⟨g1, o1 + j, none⟩ = some u1 := (((Below.refl w6.heap.size w6).alloc (Nat.le_refl _) _).cell (p := ⟨g1, o1 + j, none⟩) hgl1).trans hq1
    have hp2 := free_of_block ((((Below.refl w6.heap.size w6).alloc (Nat.le_refl _) (.cells M 3)).block g1 hgl1).trans hg1) (o1 + j)
    have HG1 := Lib.hid hg1
    have HU1 := Lib.hid hu1
    have HS1 := Lib.hid hset1
    have HXC := Lib.hid hxC'
    have HX6 := Lib.hid hx6'
    have HB6 := Lib.hid hb6'
    obtain ⟨V, hV⟩ : ∃ V, Value.slice (some ⟨w6.heap.size, 0, none⟩) 16 16 = V := ⟨_, rfl⟩
    obtain ⟨wx, hwx⟩ : ∃ wx, w6.setCell ⟨g1, o1 + j, none⟩ V = wx := ⟨_, rfl⟩
    have hsz : wx.heap.size = w6.heap.size := by rw [← hwx]; simp
    have hrow := World.ownsRow_lit (e := 3) (size := 1) (base := w6.heap.size) wx M 16 (by omega) (by unfold maxLen; omega) (by rw [← hM, size_madeCells])
    rw [hsz, hV, ← hM, toList_madeCells_one, hM, ← List.map_replicate (f := Value.int .i64)] at hrow
    have hnew : Owned (wx.alloc (.cells M 3)).drew w6.heap.size (eIntS (List.replicate 16 0)) [V] := (ints_owned hrow (by simp)).below ((Below.refl _ _).drew)
    have hbx : Below w6.heap.size wx (wx.alloc (.cells M 3)).drew := ((Below.refl _ wx).alloc (by omega) _).drew
    have hfar1 : ∀ y, y < w6.heap.size → y ≠ g1 → (wx.alloc (.cells M 3)).drew.heap[y]? = w6.heap[y]? := fun y hy hyg => (hbx.block y hy).trans (by rw [← hwx]; exact Below.heap_setCell w6 ⟨g1, o1 + j, none⟩ V y hyg)
    have hown8 := hset1 _ V hnew ((hbx.block g1 hgl1).trans (by rw [← hwx]; exact block_set hg1 (o1 + j) V)) hfar1
    have hx8 := (hfar1 (B + 1) (by omega) (by omega)).trans hx6'
    have hxC8 := (hfar1 C hCl1 (fun e => hg1C e.symm)).trans hxC'
    have hb8 : Below w.heap.size w (wx.alloc (.cells M 3)).drew := hb6'.trans (((by rw [← hwx]; exact (Below.refl w.heap.size w6).setCell (p := ⟨g1, o1 + j, none⟩) (by show _ ≤ g1; omega) V) : Below w.heap.size w6 wx).trans (hbx.mono (by omega)))
    obtain ⟨w8, hw8⟩ : ∃ w8, (wx.alloc (.cells M 3)).drew = w8 := ⟨_, rfl⟩
    rw [hw8] at hb8 hown8 hx8 hxC8
    have HW8 := Lib.hid hw8
    obtain ⟨r0, r1, r2, r3, HG, HE, HBE⟩ := fr_ret (by omega) hb8 hown8 (by omega) hx8
    have hd0 : w8.cell? ⟨C, 0, none⟩ = some (.slice (some ⟨g1, o1, none⟩) n3 cap3) := cell_of_block hxC8 0
    have hd1 : w8.cell? ⟨C, 1, none⟩ = some (.slice (some ⟨g, o, none⟩) n4 cap4) := cell_of_block hxC8 1
    have HWX := Lib.hid hwx
    have HV := Lib.hid hV
    clear hsz hrow hnew hbx hfar1 hown8 hx8 hxC8 hb8 hwx hV hw8
    clear hg1 hu1 hset1 hxC' hx6' hb6' hown6' hM
    go_wp2_with fail
    rw [HW6.out]
    go_region_law (fail)
    all_goals rw [HV.out, HWX.out, HW8.out]
    all_goals go_wp2
    all_goals refine ret_ct rfl HG.out rfl Try.underlying27 rfl sizeF rfl ?_
    all_goals rw [HF.out]
    all_goals exact ⟨[_, _], rfl, HE.out, HBE.out⟩
  · have HF : Hid (pFrameGive f i = (f, false)) := by show _ = _; unfold pFrameGive; rw [if_neg hu]
    obtain ⟨r0, r1, r2, r3, HG, HE, HBE⟩ := fr_ret (by omega) HB5.out HO5.out (by omega) HZ1.out
    have hd : decide (isUsed f i) = false := decide_eq_false hu
    rw [hd]
    clear hd hu
    go_wp2
    refine ret_ct rfl HG.out rfl Try.underlying27 rfl sizeF rfl ?_
    rw [HF.out]; exact ⟨[_, _], rfl, HE.out, HBE.out⟩
end Tr
end Go.Proofs.Ytmajlgnjgnodoaa

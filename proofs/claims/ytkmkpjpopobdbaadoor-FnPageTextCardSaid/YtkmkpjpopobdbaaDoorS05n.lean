/- Physical frames: the specification's FramesNew. -/
import Derived.Test.YtkmkpjpopobdbaaDoorS05d
import Derived.Test.YtkmkpjpopobdbaaDoorNw
import Derived.Deep.AppendLies
import Derived.Deep.RegionLaw
import Derived.Deep.OwnRows
import Derived.Laws.OwnMore
namespace Go.Proofs.YtkmkpjpopobdbaaDoor
open Go.RowKit
set_option linter.unusedVariables false
namespace Tr
set_option maxHeartbeats 1000000 in
theorem spec_FramesNew (n : Int) (w : World) (hp : okI n) : Calls Tryd.prog 54 #[.int .i64 n] w (RetM (fun us => .tuple #[.agg us.toArray, .bool (pFramesNew n).2]) (eFrames (pFramesNew n).1) w) := by
  obtain ⟨i0, hi, hz0, hz1, hz2⟩ := info_parts infoBB
  obtain ⟨k0, hk, hx0, hx1, hx2⟩ := info_parts infoIS
  obtain ⟨B, hs_B⟩ : ∃ B, w.heap.size = B := ⟨_, rfl⟩
  have hzo_ := hs_B
  have hx_ : (w.alloc (.cells #[.slice none 0 0, .slice none 0 0] 27)).heap[B]? = some (.cells #[.slice none 0 0, .slice none 0 0] 27 (0, 0)) := by rw [← hzo_]; exact heap_alloc_new w _
  have hb_ : Below w.heap.size w (w.alloc (.cells #[.slice none 0 0, .slice none 0 0] 27)) := (Below.refl _ _).alloc (Nat.le_refl _) _
  have hz_ : (w.alloc (.cells #[.slice none 0 0, .slice none 0 0] 27)).heap.size = B + 1 := by simp [hzo_]
  obtain ⟨w0, hw_⟩ : ∃ z, (w.alloc (.cells #[.slice none 0 0, .slice none 0 0] 27)) = z := ⟨_, rfl⟩
  rw [hw_] at hx_ hb_ hz_
  have HX_w0 := Lib.hid hx_
  have HB_w0 := Lib.hid hb_
  have HW_w0 := Lib.hid hw_
  have hz_w0 := Lib.hid hz_
  clear hx_ hb_ hw_ hz_ hzo_
  have hzo_ := hz_w0.out
  have hx_ : (w0.alloc (.cells #[.slice none 0 0, .slice none 0 0] 27)).heap[B + 1]? = some (.cells #[.slice none 0 0, .slice none 0 0] 27 (0, 0)) := by rw [← hzo_]; exact heap_alloc_new w0 _
  have hb_ : Below w0.heap.size w0 (w0.alloc (.cells #[.slice none 0 0, .slice none 0 0] 27)) := (Below.refl _ _).alloc (Nat.le_refl _) _
  have hz_ : (w0.alloc (.cells #[.slice none 0 0, .slice none 0 0] 27)).heap.size = B + 1 + 1 := by simp [hzo_]
  obtain ⟨w1, hw_⟩ : ∃ z, (w0.alloc (.cells #[.slice none 0 0, .slice none 0 0] 27)) = z := ⟨_, rfl⟩
  rw [hw_] at hx_ hb_ hz_
  have HX_w1 := Lib.hid hx_
  have HB_w1 := Lib.hid hb_
  have HW_w1 := Lib.hid hw_
  have hz_w1 := Lib.hid hz_
  clear hx_ hb_ hw_ hz_ hzo_
  have HB1 := Lib.hid (below_step HB_w0.out HB_w1.out)
  have HX0 := Lib.hid ((HB_w1.out.block _ (by have := hz_w0.out; omega)).trans HX_w0.out)
  have hs1 : B + 1 + 1 ≤ w1.heap.size := by have := hz_w1.out; omega
  by_cases hin : 1 ≤ n ∧ n ≤ 32
  · obtain ⟨h1, h2⟩ := hin
    obtain ⟨N, rfl⟩ := Int.eq_ofNat_of_zero_le (show 0 ≤ n by omega)
    have HF : Hid (pFramesNew (N : Int) = (⟨List.replicate N (List.replicate 16 0), List.replicate N false⟩, true)) := by show _ = _; unfold pFramesNew; rw [if_pos ⟨h1, h2⟩, Int.toNat_natCast]
    have hN : N ≤ 32 := by omega
    obtain ⟨l, hl⟩ : ∃ l, List.replicate N (List.replicate 16 (0 : Int)) = l := ⟨_, rfl⟩
    obtain ⟨m, hm⟩ : ∃ m, List.replicate N false = m := ⟨_, rfl⟩
    rw [hl, hm] at HF
    have HL := Lib.hid hl
    have HM := Lib.hid hm
    obtain ⟨MM, hM⟩ : ∃ M, madeCells #[.int .i64 0] 16 = M := ⟨_, rfl⟩
    have hmk : ∀ W : World, (Instr.makeSlice 34 (.int .i64 16) (.int .i64 16)).run Tryd.prog W = .ok (.slice (some ⟨W.heap.size, 0, none⟩) 16 16) (W.alloc (.cells MM 3)) := fun W => by
      rw [← hM]; exact run_make_row' 34 3 (.int .i64 0) 8 Tryd.underlying34 infoII rfl .i64 .i64 16 (by omega) (by omega) W
    have HMM := Lib.hid hM
    clear hl hm hM
    go_enter Tryd.func54, Tryd.ntmps54
    go_wp2_with fail
    rw [HW_w0.out, HW_w1.out]
    refine (Bm.in_yes _ _ _ _ h1 h2).mono ?_
    rintro e w' ⟨rfl, rfl⟩
    go_wp2_with fail
    go_loopw [5] (fun c wr => ∃ (i : Nat) (u v : Value), i ≤ N ∧ c = .int .i64 i ∧ Hid (NwRel 34 4 eIntS l m (B + 1 + 1) i i u v wr) ∧ Hid (wr.heap[B + 1]? = some (.cells #[u, v] 27 (0, 0))) ∧ Hid (Below (B + 1) w1 wr)) (fun c _ => N - (intOf c).toNat)
    case atStart => exact ⟨0, _, _, Nat.zero_le _, rfl, nw_zero _ _ _ _ _ _ _, HX_w1.out, Below.refl _ _⟩
    case round =>
      obtain ⟨i, u, v, hiN, rfl, HNW, HXC, HBL⟩ := hrel
      have hsr : B + 1 + 1 ≤ wr.heap.size := by have := HBL.out.size; omega
      by_cases hlt : (i : Int) < N
      · obtain ⟨⟨ua, uc, rfl⟩, va, vc, rfl⟩ := nw_slices HNW.out
        have hrl : l[i]? = some (List.replicate 16 0) := by rw [← HL.out, List.getElem?_replicate, if_pos (by omega)]
        have hml : m[i]? = some false := by rw [← HM.out, List.getElem?_replicate, if_pos (by omega)]
        have HRL := Lib.hid hrl
        have HML := Lib.hid hml
        clear hrl hml
        have hc0 : wr.cell? ⟨B + 1, 0, none⟩ = some (.slice ua i uc) := cell_of_block HXC.out 0
        have hBw : B + 1 < wr.heap.size := by omega
        obtain ⟨xs, HNX⟩ := HNW.out
        have HROW := Lib.hid HNX.rowu
        have HNX := Lib.hid HNX
        have hbb5 : Below wr.heap.size wr (wr.drew.alloc (.cells MM 3)) := ((Below.refl wr.heap.size wr).drew).alloc (Nat.le_refl _) _
        have hb5 : Below (B + 1 + 1) wr (wr.drew.alloc (.cells MM 3)) := hbb5.mono hsr
        have hz5 : B + 1 + 1 ≤ (wr.drew.alloc (.cells MM 3)).heap.size := Nat.le_trans hsr hb5.size
        have hrow5 := row_below HROW.out hbb5
        have hlit := World.ownsRow_lit (e := 3) (size := 1) (base := wr.heap.size) wr.drew MM 16 (Nat.le_refl _) (by unfold maxLen; omega) (by rw [← HMM.out, size_madeCells])
        have hlist : MM.toList = (List.replicate 16 (0 : Int)).map (Value.int .i64) := by rw [← HMM.out, toList_madeCells_one, List.map_replicate]
        rw [hlist] at hlit
        have HE5 := Lib.hid (ints_owned hlit (by simp))
        have hcm0 : (wr.alloc (.cells MM 3)).cell? ⟨B + 1, 0, none⟩ = some (.slice ua i uc) := (((Below.refl wr.heap.size wr).alloc (Nat.le_refl _) _).cell (p := ⟨B + 1, 0, none⟩) hBw).trans hc0
        have hcm1 : ((wr.alloc (.cells MM 3)).alloc (.cells #[.slice (some ⟨wr.heap.size, 0, none⟩) 16 16] 34)).cell? ⟨B + 1, 0, none⟩ = some (.slice ua i uc) := ((((Below.refl wr.heap.size wr).alloc (Nat.le_refl _) (.cells MM 3)).alloc (by simp) (.cells #[.slice (some ⟨wr.heap.size, 0, none⟩) 16 16] 34)).cell (p := ⟨B + 1, 0, none⟩) hBw).trans hc0
        clear hlit hlist
        go_wp2_with fail
        go_region_law (refine step_append_lies _ rfl (.tmp 17) (.tmp 19) 24 (by simp) (B + 1 + 1) 34 k0 (.slice none 0 0) 1 24 Tryd.underlying24 hk hx0 hx1 hx2 rfl (by omega) (.slice ua i uc) i xs (by simp [Act.eval]) (hrow5.alloc _) ⟨(wr.drew.alloc (.cells MM 3)).heap.size, 0, none⟩ 1 1 [.slice (some ⟨wr.heap.size, 0, none⟩) 16 16] (by simp [Act.eval]) rfl (World.news_of_block (cs := #[_]) (heap_alloc_new (wr.drew.alloc (.cells MM 3)) _)) (by intro y hy; rw [List.mem_singleton] at hy; subst hy; rfl) (by omega) (by unfold maxLen; omega) (by omega) (by simp <;> omega) (wr.heap.size + 1 + 1) (by simp) ?_; intro g6 cap6 w6 hown6 hgrow6 hlie6 hlt6; have hb6 : Below (B + 1 + 1) wr w6 := (hb5.alloc hz5 _).grown hgrow6 (by simp <;> omega) (fun y hy => (HROW.out.lt y hy).1); have hx6 := (hb6.block (B + 1) (by omega)).trans HXC.out; have hfr6 := free_of_block hx6 0; have hk6 : w6.cell? ⟨B + 1, 0, none⟩ = some (.slice ua i uc) := cell_of_block hx6 0; have HX7 := Lib.hid (block_set hx6 0 (.slice (some ⟨g6, 0, none⟩) (i + 1) cap6)); have HN7 := Lib.hid (nw_set (p := ⟨B + 1, 0, none⟩) (nw_cells HNX.out HRL.out hbb5 hsr HE5.out (by simp) hown6 hgrow6 hlie6) (by show B + 1 < B + 1 + 1; omega) (.slice (some ⟨g6, 0, none⟩) (i + 1) cap6)); have HB7 := Lib.hid ((HBL.out.trans (hb6.mono (Nat.le_succ _))).setCell (p := ⟨B + 1, 0, none⟩) (by show B + 1 ≤ B + 1; omega) (.slice (some ⟨g6, 0, none⟩) (i + 1) cap6)))
        all_goals
          (obtain ⟨w7, hw7⟩ : ∃ w7, w6.setCell ⟨B + 1, 0, none⟩ (.slice (some ⟨g6, 0, none⟩) (i + 1) cap6) = w7 := ⟨_, rfl⟩
           have HW7 := Lib.hid hw7
           rw [hw7] at HX7 HN7 HB7
           clear hw7
           have hs7 : B + 1 + 1 ≤ w7.heap.size := (by have := HB7.out.size; omega)
           have hv7 := nw_rowv HN7.out
           obtain ⟨ys, hys⟩ : ∃ ys, (m.take i).map Value.bool = ys := ⟨_, rfl⟩
           rw [hys] at hv7
           have HYS := Lib.hid hys
           clear hys
           have hk71 : w7.cell? ⟨B + 1, 1, none⟩ = some (.slice va i vc) := cell_of_block HX7.out 1
           have hba : Below w7.heap.size w7 (w7.alloc (.cells #[.bool false] 4)) := (Below.refl _ _).alloc (Nat.le_refl _) _
           have HV7 := Lib.hid hv7
           clear hx6 hb6 hown6 hgrow6 hlie6 hk6 hfr6
           rw [HW7.out]
           go_wp2_with (at_builtin; refine wpList_append_lies _ rfl (.tmp 23) (.tmp 24) 25 rfl (B + 1 + 1) 4 i0 (.bool false) 1 1 Tryd.underlying25 hi hz0 hz1 hz2 rfl (by omega) (.slice va i vc) i _ rfl (hv7.alloc _) ⟨w7.heap.size, 0, none⟩ 1 1 [.bool false] rfl rfl (World.news_of_block (cs := #[_]) (heap_alloc_new w7 _)) (by intro y hy; rw [List.mem_singleton] at hy; subst hy; rfl) (by omega) (by unfold maxLen; omega) (by omega) (by simp <;> omega) (w7.heap.size + 1) (by simp) ?_)
           intro g8 cap8 w8 hown8 hgrow8 hlie8 hlt8
           rw [← HYS.out] at hown8
           have hne8 : (Value.slice va i vc).ownBlock ≠ some (B + 1) := (fun e => by have := (HV7.out.lt _ e).1; omega)
           have hx8 := (hgrow8.block (B + 1) (by simp; omega) (fun e => hne8 e.symm)).trans ((hba.block (B + 1) (by omega)).trans HX7.out)
           have hk81 : w8.cell? ⟨B + 1, 1, none⟩ = some (.slice va i vc) := cell_of_block hx8 1
           have hf81 := free_of_block hx8 1
           have HX9 := Lib.hid (block_set hx8 1 (.slice (some ⟨g8, 0, none⟩) (i + 1) cap8))
           have HN9 := Lib.hid (nw_set (p := ⟨B + 1, 1, none⟩) (nw_used HN7.out HML.out hba (by simp) hown8 hgrow8 hlie8) (by show B + 1 < B + 1 + 1; omega) (.slice (some ⟨g8, 0, none⟩) (i + 1) cap8))
           have HB9 := Lib.hid ((HB7.out.trans ((hba.mono (by omega)).grown hgrow8 (by simp; omega) (fun y hy => by have := (HV7.out.lt y hy).1; omega))).setCell (p := ⟨B + 1, 1, none⟩) (by show B + 1 ≤ B + 1; omega) (.slice (some ⟨g8, 0, none⟩) (i + 1) cap8))
           clear hx8 hown8 hgrow8 hlie8 hba hv7)
        all_goals go_wp2
        all_goals go_roundw
        all_goals first
          | exact ⟨i + 1, _, _, by omega, by go_num, HN9.out, HX9.out, HB9.out⟩
          | (simp [intOf]; omega)
      · obtain ⟨⟨ua, uc, rfl⟩, va, vc, rfl⟩ := nw_slices HNW.out
        obtain rfl : i = N := by omega
        have ho := nw_end (fun _ => rfl) HNW.out (by rw [← HL.out, List.length_replicate]) (by rw [← HM.out, List.length_replicate])
        have hx0' := (HBL.out.block B (by omega)).trans HX0.out
        have hbw := HB1.out.trans (HBL.out.mono (by omega))
        obtain ⟨r0, r1, r2, r3, HG, HE, HBE⟩ := fr_ret (f := ⟨l, m⟩) (by omega) hbw ho (by omega) hx0'
        have hk0 : wr.cell? ⟨B + 1, 0, none⟩ = some (.slice ua i uc) := cell_of_block HXC.out 0
        have hk1 : wr.cell? ⟨B + 1, 1, none⟩ = some (.slice va i vc) := cell_of_block HXC.out 1
        clear ho hx0' hbw
        go_wp2
        refine ret_ct rfl HG.out rfl Tryd.underlying27 rfl sizeF rfl ?_
        rw [HF.out]
        exact ⟨[_, _], rfl, HE.out, HBE.out⟩
  · have HF : Hid (pFramesNew n = (⟨[], []⟩, false)) := by show _ = _; unfold pFramesNew; rw [if_neg hin]
    have HI := Lib.hid hin
    have HG := Lib.hid (block_set (block_set HX0.out 0 (.slice none 0 0)) 1 (.slice none 0 0))
    have ho : Owned w1 (B + 1) (eFrames ⟨[], []⟩) [.slice none 0 0, .slice none 0 0] := nw_end (E := eIntS) (fun _ => rfl) (nw_zero _ _ _ [] [] _ _) rfl rfl
    obtain ⟨r0, r1, r2, r3, HG, HE, HBE⟩ := fr_ret (by omega) HB1.out ho (by omega) HX0.out
    have hk0 : w1.cell? ⟨B + 1, 0, none⟩ = some (.slice none 0 0) := cell_of_block HX_w1.out 0
    have hk1 : w1.cell? ⟨B + 1, 1, none⟩ = some (.slice none 0 0) := cell_of_block HX_w1.out 1
    clear hin ho
    go_enter Tryd.func54, Tryd.ntmps54
    go_wp2_with fail
    rw [HW_w0.out, HW_w1.out]
    refine (Bm.in_no _ _ _ _ HI.out).mono ?_
    rintro e w' ⟨rfl, rfl⟩
    go_wp2
    refine ret_ct rfl HG.out rfl Tryd.underlying27 rfl sizeF rfl ?_
    rw [HF.out]
    exact ⟨[_, _], rfl, HE.out, HBE.out⟩
end Tr
end Go.Proofs.YtkmkpjpopobdbaaDoor

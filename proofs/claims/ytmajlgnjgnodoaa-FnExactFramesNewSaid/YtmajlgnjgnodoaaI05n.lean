/- Physical frames: the program's FramesNew. -/
import Derived.Test.YtmajlgnjgnodoaaI05c
import Derived.Test.YtmajlgnjgnodoaaNw
import Derived.Deep.OwnRows
import Derived.Laws.OwnMore
namespace Go.Proofs.Ytmajlgnjgnodoaa
open Go.RowKit
set_option linter.unusedVariables false
namespace Tr
set_option maxHeartbeats 1000000 in
theorem impl_FramesNew (n : Int) (w : World) (hp : okI n) : Calls Try.prog 26 #[.int .i64 n] w (RetM (fun us => .tuple #[.agg us.toArray, .bool (pFramesNew n).2]) (eFrames (pFramesNew n).1) w) := by
  obtain ⟨i0, hi, hz0, hz1, hz2⟩ := info_parts infoBB
  obtain ⟨k0, hk, hx0, hx1, hx2⟩ := info_parts infoIS
  obtain ⟨B, hs_B⟩ : ∃ B, w.heap.size = B := ⟨_, rfl⟩
  have hzo_ := hs_B
  have hx_ : (w.alloc (.cells #[.slice none 0 0, .slice none 0 0] 27)).heap[B]? = some (.cells #[.slice none 0 0, .slice none 0 0] 27 (0, 0)) := by rw [← hzo_]; exact heap_alloc_new w _
  have hb_ : Below w.heap.size w (w.alloc (.cells #[.slice none 0 0, .slice none 0 0] 27)) := (Below.refl _ _).alloc (Nat.le_refl _) _
  have hz_ : (w.alloc (.cells #[.slice none 0 0, .slice none 0 0] 27)).heap.size = B + 1 := by simp [hzo_]
  obtain ⟨w0, hw_⟩ : ∃ z, (w.alloc (.cells #[.slice none 0 0, .slice none 0 0] 27)) = z := ⟨_, rfl⟩
  rw [hw_] at hx_ hb_ hz_
  have HX_w0 := Lib.hid hx_
  have HB_w0 := Lib.hid hb_
  have HW_w0 := Lib.hid hw_
  have hz_w0 := Lib.hid hz_
  clear hx_ hb_ hw_ hz_ hzo_
  obtain ⟨R, hR⟩ : ∃ R, B + 1 = R := ⟨_, rfl⟩
  have HZ1 : Hid (w0.heap.size = R) := by rw [← hR]; exact hz_w0
  have HWB := Lib.hid hs_B
  by_cases hlo : 1 ≤ n
  · by_cases hhi : n ≤ 32
    · have g1 : decide (n < 1) = false := decide_eq_false (by omega)
      have g2 : decide (32 < n) = false := decide_eq_false (by omega)
      obtain ⟨N, rfl⟩ := Int.eq_ofNat_of_zero_le (show 0 ≤ n by omega)
      have HF : Hid (pFramesNew (N : Int) = (⟨List.replicate N (List.replicate 16 0), List.replicate N false⟩, true)) := by show _ = _; unfold pFramesNew; rw [if_pos ⟨hlo, hhi⟩, Int.toNat_natCast]
      have hN : N ≤ 32 := by omega
      obtain ⟨l, hl⟩ : ∃ l, List.replicate N (List.replicate 16 (0 : Int)) = l := ⟨_, rfl⟩
      have hll : l.length = N := by rw [← hl, List.length_replicate]
      rw [hl] at HF
      have HL := Lib.hid hl
      have HLL := Lib.hid hll
      obtain ⟨MM, hM⟩ : ∃ M, madeCells #[.int .i64 0] 16 = M := ⟨_, rfl⟩
      have hmk : ∀ W : World, (Instr.makeSlice 38 (.int .i64 16) (.int .i64 16)).run Try.prog W = .ok (.slice (some ⟨W.heap.size, 0, none⟩) 16 16) (W.alloc (.cells MM 3)) := fun W => by
        rw [← hM]; exact run_make_row' 38 3 (.int .i64 0) 8 Try.underlying38 infoII rfl .i64 .i64 16 (by omega) (by omega) W
      have HMM : Hid (MM = ((List.replicate 16 (0 : Int)).map (Value.int .i64)).toArray) := by
        show _ = _
        rw [← hM, List.map_replicate, ← toList_madeCells_one]
      clear hl hM hll
      go_enter Try.func26, Try.ntmps26
      go_wp2_with (at_make; rw [HW_w0.out]; refine wpList_make_full _ rfl _ _ 24 rfl R 38 k0 (.slice none 0 0) 1 Try.underlying24 hk hx0 hx1 _ _ _ _ N rfl rfl rfl rfl (by rw [hx2]; omega) (by unfold maxLen; omega) (by rw [HZ1.out]; exact Nat.le_refl _) ?_)
      rw [HZ1.out]
      intro w2 hown hgrow
      have H0 := own_made (z := (eIntS [])) (zc := [.slice none 0 0]) (k := 1) (by rw [Nat.mul_one]; exact hown) ⟨_, _, [], [], rfl, rfl, ⟨rfl, rfl⟩, Or.inl ⟨⟨none, rfl⟩, rfl, rfl, rfl⟩⟩ rfl (by omega) rfl
      have HB0 : Hid (Below R w0 w2) := (Below.refl _ _).grown hgrow (by rw [HZ1.out]; exact Nat.le_refl _) (fun _ h => by cases h)
      have e0 : List.replicate N (eIntS []) = fillTo eIntS (eIntS []) l 0 := by rw [fill_zero, HLL.out]
      rw [e0] at H0
      have HO1 : Hid (∃ bs, Own w2 (rowC 38 1 (fillTo eIntS (eIntS []) l 0)) [.slice (some ⟨R, 0, none⟩) N N] bs ∧ bs.Nodup ∧ ∀ b ∈ bs, R ≤ b) := ⟨[R], H0, by simp, by simp⟩
      clear H0 hown hgrow e0
      go_wp2_with fail
      go_loopw [17] (fun c wr => ∃ (i : Nat), i ≤ N ∧ c = .int .i64 i ∧ Hid (∃ bs, Own wr (rowC 38 1 (fillTo eIntS (eIntS []) l i)) [.slice (some ⟨R, 0, none⟩) N N] bs ∧ bs.Nodup ∧ ∀ b ∈ bs, R ≤ b) ∧ Hid (Below R w0 wr)) (fun c _ => N - (intOf c).toNat)
      case atStart => exact ⟨0, Nat.zero_le _, rfl, HO1.out, HB0.out⟩
      case round =>
        clear HO1 HB0
        obtain ⟨i, hi', rfl, HO, HBL⟩ := hrel
        have hRw : R ≤ wr.heap.size := by have := HBL.out.size; have := HZ1.out; omega
        by_cases hlt : (i : Int) < N
        · have hi0 : (0 : Int) ≤ i := by omega
          have hr : l[i]? = some (List.replicate 16 0) := by rw [← HL.out, List.getElem?_replicate, if_pos (by omega)]
          obtain ⟨H, hH⟩ : ∃ H, wr.heap.size = H := ⟨_, rfl⟩
          obtain ⟨w3, hw3⟩ : ∃ w3, wr.alloc (.cells MM 3) = w3 := ⟨_, rfl⟩
          have hb3 : Below H wr w3 := by rw [← hw3, ← hH]; exact (Below.refl _ _).alloc (Nat.le_refl _) _
          have hcuH : w3.heap[H]? = some (.cells ((List.replicate 16 (0 : Int)).map (Value.int .i64)).toArray 3 (0, 0)) := by rw [← hw3, ← hH, ← HMM.out]; exact heap_alloc_new wr _
          obtain ⟨bs, hob, hnd, hbB⟩ := HO.out
          have hlt2 := own_lt _ hob
          rw [hH] at hlt2
          have hob2 := own_below hob hb3 hlt2
          obtain ⟨g1, o1, cur, us1, e1, hgb, hg, hm1, hset⟩ := fill_turn hob2 hnd hbB (fun _ => rfl) rfl hr
          simp only [Option.some.injEq, Addr.mk.injEq, and_true] at e1
          obtain ⟨rfl, rfl⟩ := e1
          simp only [Nat.zero_add, Nat.mul_one] at hm1 hset
          have hul := hm1.1
          match us1, hul, hm1 with
          | [z0], _, hm1 =>
          have hRH : R < H := hlt2 R hgb
          have hk0 : w3.cell? ⟨R, i, none⟩ = some z0 := (Mid.cell (m := i) (k := 1) hm1 hg 0 (by omega))
          have hf0 := free_of_block hg (i)
          have hm2 := Mid.set (k := 1) hm1 0 (by omega) (.slice (some ⟨H, 0, none⟩) 16 16)
          have ho5 := own_ints_block (w := w3.setCell ⟨R, i, none⟩ (.slice (some ⟨H, 0, none⟩) 16 16)) ((Below.heap_setCell _ _ _ _ (by show H ≠ R; omega)).trans hcuH) (by rw [List.length_replicate]; unfold maxLen; omega)
          rw [List.length_replicate] at ho5
          have HO2 := Lib.hid (hset _ _ _ [H] (block_set hg i (.slice (some ⟨H, 0, none⟩) 16 16)) hm2 (fun y hy hyR => Below.heap_setCell _ _ _ _ hyR) ho5 (by simp) (fun y hy => by rw [List.mem_singleton] at hy; subst hy; exact ⟨by omega, fun hh => by have := hlt2 _ hh; omega⟩))
          have HB2 : Hid (Below R w0 (w3.setCell ⟨R, i, none⟩ (.slice (some ⟨H, 0, none⟩) 16 16))) := (HBL.out.trans (hb3.mono (by omega))).setCell (p := ⟨R, i, none⟩) (Nat.le_refl _) _
          obtain ⟨w4, hw4⟩ : ∃ w4, w3.setCell ⟨R, i, none⟩ (.slice (some ⟨H, 0, none⟩) 16 16) = w4 := ⟨_, rfl⟩
          rw [hw4] at HO2 HB2
          rw [← hw3] at hk0 hf0
          have HW4 : Hid ((wr.setCell ⟨R, i, none⟩ (.slice (some ⟨H, 0, none⟩) 16 16)).alloc (.cells MM 3) = w4) := by rw [← World.setCell_alloc_past _ _ _ _ (by omega), hw3]; exact hw4
          clear hset hm1 hm2 hg hob hob2 hnd hbB hlt2 hr ho5 hcuH hw3 hw4 hul hb3
          go_wp2
          rw [HW4.out]
          go_roundw
          case rel => exact ⟨i + 1, by omega, by go_num, HO2.out, HB2.out⟩
          case measure => simp [intOf]; omega
        · obtain rfl : N = i := by omega
          have HE1 : Hid (Owned wr R (eIntSS l) [.slice (some ⟨R, 0, none⟩) N N]) := by
            show Owned _ _ _ _
            have := HO.out
            rw [show fillTo eIntS (eIntS []) l N = l.map eIntS by rw [← HLL.out]; exact fill_all _ _ _] at this
            exact this
          have HXR := Lib.hid ((HBL.out.block B (by omega)).trans HX_w0.out)
          have HBW : Hid (Below w.heap.size w wr) := HB_w0.out.trans (HBL.out.mono (by rw [HWB.out]; omega))
          obtain ⟨H, hH⟩ : ∃ H, wr.heap.size = H := ⟨_, rfl⟩
          have HH := Lib.hid hH
          go_wp2_with (at_make; refine wpList_make_full _ rfl _ _ 25 rfl H 4 i0 (.bool false) 1 Try.underlying25 hi hz0 hz1 _ _ _ _ N rfl rfl rfl rfl (by rw [hz2]; omega) (by unfold maxLen; omega) (by rw [HH.out]; exact Nat.le_refl _) ?_)
          intro w5 hown5 hgrow5
          have hb5 : Below H wr w5 := (Below.refl _ _).grown hgrow5 (by rw [HH.out]; exact Nat.le_refl _) (fun _ h => by cases h)
          have hE5 := own_made (z := (eB false)) (zc := [.bool false]) (k := 1) (by rw [Nat.mul_one]; exact hown5) ⟨_, rfl, ⟨rfl, rfl⟩⟩ rfl (by omega) rfl
          rw [← List.map_replicate (f := eB)] at hE5
          have hE6 : Owned w5 wr.heap.size (eBoolS (List.replicate N false)) [.slice (some ⟨H, 0, none⟩) N N] := ⟨[H], hE5, by simp, by intro b hb; rw [List.mem_singleton] at hb; subst hb; omega⟩
          have ho := owned_join HE1.out (by rw [HH.out]; exact hb5) hE6 hRw
          obtain ⟨r0, r1, r2, r3, HG, HE, HBE⟩ := fr_ret (f := ⟨l, List.replicate N false⟩) (C := B) (by omega) (below_step HBW.out (by rw [HH.out]; exact hb5)) ho (by omega) ((hb5.block B (by omega)).trans HXR.out)
          clear hown5 hgrow5 hb5 hE5 hE6 ho
          go_wp2
          refine ret_ct rfl HG.out rfl Try.underlying27 rfl sizeF rfl ?_
          rw [HF.out]
          exact ⟨[_, _], rfl, HE.out, HBE.out⟩
    · have g1 : decide (n < 1) = false := decide_eq_false (by omega)
      have g2 : decide (32 < n) = true := decide_eq_true (by omega)
      have HF : Hid (pFramesNew n = (⟨[], []⟩, false)) := by show _ = _; unfold pFramesNew; rw [if_neg (fun h => hhi h.2)]
      have ho : Owned w0 (B + 1) (eFrames ⟨[], []⟩) [.slice none 0 0, .slice none 0 0] := nw_end (E := eIntS) (fun _ => rfl) (nw_zero _ _ _ [] [] _ _) rfl rfl
      have HE := Lib.hid (ho.mono (B' := w.heap.size) (by omega))
      clear hlo hhi ho hR
      go_enter Try.func26, Try.ntmps26
      go_wp2_with fail
      rw [HW_w0.out]
      refine ret_ct rfl HX_w0.out rfl Try.underlying27 rfl sizeF rfl ?_
      rw [HF.out]
      exact ⟨[_, _], rfl, HE.out, HB_w0.out⟩
  · have g1 : decide (n < 1) = true := decide_eq_true (by omega)
    have HF : Hid (pFramesNew n = (⟨[], []⟩, false)) := by show _ = _; unfold pFramesNew; rw [if_neg (fun h => hlo h.1)]
    have ho : Owned w0 (B + 1) (eFrames ⟨[], []⟩) [.slice none 0 0, .slice none 0 0] := nw_end (E := eIntS) (fun _ => rfl) (nw_zero _ _ _ [] [] _ _) rfl rfl
    have HE := Lib.hid (ho.mono (B' := w.heap.size) (by omega))
    clear hlo ho hR
    go_enter Try.func26, Try.ntmps26
    go_wp2_with fail
    rw [HW_w0.out]
    refine ret_ct rfl HX_w0.out rfl Try.underlying27 rfl sizeF rfl ?_
    rw [HF.out]
    exact ⟨[_, _], rfl, HE.out, HB_w0.out⟩
end Tr
end Go.Proofs.Ytmajlgnjgnodoaa

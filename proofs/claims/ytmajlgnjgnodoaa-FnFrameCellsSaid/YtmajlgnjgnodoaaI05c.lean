/- Physical frames: the program's copy of frames. -/
import Derived.Test.YtmajlgnjgnodoaaI05b
import Derived.Test.YtmajlgnjgnodoaaS05d
import Derived.Deep.RegionLaw
import Derived.Laws.CopyOwn
import Derived.Lib.SliceRun
namespace Go.Proofs.Ytmajlgnjgnodoaa
open Go.RowKit
set_option linter.unusedVariables false
namespace Tr
theorem impl_Index (l : List Bool) (A : Option Addr) (n cap : Nat) (b : List Nat) (w : World) (h : Own w (eBoolS l) [.slice A n cap] b) (hn' : n ≤ 1048576) : Calls Try.prog 39 #[.slice A n cap, .bool false] w fun e w' => e = .returned (.int .i64 (freeAt 0 l)) ∧ w = w' := by
  obtain ⟨A', n', cap', e, hn, _, _, hA⟩ := read_bools (T := 4) h
  rw [Value.slice.injEq] at e
  obtain ⟨rfl, rfl, rfl⟩ := e
  have HA := Lib.hid hA
  have HN := Lib.hid hn
  clear h hA hn
  go_enter Try.func39, Try.ntmps39
  go_wp2_with fail
  go_loop [8] (fun c => ∃ i : Nat, i ≤ n ∧ c = .int .i64 i ∧ Hid (∀ u ∈ l.take i, u = true)) (fun c => n - (intOf c).toNat)
  case atStart => exact ⟨0, Nat.zero_le _, rfl, by intro p hp; simp at hp⟩
  case round =>
    obtain ⟨i, hi, rfl, HQ⟩ := hrel
    by_cases hlt : (i : Int) < n
    · have hi0 : (0 : Int) ≤ i := by omega
      obtain ⟨g2, o2, u, rfl, hu, hcu⟩ := HA.out i (by omega)
      have HU := Lib.hid hu
      clear hu
      cases u with
      | true =>
        have HQ2 : Hid (∀ u ∈ l.take (i + 1), u = true) := mem_take_succ HU.out HQ.out rfl
        go_wp2
        go_round
        case rel => exact ⟨i + 1, by omega, by go_num, HQ2.out⟩
        case measure => simp [intOf]; omega
      | false =>
        have HF : Hid (freeAt 0 l = (i : Int)) := freeAt_hit l i HU.out HQ.out
        go_wp2
        go_ret
        exact ⟨by rw [HF.out]; rfl, rfl⟩
    · obtain rfl : i = n := by omega
      have HF : Hid (freeAt 0 l = -1) := freeAt_none l (by have := HQ.out; rw [HN.out, List.take_length] at this; exact this)
      go_wp2
      go_ret
      exact ⟨by rw [HF.out]; rfl, rfl⟩
theorem impl_Clone (l : List Bool) (A : Option Addr) (n cap : Nat) (b : List Nat) (w : World) (h : Own w (eBoolS l) [.slice A n cap] b) (hs : (eBoolS l).sz ≤ 1048576) : Calls Try.prog 62 #[.slice A n cap] w (OwnP1 (eBoolS l) w) := by
  obtain ⟨hn, hn'⟩ := row_n (T := 4) (k := 1) (E := eB) (l := l) h hs
  have hq := fun w => Lib.run_eql_slice_nil (P := Try.prog) w 25 4 A n cap 0 0 Try.underlying25
  cases A with
  | none =>
    have hn0 : l = [] := by
      obtain ⟨v', vs', b1, b2, e1, e2, ⟨rfl, rfl⟩, h2⟩ := h
      obtain ⟨rfl, _⟩ := List.cons.inj e1
      rcases h2 with ⟨_, h0, _⟩ | ⟨g, o, cp, cur, b, e, _⟩
      · exact List.map_eq_nil_iff.1 (List.length_eq_zero_iff.1 h0)
      · rw [Value.slice.injEq] at e; cases e.1
    subst hn0
    have HF : Hid (Owned w w.heap.size (eBoolS []) [.slice none 0 0]) := ⟨[], ⟨_, [], [], [], rfl, rfl, ⟨rfl, rfl⟩, Or.inl ⟨⟨none, rfl⟩, rfl, rfl, rfl⟩⟩, by simp, by simp⟩
    clear h hn hs
    simp only [Option.isNone_none] at hq
    go_enter Try.func62, Try.ntmps62
    go_wp2
    go_ret
    exact ⟨_, rfl, HF.out, Below.refl _ _⟩
  | some ad =>
    simp only [Option.isNone_some] at hq
    have hu := h
    obtain ⟨i0, hi, hz0, hz1, hz2⟩ := info_parts infoBB
    obtain ⟨B, hs_B⟩ : ∃ B, w.heap.size = B := ⟨_, rfl⟩
    have hzo_ := hs_B
    have hx_ : (w.alloc (.cells #[] 4)).heap[B]? = some (.cells #[] 4 (0, 0)) := by rw [← hzo_]; exact heap_alloc_new w _
    have hb_ : Below w.heap.size w (w.alloc (.cells #[] 4)) := (Below.refl _ _).alloc (Nat.le_refl _) _
    have hz_ : (w.alloc (.cells #[] 4)).heap.size = B + 1 := by simp [hzo_]
    obtain ⟨w2, hw_⟩ : ∃ z, (w.alloc (.cells #[] 4)) = z := ⟨_, rfl⟩
    rw [hw_] at hx_ hb_ hz_
    have HX_w2 := Lib.hid hx_
    have HB_w2 := Lib.hid hb_
    have HW_w2 := Lib.hid hw_
    have hz_w2 := Lib.hid hz_
    clear hx_ hb_ hw_ hz_ hzo_
    have HU := Lib.hid (own_below h HB_w2.out (own_lt _ h))
    have hown : w2.ownsRow B 4 1 (.slice (some ⟨B, 0, none⟩) 0 0) 0 [] := ⟨by simp, .inr ⟨_, 0, _, rfl, Nat.le_refl _, HX_w2.out, Nat.le_refl _, by unfold maxLen; omega, rfl, by simp⟩⟩
    have HO := Lib.hid hown
    have HSB := Lib.hid hs_B
    clear h hs hown hu hn
    go_enter Try.func62, Try.ntmps62
    go_wp2_with (at_builtin; rw [HW_w2.out]; refine wpList_copy_flat rfl _ _ 25 rfl B 4 i0 _ 1 1 Try.underlying25 hi hz0 hz1 hz2 rfl (by omega) _ rfl HO.out (some ad) n cap rfl eB l _ HU.out (fun _ => rfl) (fun _ => ⟨rfl, trivial⟩) (by omega) (by omega) (by have := hz_w2.out; omega) ?_)
    intro v' w3 hown3 hgrow
    have HU3 := Lib.hid hown3
    have HB3 := Lib.hid (HB_w2.out.grown hgrow (by have := hz_w2.out; omega) (fun k hk => by have : B = k := (by simpa [Value.ownBlock] using hk); omega))
    clear hown3 hgrow hq
    go_wp2
    go_ret
    exact ⟨_, rfl, HU3.out.mono (by rw [HSB.out]; exact Nat.le_refl _), HB3.out⟩
theorem splice_all {α : Type} (L cs : List α) (h : cs.length = L.length) : splice L 0 cs = cs := by
  unfold splice
  rw [List.take_zero, List.nil_append, Nat.zero_add, List.drop_of_length_le (by omega), List.append_nil]
theorem own_ints_block {w : World} {T g : Nat} {r : List Int} (hg : w.heap[g]? = some (.cells (r.map (Value.int .i64)).toArray T (0, 0))) (hm : r.length ≤ maxLen) : Own w (rowD T 1 eI r) [.slice (some ⟨g, 0, none⟩) r.length r.length] [g] := by
  refine ⟨_, [], [g], [], rfl, rfl, ⟨rfl, rfl⟩, Or.inr ⟨g, 0, _, _, [], by rw [List.length_map], rfl, hg, by rw [List.length_map]; exact Nat.le_refl _, hm, by simp, ?_⟩⟩
  rw [List.drop_zero, List.length_map, Nat.mul_one, List.take_of_length_le (by simp)]
  exact own_ints w r
theorem owned_join {w0 w : World} {B : Nat} {d e : D} {v1 v2 : List Value} (h1 : Owned w0 B d v1) (hb : Below w0.heap.size w0 w) (h2 : Owned w w0.heap.size e v2) (hB : B ≤ w0.heap.size) : Owned w B (d.app e) (v1 ++ v2) := by
  obtain ⟨q1, o1, d1, l1⟩ := h1
  obtain ⟨q2, o2, d2, l2⟩ := h2
  refine ⟨q1 ++ q2, (own_app _ _).2 ⟨_, _, q1, q2, rfl, rfl, own_below o1 hb (own_lt _ o1), o2⟩, ?_, ?_⟩
  · rw [List.nodup_append]
    exact ⟨d1, d2, fun a ha c hc e => by have h1 := own_lt _ o1 a ha; have h2 := l2 c hc; omega⟩
  · intro b hb
    rw [List.mem_append] at hb
    rcases hb with hb | hb
    · exact l1 b hb
    · have := l2 b hb; omega
theorem copy_src {w : World} {T m cap : Nat} {A : Option Addr} {r : List Int} {b : List Nat} (h : Own w (rowD T 1 eI r) [.slice A m cap] b) : 0 < (r.map (Value.int .i64)).length → ∃ ad, A = some ad ∧ ∀ j v, (r.map (Value.int .i64))[j]? = some v → w.cell? (ad.add j) = some v := by
  intro h0
  rw [List.length_map] at h0
  obtain ⟨A', n', cap', e, hn, _, _, hA⟩ := read_ints h
  rw [Value.slice.injEq] at e
  obtain ⟨rfl, rfl, rfl⟩ := e
  obtain ⟨g, o, _, e, _, _⟩ := hA 0 (by omega)
  subst e
  refine ⟨_, rfl, fun j v hv => ?_⟩
  rw [List.getElem?_map, Option.map_eq_some_iff] at hv
  obtain ⟨x, hx, rfl⟩ := hv
  have hj : j < r.length := (List.getElem?_eq_some_iff.1 hx).1
  obtain ⟨g', o', x', e, hx', hc⟩ := hA j (by omega)
  obtain ⟨rfl, rfl⟩ : g = g' ∧ o = o' := by simpa using e
  rw [hx] at hx'
  obtain rfl := Option.some.inj hx'
  rw [Addr.add_lit]
  exact hc
theorem sizeI : (Try.prog.info? 3).map (·.size) = some 1 := by kernel_rfl
set_option maxHeartbeats 1000000 in
theorem impl_copyFrames (f : GFrames) (c0 c1 : Value) (w : World) (h : Rd w (eFrames f) [c0, c1]) (hs : (eFrames f).sz ≤ 1048576) : Calls Try.prog 38 #[.agg #[c0, c1]] w (RetM (fun us => .agg us.toArray) (eFrames f) w) := by
  obtain ⟨bs, h⟩ := h
  obtain ⟨b0, b1, rfl, h0, h1⟩ := parts_Frames h
  rw [sz_Frames] at hs
  have hsC : (eIntSS f.Cells).sz ≤ 1048576 := by omega
  have hsU : (eBoolS f.Used).sz ≤ 1048576 := by omega
  have hl := sz_len (T := 38) (k := 1) (E := eIntS) (l := f.Cells) (n := 1048576) hsC
  obtain ⟨A, n, cap, rfl, hn, _, _, hA⟩ := read_rowD (T := 38) (E := eIntS) (k := 1) h0 (fun _ => rfl)
  obtain ⟨A2, n2, cap2, rfl⟩ := own_slice h1
  obtain ⟨j0, hj, hy0, hy1, hy2⟩ := info_parts infoII
  obtain ⟨k0, hk, hx0, hx1, hx2⟩ := info_parts infoIS
  obtain ⟨B, hs_B⟩ : ∃ B, w.heap.size = B := ⟨_, rfl⟩
  have hzo_ := hs_B
  have hx_ : (w.alloc (.cells #[.slice A n cap, .slice A2 n2 cap2] 27)).heap[B]? = some (.cells #[.slice A n cap, .slice A2 n2 cap2] 27 (0, 0)) := by rw [← hzo_]; exact heap_alloc_new w _
  have hb_ : Below w.heap.size w (w.alloc (.cells #[.slice A n cap, .slice A2 n2 cap2] 27)) := (Below.refl _ _).alloc (Nat.le_refl _) _
  have hz_ : (w.alloc (.cells #[.slice A n cap, .slice A2 n2 cap2] 27)).heap.size = B + 1 := by simp [hzo_]
  obtain ⟨w0, hw_⟩ : ∃ z, (w.alloc (.cells #[.slice A n cap, .slice A2 n2 cap2] 27)) = z := ⟨_, rfl⟩
  rw [hw_] at hx_ hb_ hz_
  have HX_w0 := Lib.hid hx_
  have HB_w0 := Lib.hid hb_
  have HW_w0 := Lib.hid hw_
  have hz_w0 := Lib.hid hz_
  clear hx_ hb_ hw_ hz_ hzo_
  have hzo_ := hz_w0.out
  have hx_ : (w0.alloc (.cells #[.slice none 0 0, .slice none 0 0] 27)).heap[B + 1]? = some (.cells #[.slice none 0 0, .slice none 0 0] 27 (0, 0)) := by rw [← hzo_]; exact heap_alloc_new w0 _
  have hb_ : Below w0.heap.size w0 (w0.alloc (.cells #[.slice none 0 0, .slice none 0 0] 27)) := (Below.refl _ _).alloc (Nat.le_refl _) _
  have hz_ : (w0.alloc (.cells #[.slice none 0 0, .slice none 0 0] 27)).heap.size = B + 1 + 1 := by simp [hzo_]
  obtain ⟨w1, hw_⟩ : ∃ z, (w0.alloc (.cells #[.slice none 0 0, .slice none 0 0] 27)) = z := ⟨_, rfl⟩
  rw [hw_] at hx_ hb_ hz_
  have HX_w1 := Lib.hid hx_
  have HB_w1 := Lib.hid hb_
  have HW_w1 := Lib.hid hw_
  have hz_w1 := Lib.hid hz_
  clear hx_ hb_ hw_ hz_ hzo_
  have hz1 := hz_w1.out
  obtain ⟨R, hR⟩ : ∃ R, B + 1 + 1 = R := ⟨_, rfl⟩
  have HB1 := Lib.hid (below_step HB_w0.out HB_w1.out)
  have HU := Lib.hid (own_below h1 HB1.out (own_lt _ h1))
  have HX0 := Lib.hid ((HB_w1.out.block _ (by have := hz_w0.out; omega)).trans HX_w0.out)
  have hcB0 : w1.cell? ⟨B, 0, none⟩ = some (.slice A n cap) := cell_of_block HX0.out 0
  have HA := Lib.hid hA
  have HN := Lib.hid hn
  have hn' : n ≤ 1048576 := by omega
  have HSC := Lib.hid hsC
  have HSU := Lib.hid hsU
  have HR1 : w1.heap.size = R := by omega
  have HZ1 := Lib.hid HR1
  have hwB : w.heap.size = B := hs_B
  have HWB := Lib.hid hwB
  clear h h0 h1 hs hA hn hl hsC hsU hz1 HR1 hwB
  go_enter Try.func38, Try.ntmps38
  go_wp2_with (at_make; rw [HW_w0.out, HW_w1.out]; refine wpList_make_full _ rfl _ _ 24 rfl R 38 k0 (.slice none 0 0) 1 Try.underlying24 hk hx0 hx1 _ _ _ _ n rfl rfl rfl rfl (by rw [hx2]; omega) (by unfold maxLen; omega) (by rw [HZ1.out]; exact Nat.le_refl _) ?_)
  rw [HZ1.out]
  intro w2 hown hgrow
  have H0 := own_made (z := (eIntS [])) (zc := [.slice none 0 0]) (k := 1) (by rw [Nat.mul_one]; exact hown) ⟨_, _, [], [], rfl, rfl, ⟨rfl, rfl⟩, Or.inl ⟨⟨none, rfl⟩, rfl, rfl, rfl⟩⟩ rfl (by omega) rfl
  have HB0 : Hid (Below R w1 w2) := (Below.refl _ _).grown hgrow (by rw [HZ1.out]; exact Nat.le_refl _) (fun _ h => by cases h)
  rw [HN.out, ← fill_zero eIntS (eIntS []) f.Cells, ← HN.out] at H0
  have HO1 : Hid (∃ bs, Own w2 (rowC 38 1 (fillTo eIntS (eIntS []) f.Cells 0)) [.slice (some ⟨R, 0, none⟩) n n] bs ∧ bs.Nodup ∧ ∀ b ∈ bs, R ≤ b) := ⟨[R], H0, by simp, by simp⟩
  clear H0 hown hgrow
  go_wp2_with fail
  go_loopw [11] (fun c wr => ∃ (i : Nat), i ≤ n ∧ c = .int .i64 i ∧ Hid (∃ bs, Own wr (rowC 38 1 (fillTo eIntS (eIntS []) f.Cells i)) [.slice (some ⟨R, 0, none⟩) n n] bs ∧ bs.Nodup ∧ ∀ b ∈ bs, R ≤ b) ∧ Hid (Below R w1 wr)) (fun c _ => n - (intOf c).toNat)
  case atStart => exact ⟨0, Nat.zero_le _, rfl, HO1.out, HB0.out⟩
  case round =>
    clear HO1 HB0
    obtain ⟨i, hi', rfl, HO, HBL⟩ := hrel
    have hcB : wr.cell? ⟨B, 0, none⟩ = some (.slice A n cap) := (HBL.out.cell (p := ⟨B, 0, none⟩) (by show B < R; omega)).trans hcB0
    by_cases hlt : (i : Int) < n
    · have hi0 : (0 : Int) ≤ i := by omega
      obtain ⟨g, o, r, us, b, rfl, hr, hus, hc, ho, _⟩ := HA.out i (by omega)
      simp only [Nat.mul_one] at hc
      match us, hus with
      | [c], _ =>
      obtain ⟨A3, m, cap3, rfl⟩ := own_slice ho
      obtain ⟨hm, hm'⟩ := row_n (T := 3) (k := 1) (E := eI) (l := r) ho (sz_elem HSC.out hr)
      have HBW : Hid (Below w.heap.size w wr) := HB1.out.trans (HBL.out.mono (by rw [HWB.out]; omega))
      have hgB : g < B := by
        have := World.block_lt_of_cell? w _ (hc 0 (by omega))
        rw [HWB.out] at this
        exact this
      have hcr : wr.cell? ⟨g, o + i, none⟩ = some (.slice A3 m cap3) := cell_below HBW.out (hc 0 (by omega))
      have HOR := Lib.hid (own_below ho HBW.out (own_lt _ ho))
      have HBB : Hid (∀ x ∈ b, x < B) := fun x hx => by have := own_lt _ ho x hx; rw [HWB.out] at this; exact this
      have HR := Lib.hid hr
      have HM := Lib.hid hm
      have hRw : R ≤ wr.heap.size := by have := HBL.out.size; have := HZ1.out; omega
      obtain ⟨H, hH⟩ : ∃ H, wr.heap.size = H := ⟨_, rfl⟩
      have HH := Lib.hid hH
      clear hc ho hr hm hus
      go_wp2_with (at_make; refine wpList_make_full _ rfl _ _ 38 rfl H 3 j0 (.int .i64 0) 1 Try.underlying38 hj hy0 hy1 _ _ _ _ m rfl rfl rfl rfl (by rw [hy2]; omega) (by unfold maxLen; omega) (by rw [HH.out]; exact Nat.le_refl _) ?_)
      intro w3 hown3 hgrow3
      have hb3 : Below H wr w3 := (Below.refl _ _).grown hgrow3 (by rw [HH.out]; exact Nat.le_refl _) (fun _ h => by cases h)
      obtain ⟨bs, hob, hnd, hbB⟩ := HO.out
      have hlt2 := own_lt _ hob
      rw [hH] at hlt2
      have hob2 := own_below hob hb3 hlt2
      obtain ⟨g1, o1, cur, us1, e1, hgb, hg, hm1, hset⟩ := fill_turn hob2 hnd hbB (fun _ => rfl) rfl HR.out
      simp only [Option.some.injEq, Addr.mk.injEq, and_true] at e1
      obtain ⟨rfl, rfl⟩ := e1
      simp only [Nat.zero_add, Nat.mul_one] at hm1 hset
      have hul := hm1.1
      match us1, hul, hm1 with
      | [z0], _, hm1 =>
      have hRH : R < H := hlt2 R hgb
      have hk0 : w3.cell? ⟨R, i, none⟩ = some z0 := (Mid.cell (m := i) (k := 1) hm1 hg 0 (by omega))
      have hf0 := free_of_block hg (i)
      have hg1 := block_set hg (i) (.slice (some ⟨H, 0, none⟩) m m)
      have hm2 := Mid.set (k := 1) hm1 0 (by omega) (.slice (some ⟨H, 0, none⟩) m m)
      obtain ⟨cu, hcu, hcuH⟩ : ∃ cu : List Value, cu.length = m ∧ w3.heap[H]? = some (.cells cu.toArray 3 (0, 0)) := by
        rcases hown3.2 with ⟨e, _⟩ | ⟨g', cap', cur', e, hb, hg', hc', hm', hs', ht⟩
        · cases e
        · rw [Value.slice.injEq] at e
          obtain ⟨e1, _, rfl⟩ := e
          obtain rfl : H = g' := by simpa using e1
          rw [Nat.mul_one] at hs'
          exact ⟨cur'.toList, by simp [hs'], by simpa using hg'⟩
      have HG := Lib.hid hg
      have HG1 := Lib.hid hg1
      have HM2 := Lib.hid hm2
      have HSET := Lib.hid hset
      have HCU := Lib.hid hcu
      have HCUH := Lib.hid hcuH
      have HB3 := Lib.hid hb3
      have HLT := Lib.hid hlt2
      have HNB := Lib.hid hbB
      clear hown3 hgrow3 hob hob2 hnd hul hm1 hm2 hset hg hg1 hcu hcuH hlt2 hbB
      have hcB3 : w3.cell? ⟨B, 0, none⟩ = some (.slice (some ⟨g, o, none⟩) n cap) := (hb3.cell (p := ⟨B, 0, none⟩) (by show B < H; omega)).trans hcB
      have hcr3 : w3.cell? ⟨g, o + i, none⟩ = some (.slice A3 m cap3) := (hb3.cell (p := ⟨g, o + i, none⟩) (by show g < H; omega)).trans hcr
      obtain ⟨w4, hw4⟩ : ∃ w4, w3.setCell ⟨R, i, none⟩ (.slice (some ⟨H, 0, none⟩) m m) = w4 := ⟨_, rfl⟩
      have HG4 := HG1
      have HCU4 := Lib.hid ((Below.heap_setCell w3 ⟨R, i, none⟩ (.slice (some ⟨H, 0, none⟩) m m) H (by show H ≠ R; omega)).trans HCUH.out)
      have hcR4 : w4.cell? ⟨R, i, none⟩ = some (.slice (some ⟨H, 0, none⟩) m m) := by
        rw [← hw4, cell_of_block HG1.out]
        have hsz : i < cur.size := by have := HM2.out.2.1; omega
        simp [hsz]
      have hcB4 : w4.cell? ⟨B, 0, none⟩ = some (.slice (some ⟨g, o, none⟩) n cap) := by
        rw [← hw4]; exact (World.cell?_of_block (a := ⟨B, 0, none⟩) (w := w3) (Below.heap_setCell w3 ⟨R, i, none⟩ _ B (by show B ≠ R; omega))).trans hcB3
      have hcr4 : w4.cell? ⟨g, o + i, none⟩ = some (.slice A3 m cap3) := by
        rw [← hw4]; exact (World.cell?_of_block (a := ⟨g, o + i, none⟩) (w := w3) (Below.heap_setCell w3 ⟨R, i, none⟩ _ g (by show g ≠ R; omega))).trans hcr3
      have HOR4 : Hid (Own w4 (eIntS r) [.slice A3 m cap3] b) := by
        show Own _ _ _ _
        rw [← hw4]
        exact own_same _ HOR.out (fun x hx => (Below.heap_setCell w3 ⟨R, i, none⟩ _ x (by have := HBB.out x hx; show x ≠ R; omega)).trans (hb3.block x (by have := HBB.out x hx; omega)))
      rw [hw4] at HG4 HCU4
      have HW4 := Lib.hid hw4
      clear hw4 hb3 hcB3 hcr3
      go_wp2_with fail
      rw [HW4.out]
      have hsrc := copy_src HOR4.out
      have hm4 : (r.map (Value.int .i64)).length = m := by rw [List.length_map, ← HM.out]
      have hfit : 0 + (r.map (Value.int .i64)).length ≤ cu.length := by rw [hm4, HCU.out]; omega
      have hone : ∀ v ∈ r.map (Value.int .i64), v.oneCell' = true := fun v hv => by rw [List.mem_map] at hv; obtain ⟨x, _, rfl⟩ := hv; rfl
      have hmin : (r.map (Value.int .i64)).length = Nat.min m m := by rw [hm4]; exact (Nat.min_self m).symm
      have HSRC := Lib.hid hsrc
      have HFIT := Lib.hid hfit
      have HONE := Lib.hid hone
      have HMIN := Lib.hid hmin
      clear hsrc hm4 hfit hone hmin
      go_region_law ((refine step_copy_splice rfl (.tmp 27) (.tmp 32) 38 38 (by simp) 3 Try.underlying38 sizeI (some ⟨H, 0, none⟩) A3 m m m cap3 (by simp [Act.eval]) (by simp [Act.eval]) H 0 cu 3 HCU4.out (r.map (Value.int .i64)) HMIN.out (fun h => ⟨rfl, HSRC.out h⟩) HFIT.out HONE.out H w4 ((Below.refl _ _).drew) (Nat.le_refl _) ?_; intro w5 HG5 hb5))
      all_goals
        have hh5 : w5.heap[H]? = some (.cells (r.map (Value.int .i64)).toArray 3 (0, 0)) := by
          have := HG5.out
          rw [splice_all _ _ (by rw [List.length_map, HCU.out]; exact HM.out.symm)] at this
          exact this
        have ho5 := own_ints_block hh5 (by have := HM.out; unfold maxLen; omega)
        rw [← HM.out] at ho5
        have HO2 := Lib.hid (HSET.out w5 _ _ [H] ((hb5.block R hRH).trans HG4.out) HM2.out (fun y hy hyR => (hb5.block y (HLT.out y hy)).trans (by rw [← HW4.out]; exact Below.heap_setCell _ _ _ _ hyR)) ho5 (by simp) (fun y hy => by rw [List.mem_singleton] at hy; subst hy; exact ⟨by omega, fun hh => by have := HLT.out _ hh; omega⟩))
        have HB2 : Hid (Below R w1 w5) := (((HBL.out.trans (HB3.out.mono (by omega))).setCell (p := ⟨R, i, none⟩) (Nat.le_refl _) (.slice (some ⟨H, 0, none⟩) m m)).trans (by rw [HW4.out]; exact hb5.mono (by omega)))
        clear HG5 hh5 ho5 hb5
        go_wp2
        go_roundw
        case rel => exact ⟨i + 1, by omega, by go_num, HO2.out, HB2.out⟩
        case measure => simp [intOf]; omega
    · obtain rfl : n = i := by omega
      have hcB1 : wr.cell? ⟨B, 1, none⟩ = some (.slice A2 n2 cap2) := (HBL.out.cell (p := ⟨B, 1, none⟩) (by show B < R; omega)).trans (cell_of_block HX0.out 1)
      have HE1 : Hid (Owned wr R (eIntSS f.Cells) [.slice (some ⟨R, 0, none⟩) n n]) := by
        show Owned _ _ _ _
        have := HO.out
        rw [show fillTo eIntS (eIntS []) f.Cells n = f.Cells.map eIntS by rw [HN.out]; exact fill_all _ _ _] at this
        exact this
      have HCL := Lib.hid (impl_Clone f.Used A2 n2 cap2 b1 wr (own_below HU.out (HBL.out.mono (by rw [HZ1.out]; exact Nat.le_refl _)) (own_lt _ HU.out)) HSU.out)
      have hRw : R ≤ wr.heap.size := by have := HBL.out.size; have := HZ1.out; omega
      have HXR := Lib.hid ((HBL.out.block (B + 1) (by omega)).trans HX_w1.out)
      have HBW : Hid (Below w.heap.size w wr) := HB1.out.trans (HBL.out.mono (by rw [HWB.out]; omega))
      go_wp2_with fail
      refine HCL.out.mono ?_
      rintro e w5 ⟨v, rfl, hown5, hb5⟩
      obtain ⟨Au, nu, pu, rfl⟩ := owned_slice hown5
      have ho := owned_join HE1.out hb5 hown5 hRw
      obtain ⟨r0, r1, r2, r3, HG, HE, HBE⟩ := fr_ret (f := f) (C := B + 1) (by omega) (below_step HBW.out hb5) ho (by omega) ((hb5.block (B + 1) (by omega)).trans HXR.out)
      clear hown5 hb5 ho
      go_wp2
      refine ret_c rfl HG.out rfl Try.underlying27 rfl sizeF rfl ?_
      exact ⟨[_, _], rfl, HE.out, HBE.out⟩
end Tr
end Go.Proofs.Ytmajlgnjgnodoaa

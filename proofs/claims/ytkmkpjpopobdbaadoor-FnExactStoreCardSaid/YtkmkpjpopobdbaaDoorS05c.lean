/- Physical frames: the specification's copy of frames. -/
import Derived.Test.YtkmkpjpopobdbaaDoorS05b
import Derived.Deep.AppendLies
import Derived.Deep.RegionHeld3
import Derived.Deep.RegionLaw
namespace Go.Proofs.YtkmkpjpopobdbaaDoor
open Go.RowKit
set_option linter.unusedVariables false
namespace Tr
theorem infoIS : (Tryd.prog.info? 34).map (fun i => (i.zero, i.size, i.bytes)) = some (some (.slice none 0 0), 1, 24) := by kernel_rfl
theorem infoII : (Tryd.prog.info? 3).map (fun i => (i.zero, i.size, i.bytes)) = some (some (.int .i64 0), 1, 8) := by kernel_rfl
theorem infoBB : (Tryd.prog.info? 4).map (fun i => (i.zero, i.size, i.bytes)) = some (some (.bool false), 1, 1) := by kernel_rfl
theorem sizeF : (Tryd.prog.info? 27).map (·.size) = some 2 := by kernel_rfl
theorem row_slice {w : World} {base : Nat} {e : TypeId} {size : Nat} {v : Value} {n : Nat} {xs : List Value} (h : w.ownsRow base e size v n xs) : ∃ a c, v = .slice a n c := by
  rcases h.2 with ⟨rfl, rfl⟩ | ⟨g, cap, cur, rfl, _⟩
  · exact ⟨_, _, rfl⟩
  · exact ⟨_, _, rfl⟩
/-- rows copied so far: the outer row, its elements' own blocks -/
def CpRel (Ti : Nat) (E : List Int → D) (l : List (List Int)) (M i : Nat) (u : Value) (wr : World) : Prop :=
  ∃ xs bsE, wr.ownsRow M Ti 1 u i xs ∧ Own wr (D.cat ((l.take i).map E)) xs bsE ∧ bsE.Nodup ∧ ∀ b ∈ bsE, M ≤ b ∧ u.ownBlock ≠ some b
theorem row_below {w w' : World} {base : Nat} {e : TypeId} {size : Nat} {v : Value} {n : Nat} {xs : List Value} (h : w.ownsRow base e size v n xs) (hb : Below w.heap.size w w') : w'.ownsRow base e size v n xs :=
  h.kept (row := none) ⟨hb.os, hb.tape, hb.output, hb.size, fun k hk _ => hb.block k hk⟩ (by cases hv : v.ownBlock <;> simp)
theorem cp_zero (Ti : Nat) (E : List Int → D) (l : List (List Int)) (M : Nat) (wr : World) : CpRel Ti E l M 0 (.slice none 0 0) wr := ⟨[], [], World.ownsRow_nil _ _ _ _, ⟨rfl, rfl⟩, by simp, by simp⟩
theorem cp_kept {Ti : Nat} {E : List Int → D} {l : List (List Int)} {M i : Nat} {u : Value} {wr w' : World} (h : CpRel Ti E l M i u wr) (hb : Below wr.heap.size wr w') : CpRel Ti E l M i u w' := by
  obtain ⟨xs, bsE, h1, h2, h3⟩ := h
  exact ⟨xs, bsE, h1.kept (row := none) ⟨hb.os, hb.tape, hb.output, hb.size, fun k hk _ => hb.block k hk⟩ (by cases hv : u.ownBlock <;> simp), own_below h2 hb (own_lt _ h2), h3⟩
theorem cp_step {Ti : Nat} {E : List Int → D} {l : List (List Int)} {M i H : Nat} {u v' : Value} {wr w' : World} {xs : List Value} {bsE bx : List Nat} {g cap : Nat} {r : List Int} (hr : l[i]? = some r)
    (h2 : Own wr (D.cat ((l.take i).map E)) xs bsE) (h3 : bsE.Nodup) (h4 : ∀ b ∈ bsE, M ≤ b ∧ u.ownBlock ≠ some b) (hE : Own wr (E r) [v'] bx) (hx : bx.Nodup) (hxl : ∀ b ∈ bx, M ≤ b ∧ u.ownBlock ≠ some b) (hd : ∀ b ∈ bsE, b ∉ bx) (hH : wr.heap.size ≤ H)
    (ho : w'.ownsRow M Ti 1 (.slice (some ⟨g, 0, none⟩) (i + 1) cap) (i + 1) (xs ++ [v'])) (hg : wr.grownBy w' u.ownBlock) (hlie : u.ownBlock = some g ∨ g = H) : CpRel Ti E l M (i + 1) (.slice (some ⟨g, 0, none⟩) (i + 1) cap) w' := by
  have hs : ∀ b, b < wr.heap.size → u.ownBlock ≠ some b → w'.heap[b]? = wr.heap[b]? := fun b hb hne => hg.block b hb (fun e => hne e.symm)
  have k1 := own_same (w' := w') _ h2 (fun b hb => hs b (own_lt _ h2 b hb) (h4 b hb).2)
  have k2 := own_same (w' := w') _ hE (fun b hb => hs b (own_lt _ hE b hb) (hxl b hb).2)
  have hne : ∀ b, b < wr.heap.size → u.ownBlock ≠ some b → (Value.slice (some ⟨g, 0, none⟩) (i + 1) cap).ownBlock ≠ some b := by
    intro b hb hu e
    have e' : g = b := by simpa [Value.ownBlock] using e
    rcases hlie with h | h
    · exact hu (by rw [h, e'])
    · omega
  refine ⟨xs ++ [v'], bsE ++ bx, ho, ?_, ?_, ?_⟩
  · rw [List.take_add_one, hr, List.map_append, D.cat_append]
    refine (own_app _ _).2 ⟨xs, [v'], bsE, bx, rfl, rfl, k1, ?_⟩
    show Own w' ((E r).app .nil) _ _
    rw [D.app_nil]; exact k2
  · rw [List.nodup_append]
    exact ⟨h3, hx, fun a ha c hc e => hd a ha (by rw [e]; exact hc)⟩
  · intro b hb
    rw [List.mem_append] at hb
    rcases hb with hb | hb
    · exact ⟨(h4 b hb).1, hne b (own_lt _ h2 b hb) (h4 b hb).2⟩
    · exact ⟨(hxl b hb).1, hne b (own_lt _ hE b hb) (hxl b hb).2⟩
theorem cp_set {Ti : Nat} {E : List Int → D} {l : List (List Int)} {M i : Nat} {u : Value} {wr : World} (h : CpRel Ti E l M i u wr) {p : Addr} (hp : p.block < M) (v : Value) : CpRel Ti E l M i u (wr.setCell p v) := by
  obtain ⟨xs, bsE, h1, h2, h3, h4⟩ := h
  exact ⟨xs, bsE, ownsRow_setCell_below h1 hp v, own_same _ h2 (fun b hb => Below.heap_setCell _ _ _ _ (by have := (h4 b hb).1; omega)), h3, h4⟩
theorem cp_next {Ti : Nat} {E : List Int → D} {l : List (List Int)} {M i H : Nat} {u v' : Value} {wr w5 w6 : World} {xs : List Value} {bsE : List Nat} {g cap : Nat} {r : List Int} {o : Obj} (hr : l[i]? = some r) (hrow : wr.ownsRow M Ti 1 u i xs)
    (h2 : Own wr (D.cat ((l.take i).map E)) xs bsE) (h3 : bsE.Nodup) (h4 : ∀ b ∈ bsE, M ≤ b ∧ u.ownBlock ≠ some b) (hb5 : Below wr.heap.size wr w5) (hM : M ≤ wr.heap.size) (hE : Owned w5 wr.heap.size (E r) [v']) (hH : (w5.alloc o).heap.size ≤ H)
    (ho : w6.ownsRow M Ti 1 (.slice (some ⟨g, 0, none⟩) (i + 1) cap) (i + 1) (xs ++ [v'])) (hg : (w5.alloc o).grownBy w6 u.ownBlock) (hlie : u.ownBlock = some g ∨ g = H) : CpRel Ti E l M (i + 1) (.slice (some ⟨g, 0, none⟩) (i + 1) cap) w6 := by
  obtain ⟨bx, k1, k2, k3⟩ := hE
  refine cp_step (H := H) hr (own_alloc (own_below h2 hb5 (own_lt _ h2)) o) h3 h4 (own_alloc k1 o) k2 (fun b hb => ⟨Nat.le_trans hM (k3 b hb), fun e => ?_⟩) (fun b hb hx => ?_) hH ho hg hlie
  · have h1 := (hrow.lt b e).2
    have := k3 b hb
    omega
  · have h1 := own_lt _ h2 b hb
    have := k3 b hx
    omega
theorem cp_end {Ti : Nat} {E : List Int → D} (hE : ∀ x, (E x).len = 1) {l : List (List Int)} {M i : Nat} {u : Value} {wr : World} (h : CpRel Ti E l M i u wr) (hi : i = l.length) : Owned wr M (rowD Ti 1 E l) [u] := by
  obtain ⟨xs, bsE, h1, h2, h3, h4⟩ := h
  subst hi
  rw [List.take_length] at h2
  obtain ⟨bs, g1, g2, g3⟩ := own_of_row (l := l.map E) h1 (by rw [List.length_map]) (len_map hE) h2
  refine ⟨bs ++ bsE, g1, ?_, fun b hb => ?_⟩
  · rw [List.nodup_append]
    exact ⟨g2, h3, fun a ha c hc e => (h4 c hc).2 (by rw [← e]; exact (g3 a ha).2)⟩
  · rw [List.mem_append] at hb
    rcases hb with hb | hb
    · exact (g3 b hb).1
    · exact (h4 b hb).1
set_option maxHeartbeats 1000000 in
theorem spec_l05Copy (f : GFrames) (c0 c1 : Value) (w : World) (h : Rd w (eFrames f) [c0, c1]) (hs : (eFrames f).sz ≤ 1048576) : Calls Tryd.prog 77 #[.agg #[c0, c1]] w (RetM (fun us => .agg us.toArray) (eFrames f) w) := by
  obtain ⟨bs, h⟩ := h
  obtain ⟨b0, b1, rfl, h0, h1⟩ := parts_Frames h
  rw [sz_Frames] at hs
  have hsC : (eIntSS f.Cells).sz ≤ 1048576 := by omega
  have hl := sz_len (T := 34) (k := 1) (E := eIntS) (l := f.Cells) (n := 1048576) hsC
  obtain ⟨A, n, cap, rfl, hn, _, _, hA⟩ := read_rowD (T := 34) (E := eIntS) (k := 1) h0 (fun _ => rfl)
  obtain ⟨A2, n2, cap2, rfl⟩ := own_slice h1
  obtain ⟨hn2, hn2'⟩ := row_n (T := 4) (k := 1) (E := eB) (l := f.Used) h1 (m := 1048576) (by show (eBoolS f.Used).sz ≤ _; omega)
  obtain ⟨i0, hi, hz0, hz1, hz2⟩ := info_parts infoBB
  obtain ⟨j0, hj, hy0, hy1, hy2⟩ := info_parts infoII
  obtain ⟨k0, hk, hx0, hx1, hx2⟩ := info_parts infoIS
  obtain ⟨B, hs_B⟩ : ∃ B, w.heap.size = B := ⟨_, rfl⟩
  have hzo_ := hs_B
  have hx_ : (w.alloc (.cells #[.slice A n cap, .slice A2 n2 cap2] 27)).heap[B]? = some (.cells #[.slice A n cap, .slice A2 n2 cap2] 27 (0, 0)) := by rw [← hzo_]; exact heap_alloc_new w _
  have hb_ : Below w.heap.size w (w.alloc (.cells #[.slice A n cap, .slice A2 n2 cap2] 27)) := (Below.refl _ _).alloc (Nat.le_refl _) _
  have hz_ : (w.alloc (.cells #[.slice A n cap, .slice A2 n2 cap2] 27)).heap.size = B + 1 := by simp [hzo_]
  obtain ⟨w0, hw_⟩ : ∃ z, (w.alloc (.cells #[.slice A n cap, .slice A2 n2 cap2] 27)) = z := ⟨_, rfl⟩
  rw [hw_] at hx_ hb_ hz_
  have HX_w0 := Lib.hid hx_
  have HB_w0 := Lib.hid hb_
  have HW_w0 := Lib.hid hw_
  have hz_w0 := Lib.hid hz_
  clear hx_ hb_ hw_ hz_ hzo_
  have hzo_ := hz_w0.out
  have hx_ : (w0.alloc (.cells #[.slice none 0 0, .slice none 0 0] 27)).heap[B + 1]? = some (.cells #[.slice none 0 0, .slice none 0 0] 27 (0, 0)) := by rw [← hzo_]; exact heap_alloc_new w0 _
  have hb_ : Below w0.heap.size w0 (w0.alloc (.cells #[.slice none 0 0, .slice none 0 0] 27)) := (Below.refl _ _).alloc (Nat.le_refl _) _
  have hz_ : (w0.alloc (.cells #[.slice none 0 0, .slice none 0 0] 27)).heap.size = B + 1 + 1 := by simp [hzo_]
  obtain ⟨w1, hw_⟩ : ∃ z, (w0.alloc (.cells #[.slice none 0 0, .slice none 0 0] 27)) = z := ⟨_, rfl⟩
  rw [hw_] at hx_ hb_ hz_
  have HX_w1 := Lib.hid hx_
  have HB_w1 := Lib.hid hb_
  have HW_w1 := Lib.hid hw_
  have hz_w1 := Lib.hid hz_
  clear hx_ hb_ hw_ hz_ hzo_
  have hzo_ := hz_w1.out
  have hx_ : (w1.alloc (.cells #[] 4)).heap[B + 1 + 1]? = some (.cells #[] 4 (0, 0)) := by rw [← hzo_]; exact heap_alloc_new w1 _
  have hb_ : Below w1.heap.size w1 (w1.alloc (.cells #[] 4)) := (Below.refl _ _).alloc (Nat.le_refl _) _
  have hz_ : (w1.alloc (.cells #[] 4)).heap.size = B + 1 + 1 + 1 := by simp [hzo_]
  obtain ⟨w2, hw_⟩ : ∃ z, (w1.alloc (.cells #[] 4)) = z := ⟨_, rfl⟩
  rw [hw_] at hx_ hb_ hz_
  have HX_w2 := Lib.hid hx_
  have HB_w2 := Lib.hid hb_
  have HW_w2 := Lib.hid hw_
  have hz_w2 := Lib.hid hz_
  clear hx_ hb_ hw_ hz_ hzo_
  have hc1 : w2.cell? ⟨B, 1, none⟩ = some (.slice A2 n2 cap2) := cell_below HB_w2.out (cell_below HB_w1.out (cell_of_block HX_w0.out 1))
  have HB2 := Lib.hid (below_step (below_step HB_w0.out HB_w1.out) HB_w2.out)
  have HU := Lib.hid (own_below h1 HB2.out (own_lt _ h1))
  have hown : w2.ownsRow (B + 1 + 1) 4 1 (.slice (some ⟨B + 1 + 1, 0, none⟩) 0 0) 0 [] := ⟨by simp, .inr ⟨_, 0, _, rfl, Nat.le_refl _, HX_w2.out, Nat.le_refl _, by unfold maxLen; omega, rfl, by simp⟩⟩
  have HO := Lib.hid hown
  have HR1 := Lib.hid ((HB_w2.out.block _ (by have := hz_w1.out; omega)).trans HX_w1.out)
  have HR0 := Lib.hid ((HB_w2.out.block _ (by have := hz_w1.out; omega)).trans ((HB_w1.out.block _ (by have := hz_w0.out; omega)).trans HX_w0.out))
  have HA := Lib.hid hA
  have HN := Lib.hid hn
  have hn' : n ≤ 1048576 := by omega
  have HSC := Lib.hid hsC
  clear h h0 h1 hs hown hA hn hn2 hl hsC
  go_enter Tryd.func77, Tryd.ntmps77
  go_wp2_with (at_builtin; rw [HW_w0.out, HW_w1.out, HW_w2.out]; refine wpList_copy_flat rfl _ _ 25 rfl (B + 1 + 1) 4 i0 _ 1 1 Tryd.underlying25 hi hz0 hz1 hz2 rfl (by omega) _ rfl HO.out A2 n2 cap2 rfl eB f.Used _ HU.out (fun _ => rfl) (fun _ => ⟨rfl, trivial⟩) (by omega) (by omega) (by have := hz_w2.out; omega) ?_)
  intro v' w3 hown3 hgrow
  obtain ⟨Au, nu, pu, rfl⟩ := owned_slice hown3
  have HU3 := Lib.hid hown3
  have HX0 := Lib.hid ((hgrow.block B (by have := hz_w2.out; omega) (by simp [Value.ownBlock]; omega)).trans HR0.out)
  have HX1 := Lib.hid ((hgrow.block (B + 1) (by have := hz_w2.out; omega) (by simp [Value.ownBlock])).trans HR1.out)
  have HB3 := Lib.hid (HB2.out.grown hgrow (by have := hz_w2.out; omega) (fun k hk => by have : B + 1 + 1 = k := (by simpa [Value.ownBlock] using hk); omega))
  have hs3 : B + 1 + 1 + 1 ≤ w3.heap.size := by have := hgrow.size; have := hz_w2.out; omega
  clear hown3 hgrow
  obtain ⟨C, hs_C⟩ : ∃ B, w3.heap.size = B := ⟨_, rfl⟩
  have hzo_ := hs_C
  have hx_ : (w3.alloc (.cells #[.slice none 0 0, .slice Au nu pu] 27)).heap[C]? = some (.cells #[.slice none 0 0, .slice Au nu pu] 27 (0, 0)) := by rw [← hzo_]; exact heap_alloc_new w3 _
  have hb_ : Below w3.heap.size w3 (w3.alloc (.cells #[.slice none 0 0, .slice Au nu pu] 27)) := (Below.refl _ _).alloc (Nat.le_refl _) _
  have hz_ : (w3.alloc (.cells #[.slice none 0 0, .slice Au nu pu] 27)).heap.size = C + 1 := by simp [hzo_]
  obtain ⟨w4, hw_⟩ : ∃ z, (w3.alloc (.cells #[.slice none 0 0, .slice Au nu pu] 27)) = z := ⟨_, rfl⟩
  rw [hw_] at hx_ hb_ hz_
  have HX_w4 := Lib.hid hx_
  have HB_w4 := Lib.hid hb_
  have HW_w4 := Lib.hid hw_
  have hz_w4 := Lib.hid hz_
  clear hx_ hb_ hw_ hz_ hzo_
  have HUX := Lib.hid (HU3.out.toIn (hi := C) (by omega))
  have hBC : B < C := by omega
  have hBC1 : B + 1 < C := by omega
  go_wp2_with fail
  rw [HW_w4.out]
  have HUX4 := Lib.hid (HUX.out.below HB_w4.out)
  have HY0 := Lib.hid ((HB_w4.out.block B (by omega)).trans HX0.out)
  have HY1 := Lib.hid ((HB_w4.out.block (B + 1) (by omega)).trans HX1.out)
  have HB4 := Lib.hid (below_step HB3.out HB_w4.out)
  have hs4 : C + 1 ≤ w4.heap.size := by have := hz_w4.out; omega
  clear HUX HX0 HX1 HB3 HU3
  go_loopw [4] (fun c wr => ∃ (i : Nat) (u : Value), i ≤ n ∧ c = .int .i64 i ∧ Hid (CpRel 34 eIntS f.Cells (C + 1) i u wr) ∧ Hid (wr.heap[C]? = some (.cells #[u, .slice Au nu pu] 27 (0, 0))) ∧ Hid (Below C w4 wr)) (fun c _ => n - (intOf c).toNat)
  case atStart => exact ⟨0, _, Nat.zero_le _, rfl, cp_zero _ _ _ _ _, HX_w4.out, Below.refl _ _⟩
  case round =>
    obtain ⟨i, u, hin, rfl, HCP, HXC, HBL⟩ := hrel
    have hsz1 : C + 1 ≤ wr.heap.size := by have := HBL.out.size; omega
    have HBW := Lib.hid (HB4.out.trans (HBL.out.mono (by omega)))
    have hcB : wr.cell? ⟨B, 0, none⟩ = some (.slice A n cap) := cell_of_block ((HBL.out.block B hBC).trans HY0.out) 0
    by_cases hlt : (i : Int) < n
    · have hi0 : (0 : Int) ≤ i := by omega
      obtain ⟨g, o, r, us, b, rfl, hr, hus, hc, ho, _⟩ := HA.out i (by omega)
      have hsr := sz_elem (T := 34) (k := 1) (E := eIntS) (l := f.Cells) HSC.out hr
      simp only [Nat.mul_one] at hc
      obtain ⟨A3, m, cap3, rfl⟩ := own_slice1 ho
      obtain ⟨hm, hm'⟩ := row_n (T := 3) (k := 1) (E := eI) (l := r) ho hsr
      have hcr : wr.cell? ⟨g, o + i, none⟩ = some (.slice A3 m cap3) := cell_below HBW.out (hc 0 (by omega))
      have hgB : g < B := by
        have := World.block_lt_of_cell? w _ (hc 0 (by omega))
        have h2 : g < w.heap.size := this
        omega
      obtain ⟨xs, bsE, hrow, hxs, hnd, hdis⟩ := HCP.out
      obtain ⟨ua, uc, rfl⟩ := row_slice hrow
      have hcC : wr.cell? ⟨C, 0, none⟩ = some (.slice ua i uc) := cell_of_block HXC.out 0
      have HSRC := Lib.hid (own_below ho HBW.out (own_lt _ ho))
      have HK : Hid (∀ w', Below C wr w' → w'.cell? ⟨B, 0, none⟩ = some (.slice (some ⟨g, o, none⟩) n cap) ∧ w'.cell? ⟨g, o + i, none⟩ = some (.slice A3 m cap3)) := fun w' hb => ⟨(hb.cell (p := ⟨B, 0, none⟩) (by show B < C; omega)).trans hcB, (hb.cell (p := ⟨g, o + i, none⟩) (by show g < C; omega)).trans hcr⟩
      have HS : Hid (∀ w', Below (C + 1) wr w' → w'.cell? ⟨B, 0, none⟩ = some (.slice (some ⟨g, o, none⟩) n cap) ∧ w'.cell? ⟨g, o + i, none⟩ = some (.slice A3 m cap3)) := fun w' hb => HK.out w' (hb.mono (by omega))
      have hCw : C < wr.heap.size := by omega
      have hb0 : Below (C + 1) wr wr.drew := (Below.refl _ _).drew
      have hb1 : Below (C + 1) wr (wr.drew.alloc (.cells #[] 3)) := hb0.alloc hsz1 _
      have HSRC1 := Lib.hid (own_alloc (own_below HSRC.out ((Below.refl wr.heap.size wr).drew) (own_lt _ HSRC.out)) (.cells #[] 3))
      have hbd1 : Below wr.heap.size wr (wr.drew.alloc (.cells #[] 3)) := ((Below.refl wr.heap.size wr).drew).alloc (Nat.le_refl _) _
      obtain ⟨hq1, hq2⟩ := HS.out (wr.alloc (.cells #[] 3)) ((Below.refl _ _).alloc hsz1 _)
      have hq3 : (wr.alloc (.cells #[] 3)).cell? ⟨C, 0, none⟩ = some (.slice ua i uc) := (((Below.refl (C + 1) wr).alloc hsz1 _).cell (p := ⟨C, 0, none⟩) (by show C < C + 1; omega)).trans hcC
      have HROW := Lib.hid hrow
      have HXS := Lib.hid hxs
      have HND := Lib.hid hnd
      have HDIS := Lib.hid hdis
      have HRR := Lib.hid hr
      clear hrow hxs hnd hdis hr hc ho hsr hus hm
      go_wp2_with fail
      go_region_law (first | (refine step_copy_flat rfl (.tmp 19) (.tmp 24) 34 (by simp) wr.heap.size 3 j0 _ 1 8 Tryd.underlying34 hj hy0 hy1 hy2 rfl (by omega) (.slice (some ⟨wr.heap.size, 0, none⟩) 0 0) (by simp [Act.eval]) (World.ownsRow_made (e := 3) (size := 1) wr.drew #[] 0 (Nat.le_refl _) (by unfold maxLen; omega) rfl) A3 m cap3 (by simp [Act.eval]) eI r b HSRC1.out (fun _ => rfl) (fun _ => ⟨rfl, trivial⟩) (by omega) (by omega) (by simp) ?_; intro v5 w5 hown5 hgrow5; obtain ⟨A5, n5, p5, rfl⟩ := owned_slice hown5; have hbb5 : Below wr.heap.size wr w5 := hbd1.grown hgrow5 (by simp) (fun y hy => by have : wr.heap.size = y := (by simpa [Value.ownBlock] using hy); omega); have hb5 : Below (C + 1) wr w5 := hbb5.mono hsz1; have hz5 : C + 1 ≤ w5.heap.size := Nat.le_trans hsz1 hb5.size; have hrow5 := row_below HROW.out hbb5; obtain ⟨hS5x, hS5y⟩ := HS.out _ hb5; have hCw5 : C < w5.heap.size := (by omega); have hc5C := (hb5.cell (p := ⟨C, 0, none⟩) (by show C < C + 1; omega)).trans hcC; have hS5a := HS.out _ (hb5.alloc hz5 (.cells #[.slice A5 n5 p5] 34))) | (refine step_append_lies _ rfl (.tmp 18) (.tmp 26) 24 (by simp) (C + 1) 34 k0 (.slice none 0 0) 1 24 Tryd.underlying24 hk hx0 hx1 hx2 rfl (by omega) (.slice ua i uc) i xs (by simp [Act.eval]) (hrow5.alloc _) ⟨w5.heap.size, 0, none⟩ 1 1 [.slice A5 n5 p5] (by simp [Act.eval]) rfl (World.news_of_block (cs := #[_]) (heap_alloc_new w5 _)) (by intro y hy; rw [List.mem_singleton] at hy; subst hy; rfl) (by omega) (by unfold maxLen; omega) (by omega) (by simp <;> omega) (w5.heap.size + 1) (by simp) ?_; intro g6 cap6 w6 hown6 hgrow6 hlie6 hlt6; have hb6 : Below (C + 1) wr w6 := (hb5.alloc hz5 _).grown hgrow6 (by simp <;> omega) (fun y hy => (HROW.out.lt y hy).1); have hx6 := (hb6.block C (by omega)).trans HXC.out; have hfr6 := free_of_block hx6 0; have hk6 : w6.cell? ⟨C, 0, none⟩ = some (.slice ua i uc) := cell_of_block hx6 0; have hS6 := HS.out _ hb6; have hx7 := block_set hx6 0 (.slice (some ⟨g6, 0, none⟩) (i + 1) cap6); have hS7 := HK.out (w6.setCell ⟨C, 0, none⟩ (.slice (some ⟨g6, 0, none⟩) (i + 1) cap6)) ((hb6.mono (by omega)).setCell (by show C ≤ C; omega) _); have hcp7 := Lib.hid (cp_set (p := ⟨C, 0, none⟩) (cp_next HRR.out HROW.out HXS.out HND.out HDIS.out hbb5 hsz1 hown5 (by simp) hown6 hgrow6 hlie6) (by show C < C + 1; omega) (.slice (some ⟨g6, 0, none⟩) (i + 1) cap6)); have hbl7 := Lib.hid ((HBL.out.trans (hb6.mono (Nat.le_succ _))).setCell (p := ⟨C, 0, none⟩) (by show C ≤ C; omega) (.slice (some ⟨g6, 0, none⟩) (i + 1) cap6)); have hx7h := Lib.hid hx7))
      all_goals go_wp2
      all_goals go_roundw
      all_goals first
        | exact ⟨i + 1, _, by omega, by go_num, hcp7.out, hx7h.out, hbl7.out⟩
        | (simp [intOf]; omega)
    · obtain rfl : i = n := by omega
      have HE1 := Lib.hid (cp_end (fun _ => rfl) HCP.out HN.out)
      have HX1 := Lib.hid ((HBL.out.block (B + 1) hBC1).trans HY1.out)
      obtain ⟨xs, bsE, hrow, _⟩ := HCP.out
      obtain ⟨ua, uc, rfl⟩ := row_slice hrow
      have hcC : wr.cell? ⟨C, 0, none⟩ = some (.slice ua i uc) := cell_of_block HXC.out 0
      have hcC1 : wr.cell? ⟨C, 1, none⟩ = some (.slice Au nu pu) := cell_of_block HXC.out 1
      have hk0 : wr.cell? ⟨B + 1, 0, none⟩ = some (.slice none 0 0) := cell_of_block HX1.out 0
      have hf0 := free_of_block HX1.out 0
      have hg1 := block_set HX1.out 0 (.slice ua i uc)
      have hk1 : (wr.setCell ⟨B + 1, 0, none⟩ (.slice ua i uc)).cell? ⟨B + 1, 1, none⟩ = some (.slice none 0 0) := cell_of_block hg1 1
      have hf1 := free_of_block hg1 1
      have HG := Lib.hid (block_set hg1 1 (.slice Au nu pu))
      have HBE : Hid (Below w.heap.size w ((wr.setCell ⟨B + 1, 0, none⟩ (.slice ua i uc)).setCell ⟨B + 1, 1, none⟩ (.slice Au nu pu))) := (HBW.out.setCell (p := ⟨B + 1, 0, none⟩) (by show _ ≤ B + 1; omega) _).setCell (p := ⟨B + 1, 1, none⟩) (by show _ ≤ B + 1; omega) _
      have HE : Hid (Owned ((wr.setCell ⟨B + 1, 0, none⟩ (.slice ua i uc)).setCell ⟨B + 1, 1, none⟩ (.slice Au nu pu)) w.heap.size (eFrames f) [.slice ua i uc, .slice Au nu pu]) := by
        obtain ⟨q1, o1, d1, l1⟩ := HE1.out
        obtain ⟨q2, o2, d2, l2⟩ := HUX4.out
        have o2' : Own wr (eBoolS f.Used) [.slice Au nu pu] q2 := own_below o2 HBL.out (fun b hb => (l2 b hb).2)
        have far : ∀ y, y ≠ B + 1 → ((wr.setCell ⟨B + 1, 0, none⟩ (.slice ua i uc)).setCell ⟨B + 1, 1, none⟩ (.slice Au nu pu)).heap[y]? = wr.heap[y]? := fun y hy => (Below.heap_setCell _ _ _ _ hy).trans (Below.heap_setCell _ _ _ _ hy)
        refine ⟨q1 ++ q2, (own_app _ _).2 ⟨[.slice ua i uc], [.slice Au nu pu], q1, q2, rfl, rfl, own_same _ o1 (fun b hb => far b (by have := l1 b hb; omega)), own_same _ o2' (fun b hb => far b (by have := (l2 b hb).1; omega))⟩, ?_, ?_⟩
        · rw [List.nodup_append]
          exact ⟨d1, d2, fun a ha c hc e => by have h1 := l1 a ha; have h2 := (l2 c hc).2; omega⟩
        · intro b hb
          rw [List.mem_append] at hb
          rcases hb with hb | hb
          · have := l1 b hb; omega
          · have := (l2 b hb).1; omega
      clear hg1 hrow
      go_wp2
      refine ret_c rfl HG.out rfl Tryd.underlying27 rfl sizeF rfl ?_
      exact ⟨[_, _], rfl, HE.out, HBE.out⟩
end Tr
end Go.Proofs.YtkmkpjpopobdbaaDoor

/- The machine: the specification's Store and PageText. -/
import Derived.Test.YtkmkpjpopobdbaaDoorS07c
namespace Go.Proofs.YtkmkpjpopobdbaaDoor
open Go.RowKit
set_option linter.unusedVariables false
namespace Tr
/-- one number of frames replaced, the blocks said -/
theorem fr_cellB {w : World} {n cap : Nat} {v1 : Value} {A : Option Addr} {f : GFrames} {bs : List Nat} (h1 : Own w (eFrames f) [.slice A n cap, v1] bs) (h2 : bs.Nodup) {i : Nat} {r : List Int} (hr : f.Cells[i]? = some r) {k : Nat} (hk : k < r.length) (x : Int) :
    ∃ g o g2 o2 cap2 cur2 u, A = some ⟨g, o, none⟩ ∧ w.cell? ⟨g, o + i, none⟩ = some (.slice (some ⟨g2, o2, none⟩) r.length cap2) ∧ g2 ∈ bs ∧ w.heap[g2]? = some (.cells cur2 3 (0, 0)) ∧ cur2[o2 + k]? = some u ∧ ∀ w' : World, w'.heap[g2]? = some (.cells (cur2.setIfInBounds (o2 + k) (.int .i64 x)) 3 (0, 0)) → (∀ y, y ≠ g2 → w'.heap[y]? = w.heap[y]?) →
      ∃ bs', Own w' (eFrames ⟨f.Cells.set i (r.set k x), f.Used⟩) [.slice A n cap, v1] bs' ∧ bs'.Nodup ∧ ∀ y ∈ bs', y ∈ bs := by
  obtain ⟨b0, b1, rfl, k0, k1⟩ := parts_Frames h1
  rw [List.nodup_append] at h2
  obtain ⟨q1, q2, q3⟩ := h2
  have hil : i < f.Cells.length := (List.getElem?_eq_some_iff.1 hr).1
  obtain ⟨g, o, cur, d, us, b, e1, _, hg, hh, hm, hd, ho, hb, hbn, hset⟩ := row_turn k0 q1 (len_map (E := eIntS) (k := 1) (fun _ => rfl)) (i := i) (by rw [List.length_map]; exact hil)
  obtain ⟨r', hr', rfl⟩ := at_map hd
  obtain rfl : r = r' := by rw [hr] at hr'; exact Option.some.inj hr'
  simp only [Nat.mul_one] at hm hset
  obtain ⟨A2, n2, cap2, rfl⟩ := own_slice1 ho
  have hn2 := (own_cells ho (len_map (E := eI) (k := 1) (fun _ => rfl))).1
  rw [List.length_map] at hn2
  subst hn2
  obtain ⟨g2, o2, cur2, d2, us2, bb, e2, _, hg2, hh2, hm2, hd2, ho2, hb2, hbn2, hset2⟩ := row_turn ho hbn (len_map (E := eI) (k := 1) (fun _ => rfl)) (i := k) (by rw [List.length_map]; exact hk)
  simp only [Nat.mul_one] at hm2 hset2
  match us2, hm2.1, hm2, ho2 with
  | [u2], _, hm2, ho2 =>
  have hne := hb g2 hg2
  subst e2
  refine ⟨g, o, g2, o2, cap2, cur2, u2, e1, (cell_of_block hh (o + i)).trans (at_us (Mid.us hm) 0 (by omega)), by simp [hne.1], hh2, at_us (Mid.us hm2) 0 (by omega), fun w' hg' hs => ?_⟩
  have hm' : Mid cur2 (cur2.setIfInBounds (o2 + k) (.int .i64 x)) (o2 + k) 1 [.int .i64 x] := Mid.set hm2 0 (by omega) (.int .i64 x)
  obtain ⟨bs2, p1, _, p2, p3⟩ := hset2 w' _ [.int .i64 x] (eI x) [] hg' hm' (fun y hy hyg _ => hs y hyg) ⟨_, rfl, rfl, rfl⟩
  rw [← List.map_set] at p1
  have p2' : ∀ y ∈ bs2, y ∈ b := fun y hy => by rcases p2 y hy with h | h; exact h; cases h
  obtain ⟨bs', s1, _, s2, s3⟩ := hset w' _ _ (eIntS (r.set k x)) bs2 ((hs g (fun e => hne.2 e.symm)).trans hh) hm (fun y hy hyg hyb => hs y (fun e => hyb (by rw [e]; exact hg2))) p1
  rw [← List.map_set] at s1
  refine ⟨bs' ++ b1, (own_app _ _).2 ⟨[.slice A n cap], [v1], bs', b1, rfl, rfl, s1, own_same _ k1 (fun y hy => hs y (fun e => q3 g2 hne.1 y hy e.symm))⟩, ?_, ?_⟩
  · rw [List.nodup_append]
    refine ⟨s3 (p3 List.nodup_nil (fun y hy => by cases hy)) (fun y hy => Or.inr (p2' y hy)), q2, fun a ha c hc e => ?_⟩
    rcases s2 a ha with ha | ha
    · exact q3 a ha c hc e
    · exact q3 a (hb a (p2' a ha)).1 c hc e
  · intro y hy
    rw [List.mem_append] at hy ⊢
    rcases hy with hy | hy
    · rcases s2 y hy with hy | hy
      · exact .inl hy
      · exact .inl (hb y (p2' y hy)).1
    · exact .inr hy
/-- one number of a machine replaced -/
theorem ma_cell {w : World} {B n cap : Nat} {v1 v2 : Value} {A : Option Addr} {m : GMachine} (h : Owned w B (eMachine m) [.slice A n cap, v1, v2]) {i : Nat} {r : List Int} (hr : m.Frames.Cells[i]? = some r) {k : Nat} (hk : k < r.length) (x : Int) :
    ∃ g o g2 o2 cap2 cur2 u, A = some ⟨g, o, none⟩ ∧ w.cell? ⟨g, o + i, none⟩ = some (.slice (some ⟨g2, o2, none⟩) r.length cap2) ∧ B ≤ g2 ∧ w.heap[g2]? = some (.cells cur2 3 (0, 0)) ∧ cur2[o2 + k]? = some u ∧ ∀ w' : World, w'.heap[g2]? = some (.cells (cur2.setIfInBounds (o2 + k) (.int .i64 x)) 3 (0, 0)) → (∀ y, y ≠ g2 → w'.heap[y]? = w.heap[y]?) →
      Owned w' B (eMachine ⟨⟨m.Frames.Cells.set i (r.set k x), m.Frames.Used⟩, m.Table⟩) [.slice A n cap, v1, v2] := by
  obtain ⟨bs, h1, h2, h3⟩ := h
  obtain ⟨b0, b1, rfl, k0, k1⟩ := parts_Machine h1
  rw [List.nodup_append] at h2
  obtain ⟨q1, q2, q3⟩ := h2
  obtain ⟨g, o, g2, o2, cap2, cur2, u, e1, hc, hg2, hh, hu, hset⟩ := fr_cellB k0 q1 hr hk x
  refine ⟨g, o, g2, o2, cap2, cur2, u, e1, hc, h3 g2 (by simp [hg2]), hh, hu, fun w' hg' hs => ?_⟩
  obtain ⟨bs', p1, p2, p3⟩ := hset w' hg' hs
  refine ⟨bs' ++ b1, (own_app _ _).2 ⟨[.slice A n cap, v1], [v2], bs', b1, rfl, rfl, p1, own_same _ k1 (fun y hy => hs y (fun e => q3 g2 hg2 y hy e.symm))⟩, ?_, ?_⟩
  · rw [List.nodup_append]
    exact ⟨p2, q2, fun a ha c hc e => q3 a (p3 a ha) c hc e⟩
  · intro y hy
    rw [List.mem_append] at hy
    rcases hy with hy | hy
    · exact h3 y (by simp [p3 y hy])
    · exact h3 y (by simp [hy])
theorem owned_lens {w : World} {B : Nat} {m : GMachine} {A : Option Addr} {n cap : Nat} {v1 v2 : Value} (h : Owned w B (eMachine m) [.slice A n cap, v1, v2]) : n = m.Frames.Cells.length := by
  obtain ⟨bs, h1, _⟩ := h
  obtain ⟨b0, b1, rfl, k0, k1⟩ := parts_Machine h1
  obtain ⟨b2, b3, rfl, k2, k3⟩ := parts_Frames k0
  rw [(own_cells k2 (len_map (E := eIntS) (k := 1) (fun _ => rfl))).1, List.length_map]
theorem spec_Store (m : GMachine) (c0 c1 c2 : Value) (addr v : Int) (w : World) (h : Rd w (eMachine m) [c0, c1, c2]) (hs : (eMachine m).sz ≤ 1048576) (ha : okI addr) (hv : okI v) : Calls Tryd.prog 20 #[.agg #[c0, c1, c2], .int .i64 addr, .int .i64 v] w (RetM (fun us => .tuple #[.agg us.toArray, .int .i64 (pStore m addr v).2]) (eMachine (pStore m addr v).1) w) := by
  obtain ⟨hs1, hs2, hs3, hs4⟩ := sz_machine hs
  obtain ⟨A, n, cap, A2, n2, cap2, A3, n3, cap3, rfl, rfl, rfl⟩ := inv_machine h
  obtain ⟨B, hs_B⟩ : ∃ B, w.heap.size = B := ⟨_, rfl⟩
  have hzo_ := hs_B
  have hx_ : (w.alloc (.cells #[.slice A n cap, .slice A2 n2 cap2, .slice A3 n3 cap3] 32)).heap[B]? = some (.cells #[.slice A n cap, .slice A2 n2 cap2, .slice A3 n3 cap3] 32 (0, 0)) := by rw [← hzo_]; exact heap_alloc_new w _
  have hb_ : Below w.heap.size w (w.alloc (.cells #[.slice A n cap, .slice A2 n2 cap2, .slice A3 n3 cap3] 32)) := (Below.refl _ _).alloc (Nat.le_refl _) _
  have hz_ : (w.alloc (.cells #[.slice A n cap, .slice A2 n2 cap2, .slice A3 n3 cap3] 32)).heap.size = B + 1 := by simp [hzo_]
  obtain ⟨w0, hw_⟩ : ∃ z, (w.alloc (.cells #[.slice A n cap, .slice A2 n2 cap2, .slice A3 n3 cap3] 32)) = z := ⟨_, rfl⟩
  rw [hw_] at hx_ hb_ hz_
  have HX_w0 := Lib.hid hx_
  have HB_w0 := Lib.hid hb_
  have HW_w0 := Lib.hid hw_
  have hz_w0 := Lib.hid hz_
  clear hx_ hb_ hw_ hz_ hzo_
  have hzo_ := hz_w0.out
  have hx_ : (w0.alloc (.cells #[.slice none 0 0, .slice none 0 0, .slice none 0 0] 32)).heap[B + 1]? = some (.cells #[.slice none 0 0, .slice none 0 0, .slice none 0 0] 32 (0, 0)) := by rw [← hzo_]; exact heap_alloc_new w0 _
  have hb_ : Below w0.heap.size w0 (w0.alloc (.cells #[.slice none 0 0, .slice none 0 0, .slice none 0 0] 32)) := (Below.refl _ _).alloc (Nat.le_refl _) _
  have hz_ : (w0.alloc (.cells #[.slice none 0 0, .slice none 0 0, .slice none 0 0] 32)).heap.size = B + 1 + 1 := by simp [hzo_]
  obtain ⟨w1, hw_⟩ : ∃ z, (w0.alloc (.cells #[.slice none 0 0, .slice none 0 0, .slice none 0 0] 32)) = z := ⟨_, rfl⟩
  rw [hw_] at hx_ hb_ hz_
  have HX_w1 := Lib.hid hx_
  have HB_w1 := Lib.hid hb_
  have HW_w1 := Lib.hid hw_
  have hz_w1 := Lib.hid hz_
  clear hx_ hb_ hw_ hz_ hzo_
  have hsw : w.heap.size ≤ B + 1 := by omega
  have hz1 : B + 1 < w1.heap.size := lt_of_block HX_w1.out
  have hlC := sz_len (T := 34) (k := 1) (E := eIntS) (l := m.Frames.Cells) (n := 1048576) hs3
  have HCC : Hid (∀ W, Below w.heap.size w W → Calls Tryd.prog 49 #[.agg #[.slice A n cap, .slice A2 n2 cap2, .slice A3 n3 cap3]] W (RetM (fun us => .agg us.toArray) (eMachine m) W)) := fun W hb => spec_l07Copy m _ _ _ W (h.below hb) hs
  have HCE : Hid (∀ W, Below w.heap.size w W → Calls Tryd.prog 36 #[.agg #[.slice A n cap, .slice A2 n2 cap2, .slice A3 n3 cap3], .int .i64 addr] W (RetP (.tuple #[.agg #[.int .i64 (pEntry m addr).1.Mode, .int .i64 (pEntry m addr).1.Frame], .int .i64 (pEntry m addr).2]) W)) := fun W hb => spec_l07Entry m _ _ _ addr W (h.below hb) hs ha
  have HCO : Hid (∀ W, Below w.heap.size w W → Calls Tryd.prog 37 #[.agg #[.slice A n cap, .slice A2 n2 cap2, .slice A3 n3 cap3]] W (RetP (.bool (decide (okM m))) W)) := fun W hb => spec_MachineOk m _ _ _ W (h.below hb) hs
  clear h hs hs1 hs2 hs3 hs4 ha hv
  go_enter Tryd.func20, Tryd.ntmps20
  go_wp2_with fail
  rw [HW_w0.out, HW_w1.out]
  refine (HCC.out w1 (Tr.below_step HB_w0.out HB_w1.out)).mono ?_
  rintro e w2 ⟨us2, rfl, ho2, hb2⟩
  have hq2 := ho2
  obtain ⟨bs2, hq2, _⟩ := hq2
  obtain ⟨A4, n4, cap4, A5, n5, cap5, A6, n6, cap6, rfl⟩ := sinv_Machine hq2
  have HB_w2 := Lib.hid hb2
  have HO2 := Lib.hid ho2
  have HN4 := Lib.hid (owned_lens ho2)
  have hk20 : w2.cell? ⟨B, 0, none⟩ = some (.slice A n cap) := cell_at (Tr.below_step HB_w1.out HB_w2.out) HX_w0.out 0
  have hk21 : w2.cell? ⟨B, 1, none⟩ = some (.slice A2 n2 cap2) := cell_at (Tr.below_step HB_w1.out HB_w2.out) HX_w0.out 1
  have hk22 : w2.cell? ⟨B, 2, none⟩ = some (.slice A3 n3 cap3) := cell_at (Tr.below_step HB_w1.out HB_w2.out) HX_w0.out 2
  have hs21 := hb2.size
  clear hq2 ho2 hb2
  obtain ⟨C, hs_C⟩ : ∃ B, w2.heap.size = B := ⟨_, rfl⟩
  have hzo_ := hs_C
  have hx_ : (w2.alloc (.cells #[.slice A4 n4 cap4, .slice A5 n5 cap5, .slice A6 n6 cap6] 32)).heap[C]? = some (.cells #[.slice A4 n4 cap4, .slice A5 n5 cap5, .slice A6 n6 cap6] 32 (0, 0)) := by rw [← hzo_]; exact heap_alloc_new w2 _
  have hb_ : Below w2.heap.size w2 (w2.alloc (.cells #[.slice A4 n4 cap4, .slice A5 n5 cap5, .slice A6 n6 cap6] 32)) := (Below.refl _ _).alloc (Nat.le_refl _) _
  have hz_ : (w2.alloc (.cells #[.slice A4 n4 cap4, .slice A5 n5 cap5, .slice A6 n6 cap6] 32)).heap.size = C + 1 := by simp [hzo_]
  obtain ⟨w3, hw_⟩ : ∃ z, (w2.alloc (.cells #[.slice A4 n4 cap4, .slice A5 n5 cap5, .slice A6 n6 cap6] 32)) = z := ⟨_, rfl⟩
  rw [hw_] at hx_ hb_ hz_
  have HX_w3 := Lib.hid hx_
  have HB_w3 := Lib.hid hb_
  have HW_w3 := Lib.hid hw_
  have hz_w3 := Lib.hid hz_
  clear hx_ hb_ hw_ hz_ hzo_
  have hBC : B < C := by omega
  have hBC1 : B + 1 < C := by omega
  go_wp2_with fail
  rw [HW_w3.out]
  refine (HCE.out w3 (Tr.below_step (Tr.below_step (Tr.below_step HB_w0.out HB_w1.out) HB_w2.out) HB_w3.out)).mono ?_
  rintro e w4 ⟨rfl, hb4⟩
  have HB_w4 := Lib.hid hb4
  obtain ⟨M, hM⟩ : ∃ M, (pEntry m addr).1.Mode = M := ⟨_, rfl⟩
  obtain ⟨F, hF⟩ : ∃ F, (pEntry m addr).1.Frame = F := ⟨_, rfl⟩
  obtain ⟨K, hK⟩ : ∃ K, (pEntry m addr).2 = K := ⟨_, rfl⟩
  rw [hM, hF, hK]
  have HM := Lib.hid hM
  have HF := Lib.hid hF
  have HK := Lib.hid hK
  have hk40 : w4.cell? ⟨B, 0, none⟩ = some (.slice A n cap) := cell_at (Tr.below_step (Tr.below_step (Tr.below_step HB_w1.out HB_w2.out) HB_w3.out) HB_w4.out) HX_w0.out 0
  have hk41 : w4.cell? ⟨B, 1, none⟩ = some (.slice A2 n2 cap2) := cell_at (Tr.below_step (Tr.below_step (Tr.below_step HB_w1.out HB_w2.out) HB_w3.out) HB_w4.out) HX_w0.out 1
  have hk42 : w4.cell? ⟨B, 2, none⟩ = some (.slice A3 n3 cap3) := cell_at (Tr.below_step (Tr.below_step (Tr.below_step HB_w1.out HB_w2.out) HB_w3.out) HB_w4.out) HX_w0.out 2
  have hs43 := hb4.size
  have hC3 := lt_of_block HX_w3.out
  clear hM hF hK hb4 hk20 hk21 hk22
  obtain ⟨G, hs_G⟩ : ∃ B, w4.heap.size = B := ⟨_, rfl⟩
  have hzo_ := hs_G
  have hx_ : (w4.alloc (.cells #[.int .i64 M, .int .i64 F] 39)).heap[G]? = some (.cells #[.int .i64 M, .int .i64 F] 39 (0, 0)) := by rw [← hzo_]; exact heap_alloc_new w4 _
  have hb_ : Below w4.heap.size w4 (w4.alloc (.cells #[.int .i64 M, .int .i64 F] 39)) := (Below.refl _ _).alloc (Nat.le_refl _) _
  have hz_ : (w4.alloc (.cells #[.int .i64 M, .int .i64 F] 39)).heap.size = G + 1 := by simp [hzo_]
  obtain ⟨w5, hw_⟩ : ∃ z, (w4.alloc (.cells #[.int .i64 M, .int .i64 F] 39)) = z := ⟨_, rfl⟩
  rw [hw_] at hx_ hb_ hz_
  have HX_w5 := Lib.hid hx_
  have HB_w5 := Lib.hid hb_
  have HW_w5 := Lib.hid hw_
  have hz_w5 := Lib.hid hz_
  clear hx_ hb_ hw_ hz_ hzo_
  have hCG : C < G := by omega
  have hBG : B < G := by omega
  go_wp2_with fail
  rw [HW_w5.out]
  refine (HCO.out w5 (Tr.below_step (Tr.below_step (Tr.below_step (Tr.below_step (Tr.below_step HB_w0.out HB_w1.out) HB_w2.out) HB_w3.out) HB_w4.out) HB_w5.out)).mono ?_
  rintro e w6 ⟨rfl, hb6⟩
  have HB_w6 := Lib.hid hb6
  have HC6 := Lib.hid (((Tr.below_step (Tr.below_step HB_w4.out HB_w5.out) HB_w6.out).block C hC3).trans HX_w3.out)
  have HR6 := Lib.hid (((Tr.below_step (Tr.below_step (Tr.below_step (Tr.below_step HB_w2.out HB_w3.out) HB_w4.out) HB_w5.out) HB_w6.out).block (B + 1) hz1).trans HX_w1.out)
  have HO6 := Lib.hid (HO2.out.below (Tr.below_step (Tr.below_step (Tr.below_step HB_w3.out HB_w4.out) HB_w5.out) HB_w6.out))
  have hkc0 : w6.cell? ⟨C, 0, none⟩ = some (.slice A4 n4 cap4) := cell_of_block HC6.out 0
  have hkc1 : w6.cell? ⟨C, 1, none⟩ = some (.slice A5 n5 cap5) := cell_of_block HC6.out 1
  have hkc2 : w6.cell? ⟨C, 2, none⟩ = some (.slice A6 n6 cap6) := cell_of_block HC6.out 2
  have hkg0 : w6.cell? ⟨G, 0, none⟩ = some (.int .i64 M) := cell_at HB_w6.out HX_w5.out 0
  have hkg1 : w6.cell? ⟨G, 1, none⟩ = some (.int .i64 F) := cell_at HB_w6.out HX_w5.out 1
  have hG6 : G < w6.heap.size := by have := lt_of_block HX_w5.out; have := hb6.size; omega
  have HB6 := Lib.hid (Tr.below_step (Tr.below_step (Tr.below_step (Tr.below_step (Tr.below_step (Tr.below_step HB_w0.out HB_w1.out) HB_w2.out) HB_w3.out) HB_w4.out) HB_w5.out) HB_w6.out)
  clear hb6 hk40 hk41 hk42
  by_cases hc : canLoad m addr
  · have hd : decide (okM m) = true := decide_eq_true hc.1
    have hmz : (M == 0) = false := by
      have := hc.2
      rw [HM.out] at this
      simp [this]
    by_cases hm1 : M = 1
    · subst hm1
      have HV : Hid (pStore m addr v = (m, 2)) := by show _ = _; unfold pStore; rw [if_pos hc, if_pos HM.out]
      obtain ⟨q0, q1, q2, q3, q4, q5, HG, HE, HBE⟩ := ret3 hsw HB6.out HO6.out (by omega) HR6.out
      rw [hd]
      clear hd hc hmz
      go_wp2
      refine ret_ct rfl HG.out rfl Tryd.underlying32 rfl sizeM rfl ?_
      rw [HV.out]; exact ⟨[_, _, _], rfl, HE.out, HBE.out⟩
    · have hmn : (M == 1) = false := by simp [hm1]
      by_cases hvr : 0 ≤ v ∧ v ≤ 999
      · have HV : Hid (pStore m addr v = (setCellOf m F K v, 0)) := by
          show _ = _
          unfold pStore
          rw [if_pos hc, if_neg (by rw [HM.out]; exact hm1), if_pos hvr, HF.out, HK.out]
        obtain ⟨_, f, k, r, hf, hk, hk16, hfl, _, hr, hr16⟩ := load_at hc
        rw [HF.out] at hf
        rw [HK.out] at hk
        subst hf
        subst hk
        have HSC : Hid (setCellOf m (f : Int) (k : Int) v = ⟨⟨m.Frames.Cells.set f (r.set k v), m.Frames.Used⟩, m.Table⟩) := by
          show _ = _
          unfold setCellOf
          rw [Int.toNat_natCast, Int.toNat_natCast, List.getD_eq_getElem?_getD (l := m.Frames.Cells), hr]; rfl
        obtain ⟨g, o, g2, o2, cap7, cur2, u, e1, hrow, hgB, hg, hu2, hset⟩ := ma_cell HO6.out hr (k := k) (by omega) v
        subst e1
        rw [hr16] at hrow
        have hgC : g2 ≠ C := by
          intro hh
          have h1 := HC6.out
          rw [hh] at hg
          rw [hg] at h1
          have := (Option.some.inj h1)
          simp at this
        have hgG : g2 ≠ G := by
          intro hh
          have h1 := (HB_w6.out.block G (lt_of_block HX_w5.out)).trans HX_w5.out
          rw [hh] at hg
          rw [hg] at h1
          have := (Option.some.inj h1)
          simp at this
        have hgl := lt_of_block hg
        have hku : w6.cell? ⟨g2, o2 + k, none⟩ = some u := (cell_of_block hg (o2 + k)).trans hu2
        have hfu := free_of_block hg (o2 + k)
        have hown7 := hset _ (block_set hg (o2 + k) (.int .i64 v)) (fun y hy => Below.heap_setCell _ _ _ _ hy)
        have hx7 := (Below.heap_setCell w6 ⟨g2, o2 + k, none⟩ (.int .i64 v) (B + 1) (by show B + 1 ≠ g2; omega)).trans HR6.out
        have hxC := (Below.heap_setCell w6 ⟨g2, o2 + k, none⟩ (.int .i64 v) C (by show C ≠ g2; omega)).trans HC6.out
        have hk07 : (w6.setCell ⟨g2, o2 + k, none⟩ (.int .i64 v)).cell? ⟨C, 0, none⟩ = some (.slice (some ⟨g, o, none⟩) n4 cap4) := cell_of_block hxC 0
        have hk17 : (w6.setCell ⟨g2, o2 + k, none⟩ (.int .i64 v)).cell? ⟨C, 1, none⟩ = some (.slice A5 n5 cap5) := cell_of_block hxC 1
        have hk27 : (w6.setCell ⟨g2, o2 + k, none⟩ (.int .i64 v)).cell? ⟨C, 2, none⟩ = some (.slice A6 n6 cap6) := cell_of_block hxC 2
        have hb7 : Below w.heap.size w (w6.setCell ⟨g2, o2 + k, none⟩ (.int .i64 v)) := HB6.out.setCell (p := ⟨g2, o2 + k, none⟩) (by show _ ≤ g2; omega) _
        obtain ⟨q0, q1, q2, q3, q4, q5, HG, HE, HBE⟩ := ret3 hsw hb7 hown7 (by omega) hx7
        have hj0 : (0 : Int) ≤ f := by omega
        have hj2 : (f : Int) < n4 := by have := HN4.out; omega
        have hk0 : (0 : Int) ≤ k := by omega
        have hk2 : (k : Int) < 16 := by omega
        rw [hd]
        clear hd hr hr16 hset hg hu2 hown7 hx7 hxC hb7 hc hm1 hfl hlC
        go_wp2_with fail
        refine (Bm.in_yes _ _ _ _ hvr.1 hvr.2).mono ?_
        rintro e w' ⟨rfl, rfl⟩
        go_wp2
        refine ret_ct rfl HG.out rfl Tryd.underlying32 rfl sizeM rfl ?_
        rw [HV.out, HSC.out]; exact ⟨[_, _, _], rfl, HE.out, HBE.out⟩
      · have HV : Hid (pStore m addr v = (m, 3)) := by
          show _ = _
          unfold pStore
          rw [if_pos hc, if_neg (by rw [HM.out]; exact hm1), if_neg hvr]
        obtain ⟨q0, q1, q2, q3, q4, q5, HG, HE, HBE⟩ := ret3 hsw HB6.out HO6.out (by omega) HR6.out
        have HI := Lib.hid hvr
        rw [hd]
        clear hd hc hm1 hvr
        go_wp2_with fail
        refine (Bm.in_no _ _ _ _ HI.out).mono ?_
        rintro e w' ⟨rfl, rfl⟩
        go_wp2
        refine ret_ct rfl HG.out rfl Tryd.underlying32 rfl sizeM rfl ?_
        rw [HV.out]; exact ⟨[_, _, _], rfl, HE.out, HBE.out⟩
  · have HV : Hid (pStore m addr v = (m, 1)) := by show _ = _; unfold pStore; rw [if_neg hc]
    obtain ⟨q0, q1, q2, q3, q4, q5, HG, HE, HBE⟩ := ret3 hsw HB6.out HO6.out (by omega) HR6.out
    by_cases hok : okM m
    · have hd : decide (okM m) = true := decide_eq_true hok
      obtain rfl : M = 0 := by
        have : ¬ M ≠ 0 := fun hm => hc ⟨hok, by rw [HM.out]; exact hm⟩
        omega
      rw [hd]
      clear hd hok hc
      go_wp2
      refine ret_ct rfl HG.out rfl Tryd.underlying32 rfl sizeM rfl ?_
      rw [HV.out]; exact ⟨[_, _, _], rfl, HE.out, HBE.out⟩
    · have hd : decide (okM m) = false := decide_eq_false hok
      rw [hd]
      clear hd hok hc
      go_wp2
      refine ret_ct rfl HG.out rfl Tryd.underlying32 rfl sizeM rfl ?_
      rw [HV.out]; exact ⟨[_, _, _], rfl, HE.out, HBE.out⟩
end Tr
end Go.Proofs.YtkmkpjpopobdbaaDoor

/- The machine: the specification's PageText and MachineNew; how large the results are. -/
import Derived.Test.YtkmkpjpopobdbaaS07d
import Derived.Test.YtkmkpjpopobdbaaS05h
namespace Go.Proofs.Ytkmkpjpopobdbaa
open Go.RowKit
set_option linter.unusedVariables false
namespace Tr
theorem szb_FramesNew (n : Int) : (eFrames (pFramesNew n).1).sz ≤ 1000000 := by
  unfold pFramesNew
  split
  · rw [sz_Frames, sz_bools]
    show (eIntSS (List.replicate n.toNat (List.replicate 16 0))).sz + (List.replicate n.toNat false).length ≤ _
    unfold eIntSS
    rw [rowD_sz, List.map_replicate, szs_replicate, sz_ints, List.length_replicate, List.length_replicate, List.length_replicate]
    omega
  · rw [sz_Frames, sz_bools]
    show (eIntSS []).sz + 0 ≤ _
    unfold eIntSS
    rw [rowD_sz]; simp [szs]
theorem own_none {α : Type} (w : World) (T k : Nat) (E : α → D) : Own w (rowD T k E []) [.slice none 0 0] [] := ⟨_, [], [], [], rfl, rfl, ⟨rfl, rfl⟩, Or.inl ⟨⟨none, rfl⟩, rfl, rfl, rfl⟩⟩
theorem own_noM (w : World) (B : Nat) : Owned w B (eMachine noM) [.slice none 0 0, .slice none 0 0, .slice none 0 0] :=
  ⟨[], (own_app _ _).2 ⟨[_, _], [_], [], [], rfl, rfl, (own_app _ _).2 ⟨[_], [_], [], [], rfl, rfl, own_none w _ _ _, own_none w _ _ _⟩, own_none w _ _ _⟩, by simp, by simp⟩
theorem spec_MachineNew (pages frames : Int) (w : World) (hp : okI pages) (hf : okI frames) : Calls Try.prog 5 #[.int .i64 pages, .int .i64 frames] w (RetM (fun us => .tuple #[.agg us.toArray, .bool (pMachineNew pages frames).2]) (eMachine (pMachineNew pages frames).1) w) := by
  obtain ⟨B, hs_B⟩ : ∃ B, w.heap.size = B := ⟨_, rfl⟩
  have hzo_ := hs_B
  have hx_ : (w.alloc (.cells #[.slice none 0 0, .slice none 0 0, .slice none 0 0] 30)).heap[B]? = some (.cells #[.slice none 0 0, .slice none 0 0, .slice none 0 0] 30 (0, 0)) := by rw [← hzo_]; exact heap_alloc_new w _
  have hb_ : Below w.heap.size w (w.alloc (.cells #[.slice none 0 0, .slice none 0 0, .slice none 0 0] 30)) := (Below.refl _ _).alloc (Nat.le_refl _) _
  have hz_ : (w.alloc (.cells #[.slice none 0 0, .slice none 0 0, .slice none 0 0] 30)).heap.size = B + 1 := by simp [hzo_]
  obtain ⟨w0, hw_⟩ : ∃ z, (w.alloc (.cells #[.slice none 0 0, .slice none 0 0, .slice none 0 0] 30)) = z := ⟨_, rfl⟩
  rw [hw_] at hx_ hb_ hz_
  have HX_w0 := Lib.hid hx_
  have HB_w0 := Lib.hid hb_
  have HW_w0 := Lib.hid hw_
  have hz_w0 := Lib.hid hz_
  clear hx_ hb_ hw_ hz_ hzo_
  go_enter Try.func5, Try.ntmps5
  go_wp2_with fail
  rw [HW_w0.out]
  refine (spec_FramesNew frames w0 hf).mono ?_
  rintro e w1 ⟨us1, rfl, ho1, hb1⟩
  have hq1 := ho1
  obtain ⟨bs1, hq1, _⟩ := hq1
  obtain ⟨A, n, cap, A2, n2, cap2, rfl⟩ := sinv_Frames hq1
  have HB_w1 := Lib.hid hb1
  have HO1 := Lib.hid ho1
  clear hq1 ho1 hb1
  obtain ⟨ok, hok⟩ : ∃ ok, (pFramesNew frames).2 = ok := ⟨_, rfl⟩
  rw [hok]
  have HOK := Lib.hid hok
  clear hok
  obtain ⟨C, hs_C⟩ : ∃ B, w1.heap.size = B := ⟨_, rfl⟩
  have hzo_ := hs_C
  have hx_ : (w1.alloc (.cells #[.slice A n cap, .slice A2 n2 cap2] 25)).heap[C]? = some (.cells #[.slice A n cap, .slice A2 n2 cap2] 25 (0, 0)) := by rw [← hzo_]; exact heap_alloc_new w1 _
  have hb_ : Below w1.heap.size w1 (w1.alloc (.cells #[.slice A n cap, .slice A2 n2 cap2] 25)) := (Below.refl _ _).alloc (Nat.le_refl _) _
  have hz_ : (w1.alloc (.cells #[.slice A n cap, .slice A2 n2 cap2] 25)).heap.size = C + 1 := by simp [hzo_]
  obtain ⟨w2, hw_⟩ : ∃ z, (w1.alloc (.cells #[.slice A n cap, .slice A2 n2 cap2] 25)) = z := ⟨_, rfl⟩
  rw [hw_] at hx_ hb_ hz_
  have HX_w2 := Lib.hid hx_
  have HB_w2 := Lib.hid hb_
  have HW_w2 := Lib.hid hw_
  have hz_w2 := Lib.hid hz_
  clear hx_ hb_ hw_ hz_ hzo_
  go_wp2_with fail
  rw [HW_w2.out]
  refine (spec_TableNew pages w2 hp).mono ?_
  rintro e w3 ⟨us3, rfl, ho3, hb3⟩
  have hq3 := ho3
  obtain ⟨bs3, hq3, _⟩ := hq3
  obtain ⟨A3, n3, cap3, rfl⟩ := sinv_Table hq3
  have HB_w3 := Lib.hid hb3
  have hs0 : B < w0.heap.size := lt_of_block HX_w0.out
  have hs2 := (Tr.below_step HB_w1.out HB_w2.out).size
  have HOJ := Lib.hid (owned_join' (HO1.out.below HB_w2.out) hb3 ho3 hs2)
  clear hq3 ho3 hb3
  obtain ⟨is, his⟩ : ∃ is, (pTableNew pages).2 = is := ⟨_, rfl⟩
  rw [his]
  have HIS := Lib.hid his
  clear his
  obtain ⟨G, hs_G⟩ : ∃ B, w3.heap.size = B := ⟨_, rfl⟩
  have hzo_ := hs_G
  have hx_ : (w3.alloc (.cells #[.slice A3 n3 cap3] 28)).heap[G]? = some (.cells #[.slice A3 n3 cap3] 28 (0, 0)) := by rw [← hzo_]; exact heap_alloc_new w3 _
  have hb_ : Below w3.heap.size w3 (w3.alloc (.cells #[.slice A3 n3 cap3] 28)) := (Below.refl _ _).alloc (Nat.le_refl _) _
  have hz_ : (w3.alloc (.cells #[.slice A3 n3 cap3] 28)).heap.size = G + 1 := by simp [hzo_]
  obtain ⟨w4, hw_⟩ : ∃ z, (w3.alloc (.cells #[.slice A3 n3 cap3] 28)) = z := ⟨_, rfl⟩
  rw [hw_] at hx_ hb_ hz_
  have HX_w4 := Lib.hid hx_
  have HB_w4 := Lib.hid hb_
  have HW_w4 := Lib.hid hw_
  have hz_w4 := Lib.hid hz_
  clear hx_ hb_ hw_ hz_ hzo_
  go_upto_region 3 with fail
  rw [HW_w4.out]
  have hkc0 : w4.cell? ⟨C, 0, none⟩ = some (.slice A n cap) := cell_at (Tr.below_step HB_w3.out HB_w4.out) HX_w2.out 0
  have hkc1 : w4.cell? ⟨C, 1, none⟩ = some (.slice A2 n2 cap2) := cell_at (Tr.below_step HB_w3.out HB_w4.out) HX_w2.out 1
  have hkg0 : w4.cell? ⟨G, 0, none⟩ = some (.slice A3 n3 cap3) := cell_at (Below.refl _ _) HX_w4.out 0
  have hsw : w.heap.size ≤ B := by omega
  have HX4 := Lib.hid (((Tr.below_step (Tr.below_step (Tr.below_step HB_w1.out HB_w2.out) HB_w3.out) HB_w4.out).block B hs0).trans HX_w0.out)
  by_cases hboth : ok = true ∧ is = true
  · obtain ⟨rfl, rfl⟩ := hboth
    have HV : Hid (pMachineNew pages frames = (⟨(pFramesNew frames).1, (pTableNew pages).1⟩, true)) := by show _ = _; unfold pMachineNew; rw [if_pos ⟨HOK.out, HIS.out⟩]
    obtain ⟨q0, q1, q2, q3, q4, q5, HG, HE, HBE⟩ := ret3 (d := eMachine ⟨(pFramesNew frames).1, (pTableNew pages).1⟩) hsw (Tr.below_step (Tr.below_step (Tr.below_step (Tr.below_step HB_w0.out HB_w1.out) HB_w2.out) HB_w3.out) HB_w4.out) (HOJ.out.below HB_w4.out) (by omega) HX4.out
    clear hp hf
    go_wp2
    refine ret_ct rfl HG.out rfl Try.underlying30 rfl sizeM rfl ?_
    rw [HV.out]; exact ⟨[_, _, _], rfl, HE.out, HBE.out⟩
  · have HV : Hid (pMachineNew pages frames = (noM, false)) := by show _ = _; unfold pMachineNew; rw [if_neg (by rw [HOK.out, HIS.out]; exact hboth)]
    obtain ⟨q0, q1, q2, q3, q4, q5, HG, HE, HBE⟩ := ret3 hsw (Tr.below_step (Tr.below_step (Tr.below_step (Tr.below_step HB_w0.out HB_w1.out) HB_w2.out) HB_w3.out) HB_w4.out) (own_noM w4 (B + 1)) (by omega) HX4.out
    have HNB := Lib.hid hboth
    clear hp hf hboth
    cases ok with
    | false =>
      go_wp2
      refine ret_ct rfl HG.out rfl Try.underlying30 rfl sizeM rfl ?_
      rw [HV.out]; exact ⟨[_, _, _], rfl, HE.out, HBE.out⟩
    | true =>
      cases is with
      | true => exact absurd ⟨rfl, rfl⟩ HNB.out
      | false =>
        go_wp2
        refine ret_ct rfl HG.out rfl Try.underlying30 rfl sizeM rfl ?_
        rw [HV.out]; exact ⟨[_, _, _], rfl, HE.out, HBE.out⟩
theorem bound_MachineNew (pages frames : Int) : (eMachine (pMachineNew pages frames).1).sz ≤ 50000000 := by
  unfold pMachineNew
  split
  · rw [sz_Machine]
    have h1 := szb_FramesNew frames
    have h2 := bound_TableNew pages
    rw [sz_Table_len] at h2
    have h3 : (pTableNew pages).1.Entries.length ≤ 32 := by
      unfold pTableNew
      split
      · show (List.replicate _ _).length ≤ _
        rw [List.length_replicate]; omega
      · show (0 : Nat) ≤ _
        omega
    have h4 := sz_Table_len (pTableNew pages).1
    show (eFrames (pFramesNew frames).1).sz + (eTable (pTableNew pages).1).sz ≤ _
    omega
  · show (eMachine noM).sz ≤ _
    rw [sz_Machine]
    show (eFrames ⟨[], []⟩).sz + (eTable ⟨[]⟩).sz ≤ _
    rw [sz_Frames, sz_Table_len]
    show (eIntSS []).sz + (eBoolS []).sz + 0 ≤ _
    rw [sz_bools]
    unfold eIntSS
    rw [rowD_sz]; simp [szs]
theorem bound_Store (m : GMachine) (addr v : Int) (h : (eMachine m).sz ≤ 1048576) : (eMachine (pStore m addr v).1).sz ≤ 50000000 := by
  have hm : (eMachine m).sz ≤ 50000000 := by omega
  unfold pStore
  split
  · split
    · exact hm
    · split
      · unfold setCellOf
        rw [sz_Machine, sz_Frames] at h ⊢
        have h1 := sz_set m.Frames.Cells (pEntry m addr).1.Frame.toNat ((m.Frames.Cells.getD (pEntry m addr).1.Frame.toNat []).set (pEntry m addr).2.toNat v)
        rw [List.length_set] at h1
        have h2 : (m.Frames.Cells.getD (pEntry m addr).1.Frame.toNat []).length ≤ 1048576 := by
          rw [List.getD_eq_getElem?_getD]
          cases hr : m.Frames.Cells[(pEntry m addr).1.Frame.toNat]? with
          | none => simp
          | some r =>
            have := sz_elem (T := 58) (k := 1) (E := eIntS) (l := m.Frames.Cells) (n := 1048576) (by show (eIntSS m.Frames.Cells).sz ≤ _; omega) hr
            rw [sz_ints] at this
            exact this
        show (eIntSS (m.Frames.Cells.set _ _)).sz + (eBoolS m.Frames.Used).sz + (eTable m.Table).sz ≤ _
        omega
      · exact hm
  · exact hm
theorem bound_PageText (m : GMachine) (page : Int) (h : (eMachine m).sz ≤ 1048576) : (eIntS (pPageText m page)).sz ≤ 50000000 := by
  rw [sz_ints]
  unfold pPageText
  split
  · rw [List.getD_eq_getElem?_getD]
    cases hr : m.Frames.Cells[(pPageEntry m.Table page).Frame.toNat]? with
    | none => simp
    | some r =>
      obtain ⟨_, _, h3, _⟩ := sz_machine h
      have := sz_elem (T := 58) (k := 1) (E := eIntS) (l := m.Frames.Cells) (n := 1048576) h3 hr
      rw [sz_ints] at this
      show r.length ≤ _
      omega
  · simp
end Tr
end Go.Proofs.Ytkmkpjpopobdbaa

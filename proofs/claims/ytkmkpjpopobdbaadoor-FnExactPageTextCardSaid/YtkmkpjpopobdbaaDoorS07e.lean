/- The machine: the specification's PageText and MachineNew; how large the results are. -/
import Derived.Test.YtkmkpjpopobdbaaDoorS07d
import Derived.Test.YtkmkpjpopobdbaaDoorS05h
namespace Go.Proofs.YtkmkpjpopobdbaaDoor
open Go.RowKit
set_option linter.unusedVariables false
namespace Tr
theorem spec_PageText (m : GMachine) (c0 c1 c2 : Value) (page : Int) (w : World) (h : Rd w (eMachine m) [c0, c1, c2]) (hs : (eMachine m).sz ≤ 1048576) (hp : okI page) : Calls Tryd.prog 23 #[.agg #[c0, c1, c2], .int .i64 page] w (RetM (fun us => us.headD undef) (eIntS (pPageText m page)) w) := by
  obtain ⟨hs1, hs2, hs3, hs4⟩ := sz_machine hs
  obtain ⟨hrF, hrT⟩ := rd_machine h
  obtain ⟨A, n, cap, A2, n2, cap2, A3, n3, cap3, rfl, rfl, rfl⟩ := inv_machine h
  obtain ⟨j0, hj, hy0, hy1, hy2⟩ := info_parts infoII
  have hlC := sz_len (T := 34) (k := 1) (E := eIntS) (l := m.Frames.Cells) (n := 1048576) hs3
  obtain ⟨B, hs_B⟩ : ∃ B, w.heap.size = B := ⟨_, rfl⟩
  have hzo_ := hs_B
  have hx_ : (w.alloc (.cells #[.slice A n cap, .slice A2 n2 cap2, .slice A3 n3 cap3] 32)).heap[B]? = some (.cells #[.slice A n cap, .slice A2 n2 cap2, .slice A3 n3 cap3] 32 (0, 0)) := by rw [← hzo_]; exact heap_alloc_new w _
  have hb_ : Below w.heap.size w (w.alloc (.cells #[.slice A n cap, .slice A2 n2 cap2, .slice A3 n3 cap3] 32)) := (Below.refl _ _).alloc (Nat.le_refl _) _
  have hz_ : (w.alloc (.cells #[.slice A n cap, .slice A2 n2 cap2, .slice A3 n3 cap3] 32)).heap.size = B + 1 := by simp [hzo_]
  obtain ⟨w0, hw_⟩ : ∃ z, (w.alloc (.cells #[.slice A n cap, .slice A2 n2 cap2, .slice A3 n3 cap3] 32)) = z := ⟨_, rfl⟩
  rw [hw_] at hx_ hb_ hz_
  have HX_w0 := Lib.hid hx_
  have HB_w0 := Lib.hid hb_
  have HW_w0 := Lib.hid hw_
  have hz_w0 := Lib.hid hz_
  clear hx_ hb_ hw_ hz_ hzo_
  have HRF := Lib.hid hrF
  have HSC := Lib.hid hs3
  have HCE : Hid (∀ W, Below w.heap.size w W → Calls Tryd.prog 12 #[.agg #[.slice A3 n3 cap3], .int .i64 page] W (RetP (.agg #[.int .i64 (pPageEntry m.Table page).Mode, .int .i64 (pPageEntry m.Table page).Frame]) W)) := fun W hb => spec_PageEntry m.Table _ page W (hrT.below hb) hs2 hp
  have HCO : Hid (∀ W, Below w.heap.size w W → Calls Tryd.prog 37 #[.agg #[.slice A n cap, .slice A2 n2 cap2, .slice A3 n3 cap3]] W (RetP (.bool (decide (okM m))) W)) := fun W hb => spec_MachineOk m _ _ _ W (h.below hb) hs
  clear h hs hs1 hs2 hs3 hs4 hrF hrT hp
  go_enter Tryd.func23, Tryd.ntmps23
  go_wp2_with fail
  rw [HW_w0.out]
  refine (HCE.out w0 HB_w0.out).mono ?_
  rintro e w1 ⟨rfl, hb1⟩
  have HB_w1 := Lib.hid hb1
  obtain ⟨M, hM⟩ : ∃ M, (pPageEntry m.Table page).Mode = M := ⟨_, rfl⟩
  obtain ⟨F, hF⟩ : ∃ F, (pPageEntry m.Table page).Frame = F := ⟨_, rfl⟩
  rw [hM, hF]
  have HM := Lib.hid hM
  have HF := Lib.hid hF
  have hk10 : w1.cell? ⟨B, 0, none⟩ = some (.slice A n cap) := cell_at HB_w1.out HX_w0.out 0
  have hk11 : w1.cell? ⟨B, 1, none⟩ = some (.slice A2 n2 cap2) := cell_at HB_w1.out HX_w0.out 1
  have hk12 : w1.cell? ⟨B, 2, none⟩ = some (.slice A3 n3 cap3) := cell_at HB_w1.out HX_w0.out 2
  have hB1 : B < w1.heap.size := by have := lt_of_block HX_w0.out; have := HB_w1.out.size; omega
  clear hM hF hb1
  obtain ⟨C, hs_C⟩ : ∃ B, w1.heap.size = B := ⟨_, rfl⟩
  have hzo_ := hs_C
  have hx_ : (w1.alloc (.cells #[.int .i64 M, .int .i64 F] 39)).heap[C]? = some (.cells #[.int .i64 M, .int .i64 F] 39 (0, 0)) := by rw [← hzo_]; exact heap_alloc_new w1 _
  have hb_ : Below w1.heap.size w1 (w1.alloc (.cells #[.int .i64 M, .int .i64 F] 39)) := (Below.refl _ _).alloc (Nat.le_refl _) _
  have hz_ : (w1.alloc (.cells #[.int .i64 M, .int .i64 F] 39)).heap.size = C + 1 := by simp [hzo_]
  obtain ⟨w2, hw_⟩ : ∃ z, (w1.alloc (.cells #[.int .i64 M, .int .i64 F] 39)) = z := ⟨_, rfl⟩
  rw [hw_] at hx_ hb_ hz_
  have HX_w2 := Lib.hid hx_
  have HB_w2 := Lib.hid hb_
  have HW_w2 := Lib.hid hw_
  have hz_w2 := Lib.hid hz_
  clear hx_ hb_ hw_ hz_ hzo_
  have hBC : B < C := by omega
  go_wp2_with fail
  rw [HW_w2.out]
  refine (HCO.out w2 (Tr.below_step (Tr.below_step HB_w0.out HB_w1.out) HB_w2.out)).mono ?_
  rintro e w3 ⟨rfl, hb3⟩
  have HB_w3 := Lib.hid hb3
  clear hb3 hk10 hk11 hk12
  obtain ⟨G, hs_G⟩ : ∃ B, w3.heap.size = B := ⟨_, rfl⟩
  have hzo_ := hs_G
  have hx_ : (w3.alloc (.cells #[] 3)).heap[G]? = some (.cells #[] 3 (0, 0)) := by rw [← hzo_]; exact heap_alloc_new w3 _
  have hb_ : Below w3.heap.size w3 (w3.alloc (.cells #[] 3)) := (Below.refl _ _).alloc (Nat.le_refl _) _
  have hz_ : (w3.alloc (.cells #[] 3)).heap.size = G + 1 := by simp [hzo_]
  obtain ⟨w4, hw_⟩ : ∃ z, (w3.alloc (.cells #[] 3)) = z := ⟨_, rfl⟩
  rw [hw_] at hx_ hb_ hz_
  have HX_w4 := Lib.hid hx_
  have HB_w4 := Lib.hid hb_
  have HW_w4 := Lib.hid hw_
  have hz_w4 := Lib.hid hz_
  clear hx_ hb_ hw_ hz_ hzo_
  have hb3G : B < w3.heap.size ∧ C < w3.heap.size := by have := (Tr.below_step HB_w2.out HB_w3.out).size; have := lt_of_block HX_w2.out; have := HB_w3.out.size; omega
  have hBG : B < G := by omega
  have hCG : C < G := by omega
  have hk30 : w3.cell? ⟨B, 0, none⟩ = some (.slice A n cap) := cell_at (Tr.below_step (Tr.below_step HB_w1.out HB_w2.out) HB_w3.out) HX_w0.out 0
  have hkc0 : w3.cell? ⟨C, 0, none⟩ = some (.int .i64 M) := cell_at HB_w3.out HX_w2.out 0
  have hkc1 : w3.cell? ⟨C, 1, none⟩ = some (.int .i64 F) := cell_at HB_w3.out HX_w2.out 1
  have hown : w4.ownsRow G 3 1 (.slice (some ⟨G, 0, none⟩) 0 0) 0 [] := ⟨by simp, .inr ⟨_, 0, _, rfl, Nat.le_refl _, HX_w4.out, Nat.le_refl _, by unfold maxLen; omega, rfl, by simp⟩⟩
  have HO := Lib.hid hown
  have hwG : w.heap.size ≤ G := by have := (Tr.below_step (Tr.below_step (Tr.below_step HB_w0.out HB_w1.out) HB_w2.out) HB_w3.out).size; omega
  have HEM : Hid (Owned w4 w.heap.size (eIntS []) [.slice (some ⟨G, 0, none⟩) 0 0]) := ((ints_owned (l := []) hown rfl).mono hwG)
  clear hown hb3G
  by_cases hc : okM m ∧ (pPageEntry m.Table page).Mode ≠ 0
  · have hd : decide (okM m) = true := decide_eq_true hc.1
    have hmz : (M == 0) = false := by
      have := hc.2
      rw [HM.out] at this
      simp [this]
    obtain ⟨f, hf, hfl, _, hr16, hr⟩ := okM_entry hc.1 hc.2
    rw [HF.out] at hf
    subst hf
    obtain ⟨r, hrr⟩ : ∃ r, m.Frames.Cells.getD f [] = r := ⟨_, rfl⟩
    rw [hrr] at hr16 hr
    have HV : Hid (pPageText m page = r) := by
      show _ = _
      unfold pPageText
      rw [if_pos hc, HF.out, Int.toNat_natCast, hrr]
    obtain ⟨bs, hFr⟩ := HRF.out
    obtain ⟨b0, b1, _, h0, _⟩ := parts_Frames hFr
    obtain ⟨A', n', cap', e', hn, _, _, hA⟩ := read_rowD (T := 34) (E := eIntS) (k := 1) h0 (fun _ => rfl)
    rw [Value.slice.injEq] at e'
    obtain ⟨rfl, rfl, rfl⟩ := e'
    obtain ⟨g, o, r', us, b, rfl, hr', hus, hcl, ho, _⟩ := hA f (by omega)
    obtain rfl : r = r' := by rw [hr] at hr'; exact Option.some.inj hr'
    simp only [Nat.mul_one] at hcl
    match us, hus with
    | [c], _ =>
    obtain ⟨A5, m5, cap5, rfl⟩ := own_slice ho
    obtain ⟨hm5, hm5'⟩ := row_n (T := 3) (k := 1) (E := eI) (l := r) ho (sz_elem HSC.out hr)
    have hgw : g < w.heap.size := World.block_lt_of_cell? w _ (hcl 0 (by omega))
    have hgG : g < G := by omega
    have hrow : w3.cell? ⟨g, o + f, none⟩ = some (.slice A5 m5 cap5) := cell_below (Tr.below_step (Tr.below_step (Tr.below_step HB_w0.out HB_w1.out) HB_w2.out) HB_w3.out) (hcl 0 (by omega))
    have HOR := Lib.hid (own_below ho (Tr.below_step (Tr.below_step (Tr.below_step (Tr.below_step HB_w0.out HB_w1.out) HB_w2.out) HB_w3.out) HB_w4.out) (own_lt _ ho))
    have hf0 : (0 : Int) ≤ f := by omega
    have hf1 : (f : Int) < n := by omega
    have HB4 := Lib.hid (Tr.below_step (Tr.below_step (Tr.below_step (Tr.below_step HB_w0.out HB_w1.out) HB_w2.out) HB_w3.out) HB_w4.out)
    rw [hd]
    clear hc hd hr hr' hr16 hA hn hm5 hcl ho h0 hFr hlC hfl hgw
    go_wp2_with (at_builtin; rw [HW_w4.out]; refine wpList_copy_flat rfl _ _ 34 rfl G 3 j0 _ 1 8 Tryd.underlying34 hj hy0 hy1 hy2 rfl (by omega) _ rfl HO.out A5 m5 cap5 rfl eI r _ HOR.out (fun _ => rfl) (fun _ => ⟨rfl, trivial⟩) (by omega) (by omega) (by have := hz_w4.out; omega) ?_)
    intro v' w5 hown5 hgrow
    have HU5 := Lib.hid hown5
    have HB5 := Lib.hid (HB4.out.grown hgrow (by have := hz_w4.out; omega) (fun k hk => by have : G = k := (by simpa [Value.ownBlock] using hk); omega))
    clear hown5 hgrow
    go_wp2
    go_ret
    exact ⟨[_], rfl, by rw [HV.out]; exact HU5.out.mono hwG, HB5.out⟩
  · have HV : Hid (pPageText m page = []) := by show _ = _; unfold pPageText; rw [if_neg hc]
    have HB4 := Lib.hid (Tr.below_step (Tr.below_step (Tr.below_step (Tr.below_step HB_w0.out HB_w1.out) HB_w2.out) HB_w3.out) HB_w4.out)
    by_cases hok : okM m
    · have hd : decide (okM m) = true := decide_eq_true hok
      obtain rfl : M = 0 := by
        have : ¬ M ≠ 0 := fun hm => hc ⟨hok, by rw [HM.out]; exact hm⟩
        omega
      rw [hd]
      clear hd hok hc
      go_wp2_with fail
      rw [HW_w4.out]
      go_ret
      exact ⟨[_], rfl, by rw [HV.out]; exact HEM.out, HB4.out⟩
    · have hd : decide (okM m) = false := decide_eq_false hok
      rw [hd]
      clear hd hok hc
      go_wp2_with fail
      rw [HW_w4.out]
      go_ret
      exact ⟨[_], rfl, by rw [HV.out]; exact HEM.out, HB4.out⟩
theorem szb_FramesNew (n : Int) : (eFrames (pFramesNew n).1).sz ≤ 1000000 := by
  unfold pFramesNew
  split
  · rw [sz_Frames, sz_bools]
    show (eIntSS (List.replicate n.toNat (List.replicate 16 0))).sz + (List.replicate n.toNat false).length ≤ _
    unfold eIntSS
    rw [rowD_sz, List.map_replicate, szs_replicate, sz_ints, List.length_replicate, List.length_replicate, List.length_replicate]
    omega
  · rw [sz_Frames, sz_bools]
    show (eIntSS []).sz + 0 ≤ _
    unfold eIntSS
    rw [rowD_sz]; simp [szs]
theorem own_none {α : Type} (w : World) (T k : Nat) (E : α → D) : Own w (rowD T k E []) [.slice none 0 0] [] := ⟨_, [], [], [], rfl, rfl, ⟨rfl, rfl⟩, Or.inl ⟨⟨none, rfl⟩, rfl, rfl, rfl⟩⟩
theorem own_noM (w : World) (B : Nat) : Owned w B (eMachine noM) [.slice none 0 0, .slice none 0 0, .slice none 0 0] :=
  ⟨[], (own_app _ _).2 ⟨[_, _], [_], [], [], rfl, rfl, (own_app _ _).2 ⟨[_], [_], [], [], rfl, rfl, own_none w _ _ _, own_none w _ _ _⟩, own_none w _ _ _⟩, by simp, by simp⟩
theorem bound_MachineNew (pages frames : Int) : (eMachine (pMachineNew pages frames).1).sz ≤ 50000000 := by
  unfold pMachineNew
  split
  · rw [sz_Machine]
    have h1 := szb_FramesNew frames
    have h2 := bound_TableNew pages
    rw [sz_Table_len] at h2
    have h3 : (pTableNew pages).1.Entries.length ≤ 32 := by
      unfold pTableNew
      split
      · show (List.replicate _ _).length ≤ _
        rw [List.length_replicate]; omega
      · show (0 : Nat) ≤ _
        omega
    have h4 := sz_Table_len (pTableNew pages).1
    show (eFrames (pFramesNew frames).1).sz + (eTable (pTableNew pages).1).sz ≤ _
    omega
  · show (eMachine noM).sz ≤ _
    rw [sz_Machine]
    show (eFrames ⟨[], []⟩).sz + (eTable ⟨[]⟩).sz ≤ _
    rw [sz_Frames, sz_Table_len]
    show (eIntSS []).sz + (eBoolS []).sz + 0 ≤ _
    rw [sz_bools]
    unfold eIntSS
    rw [rowD_sz]; simp [szs]
theorem bound_Store (m : GMachine) (addr v : Int) (h : (eMachine m).sz ≤ 1048576) : (eMachine (pStore m addr v).1).sz ≤ 50000000 := by
  have hm : (eMachine m).sz ≤ 50000000 := by omega
  unfold pStore
  split
  · split
    · exact hm
    · split
      · unfold setCellOf
        rw [sz_Machine, sz_Frames] at h ⊢
        have h1 := sz_set m.Frames.Cells (pEntry m addr).1.Frame.toNat ((m.Frames.Cells.getD (pEntry m addr).1.Frame.toNat []).set (pEntry m addr).2.toNat v)
        rw [List.length_set] at h1
        have h2 : (m.Frames.Cells.getD (pEntry m addr).1.Frame.toNat []).length ≤ 1048576 := by
          rw [List.getD_eq_getElem?_getD]
          cases hr : m.Frames.Cells[(pEntry m addr).1.Frame.toNat]? with
          | none => simp
          | some r =>
            have := sz_elem (T := 34) (k := 1) (E := eIntS) (l := m.Frames.Cells) (n := 1048576) (by show (eIntSS m.Frames.Cells).sz ≤ _; omega) hr
            rw [sz_ints] at this
            exact this
        show (eIntSS (m.Frames.Cells.set _ _)).sz + (eBoolS m.Frames.Used).sz + (eTable m.Table).sz ≤ _
        omega
      · exact hm
  · exact hm
theorem bound_PageText (m : GMachine) (page : Int) (h : (eMachine m).sz ≤ 1048576) : (eIntS (pPageText m page)).sz ≤ 50000000 := by
  rw [sz_ints]
  unfold pPageText
  split
  · rw [List.getD_eq_getElem?_getD]
    cases hr : m.Frames.Cells[(pPageEntry m.Table page).Frame.toNat]? with
    | none => simp
    | some r =>
      obtain ⟨_, _, h3, _⟩ := sz_machine h
      have := sz_elem (T := 34) (k := 1) (E := eIntS) (l := m.Frames.Cells) (n := 1048576) h3 hr
      rw [sz_ints] at this
      show r.length ≤ _
      omega
  · simp
end Tr
end Go.Proofs.YtkmkpjpopobdbaaDoor

/- The machine: the specification's functions that read, more. -/
import Derived.Test.YtkmkpjpopobdbaaDoorS07
namespace Go.Proofs.YtkmkpjpopobdbaaDoor
open Go.RowKit
set_option linter.unusedVariables false
namespace Tr
/-- a result's variable of two plain cells -/
theorem ent_ret {w wr : World} {C : Nat} {T : TypeId} {a b z0 z1 : Value} (hw : w.heap.size ≤ C) (hb : Below w.heap.size w wr) (hx : wr.heap[C]? = some (.cells #[z0, z1] T (0, 0))) :
    wr.cell? ⟨C, 0, none⟩ = some z0 ∧ wr.frozen? ⟨C, 0, none⟩ = false ∧ (wr.setCell ⟨C, 0, none⟩ a).cell? ⟨C, 1, none⟩ = some z1 ∧ (wr.setCell ⟨C, 0, none⟩ a).frozen? ⟨C, 1, none⟩ = false ∧
      Hid (((wr.setCell ⟨C, 0, none⟩ a).setCell ⟨C, 1, none⟩ b).heap[C]? = some (.cells #[a, b] T (0, 0))) ∧ Hid (Below w.heap.size w ((wr.setCell ⟨C, 0, none⟩ a).setCell ⟨C, 1, none⟩ b)) := by
  have h1 := block_set hx 0 a
  exact ⟨cell_of_block hx 0, free_of_block hx 0, cell_of_block h1 1, free_of_block h1 1, block_set h1 1 b, (hb.setCell (p := ⟨C, 0, none⟩) hw a).setCell (p := ⟨C, 1, none⟩) hw b⟩
theorem inv_machine {w : World} {m : GMachine} {c0 c1 c2 : Value} (h : Rd w (eMachine m) [c0, c1, c2]) : ∃ (A : Option Addr) (n cap : Nat) (A2 : Option Addr) (n2 cap2 : Nat) (A3 : Option Addr) (n3 cap3 : Nat), c0 = .slice A n cap ∧ c1 = .slice A2 n2 cap2 ∧ c2 = .slice A3 n3 cap3 := by
  obtain ⟨bs, h⟩ := h
  obtain ⟨A, n, cap, A2, n2, cap2, A3, n3, cap3, e⟩ := sinv_Machine h
  obtain ⟨rfl, rfl, rfl⟩ : c0 = .slice A n cap ∧ c1 = .slice A2 n2 cap2 ∧ c2 = .slice A3 n3 cap3 := by simpa using e
  exact ⟨_, _, _, _, _, _, _, _, _, rfl, rfl, rfl⟩
theorem spec_l07Entry (m : GMachine) (c0 c1 c2 : Value) (addr : Int) (w : World) (h : Rd w (eMachine m) [c0, c1, c2]) (hs : (eMachine m).sz ≤ 1048576) (ha : okI addr) : Calls Tryd.prog 36 #[.agg #[c0, c1, c2], .int .i64 addr] w (RetP (.tuple #[.agg #[.int .i64 (pEntry m addr).1.Mode, .int .i64 (pEntry m addr).1.Frame], .int .i64 (pEntry m addr).2]) w) := by
  obtain ⟨hs1, hs2, hs3, hs4⟩ := sz_machine hs
  obtain ⟨hrF, hrT⟩ := rd_machine h
  obtain ⟨A, n, cap, A2, n2, cap2, A3, n3, cap3, rfl, rfl, rfl⟩ := inv_machine h
  have ha1 := ha.1
  have ha2 := ha.2
  obtain ⟨B, hs_B⟩ : ∃ B, w.heap.size = B := ⟨_, rfl⟩
  have hzo_ := hs_B
  have hx_ : (w.alloc (.cells #[.slice A n cap, .slice A2 n2 cap2, .slice A3 n3 cap3] 32)).heap[B]? = some (.cells #[.slice A n cap, .slice A2 n2 cap2, .slice A3 n3 cap3] 32 (0, 0)) := by rw [← hzo_]; exact heap_alloc_new w _
  have hb_ : Below w.heap.size w (w.alloc (.cells #[.slice A n cap, .slice A2 n2 cap2, .slice A3 n3 cap3] 32)) := (Below.refl _ _).alloc (Nat.le_refl _) _
  have hz_ : (w.alloc (.cells #[.slice A n cap, .slice A2 n2 cap2, .slice A3 n3 cap3] 32)).heap.size = B + 1 := by simp [hzo_]
  obtain ⟨w0, hw_⟩ : ∃ z, (w.alloc (.cells #[.slice A n cap, .slice A2 n2 cap2, .slice A3 n3 cap3] 32)) = z := ⟨_, rfl⟩
  rw [hw_] at hx_ hb_ hz_
  have HX_w0 := Lib.hid hx_
  have HB_w0 := Lib.hid hb_
  have HW_w0 := Lib.hid hw_
  have hz_w0 := Lib.hid hz_
  clear hx_ hb_ hw_ hz_ hzo_
  have hzo_ := hz_w0.out
  have hx_ : (w0.alloc (.cells #[.int .i64 0, .int .i64 0] 39)).heap[B + 1]? = some (.cells #[.int .i64 0, .int .i64 0] 39 (0, 0)) := by rw [← hzo_]; exact heap_alloc_new w0 _
  have hb_ : Below w0.heap.size w0 (w0.alloc (.cells #[.int .i64 0, .int .i64 0] 39)) := (Below.refl _ _).alloc (Nat.le_refl _) _
  have hz_ : (w0.alloc (.cells #[.int .i64 0, .int .i64 0] 39)).heap.size = B + 1 + 1 := by simp [hzo_]
  obtain ⟨w1, hw_⟩ : ∃ z, (w0.alloc (.cells #[.int .i64 0, .int .i64 0] 39)) = z := ⟨_, rfl⟩
  rw [hw_] at hx_ hb_ hz_
  have HX_w1 := Lib.hid hx_
  have HB_w1 := Lib.hid hb_
  have HW_w1 := Lib.hid hw_
  have hz_w1 := Lib.hid hz_
  clear hx_ hb_ hw_ hz_ hzo_
  have HX0 := Lib.hid ((HB_w1.out.block B (by have := hz_w0.out; omega)).trans HX_w0.out)
  by_cases hneg : addr < 0
  · have hd : decide (addr < 0) = true := decide_eq_true hneg
    have HF : Hid (pEntry m addr = (⟨0, 0⟩, 0)) := by show _ = _; unfold pEntry; rw [if_pos hneg]
    rw [HF.out]
    obtain ⟨q0, q1, q2, q3, HG, HBE⟩ := ent_ret (a := .int .i64 0) (b := .int .i64 0) (by omega) (Tr.below_step HB_w0.out HB_w1.out) HX_w1.out
    clear h hs hs1 hs2 hs3 hs4 hrF hrT ha hneg
    go_enter Tryd.func36, Tryd.ntmps36
    go_wp2_with fail
    rw [HW_w0.out, HW_w1.out]
    refine ret_ct rfl HX_w1.out rfl Tryd.underlying39 rfl sizeE rfl ?_
    exact ⟨rfl, (Tr.below_step HB_w0.out HB_w1.out)⟩
  · have hd : decide (addr < 0) = false := decide_eq_false hneg
    have h0 : 0 ≤ addr := by omega
    have HF : Hid (pEntry m addr = (pPageEntry m.Table (addr / 16), addr % 16)) := by show _ = _; unfold pEntry; rw [if_neg hneg]
    rw [HF.out]
    have HCP : Hid (∀ W, Below w.heap.size w W → Calls Tryd.prog 12 #[.agg #[.slice A3 n3 cap3], .int .i64 (addr / 16)] W (RetP (.agg #[.int .i64 (pPageEntry m.Table (addr / 16)).Mode, .int .i64 (pPageEntry m.Table (addr / 16)).Frame]) W)) := fun W hb => spec_PageEntry m.Table _ (addr / 16) W (hrT.below hb) hs2 (by unfold okI; omega)
    clear h hs hs1 hs2 hs3 hs4 hrF hrT ha hneg
    go_enter Tryd.func36, Tryd.ntmps36
    go_wp2_with fail
    rw [HW_w0.out, HW_w1.out]
    refine (HCP.out w1 (Tr.below_step HB_w0.out HB_w1.out)).mono ?_
    rintro e w2 ⟨rfl, hb2⟩
    have HB_w2 := Lib.hid hb2
    obtain ⟨M, hM⟩ : ∃ M, (pPageEntry m.Table (addr / 16)).Mode = M := ⟨_, rfl⟩
    obtain ⟨F, hF⟩ : ∃ F, (pPageEntry m.Table (addr / 16)).Frame = F := ⟨_, rfl⟩
    rw [hM, hF]
    obtain ⟨q0, q1, q2, q3, HG, HBE⟩ := ent_ret (a := .int .i64 M) (b := .int .i64 F) (w := w) (by omega) (Tr.below_step (Tr.below_step HB_w0.out HB_w1.out) HB_w2.out) ((HB_w2.out.block (B + 1) (lt_of_block HX_w1.out)).trans HX_w1.out)
    have HMM := Lib.hid hM
    have HFF := Lib.hid hF
    clear hM hF hb2
    go_wp2
    refine ret_ct rfl HG.out rfl Tryd.underlying39 rfl sizeE rfl ?_
    exact ⟨by rw [HMM.out, HFF.out]; rfl, HBE.out⟩
theorem spec_Load (m : GMachine) (c0 c1 c2 : Value) (addr : Int) (w : World) (h : Rd w (eMachine m) [c0, c1, c2]) (hs : (eMachine m).sz ≤ 1048576) (ha : okI addr) : Calls Tryd.prog 14 #[.agg #[c0, c1, c2], .int .i64 addr] w (RetP (.tuple #[.int .i64 (pLoad m addr).1, .int .i64 (pLoad m addr).2]) w) := by
  obtain ⟨hs1, hs2, hs3, hs4⟩ := sz_machine hs
  obtain ⟨hrF, hrT⟩ := rd_machine h
  obtain ⟨A, n, cap, A2, n2, cap2, A3, n3, cap3, rfl, rfl, rfl⟩ := inv_machine h
  have hlC := sz_len (T := 34) (k := 1) (E := eIntS) (l := m.Frames.Cells) (n := 1048576) hs3
  obtain ⟨B, hs_B⟩ : ∃ B, w.heap.size = B := ⟨_, rfl⟩
  have hzo_ := hs_B
  have hx_ : (w.alloc (.cells #[.slice A n cap, .slice A2 n2 cap2, .slice A3 n3 cap3] 32)).heap[B]? = some (.cells #[.slice A n cap, .slice A2 n2 cap2, .slice A3 n3 cap3] 32 (0, 0)) := by rw [← hzo_]; exact heap_alloc_new w _
  have hb_ : Below w.heap.size w (w.alloc (.cells #[.slice A n cap, .slice A2 n2 cap2, .slice A3 n3 cap3] 32)) := (Below.refl _ _).alloc (Nat.le_refl _) _
  have hz_ : (w.alloc (.cells #[.slice A n cap, .slice A2 n2 cap2, .slice A3 n3 cap3] 32)).heap.size = B + 1 := by simp [hzo_]
  obtain ⟨w0, hw_⟩ : ∃ z, (w.alloc (.cells #[.slice A n cap, .slice A2 n2 cap2, .slice A3 n3 cap3] 32)) = z := ⟨_, rfl⟩
  rw [hw_] at hx_ hb_ hz_
  have HX_w0 := Lib.hid hx_
  have HB_w0 := Lib.hid hb_
  have HW_w0 := Lib.hid hw_
  have hz_w0 := Lib.hid hz_
  clear hx_ hb_ hw_ hz_ hzo_
  have HRF := Lib.hid hrF
  have HCE : Hid (∀ W, Below w.heap.size w W → Calls Tryd.prog 36 #[.agg #[.slice A n cap, .slice A2 n2 cap2, .slice A3 n3 cap3], .int .i64 addr] W (RetP (.tuple #[.agg #[.int .i64 (pEntry m addr).1.Mode, .int .i64 (pEntry m addr).1.Frame], .int .i64 (pEntry m addr).2]) W)) := fun W hb => spec_l07Entry m _ _ _ addr W (h.below hb) hs ha
  have HCO : Hid (∀ W, Below w.heap.size w W → Calls Tryd.prog 37 #[.agg #[.slice A n cap, .slice A2 n2 cap2, .slice A3 n3 cap3]] W (RetP (.bool (decide (okM m))) W)) := fun W hb => spec_MachineOk m _ _ _ W (h.below hb) hs
  clear h hs hs1 hs2 hs3 hs4 hrF hrT ha
  go_enter Tryd.func14, Tryd.ntmps14
  go_wp2_with fail
  rw [HW_w0.out]
  refine (HCE.out w0 HB_w0.out).mono ?_
  rintro e w1 ⟨rfl, hb1⟩
  have HB_w1 := Lib.hid hb1
  obtain ⟨M, hM⟩ : ∃ M, (pEntry m addr).1.Mode = M := ⟨_, rfl⟩
  obtain ⟨F, hF⟩ : ∃ F, (pEntry m addr).1.Frame = F := ⟨_, rfl⟩
  obtain ⟨K, hK⟩ : ∃ K, (pEntry m addr).2 = K := ⟨_, rfl⟩
  rw [hM, hF, hK]
  have HM := Lib.hid hM
  have HF := Lib.hid hF
  have HK := Lib.hid hK
  have hk10 : w1.cell? ⟨B, 0, none⟩ = some (.slice A n cap) := cell_at HB_w1.out HX_w0.out 0
  have hk11 : w1.cell? ⟨B, 1, none⟩ = some (.slice A2 n2 cap2) := cell_at HB_w1.out HX_w0.out 1
  have hk12 : w1.cell? ⟨B, 2, none⟩ = some (.slice A3 n3 cap3) := cell_at HB_w1.out HX_w0.out 2
  have hB1 : B < w1.heap.size := by have := lt_of_block HX_w0.out; have := HB_w1.out.size; omega
  clear hM hF hK hb1
  obtain ⟨C, hs_C⟩ : ∃ B, w1.heap.size = B := ⟨_, rfl⟩
  have hzo_ := hs_C
  have hx_ : (w1.alloc (.cells #[.int .i64 M, .int .i64 F] 39)).heap[C]? = some (.cells #[.int .i64 M, .int .i64 F] 39 (0, 0)) := by rw [← hzo_]; exact heap_alloc_new w1 _
  have hb_ : Below w1.heap.size w1 (w1.alloc (.cells #[.int .i64 M, .int .i64 F] 39)) := (Below.refl _ _).alloc (Nat.le_refl _) _
  have hz_ : (w1.alloc (.cells #[.int .i64 M, .int .i64 F] 39)).heap.size = C + 1 := by simp [hzo_]
  obtain ⟨w2, hw_⟩ : ∃ z, (w1.alloc (.cells #[.int .i64 M, .int .i64 F] 39)) = z := ⟨_, rfl⟩
  rw [hw_] at hx_ hb_ hz_
  have HX_w2 := Lib.hid hx_
  have HB_w2 := Lib.hid hb_
  have HW_w2 := Lib.hid hw_
  have hz_w2 := Lib.hid hz_
  clear hx_ hb_ hw_ hz_ hzo_
  have hBC : B < C := by omega
  go_wp2_with fail
  rw [HW_w2.out]
  refine (HCO.out w2 (Tr.below_step (Tr.below_step HB_w0.out HB_w1.out) HB_w2.out)).mono ?_
  rintro e w3 ⟨rfl, hb3⟩
  have HB_w3 := Lib.hid hb3
  have hk30 : w3.cell? ⟨B, 0, none⟩ = some (.slice A n cap) := cell_at (Tr.below_step (Tr.below_step HB_w1.out HB_w2.out) HB_w3.out) HX_w0.out 0
  have hkc0 : w3.cell? ⟨C, 0, none⟩ = some (.int .i64 M) := cell_at HB_w3.out HX_w2.out 0
  have hkc1 : w3.cell? ⟨C, 1, none⟩ = some (.int .i64 F) := cell_at HB_w3.out HX_w2.out 1
  clear hb3 hk10 hk11 hk12
  by_cases hc : canLoad m addr
  · have hd : decide (okM m) = true := decide_eq_true hc.1
    have hmz : (M == 0) = false := by
      have := hc.2
      rw [HM.out] at this
      simp [this]
    obtain ⟨_, f, k, r, hf, hk, hk16, hfl, _, hr, hr16⟩ := load_at hc
    rw [HF.out] at hf
    rw [HK.out] at hk
    subst hf
    subst hk
    have HV : Hid (pLoad m addr = (r.getD k 0, 0)) := by
      show _ = _
      unfold pLoad cellOf
      rw [if_pos hc, HF.out, HK.out, Int.toNat_natCast, Int.toNat_natCast, List.getD_eq_getElem?_getD (l := m.Frames.Cells), hr]; rfl
    obtain ⟨bs, hFr⟩ := HRF.out
    obtain ⟨b0, b1, _, h0, _⟩ := parts_Frames hFr
    obtain ⟨A', n', cap', e', hn, _, _, hA⟩ := read_rowD (T := 34) (E := eIntS) (k := 1) h0 (fun _ => rfl)
    rw [Value.slice.injEq] at e'
    obtain ⟨rfl, rfl, rfl⟩ := e'
    obtain ⟨g, o, r', us, b, rfl, hr', hus, hcl, ho, _⟩ := hA f (by omega)
    obtain rfl : r = r' := by rw [hr] at hr'; exact Option.some.inj hr'
    simp only [Nat.mul_one] at hcl
    match us, hus with
    | [c], _ =>
    obtain ⟨A5, m5, cap5, rfl, hm5, _, _, hA5⟩ := read_ints (T := 3) ho
    obtain ⟨g3, o3, v, rfl, hv, hcv⟩ := hA5 k (by omega)
    have hrow : w3.cell? ⟨g, o + f, none⟩ = some (.slice (some ⟨g3, o3, none⟩) m5 cap5) := cell_below (Tr.below_step (Tr.below_step (Tr.below_step HB_w0.out HB_w1.out) HB_w2.out) HB_w3.out) (hcl 0 (by omega))
    have hcell : w3.cell? ⟨g3, o3 + k, none⟩ = some (.int .i64 v) := cell_below (Tr.below_step (Tr.below_step (Tr.below_step HB_w0.out HB_w1.out) HB_w2.out) HB_w3.out) hcv
    have HVV : Hid (r.getD k 0 = v) := by show _ = _; rw [List.getD_eq_getElem?_getD, hv]; rfl
    have hf0 : (0 : Int) ≤ f := by omega
    have hf1 : (f : Int) < n := by omega
    have hk0 : (0 : Int) ≤ k := by omega
    have hk1 : (k : Int) < m5 := by omega
    rw [hd]
    clear hc hr hr' hr16 hA hA5 hn hm5 hv hcv hcl ho h0 hFr hlC hfl
    go_wp2
    go_ret2
    exact ⟨by rw [HV.out, HVV.out]; rfl, (Tr.below_step (Tr.below_step (Tr.below_step HB_w0.out HB_w1.out) HB_w2.out) HB_w3.out)⟩
  · have HV : Hid (pLoad m addr = (0, 1)) := by show _ = _; unfold pLoad; rw [if_neg hc]
    by_cases hok : okM m
    · have hd : decide (okM m) = true := decide_eq_true hok
      obtain rfl : M = 0 := by
        have : ¬ M ≠ 0 := fun hm => hc ⟨hok, by rw [HM.out]; exact hm⟩
        omega
      rw [hd]
      clear hd hok hc
      go_wp2
      go_ret2
      exact ⟨by rw [HV.out]; rfl, (Tr.below_step (Tr.below_step (Tr.below_step HB_w0.out HB_w1.out) HB_w2.out) HB_w3.out)⟩
    · have hd : decide (okM m) = false := decide_eq_false hok
      rw [hd]
      clear hd hok hc
      go_wp2
      go_ret2
      exact ⟨by rw [HV.out]; rfl, (Tr.below_step (Tr.below_step (Tr.below_step HB_w0.out HB_w1.out) HB_w2.out) HB_w3.out)⟩
end Tr
end Go.Proofs.YtkmkpjpopobdbaaDoor

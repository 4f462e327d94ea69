/- The machine: the specification's functions that read. -/
import Derived.Test.YtkmkpjpopobdbaaDoorS05b
import Derived.Test.YtkmkpjpopobdbaaDoorS06
import Derived.Test.YtkmkpjpopobdbaaDoorM07
import Derived.Test.YtkmkpjpopobdbaaDoorTreeLaw
namespace Go.Proofs.YtkmkpjpopobdbaaDoor
open Go.RowKit
set_option linter.unusedVariables false
namespace Tr
theorem sizeM : (Tryd.prog.info? 32).map (·.size) = some 3 := by kernel_rfl
/-- a machine that is read: its three slices -/
theorem rd_machine {w : World} {m : GMachine} {c0 c1 c2 : Value} (h : Rd w (eMachine m) [c0, c1, c2]) : Rd w (eFrames m.Frames) [c0, c1] ∧ Rd w (eTable m.Table) [c2] := by
  obtain ⟨bs, h⟩ := h
  obtain ⟨b0, b1, rfl, h0, h1⟩ := parts_Machine h
  exact ⟨⟨_, h0⟩, ⟨_, h1⟩⟩
theorem sz_machine {m : GMachine} (hs : (eMachine m).sz ≤ 1048576) : (eFrames m.Frames).sz ≤ 1048576 ∧ (eTable m.Table).sz ≤ 1048576 ∧ (eIntSS m.Frames.Cells).sz ≤ 1048576 ∧ (eBoolS m.Frames.Used).sz ≤ 1048576 := by
  rw [sz_Machine] at hs
  have h1 := sz_Frames m.Frames
  exact ⟨by omega, by omega, by omega, by omega⟩
theorem spec_MachineOk (m : GMachine) (c0 c1 c2 : Value) (w : World) (h : Rd w (eMachine m) [c0, c1, c2]) (hs : (eMachine m).sz ≤ 1048576) : Calls Tryd.prog 37 #[.agg #[c0, c1, c2]] w (RetP (.bool (pMachineOk m)) w) := by
  obtain ⟨hs1, hs2, hs3, hs4⟩ := sz_machine hs
  obtain ⟨hrF, hrT⟩ := rd_machine h
  have hlC := sz_len (T := 34) (k := 1) (E := eIntS) (l := m.Frames.Cells) (n := 1048576) hs3
  have hlU := sz_len (T := 4) (k := 1) (E := eB) (l := m.Frames.Used) (n := 1048576) hs4
  have hlT : m.Table.Entries.length ≤ 1048576 := by have := sz_Table_len m.Table; omega
  obtain ⟨bs, hF⟩ := hrF
  obtain ⟨b0, b1, rfl, h0, h1⟩ := parts_Frames hF
  obtain ⟨A, n, cap, rfl, hn, _, _, hA⟩ := read_rowD (T := 34) (E := eIntS) (k := 1) h0 (fun _ => rfl)
  obtain ⟨A2, n2, cap2, rfl, hn2, _, _, hA2⟩ := read_bools (T := 4) h1
  obtain ⟨bsT, hT⟩ := hrT
  obtain ⟨A3, n3, cap3, rfl⟩ := own_slice hT
  obtain ⟨B, hs_B⟩ : ∃ B, w.heap.size = B := ⟨_, rfl⟩
  have hzo_ := hs_B
  have hx_ : (w.alloc (.cells #[.slice A n cap, .slice A2 n2 cap2, .slice A3 n3 cap3] 32)).heap[B]? = some (.cells #[.slice A n cap, .slice A2 n2 cap2, .slice A3 n3 cap3] 32 (0, 0)) := by rw [← hzo_]; exact heap_alloc_new w _
  have hb_ : Below w.heap.size w (w.alloc (.cells #[.slice A n cap, .slice A2 n2 cap2, .slice A3 n3 cap3] 32)) := (Below.refl _ _).alloc (Nat.le_refl _) _
  have hz_ : (w.alloc (.cells #[.slice A n cap, .slice A2 n2 cap2, .slice A3 n3 cap3] 32)).heap.size = B + 1 := by simp [hzo_]
  obtain ⟨w0, hw_⟩ : ∃ z, (w.alloc (.cells #[.slice A n cap, .slice A2 n2 cap2, .slice A3 n3 cap3] 32)) = z := ⟨_, rfl⟩
  rw [hw_] at hx_ hb_ hz_
  have HX_w0 := Lib.hid hx_
  have HB_w0 := Lib.hid hb_
  have HW_w0 := Lib.hid hw_
  have hz_w0 := Lib.hid hz_
  clear hx_ hb_ hw_ hz_ hzo_
  have hrF' : Rd w (eFrames m.Frames) [.slice A n cap, .slice A2 n2 cap2] := ⟨_, hF⟩
  have hrT' : Rd w (eTable m.Table) [.slice A3 n3 cap3] := ⟨_, hT⟩
  have HRF := Lib.hid hrF'
  have HRT := Lib.hid hrT'
  have HA2 := Lib.hid hA2
  have HN := Lib.hid hn
  have HN2 := Lib.hid hn2
  have hn' : n ≤ 1048576 := by omega
  have hn2' : n2 ≤ 1048576 := by omega
  have HCF : Hid (∀ W, Below w.heap.size w W → Calls Tryd.prog 63 #[.agg #[.slice A n cap, .slice A2 n2 cap2]] W (RetP (.bool (pFramesOk m.Frames)) W)) := fun W hb => spec_FramesOk m.Frames _ _ W (hrF'.below hb) hs1
  have HCT : Hid (∀ W, Below w.heap.size w W → Calls Tryd.prog 64 #[.agg #[.slice A3 n3 cap3], .int .i64 n] W (RetP (.bool (pTableOk m.Table (m.Frames.Cells.length : Int))) W)) := fun W hb => by
    have h := spec_TableOk m.Table _ (n : Int) W (hrT'.below hb) hs2 (by unfold okI; omega)
    rw [hn] at h ⊢
    exact h
  have HCP : Hid (∀ (i : Nat) W, i ≤ 1048576 → Below w.heap.size w W → Calls Tryd.prog 65 #[.agg #[.slice A3 n3 cap3], .int .i64 i] W (fun e W' => ∃ a c, e = .returned (.slice a (pPagesOn m.Table (i : Int)).length c) ∧ Below W.heap.size W W')) := fun i W hi hb => (spec_PagesOn m.Table _ (i : Int) W (hrT'.below hb) hs2 (by unfold okI; omega)).mono (by
    rintro e W' ⟨us, rfl, ⟨bs, ho, _⟩, hbW⟩
    obtain ⟨a, k, c, rfl⟩ := own_slice1 ho
    have hk := (own_cells ho (len_map (E := eI) (k := 1) (fun _ => rfl))).1
    rw [List.length_map] at hk
    subst hk
    exact ⟨a, c, rfl, hbW⟩)
  have HPL : Hid (∀ i : Nat, (pPagesOn m.Table (i : Int)).length ≤ 1048576) := fun i => Nat.le_trans (onFrame_len _ _ _) hlT
  have HNO : Hid (∀ P : Prop, (okM m → P) → ¬ P → pMachineOk m = false) := fun P hp hnp => decide_eq_false (fun hh => hnp (hp hh))
  clear h hs hs1 hs2 hs3 hs4 hlC hlU hF h0 h1 hA hA2 hn hn2 hT hrF' hrT' hlT
  go_enter Tryd.func37, Tryd.ntmps37
  go_wp2_with fail
  rw [HW_w0.out]
  refine (HCF.out w0 HB_w0.out).mono ?_
  rintro e w1 ⟨rfl, hb1⟩
  have HB_w1 := Lib.hid hb1
  have hk10 : w1.cell? ⟨B, 0, none⟩ = some (.slice A n cap) := cell_at HB_w1.out HX_w0.out 0
  have hk12 : w1.cell? ⟨B, 2, none⟩ = some (.slice A3 n3 cap3) := cell_at HB_w1.out HX_w0.out 2
  clear hb1
  by_cases hfo : pFramesOk m.Frames = true
  · rw [hfo]
    have HFO := Lib.hid hfo
    clear hfo
    go_wp2_with fail
    refine (HCT.out w1 (Tr.below_step HB_w0.out HB_w1.out)).mono ?_
    rintro e w2 ⟨rfl, hb2⟩
    have HB_w2 := Lib.hid hb2
    clear hb2 hk10 hk12
    by_cases hto : pTableOk m.Table (m.Frames.Cells.length : Int) = true
    · rw [hto]
      have HTO := Lib.hid hto
      clear hto
      go_wp2_with fail
      go_loopw [3] (fun c wr => ∃ i : Nat, i ≤ n2 ∧ c = .int .i64 i ∧ Hid (∀ j, j < i → m.Frames.Used[j]? = some (decide (0 < (pPagesOn m.Table (j : Int)).length))) ∧ Hid (Below w2.heap.size w2 wr)) (fun c _ => n2 - (intOf c).toNat)
      case atStart => exact ⟨0, Nat.zero_le _, rfl, fun j hj => by omega, Below.refl _ _⟩
      case round =>
        obtain ⟨i, hi, rfl, HQ, HB_wr⟩ := hrel
        have hk1 : wr.cell? ⟨B, 1, none⟩ = some (.slice A2 n2 cap2) := cell_at (Tr.below_step (Tr.below_step HB_w1.out HB_w2.out) HB_wr.out) HX_w0.out 1
        by_cases hlt : (i : Int) < n2
        · have hi0 : (0 : Int) ≤ i := by omega
          obtain ⟨g2, o2, u, rfl, hu, hcu⟩ := HA2.out i (by omega)
          have HU := Lib.hid hu
          have hd : Below wr.heap.size wr wr.drew := (Below.refl _ _).drew
          have HS : Hid (∀ W, Below wr.heap.size wr W → W.cell? ⟨B, 1, none⟩ = some (.slice (some ⟨g2, o2, none⟩) n2 cap2) ∧ W.cell? ⟨B, 2, none⟩ = some (.slice A3 n3 cap3) ∧ W.cell? ⟨g2, o2 + i, none⟩ = some (.bool u)) := fun W hb =>
            ⟨cell_at (below_step (Tr.below_step (Tr.below_step HB_w1.out HB_w2.out) HB_wr.out) hb) HX_w0.out 1, cell_at (below_step (Tr.below_step (Tr.below_step HB_w1.out HB_w2.out) HB_wr.out) hb) HX_w0.out 2, cell_below (below_step (Tr.below_step (Tr.below_step (Tr.below_step HB_w0.out HB_w1.out) HB_w2.out) HB_wr.out) hb) hcu⟩
          have HCI : Hid (∀ W, Below wr.heap.size wr W → Calls Tryd.prog 65 #[.agg #[.slice A3 n3 cap3], .int .i64 i] W (fun e W' => ∃ a c, e = .returned (.slice a (pPagesOn m.Table (i : Int)).length c) ∧ Below W.heap.size W W')) := fun W hb => HCP.out i W (by omega) (below_step (Tr.below_step (Tr.below_step (Tr.below_step HB_w0.out HB_w1.out) HB_w2.out) HB_wr.out) hb)
          obtain ⟨K, hK⟩ : ∃ K, (pPagesOn m.Table (i : Int)).length = K := ⟨_, rfl⟩
          rw [hK] at HCI
          have hKl : K ≤ 1048576 := by have := HPL.out i; omega
          have HK := Lib.hid hK
          clear hK hu hcu
          by_cases hk : 0 < K
          · have hkd : decide ((0 : Int) < (K : Int)) = true := decide_eq_true (by omega)
            clear hk1
            cases u with
            | true =>
              have HQ2 : Hid (∀ j, j < i + 1 → m.Frames.Used[j]? = some (decide (0 < (pPagesOn m.Table (j : Int)).length))) := fun j hj => by
                by_cases hji : j = i
                · subst hji; rw [HU.out, HK.out, decide_eq_true hk]
                · exact HQ.out j (by omega)
              have hk1 : wr.cell? ⟨B, 1, none⟩ = some (.slice (some ⟨g2, o2, none⟩) n2 cap2) := (HS.out wr (Below.refl _ _)).1
              go_wp2_with fail
              go_region_held3 (fun W => W.cell? ⟨B, 1, none⟩ = some (.slice (some ⟨g2, o2, none⟩) n2 cap2) ∧ W.cell? ⟨B, 2, none⟩ = some (.slice A3 n3 cap3) ∧ W.cell? ⟨g2, o2 + i, none⟩ = some (.bool true)) (exact HS.out _ (by assumption)) ((go_at_call 65; refine (HCI.out _ (by assumption)).mono ?_; rintro eu wu ⟨au, cu, rfl, hbu0⟩; have hbu := below_step hd hbu0))
              have HBU := Lib.hid (below_step HB_wr.out hbu)
              go_wp2
              go_roundw
              case rel => exact ⟨i + 1, by omega, by go_num, HQ2.out, HBU.out⟩
              case measure => simp [intOf]; omega
            | false =>
              have HF : Hid (pMachineOk m = false) := HNO.out _ (fun hh => hh.2.2 i (by have := HN2.out; omega)) (fun hh => by rw [HU.out, HK.out, decide_eq_true hk] at hh; simp at hh)
              have hk1 : wr.cell? ⟨B, 1, none⟩ = some (.slice (some ⟨g2, o2, none⟩) n2 cap2) := (HS.out wr (Below.refl _ _)).1
              go_wp2_with fail
              go_region_held3 (fun W => W.cell? ⟨B, 1, none⟩ = some (.slice (some ⟨g2, o2, none⟩) n2 cap2) ∧ W.cell? ⟨B, 2, none⟩ = some (.slice A3 n3 cap3) ∧ W.cell? ⟨g2, o2 + i, none⟩ = some (.bool false)) (exact HS.out _ (by assumption)) ((go_at_call 65; refine (HCI.out _ (by assumption)).mono ?_; rintro eu wu ⟨au, cu, rfl, hbu0⟩; have hbu := below_step hd hbu0))
              have HBU := Lib.hid (below_step (Tr.below_step (Tr.below_step (Tr.below_step HB_w0.out HB_w1.out) HB_w2.out) HB_wr.out) hbu)
              go_wp2
              go_ret
              exact ⟨by rw [HF.out]; rfl, HBU.out⟩
          · obtain rfl : K = 0 := by omega
            clear hk1
            cases u with
            | false =>
              have HQ2 : Hid (∀ j, j < i + 1 → m.Frames.Used[j]? = some (decide (0 < (pPagesOn m.Table (j : Int)).length))) := fun j hj => by
                by_cases hji : j = i
                · subst hji; rw [HU.out, HK.out, decide_eq_false hk]
                · exact HQ.out j (by omega)
              have hk1 : wr.cell? ⟨B, 1, none⟩ = some (.slice (some ⟨g2, o2, none⟩) n2 cap2) := (HS.out wr (Below.refl _ _)).1
              clear hk hKl
              go_wp2_with fail
              go_region_held3 (fun W => W.cell? ⟨B, 1, none⟩ = some (.slice (some ⟨g2, o2, none⟩) n2 cap2) ∧ W.cell? ⟨B, 2, none⟩ = some (.slice A3 n3 cap3) ∧ W.cell? ⟨g2, o2 + i, none⟩ = some (.bool false)) (exact HS.out _ (by assumption)) ((go_at_call 65; refine (HCI.out _ (by assumption)).mono ?_; rintro eu wu ⟨au, cu, rfl, hbu0⟩; have hbu := below_step hd hbu0))
              have HBU := Lib.hid (below_step HB_wr.out hbu)
              go_wp2
              go_roundw
              case rel => exact ⟨i + 1, by omega, by go_num, HQ2.out, HBU.out⟩
              case measure => simp [intOf]; omega
            | true =>
              have HF : Hid (pMachineOk m = false) := HNO.out _ (fun hh => hh.2.2 i (by have := HN2.out; omega)) (fun hh => by rw [HU.out, HK.out, decide_eq_false hk] at hh; simp at hh)
              have hk1 : wr.cell? ⟨B, 1, none⟩ = some (.slice (some ⟨g2, o2, none⟩) n2 cap2) := (HS.out wr (Below.refl _ _)).1
              clear hk hKl
              go_wp2_with fail
              go_region_held3 (fun W => W.cell? ⟨B, 1, none⟩ = some (.slice (some ⟨g2, o2, none⟩) n2 cap2) ∧ W.cell? ⟨B, 2, none⟩ = some (.slice A3 n3 cap3) ∧ W.cell? ⟨g2, o2 + i, none⟩ = some (.bool true)) (exact HS.out _ (by assumption)) ((go_at_call 65; refine (HCI.out _ (by assumption)).mono ?_; rintro eu wu ⟨au, cu, rfl, hbu0⟩; have hbu := below_step hd hbu0))
              have HBU := Lib.hid (below_step (Tr.below_step (Tr.below_step (Tr.below_step HB_w0.out HB_w1.out) HB_w2.out) HB_wr.out) hbu)
              go_wp2
              go_ret
              exact ⟨by rw [HF.out]; rfl, HBU.out⟩
        · obtain rfl : i = n2 := by omega
          have HF : Hid (pMachineOk m = true) := by
            show _ = _
            unfold pMachineOk
            rw [decide_eq_true_iff]
            exact ⟨of_decide_eq_true HFO.out, HTO.out, fun j hj => HQ.out j (by have := HN2.out; omega)⟩
          go_wp2
          go_ret
          exact ⟨by rw [HF.out]; rfl, (Tr.below_step (Tr.below_step (Tr.below_step HB_w0.out HB_w1.out) HB_w2.out) HB_wr.out)⟩
    · have hto' : pTableOk m.Table (m.Frames.Cells.length : Int) = false := by simpa using hto
      have HF : Hid (pMachineOk m = false) := HNO.out _ (fun hh => hh.2.1) hto
      rw [hto']
      clear hto hto'
      go_wp2
      go_ret
      exact ⟨by rw [HF.out]; rfl, (Tr.below_step (Tr.below_step HB_w0.out HB_w1.out) HB_w2.out)⟩
  · have hfo' : pFramesOk m.Frames = false := by simpa using hfo
    have HF : Hid (pMachineOk m = false) := HNO.out _ (fun hh => decide_eq_true hh.1) hfo
    rw [hfo']
    clear hfo hfo'
    go_wp2
    go_ret
    exact ⟨by rw [HF.out]; rfl, (Tr.below_step HB_w0.out HB_w1.out)⟩
end Tr
end Go.Proofs.YtkmkpjpopobdbaaDoor

/- The laws' sizes. -/
import Derived.Test.YtcdmijnlpapjaaaEnc
import Derived.WalkKit
import Derived.ProofKit
import Derived.BigQuiet
import Derived.Deep.QuietTactic
import Derived.Deep.RegionHeld3
import Derived.Lib.Hide
namespace Go.Proofs.Ytcdmijnlpapjaaa
open Go.RowKit
namespace Tr
theorem h_szBoolS (l : List Bool) (v : Value) (m : Nat) (w : World) (h : Raw w (eBoolS l) [v]) (hm : m ≤ 1000000000) :
    Calls Try.prog 136 #[v, .int .i64 m] w (SzP (eBoolS l).sz m w) := by
  obtain ⟨A, n, cap, rfl, hn, hn2, _⟩ := read_raw (E := eB) (k := 1) h (fun _ => rfl) (by omega)
  have HZ : Hid ((eBoolS l).sz = n) := by show _ = _; unfold eBoolS; rw [rowD_sz, szs_zero (fun _ => rfl), hn]; rfl
  have HN := Lib.hid hn
  clear hn h
  rw [HZ.out]
  by_cases hlt : (m : Int) < n
  · have hd : decide ((m : Int) - n < 0) = true := by simp; omega
    go_enter Try.func136, Try.ntmps136
    go_wp2
    go_ret
    exact ⟨Or.inr ⟨by omega, rfl⟩, Below.refl _ _⟩
  · have hd : decide ((m : Int) - n < 0) = false := by simp; omega
    go_enter Try.func136, Try.ntmps136
    go_wp2
    go_ret
    exact ⟨Or.inl ⟨m - n, by omega, ret_int (by omega)⟩, Below.refl _ _⟩
theorem h_szEntryS (l : List GEntry) (v : Value) (m : Nat) (w : World) (h : Raw w (eEntryS l) [v]) (hm : m ≤ 1000000000) :
    Calls Try.prog 137 #[v, .int .i64 m] w (SzP (eEntryS l).sz m w) := by
  obtain ⟨A, n, cap, rfl, hn, hn2, _⟩ := read_raw (E := eEntry) (k := 2) h (fun _ => rfl) (by omega)
  have HZ : Hid ((eEntryS l).sz = n) := by show _ = _; unfold eEntryS; rw [rowD_sz, szs_zero (fun _ => rfl), hn]; rfl
  have HN := Lib.hid hn
  clear hn h
  rw [HZ.out]
  by_cases hlt : (m : Int) < n
  · have hd : decide ((m : Int) - n < 0) = true := by simp; omega
    go_enter Try.func137, Try.ntmps137
    go_wp2
    go_ret
    exact ⟨Or.inr ⟨by omega, rfl⟩, Below.refl _ _⟩
  · have hd : decide ((m : Int) - n < 0) = false := by simp; omega
    go_enter Try.func137, Try.ntmps137
    go_wp2
    go_ret
    exact ⟨Or.inl ⟨m - n, by omega, ret_int (by omega)⟩, Below.refl _ _⟩
theorem h_szIntS (l : List Int) (v : Value) (m : Nat) (w : World) (h : Raw w (eIntS l) [v]) (hm : m ≤ 1000000000) :
    Calls Try.prog 70 #[v, .int .i64 m] w (SzP (eIntS l).sz m w) := by
  obtain ⟨A, n, cap, rfl, hn, hn2, _⟩ := read_raw (E := eI) (k := 1) h (fun _ => rfl) (by omega)
  have HZ : Hid ((eIntS l).sz = n) := by show _ = _; unfold eIntS; rw [rowD_sz, szs_zero (fun _ => rfl), hn]; rfl
  have HN := Lib.hid hn
  clear hn h
  rw [HZ.out]
  by_cases hlt : (m : Int) < n
  · have hd : decide ((m : Int) - n < 0) = true := by simp; omega
    go_enter Try.func70, Try.ntmps70
    go_wp2
    go_ret
    exact ⟨Or.inr ⟨by omega, rfl⟩, Below.refl _ _⟩
  · have hd : decide ((m : Int) - n < 0) = false := by simp; omega
    go_enter Try.func70, Try.ntmps70
    go_wp2
    go_ret
    exact ⟨Or.inl ⟨m - n, by omega, ret_int (by omega)⟩, Below.refl _ _⟩
theorem h_szIntSS (l : List (List Int)) (v : Value) (m : Nat) (w : World) (h : Raw w (eIntSS l) [v]) (hm : m ≤ 1000000000) :
    Calls Try.prog 135 #[v, .int .i64 m] w (SzP (eIntSS l).sz m w) := by
  obtain ⟨A, n, cap, rfl, hn, hn2, hA⟩ := read_raw (E := eIntS) (k := 1) h (fun _ => rfl) (by omega)
  have HZ : Hid ((eIntSS l).sz = n + szs (l.map eIntS)) := by show _ = _; unfold eIntSS; rw [rowD_sz, hn]
  have HN := Lib.hid hn
  have HA := Lib.hid hA
  clear hn h hA
  rw [HZ.out]
  by_cases hlt : (m : Int) < n
  · have hd : decide ((m : Int) - n < 0) = true := by simp; omega
    go_enter Try.func135, Try.ntmps135
    go_wp2
    go_ret
    exact ⟨Or.inr ⟨by omega, rfl⟩, Below.refl _ _⟩
  · have hd : decide ((m : Int) - n < 0) = false := by simp; omega
    obtain ⟨q0, hq0, hqm⟩ : ∃ q0 : Nat, n + q0 = m ∧ (m : Int) - n = q0 := ⟨m - n, by omega, by omega⟩
    have HQ0 := Lib.hid hqm
    clear hqm
    go_enter Try.func135, Try.ntmps135
    go_wp2_with fail
    rw [HQ0.out]
    go_loopw [1, 5] (fun left c wr => ∃ (i q : Nat), i ≤ n ∧ q ≤ 1000000000 ∧ c = .int .i64 i ∧ left = .int .i64 q ∧ Hid (n + szs ((l.map eIntS).take i) + q = m) ∧ Hid (Below w.heap.size w wr)) (fun _ c _ => n - (intOf c).toNat)
    case atStart => exact ⟨0, q0, Nat.zero_le _, by omega, rfl, rfl, by show _ = _; simp [szs]; omega, Below.refl _ _⟩
    case round =>
      obtain ⟨i, q, hi, hq, rfl, rfl, HQ, HBL⟩ := hrel
      by_cases hlt2 : (i : Int) < n
      · have hi0 : (0 : Int) ≤ i := by omega
        obtain ⟨g, o, x, us, rfl, hx, hus, hc, hr⟩ := HA.out i (by omega)
        have hts := szs_take_succ (l.map eIntS) i (eIntS x) (by rw [List.getElem?_map, hx]; rfl)
        have htl := szs_take_le (l.map eIntS) (i + 1)
        simp only [Nat.mul_one] at hc
        obtain ⟨c0, rfl⟩ := rinv_IntS hr
        have hc0 : wr.cell? ⟨g, o + i, none⟩ = some (c0) := cell_below HBL.out (hc 0 (by omega))
        have HC := Lib.hid (h_szIntS x c0 q wr (raw_below HBL.out _ hr) hq)
        have HTS := Lib.hid hts
        have HTL := Lib.hid htl
        clear hc hus hr hts htl hx
        go_wp2_with fail
        refine HC.out.mono ?_
        rintro e w2 ⟨hcase, hb2⟩
        have HB2 := Lib.hid (below_step HBL.out hb2)
        clear hb2
        rcases hcase with ⟨q2, hq2, rfl⟩ | ⟨hm2, rfl⟩
        · have hq3 : q2 ≤ 1000000000 := by omega
          have HQ2 : Hid (n + szs ((l.map eIntS).take (i + 1)) + q2 = m) := by show _ = _; have h1 := HQ.out; have h2 := HTS.out; omega
          clear hq2
          go_wp2
          go_roundw
          case rel => exact ⟨i + 1, q2, by omega, hq3, by go_num, by go_num, HQ2.out, HB2.out⟩
          case measure => simp [intOf]; omega
        · go_wp2
          go_ret
          exact ⟨Or.inr ⟨by have h1 := HQ.out; have h2 := HTS.out; have h3 := HTL.out; omega, rfl⟩, HB2.out⟩
      · obtain rfl : i = n := by omega
        go_wp2
        go_ret
        exact ⟨Or.inl ⟨q, by have h1 := HQ.out; rw [HN.out, ← List.length_map (f := eIntS), List.take_length, List.length_map, ← HN.out] at h1; exact h1, rfl⟩, HBL.out⟩
theorem h_szFrames (x : GFrames) (c0 c1 : Value) (m : Nat) (w : World) (h : Raw w (eFrames x) [c0, c1]) (hm : m ≤ 1000000000) :
    Calls Try.prog 112 #[.agg #[c0, c1], .int .i64 m] w (SzP (eFrames x).sz m w) := by
  obtain ⟨h0, ht0⟩ := raw_split h
  have h1 := ht0
  obtain ⟨B, hB⟩ : ∃ B, w.heap.size = B := ⟨_, rfl⟩
  have hbox : (w.alloc (.cells #[c0, c1] 55)).heap[B]? = some (.cells #[c0, c1] 55 (0, 0)) := by rw [← hB]; exact heap_alloc_new w _
  have hb0 : Below w.heap.size w (w.alloc (.cells #[c0, c1] 55)) := (Below.refl _ _).alloc (Nat.le_refl _) _
  obtain ⟨w0, hw0⟩ : ∃ w0, w.alloc (.cells #[c0, c1] 55) = w0 := ⟨_, rfl⟩
  rw [hw0] at hbox hb0
  have H0 : Hid (Raw w (eIntSS x.Cells) [c0]) := h0
  have H1 : Hid (Raw w (eBoolS x.Used) [c1]) := h1
  have HZ : Hid ((eFrames x).sz = (eIntSS x.Cells).sz + ((eBoolS x.Used).sz)) := by show _ = _; rw [sz_Frames]
  have HBX := Lib.hid hbox
  have HBL := Lib.hid hb0
  have HW := Lib.hid hw0
  clear hbox hb0 hw0 h0 h1
  rw [HZ.out]
  obtain ⟨s0, hs0⟩ : ∃ s, (eIntSS x.Cells).sz = s := ⟨_, rfl⟩
  rw [hs0]
  have HS0 := Lib.hid hs0
  clear hs0
  obtain ⟨s1, hs1⟩ : ∃ s, (eBoolS x.Used).sz = s := ⟨_, rfl⟩
  rw [hs1]
  have HS1 := Lib.hid hs1
  clear hs1
  go_enter Try.func112, Try.ntmps112
  go_wp2_with fail
  rw [HW.out]
  clear HW
  refine (h_szIntSS x.Cells c0 m w0 (raw_below HBL.out _ H0.out) (by omega)).mono ?_
  rintro e w1 ⟨hcase, hb0⟩
  rw [HS0.out] at hcase
  have HBX' := Lib.hid ((hb0.block B (lt_of_block HBX.out)).trans HBX.out)
  have HBL' := Lib.hid (below_step HBL.out hb0)
  clear HBX HBL
  have HBX := HBX'
  have HBL := HBL'
  clear HBX' HBL' hb0
  rcases hcase with ⟨q0, hq0, rfl⟩ | ⟨hm0, rfl⟩
  rotate_left
  · go_wp2
    go_ret
    exact ⟨Or.inr ⟨by omega, rfl⟩, HBL.out⟩
  have hqq0 : q0 ≤ 1000000000 := by omega
  have hc1 : w1.cell? ⟨B, 1, none⟩ = some (c1) := cell_of_block HBX.out 1
  go_wp2_with fail
  refine (h_szBoolS x.Used c1 q0 w1 (raw_below HBL.out _ H1.out) (by omega)).mono ?_
  rintro e w2 ⟨hcase, hb1⟩
  rw [HS1.out] at hcase
  have HBX' := Lib.hid ((hb1.block B (lt_of_block HBX.out)).trans HBX.out)
  have HBL' := Lib.hid (below_step HBL.out hb1)
  clear HBX HBL
  have HBX := HBX'
  have HBL := HBL'
  clear HBX' HBL' hb1
  rcases hcase with ⟨q1, hq1, rfl⟩ | ⟨hm1, rfl⟩
  rotate_left
  · go_wp2
    go_ret
    exact ⟨Or.inr ⟨by omega, rfl⟩, HBL.out⟩
  have hqq1 : q1 ≤ 1000000000 := by omega
  go_wp2
  go_ret
  exact ⟨Or.inl ⟨q1, by omega, rfl⟩, HBL.out⟩
theorem h_szTable (x : GTable) (c0 : Value) (m : Nat) (w : World) (h : Raw w (eTable x) [c0]) (hm : m ≤ 1000000000) :
    Calls Try.prog 113 #[.agg #[c0], .int .i64 m] w (SzP (eTable x).sz m w) := by
  have h0 := h
  obtain ⟨B, hB⟩ : ∃ B, w.heap.size = B := ⟨_, rfl⟩
  have hbox : (w.alloc (.cells #[c0] 58)).heap[B]? = some (.cells #[c0] 58 (0, 0)) := by rw [← hB]; exact heap_alloc_new w _
  have hb0 : Below w.heap.size w (w.alloc (.cells #[c0] 58)) := (Below.refl _ _).alloc (Nat.le_refl _) _
  obtain ⟨w0, hw0⟩ : ∃ w0, w.alloc (.cells #[c0] 58) = w0 := ⟨_, rfl⟩
  rw [hw0] at hbox hb0
  have H0 : Hid (Raw w (eEntryS x.Entries) [c0]) := h0
  have HZ : Hid ((eTable x).sz = (eEntryS x.Entries).sz) := by show _ = _; rw [sz_Table]
  have HBX := Lib.hid hbox
  have HBL := Lib.hid hb0
  have HW := Lib.hid hw0
  clear hbox hb0 hw0 h0
  rw [HZ.out]
  obtain ⟨s0, hs0⟩ : ∃ s, (eEntryS x.Entries).sz = s := ⟨_, rfl⟩
  rw [hs0]
  have HS0 := Lib.hid hs0
  clear hs0
  go_enter Try.func113, Try.ntmps113
  go_wp2_with fail
  rw [HW.out]
  clear HW
  refine (h_szEntryS x.Entries c0 m w0 (raw_below HBL.out _ H0.out) (by omega)).mono ?_
  rintro e w1 ⟨hcase, hb0⟩
  rw [HS0.out] at hcase
  have HBX' := Lib.hid ((hb0.block B (lt_of_block HBX.out)).trans HBX.out)
  have HBL' := Lib.hid (below_step HBL.out hb0)
  clear HBX HBL
  have HBX := HBX'
  have HBL := HBL'
  clear HBX' HBL' hb0
  rcases hcase with ⟨q0, hq0, rfl⟩ | ⟨hm0, rfl⟩
  rotate_left
  · go_wp2
    go_ret
    exact ⟨Or.inr ⟨by omega, rfl⟩, HBL.out⟩
  have hqq0 : q0 ≤ 1000000000 := by omega
  go_wp2
  go_ret
  exact ⟨Or.inl ⟨q0, by omega, rfl⟩, HBL.out⟩
theorem h_szMachine (x : GMachine) (c0 c1 c2 : Value) (m : Nat) (w : World) (h : Raw w (eMachine x) [c0, c1, c2]) (hm : m ≤ 1000000000) :
    Calls Try.prog 69 #[.agg #[c0, c1, c2], .int .i64 m] w (SzP (eMachine x).sz m w) := by
  obtain ⟨h0, ht0⟩ := raw_split h
  have h1 := ht0
  obtain ⟨B, hB⟩ : ∃ B, w.heap.size = B := ⟨_, rfl⟩
  have hbox : (w.alloc (.cells #[c0, c1, c2] 60)).heap[B]? = some (.cells #[c0, c1, c2] 60 (0, 0)) := by rw [← hB]; exact heap_alloc_new w _
  have hb0 : Below w.heap.size w (w.alloc (.cells #[c0, c1, c2] 60)) := (Below.refl _ _).alloc (Nat.le_refl _) _
  obtain ⟨w0, hw0⟩ : ∃ w0, w.alloc (.cells #[c0, c1, c2] 60) = w0 := ⟨_, rfl⟩
  rw [hw0] at hbox hb0
  have H0 : Hid (Raw w (eFrames x.Frames) [c0, c1]) := h0
  have H1 : Hid (Raw w (eTable x.Table) [c2]) := h1
  have HZ : Hid ((eMachine x).sz = (eFrames x.Frames).sz + ((eTable x.Table).sz)) := by show _ = _; rw [sz_Machine]
  have HBX := Lib.hid hbox
  have HBL := Lib.hid hb0
  have HW := Lib.hid hw0
  clear hbox hb0 hw0 h0 h1
  rw [HZ.out]
  obtain ⟨s0, hs0⟩ : ∃ s, (eFrames x.Frames).sz = s := ⟨_, rfl⟩
  rw [hs0]
  have HS0 := Lib.hid hs0
  clear hs0
  obtain ⟨s1, hs1⟩ : ∃ s, (eTable x.Table).sz = s := ⟨_, rfl⟩
  rw [hs1]
  have HS1 := Lib.hid hs1
  clear hs1
  go_enter Try.func69, Try.ntmps69
  go_wp2_with fail
  rw [HW.out]
  clear HW
  refine (h_szFrames x.Frames c0 c1 m w0 (raw_below HBL.out _ H0.out) (by omega)).mono ?_
  rintro e w1 ⟨hcase, hb0⟩
  rw [HS0.out] at hcase
  have HBX' := Lib.hid ((hb0.block B (lt_of_block HBX.out)).trans HBX.out)
  have HBL' := Lib.hid (below_step HBL.out hb0)
  clear HBX HBL
  have HBX := HBX'
  have HBL := HBL'
  clear HBX' HBL' hb0
  rcases hcase with ⟨q0, hq0, rfl⟩ | ⟨hm0, rfl⟩
  rotate_left
  · go_wp2
    go_ret
    exact ⟨Or.inr ⟨by omega, rfl⟩, HBL.out⟩
  have hqq0 : q0 ≤ 1000000000 := by omega
  have hc2 : w1.cell? ⟨B, 2, none⟩ = some (c2) := cell_of_block HBX.out 2
  go_wp2_with fail
  refine (h_szTable x.Table c2 q0 w1 (raw_below HBL.out _ H1.out) (by omega)).mono ?_
  rintro e w2 ⟨hcase, hb1⟩
  rw [HS1.out] at hcase
  have HBX' := Lib.hid ((hb1.block B (lt_of_block HBX.out)).trans HBX.out)
  have HBL' := Lib.hid (below_step HBL.out hb1)
  clear HBX HBL
  have HBX := HBX'
  have HBL := HBL'
  clear HBX' HBL' hb1
  rcases hcase with ⟨q1, hq1, rfl⟩ | ⟨hm1, rfl⟩
  rotate_left
  · go_wp2
    go_ret
    exact ⟨Or.inr ⟨by omega, rfl⟩, HBL.out⟩
  have hqq1 : q1 ≤ 1000000000 := by omega
  go_wp2
  go_ret
  exact ⟨Or.inl ⟨q1, by omega, rfl⟩, HBL.out⟩
theorem h_szKernel (x : GKernel) (c0 c1 c2 c3 : Value) (m : Nat) (w : World) (h : Raw w (eKernel x) [c0, c1, c2, .int .i64 x.Calls, c3]) (hm : m ≤ 1000000000) :
    Calls Try.prog 33 #[.agg #[c0, c1, c2, .int .i64 x.Calls, c3], .int .i64 m] w (SzP (eKernel x).sz m w) := by
  obtain ⟨h0, ht0⟩ := raw_split h
  obtain ⟨h1, ht1⟩ := raw_split ht0
  have h2 := ht1
  obtain ⟨B, hB⟩ : ∃ B, w.heap.size = B := ⟨_, rfl⟩
  have hbox : (w.alloc (.cells #[c0, c1, c2, .int .i64 x.Calls, c3] 62)).heap[B]? = some (.cells #[c0, c1, c2, .int .i64 x.Calls, c3] 62 (0, 0)) := by rw [← hB]; exact heap_alloc_new w _
  have hb0 : Below w.heap.size w (w.alloc (.cells #[c0, c1, c2, .int .i64 x.Calls, c3] 62)) := (Below.refl _ _).alloc (Nat.le_refl _) _
  obtain ⟨w0, hw0⟩ : ∃ w0, w.alloc (.cells #[c0, c1, c2, .int .i64 x.Calls, c3] 62) = w0 := ⟨_, rfl⟩
  rw [hw0] at hbox hb0
  have H0 : Hid (Raw w (eMachine x.Machine) [c0, c1, c2]) := h0
  have H2 : Hid (Raw w (eIntS x.Refuse) [c3]) := h2
  have HZ : Hid ((eKernel x).sz = (eMachine x.Machine).sz + ((eI x.Calls).sz + ((eIntS x.Refuse).sz))) := by show _ = _; rw [sz_Kernel]
  have HZ1 : Hid ((eI x.Calls).sz = 0) := rfl
  have HBX := Lib.hid hbox
  have HBL := Lib.hid hb0
  have HW := Lib.hid hw0
  clear hbox hb0 hw0 h0 h1 h2
  rw [HZ.out]
  obtain ⟨s0, hs0⟩ : ∃ s, (eMachine x.Machine).sz = s := ⟨_, rfl⟩
  rw [hs0]
  have HS0 := Lib.hid hs0
  clear hs0
  obtain ⟨s2, hs2⟩ : ∃ s, (eIntS x.Refuse).sz = s := ⟨_, rfl⟩
  rw [hs2]
  have HS2 := Lib.hid hs2
  clear hs2
  go_enter Try.func33, Try.ntmps33
  go_wp2_with fail
  rw [HW.out]
  clear HW
  refine (h_szMachine x.Machine c0 c1 c2 m w0 (raw_below HBL.out _ H0.out) (by omega)).mono ?_
  rintro e w1 ⟨hcase, hb0⟩
  rw [HS0.out] at hcase
  have HBX' := Lib.hid ((hb0.block B (lt_of_block HBX.out)).trans HBX.out)
  have HBL' := Lib.hid (below_step HBL.out hb0)
  clear HBX HBL
  have HBX := HBX'
  have HBL := HBL'
  clear HBX' HBL' hb0
  rcases hcase with ⟨q0, hq0, rfl⟩ | ⟨hm0, rfl⟩
  rotate_left
  · go_wp2
    go_ret
    exact ⟨Or.inr ⟨by have hz1 := HZ1.out; omega, rfl⟩, HBL.out⟩
  have hqq0 : q0 ≤ 1000000000 := by omega
  have hc4 : w1.cell? ⟨B, 4, none⟩ = some (c3) := cell_of_block HBX.out 4
  go_wp2_with fail
  refine (h_szIntS x.Refuse c3 q0 w1 (raw_below HBL.out _ H2.out) (by omega)).mono ?_
  rintro e w2 ⟨hcase, hb2⟩
  rw [HS2.out] at hcase
  have HBX' := Lib.hid ((hb2.block B (lt_of_block HBX.out)).trans HBX.out)
  have HBL' := Lib.hid (below_step HBL.out hb2)
  clear HBX HBL
  have HBX := HBX'
  have HBL := HBL'
  clear HBX' HBL' hb2
  rcases hcase with ⟨q2, hq2, rfl⟩ | ⟨hm2, rfl⟩
  rotate_left
  · go_wp2
    go_ret
    exact ⟨Or.inr ⟨by have hz1 := HZ1.out; omega, rfl⟩, HBL.out⟩
  have hqq2 : q2 ≤ 1000000000 := by omega
  go_wp2
  go_ret
  exact ⟨Or.inl ⟨q2, by have hz1 := HZ1.out; omega, rfl⟩, HBL.out⟩
end Tr
end Go.Proofs.Ytcdmijnlpapjaaa

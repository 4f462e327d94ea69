/- The laws' look at their marks. -/
import Derived.Test.YtcdmijnlpapjaaaEnc
import Derived.WalkKit
import Derived.ProofKit
import Derived.BigQuiet
import Derived.Deep.QuietTactic
import Derived.Deep.RegionHeld3
import Derived.Lib.Hide
namespace Go.Proofs.Ytcdmijnlpapjaaa
open Go.RowKit
namespace Tr
theorem h_heldBoolS (l : List Bool) (v : Value) (k : Nat) (w : World) (h : Rd w ((eBoolS l).markTop k) [v]) (hs : (eBoolS l).sz ≤ 1000000000) (hkt : k + (eBoolS l).cntTop ≤ 1000000000000) :
    Calls Try.prog 133 #[v, .int .i64 k] w (HeldP (k + (eBoolS l).cntTop) w) := by
  obtain ⟨bs, h⟩ := h
  have hb := sz_len hs
  obtain ⟨A, n, cap, rfl, hn, hA⟩ := read_marks (E := eB) (e := 1) h (fun _ => rfl)
  have hn' : n ≤ 1000000000 := by omega
  have hk : k ≤ 1000000000000 := by omega
  have HKT : Hid (k + cnts (l.map eB) ≤ 1000000000000) := by show _ ≤ _; unfold eBoolS rowD at hkt; rw [row_cntTop] at hkt; exact hkt
  have HA := Lib.hid hA
  have HN := Lib.hid hn
  have HS := Lib.hid hs
  clear h hb hA hn hs hkt
  go_enter Try.func133, Try.ntmps133
  go_wp2
  go_loopw [1, 5] (fun kk c wr => ∃ (i q : Nat), i ≤ n ∧ q ≤ 1000000000000 ∧ c = .int .i64 i ∧ kk = .int .i64 q ∧ Hid (k + cnts ((l.map eB).take i) = q) ∧ Hid (Below w.heap.size w wr)) (fun _ c _ => n - (intOf c).toNat)
  case atStart => exact ⟨0, k, Nat.zero_le _, hk, rfl, rfl, by show _ = _; simp [cnts], Below.refl _ _⟩
  case round =>
    obtain ⟨i, q, hi, hq, rfl, rfl, HQ, HBL⟩ := hrel
    by_cases hlt : (i : Int) < n
    · have hi0 : (0 : Int) ≤ i := by omega
      have hil : i < (l.map eB).length := by rw [List.length_map, ← HN.out]; omega
      obtain ⟨g, o, x, us, b, rfl, hx, hus, hc, ho⟩ := HA.out i (by omega)
      have hd : (l.map eB)[i]? = some (eB x) := by rw [List.getElem?_map, hx]; rfl
      have hcn := cnts_take _ _ hil
      rw [getElem_of_at hd] at hcn
      have hcl := cnts_take_le (l.map eB) (i + 1)
      have hsx := sz_elem HS.out hx
      rw [HQ.out] at ho
      simp only [Nat.mul_one] at hc
      obtain ⟨_, rfl, rfl, _⟩ := ho
      have hc0 : wr.cell? ⟨g, o + i, none⟩ = some (.bool ((q : Int) % 3 == 0)) := cell_below HBL.out ((hc 0 (by omega)).trans (congrArg some (mk_bool (q := q) (by omega))))
      have hcx : (eB x).cnt = 1 := rfl
      have hq2 : q + 1 ≤ 1000000000000 := by have := HKT.out; have := HQ.out; omega
      have HQ2 : Hid (k + cnts ((l.map eB).take (i + 1)) = q + 1) := by show _ = _; have := HQ.out; omega
      clear hcx hcn hcl hsx hd hx hc hus
      go_wp2
      go_roundw
      case rel => exact ⟨i + 1, q + 1, by omega, hq2, by go_num, by go_num, HQ2.out, HBL.out⟩
      case measure => simp [intOf]; omega
    · obtain rfl : i = n := by omega
      go_wp2
      go_ret
      exact held_end HN.out HQ.out HBL.out
theorem h_heldEntryS (l : List GEntry) (v : Value) (k : Nat) (w : World) (h : Rd w ((eEntryS l).markTop k) [v]) (hs : (eEntryS l).sz ≤ 1000000000) (hkt : k + (eEntryS l).cntTop ≤ 1000000000000) :
    Calls Try.prog 134 #[v, .int .i64 k] w (HeldP (k + (eEntryS l).cntTop) w) := by
  obtain ⟨bs, h⟩ := h
  have hb := sz_len hs
  obtain ⟨A, n, cap, rfl, hn, hA⟩ := read_marks (E := eEntry) (e := 2) h (fun _ => rfl)
  have hn' : n ≤ 1000000000 := by omega
  have hk : k ≤ 1000000000000 := by omega
  have HKT : Hid (k + cnts (l.map eEntry) ≤ 1000000000000) := by show _ ≤ _; unfold eEntryS rowD at hkt; rw [row_cntTop] at hkt; exact hkt
  have HA := Lib.hid hA
  have HN := Lib.hid hn
  have HS := Lib.hid hs
  clear h hb hA hn hs hkt
  go_enter Try.func134, Try.ntmps134
  go_wp2
  go_loopw [1, 5] (fun kk c wr => ∃ (i q : Nat), i ≤ n ∧ q ≤ 1000000000000 ∧ c = .int .i64 i ∧ kk = .int .i64 q ∧ Hid (k + cnts ((l.map eEntry).take i) = q) ∧ Hid (Below w.heap.size w wr)) (fun _ c _ => n - (intOf c).toNat)
  case atStart => exact ⟨0, k, Nat.zero_le _, hk, rfl, rfl, by show _ = _; simp [cnts], Below.refl _ _⟩
  case round =>
    obtain ⟨i, q, hi, hq, rfl, rfl, HQ, HBL⟩ := hrel
    by_cases hlt : (i : Int) < n
    · have hi0 : (0 : Int) ≤ i := by omega
      have hil : i < (l.map eEntry).length := by rw [List.length_map, ← HN.out]; omega
      obtain ⟨g, o, x, us, b, rfl, hx, hus, hc, ho⟩ := HA.out i (by omega)
      have hd : (l.map eEntry)[i]? = some (eEntry x) := by rw [List.getElem?_map, hx]; rfl
      have hcn := cnts_take _ _ hil
      rw [getElem_of_at hd] at hcn
      have hcl := cnts_take_le (l.map eEntry) (i + 1)
      have hsx := sz_elem HS.out hx
      rw [HQ.out] at ho
      obtain ⟨_, rfl, _, rfl, rfl, _⟩ := ho
      have hc0 : wr.cell? ⟨g, o + i * 2, none⟩ = some (.int .i64 ((q : Int))) := cell_below HBL.out (hc 0 (by omega))
      have hc1 : wr.cell? ⟨g, o + i * 2 + 1, none⟩ = some (.int .i64 ((q : Int) + 1)) := cell_below HBL.out (hc 1 (by omega))
      have hcx : (eEntry x).cnt = 2 := rfl
      have hq2 : q + 2 ≤ 1000000000000 := by have := HKT.out; have := HQ.out; omega
      have HQ2 : Hid (k + cnts ((l.map eEntry).take (i + 1)) = q + 2) := by show _ = _; have := HQ.out; omega
      clear hcx hcn hcl hsx hd hx hc hus
      go_wp2
      go_roundw
      case rel => exact ⟨i + 1, q + 2, by omega, hq2, by go_num, by go_num, HQ2.out, HBL.out⟩
      case measure => simp [intOf]; omega
    · obtain rfl : i = n := by omega
      go_wp2
      go_ret
      exact held_end HN.out HQ.out HBL.out
theorem h_heldIntS (l : List Int) (v : Value) (k : Nat) (w : World) (h : Rd w ((eIntS l).markTop k) [v]) (hs : (eIntS l).sz ≤ 1000000000) (hkt : k + (eIntS l).cntTop ≤ 1000000000000) :
    Calls Try.prog 68 #[v, .int .i64 k] w (HeldP (k + (eIntS l).cntTop) w) := by
  obtain ⟨bs, h⟩ := h
  have hb := sz_len hs
  obtain ⟨A, n, cap, rfl, hn, hA⟩ := read_marks (E := eI) (e := 1) h (fun _ => rfl)
  have hn' : n ≤ 1000000000 := by omega
  have hk : k ≤ 1000000000000 := by omega
  have HKT : Hid (k + cnts (l.map eI) ≤ 1000000000000) := by show _ ≤ _; unfold eIntS rowD at hkt; rw [row_cntTop] at hkt; exact hkt
  have HA := Lib.hid hA
  have HN := Lib.hid hn
  have HS := Lib.hid hs
  clear h hb hA hn hs hkt
  go_enter Try.func68, Try.ntmps68
  go_wp2
  go_loopw [1, 5] (fun kk c wr => ∃ (i q : Nat), i ≤ n ∧ q ≤ 1000000000000 ∧ c = .int .i64 i ∧ kk = .int .i64 q ∧ Hid (k + cnts ((l.map eI).take i) = q) ∧ Hid (Below w.heap.size w wr)) (fun _ c _ => n - (intOf c).toNat)
  case atStart => exact ⟨0, k, Nat.zero_le _, hk, rfl, rfl, by show _ = _; simp [cnts], Below.refl _ _⟩
  case round =>
    obtain ⟨i, q, hi, hq, rfl, rfl, HQ, HBL⟩ := hrel
    by_cases hlt : (i : Int) < n
    · have hi0 : (0 : Int) ≤ i := by omega
      have hil : i < (l.map eI).length := by rw [List.length_map, ← HN.out]; omega
      obtain ⟨g, o, x, us, b, rfl, hx, hus, hc, ho⟩ := HA.out i (by omega)
      have hd : (l.map eI)[i]? = some (eI x) := by rw [List.getElem?_map, hx]; rfl
      have hcn := cnts_take _ _ hil
      rw [getElem_of_at hd] at hcn
      have hcl := cnts_take_le (l.map eI) (i + 1)
      have hsx := sz_elem HS.out hx
      rw [HQ.out] at ho
      simp only [Nat.mul_one] at hc
      obtain ⟨_, rfl, rfl, _⟩ := ho
      have hc0 : wr.cell? ⟨g, o + i, none⟩ = some (.int .i64 ((q : Int))) := cell_below HBL.out (hc 0 (by omega))
      have hcx : (eI x).cnt = 1 := rfl
      have hq2 : q + 1 ≤ 1000000000000 := by have := HKT.out; have := HQ.out; omega
      have HQ2 : Hid (k + cnts ((l.map eI).take (i + 1)) = q + 1) := by show _ = _; have := HQ.out; omega
      clear hcx hcn hcl hsx hd hx hc hus
      go_wp2
      go_roundw
      case rel => exact ⟨i + 1, q + 1, by omega, hq2, by go_num, by go_num, HQ2.out, HBL.out⟩
      case measure => simp [intOf]; omega
    · obtain rfl : i = n := by omega
      go_wp2
      go_ret
      exact held_end HN.out HQ.out HBL.out
theorem h_heldIntSS (l : List (List Int)) (v : Value) (k : Nat) (w : World) (h : Rd w ((eIntSS l).markTop k) [v]) (hs : (eIntSS l).sz ≤ 1000000000) (hkt : k + (eIntSS l).cntTop ≤ 1000000000000) :
    Calls Try.prog 132 #[v, .int .i64 k] w (HeldP (k + (eIntSS l).cntTop) w) := by
  obtain ⟨bs, h⟩ := h
  have hb := sz_len hs
  obtain ⟨A, n, cap, rfl, hn, hA⟩ := read_marks (E := eIntS) (e := 1) h (fun _ => rfl)
  have hn' : n ≤ 1000000000 := by omega
  have hk : k ≤ 1000000000000 := by omega
  have HKT : Hid (k + cnts (l.map eIntS) ≤ 1000000000000) := by show _ ≤ _; unfold eIntSS rowD at hkt; rw [row_cntTop] at hkt; exact hkt
  have HA := Lib.hid hA
  have HN := Lib.hid hn
  have HS := Lib.hid hs
  clear h hb hA hn hs hkt
  go_enter Try.func132, Try.ntmps132
  go_wp2
  go_loopw [1, 5] (fun kk c wr => ∃ (i q : Nat), i ≤ n ∧ q ≤ 1000000000000 ∧ c = .int .i64 i ∧ kk = .int .i64 q ∧ Hid (k + cnts ((l.map eIntS).take i) = q) ∧ Hid (Below w.heap.size w wr)) (fun _ c _ => n - (intOf c).toNat)
  case atStart => exact ⟨0, k, Nat.zero_le _, hk, rfl, rfl, by show _ = _; simp [cnts], Below.refl _ _⟩
  case round =>
    obtain ⟨i, q, hi, hq, rfl, rfl, HQ, HBL⟩ := hrel
    by_cases hlt : (i : Int) < n
    · have hi0 : (0 : Int) ≤ i := by omega
      have hil : i < (l.map eIntS).length := by rw [List.length_map, ← HN.out]; omega
      obtain ⟨g, o, x, us, b, rfl, hx, hus, hc, ho⟩ := HA.out i (by omega)
      have hd : (l.map eIntS)[i]? = some (eIntS x) := by rw [List.getElem?_map, hx]; rfl
      have hcn := cnts_take _ _ hil
      rw [getElem_of_at hd] at hcn
      have hcl := cnts_take_le (l.map eIntS) (i + 1)
      have hsx := sz_elem HS.out hx
      rw [HQ.out] at ho
      simp only [Nat.mul_one] at hc
      have ho : Own w ((eIntS x).markTop (q + 0)) _ b := ho
      obtain ⟨A1, n1, cap1, rfl⟩ := own_slice1 (by rw [show (eIntS x).markTop (q + 0) = _ from row_markTop _ _ _ _] at ho; exact ho)
      have hc0 : wr.cell? ⟨g, o + i, none⟩ = some (.slice A1 n1 cap1) := cell_below HBL.out (hc 0 (by omega))
      have hcx : (eIntS x).cnt = 0 + (eIntS x).cntTop := by first | rfl | exact Nat.add_comm _ _ | (show _ + 1 = _; exact Nat.add_comm _ _) | (show _ = 0 + _; rw [Nat.zero_add]; rfl)
      have hky : (q + 0) + (eIntS x).cntTop ≤ 1000000000000 := by have := HKT.out; have := HQ.out; omega
      obtain ⟨q2, hq2, he2⟩ : ∃ q2 : Nat, q2 ≤ 1000000000000 ∧ q + 0 + (eIntS x).cntTop = q2 := ⟨_, hky, rfl⟩
      have HC := Lib.hid (h_heldIntS x (.slice A1 n1 cap1) (q + 0) wr (Rd.below ⟨_, ho⟩ HBL.out) hsx hky)
      have HQ2 : Hid (k + cnts ((l.map eIntS).take (i + 1)) = q2) := by show _ = _; have := HQ.out; omega
      have HE2 := Lib.hid he2
      clear he2 hcx hcn hcl hky hsx ho hd hx hc hus
      go_wp2_with fail
      refine HC.out.mono ?_
      rintro e w' ⟨rfl, hb'⟩
      rw [HE2.out]
      have HB2 := Lib.hid (below_step HBL.out hb')
      clear hb'
      go_wp2
      go_roundw
      case rel => exact ⟨i + 1, q2, by omega, hq2, by go_num, by go_num, HQ2.out, HB2.out⟩
      case measure => simp [intOf]; omega
    · obtain rfl : i = n := by omega
      go_wp2
      go_ret
      exact held_end HN.out HQ.out HBL.out
theorem h_heldFrames (x : GFrames) (c0 c1 : Value) (k : Nat) (w : World) (h : Rd w ((eFrames x).markTop k) [c0, c1]) (hs : (eFrames x).sz ≤ 1000000000) (hkt : k + (eFrames x).cntTop ≤ 1000000000000) :
    Calls Try.prog 110 #[.agg #[c0, c1], .int .i64 k] w (HeldP (k + (eFrames x).cntTop) w) := by
  have hk : k ≤ 1000000000000 := by omega
  have h : Rd w (D.markTop ((eIntSS x.Cells).app (eBoolS x.Used)) k) [c0, c1] := h
  rw [markTop_app] at h
  obtain ⟨h0, ht0⟩ := rd_split h
  have h1 := ht0
  rw [sz_Frames] at hs
  rw [cntTop_Frames] at hkt
  obtain ⟨B, hB⟩ : ∃ B, w.heap.size = B := ⟨_, rfl⟩
  have hbox : (w.alloc (.cells #[c0, c1] 27)).heap[B]? = some (.cells #[c0, c1] 27 (0, 0)) := by rw [← hB]; exact heap_alloc_new w _
  have hb0 : Below w.heap.size w (w.alloc (.cells #[c0, c1] 27)) := (Below.refl _ _).alloc (Nat.le_refl _) _
  obtain ⟨w0, hw0⟩ : ∃ w0, w.alloc (.cells #[c0, c1] 27) = w0 := ⟨_, rfl⟩
  rw [hw0] at hbox hb0
  have H0 : Hid (Rd w ((eIntSS x.Cells).markTop (k)) [c0]) := h0
  have H1 : Hid (Rd w ((eBoolS x.Used).markTop (k + (eIntSS x.Cells).cntTop)) [c1]) := h1
  have HBX := Lib.hid hbox
  have HBL := Lib.hid hb0
  have HW := Lib.hid hw0
  have HKE : Hid (k + (eFrames x).cntTop = k + ((eIntSS x.Cells).cntTop + ((eBoolS x.Used).cntTop))) := by show _ = _; rw [cntTop_Frames]
  clear hbox hb0 hw0 h0 h1
  rw [HKE.out]
  go_enter Try.func110, Try.ntmps110
  go_wp2_with fail
  rw [HW.out]
  clear HW
  have hsz0 : (eIntSS x.Cells).sz ≤ 1000000000 := by omega
  have hkk0 : k + (eIntSS x.Cells).cntTop ≤ 1000000000000 := by omega
  refine (h_heldIntSS x.Cells c0 k w0 (H0.out.below HBL.out) hsz0 hkk0).mono ?_
  rintro e w1 ⟨rfl, hb0⟩
  obtain ⟨k0, hk0⟩ : ∃ q : Nat, k + (eIntSS x.Cells).cntTop = q := ⟨_, rfl⟩
  have HK0 := Lib.hid hk0
  have hkb0 : k0 ≤ 1000000000000 := by omega
  have hkt0 : k0 + ((eBoolS x.Used).cntTop + 0) ≤ 1000000000000 := by omega
  rw [hk0]
  rw [hk0] at H1
  have HBX' := Lib.hid ((hb0.block B (lt_of_block HBX.out)).trans HBX.out)
  have HBL' := Lib.hid (below_step HBL.out hb0)
  clear HBX HBL
  have HBX := HBX'
  have HBL := HBL'
  clear HBX' HBL' hb0 hk0 hsz0 hkk0
  have hc1 : w1.cell? ⟨B, 1, none⟩ = some (c1) := cell_of_block HBX.out 1
  go_wp2_with fail
  have hsz1 : (eBoolS x.Used).sz ≤ 1000000000 := by omega
  have hkk1 : k0 + (eBoolS x.Used).cntTop ≤ 1000000000000 := by omega
  refine (h_heldBoolS x.Used c1 k0 w1 (H1.out.below HBL.out) hsz1 hkk1).mono ?_
  rintro e w2 ⟨rfl, hb1⟩
  obtain ⟨k1, hk1⟩ : ∃ q : Nat, k0 + (eBoolS x.Used).cntTop = q := ⟨_, rfl⟩
  have HK1 := Lib.hid hk1
  have hkb1 : k1 ≤ 1000000000000 := by omega
  have hkt1 : k1 + (0) ≤ 1000000000000 := by omega
  rw [hk1]
  have HBX' := Lib.hid ((hb1.block B (lt_of_block HBX.out)).trans HBX.out)
  have HBL' := Lib.hid (below_step HBL.out hb1)
  clear HBX HBL
  have HBX := HBX'
  have HBL := HBL'
  clear HBX' HBL' hb1 hk1 hsz1 hkk1
  go_wp2
  go_ret
  refine ⟨?_, HBL.out⟩
  have e0 := HK0.out
  have e1 := HK1.out
  refine ret_nat ?_
  omega
theorem h_heldTable (x : GTable) (c0 : Value) (k : Nat) (w : World) (h : Rd w ((eTable x).markTop k) [c0]) (hs : (eTable x).sz ≤ 1000000000) (hkt : k + (eTable x).cntTop ≤ 1000000000000) :
    Calls Try.prog 111 #[.agg #[c0], .int .i64 k] w (HeldP (k + (eTable x).cntTop) w) := by
  have hk : k ≤ 1000000000000 := by omega
  have h : Rd w (D.markTop (eEntryS x.Entries) k) [c0] := h
  have h0 := h
  rw [sz_Table] at hs
  rw [cntTop_Table] at hkt
  obtain ⟨B, hB⟩ : ∃ B, w.heap.size = B := ⟨_, rfl⟩
  have hbox : (w.alloc (.cells #[c0] 30)).heap[B]? = some (.cells #[c0] 30 (0, 0)) := by rw [← hB]; exact heap_alloc_new w _
  have hb0 : Below w.heap.size w (w.alloc (.cells #[c0] 30)) := (Below.refl _ _).alloc (Nat.le_refl _) _
  obtain ⟨w0, hw0⟩ : ∃ w0, w.alloc (.cells #[c0] 30) = w0 := ⟨_, rfl⟩
  rw [hw0] at hbox hb0
  have H0 : Hid (Rd w ((eEntryS x.Entries).markTop (k)) [c0]) := h0
  have HBX := Lib.hid hbox
  have HBL := Lib.hid hb0
  have HW := Lib.hid hw0
  have HKE : Hid (k + (eTable x).cntTop = k + ((eEntryS x.Entries).cntTop)) := by show _ = _; rw [cntTop_Table]
  clear hbox hb0 hw0 h0
  rw [HKE.out]
  go_enter Try.func111, Try.ntmps111
  go_wp2_with fail
  rw [HW.out]
  clear HW
  have hsz0 : (eEntryS x.Entries).sz ≤ 1000000000 := by omega
  have hkk0 : k + (eEntryS x.Entries).cntTop ≤ 1000000000000 := by omega
  refine (h_heldEntryS x.Entries c0 k w0 (H0.out.below HBL.out) hsz0 hkk0).mono ?_
  rintro e w1 ⟨rfl, hb0⟩
  obtain ⟨k0, hk0⟩ : ∃ q : Nat, k + (eEntryS x.Entries).cntTop = q := ⟨_, rfl⟩
  have HK0 := Lib.hid hk0
  have hkb0 : k0 ≤ 1000000000000 := by omega
  have hkt0 : k0 + (0) ≤ 1000000000000 := by omega
  rw [hk0]
  have HBX' := Lib.hid ((hb0.block B (lt_of_block HBX.out)).trans HBX.out)
  have HBL' := Lib.hid (below_step HBL.out hb0)
  clear HBX HBL
  have HBX := HBX'
  have HBL := HBL'
  clear HBX' HBL' hb0 hk0 hsz0 hkk0
  go_wp2
  go_ret
  refine ⟨?_, HBL.out⟩
  have e0 := HK0.out
  refine ret_nat ?_
  omega
theorem h_heldMachine (x : GMachine) (c0 c1 c2 : Value) (k : Nat) (w : World) (h : Rd w ((eMachine x).markTop k) [c0, c1, c2]) (hs : (eMachine x).sz ≤ 1000000000) (hkt : k + (eMachine x).cntTop ≤ 1000000000000) :
    Calls Try.prog 67 #[.agg #[c0, c1, c2], .int .i64 k] w (HeldP (k + (eMachine x).cntTop) w) := by
  have hk : k ≤ 1000000000000 := by omega
  have h : Rd w (D.markTop ((eFrames x.Frames).app (eTable x.Table)) k) [c0, c1, c2] := h
  rw [markTop_app] at h
  obtain ⟨h0, ht0⟩ := rd_split h
  have h1 := ht0
  rw [sz_Machine] at hs
  rw [cntTop_Machine] at hkt
  obtain ⟨B, hB⟩ : ∃ B, w.heap.size = B := ⟨_, rfl⟩
  have hbox : (w.alloc (.cells #[c0, c1, c2] 32)).heap[B]? = some (.cells #[c0, c1, c2] 32 (0, 0)) := by rw [← hB]; exact heap_alloc_new w _
  have hb0 : Below w.heap.size w (w.alloc (.cells #[c0, c1, c2] 32)) := (Below.refl _ _).alloc (Nat.le_refl _) _
  obtain ⟨w0, hw0⟩ : ∃ w0, w.alloc (.cells #[c0, c1, c2] 32) = w0 := ⟨_, rfl⟩
  rw [hw0] at hbox hb0
  have H0 : Hid (Rd w ((eFrames x.Frames).markTop (k)) [c0, c1]) := h0
  have H1 : Hid (Rd w ((eTable x.Table).markTop (k + (eFrames x.Frames).cntTop)) [c2]) := h1
  have HBX := Lib.hid hbox
  have HBL := Lib.hid hb0
  have HW := Lib.hid hw0
  have HKE : Hid (k + (eMachine x).cntTop = k + ((eFrames x.Frames).cntTop + ((eTable x.Table).cntTop))) := by show _ = _; rw [cntTop_Machine]
  clear hbox hb0 hw0 h0 h1
  rw [HKE.out]
  go_enter Try.func67, Try.ntmps67
  go_wp2_with fail
  rw [HW.out]
  clear HW
  have hsz0 : (eFrames x.Frames).sz ≤ 1000000000 := by omega
  have hkk0 : k + (eFrames x.Frames).cntTop ≤ 1000000000000 := by omega
  refine (h_heldFrames x.Frames c0 c1 k w0 (H0.out.below HBL.out) hsz0 hkk0).mono ?_
  rintro e w1 ⟨rfl, hb0⟩
  obtain ⟨k0, hk0⟩ : ∃ q : Nat, k + (eFrames x.Frames).cntTop = q := ⟨_, rfl⟩
  have HK0 := Lib.hid hk0
  have hkb0 : k0 ≤ 1000000000000 := by omega
  have hkt0 : k0 + ((eTable x.Table).cntTop + 0) ≤ 1000000000000 := by omega
  rw [hk0]
  rw [hk0] at H1
  have HBX' := Lib.hid ((hb0.block B (lt_of_block HBX.out)).trans HBX.out)
  have HBL' := Lib.hid (below_step HBL.out hb0)
  clear HBX HBL
  have HBX := HBX'
  have HBL := HBL'
  clear HBX' HBL' hb0 hk0 hsz0 hkk0
  have hc2 : w1.cell? ⟨B, 2, none⟩ = some (c2) := cell_of_block HBX.out 2
  go_wp2_with fail
  have hsz1 : (eTable x.Table).sz ≤ 1000000000 := by omega
  have hkk1 : k0 + (eTable x.Table).cntTop ≤ 1000000000000 := by omega
  refine (h_heldTable x.Table c2 k0 w1 (H1.out.below HBL.out) hsz1 hkk1).mono ?_
  rintro e w2 ⟨rfl, hb1⟩
  obtain ⟨k1, hk1⟩ : ∃ q : Nat, k0 + (eTable x.Table).cntTop = q := ⟨_, rfl⟩
  have HK1 := Lib.hid hk1
  have hkb1 : k1 ≤ 1000000000000 := by omega
  have hkt1 : k1 + (0) ≤ 1000000000000 := by omega
  rw [hk1]
  have HBX' := Lib.hid ((hb1.block B (lt_of_block HBX.out)).trans HBX.out)
  have HBL' := Lib.hid (below_step HBL.out hb1)
  clear HBX HBL
  have HBX := HBX'
  have HBL := HBL'
  clear HBX' HBL' hb1 hk1 hsz1 hkk1
  go_wp2
  go_ret
  refine ⟨?_, HBL.out⟩
  have e0 := HK0.out
  have e1 := HK1.out
  refine ret_nat ?_
  omega
theorem h_heldKernel (x : GKernel) (c0 c1 c2 c3 : Value) (k : Nat) (w : World) (h : Rd w ((eKernel x).markTop k) [c0, c1, c2, .int .i64 x.Calls, c3]) (hs : (eKernel x).sz ≤ 1000000000) (hkt : k + (eKernel x).cntTop ≤ 1000000000000) :
    Calls Try.prog 32 #[.agg #[c0, c1, c2, .int .i64 x.Calls, c3], .int .i64 k] w (HeldP (k + (eKernel x).cntTop) w) := by
  have hk : k ≤ 1000000000000 := by omega
  have h : Rd w (D.markTop ((eMachine x.Machine).app ((eI x.Calls).app (eIntS x.Refuse))) k) [c0, c1, c2, .int .i64 x.Calls, c3] := h
  rw [markTop_app, markTop_app] at h
  obtain ⟨h0, ht0⟩ := rd_split h
  obtain ⟨h1, ht1⟩ := rd_split ht0
  have h2 := ht1
  rw [sz_Kernel] at hs
  rw [cntTop_Kernel] at hkt
  obtain ⟨B, hB⟩ : ∃ B, w.heap.size = B := ⟨_, rfl⟩
  have hbox : (w.alloc (.cells #[c0, c1, c2, .int .i64 x.Calls, c3] 35)).heap[B]? = some (.cells #[c0, c1, c2, .int .i64 x.Calls, c3] 35 (0, 0)) := by rw [← hB]; exact heap_alloc_new w _
  have hb0 : Below w.heap.size w (w.alloc (.cells #[c0, c1, c2, .int .i64 x.Calls, c3] 35)) := (Below.refl _ _).alloc (Nat.le_refl _) _
  obtain ⟨w0, hw0⟩ : ∃ w0, w.alloc (.cells #[c0, c1, c2, .int .i64 x.Calls, c3] 35) = w0 := ⟨_, rfl⟩
  rw [hw0] at hbox hb0
  have H0 : Hid (Rd w ((eMachine x.Machine).markTop (k)) [c0, c1, c2]) := h0
  have H2 : Hid (Rd w ((eIntS x.Refuse).markTop (k + (eMachine x.Machine).cntTop)) [c3]) := h2
  have HBX := Lib.hid hbox
  have HBL := Lib.hid hb0
  have HW := Lib.hid hw0
  have HKE : Hid (k + (eKernel x).cntTop = k + ((eMachine x.Machine).cntTop + ((eI x.Calls).cntTop + ((eIntS x.Refuse).cntTop)))) := by show _ = _; rw [cntTop_Kernel]
  clear hbox hb0 hw0 h0 h1 h2
  rw [HKE.out]
  go_enter Try.func32, Try.ntmps32
  go_wp2_with fail
  rw [HW.out]
  clear HW
  have hsz0 : (eMachine x.Machine).sz ≤ 1000000000 := by omega
  have hkk0 : k + (eMachine x.Machine).cntTop ≤ 1000000000000 := by omega
  refine (h_heldMachine x.Machine c0 c1 c2 k w0 (H0.out.below HBL.out) hsz0 hkk0).mono ?_
  rintro e w1 ⟨rfl, hb0⟩
  obtain ⟨k0, hk0⟩ : ∃ q : Nat, k + (eMachine x.Machine).cntTop = q := ⟨_, rfl⟩
  have HK0 := Lib.hid hk0
  have hkb0 : k0 ≤ 1000000000000 := by omega
  have hkt0 : k0 + ((eI x.Calls).cntTop + (eIntS x.Refuse).cntTop + 0) ≤ 1000000000000 := by omega
  rw [hk0]
  rw [hk0] at H2
  have HBX' := Lib.hid ((hb0.block B (lt_of_block HBX.out)).trans HBX.out)
  have HBL' := Lib.hid (below_step HBL.out hb0)
  clear HBX HBL
  have HBX := HBX'
  have HBL := HBL'
  clear HBX' HBL' hb0 hk0 hsz0 hkk0
  have hc4 : w1.cell? ⟨B, 4, none⟩ = some (c3) := cell_of_block HBX.out 4
  go_wp2_with fail
  have hsz2 : (eIntS x.Refuse).sz ≤ 1000000000 := by omega
  have hkk2 : k0 + (eIntS x.Refuse).cntTop ≤ 1000000000000 := by omega
  refine (h_heldIntS x.Refuse c3 k0 w1 (H2.out.below HBL.out) hsz2 hkk2).mono ?_
  rintro e w2 ⟨rfl, hb2⟩
  obtain ⟨k2, hk2⟩ : ∃ q : Nat, k0 + (eIntS x.Refuse).cntTop = q := ⟨_, rfl⟩
  have HK2 := Lib.hid hk2
  have hkb2 : k2 ≤ 1000000000000 := by omega
  have hkt2 : k2 + (0) ≤ 1000000000000 := by omega
  rw [hk2]
  have HBX' := Lib.hid ((hb2.block B (lt_of_block HBX.out)).trans HBX.out)
  have HBL' := Lib.hid (below_step HBL.out hb2)
  clear HBX HBL
  have HBX := HBX'
  have HBL := HBL'
  clear HBX' HBL' hb2 hk2 hsz2 hkk2
  go_wp2
  go_ret
  refine ⟨?_, HBL.out⟩
  have e0 := HK0.out
  have e2 := HK2.out
  have z1 : (eI x.Calls).cntTop = 0 := rfl
  refine ret_nat ?_
  omega
end Tr
end Go.Proofs.Ytcdmijnlpapjaaa

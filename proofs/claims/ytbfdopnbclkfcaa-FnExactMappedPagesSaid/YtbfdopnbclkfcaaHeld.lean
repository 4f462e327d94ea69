/- The laws' look at their marks. -/
import Derived.Test.YtbfdopnbclkfcaaEnc
import Derived.WalkKit
import Derived.ProofKit
import Derived.BigQuiet
import Derived.Deep.QuietTactic
import Derived.Deep.RegionHeld3
import Derived.Lib.Hide
namespace Go.Proofs.Ytbfdopnbclkfcaa
open Go.RowKit
namespace Tr
theorem h_heldEntryS (l : List GEntry) (v : Value) (k : Nat) (w : World) (h : Rd w ((eEntryS l).markTop k) [v]) (hs : (eEntryS l).sz ≤ 1000000000) (hkt : k + (eEntryS l).cntTop ≤ 1000000000000) :
    Calls Try.prog 43 #[v, .int .i64 k] w (HeldP (k + (eEntryS l).cntTop) w) := by
  obtain ⟨bs, h⟩ := h
  have hb := sz_len hs
  obtain ⟨A, n, cap, rfl, hn, hA⟩ := read_marks (E := eEntry) (e := 2) h (fun _ => rfl)
  have hn' : n ≤ 1000000000 := by omega
  have hk : k ≤ 1000000000000 := by omega
  have HKT : Hid (k + cnts (l.map eEntry) ≤ 1000000000000) := by show _ ≤ _; unfold eEntryS rowD at hkt; rw [row_cntTop] at hkt; exact hkt
  have HA := Lib.hid hA
  have HN := Lib.hid hn
  have HS := Lib.hid hs
  clear h hb hA hn hs hkt
  go_enter Try.func43, Try.ntmps43
  go_wp2
  go_loopw [1, 5] (fun kk c wr => ∃ (i q : Nat), i ≤ n ∧ q ≤ 1000000000000 ∧ c = .int .i64 i ∧ kk = .int .i64 q ∧ Hid (k + cnts ((l.map eEntry).take i) = q) ∧ Hid (Below w.heap.size w wr)) (fun _ c _ => n - (intOf c).toNat)
  case atStart => exact ⟨0, k, Nat.zero_le _, hk, rfl, rfl, by show _ = _; simp [cnts], Below.refl _ _⟩
  case round =>
    obtain ⟨i, q, hi, hq, rfl, rfl, HQ, HBL⟩ := hrel
    by_cases hlt : (i : Int) < n
    · have hi0 : (0 : Int) ≤ i := by omega
      have hil : i < (l.map eEntry).length := by rw [List.length_map, ← HN.out]; omega
      obtain ⟨g, o, x, us, b, rfl, hx, hus, hc, ho⟩ := HA.out i (by omega)
      have hd : (l.map eEntry)[i]? = some (eEntry x) := by rw [List.getElem?_map, hx]; rfl
      have hcn := cnts_take _ _ hil
      rw [getElem_of_at hd] at hcn
      have hcl := cnts_take_le (l.map eEntry) (i + 1)
      have hsx := sz_elem HS.out hx
      rw [HQ.out] at ho
      obtain ⟨_, rfl, _, rfl, rfl, _⟩ := ho
      have hc0 : wr.cell? ⟨g, o + i * 2, none⟩ = some (.int .i64 ((q : Int))) := cell_below HBL.out (hc 0 (by omega))
      have hc1 : wr.cell? ⟨g, o + i * 2 + 1, none⟩ = some (.int .i64 ((q : Int) + 1)) := cell_below HBL.out (hc 1 (by omega))
      have hcx : (eEntry x).cnt = 2 := rfl
      have hq2 : q + 2 ≤ 1000000000000 := by have := HKT.out; have := HQ.out; omega
      have HQ2 : Hid (k + cnts ((l.map eEntry).take (i + 1)) = q + 2) := by show _ = _; have := HQ.out; omega
      clear hcx hcn hcl hsx hd hx hc hus
      go_wp2
      go_roundw
      case rel => exact ⟨i + 1, q + 2, by omega, hq2, by go_num, by go_num, HQ2.out, HBL.out⟩
      case measure => simp [intOf]; omega
    · obtain rfl : i = n := by omega
      go_wp2
      go_ret
      exact held_end HN.out HQ.out HBL.out
theorem h_heldIntS (l : List Int) (v : Value) (k : Nat) (w : World) (h : Rd w ((eIntS l).markTop k) [v]) (hs : (eIntS l).sz ≤ 1000000000) (hkt : k + (eIntS l).cntTop ≤ 1000000000000) :
    Calls Try.prog 32 #[v, .int .i64 k] w (HeldP (k + (eIntS l).cntTop) w) := by
  obtain ⟨bs, h⟩ := h
  have hb := sz_len hs
  obtain ⟨A, n, cap, rfl, hn, hA⟩ := read_marks (E := eI) (e := 1) h (fun _ => rfl)
  have hn' : n ≤ 1000000000 := by omega
  have hk : k ≤ 1000000000000 := by omega
  have HKT : Hid (k + cnts (l.map eI) ≤ 1000000000000) := by show _ ≤ _; unfold eIntS rowD at hkt; rw [row_cntTop] at hkt; exact hkt
  have HA := Lib.hid hA
  have HN := Lib.hid hn
  have HS := Lib.hid hs
  clear h hb hA hn hs hkt
  go_enter Try.func32, Try.ntmps32
  go_wp2
  go_loopw [1, 5] (fun kk c wr => ∃ (i q : Nat), i ≤ n ∧ q ≤ 1000000000000 ∧ c = .int .i64 i ∧ kk = .int .i64 q ∧ Hid (k + cnts ((l.map eI).take i) = q) ∧ Hid (Below w.heap.size w wr)) (fun _ c _ => n - (intOf c).toNat)
  case atStart => exact ⟨0, k, Nat.zero_le _, hk, rfl, rfl, by show _ = _; simp [cnts], Below.refl _ _⟩
  case round =>
    obtain ⟨i, q, hi, hq, rfl, rfl, HQ, HBL⟩ := hrel
    by_cases hlt : (i : Int) < n
    · have hi0 : (0 : Int) ≤ i := by omega
      have hil : i < (l.map eI).length := by rw [List.length_map, ← HN.out]; omega
      obtain ⟨g, o, x, us, b, rfl, hx, hus, hc, ho⟩ := HA.out i (by omega)
      have hd : (l.map eI)[i]? = some (eI x) := by rw [List.getElem?_map, hx]; rfl
      have hcn := cnts_take _ _ hil
      rw [getElem_of_at hd] at hcn
      have hcl := cnts_take_le (l.map eI) (i + 1)
      have hsx := sz_elem HS.out hx
      rw [HQ.out] at ho
      simp only [Nat.mul_one] at hc
      obtain ⟨_, rfl, rfl, _⟩ := ho
      have hc0 : wr.cell? ⟨g, o + i, none⟩ = some (.int .i64 ((q : Int))) := cell_below HBL.out (hc 0 (by omega))
      have hcx : (eI x).cnt = 1 := rfl
      have hq2 : q + 1 ≤ 1000000000000 := by have := HKT.out; have := HQ.out; omega
      have HQ2 : Hid (k + cnts ((l.map eI).take (i + 1)) = q + 1) := by show _ = _; have := HQ.out; omega
      clear hcx hcn hcl hsx hd hx hc hus
      go_wp2
      go_roundw
      case rel => exact ⟨i + 1, q + 1, by omega, hq2, by go_num, by go_num, HQ2.out, HBL.out⟩
      case measure => simp [intOf]; omega
    · obtain rfl : i = n := by omega
      go_wp2
      go_ret
      exact held_end HN.out HQ.out HBL.out
theorem h_heldTable (x : GTable) (c0 : Value) (k : Nat) (w : World) (h : Rd w ((eTable x).markTop k) [c0]) (hs : (eTable x).sz ≤ 1000000000) (hkt : k + (eTable x).cntTop ≤ 1000000000000) :
    Calls Try.prog 21 #[.agg #[c0], .int .i64 k] w (HeldP (k + (eTable x).cntTop) w) := by
  have hk : k ≤ 1000000000000 := by omega
  have h : Rd w (D.markTop (eEntryS x.Entries) k) [c0] := h
  have h0 := h
  rw [sz_Table] at hs
  rw [cntTop_Table] at hkt
  obtain ⟨B, hB⟩ : ∃ B, w.heap.size = B := ⟨_, rfl⟩
  have hbox : (w.alloc (.cells #[c0] 28)).heap[B]? = some (.cells #[c0] 28 (0, 0)) := by rw [← hB]; exact heap_alloc_new w _
  have hb0 : Below w.heap.size w (w.alloc (.cells #[c0] 28)) := (Below.refl _ _).alloc (Nat.le_refl _) _
  obtain ⟨w0, hw0⟩ : ∃ w0, w.alloc (.cells #[c0] 28) = w0 := ⟨_, rfl⟩
  rw [hw0] at hbox hb0
  have H0 : Hid (Rd w ((eEntryS x.Entries).markTop (k)) [c0]) := h0
  have HBX := Lib.hid hbox
  have HBL := Lib.hid hb0
  have HW := Lib.hid hw0
  have HKE : Hid (k + (eTable x).cntTop = k + ((eEntryS x.Entries).cntTop)) := by show _ = _; rw [cntTop_Table]
  clear hbox hb0 hw0 h0
  rw [HKE.out]
  go_enter Try.func21, Try.ntmps21
  go_wp2_with fail
  rw [HW.out]
  clear HW
  have hsz0 : (eEntryS x.Entries).sz ≤ 1000000000 := by omega
  have hkk0 : k + (eEntryS x.Entries).cntTop ≤ 1000000000000 := by omega
  refine (h_heldEntryS x.Entries c0 k w0 (H0.out.below HBL.out) hsz0 hkk0).mono ?_
  rintro e w1 ⟨rfl, hb0⟩
  obtain ⟨k0, hk0⟩ : ∃ q : Nat, k + (eEntryS x.Entries).cntTop = q := ⟨_, rfl⟩
  have HK0 := Lib.hid hk0
  have hkb0 : k0 ≤ 1000000000000 := by omega
  have hkt0 : k0 + (0) ≤ 1000000000000 := by omega
  rw [hk0]
  have HBX' := Lib.hid ((hb0.block B (lt_of_block HBX.out)).trans HBX.out)
  have HBL' := Lib.hid (below_step HBL.out hb0)
  clear HBX HBL
  have HBX := HBX'
  have HBL := HBL'
  clear HBX' HBL' hb0 hk0 hsz0 hkk0
  go_wp2
  go_ret
  refine ⟨?_, HBL.out⟩
  have e0 := HK0.out
  refine ret_nat ?_
  omega
end Tr
end Go.Proofs.Ytbfdopnbclkfcaa

/- The laws' marks. -/
import Derived.Test.YtbfdopnbclkfcaaEnc
import Derived.WalkKit
import Derived.ProofKit
import Derived.BigQuiet
import Derived.Deep.QuietTactic
import Derived.Deep.RegionHeld3
import Derived.Lib.Hide
namespace Go.Proofs.Ytbfdopnbclkfcaa
open Go.RowKit
namespace Tr
theorem h_markEntryS (l : List GEntry) (A : Option Addr) (n cap : Nat) (bs : List Nat) (k : Nat) (w : World) (h : Own w (eEntryS l) [.slice A n cap] bs) (hnd : bs.Nodup) (hs : (eEntryS l).sz ≤ 1000000000) (hkt : k + (eEntryS l).cntTop ≤ 1000000000000) :
    Calls Try.prog 42 #[.slice A n cap, .int .i64 k] w (MarkP (eEntryS l) [.slice A n cap] bs k w) := by
  obtain ⟨hn, hn'⟩ := row_n h hs
  have hk : k ≤ 1000000000000 := by omega
  clear hkt
  have H0 : Hid (Own w (rowC 33 2 (upTo (l.map eEntry) k 0)) [.slice A n cap] bs) := by show Own _ _ _ _; rw [upTo_zero]; exact h
  have HN := Lib.hid hn
  have HD := Lib.hid hnd
  clear h hs hn hnd
  go_enter Try.func42, Try.ntmps42
  go_wp2
  go_loopw [1, 5] (fun kk c wr => ∃ (i q : Nat), i ≤ n ∧ q ≤ k + i * 2 ∧ c = .int .i64 i ∧ kk = .int .i64 q ∧ Hid (k + cnts ((l.map eEntry).take i) = q) ∧ Hid (Own wr (rowC 33 2 (upTo (l.map eEntry) k i)) [.slice A n cap] bs) ∧ Hid (Turn bs w wr)) (fun _ c _ => n - (intOf c).toNat)
  case atStart => exact ⟨0, k, Nat.zero_le _, by omega, rfl, rfl, by show _ = _; simp [cnts], H0.out, Turn.refl _ _⟩
  case round =>
    clear H0
    obtain ⟨i, q, hi, hq, rfl, rfl, HQ, HO, HT⟩ := hrel
    by_cases hlt : (i : Int) < n
    · have hi0 : (0 : Int) ≤ i := by omega
      have hil : i < (l.map eEntry).length := by rw [List.length_map, ← HN.out]; omega
      obtain ⟨g, o, cur, d, us, b, rfl, hgb, hg, hm, hd, ho, _, _, hset⟩ := up_turn HO.out HD.out (len_map (E := eEntry) (k := 2) (fun _ => rfl)) hil
      obtain ⟨x, hx, rfl⟩ := at_map hd
      have hcn : k + cnts ((l.map eEntry).take (i + 1)) = q + 2 := by rw [cnts_take _ _ hil, ← HQ.out, getElem_of_at hd]; rfl
      rw [HQ.out] at hset
      obtain ⟨_, rfl, _, rfl, rfl, rfl⟩ := ho
      have hc0 : wr.cell? ⟨g, o + i * 2, none⟩ = some (.int .i64 x.Mode) := (Mid.cell (m := o + i * 2) (k := 2) hm hg 0 (by omega))
      have hf0 := free_of_block hg (o + i * 2)
      have hg1 := block_set hg (o + i * 2) (.int .i64 ((q : Int)))
      have hm1 := hm.set 0 (by omega) (.int .i64 ((q : Int)))
      have hc1 : (wr.setCell ⟨g, o + i * 2, none⟩ (.int .i64 ((q : Int)))).cell? ⟨g, o + i * 2 + 1, none⟩ = some (.int .i64 x.Frame) := (Mid.cell (m := o + i * 2) (k := 2) hm1 hg1 1 (by omega))
      have hf1 := free_of_block hg1 (o + i * 2 + 1)
      have hg2 := block_set hg1 (o + i * 2 + 1) (.int .i64 ((q : Int) + 1))
      have hm2 := hm1.set 1 (by omega) (.int .i64 ((q : Int) + 1))
      have HO2 : Hid (Own ((wr.setCell ⟨g, o + i * 2, none⟩ (.int .i64 ((q : Int)))).setCell ⟨g, o + i * 2 + 1, none⟩ (.int .i64 ((q : Int) + 1))) (rowC 33 2 (upTo (l.map eEntry) k (i + 1))) [.slice (some ⟨g, o, none⟩) n cap] bs) := hset _ _ _ hg2 hm2 (fun y _ hy _ => (Below.heap_setCell _ _ _ _ hy).trans (Below.heap_setCell _ _ _ _ hy)) (by
        show Own _ (D.lit (mk (.int .i64 x.Mode) (q)) (D.lit (mk (.int .i64 x.Frame) (q + 1)) .nil)) _ _
        exact ⟨_, rfl, _, rfl, rfl, rfl⟩)
      have HT2 : Hid (Turn bs w ((wr.setCell ⟨g, o + i * 2, none⟩ (.int .i64 ((q : Int)))).setCell ⟨g, o + i * 2 + 1, none⟩ (.int .i64 ((q : Int) + 1)))) := ((HT.out.setCell (p := ⟨g, o + i * 2, none⟩) hgb (.int .i64 ((q : Int)))).setCell (p := ⟨g, o + i * 2 + 1, none⟩) hgb (.int .i64 ((q : Int) + 1)))
      have HQ2 := Lib.hid hcn
      clear hset hm hm1 hm2 hcn hg hg1 hg2 hd hx
      go_wp2
      go_roundw
      case rel => exact ⟨i + 1, q + 2, by omega, by omega, by go_num, by go_num, HQ2.out, HO2.out, HT2.out⟩
      case measure => simp [intOf]; omega
    · obtain rfl : i = n := by omega
      go_wp2
      go_ret
      exact mark_end HN.out (by rw [HN.out, ← List.length_map (f := eEntry), List.take_length] at HQ; exact HQ.out) HO.out HT.out
theorem h_markIntS (l : List Int) (A : Option Addr) (n cap : Nat) (bs : List Nat) (k : Nat) (w : World) (h : Own w (eIntS l) [.slice A n cap] bs) (hnd : bs.Nodup) (hs : (eIntS l).sz ≤ 1000000000) (hkt : k + (eIntS l).cntTop ≤ 1000000000000) :
    Calls Try.prog 31 #[.slice A n cap, .int .i64 k] w (MarkP (eIntS l) [.slice A n cap] bs k w) := by
  obtain ⟨hn, hn'⟩ := row_n h hs
  have hk : k ≤ 1000000000000 := by omega
  clear hkt
  have H0 : Hid (Own w (rowC 3 1 (upTo (l.map eI) k 0)) [.slice A n cap] bs) := by show Own _ _ _ _; rw [upTo_zero]; exact h
  have HN := Lib.hid hn
  have HD := Lib.hid hnd
  clear h hs hn hnd
  go_enter Try.func31, Try.ntmps31
  go_wp2
  go_loopw [1, 5] (fun kk c wr => ∃ (i q : Nat), i ≤ n ∧ q ≤ k + i * 1 ∧ c = .int .i64 i ∧ kk = .int .i64 q ∧ Hid (k + cnts ((l.map eI).take i) = q) ∧ Hid (Own wr (rowC 3 1 (upTo (l.map eI) k i)) [.slice A n cap] bs) ∧ Hid (Turn bs w wr)) (fun _ c _ => n - (intOf c).toNat)
  case atStart => exact ⟨0, k, Nat.zero_le _, by omega, rfl, rfl, by show _ = _; simp [cnts], H0.out, Turn.refl _ _⟩
  case round =>
    clear H0
    obtain ⟨i, q, hi, hq, rfl, rfl, HQ, HO, HT⟩ := hrel
    by_cases hlt : (i : Int) < n
    · have hi0 : (0 : Int) ≤ i := by omega
      have hil : i < (l.map eI).length := by rw [List.length_map, ← HN.out]; omega
      obtain ⟨g, o, cur, d, us, b, rfl, hgb, hg, hm, hd, ho, _, _, hset⟩ := up_turn HO.out HD.out (len_map (E := eI) (k := 1) (fun _ => rfl)) hil
      obtain ⟨x, hx, rfl⟩ := at_map hd
      have hcn : k + cnts ((l.map eI).take (i + 1)) = q + 1 := by rw [cnts_take _ _ hil, ← HQ.out, getElem_of_at hd]; rfl
      rw [HQ.out] at hset
      simp only [Nat.mul_one] at hset hm
      obtain ⟨_, rfl, rfl, rfl⟩ := ho
      have hc0 : wr.cell? ⟨g, o + i, none⟩ = some (.int .i64 x) := (Mid.cell (m := o + i) (k := 1) hm hg 0 (by omega))
      have hf0 := free_of_block hg (o + i)
      have hg1 := block_set hg (o + i) (.int .i64 ((q : Int)))
      have hm1 := hm.set 0 (by omega) (.int .i64 ((q : Int)))
      have HO2 : Hid (Own (wr.setCell ⟨g, o + i, none⟩ (.int .i64 ((q : Int)))) (rowC 3 1 (upTo (l.map eI) k (i + 1))) [.slice (some ⟨g, o, none⟩) n cap] bs) := hset _ _ _ hg1 hm1 (fun y _ hy _ => Below.heap_setCell _ _ _ _ hy) (by
        show Own _ (D.lit (mk (.int .i64 x) (q)) .nil) _ _
        exact ⟨_, rfl, rfl, rfl⟩)
      have HT2 : Hid (Turn bs w (wr.setCell ⟨g, o + i, none⟩ (.int .i64 ((q : Int))))) := (HT.out.setCell (p := ⟨g, o + i, none⟩) hgb (.int .i64 ((q : Int))))
      have HQ2 := Lib.hid hcn
      clear hset hm hm1 hcn hg hg1 hd hx
      go_wp2
      go_roundw
      case rel => exact ⟨i + 1, q + 1, by omega, by omega, by go_num, by go_num, HQ2.out, HO2.out, HT2.out⟩
      case measure => simp [intOf]; omega
    · obtain rfl : i = n := by omega
      go_wp2
      go_ret
      exact mark_end HN.out (by rw [HN.out, ← List.length_map (f := eI), List.take_length] at HQ; exact HQ.out) HO.out HT.out
theorem h_markTable (x : GTable) (c0 : Value) (bs : List Nat) (k : Nat) (w : World) (h : Own w (eTable x) [c0] bs) (hnd : bs.Nodup) (hs : (eTable x).sz ≤ 1000000000) (hkt : k + (eTable x).cntTop ≤ 1000000000000) :
    Calls Try.prog 20 #[.agg #[c0], .int .i64 k] w (MarkP (eTable x) [c0] bs k w) := by
  have hk : k ≤ 1000000000000 := by omega
  obtain ⟨_, rfl, o0⟩ := parts_Table h
  have hlt := own_lt _ h
  rw [sz_Table] at hs
  rw [cntTop_Table] at hkt
  have n0 := hnd
  obtain ⟨A0, m0, p0, rfl⟩ := own_slice o0
  obtain ⟨B, hB⟩ : ∃ B, w.heap.size = B := ⟨_, rfl⟩
  have hbox : (w.alloc (.cells #[.slice A0 m0 p0] 28)).heap[B]? = some (.cells #[.slice A0 m0 p0] 28 (0, 0)) := by rw [← hB]; exact heap_alloc_new w _
  have hlB : ∀ y ∈ bs, y < B := by rw [← hB]; exact hlt
  have ht0 : Turn (bs) w (w.alloc (.cells #[.slice A0 m0 p0] 28)) := (Turn.refl _ _).alloc _
  have o0 := own_alloc o0 (.cells #[.slice A0 m0 p0] 28)
  obtain ⟨w0, hw0⟩ : ∃ w0, w.alloc (.cells #[.slice A0 m0 p0] 28) = w0 := ⟨_, rfl⟩
  rw [hw0] at hbox ht0 o0
  have O0 := Lib.hid o0
  have N0 := Lib.hid n0
  have HT := Lib.hid ht0
  have HBX := Lib.hid hbox
  have HLB := Lib.hid hlB
  have HW := Lib.hid hw0
  have HKE : Hid (k + (eTable x).cntTop = k + ((eEntryS x.Entries).cntTop)) := by show _ = _; rw [cntTop_Table]
  clear hnd
  clear h hlt ht0 hbox hlB hw0 o0 n0
  go_enter Try.func20, Try.ntmps20
  go_wp2_with fail
  rw [HW.out]
  clear HW
  have hsz0 : (eEntryS x.Entries).sz ≤ 1000000000 := by omega
  have hkk0 : k + (eEntryS x.Entries).cntTop ≤ 1000000000000 := by omega
  refine (h_markEntryS x.Entries A0 m0 p0 bs k w0 O0.out N0.out hsz0 hkk0).mono ?_
  rintro e w1 ⟨rfl, ho0, ht0⟩
  obtain ⟨k0, hk0⟩ : ∃ q : Nat, k + (eEntryS x.Entries).cntTop = q := ⟨_, rfl⟩
  rw [hk0]
  have HK0 := Lib.hid hk0
  have hkb0 : k0 ≤ 1000000000000 := by omega
  have HO0 := Lib.hid ho0
  have HBX0 := Lib.hid ((ht0.block B (lt_of_block HBX.out) (fun hh => by have := HLB.out B (by simp [hh]); omega)).trans HBX.out)
  have HT' := Lib.hid (HT.out.trans (ht0.mono (fun y hy => by simp [hy])))
  clear HT
  have HT := HT'
  clear HT' HBX
  have HBX := HBX0
  clear HBX0 ht0 ho0 hk0 hsz0 hkk0
  have hkt0 : k0 + (0) ≤ 1000000000000 := by have := HK0.out; omega
  go_wp2
  go_ret
  refine ⟨?_, ?_, HT.out⟩
  · rw [HKE.out]
    have e0 := HK0.out
    refine ret_nat ?_
    omega
  · show Own _ (D.markTop (eEntryS x.Entries) k) _ _
    exact (by have := HO0.out;  exact this)
end Tr
end Go.Proofs.Ytbfdopnbclkfcaa

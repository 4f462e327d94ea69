/- The laws' marks. -/
import Derived.Test.YthkjbjgpdapnpaaEnc
import Derived.WalkKit
import Derived.ProofKit
import Derived.BigQuiet
import Derived.Deep.QuietTactic
import Derived.Deep.RegionHeld3
import Derived.Lib.Hide
namespace Go.Proofs.Ythkjbjgpdapnpaa
open Go.RowKit
namespace Tr
theorem h_markIntS (l : List Int) (A : Option Addr) (n cap : Nat) (bs : List Nat) (k : Nat) (w : World) (h : Own w (eIntS l) [.slice A n cap] bs) (hnd : bs.Nodup) (hs : (eIntS l).sz ≤ 1000000000) (hkt : k + (eIntS l).cntTop ≤ 1000000000000) :
    Calls Try.prog 15 #[.slice A n cap, .int .i64 k] w (MarkP (eIntS l) [.slice A n cap] bs k w) := by
  obtain ⟨hn, hn'⟩ := row_n h hs
  have hk : k ≤ 1000000000000 := by omega
  clear hkt
  have H0 : Hid (Own w (rowC 3 1 (upTo (l.map eI) k 0)) [.slice A n cap] bs) := by show Own _ _ _ _; rw [upTo_zero]; exact h
  have HN := Lib.hid hn
  have HD := Lib.hid hnd
  clear h hs hn hnd
  go_enter Try.func15, Try.ntmps15
  go_wp2
  go_loopw [1, 5] (fun kk c wr => ∃ (i q : Nat), i ≤ n ∧ q ≤ k + i * 1 ∧ c = .int .i64 i ∧ kk = .int .i64 q ∧ Hid (k + cnts ((l.map eI).take i) = q) ∧ Hid (Own wr (rowC 3 1 (upTo (l.map eI) k i)) [.slice A n cap] bs) ∧ Hid (Turn bs w wr)) (fun _ c _ => n - (intOf c).toNat)
  case atStart => exact ⟨0, k, Nat.zero_le _, by omega, rfl, rfl, by show _ = _; simp [cnts], H0.out, Turn.refl _ _⟩
  case round =>
    clear H0
    obtain ⟨i, q, hi, hq, rfl, rfl, HQ, HO, HT⟩ := hrel
    by_cases hlt : (i : Int) < n
    · have hi0 : (0 : Int) ≤ i := by omega
      have hil : i < (l.map eI).length := by rw [List.length_map, ← HN.out]; omega
      obtain ⟨g, o, cur, d, us, b, rfl, hgb, hg, hm, hd, ho, _, _, hset⟩ := up_turn HO.out HD.out (len_map (E := eI) (k := 1) (fun _ => rfl)) hil
      obtain ⟨x, hx, rfl⟩ := at_map hd
      have hcn : k + cnts ((l.map eI).take (i + 1)) = q + 1 := by rw [cnts_take _ _ hil, ← HQ.out, getElem_of_at hd]; rfl
      rw [HQ.out] at hset
      simp only [Nat.mul_one] at hset hm
      obtain ⟨_, rfl, rfl, rfl⟩ := ho
      have hc0 : wr.cell? ⟨g, o + i, none⟩ = some (.int .i64 x) := (Mid.cell (m := o + i) (k := 1) hm hg 0 (by omega))
      have hf0 := free_of_block hg (o + i)
      have hg1 := block_set hg (o + i) (.int .i64 ((q : Int)))
      have hm1 := hm.set 0 (by omega) (.int .i64 ((q : Int)))
      have HO2 : Hid (Own (wr.setCell ⟨g, o + i, none⟩ (.int .i64 ((q : Int)))) (rowC 3 1 (upTo (l.map eI) k (i + 1))) [.slice (some ⟨g, o, none⟩) n cap] bs) := hset _ _ _ hg1 hm1 (fun y _ hy _ => Below.heap_setCell _ _ _ _ hy) (by
        show Own _ (D.lit (mk (.int .i64 x) (q)) .nil) _ _
        exact ⟨_, rfl, rfl, rfl⟩)
      have HT2 : Hid (Turn bs w (wr.setCell ⟨g, o + i, none⟩ (.int .i64 ((q : Int))))) := (HT.out.setCell (p := ⟨g, o + i, none⟩) hgb (.int .i64 ((q : Int))))
      have HQ2 := Lib.hid hcn
      clear hset hm hm1 hcn hg hg1 hd hx
      go_wp2
      go_roundw
      case rel => exact ⟨i + 1, q + 1, by omega, by omega, by go_num, by go_num, HQ2.out, HO2.out, HT2.out⟩
      case measure => simp [intOf]; omega
    · obtain rfl : i = n := by omega
      go_wp2
      go_ret
      exact mark_end HN.out (by rw [HN.out, ← List.length_map (f := eI), List.take_length] at HQ; exact HQ.out) HO.out HT.out
theorem h_markPlan (x : GPlan) (c0 : Value) (bs : List Nat) (k : Nat) (w : World) (h : Own w (ePlan x) [.int .i64 x.Keep, .int .i64 x.Move, c0] bs) (hnd : bs.Nodup) (hs : (ePlan x).sz ≤ 1000000000) (hkt : k + (ePlan x).cntTop ≤ 1000000000000) :
    Calls Try.prog 16 #[.agg #[.int .i64 x.Keep, .int .i64 x.Move, c0], .int .i64 k] w (MarkP (ePlan x) [.int .i64 x.Keep, .int .i64 x.Move, c0] bs k w) := by
  have hk : k ≤ 1000000000000 := by omega
  obtain ⟨_, rfl, o2⟩ := parts_Plan h
  have hlt := own_lt _ h
  rw [sz_Plan] at hs
  rw [cntTop_Plan] at hkt
  have n2 := hnd
  obtain ⟨A2, m2, p2, rfl⟩ := own_slice o2
  obtain ⟨B, hB⟩ : ∃ B, w.heap.size = B := ⟨_, rfl⟩
  have hbox : (w.alloc (.cells #[.int .i64 x.Keep, .int .i64 x.Move, .slice A2 m2 p2] 27)).heap[B]? = some (.cells #[.int .i64 x.Keep, .int .i64 x.Move, .slice A2 m2 p2] 27 (0, 0)) := by rw [← hB]; exact heap_alloc_new w _
  have hlB : ∀ y ∈ bs, y < B := by rw [← hB]; exact hlt
  have ht0 : Turn (bs) w (w.alloc (.cells #[.int .i64 x.Keep, .int .i64 x.Move, .slice A2 m2 p2] 27)) := (Turn.refl _ _).alloc _
  have o2 := own_alloc o2 (.cells #[.int .i64 x.Keep, .int .i64 x.Move, .slice A2 m2 p2] 27)
  obtain ⟨w0, hw0⟩ : ∃ w0, w.alloc (.cells #[.int .i64 x.Keep, .int .i64 x.Move, .slice A2 m2 p2] 27) = w0 := ⟨_, rfl⟩
  rw [hw0] at hbox ht0 o2
  have O2 := Lib.hid o2
  have N2 := Lib.hid n2
  have HT := Lib.hid ht0
  have HBX := Lib.hid hbox
  have HLB := Lib.hid hlB
  have HW := Lib.hid hw0
  have HKE : Hid (k + (ePlan x).cntTop = k + ((eI x.Keep).cntTop + ((eI x.Move).cntTop + ((eIntS x.Cells).cntTop)))) := by show _ = _; rw [cntTop_Plan]
  clear hnd
  clear h hlt ht0 hbox hlB hw0 o2 n2
  go_enter Try.func16, Try.ntmps16
  go_wp2_with fail
  rw [HW.out]
  clear HW
  have hsz2 : (eIntS x.Cells).sz ≤ 1000000000 := by omega
  have hkk2 : k + (eIntS x.Cells).cntTop ≤ 1000000000000 := by omega
  refine (h_markIntS x.Cells A2 m2 p2 bs k w0 O2.out N2.out hsz2 hkk2).mono ?_
  rintro e w1 ⟨rfl, ho2, ht2⟩
  obtain ⟨k2, hk2⟩ : ∃ q : Nat, k + (eIntS x.Cells).cntTop = q := ⟨_, rfl⟩
  rw [hk2]
  have HK2 := Lib.hid hk2
  have hkb2 : k2 ≤ 1000000000000 := by omega
  have HO2 := Lib.hid ho2
  have HBX2 := Lib.hid ((ht2.block B (lt_of_block HBX.out) (fun hh => by have := HLB.out B (by simp [hh]); omega)).trans HBX.out)
  have HT' := Lib.hid (HT.out.trans (ht2.mono (fun y hy => by simp [hy])))
  clear HT
  have HT := HT'
  clear HT' HBX
  have HBX := HBX2
  clear HBX2 ht2 ho2 hk2 hsz2 hkk2
  have hkt2 : k2 + (0) ≤ 1000000000000 := by have := HK2.out; omega
  go_wp2
  go_ret
  refine ⟨?_, ?_, HT.out⟩
  · rw [HKE.out]
    have e2 := HK2.out
    have z0 : (eI x.Keep).cntTop = 0 := rfl
    have z1 : (eI x.Move).cntTop = 0 := rfl
    refine ret_nat ?_
    omega
  · show Own _ (D.markTop ((eI x.Keep).app ((eI x.Move).app (eIntS x.Cells))) k) _ _
    rw [markTop_app, markTop_app]
    exact (own_app _ _).2 ⟨[.int .i64 x.Keep], [.int .i64 x.Move, .slice A2 m2 p2], [], bs, rfl, by simp, ⟨_, rfl, rfl, rfl⟩, (own_app _ _).2 ⟨[.int .i64 x.Move], [.slice A2 m2 p2], [], bs, rfl, by simp, ⟨_, rfl, rfl, rfl⟩, (by have := HO2.out;  exact this)⟩⟩
end Tr
end Go.Proofs.Ythkjbjgpdapnpaa

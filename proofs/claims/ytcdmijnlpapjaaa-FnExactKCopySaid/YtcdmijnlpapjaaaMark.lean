/- The laws' marks. -/
import Derived.Test.YtcdmijnlpapjaaaEnc
import Derived.WalkKit
import Derived.ProofKit
import Derived.BigQuiet
import Derived.Deep.QuietTactic
import Derived.Deep.RegionHeld3
import Derived.Lib.Hide
namespace Go.Proofs.Ytcdmijnlpapjaaa
open Go.RowKit
namespace Tr
theorem h_markBoolS (l : List Bool) (A : Option Addr) (n cap : Nat) (bs : List Nat) (k : Nat) (w : World) (h : Own w (eBoolS l) [.slice A n cap] bs) (hnd : bs.Nodup) (hs : (eBoolS l).sz ≤ 1000000000) (hkt : k + (eBoolS l).cntTop ≤ 1000000000000) :
    Calls Try.prog 130 #[.slice A n cap, .int .i64 k] w (MarkP (eBoolS l) [.slice A n cap] bs k w) := by
  obtain ⟨hn, hn'⟩ := row_n h hs
  have hk : k ≤ 1000000000000 := by omega
  clear hkt
  have H0 : Hid (Own w (rowC 4 1 (upTo (l.map eB) k 0)) [.slice A n cap] bs) := by show Own _ _ _ _; rw [upTo_zero]; exact h
  have HN := Lib.hid hn
  have HD := Lib.hid hnd
  clear h hs hn hnd
  go_enter Try.func130, Try.ntmps130
  go_wp2
  go_loopw [1, 5] (fun kk c wr => ∃ (i q : Nat), i ≤ n ∧ q ≤ k + i * 1 ∧ c = .int .i64 i ∧ kk = .int .i64 q ∧ Hid (k + cnts ((l.map eB).take i) = q) ∧ Hid (Own wr (rowC 4 1 (upTo (l.map eB) k i)) [.slice A n cap] bs) ∧ Hid (Turn bs w wr)) (fun _ c _ => n - (intOf c).toNat)
  case atStart => exact ⟨0, k, Nat.zero_le _, by omega, rfl, rfl, by show _ = _; simp [cnts], H0.out, Turn.refl _ _⟩
  case round =>
    clear H0
    obtain ⟨i, q, hi, hq, rfl, rfl, HQ, HO, HT⟩ := hrel
    by_cases hlt : (i : Int) < n
    · have hi0 : (0 : Int) ≤ i := by omega
      have hil : i < (l.map eB).length := by rw [List.length_map, ← HN.out]; omega
      obtain ⟨g, o, cur, d, us, b, rfl, hgb, hg, hm, hd, ho, _, _, hset⟩ := up_turn HO.out HD.out (len_map (E := eB) (k := 1) (fun _ => rfl)) hil
      obtain ⟨x, hx, rfl⟩ := at_map hd
      have hcn : k + cnts ((l.map eB).take (i + 1)) = q + 1 := by rw [cnts_take _ _ hil, ← HQ.out, getElem_of_at hd]; rfl
      rw [HQ.out] at hset
      simp only [Nat.mul_one] at hset hm
      obtain ⟨_, rfl, rfl, rfl⟩ := ho
      have hc0 : wr.cell? ⟨g, o + i, none⟩ = some (.bool x) := (Mid.cell (m := o + i) (k := 1) hm hg 0 (by omega))
      have hf0 := free_of_block hg (o + i)
      have hg1 := block_set hg (o + i) (.bool ((q : Int) % 3 == 0))
      have hm1 := hm.set 0 (by omega) (.bool ((q : Int) % 3 == 0))
      have HO2 : Hid (Own (wr.setCell ⟨g, o + i, none⟩ (.bool ((q : Int) % 3 == 0))) (rowC 4 1 (upTo (l.map eB) k (i + 1))) [.slice (some ⟨g, o, none⟩) n cap] bs) := hset _ _ _ hg1 hm1 (fun y _ hy _ => Below.heap_setCell _ _ _ _ hy) (by
        show Own _ (D.lit (mk (.bool x) (q)) .nil) _ _
        rw [mk_bool (z := (q : Int)) (q := q) (by omega)]; exact ⟨_, rfl, rfl, rfl⟩)
      have HT2 : Hid (Turn bs w (wr.setCell ⟨g, o + i, none⟩ (.bool ((q : Int) % 3 == 0)))) := (HT.out.setCell (p := ⟨g, o + i, none⟩) hgb (.bool ((q : Int) % 3 == 0)))
      have HQ2 := Lib.hid hcn
      clear hset hm hm1 hcn hg hg1 hd hx
      go_wp2
      go_roundw
      case rel => exact ⟨i + 1, q + 1, by omega, by omega, by go_num, by go_num, HQ2.out, HO2.out, HT2.out⟩
      case measure => simp [intOf]; omega
    · obtain rfl : i = n := by omega
      go_wp2
      go_ret
      exact mark_end HN.out (by rw [HN.out, ← List.length_map (f := eB), List.take_length] at HQ; exact HQ.out) HO.out HT.out
theorem h_markEntryS (l : List GEntry) (A : Option Addr) (n cap : Nat) (bs : List Nat) (k : Nat) (w : World) (h : Own w (eEntryS l) [.slice A n cap] bs) (hnd : bs.Nodup) (hs : (eEntryS l).sz ≤ 1000000000) (hkt : k + (eEntryS l).cntTop ≤ 1000000000000) :
    Calls Try.prog 131 #[.slice A n cap, .int .i64 k] w (MarkP (eEntryS l) [.slice A n cap] bs k w) := by
  obtain ⟨hn, hn'⟩ := row_n h hs
  have hk : k ≤ 1000000000000 := by omega
  clear hkt
  have H0 : Hid (Own w (rowC 78 2 (upTo (l.map eEntry) k 0)) [.slice A n cap] bs) := by show Own _ _ _ _; rw [upTo_zero]; exact h
  have HN := Lib.hid hn
  have HD := Lib.hid hnd
  clear h hs hn hnd
  go_enter Try.func131, Try.ntmps131
  go_wp2
  go_loopw [1, 5] (fun kk c wr => ∃ (i q : Nat), i ≤ n ∧ q ≤ k + i * 2 ∧ c = .int .i64 i ∧ kk = .int .i64 q ∧ Hid (k + cnts ((l.map eEntry).take i) = q) ∧ Hid (Own wr (rowC 78 2 (upTo (l.map eEntry) k i)) [.slice A n cap] bs) ∧ Hid (Turn bs w wr)) (fun _ c _ => n - (intOf c).toNat)
  case atStart => exact ⟨0, k, Nat.zero_le _, by omega, rfl, rfl, by show _ = _; simp [cnts], H0.out, Turn.refl _ _⟩
  case round =>
    clear H0
    obtain ⟨i, q, hi, hq, rfl, rfl, HQ, HO, HT⟩ := hrel
    by_cases hlt : (i : Int) < n
    · have hi0 : (0 : Int) ≤ i := by omega
      have hil : i < (l.map eEntry).length := by rw [List.length_map, ← HN.out]; omega
      obtain ⟨g, o, cur, d, us, b, rfl, hgb, hg, hm, hd, ho, _, _, hset⟩ := up_turn HO.out HD.out (len_map (E := eEntry) (k := 2) (fun _ => rfl)) hil
      obtain ⟨x, hx, rfl⟩ := at_map hd
      have hcn : k + cnts ((l.map eEntry).take (i + 1)) = q + 2 := by rw [cnts_take _ _ hil, ← HQ.out, getElem_of_at hd]; rfl
      rw [HQ.out] at hset
      obtain ⟨_, rfl, _, rfl, rfl, rfl⟩ := ho
      have hc0 : wr.cell? ⟨g, o + i * 2, none⟩ = some (.int .i64 x.Mode) := (Mid.cell (m := o + i * 2) (k := 2) hm hg 0 (by omega))
      have hf0 := free_of_block hg (o + i * 2)
      have hg1 := block_set hg (o + i * 2) (.int .i64 ((q : Int)))
      have hm1 := hm.set 0 (by omega) (.int .i64 ((q : Int)))
      have hc1 : (wr.setCell ⟨g, o + i * 2, none⟩ (.int .i64 ((q : Int)))).cell? ⟨g, o + i * 2 + 1, none⟩ = some (.int .i64 x.Frame) := (Mid.cell (m := o + i * 2) (k := 2) hm1 hg1 1 (by omega))
      have hf1 := free_of_block hg1 (o + i * 2 + 1)
      have hg2 := block_set hg1 (o + i * 2 + 1) (.int .i64 ((q : Int) + 1))
      have hm2 := hm1.set 1 (by omega) (.int .i64 ((q : Int) + 1))
      have HO2 : Hid (Own ((wr.setCell ⟨g, o + i * 2, none⟩ (.int .i64 ((q : Int)))).setCell ⟨g, o + i * 2 + 1, none⟩ (.int .i64 ((q : Int) + 1))) (rowC 78 2 (upTo (l.map eEntry) k (i + 1))) [.slice (some ⟨g, o, none⟩) n cap] bs) := hset _ _ _ hg2 hm2 (fun y _ hy _ => (Below.heap_setCell _ _ _ _ hy).trans (Below.heap_setCell _ _ _ _ hy)) (by
        show Own _ (D.lit (mk (.int .i64 x.Mode) (q)) (D.lit (mk (.int .i64 x.Frame) (q + 1)) .nil)) _ _
        exact ⟨_, rfl, _, rfl, rfl, rfl⟩)
      have HT2 : Hid (Turn bs w ((wr.setCell ⟨g, o + i * 2, none⟩ (.int .i64 ((q : Int)))).setCell ⟨g, o + i * 2 + 1, none⟩ (.int .i64 ((q : Int) + 1)))) := ((HT.out.setCell (p := ⟨g, o + i * 2, none⟩) hgb (.int .i64 ((q : Int)))).setCell (p := ⟨g, o + i * 2 + 1, none⟩) hgb (.int .i64 ((q : Int) + 1)))
      have HQ2 := Lib.hid hcn
      clear hset hm hm1 hm2 hcn hg hg1 hg2 hd hx
      go_wp2
      go_roundw
      case rel => exact ⟨i + 1, q + 2, by omega, by omega, by go_num, by go_num, HQ2.out, HO2.out, HT2.out⟩
      case measure => simp [intOf]; omega
    · obtain rfl : i = n := by omega
      go_wp2
      go_ret
      exact mark_end HN.out (by rw [HN.out, ← List.length_map (f := eEntry), List.take_length] at HQ; exact HQ.out) HO.out HT.out
theorem h_markIntS (l : List Int) (A : Option Addr) (n cap : Nat) (bs : List Nat) (k : Nat) (w : World) (h : Own w (eIntS l) [.slice A n cap] bs) (hnd : bs.Nodup) (hs : (eIntS l).sz ≤ 1000000000) (hkt : k + (eIntS l).cntTop ≤ 1000000000000) :
    Calls Try.prog 30 #[.slice A n cap, .int .i64 k] w (MarkP (eIntS l) [.slice A n cap] bs k w) := by
  obtain ⟨hn, hn'⟩ := row_n h hs
  have hk : k ≤ 1000000000000 := by omega
  clear hkt
  have H0 : Hid (Own w (rowC 3 1 (upTo (l.map eI) k 0)) [.slice A n cap] bs) := by show Own _ _ _ _; rw [upTo_zero]; exact h
  have HN := Lib.hid hn
  have HD := Lib.hid hnd
  clear h hs hn hnd
  go_enter Try.func30, Try.ntmps30
  go_wp2
  go_loopw [1, 5] (fun kk c wr => ∃ (i q : Nat), i ≤ n ∧ q ≤ k + i * 1 ∧ c = .int .i64 i ∧ kk = .int .i64 q ∧ Hid (k + cnts ((l.map eI).take i) = q) ∧ Hid (Own wr (rowC 3 1 (upTo (l.map eI) k i)) [.slice A n cap] bs) ∧ Hid (Turn bs w wr)) (fun _ c _ => n - (intOf c).toNat)
  case atStart => exact ⟨0, k, Nat.zero_le _, by omega, rfl, rfl, by show _ = _; simp [cnts], H0.out, Turn.refl _ _⟩
  case round =>
    clear H0
    obtain ⟨i, q, hi, hq, rfl, rfl, HQ, HO, HT⟩ := hrel
    by_cases hlt : (i : Int) < n
    · have hi0 : (0 : Int) ≤ i := by omega
      have hil : i < (l.map eI).length := by rw [List.length_map, ← HN.out]; omega
      obtain ⟨g, o, cur, d, us, b, rfl, hgb, hg, hm, hd, ho, _, _, hset⟩ := up_turn HO.out HD.out (len_map (E := eI) (k := 1) (fun _ => rfl)) hil
      obtain ⟨x, hx, rfl⟩ := at_map hd
      have hcn : k + cnts ((l.map eI).take (i + 1)) = q + 1 := by rw [cnts_take _ _ hil, ← HQ.out, getElem_of_at hd]; rfl
      rw [HQ.out] at hset
      simp only [Nat.mul_one] at hset hm
      obtain ⟨_, rfl, rfl, rfl⟩ := ho
      have hc0 : wr.cell? ⟨g, o + i, none⟩ = some (.int .i64 x) := (Mid.cell (m := o + i) (k := 1) hm hg 0 (by omega))
      have hf0 := free_of_block hg (o + i)
      have hg1 := block_set hg (o + i) (.int .i64 ((q : Int)))
      have hm1 := hm.set 0 (by omega) (.int .i64 ((q : Int)))
      have HO2 : Hid (Own (wr.setCell ⟨g, o + i, none⟩ (.int .i64 ((q : Int)))) (rowC 3 1 (upTo (l.map eI) k (i + 1))) [.slice (some ⟨g, o, none⟩) n cap] bs) := hset _ _ _ hg1 hm1 (fun y _ hy _ => Below.heap_setCell _ _ _ _ hy) (by
        show Own _ (D.lit (mk (.int .i64 x) (q)) .nil) _ _
        exact ⟨_, rfl, rfl, rfl⟩)
      have HT2 : Hid (Turn bs w (wr.setCell ⟨g, o + i, none⟩ (.int .i64 ((q : Int))))) := (HT.out.setCell (p := ⟨g, o + i, none⟩) hgb (.int .i64 ((q : Int))))
      have HQ2 := Lib.hid hcn
      clear hset hm hm1 hcn hg hg1 hd hx
      go_wp2
      go_roundw
      case rel => exact ⟨i + 1, q + 1, by omega, by omega, by go_num, by go_num, HQ2.out, HO2.out, HT2.out⟩
      case measure => simp [intOf]; omega
    · obtain rfl : i = n := by omega
      go_wp2
      go_ret
      exact mark_end HN.out (by rw [HN.out, ← List.length_map (f := eI), List.take_length] at HQ; exact HQ.out) HO.out HT.out
theorem h_markIntSS (l : List (List Int)) (A : Option Addr) (n cap : Nat) (bs : List Nat) (k : Nat) (w : World) (h : Own w (eIntSS l) [.slice A n cap] bs) (hnd : bs.Nodup) (hs : (eIntSS l).sz ≤ 1000000000) (hkt : k + (eIntSS l).cntTop ≤ 1000000000000) :
    Calls Try.prog 129 #[.slice A n cap, .int .i64 k] w (MarkP (eIntSS l) [.slice A n cap] bs k w) := by
  obtain ⟨hn, hn'⟩ := row_n h hs
  have hk : k ≤ 1000000000000 := by omega
  have HKT : Hid (k + cnts (l.map eIntS) ≤ 1000000000000) := by show _ ≤ _; unfold eIntSS rowD at hkt; rw [row_cntTop] at hkt; exact hkt
  clear hkt
  have H0 : Hid (Own w (rowC 33 1 (upTo (l.map eIntS) k 0)) [.slice A n cap] bs) := by show Own _ _ _ _; rw [upTo_zero]; exact h
  have HN := Lib.hid hn
  have HD := Lib.hid hnd
  have HS := Lib.hid hs
  clear h hs hn hnd
  go_enter Try.func129, Try.ntmps129
  go_wp2
  go_loopw [1, 5] (fun kk c wr => ∃ (i q : Nat), i ≤ n ∧ q ≤ 1000000000000 ∧ c = .int .i64 i ∧ kk = .int .i64 q ∧ Hid (k + cnts ((l.map eIntS).take i) = q) ∧ Hid (Own wr (rowC 33 1 (upTo (l.map eIntS) k i)) [.slice A n cap] bs) ∧ Hid (Turn bs w wr)) (fun _ c _ => n - (intOf c).toNat)
  case atStart => exact ⟨0, k, Nat.zero_le _, hk, rfl, rfl, by show _ = _; simp [cnts], H0.out, Turn.refl _ _⟩
  case round =>
    clear H0
    obtain ⟨i, q, hi, hq, rfl, rfl, HQ, HO, HT⟩ := hrel
    by_cases hlt : (i : Int) < n
    · have hi0 : (0 : Int) ≤ i := by omega
      have hil : i < (l.map eIntS).length := by rw [List.length_map, ← HN.out]; omega
      obtain ⟨g, o, cur, d, us, b, rfl, hgb, hg, hm, hd, ho, hbb, hbn, hset⟩ := up_turn HO.out HD.out (len_map (E := eIntS) (k := 1) (fun _ => rfl)) hil
      obtain ⟨x, hx, rfl⟩ := at_map hd
      have hsx := sz_elem HS.out hx
      have hgbn : g ∉ b := fun hh => (hbb g hh).2 rfl
      have hcn := cnts_take _ _ hil
      rw [getElem_of_at hd] at hcn
      have hcl := cnts_take_le (l.map eIntS) (i + 1)
      rw [HQ.out] at hset
      simp only [Nat.mul_one] at hset hm
      obtain ⟨A1, n1, cap1, rfl⟩ := own_slice1 ho
      have hcx : (eIntS x).cnt = 0 + (eIntS x).cntTop := by first | rfl | exact Nat.add_comm _ _ | (show _ + 1 = _; exact Nat.add_comm _ _) | (show _ = 0 + _; rw [Nat.zero_add]; rfl)
      have hcs : wr.cell? ⟨g, o + i, none⟩ = some (.slice A1 n1 cap1) := (Mid.cell (m := o + i) (k := 1) hm hg 0 (by omega))
      have hos : Own wr (eIntS x) [.slice A1 n1 cap1] b := own_same _ ho (fun y hy => rfl)
      have hsy : (eIntS x).sz ≤ 1000000000 := hsx
      have hky : (q + 0) + (eIntS x).cntTop ≤ 1000000000000 := by have := HKT.out; have := HQ.out; omega
      have hqn : ∃ q2 : Nat, q2 ≤ 1000000000000 ∧ q + 0 + (eIntS x).cntTop = q2 := ⟨_, hky, rfl⟩
      obtain ⟨q2, hq2, he2⟩ := hqn
      have HC := Lib.hid (h_markIntS x A1 n1 cap1 b (q + 0) wr hos hbn hsy hky)
      have HQ2 : Hid (k + cnts ((l.map eIntS).take (i + 1)) = q2) := by show _ = _; have := HQ.out; omega
      have HE2 := Lib.hid he2
      have HSET := Lib.hid hset
      have HG := Lib.hid hg
      have HM := Lib.hid hm
      have HBB := Lib.hid hbb
      have HT2 : Hid (Turn bs w wr) := HT.out
      clear hset he2 hcx hcn hcl hky hsy hsx hos ho hd hx hm hg hbb
      go_wp2_with fail
      refine HC.out.mono ?_
      rintro e w' ⟨rfl, ho', ht'⟩
      rw [HE2.out]
      have hg' := (ht'.block g (lt_of_block HG.out) hgbn).trans HG.out
      have HO2 : Hid (Own w' (rowC 33 1 (upTo (l.map eIntS) k (i + 1))) [.slice (some ⟨g, o, none⟩) n cap] bs) := HSET.out w' _ _ hg' HM.out (fun y hy1 hy2 hy3 => (ht'.block y (turn_lt rfl HO.out hy1) hy3)) (by
        show Own _ ((eIntS x).mark (q + 0)) _ _
        exact ho')
      have HT3 : Hid (Turn bs w w') := HT2.out.trans (ht'.mono (fun y hy => (HBB.out y hy).1))
      clear ho' ht' hg'
      go_wp2
      go_roundw
      case rel => exact ⟨i + 1, q2, by omega, hq2, by go_num, by go_num, HQ2.out, HO2.out, HT3.out⟩
      case measure => simp [intOf]; omega
    · obtain rfl : i = n := by omega
      go_wp2
      go_ret
      exact mark_end HN.out (by rw [HN.out, ← List.length_map (f := eIntS), List.take_length] at HQ; exact HQ.out) HO.out HT.out
theorem h_markFrames (x : GFrames) (c0 c1 : Value) (bs : List Nat) (k : Nat) (w : World) (h : Own w (eFrames x) [c0, c1] bs) (hnd : bs.Nodup) (hs : (eFrames x).sz ≤ 1000000000) (hkt : k + (eFrames x).cntTop ≤ 1000000000000) :
    Calls Try.prog 108 #[.agg #[c0, c1], .int .i64 k] w (MarkP (eFrames x) [c0, c1] bs k w) := by
  have hk : k ≤ 1000000000000 := by omega
  obtain ⟨b0, b1, rfl, o0, o1⟩ := parts_Frames h
  have hlt := own_lt _ h
  rw [sz_Frames] at hs
  rw [cntTop_Frames] at hkt
  rw [List.nodup_append] at hnd
  obtain ⟨n0, nr0, d0⟩ := hnd
  have n1 := nr0
  obtain ⟨A0, m0, p0, rfl⟩ := own_slice o0
  obtain ⟨A1, m1, p1, rfl⟩ := own_slice o1
  obtain ⟨B, hB⟩ : ∃ B, w.heap.size = B := ⟨_, rfl⟩
  have hbox : (w.alloc (.cells #[.slice A0 m0 p0, .slice A1 m1 p1] 27)).heap[B]? = some (.cells #[.slice A0 m0 p0, .slice A1 m1 p1] 27 (0, 0)) := by rw [← hB]; exact heap_alloc_new w _
  have hlB : ∀ y ∈ b0 ++ (b1), y < B := by rw [← hB]; exact hlt
  have ht0 : Turn (b0 ++ (b1)) w (w.alloc (.cells #[.slice A0 m0 p0, .slice A1 m1 p1] 27)) := (Turn.refl _ _).alloc _
  have o0 := own_alloc o0 (.cells #[.slice A0 m0 p0, .slice A1 m1 p1] 27)
  have o1 := own_alloc o1 (.cells #[.slice A0 m0 p0, .slice A1 m1 p1] 27)
  obtain ⟨w0, hw0⟩ : ∃ w0, w.alloc (.cells #[.slice A0 m0 p0, .slice A1 m1 p1] 27) = w0 := ⟨_, rfl⟩
  rw [hw0] at hbox ht0 o0 o1
  have O0 := Lib.hid o0
  have N0 := Lib.hid n0
  have O1 := Lib.hid o1
  have N1 := Lib.hid n1
  have HT := Lib.hid ht0
  have HBX := Lib.hid hbox
  have HLB := Lib.hid hlB
  have HW := Lib.hid hw0
  have D0 := Lib.hid d0
  have HKE : Hid (k + (eFrames x).cntTop = k + ((eIntSS x.Cells).cntTop + ((eBoolS x.Used).cntTop))) := by show _ = _; rw [cntTop_Frames]
  clear h hlt ht0 hbox hlB hw0 o0 n0 o1 n1 d0
  go_enter Try.func108, Try.ntmps108
  go_wp2_with fail
  rw [HW.out]
  clear HW
  have hsz0 : (eIntSS x.Cells).sz ≤ 1000000000 := by omega
  have hkk0 : k + (eIntSS x.Cells).cntTop ≤ 1000000000000 := by omega
  refine (h_markIntSS x.Cells A0 m0 p0 b0 k w0 O0.out N0.out hsz0 hkk0).mono ?_
  rintro e w1 ⟨rfl, ho0, ht0⟩
  obtain ⟨k0, hk0⟩ : ∃ q : Nat, k + (eIntSS x.Cells).cntTop = q := ⟨_, rfl⟩
  rw [hk0]
  have HK0 := Lib.hid hk0
  have hkb0 : k0 ≤ 1000000000000 := by omega
  have HO0 := Lib.hid ho0
  have HBX0 := Lib.hid ((ht0.block B (lt_of_block HBX.out) (fun hh => by have := HLB.out B (by simp [hh]); omega)).trans HBX.out)
  have O1' := Lib.hid (own_turn O1.out ht0 (fun y hy hy2 => D0.out y hy2 y (by simp [hy]) rfl))
  clear O1
  have O1 := O1'
  clear O1'
  have HT' := Lib.hid (HT.out.trans (ht0.mono (fun y hy => by simp [hy])))
  clear HT
  have HT := HT'
  clear HT' HBX
  have HBX := HBX0
  clear HBX0 ht0 ho0 hk0 hsz0 hkk0
  have hkt0 : k0 + ((eBoolS x.Used).cntTop + 0) ≤ 1000000000000 := by have := HK0.out; omega
  have hc1 : w1.cell? ⟨B, 1, none⟩ = some (.slice A1 m1 p1) := cell_of_block HBX.out 1
  go_wp2_with fail
  have hsz1 : (eBoolS x.Used).sz ≤ 1000000000 := by omega
  have hkk1 : k0 + (eBoolS x.Used).cntTop ≤ 1000000000000 := by omega
  refine (h_markBoolS x.Used A1 m1 p1 b1 k0 w1 O1.out N1.out hsz1 hkk1).mono ?_
  rintro e w2 ⟨rfl, ho1, ht1⟩
  obtain ⟨k1, hk1⟩ : ∃ q : Nat, k0 + (eBoolS x.Used).cntTop = q := ⟨_, rfl⟩
  rw [hk1]
  have HK1 := Lib.hid hk1
  have hkb1 : k1 ≤ 1000000000000 := by omega
  have HO1 := Lib.hid ho1
  have HBX1 := Lib.hid ((ht1.block B (lt_of_block HBX.out) (fun hh => by have := HLB.out B (by simp [hh]); omega)).trans HBX.out)
  have HO0' := Lib.hid (own_turn HO0.out ht1 (fun y hy hy2 => D0.out y hy y (by simp [hy2]) rfl))
  clear HO0
  have HO0 := HO0'
  clear HO0'
  have HT' := Lib.hid (HT.out.trans (ht1.mono (fun y hy => by simp [hy])))
  clear HT
  have HT := HT'
  clear HT' HBX
  have HBX := HBX1
  clear HBX1 ht1 ho1 hk1 hsz1 hkk1
  have hkt1 : k1 + (0) ≤ 1000000000000 := by have := HK1.out; omega
  go_wp2
  go_ret
  refine ⟨?_, ?_, HT.out⟩
  · rw [HKE.out]
    have e0 := HK0.out
    have e1 := HK1.out
    refine ret_nat ?_
    omega
  · show Own _ (D.markTop ((eIntSS x.Cells).app (eBoolS x.Used)) k) _ _
    rw [markTop_app]
    exact (own_app _ _).2 ⟨[.slice A0 m0 p0], [.slice A1 m1 p1], b0, b1, rfl, by simp, (by have := HO0.out;  exact this), (by have := HO1.out; rw [← HK0.out] at this;  exact this)⟩
theorem h_markTable (x : GTable) (c0 : Value) (bs : List Nat) (k : Nat) (w : World) (h : Own w (eTable x) [c0] bs) (hnd : bs.Nodup) (hs : (eTable x).sz ≤ 1000000000) (hkt : k + (eTable x).cntTop ≤ 1000000000000) :
    Calls Try.prog 109 #[.agg #[c0], .int .i64 k] w (MarkP (eTable x) [c0] bs k w) := by
  have hk : k ≤ 1000000000000 := by omega
  obtain ⟨_, rfl, o0⟩ := parts_Table h
  have hlt := own_lt _ h
  rw [sz_Table] at hs
  rw [cntTop_Table] at hkt
  have n0 := hnd
  obtain ⟨A0, m0, p0, rfl⟩ := own_slice o0
  obtain ⟨B, hB⟩ : ∃ B, w.heap.size = B := ⟨_, rfl⟩
  have hbox : (w.alloc (.cells #[.slice A0 m0 p0] 30)).heap[B]? = some (.cells #[.slice A0 m0 p0] 30 (0, 0)) := by rw [← hB]; exact heap_alloc_new w _
  have hlB : ∀ y ∈ bs, y < B := by rw [← hB]; exact hlt
  have ht0 : Turn (bs) w (w.alloc (.cells #[.slice A0 m0 p0] 30)) := (Turn.refl _ _).alloc _
  have o0 := own_alloc o0 (.cells #[.slice A0 m0 p0] 30)
  obtain ⟨w0, hw0⟩ : ∃ w0, w.alloc (.cells #[.slice A0 m0 p0] 30) = w0 := ⟨_, rfl⟩
  rw [hw0] at hbox ht0 o0
  have O0 := Lib.hid o0
  have N0 := Lib.hid n0
  have HT := Lib.hid ht0
  have HBX := Lib.hid hbox
  have HLB := Lib.hid hlB
  have HW := Lib.hid hw0
  have HKE : Hid (k + (eTable x).cntTop = k + ((eEntryS x.Entries).cntTop)) := by show _ = _; rw [cntTop_Table]
  clear hnd
  clear h hlt ht0 hbox hlB hw0 o0 n0
  go_enter Try.func109, Try.ntmps109
  go_wp2_with fail
  rw [HW.out]
  clear HW
  have hsz0 : (eEntryS x.Entries).sz ≤ 1000000000 := by omega
  have hkk0 : k + (eEntryS x.Entries).cntTop ≤ 1000000000000 := by omega
  refine (h_markEntryS x.Entries A0 m0 p0 bs k w0 O0.out N0.out hsz0 hkk0).mono ?_
  rintro e w1 ⟨rfl, ho0, ht0⟩
  obtain ⟨k0, hk0⟩ : ∃ q : Nat, k + (eEntryS x.Entries).cntTop = q := ⟨_, rfl⟩
  rw [hk0]
  have HK0 := Lib.hid hk0
  have hkb0 : k0 ≤ 1000000000000 := by omega
  have HO0 := Lib.hid ho0
  have HBX0 := Lib.hid ((ht0.block B (lt_of_block HBX.out) (fun hh => by have := HLB.out B (by simp [hh]); omega)).trans HBX.out)
  have HT' := Lib.hid (HT.out.trans (ht0.mono (fun y hy => by simp [hy])))
  clear HT
  have HT := HT'
  clear HT' HBX
  have HBX := HBX0
  clear HBX0 ht0 ho0 hk0 hsz0 hkk0
  have hkt0 : k0 + (0) ≤ 1000000000000 := by have := HK0.out; omega
  go_wp2
  go_ret
  refine ⟨?_, ?_, HT.out⟩
  · rw [HKE.out]
    have e0 := HK0.out
    refine ret_nat ?_
    omega
  · show Own _ (D.markTop (eEntryS x.Entries) k) _ _
    exact (by have := HO0.out;  exact this)
theorem h_markMachine (x : GMachine) (c0 c1 c2 : Value) (bs : List Nat) (k : Nat) (w : World) (h : Own w (eMachine x) [c0, c1, c2] bs) (hnd : bs.Nodup) (hs : (eMachine x).sz ≤ 1000000000) (hkt : k + (eMachine x).cntTop ≤ 1000000000000) :
    Calls Try.prog 66 #[.agg #[c0, c1, c2], .int .i64 k] w (MarkP (eMachine x) [c0, c1, c2] bs k w) := by
  have hk : k ≤ 1000000000000 := by omega
  obtain ⟨b0, b1, rfl, o0, o1⟩ := parts_Machine h
  have hlt := own_lt _ h
  rw [sz_Machine] at hs
  rw [cntTop_Machine] at hkt
  rw [List.nodup_append] at hnd
  obtain ⟨n0, nr0, d0⟩ := hnd
  have n1 := nr0
  obtain ⟨B, hB⟩ : ∃ B, w.heap.size = B := ⟨_, rfl⟩
  have hbox : (w.alloc (.cells #[c0, c1, c2] 32)).heap[B]? = some (.cells #[c0, c1, c2] 32 (0, 0)) := by rw [← hB]; exact heap_alloc_new w _
  have hlB : ∀ y ∈ b0 ++ (b1), y < B := by rw [← hB]; exact hlt
  have ht0 : Turn (b0 ++ (b1)) w (w.alloc (.cells #[c0, c1, c2] 32)) := (Turn.refl _ _).alloc _
  have o0 := own_alloc o0 (.cells #[c0, c1, c2] 32)
  have o1 := own_alloc o1 (.cells #[c0, c1, c2] 32)
  obtain ⟨w0, hw0⟩ : ∃ w0, w.alloc (.cells #[c0, c1, c2] 32) = w0 := ⟨_, rfl⟩
  rw [hw0] at hbox ht0 o0 o1
  have O0 := Lib.hid o0
  have N0 := Lib.hid n0
  have O1 := Lib.hid o1
  have N1 := Lib.hid n1
  have HT := Lib.hid ht0
  have HBX := Lib.hid hbox
  have HLB := Lib.hid hlB
  have HW := Lib.hid hw0
  have D0 := Lib.hid d0
  have HKE : Hid (k + (eMachine x).cntTop = k + ((eFrames x.Frames).cntTop + ((eTable x.Table).cntTop))) := by show _ = _; rw [cntTop_Machine]
  clear h hlt ht0 hbox hlB hw0 o0 n0 o1 n1 d0
  go_enter Try.func66, Try.ntmps66
  go_wp2_with fail
  rw [HW.out]
  clear HW
  have hsz0 : (eFrames x.Frames).sz ≤ 1000000000 := by omega
  have hkk0 : k + (eFrames x.Frames).cntTop ≤ 1000000000000 := by omega
  refine (h_markFrames x.Frames c0 c1 b0 k w0 O0.out N0.out hsz0 hkk0).mono ?_
  rintro e w1 ⟨rfl, ho0, ht0⟩
  obtain ⟨k0, hk0⟩ : ∃ q : Nat, k + (eFrames x.Frames).cntTop = q := ⟨_, rfl⟩
  rw [hk0]
  have HK0 := Lib.hid hk0
  have hkb0 : k0 ≤ 1000000000000 := by omega
  have HO0 := Lib.hid ho0
  have HBX0 := Lib.hid ((ht0.block B (lt_of_block HBX.out) (fun hh => by have := HLB.out B (by simp [hh]); omega)).trans HBX.out)
  have O1' := Lib.hid (own_turn O1.out ht0 (fun y hy hy2 => D0.out y hy2 y (by simp [hy]) rfl))
  clear O1
  have O1 := O1'
  clear O1'
  have HT' := Lib.hid (HT.out.trans (ht0.mono (fun y hy => by simp [hy])))
  clear HT
  have HT := HT'
  clear HT' HBX
  have HBX := HBX0
  clear HBX0 ht0 ho0 hk0 hsz0 hkk0
  have hkt0 : k0 + ((eTable x.Table).cntTop + 0) ≤ 1000000000000 := by have := HK0.out; omega
  have hc2 : w1.cell? ⟨B, 2, none⟩ = some (c2) := cell_of_block HBX.out 2
  go_wp2_with fail
  have hsz1 : (eTable x.Table).sz ≤ 1000000000 := by omega
  have hkk1 : k0 + (eTable x.Table).cntTop ≤ 1000000000000 := by omega
  refine (h_markTable x.Table c2 b1 k0 w1 O1.out N1.out hsz1 hkk1).mono ?_
  rintro e w2 ⟨rfl, ho1, ht1⟩
  obtain ⟨k1, hk1⟩ : ∃ q : Nat, k0 + (eTable x.Table).cntTop = q := ⟨_, rfl⟩
  rw [hk1]
  have HK1 := Lib.hid hk1
  have hkb1 : k1 ≤ 1000000000000 := by omega
  have HO1 := Lib.hid ho1
  have HBX1 := Lib.hid ((ht1.block B (lt_of_block HBX.out) (fun hh => by have := HLB.out B (by simp [hh]); omega)).trans HBX.out)
  have HO0' := Lib.hid (own_turn HO0.out ht1 (fun y hy hy2 => D0.out y hy y (by simp [hy2]) rfl))
  clear HO0
  have HO0 := HO0'
  clear HO0'
  have HT' := Lib.hid (HT.out.trans (ht1.mono (fun y hy => by simp [hy])))
  clear HT
  have HT := HT'
  clear HT' HBX
  have HBX := HBX1
  clear HBX1 ht1 ho1 hk1 hsz1 hkk1
  have hkt1 : k1 + (0) ≤ 1000000000000 := by have := HK1.out; omega
  go_wp2
  go_ret
  refine ⟨?_, ?_, HT.out⟩
  · rw [HKE.out]
    have e0 := HK0.out
    have e1 := HK1.out
    refine ret_nat ?_
    omega
  · show Own _ (D.markTop ((eFrames x.Frames).app (eTable x.Table)) k) _ _
    rw [markTop_app]
    exact (own_app _ _).2 ⟨[c0, c1], [c2], b0, b1, rfl, by simp, (by have := HO0.out;  exact this), (by have := HO1.out; rw [← HK0.out] at this;  exact this)⟩
theorem h_markKernel (x : GKernel) (c0 c1 c2 c3 : Value) (bs : List Nat) (k : Nat) (w : World) (h : Own w (eKernel x) [c0, c1, c2, .int .i64 x.Calls, c3] bs) (hnd : bs.Nodup) (hs : (eKernel x).sz ≤ 1000000000) (hkt : k + (eKernel x).cntTop ≤ 1000000000000) :
    Calls Try.prog 31 #[.agg #[c0, c1, c2, .int .i64 x.Calls, c3], .int .i64 k] w (MarkP (eKernel x) [c0, c1, c2, .int .i64 x.Calls, c3] bs k w) := by
  have hk : k ≤ 1000000000000 := by omega
  obtain ⟨b0, b2, rfl, o0, o2⟩ := parts_Kernel h
  have hlt := own_lt _ h
  rw [sz_Kernel] at hs
  rw [cntTop_Kernel] at hkt
  rw [List.nodup_append] at hnd
  obtain ⟨n0, nr0, d0⟩ := hnd
  have n2 := nr0
  obtain ⟨A2, m2, p2, rfl⟩ := own_slice o2
  obtain ⟨B, hB⟩ : ∃ B, w.heap.size = B := ⟨_, rfl⟩
  have hbox : (w.alloc (.cells #[c0, c1, c2, .int .i64 x.Calls, .slice A2 m2 p2] 35)).heap[B]? = some (.cells #[c0, c1, c2, .int .i64 x.Calls, .slice A2 m2 p2] 35 (0, 0)) := by rw [← hB]; exact heap_alloc_new w _
  have hlB : ∀ y ∈ b0 ++ (b2), y < B := by rw [← hB]; exact hlt
  have ht0 : Turn (b0 ++ (b2)) w (w.alloc (.cells #[c0, c1, c2, .int .i64 x.Calls, .slice A2 m2 p2] 35)) := (Turn.refl _ _).alloc _
  have o0 := own_alloc o0 (.cells #[c0, c1, c2, .int .i64 x.Calls, .slice A2 m2 p2] 35)
  have o2 := own_alloc o2 (.cells #[c0, c1, c2, .int .i64 x.Calls, .slice A2 m2 p2] 35)
  obtain ⟨w0, hw0⟩ : ∃ w0, w.alloc (.cells #[c0, c1, c2, .int .i64 x.Calls, .slice A2 m2 p2] 35) = w0 := ⟨_, rfl⟩
  rw [hw0] at hbox ht0 o0 o2
  have O0 := Lib.hid o0
  have N0 := Lib.hid n0
  have O2 := Lib.hid o2
  have N2 := Lib.hid n2
  have HT := Lib.hid ht0
  have HBX := Lib.hid hbox
  have HLB := Lib.hid hlB
  have HW := Lib.hid hw0
  have D0 := Lib.hid d0
  have HKE : Hid (k + (eKernel x).cntTop = k + ((eMachine x.Machine).cntTop + ((eI x.Calls).cntTop + ((eIntS x.Refuse).cntTop)))) := by show _ = _; rw [cntTop_Kernel]
  clear h hlt ht0 hbox hlB hw0 o0 n0 o2 n2 d0
  go_enter Try.func31, Try.ntmps31
  go_wp2_with fail
  rw [HW.out]
  clear HW
  have hsz0 : (eMachine x.Machine).sz ≤ 1000000000 := by omega
  have hkk0 : k + (eMachine x.Machine).cntTop ≤ 1000000000000 := by omega
  refine (h_markMachine x.Machine c0 c1 c2 b0 k w0 O0.out N0.out hsz0 hkk0).mono ?_
  rintro e w1 ⟨rfl, ho0, ht0⟩
  obtain ⟨k0, hk0⟩ : ∃ q : Nat, k + (eMachine x.Machine).cntTop = q := ⟨_, rfl⟩
  rw [hk0]
  have HK0 := Lib.hid hk0
  have hkb0 : k0 ≤ 1000000000000 := by omega
  have HO0 := Lib.hid ho0
  have HBX0 := Lib.hid ((ht0.block B (lt_of_block HBX.out) (fun hh => by have := HLB.out B (by simp [hh]); omega)).trans HBX.out)
  have O2' := Lib.hid (own_turn O2.out ht0 (fun y hy hy2 => D0.out y hy2 y (by simp [hy]) rfl))
  clear O2
  have O2 := O2'
  clear O2'
  have HT' := Lib.hid (HT.out.trans (ht0.mono (fun y hy => by simp [hy])))
  clear HT
  have HT := HT'
  clear HT' HBX
  have HBX := HBX0
  clear HBX0 ht0 ho0 hk0 hsz0 hkk0
  have hkt0 : k0 + ((eI x.Calls).cntTop + (eIntS x.Refuse).cntTop + 0) ≤ 1000000000000 := by have := HK0.out; omega
  have hc4 : w1.cell? ⟨B, 4, none⟩ = some (.slice A2 m2 p2) := cell_of_block HBX.out 4
  go_wp2_with fail
  have hsz2 : (eIntS x.Refuse).sz ≤ 1000000000 := by omega
  have hkk2 : k0 + (eIntS x.Refuse).cntTop ≤ 1000000000000 := by omega
  refine (h_markIntS x.Refuse A2 m2 p2 b2 k0 w1 O2.out N2.out hsz2 hkk2).mono ?_
  rintro e w2 ⟨rfl, ho2, ht2⟩
  obtain ⟨k2, hk2⟩ : ∃ q : Nat, k0 + (eIntS x.Refuse).cntTop = q := ⟨_, rfl⟩
  rw [hk2]
  have HK2 := Lib.hid hk2
  have hkb2 : k2 ≤ 1000000000000 := by omega
  have HO2 := Lib.hid ho2
  have HBX2 := Lib.hid ((ht2.block B (lt_of_block HBX.out) (fun hh => by have := HLB.out B (by simp [hh]); omega)).trans HBX.out)
  have HO0' := Lib.hid (own_turn HO0.out ht2 (fun y hy hy2 => D0.out y hy y (by simp [hy2]) rfl))
  clear HO0
  have HO0 := HO0'
  clear HO0'
  have HT' := Lib.hid (HT.out.trans (ht2.mono (fun y hy => by simp [hy])))
  clear HT
  have HT := HT'
  clear HT' HBX
  have HBX := HBX2
  clear HBX2 ht2 ho2 hk2 hsz2 hkk2
  have hkt2 : k2 + (0) ≤ 1000000000000 := by have := HK2.out; omega
  go_wp2
  go_ret
  refine ⟨?_, ?_, HT.out⟩
  · rw [HKE.out]
    have e0 := HK0.out
    have e2 := HK2.out
    have z1 : (eI x.Calls).cntTop = 0 := rfl
    refine ret_nat ?_
    omega
  · show Own _ (D.markTop ((eMachine x.Machine).app ((eI x.Calls).app (eIntS x.Refuse))) k) _ _
    rw [markTop_app, markTop_app]
    exact (own_app _ _).2 ⟨[c0, c1, c2], [.int .i64 x.Calls, .slice A2 m2 p2], b0, b2, rfl, by simp, (by have := HO0.out;  exact this), (own_app _ _).2 ⟨[.int .i64 x.Calls], [.slice A2 m2 p2], [], b2, rfl, by simp, ⟨_, rfl, rfl, rfl⟩, (by have := HO2.out; rw [← HK0.out] at this;  exact this)⟩⟩
end Tr
end Go.Proofs.Ytcdmijnlpapjaaa

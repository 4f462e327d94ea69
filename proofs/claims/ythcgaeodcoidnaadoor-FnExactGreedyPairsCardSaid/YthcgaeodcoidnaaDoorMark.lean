/- The laws' marks. -/
import Derived.Test.YthcgaeodcoidnaaDoorEnc
import Derived.WalkKit
import Derived.ProofKit
import Derived.BigQuiet
import Derived.Deep.QuietTactic
import Derived.Deep.RegionHeld3
import Derived.Lib.Hide
namespace Go.Proofs.YthcgaeodcoidnaaDoor
open Go.RowKit
namespace Tr
theorem h_markPairS (l : List GPair) (A : Option Addr) (n cap : Nat) (bs : List Nat) (k : Nat) (w : World) (h : Own w (ePairS l) [.slice A n cap] bs) (hnd : bs.Nodup) (hs : (ePairS l).sz ≤ 1000000000) (hkt : k + (ePairS l).cntTop ≤ 1000000000000) :
    Calls Tryd.prog 25 #[.slice A n cap, .int .i64 k] w (MarkP (ePairS l) [.slice A n cap] bs k w) := by
  obtain ⟨hn, hn'⟩ := row_n h hs
  have hk : k ≤ 1000000000000 := by omega
  clear hkt
  have H0 : Hid (Own w (rowC 60 2 (upTo (l.map ePair) k 0)) [.slice A n cap] bs) := by show Own _ _ _ _; rw [upTo_zero]; exact h
  have HN := Lib.hid hn
  have HD := Lib.hid hnd
  clear h hs hn hnd
  go_enter Tryd.func25, Tryd.ntmps25
  go_wp2
  go_loopw [1, 5] (fun kk c wr => ∃ (i q : Nat), i ≤ n ∧ q ≤ k + i * 2 ∧ c = .int .i64 i ∧ kk = .int .i64 q ∧ Hid (k + cnts ((l.map ePair).take i) = q) ∧ Hid (Own wr (rowC 60 2 (upTo (l.map ePair) k i)) [.slice A n cap] bs) ∧ Hid (Turn bs w wr)) (fun _ c _ => n - (intOf c).toNat)
  case atStart => exact ⟨0, k, Nat.zero_le _, by omega, rfl, rfl, by show _ = _; simp [cnts], H0.out, Turn.refl _ _⟩
  case round =>
    clear H0
    obtain ⟨i, q, hi, hq, rfl, rfl, HQ, HO, HT⟩ := hrel
    by_cases hlt : (i : Int) < n
    · have hi0 : (0 : Int) ≤ i := by omega
      have hil : i < (l.map ePair).length := by rw [List.length_map, ← HN.out]; omega
      obtain ⟨g, o, cur, d, us, b, rfl, hgb, hg, hm, hd, ho, _, _, hset⟩ := up_turn HO.out HD.out (len_map (E := ePair) (k := 2) (fun _ => rfl)) hil
      obtain ⟨x, hx, rfl⟩ := at_map hd
      have hcn : k + cnts ((l.map ePair).take (i + 1)) = q + 2 := by rw [cnts_take _ _ hil, ← HQ.out, getElem_of_at hd]; rfl
      rw [HQ.out] at hset
      obtain ⟨_, rfl, _, rfl, rfl, rfl⟩ := ho
      have hc0 : wr.cell? ⟨g, o + i * 2, none⟩ = some (.int .i64 x.A) := (Mid.cell (m := o + i * 2) (k := 2) hm hg 0 (by omega))
      have hf0 := free_of_block hg (o + i * 2)
      have hg1 := block_set hg (o + i * 2) (.int .i64 ((q : Int)))
      have hm1 := hm.set 0 (by omega) (.int .i64 ((q : Int)))
      have hc1 : (wr.setCell ⟨g, o + i * 2, none⟩ (.int .i64 ((q : Int)))).cell? ⟨g, o + i * 2 + 1, none⟩ = some (.int .i64 x.B) := (Mid.cell (m := o + i * 2) (k := 2) hm1 hg1 1 (by omega))
      have hf1 := free_of_block hg1 (o + i * 2 + 1)
      have hg2 := block_set hg1 (o + i * 2 + 1) (.int .i64 ((q : Int) + 1))
      have hm2 := hm1.set 1 (by omega) (.int .i64 ((q : Int) + 1))
      have HO2 : Hid (Own ((wr.setCell ⟨g, o + i * 2, none⟩ (.int .i64 ((q : Int)))).setCell ⟨g, o + i * 2 + 1, none⟩ (.int .i64 ((q : Int) + 1))) (rowC 60 2 (upTo (l.map ePair) k (i + 1))) [.slice (some ⟨g, o, none⟩) n cap] bs) := hset _ _ _ hg2 hm2 (fun y _ hy _ => (Below.heap_setCell _ _ _ _ hy).trans (Below.heap_setCell _ _ _ _ hy)) (by
        show Own _ (D.lit (mk (.int .i64 x.A) (q)) (D.lit (mk (.int .i64 x.B) (q + 1)) .nil)) _ _
        exact ⟨_, rfl, _, rfl, rfl, rfl⟩)
      have HT2 : Hid (Turn bs w ((wr.setCell ⟨g, o + i * 2, none⟩ (.int .i64 ((q : Int)))).setCell ⟨g, o + i * 2 + 1, none⟩ (.int .i64 ((q : Int) + 1)))) := ((HT.out.setCell (p := ⟨g, o + i * 2, none⟩) hgb (.int .i64 ((q : Int)))).setCell (p := ⟨g, o + i * 2 + 1, none⟩) hgb (.int .i64 ((q : Int) + 1)))
      have HQ2 := Lib.hid hcn
      clear hset hm hm1 hm2 hcn hg hg1 hg2 hd hx
      go_wp2
      go_roundw
      case rel => exact ⟨i + 1, q + 2, by omega, by omega, by go_num, by go_num, HQ2.out, HO2.out, HT2.out⟩
      case measure => simp [intOf]; omega
    · obtain rfl : i = n := by omega
      go_wp2
      go_ret
      exact mark_end HN.out (by rw [HN.out, ← List.length_map (f := ePair), List.take_length] at HQ; exact HQ.out) HO.out HT.out
theorem h_markSpanS (l : List GSpan) (A : Option Addr) (n cap : Nat) (bs : List Nat) (k : Nat) (w : World) (h : Own w (eSpanS l) [.slice A n cap] bs) (hnd : bs.Nodup) (hs : (eSpanS l).sz ≤ 1000000000) (hkt : k + (eSpanS l).cntTop ≤ 1000000000000) :
    Calls Tryd.prog 24 #[.slice A n cap, .int .i64 k] w (MarkP (eSpanS l) [.slice A n cap] bs k w) := by
  obtain ⟨hn, hn'⟩ := row_n h hs
  have hk : k ≤ 1000000000000 := by omega
  clear hkt
  have H0 : Hid (Own w (rowC 38 3 (upTo (l.map eSpan) k 0)) [.slice A n cap] bs) := by show Own _ _ _ _; rw [upTo_zero]; exact h
  have HN := Lib.hid hn
  have HD := Lib.hid hnd
  clear h hs hn hnd
  go_enter Tryd.func24, Tryd.ntmps24
  go_wp2
  go_loopw [1, 5] (fun kk c wr => ∃ (i q : Nat), i ≤ n ∧ q ≤ k + i * 3 ∧ c = .int .i64 i ∧ kk = .int .i64 q ∧ Hid (k + cnts ((l.map eSpan).take i) = q) ∧ Hid (Own wr (rowC 38 3 (upTo (l.map eSpan) k i)) [.slice A n cap] bs) ∧ Hid (Turn bs w wr)) (fun _ c _ => n - (intOf c).toNat)
  case atStart => exact ⟨0, k, Nat.zero_le _, by omega, rfl, rfl, by show _ = _; simp [cnts], H0.out, Turn.refl _ _⟩
  case round =>
    clear H0
    obtain ⟨i, q, hi, hq, rfl, rfl, HQ, HO, HT⟩ := hrel
    by_cases hlt : (i : Int) < n
    · have hi0 : (0 : Int) ≤ i := by omega
      have hil : i < (l.map eSpan).length := by rw [List.length_map, ← HN.out]; omega
      obtain ⟨g, o, cur, d, us, b, rfl, hgb, hg, hm, hd, ho, _, _, hset⟩ := up_turn HO.out HD.out (len_map (E := eSpan) (k := 3) (fun _ => rfl)) hil
      obtain ⟨x, hx, rfl⟩ := at_map hd
      have hcn : k + cnts ((l.map eSpan).take (i + 1)) = q + 3 := by rw [cnts_take _ _ hil, ← HQ.out, getElem_of_at hd]; rfl
      rw [HQ.out] at hset
      obtain ⟨_, rfl, _, rfl, _, rfl, rfl, rfl⟩ := ho
      have hc0 : wr.cell? ⟨g, o + i * 3, none⟩ = some (.int .i64 x.Page) := (Mid.cell (m := o + i * 3) (k := 3) hm hg 0 (by omega))
      have hf0 := free_of_block hg (o + i * 3)
      have hg1 := block_set hg (o + i * 3) (.int .i64 ((q : Int)))
      have hm1 := hm.set 0 (by omega) (.int .i64 ((q : Int)))
      have hc1 : (wr.setCell ⟨g, o + i * 3, none⟩ (.int .i64 ((q : Int)))).cell? ⟨g, o + i * 3 + 1, none⟩ = some (.int .i64 x.Class) := (Mid.cell (m := o + i * 3) (k := 3) hm1 hg1 1 (by omega))
      have hf1 := free_of_block hg1 (o + i * 3 + 1)
      have hg2 := block_set hg1 (o + i * 3 + 1) (.int .i64 ((q : Int) + 1))
      have hm2 := hm1.set 1 (by omega) (.int .i64 ((q : Int) + 1))
      have hc2 : ((wr.setCell ⟨g, o + i * 3, none⟩ (.int .i64 ((q : Int)))).setCell ⟨g, o + i * 3 + 1, none⟩ (.int .i64 ((q : Int) + 1))).cell? ⟨g, o + i * 3 + 2, none⟩ = some (.int .i64 x.Bits) := (Mid.cell (m := o + i * 3) (k := 3) hm2 hg2 2 (by omega))
      have hf2 := free_of_block hg2 (o + i * 3 + 2)
      have hg3 := block_set hg2 (o + i * 3 + 2) (.int .i64 ((q : Int) + 1 + 1))
      have hm3 := hm2.set 2 (by omega) (.int .i64 ((q : Int) + 1 + 1))
      have HO2 : Hid (Own (((wr.setCell ⟨g, o + i * 3, none⟩ (.int .i64 ((q : Int)))).setCell ⟨g, o + i * 3 + 1, none⟩ (.int .i64 ((q : Int) + 1))).setCell ⟨g, o + i * 3 + 2, none⟩ (.int .i64 ((q : Int) + 1 + 1))) (rowC 38 3 (upTo (l.map eSpan) k (i + 1))) [.slice (some ⟨g, o, none⟩) n cap] bs) := hset _ _ _ hg3 hm3 (fun y _ hy _ => (Below.heap_setCell _ _ _ _ hy).trans ((Below.heap_setCell _ _ _ _ hy).trans (Below.heap_setCell _ _ _ _ hy))) (by
        show Own _ (D.lit (mk (.int .i64 x.Page) (q)) (D.lit (mk (.int .i64 x.Class) (q + 1)) (D.lit (mk (.int .i64 x.Bits) (q + 1 + 1)) .nil))) _ _
        exact ⟨_, rfl, _, rfl, _, rfl, rfl, rfl⟩)
      have HT2 : Hid (Turn bs w (((wr.setCell ⟨g, o + i * 3, none⟩ (.int .i64 ((q : Int)))).setCell ⟨g, o + i * 3 + 1, none⟩ (.int .i64 ((q : Int) + 1))).setCell ⟨g, o + i * 3 + 2, none⟩ (.int .i64 ((q : Int) + 1 + 1)))) := (((HT.out.setCell (p := ⟨g, o + i * 3, none⟩) hgb (.int .i64 ((q : Int)))).setCell (p := ⟨g, o + i * 3 + 1, none⟩) hgb (.int .i64 ((q : Int) + 1))).setCell (p := ⟨g, o + i * 3 + 2, none⟩) hgb (.int .i64 ((q : Int) + 1 + 1)))
      have HQ2 := Lib.hid hcn
      clear hset hm hm1 hm2 hm3 hcn hg hg1 hg2 hg3 hd hx
      go_wp2
      go_roundw
      case rel => exact ⟨i + 1, q + 3, by omega, by omega, by go_num, by go_num, HQ2.out, HO2.out, HT2.out⟩
      case measure => simp [intOf]; omega
    · obtain rfl : i = n := by omega
      go_wp2
      go_ret
      exact mark_end HN.out (by rw [HN.out, ← List.length_map (f := eSpan), List.take_length] at HQ; exact HQ.out) HO.out HT.out
end Tr
end Go.Proofs.YthcgaeodcoidnaaDoor

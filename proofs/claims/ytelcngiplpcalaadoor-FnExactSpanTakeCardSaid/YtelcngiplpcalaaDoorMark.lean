/- The laws' marks. -/
import Derived.Test.YtelcngiplpcalaaDoorEnc
import Derived.WalkKit
import Derived.ProofKit
import Derived.BigQuiet
import Derived.Deep.QuietTactic
import Derived.Deep.RegionHeld3
import Derived.Lib.Hide
namespace Go.Proofs.YtelcngiplpcalaaDoor
open Go.RowKit
namespace Tr
theorem h_markIntS (l : List Int) (A : Option Addr) (n cap : Nat) (bs : List Nat) (k : Nat) (w : World) (h : Own w (eIntS l) [.slice A n cap] bs) (hnd : bs.Nodup) (hs : (eIntS l).sz ≤ 1000000000) (hkt : k + (eIntS l).cntTop ≤ 1000000000000) :
    Calls Tryd.prog 36 #[.slice A n cap, .int .i64 k] w (MarkP (eIntS l) [.slice A n cap] bs k w) := by
  obtain ⟨hn, hn'⟩ := row_n h hs
  have hk : k ≤ 1000000000000 := by omega
  clear hkt
  have H0 : Hid (Own w (rowC 3 1 (upTo (l.map eI) k 0)) [.slice A n cap] bs) := by show Own _ _ _ _; rw [upTo_zero]; exact h
  have HN := Lib.hid hn
  have HD := Lib.hid hnd
  clear h hs hn hnd
  go_enter Tryd.func36, Tryd.ntmps36
  go_wp2
  go_loopw [1, 5] (fun kk c wr => ∃ (i q : Nat), i ≤ n ∧ q ≤ k + i * 1 ∧ c = .int .i64 i ∧ kk = .int .i64 q ∧ Hid (k + cnts ((l.map eI).take i) = q) ∧ Hid (Own wr (rowC 3 1 (upTo (l.map eI) k i)) [.slice A n cap] bs) ∧ Hid (Turn bs w wr)) (fun _ c _ => n - (intOf c).toNat)
  case atStart => exact ⟨0, k, Nat.zero_le _, by omega, rfl, rfl, by show _ = _; simp [cnts], H0.out, Turn.refl _ _⟩
  case round =>
    clear H0
    obtain ⟨i, q, hi, hq, rfl, rfl, HQ, HO, HT⟩ := hrel
    by_cases hlt : (i : Int) < n
    · have hi0 : (0 : Int) ≤ i := by omega
      have hil : i < (l.map eI).length := by rw [List.length_map, ← HN.out]; omega
      obtain ⟨g, o, cur, d, us, b, rfl, hgb, hg, hm, hd, ho, _, _, hset⟩ := up_turn HO.out HD.out (len_map (E := eI) (k := 1) (fun _ => rfl)) hil
      obtain ⟨x, hx, rfl⟩ := at_map hd
      have hcn : k + cnts ((l.map eI).take (i + 1)) = q + 1 := by rw [cnts_take _ _ hil, ← HQ.out, getElem_of_at hd]; rfl
      rw [HQ.out] at hset
      simp only [Nat.mul_one] at hset hm
      obtain ⟨_, rfl, rfl, rfl⟩ := ho
      have hc0 : wr.cell? ⟨g, o + i, none⟩ = some (.int .i64 x) := (Mid.cell (m := o + i) (k := 1) hm hg 0 (by omega))
      have hf0 := free_of_block hg (o + i)
      have hg1 := block_set hg (o + i) (.int .i64 ((q : Int)))
      have hm1 := hm.set 0 (by omega) (.int .i64 ((q : Int)))
      have HO2 : Hid (Own (wr.setCell ⟨g, o + i, none⟩ (.int .i64 ((q : Int)))) (rowC 3 1 (upTo (l.map eI) k (i + 1))) [.slice (some ⟨g, o, none⟩) n cap] bs) := hset _ _ _ hg1 hm1 (fun y _ hy _ => Below.heap_setCell _ _ _ _ hy) (by
        show Own _ (D.lit (mk (.int .i64 x) (q)) .nil) _ _
        exact ⟨_, rfl, rfl, rfl⟩)
      have HT2 : Hid (Turn bs w (wr.setCell ⟨g, o + i, none⟩ (.int .i64 ((q : Int))))) := (HT.out.setCell (p := ⟨g, o + i, none⟩) hgb (.int .i64 ((q : Int))))
      have HQ2 := Lib.hid hcn
      clear hset hm hm1 hcn hg hg1 hd hx
      go_wp2
      go_roundw
      case rel => exact ⟨i + 1, q + 1, by omega, by omega, by go_num, by go_num, HQ2.out, HO2.out, HT2.out⟩
      case measure => simp [intOf]; omega
    · obtain rfl : i = n := by omega
      go_wp2
      go_ret
      exact mark_end HN.out (by rw [HN.out, ← List.length_map (f := eI), List.take_length] at HQ; exact HQ.out) HO.out HT.out
end Tr
end Go.Proofs.YtelcngiplpcalaaDoor

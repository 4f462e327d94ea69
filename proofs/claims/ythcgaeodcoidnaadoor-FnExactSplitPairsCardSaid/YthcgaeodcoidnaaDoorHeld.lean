/- The laws' look at their marks. -/
import Derived.Test.YthcgaeodcoidnaaDoorEnc
import Derived.WalkKit
import Derived.ProofKit
import Derived.BigQuiet
import Derived.Deep.QuietTactic
import Derived.Deep.RegionHeld3
import Derived.Lib.Hide
namespace Go.Proofs.YthcgaeodcoidnaaDoor
open Go.RowKit
namespace Tr
theorem h_heldPairS (l : List GPair) (v : Value) (k : Nat) (w : World) (h : Rd w ((ePairS l).markTop k) [v]) (hs : (ePairS l).sz ≤ 1000000000) (hkt : k + (ePairS l).cntTop ≤ 1000000000000) :
    Calls Tryd.prog 26 #[v, .int .i64 k] w (HeldP (k + (ePairS l).cntTop) w) := by
  obtain ⟨bs, h⟩ := h
  have hb := sz_len hs
  obtain ⟨A, n, cap, rfl, hn, hA⟩ := read_marks (E := ePair) (e := 2) h (fun _ => rfl)
  have hn' : n ≤ 1000000000 := by omega
  have hk : k ≤ 1000000000000 := by omega
  have HKT : Hid (k + cnts (l.map ePair) ≤ 1000000000000) := by show _ ≤ _; unfold ePairS rowD at hkt; rw [row_cntTop] at hkt; exact hkt
  have HA := Lib.hid hA
  have HN := Lib.hid hn
  have HS := Lib.hid hs
  clear h hb hA hn hs hkt
  go_enter Tryd.func26, Tryd.ntmps26
  go_wp2
  go_loopw [1, 5] (fun kk c wr => ∃ (i q : Nat), i ≤ n ∧ q ≤ 1000000000000 ∧ c = .int .i64 i ∧ kk = .int .i64 q ∧ Hid (k + cnts ((l.map ePair).take i) = q) ∧ Hid (Below w.heap.size w wr)) (fun _ c _ => n - (intOf c).toNat)
  case atStart => exact ⟨0, k, Nat.zero_le _, hk, rfl, rfl, by show _ = _; simp [cnts], Below.refl _ _⟩
  case round =>
    obtain ⟨i, q, hi, hq, rfl, rfl, HQ, HBL⟩ := hrel
    by_cases hlt : (i : Int) < n
    · have hi0 : (0 : Int) ≤ i := by omega
      have hil : i < (l.map ePair).length := by rw [List.length_map, ← HN.out]; omega
      obtain ⟨g, o, x, us, b, rfl, hx, hus, hc, ho⟩ := HA.out i (by omega)
      have hd : (l.map ePair)[i]? = some (ePair x) := by rw [List.getElem?_map, hx]; rfl
      have hcn := cnts_take _ _ hil
      rw [getElem_of_at hd] at hcn
      have hcl := cnts_take_le (l.map ePair) (i + 1)
      have hsx := sz_elem HS.out hx
      rw [HQ.out] at ho
      obtain ⟨_, rfl, _, rfl, rfl, _⟩ := ho
      have hc0 : wr.cell? ⟨g, o + i * 2, none⟩ = some (.int .i64 ((q : Int))) := cell_below HBL.out (hc 0 (by omega))
      have hc1 : wr.cell? ⟨g, o + i * 2 + 1, none⟩ = some (.int .i64 ((q : Int) + 1)) := cell_below HBL.out (hc 1 (by omega))
      have hcx : (ePair x).cnt = 2 := rfl
      have hq2 : q + 2 ≤ 1000000000000 := by have := HKT.out; have := HQ.out; omega
      have HQ2 : Hid (k + cnts ((l.map ePair).take (i + 1)) = q + 2) := by show _ = _; have := HQ.out; omega
      clear hcx hcn hcl hsx hd hx hc hus
      go_wp2
      go_roundw
      case rel => exact ⟨i + 1, q + 2, by omega, hq2, by go_num, by go_num, HQ2.out, HBL.out⟩
      case measure => simp [intOf]; omega
    · obtain rfl : i = n := by omega
      go_wp2
      go_ret
      exact held_end HN.out HQ.out HBL.out
end Tr
end Go.Proofs.YthcgaeodcoidnaaDoor

/- The laws' look at their marks. -/
import Derived.Test.YthkjbjgpdapnpaaEnc
import Derived.WalkKit
import Derived.ProofKit
import Derived.BigQuiet
import Derived.Deep.QuietTactic
import Derived.Deep.RegionHeld3
import Derived.Lib.Hide
namespace Go.Proofs.Ythkjbjgpdapnpaa
open Go.RowKit
namespace Tr
theorem h_heldIntS (l : List Int) (v : Value) (k : Nat) (w : World) (h : Rd w ((eIntS l).markTop k) [v]) (hs : (eIntS l).sz ≤ 1000000000) (hkt : k + (eIntS l).cntTop ≤ 1000000000000) :
    Calls Try.prog 17 #[v, .int .i64 k] w (HeldP (k + (eIntS l).cntTop) w) := by
  obtain ⟨bs, h⟩ := h
  have hb := sz_len hs
  obtain ⟨A, n, cap, rfl, hn, hA⟩ := read_marks (E := eI) (e := 1) h (fun _ => rfl)
  have hn' : n ≤ 1000000000 := by omega
  have hk : k ≤ 1000000000000 := by omega
  have HKT : Hid (k + cnts (l.map eI) ≤ 1000000000000) := by show _ ≤ _; unfold eIntS rowD at hkt; rw [row_cntTop] at hkt; exact hkt
  have HA := Lib.hid hA
  have HN := Lib.hid hn
  have HS := Lib.hid hs
  clear h hb hA hn hs hkt
  go_enter Try.func17, Try.ntmps17
  go_wp2
  go_loopw [1, 5] (fun kk c wr => ∃ (i q : Nat), i ≤ n ∧ q ≤ 1000000000000 ∧ c = .int .i64 i ∧ kk = .int .i64 q ∧ Hid (k + cnts ((l.map eI).take i) = q) ∧ Hid (Below w.heap.size w wr)) (fun _ c _ => n - (intOf c).toNat)
  case atStart => exact ⟨0, k, Nat.zero_le _, hk, rfl, rfl, by show _ = _; simp [cnts], Below.refl _ _⟩
  case round =>
    obtain ⟨i, q, hi, hq, rfl, rfl, HQ, HBL⟩ := hrel
    by_cases hlt : (i : Int) < n
    · have hi0 : (0 : Int) ≤ i := by omega
      have hil : i < (l.map eI).length := by rw [List.length_map, ← HN.out]; omega
      obtain ⟨g, o, x, us, b, rfl, hx, hus, hc, ho⟩ := HA.out i (by omega)
      have hd : (l.map eI)[i]? = some (eI x) := by rw [List.getElem?_map, hx]; rfl
      have hcn := cnts_take _ _ hil
      rw [getElem_of_at hd] at hcn
      have hcl := cnts_take_le (l.map eI) (i + 1)
      have hsx := sz_elem HS.out hx
      rw [HQ.out] at ho
      simp only [Nat.mul_one] at hc
      obtain ⟨_, rfl, rfl, _⟩ := ho
      have hc0 : wr.cell? ⟨g, o + i, none⟩ = some (.int .i64 ((q : Int))) := cell_below HBL.out (hc 0 (by omega))
      have hcx : (eI x).cnt = 1 := rfl
      have hq2 : q + 1 ≤ 1000000000000 := by have := HKT.out; have := HQ.out; omega
      have HQ2 : Hid (k + cnts ((l.map eI).take (i + 1)) = q + 1) := by show _ = _; have := HQ.out; omega
      clear hcx hcn hcl hsx hd hx hc hus
      go_wp2
      go_roundw
      case rel => exact ⟨i + 1, q + 1, by omega, hq2, by go_num, by go_num, HQ2.out, HBL.out⟩
      case measure => simp [intOf]; omega
    · obtain rfl : i = n := by omega
      go_wp2
      go_ret
      exact held_end HN.out HQ.out HBL.out
end Tr
end Go.Proofs.Ythkjbjgpdapnpaa

/- The laws' comparisons. -/
import Derived.Test.YthkjbjgpdapnpaaEnc
import Derived.WalkKit
import Derived.ProofKit
import Derived.BigQuiet
import Derived.Deep.QuietTactic
import Derived.Deep.RegionHeld3
import Derived.Lib.Hide
namespace Go.Proofs.Ythkjbjgpdapnpaa
open Go.RowKit
namespace Tr
theorem h_eqIntS (l : List Int) (a b : Value) (w : World) (ha : Rd w (eIntS l) [a]) (hb : Rd w (eIntS l) [b]) (hs : (eIntS l).sz ≤ 1000000000) :
    Calls Try.prog 14 #[a, b] w (TrueP w) := by
  obtain ⟨bs1, ha⟩ := ha
  obtain ⟨bs2, hb⟩ := hb
  have hl := sz_len hs
  obtain ⟨A, n, c1, rfl, hn, _, _, hA⟩ := read_plain (V := fun x => .int .i64 x) ha (fun _ => rfl)
  obtain ⟨B, n2, c2, rfl, hn2, _, _, hB⟩ := read_plain (V := fun x => .int .i64 x) hb (fun _ => rfl)
  obtain rfl : n2 = n := by rw [hn, hn2]
  have HA := Lib.hid hA
  have HB := Lib.hid hB
  have hl' : (n2 : Int) ≤ 1000000000 := by omega
  clear ha hb hA hB hn2 hn hl hs
  go_enter Try.func14, Try.ntmps14
  go_wp2
  go_loopw [5] (fun c wr => ∃ (i m : Nat), i ≤ n2 ∧ c = .int .i64 i ∧ wr = w.drewN m) (fun c _ => n2 - (intOf c).toNat)
  case atStart => exact ⟨0, 0, Nat.zero_le _, rfl, rfl⟩
  case round =>
    obtain ⟨i, m, hi, rfl, rfl⟩ := hrel
    by_cases hlt : (i : Int) < n2
    · have hi0 : (0 : Int) ≤ i := by omega
      obtain ⟨g, o, t, rfl, hx, hca⟩ := HA.out i (by omega)
      obtain ⟨g2, o2, t2, rfl, hy, hcb⟩ := HB.out i (by omega)
      obtain rfl : t2 = t := Option.some.inj (hy.symm.trans hx)
      clear hx hy
      have htt : (t2 != t2) = false := by simp
      go_wp2_with fail
      go_quiet (fail)
      go_wp2
      go_roundw
      case rel => exact ⟨i + 1, _, by omega, by go_num, rfl⟩
      case measure => simp [intOf]; omega
    · go_wp2
      go_ret
      exact ⟨rfl, below_drewN (Below.refl _ _) m⟩
theorem h_eqPlan (x : GPlan) (c0 d0 : Value) (w : World) (ha : Rd w (ePlan x) [.int .i64 x.Keep, .int .i64 x.Move, c0]) (hb : Rd w (ePlan x) [.int .i64 x.Keep, .int .i64 x.Move, d0]) (hs : (ePlan x).sz ≤ 1000000000) :
    Calls Try.prog 10 #[.agg #[.int .i64 x.Keep, .int .i64 x.Move, c0], .agg #[.int .i64 x.Keep, .int .i64 x.Move, d0]] w (TrueP w) := by
  have hq0 : (x.Keep != x.Keep) = false := by simp
  have hq1 : (x.Move != x.Move) = false := by simp
  obtain ⟨ha0, hat0⟩ := rd_split ha
  obtain ⟨ha1, hat1⟩ := rd_split hat0
  have ha2 := hat1
  obtain ⟨hb0, hbt0⟩ := rd_split hb
  obtain ⟨hb1, hbt1⟩ := rd_split hbt0
  have hb2 := hbt1
  rw [sz_Plan] at hs
  obtain ⟨B, hB⟩ : ∃ B, w.heap.size = B := ⟨_, rfl⟩
  have hboxa : ((w.alloc (.cells #[.int .i64 x.Keep, .int .i64 x.Move, c0] 27)).alloc (.cells #[.int .i64 x.Keep, .int .i64 x.Move, d0] 27)).heap[B]? = some (.cells #[.int .i64 x.Keep, .int .i64 x.Move, c0] 27 (0, 0)) := by rw [← hB]; exact (Below.heap_alloc _ _ _ (by simp)).trans (heap_alloc_new w _)
  have hboxb : ((w.alloc (.cells #[.int .i64 x.Keep, .int .i64 x.Move, c0] 27)).alloc (.cells #[.int .i64 x.Keep, .int .i64 x.Move, d0] 27)).heap[B + 1]? = some (.cells #[.int .i64 x.Keep, .int .i64 x.Move, d0] 27 (0, 0)) := by rw [← hB]; have := heap_alloc_new (w.alloc (.cells #[.int .i64 x.Keep, .int .i64 x.Move, c0] 27)) (.cells #[.int .i64 x.Keep, .int .i64 x.Move, d0] 27); simpa using this
  have hbl0 : Below w.heap.size w ((w.alloc (.cells #[.int .i64 x.Keep, .int .i64 x.Move, c0] 27)).alloc (.cells #[.int .i64 x.Keep, .int .i64 x.Move, d0] 27)) := ((Below.refl _ _).alloc (Nat.le_refl _) _).alloc (by simp) _
  obtain ⟨w0, hw0⟩ : ∃ w0, ((w.alloc (.cells #[.int .i64 x.Keep, .int .i64 x.Move, c0] 27)).alloc (.cells #[.int .i64 x.Keep, .int .i64 x.Move, d0] 27)) = w0 := ⟨_, rfl⟩
  rw [hw0] at hboxa hboxb hbl0
  have HA2 : Hid (Rd w (eIntS x.Cells) [c0]) := ha2
  have HB2 : Hid (Rd w (eIntS x.Cells) [d0]) := hb2
  have HXA := Lib.hid hboxa
  have HXB := Lib.hid hboxb
  have HBL := Lib.hid hbl0
  have HW := Lib.hid hw0
  clear hboxa hboxb hbl0 hw0 ha0 hb0 ha1 hb1 ha2 hb2
  go_enter Try.func10, Try.ntmps10
  go_wp2_with fail
  rw [HW.out]
  clear HW
  have hsz2 : (eIntS x.Cells).sz ≤ 1000000000 := by omega
  refine (h_eqIntS x.Cells c0 d0 w0 (HA2.out.below HBL.out) (HB2.out.below HBL.out) hsz2).mono ?_
  rintro e w1 ⟨rfl, hb2⟩
  have HXA' := Lib.hid ((hb2.block B (lt_of_block HXA.out)).trans HXA.out)
  have HXB' := Lib.hid ((hb2.block (B + 1) (lt_of_block HXB.out)).trans HXB.out)
  have HBL' := Lib.hid (below_step HBL.out hb2)
  clear HXA HXB HBL
  have HXA := HXA'
  have HXB := HXB'
  have HBL := HBL'
  clear HXA' HXB' HBL' hb2 hsz2
  go_wp2
  go_ret
  exact ⟨rfl, HBL.out⟩
end Tr
end Go.Proofs.Ythkjbjgpdapnpaa

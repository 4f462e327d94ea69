/- The laws' sizes. -/
import Derived.Test.YthkjbjgpdapnpaaEnc
import Derived.WalkKit
import Derived.ProofKit
import Derived.BigQuiet
import Derived.Deep.QuietTactic
import Derived.Deep.RegionHeld3
import Derived.Lib.Hide
namespace Go.Proofs.Ythkjbjgpdapnpaa
open Go.RowKit
namespace Tr
theorem h_szIntS (l : List Int) (v : Value) (m : Nat) (w : World) (h : Raw w (eIntS l) [v]) (hm : m ≤ 1000000000) :
    Calls Try.prog 20 #[v, .int .i64 m] w (SzP (eIntS l).sz m w) := by
  obtain ⟨A, n, cap, rfl, hn, hn2, _⟩ := read_raw (E := eI) (k := 1) h (fun _ => rfl) (by omega)
  have HZ : Hid ((eIntS l).sz = n) := by show _ = _; unfold eIntS; rw [rowD_sz, szs_zero (fun _ => rfl), hn]; rfl
  have HN := Lib.hid hn
  clear hn h
  rw [HZ.out]
  by_cases hlt : (m : Int) < n
  · have hd : decide ((m : Int) - n < 0) = true := by simp; omega
    go_enter Try.func20, Try.ntmps20
    go_wp2
    go_ret
    exact ⟨Or.inr ⟨by omega, rfl⟩, Below.refl _ _⟩
  · have hd : decide ((m : Int) - n < 0) = false := by simp; omega
    go_enter Try.func20, Try.ntmps20
    go_wp2
    go_ret
    exact ⟨Or.inl ⟨m - n, by omega, ret_int (by omega)⟩, Below.refl _ _⟩
theorem h_szPlan (x : GPlan) (c0 : Value) (m : Nat) (w : World) (h : Raw w (ePlan x) [.int .i64 x.Keep, .int .i64 x.Move, c0]) (hm : m ≤ 1000000000) :
    Calls Try.prog 6 #[.agg #[.int .i64 x.Keep, .int .i64 x.Move, c0], .int .i64 m] w (SzP (ePlan x).sz m w) := by
  obtain ⟨h0, ht0⟩ := raw_split h
  obtain ⟨h1, ht1⟩ := raw_split ht0
  have h2 := ht1
  obtain ⟨B, hB⟩ : ∃ B, w.heap.size = B := ⟨_, rfl⟩
  have hbox : (w.alloc (.cells #[.int .i64 x.Keep, .int .i64 x.Move, c0] 24)).heap[B]? = some (.cells #[.int .i64 x.Keep, .int .i64 x.Move, c0] 24 (0, 0)) := by rw [← hB]; exact heap_alloc_new w _
  have hb0 : Below w.heap.size w (w.alloc (.cells #[.int .i64 x.Keep, .int .i64 x.Move, c0] 24)) := (Below.refl _ _).alloc (Nat.le_refl _) _
  obtain ⟨w0, hw0⟩ : ∃ w0, w.alloc (.cells #[.int .i64 x.Keep, .int .i64 x.Move, c0] 24) = w0 := ⟨_, rfl⟩
  rw [hw0] at hbox hb0
  have H2 : Hid (Raw w (eIntS x.Cells) [c0]) := h2
  have HZ : Hid ((ePlan x).sz = (eI x.Keep).sz + ((eI x.Move).sz + ((eIntS x.Cells).sz))) := by show _ = _; rw [sz_Plan]
  have HZ0 : Hid ((eI x.Keep).sz = 0) := rfl
  have HZ1 : Hid ((eI x.Move).sz = 0) := rfl
  have HBX := Lib.hid hbox
  have HBL := Lib.hid hb0
  have HW := Lib.hid hw0
  clear hbox hb0 hw0 h0 h1 h2
  rw [HZ.out]
  obtain ⟨s2, hs2⟩ : ∃ s, (eIntS x.Cells).sz = s := ⟨_, rfl⟩
  rw [hs2]
  have HS2 := Lib.hid hs2
  clear hs2
  go_enter Try.func6, Try.ntmps6
  go_wp2_with fail
  rw [HW.out]
  clear HW
  refine (h_szIntS x.Cells c0 m w0 (raw_below HBL.out _ H2.out) (by omega)).mono ?_
  rintro e w1 ⟨hcase, hb2⟩
  rw [HS2.out] at hcase
  have HBX' := Lib.hid ((hb2.block B (lt_of_block HBX.out)).trans HBX.out)
  have HBL' := Lib.hid (below_step HBL.out hb2)
  clear HBX HBL
  have HBX := HBX'
  have HBL := HBL'
  clear HBX' HBL' hb2
  rcases hcase with ⟨q2, hq2, rfl⟩ | ⟨hm2, rfl⟩
  rotate_left
  · go_wp2
    go_ret
    exact ⟨Or.inr ⟨by have hz0 := HZ0.out; have hz1 := HZ1.out; omega, rfl⟩, HBL.out⟩
  have hqq2 : q2 ≤ 1000000000 := by omega
  go_wp2
  go_ret
  exact ⟨Or.inl ⟨q2, by have hz0 := HZ0.out; have hz1 := HZ1.out; omega, rfl⟩, HBL.out⟩
end Tr
end Go.Proofs.Ythkjbjgpdapnpaa

/- The laws' sizes. -/
import Derived.Test.YtbfdopnbclkfcaaEnc
import Derived.WalkKit
import Derived.ProofKit
import Derived.BigQuiet
import Derived.Deep.QuietTactic
import Derived.Deep.RegionHeld3
import Derived.Lib.Hide
namespace Go.Proofs.Ytbfdopnbclkfcaa
open Go.RowKit
namespace Tr
theorem h_szEntryS (l : List GEntry) (v : Value) (m : Nat) (w : World) (h : Raw w (eEntryS l) [v]) (hm : m ≤ 1000000000) :
    Calls Try.prog 44 #[v, .int .i64 m] w (SzP (eEntryS l).sz m w) := by
  obtain ⟨A, n, cap, rfl, hn, hn2, _⟩ := read_raw (E := eEntry) (k := 2) h (fun _ => rfl) (by omega)
  have HZ : Hid ((eEntryS l).sz = n) := by show _ = _; unfold eEntryS; rw [rowD_sz, szs_zero (fun _ => rfl), hn]; rfl
  have HN := Lib.hid hn
  clear hn h
  rw [HZ.out]
  by_cases hlt : (m : Int) < n
  · have hd : decide ((m : Int) - n < 0) = true := by simp; omega
    go_enter Try.func44, Try.ntmps44
    go_wp2
    go_ret
    exact ⟨Or.inr ⟨by omega, rfl⟩, Below.refl _ _⟩
  · have hd : decide ((m : Int) - n < 0) = false := by simp; omega
    go_enter Try.func44, Try.ntmps44
    go_wp2
    go_ret
    exact ⟨Or.inl ⟨m - n, by omega, ret_int (by omega)⟩, Below.refl _ _⟩
theorem h_szTable (x : GTable) (c0 : Value) (m : Nat) (w : World) (h : Raw w (eTable x) [c0]) (hm : m ≤ 1000000000) :
    Calls Try.prog 22 #[.agg #[c0], .int .i64 m] w (SzP (eTable x).sz m w) := by
  have h0 := h
  obtain ⟨B, hB⟩ : ∃ B, w.heap.size = B := ⟨_, rfl⟩
  have hbox : (w.alloc (.cells #[c0] 43)).heap[B]? = some (.cells #[c0] 43 (0, 0)) := by rw [← hB]; exact heap_alloc_new w _
  have hb0 : Below w.heap.size w (w.alloc (.cells #[c0] 43)) := (Below.refl _ _).alloc (Nat.le_refl _) _
  obtain ⟨w0, hw0⟩ : ∃ w0, w.alloc (.cells #[c0] 43) = w0 := ⟨_, rfl⟩
  rw [hw0] at hbox hb0
  have H0 : Hid (Raw w (eEntryS x.Entries) [c0]) := h0
  have HZ : Hid ((eTable x).sz = (eEntryS x.Entries).sz) := by show _ = _; rw [sz_Table]
  have HBX := Lib.hid hbox
  have HBL := Lib.hid hb0
  have HW := Lib.hid hw0
  clear hbox hb0 hw0 h0
  rw [HZ.out]
  obtain ⟨s0, hs0⟩ : ∃ s, (eEntryS x.Entries).sz = s := ⟨_, rfl⟩
  rw [hs0]
  have HS0 := Lib.hid hs0
  clear hs0
  go_enter Try.func22, Try.ntmps22
  go_wp2_with fail
  rw [HW.out]
  clear HW
  refine (h_szEntryS x.Entries c0 m w0 (raw_below HBL.out _ H0.out) (by omega)).mono ?_
  rintro e w1 ⟨hcase, hb0⟩
  rw [HS0.out] at hcase
  have HBX' := Lib.hid ((hb0.block B (lt_of_block HBX.out)).trans HBX.out)
  have HBL' := Lib.hid (below_step HBL.out hb0)
  clear HBX HBL
  have HBX := HBX'
  have HBL := HBL'
  clear HBX' HBL' hb0
  rcases hcase with ⟨q0, hq0, rfl⟩ | ⟨hm0, rfl⟩
  rotate_left
  · go_wp2
    go_ret
    exact ⟨Or.inr ⟨by omega, rfl⟩, HBL.out⟩
  have hqq0 : q0 ≤ 1000000000 := by omega
  go_wp2
  go_ret
  exact ⟨Or.inl ⟨q0, by omega, rfl⟩, HBL.out⟩
end Tr
end Go.Proofs.Ytbfdopnbclkfcaa

/- What ParseUint returns at the text of a number. -/
import Derived.Test.YtjgolnmbnkgbdaaDoorParseImpl
namespace Go.Proofs.YtjgolnmbnkgbdaaDoor
open Go.RowKit
namespace Num
open Own Hex Fmt
theorem itoa_ne (n : Int) : ∃ c r, Lib.itoa n = c :: r := by
  unfold Lib.itoa
  split
  · exact ⟨_, _, rfl⟩
  · obtain ⟨c, r, e, _⟩ := dec_head n.toNat
    exact ⟨c, r, e⟩
theorem canon_itoa (n m : Int) (h : Canon (Lib.itoa n) m) : m = n := by
  rcases (show n < 0 ∨ 0 ≤ n by omega) with hn | hn
  · exfalso
    have h1 := h.all 45 (by unfold Lib.itoa; rw [if_pos hn]; simp)
    have : (45 : UInt8).toNat = 45 := rfl
    omega
  · obtain ⟨k, rfl⟩ := Int.eq_ofNat_of_zero_le hn
    have h1 := h.val
    rw [itoa_nat, valL_dec] at h1
    exact h1.symm
theorem retU_in {n : Int} {w w' : World} {e : Ending} (h0 : 0 ≤ n) (h1 : n ≤ 1000000000) (h : RetU (Lib.itoa n) w e w') : e = .returned (.tuple #[.int .i64 n, .bool true]) ∧ Below w.heap.size w w' := by
  refine ⟨?_, h.2⟩
  rcases h.1 with ⟨m, hm, rfl⟩ | ⟨hno, _⟩
  · rw [canon_itoa n m hm]
  · exact absurd ⟨h0, h1, rfl⟩ (hno n)
theorem retU_out {n : Int} {w w' : World} {e : Ending} (h0 : ¬ (0 ≤ n ∧ n ≤ 1000000000)) (h : RetU (Lib.itoa n) w e w') : e = .returned (.tuple #[.int .i64 0, .bool false]) ∧ Below w.heap.size w w' := by
  refine ⟨?_, h.2⟩
  rcases h.1 with ⟨m, hm, _⟩ | ⟨_, rfl⟩
  · have := canon_itoa n m hm
    subst this
    exact absurd ⟨hm.1, hm.2.1⟩ h0
  · rfl
theorem itoa_small (n : Int) (h : (Lit.int .i64 n).wf = true) : (ByteArray.mk (Lib.itoa n).toArray).size ≤ 100 := by
  have hb : -9223372036854775808 ≤ n ∧ n ≤ 9223372036854775807 := by simpa [Lit.wf, IntKind.min, IntKind.max, IntKind.signed, IntKind.bits] using h
  have hs : (ByteArray.mk (Lib.itoa n).toArray).size = (Lib.itoa n).length := by show (Lib.itoa n).toArray.size = _; simp
  rw [hs]
  unfold Lib.itoa
  split
  · have := dec_len n.natAbs 20 (by omega) (by omega)
    simp; omega
  · have := dec_len n.toNat 20 (by omega) (by omega)
    omega
end Num
end Go.Proofs.YtjgolnmbnkgbdaaDoor

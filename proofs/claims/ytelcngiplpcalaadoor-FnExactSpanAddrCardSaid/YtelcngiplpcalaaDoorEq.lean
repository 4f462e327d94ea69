/- The laws' comparisons. -/
import Derived.Test.YtelcngiplpcalaaDoorEnc
import Derived.WalkKit
import Derived.ProofKit
import Derived.BigQuiet
import Derived.Deep.QuietTactic
import Derived.Deep.RegionHeld3
import Derived.Lib.Hide
namespace Go.Proofs.YtelcngiplpcalaaDoor
open Go.RowKit
namespace Tr
theorem h_eqIntS (l : List Int) (a b : Value) (w : World) (ha : Rd w (eIntS l) [a]) (hb : Rd w (eIntS l) [b]) (hs : (eIntS l).sz ≤ 1000000000) :
    Calls Tryd.prog 35 #[a, b] w (TrueP w) := by
  obtain ⟨bs1, ha⟩ := ha
  obtain ⟨bs2, hb⟩ := hb
  have hl := sz_len hs
  obtain ⟨A, n, c1, rfl, hn, _, _, hA⟩ := read_plain (V := fun x => .int .i64 x) ha (fun _ => rfl)
  obtain ⟨B, n2, c2, rfl, hn2, _, _, hB⟩ := read_plain (V := fun x => .int .i64 x) hb (fun _ => rfl)
  obtain rfl : n2 = n := by rw [hn, hn2]
  have HA := Lib.hid hA
  have HB := Lib.hid hB
  have hl' : (n2 : Int) ≤ 1000000000 := by omega
  clear ha hb hA hB hn2 hn hl hs
  go_enter Tryd.func35, Tryd.ntmps35
  go_wp2
  go_loopw [5] (fun c wr => ∃ (i m : Nat), i ≤ n2 ∧ c = .int .i64 i ∧ wr = w.drewN m) (fun c _ => n2 - (intOf c).toNat)
  case atStart => exact ⟨0, 0, Nat.zero_le _, rfl, rfl⟩
  case round =>
    obtain ⟨i, m, hi, rfl, rfl⟩ := hrel
    by_cases hlt : (i : Int) < n2
    · have hi0 : (0 : Int) ≤ i := by omega
      obtain ⟨g, o, t, rfl, hx, hca⟩ := HA.out i (by omega)
      obtain ⟨g2, o2, t2, rfl, hy, hcb⟩ := HB.out i (by omega)
      obtain rfl : t2 = t := Option.some.inj (hy.symm.trans hx)
      clear hx hy
      have htt : (t2 != t2) = false := by simp
      go_wp2_with fail
      go_quiet (fail)
      go_wp2
      go_roundw
      case rel => exact ⟨i + 1, _, by omega, by go_num, rfl⟩
      case measure => simp [intOf]; omega
    · go_wp2
      go_ret
      exact ⟨rfl, below_drewN (Below.refl _ _) m⟩
theorem h_eqSpan (x : GSpan) (w : World) :
    Calls Tryd.prog 30 #[.agg #[.int .i64 x.Page, .int .i64 x.Class, .int .i64 x.Bits], .agg #[.int .i64 x.Page, .int .i64 x.Class, .int .i64 x.Bits]] w (TrueP w) := by
  have hq0 : (x.Page != x.Page) = false := by simp
  have hq1 : (x.Class != x.Class) = false := by simp
  have hq2 : (x.Bits != x.Bits) = false := by simp
  generalize x.Page = y0 at *
  generalize x.Class = y1 at *
  generalize x.Bits = y2 at *
  go_enter Tryd.func30, Tryd.ntmps30
  go_wp2
  go_ret
  exact ⟨rfl, ((Below.refl _ _).alloc (Nat.le_refl _) _).alloc (by simp) _⟩
end Tr
end Go.Proofs.YtelcngiplpcalaaDoor

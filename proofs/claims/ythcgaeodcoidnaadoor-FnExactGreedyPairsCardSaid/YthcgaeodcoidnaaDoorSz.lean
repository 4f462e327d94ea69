/- The laws' sizes. -/
import Derived.Test.YthcgaeodcoidnaaDoorEnc
import Derived.WalkKit
import Derived.ProofKit
import Derived.BigQuiet
import Derived.Deep.QuietTactic
import Derived.Deep.RegionHeld3
import Derived.Lib.Hide
namespace Go.Proofs.YthcgaeodcoidnaaDoor
open Go.RowKit
namespace Tr
theorem h_szPairS (l : List GPair) (v : Value) (m : Nat) (w : World) (h : Raw w (ePairS l) [v]) (hm : m ≤ 1000000000) :
    Calls Tryd.prog 27 #[v, .int .i64 m] w (SzP (ePairS l).sz m w) := by
  obtain ⟨A, n, cap, rfl, hn, hn2, _⟩ := read_raw (E := ePair) (k := 2) h (fun _ => rfl) (by omega)
  have HZ : Hid ((ePairS l).sz = n) := by show _ = _; unfold ePairS; rw [rowD_sz, szs_zero (fun _ => rfl), hn]; rfl
  have HN := Lib.hid hn
  clear hn h
  rw [HZ.out]
  by_cases hlt : (m : Int) < n
  · have hd : decide ((m : Int) - n < 0) = true := by simp; omega
    go_enter Tryd.func27, Tryd.ntmps27
    go_wp2
    go_ret
    exact ⟨Or.inr ⟨by omega, rfl⟩, Below.refl _ _⟩
  · have hd : decide ((m : Int) - n < 0) = false := by simp; omega
    go_enter Tryd.func27, Tryd.ntmps27
    go_wp2
    go_ret
    exact ⟨Or.inl ⟨m - n, by omega, ret_int (by omega)⟩, Below.refl _ _⟩
theorem h_szSpanS (l : List GSpan) (v : Value) (m : Nat) (w : World) (h : Raw w (eSpanS l) [v]) (hm : m ≤ 1000000000) :
    Calls Tryd.prog 19 #[v, .int .i64 m] w (SzP (eSpanS l).sz m w) := by
  obtain ⟨A, n, cap, rfl, hn, hn2, _⟩ := read_raw (E := eSpan) (k := 3) h (fun _ => rfl) (by omega)
  have HZ : Hid ((eSpanS l).sz = n) := by show _ = _; unfold eSpanS; rw [rowD_sz, szs_zero (fun _ => rfl), hn]; rfl
  have HN := Lib.hid hn
  clear hn h
  rw [HZ.out]
  by_cases hlt : (m : Int) < n
  · have hd : decide ((m : Int) - n < 0) = true := by simp; omega
    go_enter Tryd.func19, Tryd.ntmps19
    go_wp2
    go_ret
    exact ⟨Or.inr ⟨by omega, rfl⟩, Below.refl _ _⟩
  · have hd : decide ((m : Int) - n < 0) = false := by simp; omega
    go_enter Tryd.func19, Tryd.ntmps19
    go_wp2
    go_ret
    exact ⟨Or.inl ⟨m - n, by omega, ret_int (by omega)⟩, Below.refl _ _⟩
end Tr
end Go.Proofs.YthcgaeodcoidnaaDoor

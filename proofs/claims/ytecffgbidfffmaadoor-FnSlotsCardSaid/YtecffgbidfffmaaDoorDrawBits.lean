/- The sizes and bitmaps that chapter 2's draws give. -/
import Derived.Test.YtecffgbidfffmaaDoorDraw
import Derived.Test.YtecffgbidfffmaaDoorBitMath
namespace Go.Proofs.YtecffgbidfffmaaDoor
open Go.RowKit
namespace Dr
open Bm
def SizeP (w : World) (k : Nat) (a : Option Addr) (len cap : Nat) (zs : List Int) (e : Ending) (w' : World) : Prop :=
  ∃ n : Nat, (n = 2 ∨ n = 4 ∨ n = 8 ∨ n = 16) ∧ e = .returned (.int .i64 n) ∧ Step w w' k a len cap zs
theorem size2 {w : World} {k : Nat} {a : Option Addr} {len cap : Nat} {zs : List Int} (hs : Src w k a len cap zs) :
    Calls Tryd.prog 29 #[.pointer (some ⟨k, 0, none⟩)] w (SizeP w k a len cap zs) := by
  have HS := Lib.hid hs; clear hs
  go_enter Tryd.func29, Tryd.ntmps29
  go_wp2_with fail
  refine (pickInt (HS.out.refl.alloc _).src w.heap.size 4 4 [2, 4, 8, 16] (Nat.ne_of_gt HS.out.lt) (heap_new _ _) rfl (by omega) (by omega)).mono ?_
  rintro e w2 ⟨y, hy, rfl, hst⟩
  have HT := Lib.hid ((HS.out.refl.alloc _).trans hst); clear hst
  have hy4 : Hid (∃ n : Nat, (n = 2 ∨ n = 4 ∨ n = 8 ∨ n = 16) ∧ y = (n : Int)) := by
    simp only [List.mem_cons, List.not_mem_nil, or_false] at hy
    rcases hy with rfl | rfl | rfl | rfl
    · exact ⟨2, by omega, rfl⟩
    · exact ⟨4, by omega, rfl⟩
    · exact ⟨8, by omega, rfl⟩
    · exact ⟨16, by omega, rfl⟩
  clear hy
  go_wp2
  go_ret
  obtain ⟨n, hn, rfl⟩ := hy4.out
  exact ⟨n, hn, rfl, HT.out⟩
def MapP (n : Nat) (w : World) (k : Nat) (a : Option Addr) (len cap : Nat) (zs : List Int) (e : Ending) (w' : World) : Prop :=
  ∃ b : Nat, b < 2 ^ n ∧ e = .returned (.int .i64 b) ∧ Step w w' k a len cap zs
theorem or_lt {b i : Nat} (h : b < 2 ^ i) : b ||| 2 ^ i < 2 ^ (i + 1) :=
  Nat.or_lt_two_pow (Nat.lt_of_lt_of_le h (Nat.pow_le_pow_right (by decide) (by omega))) (Nat.pow_lt_pow_right (by decide) (by omega))
theorem map2 {w : World} {k : Nat} {a : Option Addr} {len cap : Nat} {zs : List Int} (hs : Src w k a len cap zs) (n : Nat) (hn : n ≤ 16) :
    Calls Tryd.prog 30 #[.pointer (some ⟨k, 0, none⟩), .int .i64 n] w (MapP n w k a len cap zs) := by
  have HS := Lib.hid hs; clear hs
  have hn' : (n : Int) ≤ 16 := by omega
  go_enter Tryd.func30, Tryd.ntmps30
  go_wp2_with fail
  refine (below HS.out _).mono ?_
  rintro e w1 ⟨x, hx0, hx1, _, rfl, hst⟩
  have hx2 : x < 4 := hx1 (by omega)
  clear hx1
  have H1 := Lib.hid hst; clear hst
  go_wp2
  go_loopw [5, 7] (fun v c wr => ∃ (i b : Nat), i ≤ n ∧ c = .int .i64 i ∧ v = .int .i64 b ∧ Hid (b < 2 ^ i) ∧ Hid (Step w wr k a len cap zs)) (fun _ c _ => n - (intOf c).toNat)
  case atStart => exact ⟨0, 0, Nat.zero_le _, rfl, rfl, (by show (0 : Nat) < 2 ^ 0; decide), H1.out⟩
  case round =>
    obtain ⟨i, b, hi, rfl, rfl, HBI, HT⟩ := hrel
    by_cases hlt : (i : Int) < n
    · have hi0 : (0 : Int) ≤ i := by omega
      go_wp2_with fail
      refine (once HT.out.src _).mono ?_
      rintro e w2 ⟨c, rfl, hst⟩
      have HT2 := Lib.hid (HT.out.trans hst); clear hst
      cases c
      · have HB2 : Hid (b < 2 ^ (i + 1)) := Nat.lt_of_lt_of_le HBI.out (Nat.pow_le_pow_right (by decide) (by omega))
        go_wp2
        go_roundw
        case rel => exact ⟨i + 1, b, by omega, by go_num, rfl, HB2.out, HT2.out⟩
        case measure => simp [intOf]; omega
      · have HB2 := Lib.hid (or_lt HBI.out)
        have HV : Hid (bits BinOp.or IntKind.i64 (b : Int) (wrap64 (2 ^ i)) = ((b ||| 2 ^ i : Nat) : Int)) := by
          show _ = _
          have hp := pow_lt (i := i) (by omega)
          rw [wrap_pow i (by omega)]
          exact or_nat b (2 ^ i) (by have := HBI.out; omega) (by omega)
        go_wp2
        go_roundw
        case rel => exact ⟨i + 1, b ||| 2 ^ i, by omega, by go_num, congrArg (Value.int .i64) HV.out, HB2.out, HT2.out⟩
        case measure => simp [intOf]; omega
    · obtain rfl : i = n := by omega
      go_wp2
      go_ret
      exact ⟨b, HBI.out, rfl, HT.out⟩
def DrawBitmapP (w : World) (e : Ending) (w' : World) : Prop :=
  ∃ n b c : Nat, (n = 2 ∨ n = 4 ∨ n = 8 ∨ n = 16) ∧ b < 2 ^ n ∧ c < 2 ^ n ∧ e = .returned (.tuple #[.int .i64 n, .int .i64 b, .int .i64 c]) ∧ Below w.heap.size w w'
theorem Step.stays5 {w w1 w2 : World} {a : Option Addr} {len cap : Nat} {zs : List Int} (h : Below w.heap.size w w1) (s : Step w1 w2 w.heap.size a len cap zs) : Below w.heap.size w w2 :=
  h.grown s.grown h.size (fun k hk => by cases hk; omega)
theorem drawBitmap {w : World} {a : Option Addr} {len cap : Nat} {zs : List Int} (hr : IsRow .u8 w a len cap zs) (hlen : len ≤ 1048576) :
    Calls Tryd.prog 11 #[.slice a len cap] w (DrawBitmapP w) := by
  have HR := Lib.hid hr; clear hr
  go_enter Tryd.func11, Tryd.ntmps11
  go_wp2_with fail
  refine (new HR.out hlen).mono ?_
  rintro e w1 ⟨rfl, hb1, hs1⟩
  have HB := Lib.hid hb1; clear hb1
  have H1 := Lib.hid hs1; clear hs1
  go_wp2_with fail
  refine (size2 H1.out).mono ?_
  rintro e w2 ⟨n, hn, rfl, hst⟩
  have HN := Lib.hid hn
  have hn16 : n ≤ 16 := by omega
  clear hn
  have H2 := Lib.hid hst; clear hst
  go_wp2_with fail
  refine (map2 H2.out.src n hn16).mono ?_
  rintro e w3 ⟨b, hb, rfl, hst⟩
  have HB3 := Lib.hid hb; clear hb
  have H3 := Lib.hid (H2.out.trans hst); clear hst
  go_wp2_with fail
  refine (map2 H3.out.src n hn16).mono ?_
  rintro e w4 ⟨c, hc, rfl, hst⟩
  have HC3 := Lib.hid hc; clear hc
  have H4 := Lib.hid (H3.out.trans hst); clear hst
  go_wp2
  go_ret3
  exact ⟨n, b, c, HN.out, HB3.out, HC3.out, rfl, Step.stays5 HB.out H4.out⟩
end Dr
end Go.Proofs.YtecffgbidfffmaaDoor

/- FormatInt of the model returns the decimal text of every number. -/
import Derived.Test.YtjgolnmbnkgbdaaDoorHexSpec
import Derived.Lib.ItoaNum
namespace Go.Proofs.YtjgolnmbnkgbdaaDoor
open Go.RowKit
namespace Fmt
open Own Hex
/-- the digits of a number, none for 0 -/
def digs (m : Nat) : List UInt8 := if m = 0 then [] else Lib.decDigits m
theorem digs_zero : digs 0 = [] := rfl
theorem digs_step (m : Nat) (h : 0 < m) : digs m = digs (m / 10) ++ [dig (m % 10)] := by
  unfold digs
  rw [if_neg (by omega)]
  have hd : ∀ n, n < 10 → dig n = UInt8.ofNat (48 + n) := fun n hn => by unfold dig; rw [if_pos hn]
  rw [hd _ (by omega)]
  by_cases h1 : m < 10
  · rw [Lib.decDigits, dif_pos h1, if_pos (by omega)]
    simp [Nat.mod_eq_of_lt h1]
  · rw [Lib.decDigits, dif_neg h1, if_neg (by omega)]

theorem byte_string {P : Program} (src dst e : TypeId) (c : UInt8) (hs : P.underlying src = some (.slice e)) (he : P.underlying e = some (.int .u8)) (hd : P.underlying dst = some .string) (w : World) :
    (convert src dst (.slice (some ⟨w.heap.size, 0, none⟩) 1 1)).run P (w.alloc (.cells #[.int .u8 (c.toNat : Int)] e)) = .ok (.string ⟨#[c]⟩) (w.alloc (.cells #[.int .u8 (c.toNat : Int)] e)) := by
  have h := run_convert_bytes_back (P := P) (w.alloc (.cells #[.int .u8 (c.toNat : Int)] e)) src dst e ⟨w.heap.size, 0, none⟩ 1 [c] hs he hd (fun j hj => by
    have : j = 0 := by simp at hj; omega
    subst this
    simp [Addr.add, World.cell?_alloc_mark])
  exact h

theorem digs_len (m k : Nat) (h : m < 10 ^ k) : (digs m).length ≤ k := by
  induction k generalizing m with
  | zero => have : m = 0 := by simp at h; omega
            subst this; simp [digs]
  | succ k ih =>
    by_cases h0 : m = 0
    · subst h0; simp [digs]
    · rw [digs_step m (by omega), List.length_append]
      have := ih (m / 10) (by rw [Nat.pow_succ] at h; omega)
      simp; omega
theorem tmod_neg (x : Int) (h : x ≤ 0) : x.tmod 10 = -((x.natAbs % 10 : Nat) : Int) := by
  obtain ⟨m, rfl⟩ : ∃ m : Nat, x = -(m : Int) := ⟨x.natAbs, by omega⟩
  rw [Int.neg_tmod, Int.tmod_eq_emod_of_nonneg (by omega)]
  simp
theorem tdiv_neg (x : Int) (h : x ≤ 0) : x.tdiv 10 = -((x.natAbs / 10 : Nat) : Int) := by
  obtain ⟨m, rfl⟩ : ∃ m : Nat, x = -(m : Int) := ⟨x.natAbs, by omega⟩
  rw [Int.neg_tdiv, Int.tdiv_eq_ediv_of_nonneg (by omega)]
  simp
theorem joined (a b : List UInt8) : (ByteArray.mk a.toArray ++ ByteArray.mk b.toArray) = ByteArray.mk (a ++ b).toArray := by
  apply ByteArray.ext
  simp

theorem next_bd {x y : Int} (hx : x ≤ 0) (h : -9223372036854775808 ≤ x) (hy : y = -((x.natAbs / 10 : Nat) : Int)) : Hid (-9223372036854775808 ≤ y) := by show _ ≤ _; rw [hy]; omega
theorem next_digs {x y : Int} {l r : List UInt8} (h0 : x ≠ 0) (h : digs x.natAbs ++ l = r) (hy : y = -((x.natAbs / 10 : Nat) : Int)) : Hid (digs y.natAbs ++ dig (x.natAbs % 10) :: l = r) := by
  show _ = _
  rw [digs_step x.natAbs (by omega)] at h
  rw [hy, Int.natAbs_neg, Int.natAbs_natCast]
  simpa using h

theorem next_bd' {x : Int} (hx : 0 ≤ x) (h : x ≤ 9223372036854775807) : Hid (x / 10 ≤ 9223372036854775807) := by show _ ≤ _; omega
theorem next_digs' {x y : Int} {l r : List UInt8} (h0 : x ≠ 0) (h : digs x.natAbs ++ l = r) (hy : y = ((x.natAbs / 10 : Nat) : Int)) : Hid (digs y.natAbs ++ dig (x.natAbs % 10) :: l = r) := by
  show _ = _
  rw [digs_step x.natAbs (by omega)] at h
  rw [hy, Int.natAbs_natCast]
  simpa using h

def RetT (l : List UInt8) (w : World) (e : Ending) (w' : World) : Prop := e = .returned (.string ⟨l.toArray⟩) ∧ Below w.heap.size w w'

theorem spec_zero (w : World) : Calls Tryd.prog 19 #[.int .i64 0] w (RetT (Lib.itoa 0) w) := by
  go_enter Tryd.func19, Tryd.ntmps19
  go_wp2
  go_ret
  exact ⟨by rw [show Lib.itoa 0 = [48] by simp [Lib.itoa, Lib.decDigits]]; rfl, Below.refl _ _⟩

theorem spec_neg (n : Int) (w : World) (h : n < 0) (h63 : -9223372036854775808 ≤ n) : Calls Tryd.prog 19 #[.int .i64 n] w (RetT (Lib.itoa n) w) := by
  have H63 := Lib.hid h63; clear h63
  have hne : (n == 0) = false := by simp; omega
  go_enter Tryd.func19, Tryd.ntmps19
  go_wp2
  go_loopw [0, 4] (fun v0 v4 wr => ∃ (x : Int) (l : List UInt8), v0 = .int .i64 x ∧ v4 = .string ⟨l.toArray⟩ ∧ x ≤ 0 ∧ Hid (-9223372036854775808 ≤ x) ∧ Hid (digs x.natAbs ++ l = digs n.natAbs) ∧ Hid (Below w.heap.size w wr)) (fun v0 _ _ => (intOf v0).natAbs)
  case atStart => exact ⟨n, [], rfl, rfl, by omega, H63.out, by simp [Hid], Below.refl _ _⟩
  case round =>
    obtain ⟨x, l, rfl, rfl, hx, HX, HL, HB⟩ := hrel
    have hll : l.length ≤ 19 := by
      have e := congrArg List.length HL.out
      have := digs_len n.natAbs 19 (by have := H63.out; omega)
      simp at e; omega
    have HLL := Lib.hid hll
    have hl1 : ¬ (9223372036854775807 < 1 + l.length) := by omega
    by_cases h0 : x = 0
    · subst h0
      have HF : Hid (RetT (Lib.itoa n) w (.returned (.string (ByteArray.mk #[45] ++ ByteArray.mk l.toArray))) wr) := by
        refine ⟨?_, HB.out⟩
        have e : l = Lib.decDigits n.natAbs := by have := HL.out; simpa [digs, show n ≠ 0 by omega] using this
        rw [e]; unfold Lib.itoa; rw [if_pos h, joined]; rfl
      go_wp2
      go_ret
      exact HF.out
    · have hne1 : (x != 0) = true := by simp; omega
      have htm := tmod_neg x hx
      have htd := tdiv_neg x hx
      have hw64 : wrap64 (x.tdiv 10) = x.tdiv 10 := by rw [htd]; have := HX.out; unfold wrap64; omega
      by_cases hd : x.tmod 10 < 0
      · have hd9 : -9 ≤ x.tmod 10 := by rw [htm]; omega
        have HTM := Lib.hid htm; clear htm
        have HTD := Lib.hid htd; clear htd
        go_wp2_with fail
        refine (figure _ _ (by omega) (by omega)).mono ?_
        rintro e w' ⟨rfl, rfl⟩
        have ec : (-x.tmod 10).toNat = x.natAbs % 10 := by rw [HTM.out]; omega
        rw [ec]
        have hbs := byte_string (P := Tryd.prog) 22 9 5 (dig (x.natAbs % 10)) Tryd.underlying22 Tryd.underlying5 Tryd.underlying9
        go_wp2
        go_roundw
        case rel => exact ⟨x.tdiv 10, dig (x.natAbs % 10) :: l, congrArg (Value.int .i64) hw64, congrArg Value.string (joined [dig (x.natAbs % 10)] l), by rw [HTD.out]; omega, next_bd hx HX.out HTD.out, next_digs h0 HL.out HTD.out, HB.out.alloc HB.out.size _⟩
        case measure => simp only [intOf]; rw [hw64, HTD.out]; simp; omega
      · have hd0 : x.tmod 10 = 0 := by rw [htm] at hd ⊢; omega
        have ec : (0 : Int).toNat = x.natAbs % 10 := by rw [htm] at hd0; omega
        have EC := Lib.hid ec; clear ec
        have HTD := Lib.hid htd; clear htd htm hd
        go_wp2_with fail
        refine (figure _ _ (by omega) (by omega)).mono ?_
        rintro e w' ⟨rfl, rfl⟩
        rw [EC.out]
        have hbs := byte_string (P := Tryd.prog) 22 9 5 (dig (x.natAbs % 10)) Tryd.underlying22 Tryd.underlying5 Tryd.underlying9
        go_wp2
        go_roundw
        case rel => exact ⟨x.tdiv 10, dig (x.natAbs % 10) :: l, congrArg (Value.int .i64) hw64, congrArg Value.string (joined [dig (x.natAbs % 10)] l), by rw [HTD.out]; omega, next_bd hx HX.out HTD.out, next_digs h0 HL.out HTD.out, HB.out.alloc HB.out.size _⟩
        case measure => simp only [intOf]; rw [hw64, HTD.out]; simp; omega
theorem spec_pos (n : Int) (w : World) (h : 0 < n) (h63 : n ≤ 9223372036854775807) : Calls Tryd.prog 19 #[.int .i64 n] w (RetT (Lib.itoa n) w) := by
  have H63 := Lib.hid h63; clear h63
  have hne : (n == 0) = false := by simp; omega
  go_enter Tryd.func19, Tryd.ntmps19
  go_wp2
  go_loopw [0, 4] (fun v0 v4 wr => ∃ (x : Int) (l : List UInt8), v0 = .int .i64 x ∧ v4 = .string ⟨l.toArray⟩ ∧ 0 ≤ x ∧ Hid (x ≤ 9223372036854775807) ∧ Hid (digs x.natAbs ++ l = digs n.natAbs) ∧ Hid (Below w.heap.size w wr)) (fun v0 _ _ => (intOf v0).natAbs)
  case atStart => exact ⟨n, [], rfl, rfl, by omega, H63.out, by simp [Hid], Below.refl _ _⟩
  case round =>
    obtain ⟨x, l, rfl, rfl, hx, HX, HL, HB⟩ := hrel
    have hll : l.length ≤ 19 := by
      have e := congrArg List.length HL.out
      have := digs_len n.natAbs 19 (by have := H63.out; omega)
      simp at e; omega
    have HLL := Lib.hid hll
    have hl1 : ¬ (9223372036854775807 < 1 + l.length) := by omega
    by_cases h0 : x = 0
    · subst h0
      have HF : Hid (RetT (Lib.itoa n) w (.returned (.string ⟨l.toArray⟩)) wr) := by
        refine ⟨?_, HB.out⟩
        have e : l = Lib.decDigits n.natAbs := by have := HL.out; simpa [digs, show n ≠ 0 by omega] using this
        rw [e]; unfold Lib.itoa; rw [if_neg (by omega), show n.natAbs = n.toNat by omega]
      go_wp2
      go_ret
      exact HF.out
    · have hne1 : (x != 0) = true := by simp; omega
      have htm : x.tmod 10 = ((x.natAbs % 10 : Nat) : Int) := by rw [Int.tmod_eq_emod_of_nonneg hx]; omega
      have htd : x.tdiv 10 = ((x.natAbs / 10 : Nat) : Int) := by rw [Int.tdiv_eq_ediv_of_nonneg hx]; omega
      have hme : x % 10 = ((x.natAbs % 10 : Nat) : Int) := by omega
      have hq0 : 0 ≤ x % 10 := by omega
      have hq1 : x % 10 < 10 := by omega
      have EC := Lib.hid (show (x % 10).toNat = x.natAbs % 10 by omega)
      have HTD := Lib.hid (show x / 10 = ((x.natAbs / 10 : Nat) : Int) by omega)
      have HTT := Lib.hid (show x.tdiv 10 = x / 10 from Int.tdiv_eq_ediv_of_nonneg hx)
      have HTM := Lib.hid (show x.tmod 10 = x % 10 from Int.tmod_eq_emod_of_nonneg hx)
      clear htm htd hme
      have hw64 : wrap64 (x / 10) = x / 10 := by have := HX.out; unfold wrap64; omega
      go_wp2_with fail
      refine (figure _ _ hq0 (by omega)).mono ?_
      rintro e w' ⟨rfl, rfl⟩
      rw [EC.out]
      have hbs := byte_string (P := Tryd.prog) 22 9 5 (dig (x.natAbs % 10)) Tryd.underlying22 Tryd.underlying5 Tryd.underlying9
      go_wp2
      go_roundw
      case rel => exact ⟨x / 10, dig (x.natAbs % 10) :: l, congrArg (Value.int .i64) (by rw [HTT.out, hw64]), congrArg Value.string (joined [dig (x.natAbs % 10)] l), by omega, next_bd' hx HX.out, next_digs' h0 HL.out HTD.out, HB.out.alloc HB.out.size _⟩
      case measure => simp only [intOf]; rw [HTT.out, hw64]; omega
theorem specFormat (n : Int) (w : World) (hw : (Lit.int .i64 n).wf = true) : Calls Tryd.prog 19 #[.int .i64 n] w (RetT (Lib.itoa n) w) := by
  have hb : -9223372036854775808 ≤ n ∧ n ≤ 9223372036854775807 := by simpa [Lit.wf, IntKind.min, IntKind.max, IntKind.signed, IntKind.bits] using hw
  rcases Int.lt_trichotomy n 0 with h | rfl | h
  · exact spec_neg n w h hb.1
  · exact spec_zero w
  · exact spec_pos n w h hb.2
end Fmt
end Go.Proofs.YtjgolnmbnkgbdaaDoor

/- The laws' helper that gives a mark for a number: one text for each number. -/
import Derived.Test.YtjgolnmbnkgbdaaOwn
import Derived.Deep.AppendLies
namespace Go.Proofs.Ytjgolnmbnkgbdaa
open Go.RowKit
namespace Mk
open Own
def digD (m : Nat) : List UInt8 := if _h : m = 0 then [] else digD (m / 10) ++ [UInt8.ofNat (48 + m % 10)]
  termination_by m
  decreasing_by omega
theorem digD_zero : digD 0 = [] := by rw [digD]; simp
theorem digD_step (m : Nat) (h : 0 < m) : digD m = digD (m / 10) ++ [UInt8.ofNat (48 + m % 10)] := by rw [digD, dif_neg (by omega)]
theorem digD_len (m k : Nat) (h : m < 10 ^ k) : (digD m).length ≤ k := by
  induction k generalizing m with
  | zero => have : m = 0 := by simp at h; omega
            subst this; simp [digD_zero]
  | succ k ih =>
    by_cases h0 : m = 0
    · subst h0; simp [digD_zero]
    · rw [digD_step m (by omega), List.length_append]
      have := ih (m / 10) (by rw [Nat.pow_succ] at h; omega)
      simp; omega
theorem joined (a b : List UInt8) : (ByteArray.mk a.toArray ++ ByteArray.mk b.toArray) = ByteArray.mk (a ++ b).toArray := by
  apply ByteArray.ext
  simp
/-- the mark of a number -/
def markL (k : Nat) : List UInt8 := 109 :: digD k
theorem byte_string {P : Program} (src dst e : TypeId) (z : Int) (h0 : 0 ≤ z) (h1 : z < 256) (hs : P.underlying src = some (.slice e)) (he : P.underlying e = some (.int .u8)) (hd : P.underlying dst = some .string) (w : World) :
    (convert src dst (.slice (some ⟨w.heap.size, 0, none⟩) 1 1)).run P (w.alloc (.cells #[.int .u8 z] e)) = .ok (.string ⟨#[UInt8.ofNat z.toNat]⟩) (w.alloc (.cells #[.int .u8 z] e)) := by
  have ez : ((UInt8.ofNat z.toNat).toNat : Int) = z := by
    have : (UInt8.ofNat z.toNat).toNat = z.toNat := by simp; omega
    rw [this]; omega
  have h := run_convert_bytes_back (P := P) (w.alloc (.cells #[.int .u8 z] e)) src dst e ⟨w.heap.size, 0, none⟩ 1 [UInt8.ofNat z.toNat] hs he hd (fun j hj => by
    have : j = 0 := by simp at hj; omega
    subst this
    simp only [List.getElem_cons_zero, ez]
    simp [Addr.add, World.cell?_alloc_mark])
  exact h

def MarkP (k : Nat) (w : World) (e : Ending) (w' : World) : Prop := e = .returned (.string ⟨(markL k).toArray⟩) ∧ Below w.heap.size w w'
set_option maxHeartbeats 400000 in
theorem markText (n : Int) (w : World) (h : 0 < n) (h9 : n < 1000000000) : Calls Try.prog 29 #[.int .i64 n] w (MarkP n.toNat w) := by
  have H9 := Lib.hid h9
  go_enter Try.func29, Try.ntmps29
  go_wp2
  go_loopw [0, 3] (fun v0 v4 wr => ∃ (x : Int) (l : List UInt8), v0 = .int .i64 x ∧ v4 = .string ⟨l.toArray⟩ ∧ 0 ≤ x ∧ x < 1000000000 ∧ Hid (digD x.toNat ++ l = digD n.toNat) ∧ Hid (Below w.heap.size w wr)) (fun v0 _ _ => (intOf v0).natAbs)
  case atStart => exact ⟨n, [], rfl, rfl, by omega, h9, by simp [Hid], Below.refl _ _⟩
  case round =>
    obtain ⟨x, l, rfl, rfl, hx, hx9, HL, HB⟩ := hrel
    have hll : l.length ≤ 10 := by
      have e := congrArg List.length HL.out
      have := digD_len n.toNat 10 (by have := H9.out; omega)
      simp at e; omega
    have hl1 : ¬ (9223372036854775807 < 1 + l.length) := by omega
    by_cases h0 : x = 0
    · subst h0
      have HF : Hid (MarkP n.toNat w (.returned (.string (ByteArray.mk #[109] ++ ByteArray.mk l.toArray))) wr) := by
        refine ⟨?_, HB.out⟩
        have e : l = digD n.toNat := by have := HL.out; rw [show (0 : Int).toNat = 0 from rfl, digD_zero] at this; exact this
        rw [e, show (ByteArray.mk #[109]) = ByteArray.mk [109].toArray from rfl, joined]; rfl
      go_wp2
      go_ret
      exact HF.out
    · have hp : 0 < x := by omega
      have hq0 : 0 ≤ x % 10 := by omega
      have hq1 : x % 10 < 10 := by omega
      have hbs := byte_string (P := Try.prog) 22 9 5 (48 + x % 10) (by omega) (by omega) Try.underlying22 Try.underlying5 Try.underlying9
      go_wp2
      go_roundw
      case rel =>
        refine ⟨x / 10, UInt8.ofNat (48 + x % 10).toNat :: l, rfl, congrArg Value.string (joined [UInt8.ofNat (48 + x % 10).toNat] l), by omega, by omega, ?_, HB.out.alloc HB.out.size _⟩
        show _ = _
        have e := HL.out
        rw [digD_step x.toNat (by omega)] at e
        rw [show (x / 10).toNat = x.toNat / 10 by omega, show (48 + x % 10).toNat = 48 + x.toNat % 10 by omega]
        simpa using e
      case measure => simp only [intOf]; omega
end Mk
end Go.Proofs.Ytjgolnmbnkgbdaa

/- The laws' helper that gives a mark for a number: one text for each number. -/
import Derived.Test.YtjgolnmbnkgbdaaDoorOwn
import Derived.Deep.AppendLies
namespace Go.Proofs.YtjgolnmbnkgbdaaDoor
open Go.RowKit
namespace Mk
open Own
def digD (m : Nat) : List UInt8 := if _h : m = 0 then [] else digD (m / 10) ++ [UInt8.ofNat (48 + m % 10)]
  termination_by m
  decreasing_by omega
theorem digD_zero : digD 0 = [] := by rw [digD]; simp
theorem digD_step (m : Nat) (h : 0 < m) : digD m = digD (m / 10) ++ [UInt8.ofNat (48 + m % 10)] := by rw [digD, dif_neg (by omega)]
theorem digD_len (m k : Nat) (h : m < 10 ^ k) : (digD m).length ≤ k := by
  induction k generalizing m with
  | zero => have : m = 0 := by simp at h; omega
            subst this; simp [digD_zero]
  | succ k ih =>
    by_cases h0 : m = 0
    · subst h0; simp [digD_zero]
    · rw [digD_step m (by omega), List.length_append]
      have := ih (m / 10) (by rw [Nat.pow_succ] at h; omega)
      simp; omega
theorem joined (a b : List UInt8) : (ByteArray.mk a.toArray ++ ByteArray.mk b.toArray) = ByteArray.mk (a ++ b).toArray := by
  apply ByteArray.ext
  simp
/-- the mark of a number -/
def markL (k : Nat) : List UInt8 := 109 :: digD k
theorem byte_string {P : Program} (src dst e : TypeId) (z : Int) (h0 : 0 ≤ z) (h1 : z < 256) (hs : P.underlying src = some (.slice e)) (he : P.underlying e = some (.int .u8)) (hd : P.underlying dst = some .string) (w : World) :
    (convert src dst (.slice (some ⟨w.heap.size, 0, none⟩) 1 1)).run P (w.alloc (.cells #[.int .u8 z] e)) = .ok (.string ⟨#[UInt8.ofNat z.toNat]⟩) (w.alloc (.cells #[.int .u8 z] e)) := by
  have ez : ((UInt8.ofNat z.toNat).toNat : Int) = z := by
    have : (UInt8.ofNat z.toNat).toNat = z.toNat := by simp; omega
    rw [this]; omega
  have h := run_convert_bytes_back (P := P) (w.alloc (.cells #[.int .u8 z] e)) src dst e ⟨w.heap.size, 0, none⟩ 1 [UInt8.ofNat z.toNat] hs he hd (fun j hj => by
    have : j = 0 := by simp at hj; omega
    subst this
    simp only [List.getElem_cons_zero, ez]
    simp [Addr.add, World.cell?_alloc_mark])
  exact h

def MarkP (k : Nat) (w : World) (e : Ending) (w' : World) : Prop := e = .returned (.string ⟨(markL k).toArray⟩) ∧ Below w.heap.size w w'
end Mk
end Go.Proofs.YtjgolnmbnkgbdaaDoor

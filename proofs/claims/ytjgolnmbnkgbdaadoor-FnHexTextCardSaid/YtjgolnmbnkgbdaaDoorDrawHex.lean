/- The string that DrawEncodeHex draws has at most 20001 bytes; nothing that was there is written. And a string is decoded from its digits. -/
import Derived.Test.YtjgolnmbnkgbdaaDoorDrawText
import Derived.Test.YtjgolnmbnkgbdaaDoorUnhex
namespace Go.Proofs.YtjgolnmbnkgbdaaDoor
open Go.RowKit
namespace Dr
open Own
def DrawStrP (m : Nat) (w : World) (e : Ending) (w' : World) : Prop :=
  ∃ l : List UInt8, l.length ≤ m ∧ e = .returned (.string ⟨l.toArray⟩) ∧ Below w.heap.size w w'
theorem Step.stays2 {w w1 w2 : World} {a : Option Addr} {len cap : Nat} {zs : List Int} (h : Below w.heap.size w w1) (s : Step w1 w2 w.heap.size a len cap zs) : Below w.heap.size w w2 :=
  h.grown s.grown h.size (fun k hk => by cases hk; omega)
theorem drawEncodeHex {w : World} {a : Option Addr} {len cap : Nat} {zs : List Int} (hr : IsRow .u8 w a len cap zs) (hlen : len ≤ 1048576) :
    Calls Tryd.prog 9 #[.slice a len cap] w (DrawStrP 20001 w) := by
  have HR := Lib.hid hr; clear hr
  go_enter Tryd.func9, Tryd.ntmps9
  go_wp2_with fail
  refine (new HR.out hlen).mono ?_
  rintro e w1 ⟨rfl, hb1, hs1⟩
  have HB := Lib.hid hb1; clear hb1
  have H1 := Lib.hid hs1; clear hs1
  go_wp2_with fail
  refine (once H1.out _).mono ?_
  rintro e w2 ⟨b, rfl, hst⟩
  have H2 := Lib.hid hst; clear hst
  cases b
  · go_wp2_with fail
    refine (below H2.out.src _).mono ?_
    rintro e w3 ⟨x, hx0, hx1, _, rfl, hst⟩
    obtain ⟨n, rfl⟩ := Int.eq_ofNat_of_zero_le hx0
    have hx2 : (n : Int) < 30 := hx1 (by omega)
    clear hx1
    have H3 := Lib.hid (H2.out.trans hst); clear hst
    go_wp2_with fail
    refine (text H3.out.src n (by omega)).mono ?_
    rintro e w4 ⟨l, hl, rfl, hst⟩
    have HL := Lib.hid hl; clear hl
    have H4 := Lib.hid (H3.out.trans hst); clear hst
    go_wp2
    go_ret
    exact ⟨l, by rw [HL.out]; omega, rfl, Step.stays2 HB.out H4.out⟩
  · go_wp2_with fail
    refine (below H2.out.src _).mono ?_
    rintro e w3 ⟨x, hx0, hx1, _, rfl, hst⟩
    obtain ⟨n, rfl⟩ := Int.eq_ofNat_of_zero_le hx0
    have hx2 : (n : Int) < 2 := hx1 (by omega)
    clear hx1
    have H3 := Lib.hid (H2.out.trans hst); clear hst
    go_wp2_with fail
    rw [show (20000 + (n : Int)) = ((20000 + n : Nat) : Int) by omega]
    refine (long (20000 + n) 200 w3 (by omega) (by omega) (by omega)).mono ?_
    rintro e w4 ⟨l, hl, rfl, hg⟩
    have HL := Lib.hid hl; clear hl
    have HB4 := Lib.hid ((Step.stays2 HB.out H3.out).grown hg (Step.stays2 HB.out H3.out).size (fun k hk => by cases hk)); clear hg
    go_wp2
    go_ret
    exact ⟨l, by rw [HL.out]; omega, rfl, HB4.out⟩
end Dr
namespace Hex
theorem val_dig (n : Nat) (h : n < 16) : val ((dig n).toNat : Int) = n := by
  have : ∀ n : Fin 16, val ((dig n.val).toNat : Int) = n.val := by decide
  exact this ⟨n, h⟩
theorem hex_at : ∀ (l : List UInt8) (j : Nat) (h : j < l.length), (hexL l).getD (2 * j) 0 = dig ((l[j]).toNat / 16) ∧ (hexL l).getD (2 * j + 1) 0 = dig ((l[j]).toNat % 16)
  | b :: l, 0, h => ⟨rfl, rfl⟩
  | b :: l, j + 1, h => by
    have ih := hex_at l j (by simpa using h)
    have e : hexL (b :: l) = dig (b.toNat / 16) :: dig (b.toNat % 16) :: hexL l := by simp [hexL]
    rw [e]
    exact ⟨by simpa [Nat.mul_add] using ih.1, by simpa [Nat.mul_add] using ih.2⟩
theorem at_hi (l : List UInt8) (j : Nat) (h : j < l.length) : vhi ⟨(hexL l).toArray⟩ j = ((l[j]).toNat / 16 : Nat) := by
  have hb := (l[j]).toNat_lt
  unfold vhi byteAt
  rw [show (ByteArray.mk (hexL l).toArray).data.toList = hexL l from rfl, (hex_at l j h).1, val_dig _ (by omega)]
theorem at_lo (l : List UInt8) (j : Nat) (h : j < l.length) : vlo ⟨(hexL l).toArray⟩ j = ((l[j]).toNat % 16 : Nat) := by
  have hb := (l[j]).toNat_lt
  unfold vlo byteAt
  rw [show (ByteArray.mk (hexL l).toArray).data.toList = hexL l from rfl, (hex_at l j h).2, val_dig _ (by omega)]
theorem size_hex (l : List UInt8) : (ByteArray.mk (hexL l).toArray).size = 2 * l.length := by show (hexL l).toArray.size = _; simp [hexL_length]
theorem dec_hex (l : List UInt8) : dec ⟨(hexL l).toArray⟩ l.length = l := by
  apply List.ext_getElem
  · rw [dec_length]
  · intro j h1 h2
    have hb := (l[j]).toNat_lt
    simp only [dec, List.getElem_map, List.getElem_range]
    rw [at_hi l j h2, at_lo l j h2]
    have e : (16 * (((l[j]).toNat / 16 : Nat) : Int) + (((l[j]).toNat % 16 : Nat) : Int)).toNat = (l[j]).toNat := by omega
    rw [e]
    simp
theorem retD_hex (l : List UInt8) (hl : l.length ≤ 20000) {w w' : World} {e : Ending} (h : RetD ⟨(hexL l).toArray⟩ w e w') : e = .returned (.tuple #[.string ⟨l.toArray⟩, .bool true]) ∧ Below w.heap.size w w' := by
  refine ⟨?_, h.2⟩
  have hs := size_hex l
  rcases h.1 with ⟨_, _, _, rfl⟩ | ⟨hn, _⟩
  · rw [hs, show 2 * l.length / 2 = l.length by omega, dec_hex]
  · exfalso; apply hn
    rw [hs]
    refine ⟨by omega, by omega, fun j hj => ?_⟩
    have hj' : j < l.length := by omega
    unfold good
    rw [at_hi l j hj', at_lo l j hj']
    omega
end Hex
end Go.Proofs.YtjgolnmbnkgbdaaDoor

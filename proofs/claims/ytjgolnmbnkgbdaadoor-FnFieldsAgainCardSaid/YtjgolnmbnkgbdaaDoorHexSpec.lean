/- EncodeHex of the model returns the digits of the bytes, for every string of at most 20000 bytes, and rejects longer ones. -/
import Derived.Test.YtjgolnmbnkgbdaaDoorHex
namespace Go.Proofs.YtjgolnmbnkgbdaaDoor
open Go.RowKit
namespace Hex
open Own

theorem figure (x : Int) (w : World) (h0 : 0 ≤ x) (h1 : x < 16) : Calls Tryd.prog 32 #[.int .i64 x] w fun e w' => e = .returned (.int .u8 ((dig x.toNat).toNat : Int)) ∧ w = w' := by
  have hd : ∀ n : Fin 16, ((dig n.val).toNat : Int) = if n.val < 10 then 48 + (n.val : Int) else 87 + (n.val : Int) := by decide
  have hx := hd ⟨x.toNat, by omega⟩
  by_cases h : x < 10
  · rw [if_pos (by simp; omega)] at hx
    have e : ((dig x.toNat).toNat : Int) = 48 + x := by rw [hx]; simp; omega
    clear hx hd
    have E := Lib.hid e; clear e
    go_enter Tryd.func32, Tryd.ntmps32
    go_wp2
    go_ret
    exact ⟨by rw [E.out]; rfl, rfl⟩
  · rw [if_neg (by simp; omega)] at hx
    have e : ((dig x.toNat).toNat : Int) = 97 + x - 10 := by rw [hx]; simp; omega
    clear hx hd
    have E := Lib.hid e; clear e
    go_enter Tryd.func32, Tryd.ntmps32
    go_wp2
    go_ret
    exact ⟨by rw [E.out]; rfl, rfl⟩

end Hex
end Go.Proofs.YtjgolnmbnkgbdaaDoor

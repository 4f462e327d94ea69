/- EncodeHex of the program and of the model: both return the digits of the bytes, for every string of at most 20000 bytes, and reject longer ones. -/
import Derived.Test.YtjgolnmbnkgbdaaDoorOwn
import Derived.Deep.AppendLies
namespace Go.Proofs.YtjgolnmbnkgbdaaDoor
open Go.RowKit
namespace Hex
open Own
/-- the digit of a number below 16 -/
def dig (n : Nat) : UInt8 := if n < 10 then UInt8.ofNat (48 + n) else UInt8.ofNat (87 + n)
def hexL (l : List UInt8) : List UInt8 := l.flatMap fun b => [dig (b.toNat / 16), dig (b.toNat % 16)]
theorem hexL_length (l : List UInt8) : (hexL l).length = 2 * l.length := by
  induction l with
  | nil => rfl
  | cons b l ih => simp only [hexL, List.flatMap_cons, List.length_append, List.length_cons, List.length_nil] at ih ⊢; omega
theorem hexL_snoc (l : List UInt8) (b : UInt8) : hexL (l ++ [b]) = hexL l ++ [dig (b.toNat / 16), dig (b.toNat % 16)] := by simp [hexL]
theorem take_snoc (s : ByteArray) (k : Nat) (h : k < s.size) : s.data.toList.take (k + 1) = s.data.toList.take k ++ [s[k]] := by
  rw [List.take_succ_eq_append_getElem (by simpa using h)]; rfl

theorem digit_at : ∀ n : Fin 16, ((ByteArray.mk #[48, 49, 50, 51, 52, 53, 54, 55, 56, 57, 97, 98, 99, 100, 101, 102])[n.val]'(n.isLt)).toNat = (dig n.val).toNat := by decide
theorem digit_at' (x : Int) (h0 : 0 ≤ x) (h1 : x < 16) : ((ByteArray.mk #[48, 49, 50, 51, 52, 53, 54, 55, 56, 57, 97, 98, 99, 100, 101, 102])[x.toNat]'(by show x.toNat < 16; omega)).toNat = (dig x.toNat).toNat :=
  digit_at ⟨x.toNat, by omega⟩
theorem rel_next {w1 : World} {base : Nat} {v : Value} {e : TypeId} (s : ByteArray) (k : Nat) (h : k < s.size) {x y : Nat}
    (ho : w1.ownsRow base e 1 v (2 * k + 2) (bys (hexL (s.data.toList.take k)) ++ [.int .u8 (x : Int), .int .u8 (y : Int)]))
    (hx : x = (dig (((s[k]).toNat : Int) / 16).toNat).toNat) (hy : y = (dig (((s[k]).toNat : Int) % 16).toNat).toNat) :
    w1.ownsRow base e 1 v (2 * (k + 1)) (bys (hexL (s.data.toList.take (k + 1)))) := by
  rw [take_snoc s k h, hexL_snoc, bys_append]
  subst hx; subst hy
  rw [show 2 * (k + 1) = 2 * k + 2 by omega]
  have e1 : (((s[k]).toNat : Int) / 16).toNat = (s[k]).toNat / 16 := by omega
  have e2 : (((s[k]).toNat : Int) % 16).toNat = (s[k]).toNat % 16 := by omega
  rw [e1, e2] at ho
  exact ho

def RetS (l : List UInt8) (b : Bool) (w : World) (e : Ending) (w' : World) : Prop := e = .returned (.tuple #[.string ⟨l.toArray⟩, .bool b]) ∧ Below w.heap.size w w'

theorem info_u8 : (Tryd.prog.info? 5).map (fun i => (i.zero, i.size, i.bytes)) = some (some (.int .u8 0), 1, 1) := by kernel_rfl

theorem impl_long (s : ByteArray) (w : World) (h : 20000 < s.size) : Calls Tryd.prog 10 #[.string s] w (RetS [] false w) := by
  have h' : (20000 : Int) < s.size := by omega
  go_enter Tryd.func10, Tryd.ntmps10
  go_wp2
  go_ret2
  exact ⟨rfl, Below.refl _ _⟩

theorem impl_short (s : ByteArray) (w : World) (h : s.size ≤ 20000) : Calls Tryd.prog 10 #[.string s] w (RetS (hexL s.data.toList) true w) := by
  have h' : (s.size : Int) ≤ 20000 := by omega
  obtain ⟨i0, hi, hz0, hz1, hz2⟩ := info_parts info_u8
  go_enter Tryd.func10, Tryd.ntmps10
  go_wp2_with (at_make; refine wpList_make_own _ rfl _ _ 22 rfl w.heap.size 5 i0 (.int .u8 0) 1 Tryd.underlying22 hi hz0 hz1 .i64 .i64 _ (2 * s.size) rfl rfl (by simp) (by rw [hz2]; omega) (by unfold maxLen; omega) (Nat.le_refl _) ?_; intro w0 hown0 hgrow0)
  have HB0 := Lib.hid ((Below.refl w.heap.size w).grown hgrow0 (Nat.le_refl _) (fun k hk => by cases hk))
  clear hgrow0
  go_loopw [4, 15] (fun d c wr => ∃ k : Nat, k ≤ s.size ∧ c = .int .i64 k ∧ Hid (wr.ownsRow w.heap.size 5 1 d (2 * k) (bys (hexL (s.data.toList.take k)))) ∧ Hid (Below w.heap.size w wr)) (fun _ c _ => s.size - (intOf c).toNat)
  case atStart => exact ⟨0, Nat.zero_le _, rfl, hown0, HB0.out⟩
  case round =>
    obtain ⟨k, hk, rfl, HO, HB⟩ := hrel
    by_cases hlt : k < s.size
    · have hk0 : (0 : Int) ≤ k := by omega
      have hki : (k : Int) < s.size := by omega
      go_wp2_with fail
      have hb1 : (s[k]).toNat < 256 := (s[k]).toNat_lt
      have q1 : IntKind.u8.wrap (((s[k]).toNat : Int) / 16) = ((s[k]).toNat : Int) / 16 := IntWalk.u8_in _ (by omega)
      have q2 : IntKind.u8.wrap (((s[k]).toNat : Int) % 16) = ((s[k]).toNat : Int) % 16 := IntWalk.u8_in _ (by omega)
      have t2 : (((s[k]).toNat : Int)).tmod 16 = ((s[k]).toNat : Int) % 16 := Int.tmod_eq_emod_of_nonneg (by omega)
      have l1 : ((s[k]).toNat : Int) / 16 < 16 := by omega
      have l2 : ((s[k]).toNat : Int) % 16 < 16 := by omega
      have m1 : 0 ≤ ((s[k]).toNat : Int) / 16 := by omega
      have m2 : 0 ≤ ((s[k]).toNat : Int) % 16 := by omega
      go_region_law ((refine Own.step_append_own rfl (.tmp 18) (.tmp 29) 22 rfl w.heap.size 5 i0 (.int .u8 0) 1 1 Tryd.underlying22 hi hz0 hz1 hz2 rfl (by decide) u4 (2 * k) _ (by simp [Act.eval]) ((HO.out.alloc _).drew) ⟨wr.heap.size, 0, none⟩ 2 2 [_, _] (by simp [Act.eval]) rfl (World.news_of_block (cs := #[_, _]) (heap_alloc_new wr _)) (by simp [Value.oneCell']) (by unfold maxLen; omega) (by omega) (by simp; have := HB.out.size; omega) ?_); intro v1 w1 ho1 hg1)
      all_goals
        have HO1 := Lib.hid (rel_next s k hlt ho1 (digit_at' _ (by omega) (by omega)) (digit_at' _ (by omega) (by omega)))
        have HB1 := Lib.hid (((HB.out.alloc HB.out.size _).drew).grown hg1 (by simp; have := HB.out.size; omega) (fun j hj => (HO.out.lt j hj).1))
        clear ho1 hg1
        go_wp2
        go_roundw
        case rel => exact ⟨k + 1, by omega, by go_num, HO1.out, HB1.out⟩
        case measure => simp [intOf]; omega
    · obtain rfl : k = s.size := by omega
      have ho := HO.out
      rw [List.take_of_length_le (by simp)] at ho
      have hl : 2 * s.size = (hexL s.data.toList).length := by rw [hexL_length]; simp
      rw [hl] at ho
      have hcv := Own.to_string (P := Tryd.prog) 22 9 5 ho Tryd.underlying22 Tryd.underlying5 Tryd.underlying9
      clear ho hl
      go_wp2
      go_ret2
      exact ⟨rfl, HB.out⟩
end Hex
end Go.Proofs.YtjgolnmbnkgbdaaDoor

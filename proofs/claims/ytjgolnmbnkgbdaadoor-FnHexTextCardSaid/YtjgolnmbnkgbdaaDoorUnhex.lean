/- DecodeHex of the program and of the model return one and the same value, for every string. -/
import Derived.Test.YtjgolnmbnkgbdaaDoorHex
import Derived.Test.YtjgolnmbnkgbdaaDoorShelf
namespace Go.Proofs.YtjgolnmbnkgbdaaDoor
open Go.RowKit
namespace Hex
open Own
/-- the value of a digit, or -1 -/
def val (c : Int) : Int := if 48 ≤ c ∧ c ≤ 57 then c - 48 else if 97 ≤ c ∧ c ≤ 102 then c - 87 else -1
theorem val_bd (c : Int) : -1 ≤ val c ∧ val c ≤ 15 := by unfold val; split <;> (try split) <;> omega
/-- the byte number j of a string -/
def byteAt (s : ByteArray) (j : Nat) : Int := ((s.data.toList.getD j 0).toNat : Int)
theorem byteAt_eq (s : ByteArray) (j : Nat) (h : j < s.size) : (s[j].toNat : Int) = byteAt s j := by
  unfold byteAt
  have : s.data.toList.getD j 0 = s[j] := by
    simp [List.getD, List.getElem?_eq_getElem (show j < s.data.toList.length by simpa using h)]
    rfl
  rw [this]
theorem byteAt_bd (s : ByteArray) (j : Nat) : 0 ≤ byteAt s j ∧ byteAt s j < 256 := by
  unfold byteAt
  have := (s.data.toList.getD j 0).toNat_lt
  omega
def vhi (s : ByteArray) (j : Nat) : Int := val (byteAt s (2 * j))
def vlo (s : ByteArray) (j : Nat) : Int := val (byteAt s (2 * j + 1))
def good (s : ByteArray) (j : Nat) : Prop := 0 ≤ vhi s j ∧ 0 ≤ vlo s j
def dec (s : ByteArray) (k : Nat) : List UInt8 := (List.range k).map fun j => UInt8.ofNat (16 * vhi s j + vlo s j).toNat
theorem dec_length (s : ByteArray) (k : Nat) : (dec s k).length = k := by simp [dec]
theorem dec_succ (s : ByteArray) (k : Nat) : dec s (k + 1) = dec s k ++ [UInt8.ofNat (16 * vhi s k + vlo s k).toNat] := by simp [dec, List.range_succ]
/-- what DecodeHex returns: the bytes and true, or nothing and false -/
def RetD (s : ByteArray) (w : World) (e : Ending) (w' : World) : Prop :=
  ((s.size % 2 = 0 ∧ s.size ≤ 40000 ∧ (∀ j, 2 * j < s.size → good s j) ∧ e = .returned (.tuple #[.string ⟨(dec s (s.size / 2)).toArray⟩, .bool true])) ∨
   (¬ (s.size % 2 = 0 ∧ s.size ≤ 40000 ∧ ∀ j, 2 * j < s.size → good s j) ∧ e = .returned (.tuple #[.string ⟨#[]⟩, .bool false]))) ∧ Below w.heap.size w w'
theorem RetD.one (s : ByteArray) : ∃ (l : List UInt8) (b : Bool), ∀ w e w', RetD s w e w' → e = .returned (.tuple #[.string ⟨l.toArray⟩, .bool b]) ∧ Below w.heap.size w w' := by
  by_cases h : s.size % 2 = 0 ∧ s.size ≤ 40000 ∧ ∀ j, 2 * j < s.size → good s j
  · refine ⟨dec s (s.size / 2), true, fun w e w' hr => ⟨?_, hr.2⟩⟩
    rcases hr.1 with ⟨_, _, _, rfl⟩ | ⟨hn, _⟩
    · rfl
    · exact absurd h hn
  · refine ⟨[], false, fun w e w' hr => ⟨?_, hr.2⟩⟩
    rcases hr.1 with ⟨h1, h2, h3, _⟩ | ⟨_, rfl⟩
    · exact absurd ⟨h1, h2, h3⟩ h
    · rfl
theorem RetD.no {s : ByteArray} {w w' : World} (h : ¬ (s.size % 2 = 0 ∧ s.size ≤ 40000 ∧ ∀ j, 2 * j < s.size → good s j)) (hb : Below w.heap.size w w') : RetD s w (.returned (.tuple #[.string ⟨#[]⟩, .bool false])) w' := ⟨.inr ⟨h, rfl⟩, hb⟩

theorem good_next {s : ByteArray} {k : Nat} {x y : Int} (h : ∀ j, j < k → good s j) (hx : x = vhi s k) (hy : y = vlo s k) (h0 : 0 ≤ x) (h1 : 0 ≤ y) : ∀ j, j < k + 1 → good s j := by
  intro j hj
  by_cases e : j = k
  · subst e; exact ⟨by rw [← hx]; exact h0, by rw [← hy]; exact h1⟩
  · exact h j (by omega)
theorem rel_dec {w1 : World} {base : Nat} {v : Value} {e : TypeId} (s : ByteArray) (k : Nat) {x y z : Int}
    (ho : w1.ownsRow base e 1 v (k + 1) (bys (dec s k) ++ [.int .u8 z])) (hz : z = 16 * x + y) (hx : x = vhi s k) (hy : y = vlo s k) (h0 : 0 ≤ x) (h1 : x ≤ 15) (h2 : 0 ≤ y) (h3 : y ≤ 15) :
    w1.ownsRow base e 1 v (k + 1) (bys (dec s (k + 1))) := by
  have e1 : ((UInt8.ofNat (16 * vhi s k + vlo s k).toNat).toNat : Int) = z := by
    rw [← hx, ← hy, hz]
    have : (UInt8.ofNat (16 * x + y).toNat).toNat = (16 * x + y).toNat := by
      simp; omega
    rw [this]; omega
  rw [dec_succ, bys_append]
  have e2 : bys [UInt8.ofNat (16 * vhi s k + vlo s k).toNat] = [.int .u8 z] := by simp only [bys, List.map_cons, List.map_nil]; rw [e1]
  rw [e2]
  exact ho

theorem val_byte : ∀ c : Fin 256, Lib.indexByte [48, 49, 50, 51, 52, 53, 54, 55, 56, 57, 97, 98, 99, 100, 101, 102] c.val.toUInt8 = val c.val := by decide +kernel
theorem indexOf (c : Int) (w : World) (h0 : 0 ≤ c) (h1 : c < 256) : Calls Tryd.prog 27 #[.string ⟨#[48, 49, 50, 51, 52, 53, 54, 55, 56, 57, 97, 98, 99, 100, 101, 102]⟩, .int .u8 c] w fun e w' => e = .returned (.int .i64 (val c)) ∧ w = w' := by
  refine (Tryd.strings_IndexByte _ c w).mono ?_
  rintro e w' ⟨rfl, rfl⟩
  refine ⟨?_, rfl⟩
  have h := val_byte ⟨c.toNat, by omega⟩
  have e1 : ((c.toNat : Nat) : Int) = c := by omega
  simp only [e1] at h
  show Ending.returned (.int .i64 (Lib.indexByte [48, 49, 50, 51, 52, 53, 54, 55, 56, 57, 97, 98, 99, 100, 101, 102] c.toNat.toUInt8)) = _
  rw [h]

set_option maxHeartbeats 400000 in
theorem impl_dec (s : ByteArray) (w : World) (hm : s.size ≤ maxLen) : Calls Tryd.prog 12 #[.string s] w (RetD s w) := by
  unfold maxLen at hm
  by_cases h2 : s.size % 2 = 0
  · have hne : ((s.size : Int) % 2 != 0) = false := by simp; omega
    by_cases h1 : 40000 < s.size
    · have h' : (40000 : Int) < s.size := by omega
      go_enter Tryd.func12, Tryd.ntmps12
      go_wp2
      go_ret2
      exact RetD.no (by omega) (Below.refl _ _)
    · have h' : (s.size : Int) ≤ 40000 := by omega
      obtain ⟨i0, hi, hz0, hz1, hz2⟩ := info_parts info_u8
      have H2 := Lib.hid h2; clear h2
      go_enter Tryd.func12, Tryd.ntmps12
      have hce : (s.size : Int) / 2 = ((s.size / 2 : Nat) : Int) := by omega
      have HC := Lib.hid hce; clear hce
      go_wp2_with (at_make; refine wpList_make_own _ rfl _ _ 22 rfl w.heap.size 5 i0 (.int .u8 0) 1 Tryd.underlying22 hi hz0 hz1 .i64 .i64 _ (s.size / 2) rfl rfl HC.out (by rw [hz2]; omega) (by unfold maxLen; omega) (Nat.le_refl _) ?_; intro w0 hown0 hgrow0)
      have hb0 := (Below.refl w.heap.size w).grown hgrow0 (Nat.le_refl _) (fun k hk => by cases hk)
      clear hgrow0
      go_loopw [4, 5] (fun d c wr => ∃ i k : Nat, Hid (i = 2 * k) ∧ i ≤ s.size ∧ c = .int .i64 i ∧ Hid (∀ j, j < k → good s j) ∧ Hid (wr.ownsRow w.heap.size 5 1 d k (bys (dec s k))) ∧ Hid (Below w.heap.size w wr)) (fun _ c _ => s.size - (intOf c).toNat)
      case atStart => exact ⟨0, 0, rfl, Nat.zero_le _, rfl, fun j hj => by omega, hown0, hb0⟩
      case round =>
        clear hown0 hb0
        obtain ⟨i, k, HI, hik, rfl, HG, HO, HB⟩ := hrel
        by_cases hlt : (i : Int) < s.size
        · have hlt1 : (i : Int) + 1 < s.size := by have := HI.out; have := H2.out; omega
          have hi0 : (0 : Int) ≤ i := by omega
          go_wp2_with fail
          rw [byteAt_eq s i (by omega)]
          refine (indexOf _ _ (byteAt_bd s i).1 (byteAt_bd s i).2).mono ?_
          rintro e w' ⟨rfl, rfl⟩
          have hxb := val_bd (byteAt s i)
          have HX : Hid (val (byteAt s i) = vhi s k) := by unfold vhi; rw [HI.out]; rfl
          generalize val (byteAt s i) = x at *
          go_wp2_with fail
          rw [byteAt_eq s (i + 1) (by omega)]
          refine (indexOf _ _ (byteAt_bd s (i + 1)).1 (byteAt_bd s (i + 1)).2).mono ?_
          rintro e w' ⟨rfl, rfl⟩
          have hyb := val_bd (byteAt s (i + 1))
          have HY : Hid (val (byteAt s (i + 1)) = vlo s k) := by unfold vlo; rw [HI.out]; rfl
          generalize val (byteAt s (i + 1)) = y at *
          obtain ⟨hx0, hx1⟩ := hxb
          obtain ⟨hy0, hy1⟩ := hyb
          by_cases hx : x < 0
          · go_wp2
            go_ret2
            exact RetD.no (fun h => by have := (h.2.2 k (by have := HI.out; omega)).1; rw [← HX.out] at this; omega) HB.out
          · by_cases hy : y < 0
            · go_wp2
              go_ret2
              exact RetD.no (fun h => by have := (h.2.2 k (by have := HI.out; omega)).2; rw [← HY.out] at this; omega) HB.out
            · go_wp2_with (at_builtin; refine wpList_append_own _ rfl (.tmp 42) (.tmp 48) 22 rfl w.heap.size 5 i0 (.int .u8 0) 1 1 Tryd.underlying22 hi hz0 hz1 hz2 rfl (by decide) u4 k _ rfl (HO.out.alloc _) ⟨wr.heap.size, 0, none⟩ 1 1 [_] rfl rfl (World.news_of_block (cs := #[_]) (heap_alloc_new wr _)) (by simp [Value.oneCell']) (by unfold maxLen; have := HI.out; omega) (by have := HI.out; omega) (by simp; have := HB.out.size; omega) ?_; intro v1 w1 ho1 hg1 _)
              have HO1 := Lib.hid (rel_dec s k ho1 rfl HX.out HY.out (by omega) hx1 (by omega) hy1)
              have HB1 := Lib.hid ((HB.out.alloc HB.out.size _).grown hg1 (by simp; have := HB.out.size; omega) (fun j hj => (HO.out.lt j hj).1))
              have HG1 := Lib.hid (good_next HG.out HX.out HY.out (by omega) (by omega))
              clear ho1 hg1
              go_wp2
              go_roundw
              case rel => exact ⟨i + 2, k + 1, by have := HI.out; show i + 2 = 2 * (k + 1); omega, by omega, by go_num, HG1.out, HO1.out, HB1.out⟩
              case measure => simp [intOf]; omega
        · obtain rfl : i = s.size := by omega
          have hk : k = s.size / 2 := by have := HI.out; omega
          subst hk
          have ho := HO.out
          have hl : s.size / 2 = (dec s (s.size / 2)).length := by rw [dec_length]
          rw [hl] at ho
          rw [← hl] at ho
          have hcv := Own.to_string (P := Tryd.prog) (l := dec s (s.size / 2)) 22 9 5 (by rw [dec_length]; exact HO.out) Tryd.underlying22 Tryd.underlying5 Tryd.underlying9
          clear ho hl
          have HF := Lib.hid (show RetD s w (.returned (.tuple #[.string ⟨(dec s (s.size / 2)).toArray⟩, .bool true])) wr from ⟨.inl ⟨H2.out, by omega, fun j hj => HG.out j (by have := H2.out; omega), rfl⟩, HB.out⟩)
          go_wp2
          go_ret2
          exact HF.out
  · have hne : ((s.size : Int) % 2 != 0) = true := by simp; omega
    go_enter Tryd.func12, Tryd.ntmps12
    go_wp2
    go_ret2
    exact RetD.no (fun h => h2 h.1) (Below.refl _ _)
end Hex
end Go.Proofs.YtjgolnmbnkgbdaaDoor

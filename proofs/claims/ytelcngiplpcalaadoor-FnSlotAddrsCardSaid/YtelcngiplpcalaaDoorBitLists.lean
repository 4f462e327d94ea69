/- The model's FreeSlots and FormatBitmap. -/
import Derived.Test.YtelcngiplpcalaaDoorBits
namespace Go.Proofs.YtelcngiplpcalaaDoor
open Go.RowKit
namespace Bm
open Own Il
theorem info_int : (Tryd.prog.info? 3).map (fun i => (i.zero, i.size, i.bytes)) = some (some (.int .i64 0), 1, 8) := by kernel_rfl
/-- a list of whole numbers in memory of the call's own -/
def ListP (l : List Int) (w : World) (e : Ending) (w' : World) : Prop := ∃ v, e = .returned v ∧ w'.ownsRow w.heap.size 3 1 v l.length (ints l) ∧ Below w.heap.size w w'
def freeL (n b : Int) : List Int := if isMap n b then (freeTo b.toNat n.toNat).map (fun (j : Nat) => (j : Int)) else []
theorem made0 (w0 w : World) (h : w0.heap.size ≤ w.heap.size) : (w.alloc (.cells #[] 3)).ownsRow w0.heap.size 3 1 (.slice (some ⟨w.heap.size, 0, none⟩) 0 0) 0 [] :=
  World.ownsRow_made (e := 3) (size := 1) w #[] 0 h (by unfold maxLen; omega) rfl
theorem map_bd {n b : Int} (h : isMap n b = true) : 1 ≤ n ∧ n ≤ 16 ∧ 0 ≤ b ∧ b < 2 ^ n.toNat := by
  unfold isMap at h; exact of_decide_eq_true h
theorem freeL_le (n b : Int) : (freeL n b).length ≤ 16 := by
  unfold freeL
  cases h : isMap n b
  · simp
  · have h1 := map_bd h
    have h2 := freeTo_le b.toNat n.toNat
    simp only [if_pos, List.length_map]
    omega
theorem free_snoc (B k : Nat) : ints ((freeTo B (k + 1)).map (fun (j : Nat) => (j : Int))) = ints ((freeTo B k).map (fun (j : Nat) => (j : Int))) ++ if B.testBit k then [] else [Value.int .i64 (k : Int)] := by
  rw [freeTo_succ]
  cases h : B.testBit k <;> simp [ints]
theorem specFree_no (n b : Int) (w : World) (h : isMap n b = false) : Calls Tryd.prog 56 #[.int .i64 n, .int .i64 b] w (ListP [] w) := by
  have H := Lib.hid h; clear h
  by_cases h0 : 0 < n
  · go_enter Tryd.func56, Tryd.ntmps56
    go_wp2
    go_loopw [5, 6] (fun v c wr => v = .slice (some ⟨w.heap.size, 0, none⟩) 0 0 ∧ c = .int .i64 0 ∧ wr = w.alloc (.cells #[] 3)) (fun _ _ _ => 0)
    case atStart => exact ⟨rfl, rfl, rfl⟩
    case round =>
      obtain ⟨rfl, rfl, rfl⟩ := hrel
      go_wp2_with fail
      refine (specOk n b _).mono ?_
      rintro e w' ⟨rfl, rfl⟩
      rw [H.out]
      go_wp2
      go_ret
      exact ⟨_, rfl, made0 w w (Nat.le_refl _), (Below.refl _ _).alloc (Nat.le_refl _) _⟩
  · have hd : decide (0 < n) = false := by simpa using h0
    go_enter Tryd.func56, Tryd.ntmps56
    go_wp2
    go_loopw [5, 6] (fun v c wr => v = .slice (some ⟨w.heap.size, 0, none⟩) 0 0 ∧ c = .int .i64 0 ∧ wr = w.alloc (.cells #[] 3)) (fun _ _ _ => 0)
    case atStart => exact ⟨rfl, rfl, rfl⟩
    case round =>
      obtain ⟨rfl, rfl, rfl⟩ := hrel
      go_wp2
      go_ret
      exact ⟨_, rfl, made0 w w (Nat.le_refl _), (Below.refl _ _).alloc (Nat.le_refl _) _⟩
theorem specFree_yes (n b : Int) (w : World) (h : isMap n b = true) : Calls Tryd.prog 56 #[.int .i64 n, .int .i64 b] w (ListP ((freeTo b.toNat n.toNat).map (fun (j : Nat) => (j : Int))) w) := by
  obtain ⟨hn0, hn1, hb0, hb1⟩ := map_bd h
  have H := Lib.hid h; clear h
  have hb2 : b ≤ 9223372036854775807 := by
    have h1 : (2 : Nat) ^ n.toNat ≤ 2 ^ 16 := Nat.pow_le_pow_right (by decide) (by omega)
    have e : ((2 : Int) ^ n.toNat) = ((2 ^ n.toNat : Nat) : Int) := by simp
    rw [e] at hb1
    generalize 2 ^ n.toNat = p at *
    omega
  have HB := Lib.hid hb2; clear hb1 hb2
  obtain ⟨N, rfl⟩ := Int.eq_ofNat_of_zero_le (show 0 ≤ n by omega)
  obtain ⟨B, rfl⟩ := Int.eq_ofNat_of_zero_le hb0
  simp only [Int.toNat_natCast]
  obtain ⟨i0, hi, hz0, hz1, hz2⟩ := info_parts info_int
  go_enter Tryd.func56, Tryd.ntmps56
  go_wp2
  have hown0 := made0 w w (Nat.le_refl _)
  have hbl0 := (Below.refl w.heap.size w).alloc (Nat.le_refl _) (.cells #[] 3)
  go_loopw [5, 6] (fun v c wr => ∃ (k : Nat), k ≤ N ∧ c = .int .i64 k ∧ Hid (wr.ownsRow w.heap.size 3 1 v (freeTo B k).length (ints ((freeTo B k).map (fun (j : Nat) => (j : Int))))) ∧ Hid (Below w.heap.size w wr)) (fun _ c _ => N - (intOf c).toNat)
  case atStart => exact ⟨0, Nat.zero_le _, rfl, hown0, hbl0⟩
  case round =>
    clear hown0 hbl0
    obtain ⟨k, hk, rfl, HO, HBL⟩ := hrel
    have HLEN := Lib.hid (freeTo_le B k)
    by_cases hlt : (k : Int) < N
    · go_wp2_with fail
      refine (specOk N B _).mono ?_
      rintro e w' ⟨rfl, rfl⟩
      rw [H.out]
      go_wp2_with fail
      refine (specHas B k _ HB.out).mono ?_
      rintro e w' ⟨rfl, rfl⟩
      rw [has_nat B k (by omega)]
      have HS := Lib.hid (free_snoc B k)
      have HS2 := Lib.hid (freeTo_succ B k)
      cases hh : B.testBit k
      · rw [hh] at HS HS2
        go_wp2_with (at_builtin; refine wpList_append_own _ rfl (.tmp 22) (.tmp 24) 27 rfl w.heap.size 3 i0 (.int .i64 0) 1 8 Tryd.underlying27 hi hz0 hz1 hz2 rfl (by decide) u5 (freeTo B k).length _ rfl (HO.out.alloc _) ⟨wr.heap.size, 0, none⟩ 1 1 [_] rfl rfl (World.news_of_block (cs := #[_]) (heap_alloc_new wr _)) (by simp [Value.oneCell']) (by have := HLEN.out; unfold maxLen; omega) (by have := HLEN.out; omega) (by simp; have := HBL.out.size; omega) ?_; intro v2 w2 ho2 hg2 _)
        have HO2 : Hid (w2.ownsRow w.heap.size 3 1 v2 (freeTo B (k + 1)).length (ints ((freeTo B (k + 1)).map (fun (j : Nat) => (j : Int))))) := by
          show World.ownsRow _ _ _ _ _ _ _
          rw [HS.out, HS2.out, List.length_append]; exact ho2
        have HB2 := Lib.hid ((HBL.out.alloc HBL.out.size _).grown hg2 (by simp; have := HBL.out.size; omega) (fun x hx => (HO.out.lt x hx).1))
        clear ho2 hg2 hh
        go_wp2
        go_roundw
        case rel => exact ⟨k + 1, by omega, by go_num, HO2.out, HB2.out⟩
        case measure => simp [intOf]; omega
      · rw [hh] at HS HS2
        have HO2 : Hid (wr.ownsRow w.heap.size 3 1 u5 (freeTo B (k + 1)).length (ints ((freeTo B (k + 1)).map (fun (j : Nat) => (j : Int))))) := by
          show World.ownsRow _ _ _ _ _ _ _
          rw [HS.out, HS2.out]
          simpa using HO.out
        clear hh
        go_wp2
        go_roundw
        case rel => exact ⟨k + 1, by omega, by go_num, HO2.out, HBL.out⟩
        case measure => simp [intOf]; omega
    · obtain rfl : k = N := by omega
      have HF : Hid (wr.ownsRow w.heap.size 3 1 u5 ((freeTo B k).map (fun (j : Nat) => (j : Int))).length (ints ((freeTo B k).map (fun (j : Nat) => (j : Int))))) := by
        show World.ownsRow _ _ _ _ _ _ _
        rw [List.length_map]; exact HO.out
      have hd : decide ((k : Int) < k) = false := by simp
      go_wp2
      go_ret
      exact ⟨_, rfl, HF.out, HBL.out⟩
theorem specFree (n b : Int) (w : World) : Calls Tryd.prog 56 #[.int .i64 n, .int .i64 b] w (ListP (freeL n b) w) := by
  unfold freeL
  cases h : isMap n b
  · exact specFree_no n b w h
  · exact specFree_yes n b w h
def textL (n b : Int) : List UInt8 := if isMap n b then pic b.toNat n.toNat else []
def TextP (l : List UInt8) (w : World) (e : Ending) (w' : World) : Prop := e = .returned (.string ⟨l.toArray⟩) ∧ w = w'
theorem joined (a b : List UInt8) : (ByteArray.mk a.toArray ++ ByteArray.mk b.toArray) = ByteArray.mk (a ++ b).toArray := by
  apply ByteArray.ext
  simp
end Bm
end Go.Proofs.YtelcngiplpcalaaDoor

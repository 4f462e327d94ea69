/- SplitFields of the model: the fields of the line, or none and false. -/
import Derived.Test.YtjgolnmbnkgbdaaDoorSplit
namespace Go.Proofs.YtjgolnmbnkgbdaaDoor
open Go.RowKit
namespace Spl
open Own
def cur (s : ByteArray) (k : Nat) : List (List UInt8) := if k ≤ s.size then fs s k else fin s
theorem cur_in {s : ByteArray} {k : Nat} (h : k ≤ s.size) : cur s k = fs s k := by unfold cur; rw [if_pos h]
theorem cur_end (s : ByteArray) : cur s (s.size + 1) = fin s := by unfold cur; rw [if_neg (by omega)]
theorem cur_len (s : ByteArray) (k : Nat) : (cur s k).length ≤ s.size + 1 := by
  unfold cur; split
  · have := fs_len s k; omega
  · exact fin_len s
theorem made0 (w0 w : World) (h : w0.heap.size ≤ w.heap.size) : (w.alloc (.cells #[] 9)).ownsRow w0.heap.size 9 1 (.slice (some ⟨w.heap.size, 0, none⟩) 0 0) 0 [] :=
  World.ownsRow_made (e := 9) (size := 1) w #[] 0 h (by unfold maxLen; omega) rfl

theorem rel_add {w2 : World} {base : Nat} {v : Value} {e : TypeId} {l : List (List UInt8)} {s : ByteArray} {j k : Nat} (h : j < k) (ho : w2.ownsRow base e 1 v (l.length + 1) (strs l ++ [.string (s.extract j k)])) : w2.ownsRow base e 1 v (nxt l s j k).length (strs (nxt l s j k)) := by
  have e1 : (⟨(sub s j k).toArray⟩ : ByteArray) = s.extract j k := by
    apply Go.WideShapes.bytes_inj
    rw [extract_list]
  unfold nxt
  rw [if_pos h, strs_append, List.length_append]
  have e2 : strs [sub s j k] = [.string (s.extract j k)] := by simp only [strs, List.map_cons, List.map_nil]; rw [e1]
  rw [e2]
  exact ho
theorem cut_space {s : ByteArray} {k j : Nat} (hlt : k < s.size) (h : (s[k]).toNat = 32) (hj : j = st s k) : nxt (cur s k) s j k = cur s (k + 1) ∧ (k + 1 ≤ s.size → k + 1 = st s (k + 1)) := by
  have := fs_space hlt h hj
  rw [cur_in (by omega), cur_in (by omega)]
  exact ⟨this.1, fun _ => this.2⟩
theorem cut_end {s : ByteArray} {j : Nat} (hj : j = st s s.size) : nxt (cur s s.size) s j s.size = cur s (s.size + 1) ∧ (s.size + 1 ≤ s.size → s.size + 1 = st s (s.size + 1)) := by
  rw [cur_in (Nat.le_refl _), cur_end, fin_eq, ← hj]
  exact ⟨rfl, fun h => by omega⟩
theorem nxt_no {l : List (List UInt8)} {s : ByteArray} {j k : Nat} (h : ¬ j < k) : nxt l s j k = l := by unfold nxt; rw [if_neg h]

theorem spec_long (s : ByteArray) (w : World) (h : 600 < s.size) : Calls Tryd.prog 17 #[.string s] w (RetF s w) := by
  have h' : (600 : Int) < s.size := by omega
  go_enter Tryd.func17, Tryd.ntmps17
  go_wp2
  go_ret2
  exact RetF.no (by omega) ((Below.refl _ _).alloc (Nat.le_refl _) _) (made0 w w (Nat.le_refl _))

set_option maxHeartbeats 1000000 in
theorem spec_short (s : ByteArray) (w : World) (h : s.size ≤ 600) : Calls Tryd.prog 17 #[.string s] w (RetF s w) := by
  have h' : (s.size : Int) ≤ 600 := by omega
  obtain ⟨i0, hi, hz0, hz1, hz2⟩ := info_parts info_str
  go_enter Tryd.func17, Tryd.ntmps17
  go_wp2
  have hown0 := made0 w w (Nat.le_refl _)
  have hb0 := (Below.refl w.heap.size w).alloc (Nat.le_refl _) (.cells #[] 9)
  go_loopw [4, 5, 6] (fun d b c wr => ∃ (k j : Nat), k ≤ s.size + 1 ∧ j ≤ k ∧ c = .int .i64 k ∧ b = .int .i64 j ∧ Hid (k ≤ s.size → j = st s k) ∧ Hid (∀ i, i < k → i < s.size → okAt s i) ∧ Hid (wr.ownsRow w.heap.size 9 1 d (cur s k).length (strs (cur s k))) ∧ Hid (Below w.heap.size w wr)) (fun _ _ c _ => s.size + 1 - (intOf c).toNat)
  case atStart => exact ⟨0, 0, Nat.zero_le _, Nat.zero_le _, rfl, rfl, fun _ => rfl, by intro i hi; omega, (by rw [cur_in (Nat.zero_le _)]; exact hown0), hb0⟩
  case round =>
    clear hown0 hb0
    obtain ⟨k, j, hk, hjk, rfl, rfl, HJ, HK, HO, HB⟩ := hrel
    have HLEN := Lib.hid (show (cur s k).length ≤ 1000000 by have := cur_len s k; omega)
    have hk0 : (0 : Int) ≤ k := by omega
    by_cases hlt : k < s.size
    · have hki : (k : Int) < s.size := by omega
      by_cases h32 : (s[k]).toNat = 32
      · have hb : (((s[k]).toNat : Int) == 32) = true := by rw [h32]; rfl
        have hb2 : (((s[k]).toNat : Int) != 32) = false := by rw [h32]; rfl
        have hb3 : ¬ ((s[k]).toNat : Int) < 32 := by omega
        have hb4 : ((s[k]).toNat : Int) ≤ 126 := by omega
        have H32 := Lib.hid h32; clear h32
        have HFS := Lib.hid (cut_space hlt H32.out (HJ.out (by omega)))
        have HK1 : Hid (∀ i, i < k + 1 → i < s.size → okAt s i) := fun i hi hi2 => ok_next hlt (fun i hi => HK.out i hi (by omega)) (by have := H32.out; omega) (by have := H32.out; omega) i hi
        by_cases hjl : (j : Int) < k
        · go_wp2_with (at_builtin; refine wpList_append_own _ rfl (.tmp 48) (.tmp 53) 31 rfl w.heap.size 9 i0 (.string ⟨#[]⟩) 1 16 Tryd.underlying31 hi hz0 hz1 hz2 rfl (by decide) u4 (cur s k).length _ rfl (HO.out.alloc _) ⟨wr.heap.size, 0, none⟩ 1 1 [_] rfl rfl (World.news_of_block (cs := #[_]) (heap_alloc_new wr _)) (by simp [Value.oneCell']) (by have := HLEN.out; unfold maxLen; omega) (by have := HLEN.out; omega) (by simp; have := HB.out.size; omega) ?_; intro v2 w2 ho2 hg2 _)
          have HO2 : Hid (w2.ownsRow w.heap.size 9 1 v2 (cur s (k + 1)).length (strs (cur s (k + 1)))) := by
            have := rel_add (s := s) (j := j) (k := k) (by omega) ho2
            rw [HFS.out.1] at this; exact this
          have HB2 := Lib.hid ((HB.out.alloc HB.out.size _).grown hg2 (by simp; have := HB.out.size; omega) (fun b hb => (HO.out.lt b hb).1))
          clear ho2 hg2
          go_wp2
          go_roundw
          case rel => exact ⟨k + 1, k + 1, by omega, by omega, by go_num, by go_num, HFS.out.2, HK1.out, HO2.out, HB2.out⟩
          case measure => simp [intOf] <;> omega
        · have HO2 : Hid (wr.ownsRow w.heap.size 9 1 u4 (cur s (k + 1)).length (strs (cur s (k + 1)))) := by
            have := HFS.out.1
            rw [nxt_no (by omega)] at this
            rw [← this]; exact HO.out
          go_wp2
          go_roundw
          case rel => exact ⟨k + 1, k + 1, by omega, by omega, by go_num, by go_num, HFS.out.2, HK1.out, HO2.out, HB.out⟩
          case measure => simp [intOf] <;> omega
      · have hb : (((s[k]).toNat : Int) == 32) = false := by simp; omega
        have hb2 : (((s[k]).toNat : Int) != 32) = true := by simp; omega
        have H32 := Lib.hid h32; clear h32
        have HNX : Hid (32 ≤ ((s[k]).toNat : Int) → ((s[k]).toNat : Int) ≤ 126 → ∀ i, i < k + 1 → i < s.size → okAt s i) := fun h1 h2 i hi _ => ok_next hlt (fun i hi => HK.out i hi (by omega)) (by omega) (by omega) i hi
        have HBD : Hid (∀ h : ((s[k]).toNat : Int) < 32 ∨ 126 < ((s[k]).toNat : Int), ¬ (s.size ≤ 600 ∧ (∀ i, i < s.size → okAt s i) ∧ (fin s).length ≤ 24)) := fun h1 h2 => by
          have h3 := h2.2.1 k hlt
          unfold okAt at h3; rw [← at_byte s k hlt] at h3; omega
        have HF := Lib.hid (fs_other hlt H32.out (HJ.out (by omega)))
        have HO2 : Hid (wr.ownsRow w.heap.size 9 1 u4 (cur s (k + 1)).length (strs (cur s (k + 1)))) := by
          have := HO.out
          rw [cur_in (by omega), HF.out.1, ← cur_in (k := k + 1) (by omega)] at this; exact this
        go_wp2
        all_goals first
          | (go_roundw
             case rel => exact ⟨k + 1, j, by omega, by omega, by go_num, rfl, fun _ => HF.out.2, HNX.out (by omega) (by omega), HO2.out, HB.out⟩
             case measure => simp [intOf] <;> omega)
          | (go_ret2
             exact RetF.no (HBD.out (by omega)) (HB.out.alloc HB.out.size _) (made0 w wr HB.out.size))
    · by_cases hend : k = s.size
      · subst hend
        have HFS := Lib.hid (cut_end (HJ.out (Nat.le_refl _)))
        have HK1 : Hid (∀ i, i < s.size + 1 → i < s.size → okAt s i) := fun i _ hi2 => HK.out i hi2 hi2
        by_cases hjl : (j : Int) < s.size
        · go_wp2_with (at_builtin; refine wpList_append_own _ rfl (.tmp 48) (.tmp 53) 31 rfl w.heap.size 9 i0 (.string ⟨#[]⟩) 1 16 Tryd.underlying31 hi hz0 hz1 hz2 rfl (by decide) u4 (cur s s.size).length _ rfl (HO.out.alloc _) ⟨wr.heap.size, 0, none⟩ 1 1 [_] rfl rfl (World.news_of_block (cs := #[_]) (heap_alloc_new wr _)) (by simp [Value.oneCell']) (by have := HLEN.out; unfold maxLen; omega) (by have := HLEN.out; omega) (by simp; have := HB.out.size; omega) ?_; intro v2 w2 ho2 hg2 _)
          have HO2 : Hid (w2.ownsRow w.heap.size 9 1 v2 (cur s (s.size + 1)).length (strs (cur s (s.size + 1)))) := by
            have := rel_add (s := s) (j := j) (k := s.size) (by omega) ho2
            rw [HFS.out.1] at this; exact this
          have HB2 := Lib.hid ((HB.out.alloc HB.out.size _).grown hg2 (by simp; have := HB.out.size; omega) (fun b hb => (HO.out.lt b hb).1))
          clear ho2 hg2
          go_wp2
          go_roundw
          case rel => exact ⟨s.size + 1, s.size + 1, by omega, by omega, by go_num, by go_num, HFS.out.2, HK1.out, HO2.out, HB2.out⟩
          case measure => simp [intOf] <;> omega
        · have HO2 : Hid (wr.ownsRow w.heap.size 9 1 u4 (cur s (s.size + 1)).length (strs (cur s (s.size + 1)))) := by
            have := HFS.out.1
            rw [nxt_no (by omega)] at this
            rw [← this]; exact HO.out
          go_wp2
          go_roundw
          case rel => exact ⟨s.size + 1, s.size + 1, by omega, by omega, by go_num, by go_num, HFS.out.2, HK1.out, HO2.out, HB.out⟩
          case measure => simp [intOf] <;> omega
      · obtain rfl : k = s.size + 1 := by omega
        have ho := HO.out
        rw [cur_end] at ho
        obtain ⟨a1, c1, rfl⟩ := own_slice ho
        have HO1 := Lib.hid ho; clear ho
        have HFL := Lib.hid (fin_len s)
        generalize hn : (fin s).length = n at *
        have HN := Lib.hid hn; clear hn
        by_cases h24 : 24 < n
        · have h24' : (24 : Int) < n := by omega
          go_wp2
          go_ret2
          exact RetF.no (fun hx => by have := hx.2.2; rw [HN.out] at this; omega) (HB.out.alloc HB.out.size _) (made0 w wr HB.out.size)
        · have h24' : (n : Int) ≤ 24 := by omega
          go_wp2
          go_ret2
          exact RetF.yes h (fun i hi => HK.out i (by omega) hi) (by rw [HN.out]; omega) HB.out (by rw [HN.out]; exact HO1.out)
theorem spec_split (s : ByteArray) (w : World) : Calls Tryd.prog 17 #[.string s] w (RetF s w) := by
  by_cases h : s.size ≤ 600
  · exact spec_short s w h
  · exact spec_long s w (by omega)
end Spl
end Go.Proofs.YtjgolnmbnkgbdaaDoor

/- SplitFields of the program: the fields of the line, or none and false. -/
import Derived.Test.YtjgolnmbnkgbdaaDoorFields
namespace Go.Proofs.YtjgolnmbnkgbdaaDoor
open Go.RowKit
namespace Spl
open Own
theorem impl_long (s : ByteArray) (w : World) (h : 600 < s.size) : Calls Tryd.prog 16 #[.string s] w (RetF s w) := by
  have h' : (600 : Int) < s.size := by omega
  go_enter Tryd.func16, Tryd.ntmps16
  go_wp2
  go_step3
  go_wp2
  try rw [Exit.noGoto_ret]
  go_ret2
  exact RetF.no (by omega) (Below.refl _ _) (World.ownsRow_nil _ _ _ _)

theorem at_byte (s : ByteArray) (k : Nat) (h : k < s.size) : (s[k]).toNat = (s.data.toList.getD k 0).toNat := by
  have : s.data.toList.getD k 0 = s[k] := by
    simp [List.getD, List.getElem?_eq_getElem (show k < s.data.toList.length by simpa using h)]
    rfl
  rw [this]

theorem extract_list (s : ByteArray) (j k : Nat) : (s.extract j k).data.toList = sub s j k := by
  rw [ByteArray.data_extract]
  simp [sub, List.extract_eq_take_drop]
theorem extract_size (s : ByteArray) (j k : Nat) (hk : k ≤ s.size) : (s.extract j k).size = k - j := by
  rw [ByteArray.size_extract]; omega
theorem extract_none (s : ByteArray) (k : Nat) : s.extract k k = ⟨#[]⟩ := by
  apply Go.WideShapes.bytes_inj
  rw [extract_list]
  simp [sub]
def nxt (l : List (List UInt8)) (s : ByteArray) (j k : Nat) : List (List UInt8) := if j < k then l ++ [sub s j k] else l
theorem add_any (base : Nat) (v : Value) (l : List (List UInt8)) (s : ByteArray) (j k : Nat) (w : World) (ho : w.ownsRow base 9 1 v l.length (strs l)) (hb : base ≤ w.heap.size) (hs : s.size ≤ 1048576) (hk : k ≤ s.size) (hjk : j ≤ k) (hl : l.length ≤ 1000000) :
    Calls Tryd.prog 31 #[v, .string (s.extract j k)] w (AddP base v (nxt l s j k) w) := by
  have hz := extract_size s j k hk
  by_cases h : j < k
  · have e : nxt l s j k = l ++ [(s.extract j k).data.toList] := by unfold nxt; rw [if_pos h, extract_list]
    rw [e]
    exact add_some base v l _ w ho hb (by omega) (by omega) hl
  · obtain rfl : j = k := by omega
    have e : nxt l s j j = l := by unfold nxt; rw [if_neg h]
    rw [e, extract_none]
    exact add_none base v l w ho
theorem fs_space {s : ByteArray} {k j : Nat} (hlt : k < s.size) (h : (s[k]).toNat = 32) (hj : j = st s k) : nxt (fs s k) s j k = fs s (k + 1) ∧ k + 1 = st s (k + 1) := by
  rw [at_byte s k hlt] at h
  subst hj
  refine ⟨?_, by rw [st, if_pos h]⟩
  rw [fs, if_pos h]; rfl
theorem fs_other {s : ByteArray} {k j : Nat} (hlt : k < s.size) (h : (s[k]).toNat ≠ 32) (hj : j = st s k) : fs s k = fs s (k + 1) ∧ j = st s (k + 1) := by
  rw [at_byte s k hlt] at h
  subst hj
  exact ⟨by rw [fs, if_neg h], by rw [st, if_neg h]⟩
theorem ok_next {s : ByteArray} {k : Nat} (hlt : k < s.size) (h : ∀ i, i < k → okAt s i) (h1 : 32 ≤ (s[k]).toNat) (h2 : (s[k]).toNat ≤ 126) : ∀ i, i < k + 1 → okAt s i := by
  intro i hi
  by_cases e : i = k
  · subst e; unfold okAt; rw [← at_byte s i hlt]; exact ⟨h1, h2⟩
  · exact h i (by omega)
theorem fin_eq (s : ByteArray) : fin s = nxt (fs s s.size) s (st s s.size) s.size := rfl

theorem own_slice {w : World} {base : Nat} {e : TypeId} {size : Nat} {v : Value} {n : Nat} {xs : List Value} (h : w.ownsRow base e size v n xs) : ∃ a c, v = .slice a n c := by
  rcases h.2 with ⟨rfl, rfl⟩ | ⟨g, cap, cur, rfl, _⟩
  · exact ⟨_, _, rfl⟩
  · exact ⟨_, _, rfl⟩
set_option maxHeartbeats 1000000 in
theorem impl_short (s : ByteArray) (w : World) (h : s.size ≤ 600) : Calls Tryd.prog 16 #[.string s] w (RetF s w) := by
  have h' : (s.size : Int) ≤ 600 := by omega
  go_enter Tryd.func16, Tryd.ntmps16
  go_wp2
  go_step3
  go_wp2
  go_step3
  go_wp2
  have hown0 := World.ownsRow_made (e := 9) (size := 1) w #[] 0 (Nat.le_refl w.heap.size) (by unfold maxLen; omega) rfl
  have hb0 := (Below.refl w.heap.size w).alloc (Nat.le_refl _) (.cells #[] 9)
  go_loopw [4, 5, 6] (fun d b c wr => ∃ (k j : Nat), k ≤ s.size ∧ j ≤ k ∧ c = .int .i64 k ∧ b = .int .i64 j ∧ Hid (j = st s k) ∧ Hid (∀ i, i < k → okAt s i) ∧ Hid (wr.ownsRow w.heap.size 9 1 d (fs s k).length (strs (fs s k))) ∧ Hid (Below w.heap.size w wr)) (fun _ _ c _ => s.size - (intOf c).toNat)
  case atStart => exact ⟨0, 0, Nat.zero_le _, Nat.zero_le _, rfl, rfl, rfl, by intro i hi; omega, hown0, hb0⟩
  case round =>
    clear hown0 hb0
    obtain ⟨k, j, hk, hjk, rfl, rfl, HJ, HK, HO, HB⟩ := hrel
    have HLEN := Lib.hid (show (fs s k).length ≤ 1000000 by have := fs_len s k; omega)
    by_cases hlt : k < s.size
    · have hk0 : (0 : Int) ≤ k := by omega
      have hki : (k : Int) < s.size := by omega
      by_cases h32 : (s[k]).toNat = 32
      · have hb : (((s[k]).toNat : Int) == 32) = true := by rw [h32]; rfl
        have H32 := Lib.hid h32; clear h32
        go_wp2_with fail
        refine (add_any w.heap.size u4 (fs s k) s j k wr HO.out HB.out.size (by omega) hk hjk HLEN.out).mono ?_
        rintro e w1 ⟨v1, rfl, ho1, hg1⟩
        rw [(fs_space hlt H32.out HJ.out).1] at ho1
        have HO1 := Lib.hid ho1
        have HB1 := Lib.hid (HB.out.grown hg1 HB.out.size (fun b hb => (HO.out.lt b hb).1))
        have HK1 := Lib.hid (ok_next hlt HK.out (by have := H32.out; omega) (by have := H32.out; omega))
        clear ho1 hg1
        go_wp2
        go_roundw
        case rel => exact ⟨k + 1, k + 1, by omega, by omega, by go_num, by go_num, (fs_space hlt H32.out HJ.out).2, HK1.out, HO1.out, HB1.out⟩
        case measure => simp [intOf]; omega
      · have hb : (((s[k]).toNat : Int) == 32) = false := by simp; omega
        have H32 := Lib.hid h32; clear h32
        have HNX : Hid (32 ≤ ((s[k]).toNat : Int) → ((s[k]).toNat : Int) ≤ 126 → ∀ i, i < k + 1 → okAt s i) := fun h1 h2 => ok_next hlt HK.out (by omega) (by omega)
        have HBD : Hid (∀ h : ((s[k]).toNat : Int) < 32 ∨ 126 < ((s[k]).toNat : Int), ¬ (s.size ≤ 600 ∧ (∀ i, i < s.size → okAt s i) ∧ (fin s).length ≤ 24)) := fun h1 h2 => by
          have h3 := h2.2.1 k hlt
          unfold okAt at h3; rw [← at_byte s k hlt] at h3; omega
        have HF := Lib.hid (fs_other hlt H32.out HJ.out)
        go_wp2
        all_goals first
          | (go_roundw
             case rel => exact ⟨k + 1, j, by omega, by omega, by go_num, rfl, HF.out.2, HNX.out (by omega) (by omega), (by have := HO.out; rw [HF.out.1] at this; exact this), HB.out⟩
             case measure => simp [intOf]; omega)
          | (try rw [Exit.noGoto_ret]
             go_ret2
             exact RetF.no (HBD.out (by omega)) HB.out (World.ownsRow_nil _ _ _ _))
    · obtain rfl : k = s.size := by omega
      go_wp2_with fail
      refine (add_any w.heap.size u4 (fs s s.size) s j s.size wr HO.out HB.out.size (by omega) hk hjk HLEN.out).mono ?_
      rintro e w1 ⟨v1, rfl, ho1, hg1⟩
      have e1 : nxt (fs s s.size) s j s.size = fin s := by rw [HJ.out]; exact (fin_eq s).symm
      rw [e1] at ho1
      obtain ⟨a1, c1, rfl⟩ := own_slice ho1
      have HO1 := Lib.hid ho1
      have HB1 := Lib.hid (HB.out.grown hg1 HB.out.size (fun b hb => (HO.out.lt b hb).1))
      have HFL := Lib.hid (fin_len s)
      clear ho1 hg1 e1
      generalize hn : (fin s).length = n at *
      have HN := Lib.hid hn; clear hn
      by_cases h24 : 24 < n
      · have h24' : (24 : Int) < n := by omega
        go_wp2
        try rw [Exit.noGoto_ret]
        go_ret2
        exact RetF.no (fun hx => by have := hx.2.2; rw [HN.out] at this; omega) HB1.out (World.ownsRow_nil _ _ _ _)
      · have h24' : (n : Int) ≤ 24 := by omega
        go_wp2
        try rw [Exit.noGoto_ret]
        go_ret2
        exact RetF.yes h HK.out (by rw [HN.out]; omega) HB1.out (by rw [HN.out]; exact HO1.out)
theorem impl_split (s : ByteArray) (w : World) : Calls Tryd.prog 16 #[.string s] w (RetF s w) := by
  by_cases h : s.size ≤ 600
  · exact impl_short s w h
  · exact impl_long s w (by omega)
end Spl
end Go.Proofs.YtjgolnmbnkgbdaaDoor

/- The program's FreeSlots and FormatBitmap, where the table of masks holds what the program's text lays. -/
import Derived.Test.YtecffgbidfffmaaDoorBitsTab
namespace Go.Proofs.YtecffgbidfffmaaDoor
open Go.RowKit
namespace Bm
open Own Il
theorem implFree_no (n b : Int) (w : World) (h : isMap n b = false) : Calls Tryd.prog 18 #[.int .i64 n, .int .i64 b] w (ListP [] w) := by
  have H := Lib.hid h; clear h
  go_enter Tryd.func18, Tryd.ntmps18
  go_wp2_with fail
  refine (implOk n b _).mono ?_
  rintro e w' ⟨rfl, rfl⟩
  rw [H.out]
  go_wp2
  go_ret
  exact ⟨_, rfl, World.ownsRow_nil _ _ _ _, Below.refl _ _⟩
theorem cnt_upto (n b : Nat) (h : b < 2 ^ n) (hn : n ≤ 16) : cnt b 16 = cnt b n := by
  obtain ⟨d, hd⟩ := Nat.le.dest hn
  have e : ∀ d : Nat, cnt b (n + d) = cnt b n := by
    intro d
    induction d with
    | zero => rfl
    | succ d ih => rw [← Nat.add_assoc, cnt_succ, ih, high b n (n + d) h (by omega)]; rfl
  rw [← hd, e]
theorem implFree_yes (n b : Int) (w : World) (hM : Masks w) (h : isMap n b = true) : Calls Tryd.prog 18 #[.int .i64 n, .int .i64 b] w (ListP ((freeTo b.toNat n.toNat).map (fun (j : Nat) => (j : Int))) w) := by
  obtain ⟨hn0, hn1, hb0, hb1⟩ := map_bd h
  have H := Lib.hid h; clear h
  have HMK := Lib.hid hM; clear hM
  obtain ⟨N, rfl⟩ := Int.eq_ofNat_of_zero_le (show 0 ≤ n by omega)
  obtain ⟨B, rfl⟩ := Int.eq_ofNat_of_zero_le hb0
  simp only [Int.toNat_natCast] at *
  have hb1' : B < 2 ^ N := by
    have e : ((2 : Int) ^ N) = ((2 ^ N : Nat) : Int) := by simp
    rw [e] at hb1; omega
  have h16 := cnt_upto N B hb1' (by omega)
  have hcl := cnt_le B N
  have hb2 : (B : Int) ≤ 9223372036854775807 := by
    have h1 : (2 : Nat) ^ N ≤ 2 ^ 16 := Nat.pow_le_pow_right (by decide) (by omega)
    omega
  have HB := Lib.hid hb2
  obtain ⟨i0, hi, hz0, hz1, hz2⟩ := info_parts info_int
  have HC : Hid (∀ w, Calls Tryd.prog 16 #[.int .i64 (B : Int)] w (NumP (cnt B N : Int) w)) := fun w => by
    have := implCount (B : Int) w hb2
    unfold count at this
    rw [if_pos hb0, Int.toNat_natCast, h16] at this
    exact this
  clear hb1 hb1' hb2 h16
  have HFL := Lib.hid (cnt_free B N)
  generalize hm : cnt B N = m at *
  clear hm
  go_enter Tryd.func18, Tryd.ntmps18
  go_wp2_with fail
  refine (implOk N B _).mono ?_
  rintro e w' ⟨rfl, rfl⟩
  rw [H.out]
  go_wp2_with fail
  refine (HC.out _).mono ?_
  rintro e w' ⟨rfl, rfl⟩
  go_wp2_with (at_make; refine wpList_make_own _ rfl _ _ 26 rfl w.heap.size 3 i0 (.int .i64 0) 1 Tryd.underlying26 hi hz0 hz1 _ _ _ (N - m) rfl rfl (by omega) (by rw [hz2]; omega) (by unfold maxLen; omega) (Nat.le_refl _) ?_)
  intro w1 hown hgrow
  have hown0 : Hid (w1.ownsRow w.heap.size 3 1 (.slice (some ⟨w.heap.size, 0, none⟩) 0 (N - m)) (freeTo B 0).length (ints ((freeTo B 0).map (fun (j : Nat) => (j : Int))))) := hown
  have hbl0 := Lib.hid ((Below.refl w.heap.size w).grown hgrow (Nat.le_refl _) (fun _ h => by cases h))
  clear hown hgrow HC
  go_wp2_with fail
  go_loopw [5, 17] (fun v c wr => ∃ (k : Nat), k ≤ N ∧ c = .int .i64 k ∧ Hid (wr.ownsRow w.heap.size 3 1 v (freeTo B k).length (ints ((freeTo B k).map (fun (j : Nat) => (j : Int))))) ∧ Hid (Below w.heap.size w wr)) (fun _ c _ => N - (intOf c).toNat)
  case atStart => exact ⟨0, Nat.zero_le _, rfl, hown0.out, hbl0.out⟩
  case round =>
    clear hown0 hbl0
    obtain ⟨k, hk, rfl, HO, HBL⟩ := hrel
    have HLEN := Lib.hid (freeTo_le B k)
    have hk0 : 0 ≤ (k : Int) := by omega
    by_cases hlt : (k : Int) < N
    · have HH : Hid (∀ w', Below w.heap.size w w' → Calls Tryd.prog 15 #[.int .i64 (B : Int), .int .i64 (k : Int)] w' (BoolP (B.testBit k) w')) := fun w' hb' => by
        have := implHas (B : Int) (k : Int) w' HB.out (HMK.out.below hb')
        rw [has_nat B k (by omega)] at this
        exact this
      go_wp2_with fail
      refine (HH.out _ HBL.out).mono ?_
      rintro e w' ⟨rfl, rfl⟩
      clear HH
      have HS := Lib.hid (free_snoc B k)
      have HS2 := Lib.hid (freeTo_succ B k)
      cases hh : B.testBit k
      · rw [hh] at HS HS2
        go_wp2_with (at_builtin; refine wpList_append_own _ rfl (.tmp 24) (.tmp 26) 26 rfl w.heap.size 3 i0 (.int .i64 0) 1 8 Tryd.underlying26 hi hz0 hz1 hz2 rfl (by decide) u5 (freeTo B k).length _ rfl (HO.out.alloc _) ⟨wr.heap.size, 0, none⟩ 1 1 [_] rfl rfl (World.news_of_block (cs := #[_]) (heap_alloc_new wr _)) (by simp [Value.oneCell']) (by have := HLEN.out; unfold maxLen; omega) (by have := HLEN.out; omega) (by simp; have := HBL.out.size; omega) ?_; intro v2 w2 ho2 hg2 _)
        have HO2 : Hid (w2.ownsRow w.heap.size 3 1 v2 (freeTo B (k + 1)).length (ints ((freeTo B (k + 1)).map (fun (j : Nat) => (j : Int))))) := by
          show World.ownsRow _ _ _ _ _ _ _
          rw [HS.out, HS2.out, List.length_append]; exact ho2
        have HB2 := Lib.hid ((HBL.out.alloc HBL.out.size _).grown hg2 (by simp; have := HBL.out.size; omega) (fun x hx => (HO.out.lt x hx).1))
        clear ho2 hg2 hh
        go_wp2
        go_roundw
        case rel => exact ⟨k + 1, by omega, by go_num, HO2.out, HB2.out⟩
        case measure => simp [intOf]; omega
      · rw [hh] at HS HS2
        have HO2 : Hid (wr.ownsRow w.heap.size 3 1 u5 (freeTo B (k + 1)).length (ints ((freeTo B (k + 1)).map (fun (j : Nat) => (j : Int))))) := by
          show World.ownsRow _ _ _ _ _ _ _
          rw [HS.out, HS2.out]
          simpa using HO.out
        clear hh
        go_wp2
        go_roundw
        case rel => exact ⟨k + 1, by omega, by go_num, HO2.out, HBL.out⟩
        case measure => simp [intOf]; omega
    · obtain rfl : k = N := by omega
      have HF : Hid (wr.ownsRow w.heap.size 3 1 u5 ((freeTo B k).map (fun (j : Nat) => (j : Int))).length (ints ((freeTo B k).map (fun (j : Nat) => (j : Int))))) := by
        show World.ownsRow _ _ _ _ _ _ _
        rw [List.length_map]; exact HO.out
      have hd : decide ((k : Int) < k) = false := by simp
      go_wp2
      go_ret
      exact ⟨_, rfl, HF.out, HBL.out⟩
theorem implFree (n b : Int) (w : World) (hM : Masks w) : Calls Tryd.prog 18 #[.int .i64 n, .int .i64 b] w (ListP (freeL n b) w) := by
  unfold freeL
  cases h : isMap n b
  · exact implFree_no n b w h
  · exact implFree_yes n b w hM h
def TextB (l : List UInt8) (w : World) (e : Ending) (w' : World) : Prop := e = .returned (.string ⟨l.toArray⟩) ∧ Below w.heap.size w w'
theorem implText_no (n b : Int) (w : World) (h : isMap n b = false) : Calls Tryd.prog 19 #[.int .i64 n, .int .i64 b] w (TextB [] w) := by
  have H := Lib.hid h; clear h
  go_enter Tryd.func19, Tryd.ntmps19
  go_wp2_with fail
  refine (implOk n b _).mono ?_
  rintro e w' ⟨rfl, rfl⟩
  rw [H.out]
  go_wp2
  go_ret
  exact ⟨rfl, Below.refl _ _⟩
theorem info_byte : (Tryd.prog.info? 5).map (fun i => (i.zero, i.size, i.bytes)) = some (some (.int .u8 0), 1, 1) := by kernel_rfl
/-- the row of the text behind k rounds -/
def half (B N k : Nat) : List Value := bys (pic B k) ++ List.replicate (N - k) (.int .u8 0)
theorem half_len (B N k : Nat) (h : k ≤ N) : (half B N k).length = N := by unfold half; rw [List.length_append, bys_length, pic_len, List.length_replicate]; omega
theorem half_at (B N k : Nat) (h : k < N) : (half B N k)[k]? = some (.int .u8 0) := by
  unfold half
  rw [List.getElem?_append_right (by rw [bys_length, pic_len]; omega), bys_length, pic_len, Nat.sub_self, List.getElem?_replicate, if_pos (by omega)]
theorem half_set (B N k : Nat) (h : k < N) (x : UInt8) (hx : (if B.testBit k then 120 else 46) = x) : (half B N k).set k (.int .u8 (x.toNat : Int)) = half B N (k + 1) := by
  unfold half
  obtain ⟨m, hm⟩ : ∃ m, N - k = m + 1 := ⟨N - k - 1, by omega⟩
  rw [List.set_append_right _ _ (by rw [bys_length, pic_len]; omega), bys_length, pic_len, Nat.sub_self, hm, List.replicate_succ, List.set_cons_zero, pic_succ, bys_append, hx, List.append_assoc, show N - (k + 1) = m by omega]
  rfl
theorem half_set2 (B N k : Nat) (y x : Value) : ((half B N k).set k y).set k x = (half B N k).set k x := List.set_set ..
theorem half_all (B N : Nat) : half B N N = bys (pic B N) := by unfold half; simp
theorem implText_yes (n b : Int) (w : World) (hM : Masks w) (h : isMap n b = true) : Calls Tryd.prog 19 #[.int .i64 n, .int .i64 b] w (TextB (pic b.toNat n.toNat) w) := by
  obtain ⟨hn0, hn1, hb0, hb1⟩ := map_bd h
  have H := Lib.hid h; clear h
  have HMK := Lib.hid hM; clear hM
  obtain ⟨N, rfl⟩ := Int.eq_ofNat_of_zero_le (show 0 ≤ n by omega)
  obtain ⟨B, rfl⟩ := Int.eq_ofNat_of_zero_le hb0
  simp only [Int.toNat_natCast] at *
  have hb2 : (B : Int) ≤ 9223372036854775807 := by
    have e : ((2 : Int) ^ N) = ((2 ^ N : Nat) : Int) := by simp
    rw [e] at hb1
    have h1 : (2 : Nat) ^ N ≤ 2 ^ 16 := Nat.pow_le_pow_right (by decide) (by omega)
    omega
  have HB := Lib.hid hb2; clear hb1 hb2
  obtain ⟨i0, hi, hz0, hz1, hz2⟩ := info_parts info_byte
  go_enter Tryd.func19, Tryd.ntmps19
  go_wp2_with fail
  refine (implOk N B _).mono ?_
  rintro e w' ⟨rfl, rfl⟩
  rw [H.out]
  go_wp2_with (at_make; refine wpList_make_full _ rfl _ _ 22 rfl w.heap.size 5 i0 (.int .u8 0) 1 Tryd.underlying22 hi hz0 hz1 _ _ _ _ N rfl rfl rfl rfl (by rw [hz2]; omega) (by unfold maxLen; omega) (Nat.le_refl _) ?_)
  intro w1 hown hgrow
  have hown0 : Hid (w1.ownsRow w.heap.size 5 1 (.slice (some ⟨w.heap.size, 0, none⟩) N N) N (half B N 0)) := by
    show World.ownsRow _ _ _ _ _ _ _
    have e : (madeCells #[Value.int IntKind.u8 0] N).toList = half B N 0 := by rw [toList_madeCells_one]; rfl
    rw [← e]; exact hown
  have hbl0 := Lib.hid ((Below.refl w.heap.size w).grown hgrow (Nat.le_refl _) (fun _ h => by cases h))
  clear hown hgrow
  generalize hg0 : w.heap.size = g at *
  have HG := Lib.hid hg0; clear hg0
  go_wp2_with fail
  go_loopw [14] (fun c wr => ∃ (k : Nat), k ≤ N ∧ c = .int .i64 k ∧ Hid (wr.ownsRow g 5 1 (.slice (some ⟨g, 0, none⟩) N N) N (half B N k)) ∧ Hid (Below g w wr)) (fun c _ => N - (intOf c).toNat)
  case atStart => exact ⟨0, Nat.zero_le _, rfl, hown0.out, hbl0.out⟩
  case round =>
    clear hown0 hbl0
    obtain ⟨k, hk, rfl, HO, HBL⟩ := hrel
    have hk0 : 0 ≤ (k : Int) := by omega
    by_cases hlt : (k : Int) < N
    · have hkn : k < N := by omega
      have hc : wr.cell? ⟨g, k, none⟩ = some (.int .u8 0) := by rw [HO.out.cellAt k (by omega)]; exact half_at B N k hkn
      have hfz := HO.out.frozenAt k
      have hst := HO.out.stored k (.int .u8 46)
      have HO1 := Lib.hid hst.1
      have HB1 := Lib.hid (HBL.out.grown hst.2 (Nat.le_trans (Nat.le_of_eq HG.out.symm) HBL.out.size) (fun x hx => by cases hx; exact Nat.le_refl _))
      clear hst
      have HH : Hid (∀ w', Below g w w' → Calls Tryd.prog 15 #[.int .i64 (B : Int), .int .i64 (k : Int)] w' (BoolP (B.testBit k) w')) := fun w' hb' => by
        have := implHas (B : Int) (k : Int) w' HB.out (HMK.out.below (by rw [HG.out]; exact hb'))
        rw [has_nat B k (by omega)] at this
        exact this
      have HS := Lib.hid (half_set B N k hkn)
      go_wp2_with fail
      refine (HH.out _ HB1.out).mono ?_
      rintro e w' ⟨rfl, rfl⟩
      clear HH hc hfz
      generalize wr.setCell ⟨g, k, none⟩ (.int .u8 46) = w2 at *
      cases hh : B.testBit k
      · have HO2 : Hid (w2.ownsRow g 5 1 (.slice (some ⟨g, 0, none⟩) N N) N (half B N (k + 1))) := by
          show World.ownsRow _ _ _ _ _ _ _
          rw [← HS.out 46 (by rw [hh]; rfl)]; exact HO1.out
        clear hh
        go_wp2
        go_roundw
        case rel => exact ⟨k + 1, by omega, by go_num, HO2.out, HB1.out⟩
        case measure => simp [intOf]; omega
      · have hc : w2.cell? ⟨g, k, none⟩ = some (.int .u8 46) := by
          rw [HO1.out.cellAt k (by omega), List.getElem?_set_self (by rw [half_len B N k hk]; exact hkn)]
        have hfz := HO1.out.frozenAt k
        have hst := HO1.out.stored k (.int .u8 120)
        have HO2 : Hid ((w2.setCell ⟨g, k, none⟩ (.int .u8 120)).ownsRow g 5 1 (.slice (some ⟨g, 0, none⟩) N N) N (half B N (k + 1))) := by
          show World.ownsRow _ _ _ _ _ _ _
          rw [← HS.out 120 (by rw [hh]; rfl), ← half_set2 B N k (.int .u8 46)]; exact hst.1
        have HB2 := Lib.hid (HB1.out.grown hst.2 (Nat.le_trans (Nat.le_of_eq HG.out.symm) HB1.out.size) (fun x hx => by cases hx; exact Nat.le_refl _))
        clear hst hh
        go_wp2
        go_roundw
        case rel => exact ⟨k + 1, by omega, by go_num, HO2.out, HB2.out⟩
        case measure => simp [intOf]; omega
    · obtain rfl : k = N := by omega
      have hd : decide ((k : Int) < k) = false := by simp
      have ho : wr.ownsRow g 5 1 (.slice (some ⟨g, 0, none⟩) k k) (pic B k).length (bys (pic B k)) := by
        rw [pic_len, ← half_all]; exact HO.out
      have hr := Own.to_string (P := Tryd.prog) 22 9 5 ho Tryd.underlying22 Tryd.underlying5 Tryd.underlying9
      clear ho
      obtain ⟨s, hs⟩ : ∃ s, s = (⟨(pic B k).toArray⟩ : ByteArray) := ⟨_, rfl⟩
      rw [← hs] at hr
      have HSS := Lib.hid hs; clear hs
      go_wp2
      go_ret
      exact ⟨by rw [← HSS.out]; rfl, by rw [HG.out]; exact HBL.out⟩
theorem implText (n b : Int) (w : World) (hM : Masks w) : Calls Tryd.prog 19 #[.int .i64 n, .int .i64 b] w (TextB (textL n b) w) := by
  unfold textL
  cases h : isMap n b
  · exact implText_no n b w h
  · exact implText_yes n b w hM h
end Bm
end Go.Proofs.YtecffgbidfffmaaDoor

/- The specification's NextSeed, Choose and Shuffled. -/
import Derived.Test.YtjgjahbffakgaaaBits
import Derived.Test.YtjgjahbffakgaaaSeedMath
namespace Go.Proofs.Ytjgjahbffakgaaa
open Go.RowKit
namespace Sd
open Own Il
def PairP (a b : Int) (w : World) (e : Ending) (w' : World) : Prop := e = .returned (.tuple #[.int .i64 a, .int .i64 b]) ∧ w = w'
theorem specNext (s : Int) (w : World) : Calls Try.prog 14 #[.int .i64 s] w (Bm.NumP (nextN s) w) := by
  by_cases h : 0 ≤ s ∧ s ≤ 1073741823
  · obtain ⟨h0, h1⟩ := h
    have HF : Hid (nextN s = (1103515245 * s + 12345) % 1073741824) := by show _ = _; unfold nextN; rw [if_pos ⟨h0, h1⟩]
    go_enter Try.func14, Try.ntmps14
    go_wp2_with fail
    refine (Bm.in_yes _ _ _ _ h0 h1).mono ?_
    rintro e w' ⟨rfl, rfl⟩
    go_wp2
    go_ret
    exact ⟨by rw [HF.out]; rfl, rfl⟩
  · have H := Lib.hid h
    have HF : Hid (nextN s = 0) := by show _ = _; unfold nextN; rw [if_neg h]
    clear h
    go_enter Try.func14, Try.ntmps14
    go_wp2_with fail
    refine (Bm.in_no _ _ _ _ H.out).mono ?_
    rintro e w' ⟨rfl, rfl⟩
    go_wp2
    go_ret
    exact ⟨by rw [HF.out]; rfl, rfl⟩
theorem specChoose (s n : Int) (w : World) : Calls Try.prog 15 #[.int .i64 s, .int .i64 n] w (PairP (pickK s n) (pickS s n) w) := by
  by_cases hn : 1 ≤ n ∧ n ≤ 1000
  · by_cases hs : 0 ≤ s ∧ s ≤ 1073741823
    · have HK : Hid (pickK s n = nextN s / 1024 % n) := by show _ = _; unfold pickK; rw [if_pos ⟨hn, hs⟩]
      have HS : Hid (pickS s n = nextN s) := by show _ = _; unfold pickS; rw [if_pos ⟨hn, hs⟩]
      obtain ⟨h0, h1⟩ := nextN_in s
      have HN : Hid (∀ w, Calls Try.prog 14 #[.int .i64 s] w (Bm.NumP (nextN s) w)) := fun w => specNext s w
      generalize nextN s = t at *
      have hne : (n == 0) = false := by simp; omega
      have hn0 : 0 ≤ n := by omega
      go_enter Try.func15, Try.ntmps15
      go_wp2_with fail
      refine (Bm.in_yes _ _ _ _ hn.1 hn.2).mono ?_
      rintro e w' ⟨rfl, rfl⟩
      go_wp2_with fail
      refine (Bm.in_yes _ _ _ _ hs.1 hs.2).mono ?_
      rintro e w' ⟨rfl, rfl⟩
      obtain ⟨hn1, hn2⟩ := hn
      go_wp2_with fail
      refine (HN.out _).mono ?_
      rintro e w' ⟨rfl, rfl⟩
      go_wp2
      go_ret2
      exact ⟨by rw [HK.out, HS.out]; rfl, rfl⟩
    · have HK : Hid (pickK s n = 0) := by show _ = _; unfold pickK; rw [if_neg (fun h => hs h.2)]
      have HS : Hid (pickS s n = s) := by show _ = _; unfold pickS; rw [if_neg (fun h => hs h.2)]
      have H := Lib.hid hs; clear hs
      go_enter Try.func15, Try.ntmps15
      go_wp2_with fail
      refine (Bm.in_yes _ _ _ _ hn.1 hn.2).mono ?_
      rintro e w' ⟨rfl, rfl⟩
      go_wp2_with fail
      refine (Bm.in_no _ _ _ _ H.out).mono ?_
      rintro e w' ⟨rfl, rfl⟩
      go_wp2
      go_ret2
      exact ⟨by rw [HK.out, HS.out]; rfl, rfl⟩
  · have HK : Hid (pickK s n = 0) := by show _ = _; unfold pickK; rw [if_neg (fun h => hn h.1)]
    have HS : Hid (pickS s n = s) := by show _ = _; unfold pickS; rw [if_neg (fun h => hn h.1)]
    have H := Lib.hid hn; clear hn
    go_enter Try.func15, Try.ntmps15
    go_wp2_with fail
    refine (Bm.in_no _ _ _ _ H.out).mono ?_
    rintro e w' ⟨rfl, rfl⟩
    go_wp2
    go_ret2
    exact ⟨by rw [HK.out, HS.out]; rfl, rfl⟩
/-- a shuffle's answer: the numbers in memory of the call's own, and a seed -/
def ShufP (l : List Int) (t : Int) (w : World) (e : Ending) (w' : World) : Prop := ∃ v, e = .returned (.tuple #[v, .int .i64 t]) ∧ w'.ownsRow w.heap.size 3 1 v l.length (ints l) ∧ Below w.heap.size w w'
theorem info_int : (Try.prog.info? 3).map (fun i => (i.zero, i.size, i.bytes)) = some (some (.int .i64 0), 1, 8) := by kernel_rfl
theorem info_bool : (Try.prog.info? 4).map (fun i => (i.zero, i.size, i.bytes)) = some (some (.bool false), 1, 1) := by kernel_rfl
theorem made0 (w0 w : World) (h : w0.heap.size ≤ w.heap.size) : (w.alloc (.cells #[] 3)).ownsRow w0.heap.size 3 1 (.slice (some ⟨w.heap.size, 0, none⟩) 0 0) 0 [] :=
  World.ownsRow_made (e := 3) (size := 1) w #[] 0 h (by unfold maxLen; omega) rfl
theorem specShuf_no (s n : Int) (w : World) (h : ¬ ((0 ≤ n ∧ n ≤ 64) ∧ 0 ≤ s ∧ s ≤ 1073741823)) : Calls Try.prog 16 #[.int .i64 s, .int .i64 n] w (ShufP [] s w) := by
  by_cases hn : 0 ≤ n ∧ n ≤ 64
  · have H : Hid (¬ (0 ≤ s ∧ s ≤ 1073741823)) := fun hs => h ⟨hn, hs⟩
    clear h
    go_enter Try.func16, Try.ntmps16
    go_wp2_with fail
    refine (Bm.in_yes _ _ _ _ hn.1 hn.2).mono ?_
    rintro e w' ⟨rfl, rfl⟩
    go_wp2_with fail
    refine (Bm.in_no _ _ _ _ H.out).mono ?_
    rintro e w' ⟨rfl, rfl⟩
    go_wp2
    go_ret2
    exact ⟨_, rfl, made0 w w (Nat.le_refl _), (Below.refl _ _).alloc (Nat.le_refl _) _⟩
  · have H := Lib.hid hn; clear hn h
    go_enter Try.func16, Try.ntmps16
    go_wp2_with fail
    refine (Bm.in_no _ _ _ _ H.out).mono ?_
    rintro e w' ⟨rfl, rfl⟩
    go_wp2
    go_ret2
    exact ⟨_, rfl, made0 w w (Nat.le_refl _), (Below.refl _ _).alloc (Nat.le_refl _) _⟩
theorem ints_set (l : List Int) (i : Nat) (x : Int) : (ints l).set i (.int .i64 x) = ints (l.set i x) := by unfold ints; rw [List.map_set]
theorem row_at (n : Nat) (f : Nat → Nat) (i : Nat) (h : i < n) : (ints (rowF n f))[i]? = some (.int .i64 (f i : Int)) := by
  unfold ints; rw [List.getElem?_map, rowF_at n f i h]; rfl
theorem row_sw (n : Nat) (f : Nat → Nat) (i k : Nat) : ((ints (rowF n f)).set i (.int .i64 (f k : Int))).set k (.int .i64 (f i : Int)) = ints (rowF n (sw f i k)) := by
  rw [ints_set, ints_set, rowF_sw]
theorem st_succ (n : Nat) (s : Int) (m i k : Nat) (hi : n - 1 - m = i) (hk : pickK (st n s m).2 ((i + 1 : Nat) : Int) = (k : Int)) : st n s (m + 1) = (sw (st n s m).1 i k, nextN (st n s m).2) := by
  show (sw _ _ _, _) = _
  rw [hi, hk, Int.toNat_natCast]
theorem specShuf_yes (s : Int) (N : Nat) (w : World) (hn : N ≤ 64) (h0 : 0 ≤ s) (h1 : s ≤ 1073741823) : Calls Try.prog 16 #[.int .i64 s, .int .i64 N] w (ShufP (rowF N (shufF N s)) (shufS N s) w) := by
  obtain ⟨i0, hi, hz0, hz1, hz2⟩ := info_parts info_int
  have hn0 : (0 : Int) ≤ N := by omega
  have hn1 : (N : Int) ≤ 64 := by omega
  go_enter Try.func16, Try.ntmps16
  go_wp2_with fail
  refine (Bm.in_yes _ _ _ _ hn0 hn1).mono ?_
  rintro e w' ⟨rfl, rfl⟩
  go_wp2_with fail
  refine (Bm.in_yes _ _ _ _ h0 h1).mono ?_
  rintro e w' ⟨rfl, rfl⟩
  have hown0 := made0 w w (Nat.le_refl _)
  have hbl0 := (Below.refl w.heap.size w).alloc (Nat.le_refl _) (.cells #[] 3)
  have hown1 : Hid ((w.alloc (.cells #[] 3)).ownsRow w.heap.size 3 1 (.slice (some ⟨w.heap.size, 0, none⟩) 0 0) 0 (ints (rowF 0 (fun j => j)))) := hown0
  have hbl1 := Lib.hid hbl0
  clear hown0 hbl0
  go_wp2_with fail
  go_loopw [6, 7] (fun v c wr => ∃ (k : Nat), k ≤ N ∧ c = .int .i64 k ∧ Hid (wr.ownsRow w.heap.size 3 1 v k (ints (rowF k (fun j => j)))) ∧ Hid (Below w.heap.size w wr)) (fun _ c _ => N - (intOf c).toNat)
  case atStart => exact ⟨0, Nat.zero_le _, rfl, hown1.out, hbl1.out⟩
  case round =>
    clear hown1 hbl1
    obtain ⟨k, hk, rfl, HO, HBL⟩ := hrel
    have hk0 : 0 ≤ (k : Int) := by omega
    by_cases hlt : (k : Int) < N
    · go_wp2_with (at_builtin; refine wpList_append_own _ rfl (.tmp 28) (.tmp 30) 24 rfl w.heap.size 3 i0 (.int .i64 0) 1 8 Try.underlying24 hi hz0 hz1 hz2 rfl (by decide) u6 k _ rfl (HO.out.alloc _) ⟨wr.heap.size, 0, none⟩ 1 1 [_] rfl rfl (World.news_of_block (cs := #[_]) (heap_alloc_new wr _)) (by simp [Value.oneCell']) (by unfold maxLen; omega) (by omega) (by simp; have := HBL.out.size; omega) ?_; intro v2 w2 ho2 hg2 _)
      have HO2 : Hid (w2.ownsRow w.heap.size 3 1 v2 (k + 1) (ints (rowF (k + 1) (fun j => j)))) := by
        show World.ownsRow _ _ _ _ _ _ _
        rw [rowF_id_succ, ints_append]; exact ho2
      have HB2 := Lib.hid ((HBL.out.alloc HBL.out.size _).grown hg2 (by simp; have := HBL.out.size; omega) (fun x hx => (HO.out.lt x hx).1))
      clear ho2 hg2
      go_wp2
      go_roundw
      case rel => exact ⟨k + 1, by omega, by go_num, HO2.out, HB2.out⟩
      case measure => simp [intOf]; omega
    · obtain rfl : k = N := by omega
      have hd : decide ((k : Int) < k) = false := by simp
      have HO1 : Hid (wr.ownsRow w.heap.size 3 1 u6 k (ints (rowF k (st k s 0).1))) := HO.out
      clear HO
      go_wp2_with fail
      go_loopw [0, 8] (fun sd c wq => ∃ (m : Nat), (m ≤ k - 1) ∧ sd = .int .i64 (st k s m).2 ∧ c = .int .i64 ((k : Int) - 1 - m) ∧ Hid (wq.ownsRow w.heap.size 3 1 u6 k (ints (rowF k (st k s m).1))) ∧ Hid (Below w.heap.size w wq)) (fun _ c _ => (intOf c).toNat)
      case atStart => exact ⟨0, Nat.zero_le _, rfl, by simp, HO1.out, HBL.out⟩
      case round =>
        clear HO1 HBL
        obtain ⟨m, hm, rfl, rfl, HO, HBL⟩ := hrel
        have HSD := Lib.hid (st_seed k s ⟨h0, h1⟩ m)
        by_cases hlt : (1 : Int) ≤ (k : Int) - 1 - m
        · obtain ⟨i, hi⟩ : ∃ i : Nat, k - 1 - m = i := ⟨_, rfl⟩
          have ei : (k : Int) - 1 - m = (i : Int) := by omega
          rw [ei] at hlt ⊢
          have hik : i < k := by omega
          obtain ⟨q, hqe, hq⟩ := pickK_yes (st k s m).2 (i + 1) (by omega) (by omega) HSD.out
          have HST := Lib.hid (st_succ k s m i q hi hqe)
          have HPS := Lib.hid (pickS_yes (st k s m).2 (i + 1) (by omega) (by omega) HSD.out)
          have HQ := Lib.hid hqe
          clear hi hqe
          obtain ⟨g, cp, rfl, _, _⟩ := own_form HO.out (by omega)
          generalize (st k s m).1 = f at *
          generalize (st k s m).2 = sd at *
          have hc1 : wr.cell? ⟨g, i, none⟩ = some (.int .i64 (f i)) := by rw [HO.out.cellAt i (by omega)]; exact row_at k f i hik
          have hc2 : wr.cell? ⟨g, q, none⟩ = some (.int .i64 (f q)) := by rw [HO.out.cellAt q (by omega)]; exact row_at k f q (by omega)
          have hfz := HO.out.frozenAt i
          have hst := HO.out.stored i (.int .i64 (f q))
          have hc3 : (wr.setCell ⟨g, i, none⟩ (.int .i64 (f q))).cell? ⟨g, q, none⟩ = some (.int .i64 (f q)) := by
            rw [hst.1.cellAt q (by omega), List.getElem?_set]
            by_cases hiq : i = q
            · subst hiq; simp [ints_length, rowF_len, hik]
            · rw [if_neg hiq]; exact row_at k f q (by omega)
          have hfz2 := hst.1.frozenAt q
          have hst2 := hst.1.stored q (.int .i64 (f i))
          have HO2 : Hid (((wr.setCell ⟨g, i, none⟩ (.int .i64 (f q))).setCell ⟨g, q, none⟩ (.int .i64 (f i))).ownsRow w.heap.size 3 1 (.slice (some ⟨g, 0, none⟩) k cp) k (ints (rowF k (st k s (m + 1)).1))) := by
            show World.ownsRow _ _ _ _ _ _ _
            rw [HST.out, ← row_sw]; exact hst2.1
          have hge := (HO.out.lt g rfl).1
          have HB2 := Lib.hid ((HBL.out.grown hst.2 HBL.out.size (fun x hx => by cases hx; exact hge)).grown hst2.2 (Nat.le_trans HBL.out.size hst.2.size) (fun x hx => by cases hx; exact hge))
          have HS2 : Hid ((st k s (m + 1)).2 = nextN sd) := by show _ = _; rw [HST.out]
          clear hst hst2
          have hq0 : 0 ≤ (q : Int) := by omega
          have hqk : (q : Int) < (k : Int) := by omega
          have HCH : Hid (Calls Try.prog 15 #[.int .i64 sd, .int .i64 ((i : Int) + 1)] wr (PairP q (nextN sd) wr)) := by
            have := specChoose sd ((i : Int) + 1) wr
            have e : ((i : Int) + 1) = ((i + 1 : Nat) : Int) := by omega
            rw [e, HQ.out, HPS.out] at this
            rw [e]; exact this
          clear HQ HPS
          generalize nextN sd = sd2 at *
          go_wp2_with fail
          refine HCH.out.mono ?_
          rintro e w' ⟨rfl, rfl⟩
          go_wp2
          go_roundw
          case rel => exact ⟨m + 1, by omega, by rw [HS2.out], by go_num, HO2.out, HB2.out⟩
          case measure => simp [intOf]; omega
        · have hm2 : m = k - 1 := by omega
          have HF : Hid (wr.ownsRow w.heap.size 3 1 u6 (rowF k (shufF k s)).length (ints (rowF k (shufF k s)))) := by
            show World.ownsRow _ _ _ _ _ _ _
            rw [rowF_len]; unfold shufF; rw [← hm2]; exact HO.out
          have HS2 : Hid (shufS k s = (st k s m).2) := by show _ = _; rw [hm2]; rfl
          generalize (st k s m).2 = sd at *
          go_wp2
          go_ret2
          exact ⟨_, by rw [HS2.out]; rfl, HF.out, HBL.out⟩
theorem specShuf (s n : Int) (w : World) : Calls Try.prog 16 #[.int .i64 s, .int .i64 n] w (ShufP (outL s n) (outS s n) w) := by
  unfold outL outS
  by_cases h : (0 ≤ n ∧ n ≤ 64) ∧ 0 ≤ s ∧ s ≤ 1073741823
  · rw [if_pos h, if_pos h]
    obtain ⟨N, rfl⟩ := Int.eq_ofNat_of_zero_le h.1.1
    rw [Int.toNat_natCast]
    exact specShuf_yes s N w (by omega) h.2.1 h.2.2
  · rw [if_neg h, if_neg h]
    exact specShuf_no s n w h
end Sd
end Go.Proofs.Ytjgjahbffakgaaa

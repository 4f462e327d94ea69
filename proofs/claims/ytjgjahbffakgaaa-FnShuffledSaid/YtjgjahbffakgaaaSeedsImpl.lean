/- The program's NextSeed, Choose and Shuffled. -/
import Derived.Test.YtjgjahbffakgaaaSeeds
namespace Go.Proofs.Ytjgjahbffakgaaa
open Go.RowKit
namespace Sd
open Own Il
theorem in_yes (s : Int) (w : World) (h0 : 0 ≤ s) (h1 : s ≤ 1073741823) : Calls Try.prog 22 #[.int .i64 s] w fun e w' => e = .returned (.bool true) ∧ w = w' := by
  go_enter Try.func22, Try.ntmps22
  go_wp2
  go_ret
  exact ⟨rfl, rfl⟩
theorem in_no (s : Int) (w : World) (h : ¬ (0 ≤ s ∧ s ≤ 1073741823)) : Calls Try.prog 22 #[.int .i64 s] w fun e w' => e = .returned (.bool false) ∧ w = w' := by
  by_cases h1 : 0 ≤ s
  · have h2 : decide (s ≤ 1073741823) = false := by simp; omega
    clear h
    go_enter Try.func22, Try.ntmps22
    go_wp2
    go_ret
    exact ⟨rfl, rfl⟩
  · have h2 : decide (0 ≤ s) = false := by simp; omega
    clear h
    go_enter Try.func22, Try.ntmps22
    go_wp2
    go_ret
    exact ⟨rfl, rfl⟩
theorem implNext (s : Int) (w : World) : Calls Try.prog 13 #[.int .i64 s] w (Bm.NumP (nextN s) w) := by
  by_cases h : 0 ≤ s ∧ s ≤ 1073741823
  · obtain ⟨h0, h1⟩ := h
    have HF : Hid (nextN s = (1103515245 * s + 12345) % 1073741824) := by show _ = _; unfold nextN; rw [if_pos ⟨h0, h1⟩]
    go_enter Try.func13, Try.ntmps13
    go_wp2_with fail
    refine (in_yes _ _ h0 h1).mono ?_
    rintro e w' ⟨rfl, rfl⟩
    go_wp2
    go_ret
    exact ⟨by rw [HF.out]; rfl, rfl⟩
  · have H := Lib.hid h
    have HF : Hid (nextN s = 0) := by show _ = _; unfold nextN; rw [if_neg h]
    clear h
    go_enter Try.func13, Try.ntmps13
    go_wp2_with fail
    refine (in_no _ _ H.out).mono ?_
    rintro e w' ⟨rfl, rfl⟩
    go_wp2
    go_ret
    exact ⟨by rw [HF.out]; rfl, rfl⟩
theorem implChoose (s n : Int) (w : World) : Calls Try.prog 12 #[.int .i64 s, .int .i64 n] w (PairP (pickK s n) (pickS s n) w) := by
  by_cases hn : 1 ≤ n ∧ n ≤ 1000
  · by_cases hs : 0 ≤ s ∧ s ≤ 1073741823
    · have HK : Hid (pickK s n = nextN s / 1024 % n) := by show _ = _; unfold pickK; rw [if_pos ⟨hn, hs⟩]
      have HS : Hid (pickS s n = nextN s) := by show _ = _; unfold pickS; rw [if_pos ⟨hn, hs⟩]
      obtain ⟨h0, h1⟩ := nextN_in s
      have HN : Hid (∀ w, Calls Try.prog 13 #[.int .i64 s] w (Bm.NumP (nextN s) w)) := fun w => implNext s w
      generalize nextN s = t at *
      have hne : (n == 0) = false := by simp; omega
      have hn0 : 0 ≤ n := by omega
      obtain ⟨hn1, hn2⟩ := hn
      go_enter Try.func12, Try.ntmps12
      go_wp2_with fail
      refine (in_yes _ _ hs.1 hs.2).mono ?_
      rintro e w' ⟨rfl, rfl⟩
      go_wp2_with fail
      refine (HN.out _).mono ?_
      rintro e w' ⟨rfl, rfl⟩
      go_wp2
      go_ret2
      exact ⟨by rw [HK.out, HS.out]; rfl, rfl⟩
    · have HK : Hid (pickK s n = 0) := by show _ = _; unfold pickK; rw [if_neg (fun h => hs h.2)]
      have HS : Hid (pickS s n = s) := by show _ = _; unfold pickS; rw [if_neg (fun h => hs h.2)]
      have H := Lib.hid hs; clear hs
      obtain ⟨hn1, hn2⟩ := hn
      go_enter Try.func12, Try.ntmps12
      go_wp2_with fail
      refine (in_no _ _ H.out).mono ?_
      rintro e w' ⟨rfl, rfl⟩
      go_wp2
      go_ret2
      exact ⟨by rw [HK.out, HS.out]; rfl, rfl⟩
  · have HK : Hid (pickK s n = 0) := by show _ = _; unfold pickK; rw [if_neg (fun h => hn h.1)]
    have HS : Hid (pickS s n = s) := by show _ = _; unfold pickS; rw [if_neg (fun h => hn h.1)]
    by_cases h1 : n < 1
    · clear hn
      go_enter Try.func12, Try.ntmps12
      go_wp2
      go_ret2
      exact ⟨by rw [HK.out, HS.out]; rfl, rfl⟩
    · have h2 : 1000 < n := by omega
      clear hn
      go_enter Try.func12, Try.ntmps12
      go_wp2
      go_ret2
      exact ⟨by rw [HK.out, HS.out]; rfl, rfl⟩
theorem implPick (s c : Int) (B : Nat) (w : World) (h : w.heap[B]? = some (.cells #[.int .i64 s] 3 (0, 0))) : Calls Try.prog 23 #[.int .i64 c, .pointer (some ⟨B, 0, none⟩)] w fun e w' => e = .returned (.int .i64 (pickK s c)) ∧ w.setCell ⟨B, 0, none⟩ (.int .i64 (pickS s c)) = w' := by
  have hc := cell_of_one h
  have hf := free_of_one h
  have HC : Hid (∀ w, Calls Try.prog 12 #[.int .i64 s, .int .i64 c] w (PairP (pickK s c) (pickS s c) w)) := fun w => implChoose s c w
  generalize pickK s c = p at *
  generalize pickS s c = q at *
  clear h
  go_enter Try.func23, Try.ntmps23
  go_wp2_with fail
  refine (HC.out _).mono ?_
  rintro e w' ⟨rfl, rfl⟩
  go_wp2
  go_ret
  exact ⟨rfl, rfl⟩
theorem implShuf_no (s n : Int) (w : World) (h : ¬ ((0 ≤ n ∧ n ≤ 64) ∧ 0 ≤ s ∧ s ≤ 1073741823)) : Calls Try.prog 10 #[.int .i64 s, .int .i64 n] w (ShufP [] s w) := by
  have hcell : (w.alloc (.cells #[.int .i64 s] 3)).cell? ⟨w.heap.size, 0, none⟩ = some (.int .i64 s) := cell_of_one (t := 3) (heap_alloc_new w _)
  have HB : Hid (Below w.heap.size w (w.alloc (.cells #[.int .i64 s] 3)).drew) := ((Below.refl _ _).alloc (Nat.le_refl _) _).drew
  by_cases hn : 0 ≤ n ∧ n ≤ 64
  · have H : Hid (¬ (0 ≤ s ∧ s ≤ 1073741823)) := fun hs => h ⟨hn, hs⟩
    clear h
    obtain ⟨hn1, hn2⟩ := hn
    go_enter Try.func10, Try.ntmps10
    go_wp2_with fail
    refine (in_no _ _ H.out).mono ?_
    rintro e w' ⟨rfl, rfl⟩
    go_wp2
    go_region
    all_goals (try go_wp2)
    go_ret2
    exact ⟨_, rfl, World.ownsRow_nil _ _ _ _, HB.out⟩
  · have hd : decide (n < 0) = true ∨ (decide (n < 0) = false ∧ decide (64 < n) = true) := by simp; omega
    clear hn h
    rcases hd with hd | ⟨hd, hd2⟩
    · go_enter Try.func10, Try.ntmps10
      go_wp2
      go_region
      all_goals (try go_wp2)
      go_ret2
      exact ⟨_, rfl, World.ownsRow_nil _ _ _ _, HB.out⟩
    · go_enter Try.func10, Try.ntmps10
      go_wp2
      go_region
      all_goals (try go_wp2)
      go_ret2
      exact ⟨_, rfl, World.ownsRow_nil _ _ _ _, HB.out⟩
theorem own_mono {w : World} {b b' : Nat} {e : TypeId} {size : Nat} {v : Value} {n : Nat} {xs : List Value} (h : w.ownsRow b e size v n xs) (hb : b' ≤ b) : w.ownsRow b' e size v n xs := by
  obtain ⟨h1, h2⟩ := h
  refine ⟨h1, ?_⟩
  rcases h2 with h2 | ⟨g, cap, cur, hv, hg, r⟩
  · exact Or.inl h2
  · exact Or.inr ⟨g, cap, cur, hv, Nat.le_trans hb hg, r⟩
/-- the places below k numbered, the others zero -/
def upN (k : Nat) : Nat → Nat := fun j => if j < k then j else 0
theorem row_zero (n : Nat) : List.replicate n (Value.int .i64 0) = ints (rowF n (upN 0)) := by
  apply List.ext_getElem?
  intro j
  by_cases hj : j < n
  · simp [ints, rowF, upN, hj]
  · simp [ints, rowF, hj]
theorem row_up (n k : Nat) : (ints (rowF n (upN k))).set k (.int .i64 (k : Int)) = ints (rowF n (upN (k + 1))) := by
  rw [ints_set, rowF_set]
  have e : (fun j => if j = k then k else upN k j) = upN (k + 1) := by
    funext j
    unfold upN
    by_cases h : j = k
    · subst h; rw [if_pos rfl, if_pos (Nat.lt_succ_self _)]
    · rw [if_neg h]
      by_cases h2 : j < k
      · rw [if_pos h2, if_pos (by omega)]
      · rw [if_neg h2, if_neg (by omega)]
  rw [e]
theorem row_all (n : Nat) : rowF n (upN n) = rowF n (fun j => j) := by
  unfold rowF
  apply List.map_congr_left
  intro j hj
  rw [List.mem_range] at hj
  unfold upN
  rw [if_pos hj]
theorem implShuf_yes (s : Int) (N : Nat) (w : World) (hn : N ≤ 64) (h0 : 0 ≤ s) (h1 : s ≤ 1073741823) : Calls Try.prog 10 #[.int .i64 s, .int .i64 N] w (ShufP (rowF N (shufF N s)) (shufS N s) w) := by
  obtain ⟨i0, hi, hz0, hz1, hz2⟩ := info_parts info_int
  have hn0 : (0 : Int) ≤ N := by omega
  have hn1 : (N : Int) ≤ 64 := by omega
  obtain ⟨B, hB⟩ : ∃ B, w.heap.size = B := ⟨_, rfl⟩
  have hblk : (w.alloc (.cells #[.int .i64 s] 3)).heap[B]? = some (.cells #[.int .i64 s] 3 (0, 0)) := by rw [← hB]; exact heap_alloc_new w _
  have HBK := Lib.hid hblk
  have hcell := cell_of_one hblk
  clear hblk
  have HB0 : Hid (Below B w (w.alloc (.cells #[.int .i64 s] 3))) := (Below.refl _ _).alloc (by rw [hB]; exact Nat.le_refl _) _
  have HSZ : Hid ((w.alloc (.cells #[.int .i64 s] 3)).heap.size = B + 1) := by show _ = _; simp [hB]
  go_enter Try.func10, Try.ntmps10
  go_wp2_with fail
  refine (in_yes _ _ h0 h1).mono ?_
  rintro e w' ⟨rfl, rfl⟩
  generalize w.alloc (.cells #[.int .i64 s] 3) = w1 at *
  have hmf : ∀ (fn : Fn) (first cap : Array Value) (w : World), (Instr.makeFunc fn first cap).run Try.prog w = .ok (.func fn first cap) w := fun _ _ _ _ => rfl
  go_wp2_with (at_make; refine wpList_make_full _ rfl _ _ 24 rfl (B + 1) 3 i0 (.int .i64 0) 1 Try.underlying24 hi hz0 hz1 _ _ _ _ N rfl rfl rfl rfl (by rw [hz2]; omega) (by unfold maxLen; omega) (by rw [HSZ.out]; exact Nat.le_refl _) ?_)
  intro w2 hown hgrow
  have HBK2 : Hid (w2.heap[B]? = some (.cells #[.int .i64 s] 3 (0, 0))) := (hgrow.block B (lt_of_block HBK.out) (fun e => by cases e)).trans HBK.out
  have HB2 := Lib.hid (HB0.out.grown hgrow (by rw [HSZ.out]; omega) (fun _ h => by cases h))
  clear hcell HBK HB0 hgrow
  generalize w1.heap.size = G at *
  obtain rfl : G = B + 1 := HSZ.out
  clear HSZ
  have HO1 : Hid (w2.ownsRow (B + 1) 3 1 (.slice (some ⟨B + 1, 0, none⟩) N N) N (ints (rowF N (upN 0)))) := by
    show World.ownsRow _ _ _ _ _ _ _
    rw [← row_zero, ← toList_madeCells_one]; exact hown
  clear hown
  go_wp2_with fail
  go_loopw [28] (fun c wr => ∃ (k : Nat), k ≤ N ∧ c = .int .i64 k ∧ Hid (wr.ownsRow (B + 1) 3 1 (.slice (some ⟨B + 1, 0, none⟩) N N) N (ints (rowF N (upN k)))) ∧ Hid (wr.heap[B]? = some (.cells #[.int .i64 s] 3 (0, 0))) ∧ Hid (Below B w wr)) (fun c _ => N - (intOf c).toNat)
  case atStart => exact ⟨0, Nat.zero_le _, rfl, HO1.out, HBK2.out, HB2.out⟩
  case round =>
    clear HO1 HBK2 HB2
    obtain ⟨k, hk, rfl, HO, HBK, HBL⟩ := hrel
    have hk0 : 0 ≤ (k : Int) := by omega
    by_cases hlt : (k : Int) < N
    · have hkN : k < N := by omega
      have hc1 : wr.cell? ⟨B + 1, k, none⟩ = some (.int .i64 (upN k k)) := by rw [HO.out.cellAt k (by omega)]; exact row_at N _ k hkN
      have hfz := HO.out.frozenAt k
      have hst := HO.out.stored k (.int .i64 (k : Int))
      have HO2 : Hid ((wr.setCell ⟨B + 1, k, none⟩ (.int .i64 (k : Int))).ownsRow (B + 1) 3 1 (.slice (some ⟨B + 1, 0, none⟩) N N) N (ints (rowF N (upN (k + 1))))) := by
        show World.ownsRow _ _ _ _ _ _ _
        rw [← row_up]; exact hst.1
      have HBK2 : Hid ((wr.setCell ⟨B + 1, k, none⟩ (.int .i64 (k : Int))).heap[B]? = some (.cells #[.int .i64 s] 3 (0, 0))) := (Below.heap_setCell _ _ _ _ (by show B ≠ B + 1; omega)).trans HBK.out
      have HB2 := Lib.hid (HBL.out.setCell (p := ⟨B + 1, k, none⟩) (by show B ≤ B + 1; omega) (.int .i64 (k : Int)))
      clear hst
      go_wp2
      go_roundw
      case rel => exact ⟨k + 1, by omega, by go_num, HO2.out, HBK2.out, HB2.out⟩
      case measure => simp [intOf]; omega
    · obtain rfl : k = N := by omega
      have HO1 : Hid (wr.ownsRow (B + 1) 3 1 (.slice (some ⟨B + 1, 0, none⟩) k k) k (ints (rowF k (st k s 0).1))) := by
        show World.ownsRow _ _ _ _ _ _ _
        have := HO.out
        rw [row_all] at this
        exact this
      have HBK1 : Hid (wr.heap[B]? = some (.cells #[.int .i64 (st k s 0).2] 3 (0, 0))) := HBK.out
      clear HO HBK
      go_wp2_with fail
      go_loopw [9] (fun c wq => ∃ (m : Nat), (m ≤ k - 1) ∧ c = .int .i64 ((k : Int) - 1 - m) ∧ Hid (wq.ownsRow (B + 1) 3 1 (.slice (some ⟨B + 1, 0, none⟩) k k) k (ints (rowF k (st k s m).1))) ∧ Hid (wq.heap[B]? = some (.cells #[.int .i64 (st k s m).2] 3 (0, 0))) ∧ Hid (Below B w wq)) (fun c _ => (intOf c).toNat)
      case atStart => exact ⟨0, Nat.zero_le _, by simp, HO1.out, HBK1.out, HBL.out⟩
      case round =>
        clear HO1 HBK1 HBL
        obtain ⟨m, hm, rfl, HO, HBK, HBL⟩ := hrel
        have HSD := Lib.hid (st_seed k s ⟨h0, h1⟩ m)
        by_cases hlt : (1 : Int) ≤ (k : Int) - 1 - m
        · obtain ⟨i, hi⟩ : ∃ i : Nat, k - 1 - m = i := ⟨_, rfl⟩
          have ei : (k : Int) - 1 - m = (i : Int) := by omega
          rw [ei] at hlt ⊢
          have hik : i < k := by omega
          obtain ⟨q, hqe, hq⟩ := pickK_yes (st k s m).2 (i + 1) (by omega) (by omega) HSD.out
          have HST := Lib.hid (st_succ k s m i q hi hqe)
          have hps := pickS_yes (st k s m).2 (i + 1) (by omega) (by omega) HSD.out
          have HPK := Lib.hid (implPick (st k s m).2 ((i + 1 : Nat) : Int) B wr HBK.out)
          rw [hqe, hps] at HPK
          clear hi hqe hps
          have HBQ : Hid ((wr.setCell ⟨B, 0, none⟩ (.int .i64 (nextN (st k s m).2))).heap[B]? = some (.cells #[.int .i64 (nextN (st k s m).2)] 3 (0, 0))) := one_setCell HBK.out
          have HOQ := Lib.hid (ownsRow_setCell_other HO.out (a := ⟨B, 0, none⟩) (by simp [Value.ownBlock]) (.int .i64 (nextN (st k s m).2)))
          have HBLQ := Lib.hid (HBL.out.setCell (p := ⟨B, 0, none⟩) (Nat.le_refl _) (.int .i64 (nextN (st k s m).2)))
          have eS : (st k s (m + 1)).2 = nextN (st k s m).2 := by rw [HST.out]
          have HS2 := Lib.hid eS
          clear eS HO HBK HBL
          generalize (st k s m).1 = f at *
          generalize (st k s m).2 = sd at *
          generalize nextN sd = sd2 at *
          generalize wr.setCell ⟨B, 0, none⟩ (.int .i64 sd2) = wq at *
          have hc1 : wq.cell? ⟨B + 1, i, none⟩ = some (.int .i64 (f i)) := by rw [HOQ.out.cellAt i (by omega)]; exact row_at k f i hik
          have hc2 : wq.cell? ⟨B + 1, q, none⟩ = some (.int .i64 (f q)) := by rw [HOQ.out.cellAt q (by omega)]; exact row_at k f q (by omega)
          have hfz := HOQ.out.frozenAt i
          have hst := HOQ.out.stored i (.int .i64 (f q))
          have hc3 : (wq.setCell ⟨B + 1, i, none⟩ (.int .i64 (f q))).cell? ⟨B + 1, q, none⟩ = some (.int .i64 (f q)) := by
            rw [hst.1.cellAt q (by omega), List.getElem?_set]
            by_cases hiq : i = q
            · subst hiq; simp [ints_length, rowF_len, hik]
            · rw [if_neg hiq]; exact row_at k f q (by omega)
          have hfz2 := hst.1.frozenAt q
          have hst2 := hst.1.stored q (.int .i64 (f i))
          have HO2 : Hid (((wq.setCell ⟨B + 1, i, none⟩ (.int .i64 (f q))).setCell ⟨B + 1, q, none⟩ (.int .i64 (f i))).ownsRow (B + 1) 3 1 (.slice (some ⟨B + 1, 0, none⟩) k k) k (ints (rowF k (st k s (m + 1)).1))) := by
            show World.ownsRow _ _ _ _ _ _ _
            rw [HST.out, ← row_sw]; exact hst2.1
          have HBK2 : Hid (((wq.setCell ⟨B + 1, i, none⟩ (.int .i64 (f q))).setCell ⟨B + 1, q, none⟩ (.int .i64 (f i))).heap[B]? = some (.cells #[.int .i64 sd2] 3 (0, 0))) := (Below.heap_setCell _ _ _ _ (by show B ≠ B + 1; omega)).trans ((Below.heap_setCell _ _ _ _ (by show B ≠ B + 1; omega)).trans HBQ.out)
          have HB2 := Lib.hid ((HBLQ.out.setCell (p := ⟨B + 1, i, none⟩) (by show B ≤ B + 1; omega) (.int .i64 (f q))).setCell (p := ⟨B + 1, q, none⟩) (by show B ≤ B + 1; omega) (.int .i64 (f i)))
          clear hst hst2
          have hq0 : 0 ≤ (q : Int) := by omega
          have hqk : (q : Int) < (k : Int) := by omega
          have hi0 : 0 ≤ (i : Int) := by omega
          have hik' : (i : Int) < (k : Int) := by omega
          go_wp2_with fail
          rw [show ((i : Int) + 1) = ((i + 1 : Nat) : Int) by omega]
          refine HPK.out.mono ?_
          rintro e w' ⟨rfl, rfl⟩
          go_wp2
          go_region
          all_goals (try go_wp2)
          go_roundw
          case rel => exact ⟨m + 1, by omega, by go_num, HO2.out, by rw [HS2.out]; exact HBK2.out, HB2.out.drew⟩
          case measure => simp [intOf]; omega
        · have hm2 : m = k - 1 := by omega
          have HF : Hid (wr.ownsRow B 3 1 (.slice (some ⟨B + 1, 0, none⟩) k k) (rowF k (shufF k s)).length (ints (rowF k (shufF k s)))) := by
            show World.ownsRow _ _ _ _ _ _ _
            rw [rowF_len]; unfold shufF; rw [← hm2]; exact own_mono HO.out (Nat.le_succ _)
          have HS2 : Hid (shufS k s = (st k s m).2) := by show _ = _; rw [hm2]; rfl
          have hcB := cell_of_one HBK.out
          generalize (st k s m).2 = sd at *
          go_wp2
          go_region
          all_goals (try go_wp2)
          go_ret2
          refine ⟨_, by rw [HS2.out]; rfl, ?_, ?_⟩
          · rw [hB]; exact HF.out
          · rw [hB]; exact HBL.out.drew
theorem implShuf (s n : Int) (w : World) : Calls Try.prog 10 #[.int .i64 s, .int .i64 n] w (ShufP (outL s n) (outS s n) w) := by
  unfold outL outS
  by_cases h : (0 ≤ n ∧ n ≤ 64) ∧ 0 ≤ s ∧ s ≤ 1073741823
  · rw [if_pos h, if_pos h]
    obtain ⟨N, rfl⟩ := Int.eq_ofNat_of_zero_le h.1.1
    rw [Int.toNat_natCast]
    exact implShuf_yes s N w (by omega) h.2.1 h.2.2
  · rw [if_neg h, if_neg h]
    exact implShuf_no s n w h
end Sd
end Go.Proofs.Ytjgjahbffakgaaa

/- A symbolic run (Sed3). No program. -/
import Derived.WalkKit
import Derived.RowKit
import Derived.Test.YthcgaeodcoidnaaDoorBit2
namespace Go.Proofs.YthcgaeodcoidnaaDoor
open Go.RowKit
namespace Sd
/-- the next seed -/
def nextN (s : Int) : Int := if 0 ≤ s ∧ s ≤ 1073741823 then (1103515245 * s + 12345) % 1073741824 else 0
theorem nextN_in (s : Int) : 0 ≤ nextN s ∧ nextN s ≤ 1073741823 := by unfold nextN; split <;> omega
/-- the number that a choice among n gives -/
def pickK (s n : Int) : Int := if (1 ≤ n ∧ n ≤ 1000) ∧ 0 ≤ s ∧ s ≤ 1073741823 then nextN s / 1024 % n else 0
def pickS (s n : Int) : Int := if (1 ≤ n ∧ n ≤ 1000) ∧ 0 ≤ s ∧ s ≤ 1073741823 then nextN s else s
theorem pickK_yes (s : Int) (n : Nat) (h0 : 1 ≤ n) (h1 : n ≤ 1000) (hs : 0 ≤ s ∧ s ≤ 1073741823) : ∃ k : Nat, pickK s n = k ∧ k < n := by
  unfold pickK
  rw [if_pos ⟨by omega, hs⟩]
  have h2 := Int.emod_nonneg (nextN s / 1024) (show (n : Int) ≠ 0 by omega)
  have h3 := Int.emod_lt_of_pos (nextN s / 1024) (show (0 : Int) < n by omega)
  exact ⟨(nextN s / 1024 % n).toNat, by omega, by omega⟩
theorem pickS_yes (s : Int) (n : Nat) (h0 : 1 ≤ n) (h1 : n ≤ 1000) (hs : 0 ≤ s ∧ s ≤ 1073741823) : pickS s n = nextN s := by
  unfold pickS; rw [if_pos ⟨by omega, hs⟩]
/-- two places exchanged -/
def sw (f : Nat → Nat) (i k : Nat) : Nat → Nat := fun j => if j = k then f i else if j = i then f k else f j
/-- behind m exchanges of a shuffle of n numbers -/
def st (n : Nat) (s : Int) : Nat → (Nat → Nat) × Int
  | 0 => (fun j => j, s)
  | m + 1 => (sw (st n s m).1 (n - 1 - m) (pickK (st n s m).2 ((n - 1 - m + 1 : Nat) : Int)).toNat, nextN (st n s m).2)
theorem st_seed (n : Nat) (s : Int) (hs : 0 ≤ s ∧ s ≤ 1073741823) : ∀ m, 0 ≤ (st n s m).2 ∧ (st n s m).2 ≤ 1073741823
  | 0 => hs
  | _ + 1 => nextN_in _
theorem sw_lt {n : Nat} {f : Nat → Nat} {i k : Nat} (h : ∀ j, j < n → f j < n) (hi : i < n) (hk : k < n) : ∀ j, j < n → sw f i k j < n := by
  intro j hj
  unfold sw
  split
  · exact h i hi
  · split
    · exact h k hk
    · exact h j hj
theorem sw_inj {n : Nat} {f : Nat → Nat} {i k : Nat} (h : ∀ a b, a < n → b < n → f a = f b → a = b) (hi : i < n) (hk : k < n) : ∀ a b, a < n → b < n → sw f i k a = sw f i k b → a = b := by
  intro a b ha hb e
  unfold sw at e
  split at e <;> split at e <;> (try split at e) <;> (try split at e) <;> first
    | omega
    | (have := h _ _ (by assumption) (by assumption) e; omega)
theorem st_perm (n : Nat) (s : Int) (hn : n ≤ 64) (hs : 0 ≤ s ∧ s ≤ 1073741823) : ∀ m, m ≤ n - 1 → (∀ j, j < n → (st n s m).1 j < n) ∧ (∀ a b, a < n → b < n → (st n s m).1 a = (st n s m).1 b → a = b)
  | 0, _ => ⟨fun _ h => h, fun _ _ _ _ e => e⟩
  | m + 1, hm => by
    obtain ⟨h1, h2⟩ := st_perm n s hn hs m (by omega)
    obtain ⟨k, hk, hkn⟩ := pickK_yes (st n s m).2 (n - 1 - m + 1) (by omega) (by omega) (st_seed n s hs m)
    have e : (st n s (m + 1)).1 = sw (st n s m).1 (n - 1 - m) k := by
      show sw _ _ _ = _
      rw [hk, Int.toNat_natCast]
    rw [e]
    exact ⟨sw_lt h1 (by omega) (by omega), sw_inj h2 (by omega) (by omega)⟩
/-- the numbers of a shuffle -/
def rowF (n : Nat) (f : Nat → Nat) : List Int := (List.range n).map fun j => (f j : Int)
theorem rowF_len (n : Nat) (f : Nat → Nat) : (rowF n f).length = n := by simp [rowF]
theorem rowF_at (n : Nat) (f : Nat → Nat) (i : Nat) (h : i < n) : (rowF n f)[i]? = some (f i : Int) := by simp [rowF, h]
theorem rowF_set (n : Nat) (f : Nat → Nat) (i v : Nat) : (rowF n f).set i (v : Int) = rowF n (fun j => if j = i then v else f j) := by
  apply List.ext_getElem?
  intro j
  rw [List.getElem?_set]
  by_cases hj : j < n
  · by_cases h : i = j
    · subst h; simp [rowF, hj]
    · have h' : ¬ j = i := fun e => h e.symm
      simp [rowF, hj, h, h']
  · simp [rowF, hj]; intro h; omega
theorem rowF_sw (n : Nat) (f : Nat → Nat) (i k : Nat) : ((rowF n f).set i (f k : Int)).set k (f i : Int) = rowF n (sw f i k) := by
  rw [rowF_set, rowF_set]; rfl
theorem rowF_id_succ (k : Nat) : rowF (k + 1) (fun j => j) = rowF k (fun j => j) ++ [(k : Int)] := by simp [rowF, List.range_succ]
def shufF (n : Nat) (s : Int) : Nat → Nat := (st n s (n - 1)).1
def shufS (n : Nat) (s : Int) : Int := (st n s (n - 1)).2
/-- what Shuffled returns -/
def outL (s n : Int) : List Int := if (0 ≤ n ∧ n ≤ 64) ∧ 0 ≤ s ∧ s ≤ 1073741823 then rowF n.toNat (shufF n.toNat s) else []
def outS (s n : Int) : Int := if (0 ≤ n ∧ n ≤ 64) ∧ 0 ≤ s ∧ s ≤ 1073741823 then shufS n.toNat s else s
theorem outL_le (s n : Int) : (outL s n).length ≤ 64 := by
  unfold outL
  split
  · rw [rowF_len]; omega
  · simp
/-- the seeds below 16: none comes back within 15 steps -/
def g16 (x : Nat) : Nat := (13 * x + 9) % 16
def it16 : Nat → Nat → Nat
  | 0, x => x
  | m + 1, x => g16 (it16 m x)
theorem it16_ne : ∀ x, x < 16 → ∀ m, m < 15 → it16 (m + 1) x ≠ x := by decide
theorem next16 (s : Int) (h : 0 ≤ s ∧ s ≤ 1073741823) : (nextN s % 16).toNat = g16 (s % 16).toNat := by
  obtain ⟨S, rfl⟩ := Int.eq_ofNat_of_zero_le h.1
  have e : nextN (S : Int) = (((1103515245 * S + 12345) % 1073741824 : Nat) : Int) := by unfold nextN; rw [if_pos h]; simp
  have e2 : (((1103515245 * S + 12345) % 1073741824 : Nat) : Int) % 16 = (((1103515245 * S + 12345) % 1073741824 % 16 : Nat) : Int) := by simp
  have e3 : (S : Int) % 16 = ((S % 16 : Nat) : Int) := by simp
  rw [e, e2, e3, Int.toNat_natCast, Int.toNat_natCast, Nat.mod_mod_of_dvd _ (by decide : 16 ∣ 1073741824)]
  unfold g16
  omega
theorem st16 (n : Nat) (s : Int) (hs : 0 ≤ s ∧ s ≤ 1073741823) : ∀ m, ((st n s m).2 % 16).toNat = it16 m (s % 16).toNat
  | 0 => rfl
  | m + 1 => by
    show (nextN (st n s m).2 % 16).toNat = g16 (it16 m _)
    rw [next16 _ (st_seed n s hs m), st16 n s hs m]
theorem shufS_ne (n : Nat) (s : Int) (h2 : 2 ≤ n) (hn : n ≤ 16) (hs : 0 ≤ s ∧ s ≤ 1073741823) : shufS n s ≠ s := by
  intro e
  have h := st16 n s hs (n - 1)
  obtain ⟨m, hm⟩ : ∃ m, n - 1 = m + 1 := ⟨n - 2, by omega⟩
  have e' : (st n s (n - 1)).2 = s := e
  rw [e', hm] at h
  exact it16_ne (s % 16).toNat (by omega) m (by omega) h.symm
/-- has j been seen among the first i of f? -/
def seen (f : Nat → Nat) (i j : Nat) : Bool := (List.range i).any fun a => f a == j
theorem seen_succ (f : Nat → Nat) (i j : Nat) : seen f (i + 1) j = (seen f i j || (f i == j)) := by simp [seen, List.range_succ]
theorem seen_no (f : Nat → Nat) (n i : Nat) (hf : ∀ a b, a < n → b < n → f a = f b → a = b) (hi : i < n) : seen f i (f i) = false := by
  cases h : seen f i (f i)
  · rfl
  · unfold seen at h
    rw [List.any_eq_true] at h
    obtain ⟨a, ha, e⟩ := h
    rw [List.mem_range] at ha
    have := hf a i (by omega) hi (by simpa using e)
    omega
def rowB (n : Nat) (g : Nat → Bool) : List Value := (List.range n).map fun j => Value.bool (g j)
theorem rowB_at (n : Nat) (g : Nat → Bool) (i : Nat) (h : i < n) : (rowB n g)[i]? = some (.bool (g i)) := by simp [rowB, h]
theorem rowB_len (n : Nat) (g : Nat → Bool) : (rowB n g).length = n := by simp [rowB]
theorem rowB_zero (n : Nat) (f : Nat → Nat) : List.replicate n (Value.bool false) = rowB n (seen f 0) := by
  apply List.ext_getElem?
  intro j
  by_cases hj : j < n
  · simp [rowB, seen, hj]
  · simp [rowB, hj]
theorem rowB_set (n : Nat) (f : Nat → Nat) (i : Nat) : (rowB n (seen f i)).set (f i) (.bool true) = rowB n (seen f (i + 1)) := by
  apply List.ext_getElem?
  intro j
  rw [List.getElem?_set]
  by_cases hj : j < n
  · by_cases h : f i = j
    · subst h; simp [rowB, hj, seen_succ]
    · have h' : (f i == j) = false := by simpa using h
      simp [rowB, hj, h, seen_succ, h']
  · simp [rowB, hj]; intro h; omega
end Sd
end Go.Proofs.YthcgaeodcoidnaaDoor
namespace Go.Proofs.YthcgaeodcoidnaaDoor
open Go.RowKit
namespace Sd
open Own Il
def PairP (a b : Int) (w : World) (e : Ending) (w' : World) : Prop := e = .returned (.tuple #[.int .i64 a, .int .i64 b]) ∧ w = w'
theorem specNext (s : Int) (w : World) : Calls Tryd.prog 59 #[.int .i64 s] w (Bm.NumP (nextN s) w) := by
  by_cases h : 0 ≤ s ∧ s ≤ 1073741823
  · obtain ⟨h0, h1⟩ := h
    have HF : Hid (nextN s = (1103515245 * s + 12345) % 1073741824) := by show _ = _; unfold nextN; rw [if_pos ⟨h0, h1⟩]
    go_enter Tryd.func59, Tryd.ntmps59
    go_wp2_with fail
    refine (Bm.in_yes _ _ _ _ h0 h1).mono ?_
    rintro e w' ⟨rfl, rfl⟩
    go_wp2
    go_ret
    exact ⟨by rw [HF.out]; rfl, rfl⟩
  · have H := Lib.hid h
    have HF : Hid (nextN s = 0) := by show _ = _; unfold nextN; rw [if_neg h]
    clear h
    go_enter Tryd.func59, Tryd.ntmps59
    go_wp2_with fail
    refine (Bm.in_no _ _ _ _ H.out).mono ?_
    rintro e w' ⟨rfl, rfl⟩
    go_wp2
    go_ret
    exact ⟨by rw [HF.out]; rfl, rfl⟩
theorem specChoose (s n : Int) (w : World) : Calls Tryd.prog 43 #[.int .i64 s, .int .i64 n] w (PairP (pickK s n) (pickS s n) w) := by
  by_cases hn : 1 ≤ n ∧ n ≤ 1000
  · by_cases hs : 0 ≤ s ∧ s ≤ 1073741823
    · have HK : Hid (pickK s n = nextN s / 1024 % n) := by show _ = _; unfold pickK; rw [if_pos ⟨hn, hs⟩]
      have HS : Hid (pickS s n = nextN s) := by show _ = _; unfold pickS; rw [if_pos ⟨hn, hs⟩]
      obtain ⟨h0, h1⟩ := nextN_in s
      have HN : Hid (∀ w, Calls Tryd.prog 59 #[.int .i64 s] w (Bm.NumP (nextN s) w)) := fun w => specNext s w
      generalize nextN s = t at *
      have hne : (n == 0) = false := by simp; omega
      have hn0 : 0 ≤ n := by omega
      go_enter Tryd.func43, Tryd.ntmps43
      go_wp2_with fail
      refine (Bm.in_yes _ _ _ _ hn.1 hn.2).mono ?_
      rintro e w' ⟨rfl, rfl⟩
      go_wp2_with fail
      refine (Bm.in_yes _ _ _ _ hs.1 hs.2).mono ?_
      rintro e w' ⟨rfl, rfl⟩
      obtain ⟨hn1, hn2⟩ := hn
      go_wp2_with fail
      refine (HN.out _).mono ?_
      rintro e w' ⟨rfl, rfl⟩
      go_wp2
      go_ret2
      exact ⟨by rw [HK.out, HS.out]; rfl, rfl⟩
    · have HK : Hid (pickK s n = 0) := by show _ = _; unfold pickK; rw [if_neg (fun h => hs h.2)]
      have HS : Hid (pickS s n = s) := by show _ = _; unfold pickS; rw [if_neg (fun h => hs h.2)]
      have H := Lib.hid hs; clear hs
      go_enter Tryd.func43, Tryd.ntmps43
      go_wp2_with fail
      refine (Bm.in_yes _ _ _ _ hn.1 hn.2).mono ?_
      rintro e w' ⟨rfl, rfl⟩
      go_wp2_with fail
      refine (Bm.in_no _ _ _ _ H.out).mono ?_
      rintro e w' ⟨rfl, rfl⟩
      go_wp2
      go_ret2
      exact ⟨by rw [HK.out, HS.out]; rfl, rfl⟩
  · have HK : Hid (pickK s n = 0) := by show _ = _; unfold pickK; rw [if_neg (fun h => hn h.1)]
    have HS : Hid (pickS s n = s) := by show _ = _; unfold pickS; rw [if_neg (fun h => hn h.1)]
    have H := Lib.hid hn; clear hn
    go_enter Tryd.func43, Tryd.ntmps43
    go_wp2_with fail
    refine (Bm.in_no _ _ _ _ H.out).mono ?_
    rintro e w' ⟨rfl, rfl⟩
    go_wp2
    go_ret2
    exact ⟨by rw [HK.out, HS.out]; rfl, rfl⟩
/-- a shuffle's answer: the numbers in memory of the call's own, and a seed -/
def ShufP (l : List Int) (t : Int) (w : World) (e : Ending) (w' : World) : Prop := ∃ v, e = .returned (.tuple #[v, .int .i64 t]) ∧ w'.ownsRow w.heap.size 3 1 v l.length (ints l) ∧ Below w.heap.size w w'
theorem info_int : (Tryd.prog.info? 3).map (fun i => (i.zero, i.size, i.bytes)) = some (some (.int .i64 0), 1, 8) := by kernel_rfl
theorem info_bool : (Tryd.prog.info? 4).map (fun i => (i.zero, i.size, i.bytes)) = some (some (.bool false), 1, 1) := by kernel_rfl
theorem made0 (w0 w : World) (h : w0.heap.size ≤ w.heap.size) : (w.alloc (.cells #[] 3)).ownsRow w0.heap.size 3 1 (.slice (some ⟨w.heap.size, 0, none⟩) 0 0) 0 [] :=
  World.ownsRow_made (e := 3) (size := 1) w #[] 0 h (by unfold maxLen; omega) rfl
theorem specShuf_no (s n : Int) (w : World) (h : ¬ ((0 ≤ n ∧ n ≤ 64) ∧ 0 ≤ s ∧ s ≤ 1073741823)) : Calls Tryd.prog 17 #[.int .i64 s, .int .i64 n] w (ShufP [] s w) := by
  by_cases hn : 0 ≤ n ∧ n ≤ 64
  · have H : Hid (¬ (0 ≤ s ∧ s ≤ 1073741823)) := fun hs => h ⟨hn, hs⟩
    clear h
    go_enter Tryd.func17, Tryd.ntmps17
    go_wp2_with fail
    refine (Bm.in_yes _ _ _ _ hn.1 hn.2).mono ?_
    rintro e w' ⟨rfl, rfl⟩
    go_wp2_with fail
    refine (Bm.in_no _ _ _ _ H.out).mono ?_
    rintro e w' ⟨rfl, rfl⟩
    go_wp2
    go_ret2
    exact ⟨_, rfl, made0 w w (Nat.le_refl _), (Below.refl _ _).alloc (Nat.le_refl _) _⟩
  · have H := Lib.hid hn; clear hn h
    go_enter Tryd.func17, Tryd.ntmps17
    go_wp2_with fail
    refine (Bm.in_no _ _ _ _ H.out).mono ?_
    rintro e w' ⟨rfl, rfl⟩
    go_wp2
    go_ret2
    exact ⟨_, rfl, made0 w w (Nat.le_refl _), (Below.refl _ _).alloc (Nat.le_refl _) _⟩
theorem ints_set (l : List Int) (i : Nat) (x : Int) : (ints l).set i (.int .i64 x) = ints (l.set i x) := by unfold ints; rw [List.map_set]
theorem row_at (n : Nat) (f : Nat → Nat) (i : Nat) (h : i < n) : (ints (rowF n f))[i]? = some (.int .i64 (f i : Int)) := by
  unfold ints; rw [List.getElem?_map, rowF_at n f i h]; rfl
theorem row_sw (n : Nat) (f : Nat → Nat) (i k : Nat) : ((ints (rowF n f)).set i (.int .i64 (f k : Int))).set k (.int .i64 (f i : Int)) = ints (rowF n (sw f i k)) := by
  rw [ints_set, ints_set, rowF_sw]
theorem st_succ (n : Nat) (s : Int) (m i k : Nat) (hi : n - 1 - m = i) (hk : pickK (st n s m).2 ((i + 1 : Nat) : Int) = (k : Int)) : st n s (m + 1) = (sw (st n s m).1 i k, nextN (st n s m).2) := by
  show (sw _ _ _, _) = _
  rw [hi, hk, Int.toNat_natCast]
theorem specShuf_yes (s : Int) (N : Nat) (w : World) (hn : N ≤ 64) (h0 : 0 ≤ s) (h1 : s ≤ 1073741823) : Calls Tryd.prog 17 #[.int .i64 s, .int .i64 N] w (ShufP (rowF N (shufF N s)) (shufS N s) w) := by
  obtain ⟨i0, hi, hz0, hz1, hz2⟩ := info_parts info_int
  have hn0 : (0 : Int) ≤ N := by omega
  have hn1 : (N : Int) ≤ 64 := by omega
  go_enter Tryd.func17, Tryd.ntmps17
  go_wp2_with fail
  refine (Bm.in_yes _ _ _ _ hn0 hn1).mono ?_
  rintro e w' ⟨rfl, rfl⟩
  go_wp2_with fail
  refine (Bm.in_yes _ _ _ _ h0 h1).mono ?_
  rintro e w' ⟨rfl, rfl⟩
  have hown0 := made0 w w (Nat.le_refl _)
  have hbl0 := (Below.refl w.heap.size w).alloc (Nat.le_refl _) (.cells #[] 3)
  have hown1 : Hid ((w.alloc (.cells #[] 3)).ownsRow w.heap.size 3 1 (.slice (some ⟨w.heap.size, 0, none⟩) 0 0) 0 (ints (rowF 0 (fun j => j)))) := hown0
  have hbl1 := Lib.hid hbl0
  clear hown0 hbl0
  go_wp2_with fail
  go_loopw [6, 7] (fun v c wr => ∃ (k : Nat), k ≤ N ∧ c = .int .i64 k ∧ Hid (wr.ownsRow w.heap.size 3 1 v k (ints (rowF k (fun j => j)))) ∧ Hid (Below w.heap.size w wr)) (fun _ c _ => N - (intOf c).toNat)
  case atStart => exact ⟨0, Nat.zero_le _, rfl, hown1.out, hbl1.out⟩
  case round =>
    clear hown1 hbl1
    obtain ⟨k, hk, rfl, HO, HBL⟩ := hrel
    have hk0 : 0 ≤ (k : Int) := by omega
    by_cases hlt : (k : Int) < N
    · go_wp2_with (at_builtin; refine wpList_append_own _ rfl (.tmp 28) (.tmp 30) 26 rfl w.heap.size 3 i0 (.int .i64 0) 1 8 Tryd.underlying26 hi hz0 hz1 hz2 rfl (by decide) u6 k _ rfl (HO.out.alloc _) ⟨wr.heap.size, 0, none⟩ 1 1 [_] rfl rfl (World.news_of_block (cs := #[_]) (heap_alloc_new wr _)) (by simp [Value.oneCell']) (by unfold maxLen; omega) (by omega) (by simp; have := HBL.out.size; omega) ?_; intro v2 w2 ho2 hg2 _)
      have HO2 : Hid (w2.ownsRow w.heap.size 3 1 v2 (k + 1) (ints (rowF (k + 1) (fun j => j)))) := by
        show World.ownsRow _ _ _ _ _ _ _
        rw [rowF_id_succ, ints_append]; exact ho2
      have HB2 := Lib.hid ((HBL.out.alloc HBL.out.size _).grown hg2 (by simp; have := HBL.out.size; omega) (fun x hx => (HO.out.lt x hx).1))
      clear ho2 hg2
      go_wp2
      go_roundw
      case rel => exact ⟨k + 1, by omega, by go_num, HO2.out, HB2.out⟩
      case measure => simp [intOf]; omega
    · obtain rfl : k = N := by omega
      have hd : decide ((k : Int) < k) = false := by simp
      have HO1 : Hid (wr.ownsRow w.heap.size 3 1 u6 k (ints (rowF k (st k s 0).1))) := HO.out
      clear HO
      go_wp2_with fail
      go_loopw [0, 8] (fun sd c wq => ∃ (m : Nat), (m ≤ k - 1) ∧ sd = .int .i64 (st k s m).2 ∧ c = .int .i64 ((k : Int) - 1 - m) ∧ Hid (wq.ownsRow w.heap.size 3 1 u6 k (ints (rowF k (st k s m).1))) ∧ Hid (Below w.heap.size w wq)) (fun _ c _ => (intOf c).toNat)
      case atStart => exact ⟨0, Nat.zero_le _, rfl, by simp, HO1.out, HBL.out⟩
      case round =>
        clear HO1 HBL
        obtain ⟨m, hm, rfl, rfl, HO, HBL⟩ := hrel
        have HSD := Lib.hid (st_seed k s ⟨h0, h1⟩ m)
        by_cases hlt : (1 : Int) ≤ (k : Int) - 1 - m
        · obtain ⟨i, hi⟩ : ∃ i : Nat, k - 1 - m = i := ⟨_, rfl⟩
          have ei : (k : Int) - 1 - m = (i : Int) := by omega
          rw [ei] at hlt ⊢
          have hik : i < k := by omega
          obtain ⟨q, hqe, hq⟩ := pickK_yes (st k s m).2 (i + 1) (by omega) (by omega) HSD.out
          have HST := Lib.hid (st_succ k s m i q hi hqe)
          have HPS := Lib.hid (pickS_yes (st k s m).2 (i + 1) (by omega) (by omega) HSD.out)
          have HQ := Lib.hid hqe
          clear hi hqe
          obtain ⟨g, cp, rfl, _, _⟩ := own_form HO.out (by omega)
          generalize (st k s m).1 = f at *
          generalize (st k s m).2 = sd at *
          have hc1 : wr.cell? ⟨g, i, none⟩ = some (.int .i64 (f i)) := by rw [HO.out.cellAt i (by omega)]; exact row_at k f i hik
          have hc2 : wr.cell? ⟨g, q, none⟩ = some (.int .i64 (f q)) := by rw [HO.out.cellAt q (by omega)]; exact row_at k f q (by omega)
          have hfz := HO.out.frozenAt i
          have hst := HO.out.stored i (.int .i64 (f q))
          have hc3 : (wr.setCell ⟨g, i, none⟩ (.int .i64 (f q))).cell? ⟨g, q, none⟩ = some (.int .i64 (f q)) := by
            rw [hst.1.cellAt q (by omega), List.getElem?_set]
            by_cases hiq : i = q
            · subst hiq; simp [ints_length, rowF_len, hik]
            · rw [if_neg hiq]; exact row_at k f q (by omega)
          have hfz2 := hst.1.frozenAt q
          have hst2 := hst.1.stored q (.int .i64 (f i))
          have HO2 : Hid (((wr.setCell ⟨g, i, none⟩ (.int .i64 (f q))).setCell ⟨g, q, none⟩ (.int .i64 (f i))).ownsRow w.heap.size 3 1 (.slice (some ⟨g, 0, none⟩) k cp) k (ints (rowF k (st k s (m + 1)).1))) := by
            show World.ownsRow _ _ _ _ _ _ _
            rw [HST.out, ← row_sw]; exact hst2.1
          have hge := (HO.out.lt g rfl).1
          have HB2 := Lib.hid ((HBL.out.grown hst.2 HBL.out.size (fun x hx => by cases hx; exact hge)).grown hst2.2 (Nat.le_trans HBL.out.size hst.2.size) (fun x hx => by cases hx; exact hge))
          have HS2 : Hid ((st k s (m + 1)).2 = nextN sd) := by show _ = _; rw [HST.out]
          clear hst hst2
          have hq0 : 0 ≤ (q : Int) := by omega
          have hqk : (q : Int) < (k : Int) := by omega
          have HCH : Hid (Calls Tryd.prog 43 #[.int .i64 sd, .int .i64 ((i : Int) + 1)] wr (PairP q (nextN sd) wr)) := by
            have := specChoose sd ((i : Int) + 1) wr
            have e : ((i : Int) + 1) = ((i + 1 : Nat) : Int) := by omega
            rw [e, HQ.out, HPS.out] at this
            rw [e]; exact this
          clear HQ HPS
          generalize nextN sd = sd2 at *
          go_wp2_with fail
          refine HCH.out.mono ?_
          rintro e w' ⟨rfl, rfl⟩
          go_wp2
          go_roundw
          case rel => exact ⟨m + 1, by omega, by rw [HS2.out], by go_num, HO2.out, HB2.out⟩
          case measure => simp [intOf]; omega
        · have hm2 : m = k - 1 := by omega
          have HF : Hid (wr.ownsRow w.heap.size 3 1 u6 (rowF k (shufF k s)).length (ints (rowF k (shufF k s)))) := by
            show World.ownsRow _ _ _ _ _ _ _
            rw [rowF_len]; unfold shufF; rw [← hm2]; exact HO.out
          have HS2 : Hid (shufS k s = (st k s m).2) := by show _ = _; rw [hm2]; rfl
          generalize (st k s m).2 = sd at *
          go_wp2
          go_ret2
          exact ⟨_, by rw [HS2.out]; rfl, HF.out, HBL.out⟩
theorem specShuf (s n : Int) (w : World) : Calls Tryd.prog 17 #[.int .i64 s, .int .i64 n] w (ShufP (outL s n) (outS s n) w) := by
  unfold outL outS
  by_cases h : (0 ≤ n ∧ n ≤ 64) ∧ 0 ≤ s ∧ s ≤ 1073741823
  · rw [if_pos h, if_pos h]
    obtain ⟨N, rfl⟩ := Int.eq_ofNat_of_zero_le h.1.1
    rw [Int.toNat_natCast]
    exact specShuf_yes s N w (by omega) h.2.1 h.2.2
  · rw [if_neg h, if_neg h]
    exact specShuf_no s n w h
end Sd
end Go.Proofs.YthcgaeodcoidnaaDoor
namespace Go.Proofs.YthcgaeodcoidnaaDoor
open Go.RowKit
namespace Sd
open Own Il
theorem in_yes (s : Int) (w : World) (h0 : 0 ≤ s) (h1 : s ≤ 1073741823) : Calls Tryd.prog 35 #[.int .i64 s] w fun e w' => e = .returned (.bool true) ∧ w = w' := by
  go_enter Tryd.func35, Tryd.ntmps35
  go_wp2
  go_ret
  exact ⟨rfl, rfl⟩
theorem in_no (s : Int) (w : World) (h : ¬ (0 ≤ s ∧ s ≤ 1073741823)) : Calls Tryd.prog 35 #[.int .i64 s] w fun e w' => e = .returned (.bool false) ∧ w = w' := by
  by_cases h1 : 0 ≤ s
  · have h2 : decide (s ≤ 1073741823) = false := by simp; omega
    clear h
    go_enter Tryd.func35, Tryd.ntmps35
    go_wp2
    go_ret
    exact ⟨rfl, rfl⟩
  · have h2 : decide (0 ≤ s) = false := by simp; omega
    clear h
    go_enter Tryd.func35, Tryd.ntmps35
    go_wp2
    go_ret
    exact ⟨rfl, rfl⟩
theorem implNext (s : Int) (w : World) : Calls Tryd.prog 62 #[.int .i64 s] w (Bm.NumP (nextN s) w) := by
  by_cases h : 0 ≤ s ∧ s ≤ 1073741823
  · obtain ⟨h0, h1⟩ := h
    have HF : Hid (nextN s = (1103515245 * s + 12345) % 1073741824) := by show _ = _; unfold nextN; rw [if_pos ⟨h0, h1⟩]
    go_enter Tryd.func62, Tryd.ntmps62
    go_wp2_with fail
    refine (in_yes _ _ h0 h1).mono ?_
    rintro e w' ⟨rfl, rfl⟩
    go_wp2
    go_ret
    exact ⟨by rw [HF.out]; rfl, rfl⟩
  · have H := Lib.hid h
    have HF : Hid (nextN s = 0) := by show _ = _; unfold nextN; rw [if_neg h]
    clear h
    go_enter Tryd.func62, Tryd.ntmps62
    go_wp2_with fail
    refine (in_no _ _ H.out).mono ?_
    rintro e w' ⟨rfl, rfl⟩
    go_wp2
    go_ret
    exact ⟨by rw [HF.out]; rfl, rfl⟩
theorem implChoose (s n : Int) (w : World) : Calls Tryd.prog 54 #[.int .i64 s, .int .i64 n] w (PairP (pickK s n) (pickS s n) w) := by
  by_cases hn : 1 ≤ n ∧ n ≤ 1000
  · by_cases hs : 0 ≤ s ∧ s ≤ 1073741823
    · have HK : Hid (pickK s n = nextN s / 1024 % n) := by show _ = _; unfold pickK; rw [if_pos ⟨hn, hs⟩]
      have HS : Hid (pickS s n = nextN s) := by show _ = _; unfold pickS; rw [if_pos ⟨hn, hs⟩]
      obtain ⟨h0, h1⟩ := nextN_in s
      have HN : Hid (∀ w, Calls Tryd.prog 62 #[.int .i64 s] w (Bm.NumP (nextN s) w)) := fun w => implNext s w
      generalize nextN s = t at *
      have hne : (n == 0) = false := by simp; omega
      have hn0 : 0 ≤ n := by omega
      obtain ⟨hn1, hn2⟩ := hn
      go_enter Tryd.func54, Tryd.ntmps54
      go_wp2_with fail
      refine (in_yes _ _ hs.1 hs.2).mono ?_
      rintro e w' ⟨rfl, rfl⟩
      go_wp2_with fail
      refine (HN.out _).mono ?_
      rintro e w' ⟨rfl, rfl⟩
      go_wp2
      go_ret2
      exact ⟨by rw [HK.out, HS.out]; rfl, rfl⟩
    · have HK : Hid (pickK s n = 0) := by show _ = _; unfold pickK; rw [if_neg (fun h => hs h.2)]
      have HS : Hid (pickS s n = s) := by show _ = _; unfold pickS; rw [if_neg (fun h => hs h.2)]
      have H := Lib.hid hs; clear hs
      obtain ⟨hn1, hn2⟩ := hn
      go_enter Tryd.func54, Tryd.ntmps54
      go_wp2_with fail
      refine (in_no _ _ H.out).mono ?_
      rintro e w' ⟨rfl, rfl⟩
      go_wp2
      go_ret2
      exact ⟨by rw [HK.out, HS.out]; rfl, rfl⟩
  · have HK : Hid (pickK s n = 0) := by show _ = _; unfold pickK; rw [if_neg (fun h => hn h.1)]
    have HS : Hid (pickS s n = s) := by show _ = _; unfold pickS; rw [if_neg (fun h => hn h.1)]
    by_cases h1 : n < 1
    · clear hn
      go_enter Tryd.func54, Tryd.ntmps54
      go_wp2
      go_ret2
      exact ⟨by rw [HK.out, HS.out]; rfl, rfl⟩
    · have h2 : 1000 < n := by omega
      clear hn
      go_enter Tryd.func54, Tryd.ntmps54
      go_wp2
      go_ret2
      exact ⟨by rw [HK.out, HS.out]; rfl, rfl⟩
theorem implPick (s c : Int) (B : Nat) (w : World) (h : w.heap[B]? = some (.cells #[.int .i64 s] 3 (0, 0))) : Calls Tryd.prog 53 #[.int .i64 c, .pointer (some ⟨B, 0, none⟩)] w fun e w' => e = .returned (.int .i64 (pickK s c)) ∧ w.setCell ⟨B, 0, none⟩ (.int .i64 (pickS s c)) = w' := by
  have hc := cell_of_one h
  have hf := free_of_one h
  have HC : Hid (∀ w, Calls Tryd.prog 54 #[.int .i64 s, .int .i64 c] w (PairP (pickK s c) (pickS s c) w)) := fun w => implChoose s c w
  generalize pickK s c = p at *
  generalize pickS s c = q at *
  clear h
  go_enter Tryd.func53, Tryd.ntmps53
  go_wp2_with fail
  refine (HC.out _).mono ?_
  rintro e w' ⟨rfl, rfl⟩
  go_wp2
  go_ret
  exact ⟨rfl, rfl⟩
theorem implShuf_no (s n : Int) (w : World) (h : ¬ ((0 ≤ n ∧ n ≤ 64) ∧ 0 ≤ s ∧ s ≤ 1073741823)) : Calls Tryd.prog 36 #[.int .i64 s, .int .i64 n] w (ShufP [] s w) := by
  have hcell : (w.alloc (.cells #[.int .i64 s] 3)).cell? ⟨w.heap.size, 0, none⟩ = some (.int .i64 s) := cell_of_one (t := 3) (heap_alloc_new w _)
  have HB : Hid (Below w.heap.size w (w.alloc (.cells #[.int .i64 s] 3)).drew) := ((Below.refl _ _).alloc (Nat.le_refl _) _).drew
  by_cases hn : 0 ≤ n ∧ n ≤ 64
  · have H : Hid (¬ (0 ≤ s ∧ s ≤ 1073741823)) := fun hs => h ⟨hn, hs⟩
    clear h
    obtain ⟨hn1, hn2⟩ := hn
    go_enter Tryd.func36, Tryd.ntmps36
    go_wp2_with fail
    refine (in_no _ _ H.out).mono ?_
    rintro e w' ⟨rfl, rfl⟩
    go_wp2
    go_region
    all_goals (try go_wp2)
    go_ret2
    exact ⟨_, rfl, World.ownsRow_nil _ _ _ _, HB.out⟩
  · have hd : decide (n < 0) = true ∨ (decide (n < 0) = false ∧ decide (64 < n) = true) := by simp; omega
    clear hn h
    rcases hd with hd | ⟨hd, hd2⟩
    · go_enter Tryd.func36, Tryd.ntmps36
      go_wp2
      go_region
      all_goals (try go_wp2)
      go_ret2
      exact ⟨_, rfl, World.ownsRow_nil _ _ _ _, HB.out⟩
    · go_enter Tryd.func36, Tryd.ntmps36
      go_wp2
      go_region
      all_goals (try go_wp2)
      go_ret2
      exact ⟨_, rfl, World.ownsRow_nil _ _ _ _, HB.out⟩
theorem own_mono {w : World} {b b' : Nat} {e : TypeId} {size : Nat} {v : Value} {n : Nat} {xs : List Value} (h : w.ownsRow b e size v n xs) (hb : b' ≤ b) : w.ownsRow b' e size v n xs := by
  obtain ⟨h1, h2⟩ := h
  refine ⟨h1, ?_⟩
  rcases h2 with h2 | ⟨g, cap, cur, hv, hg, r⟩
  · exact Or.inl h2
  · exact Or.inr ⟨g, cap, cur, hv, Nat.le_trans hb hg, r⟩
/-- the places below k numbered, the others zero -/
def upN (k : Nat) : Nat → Nat := fun j => if j < k then j else 0
theorem row_zero (n : Nat) : List.replicate n (Value.int .i64 0) = ints (rowF n (upN 0)) := by
  apply List.ext_getElem?
  intro j
  by_cases hj : j < n
  · simp [ints, rowF, upN, hj]
  · simp [ints, rowF, hj]
theorem row_up (n k : Nat) : (ints (rowF n (upN k))).set k (.int .i64 (k : Int)) = ints (rowF n (upN (k + 1))) := by
  rw [ints_set, rowF_set]
  have e : (fun j => if j = k then k else upN k j) = upN (k + 1) := by
    funext j
    unfold upN
    by_cases h : j = k
    · subst h; rw [if_pos rfl, if_pos (Nat.lt_succ_self _)]
    · rw [if_neg h]
      by_cases h2 : j < k
      · rw [if_pos h2, if_pos (by omega)]
      · rw [if_neg h2, if_neg (by omega)]
  rw [e]
theorem row_all (n : Nat) : rowF n (upN n) = rowF n (fun j => j) := by
  unfold rowF
  apply List.map_congr_left
  intro j hj
  rw [List.mem_range] at hj
  unfold upN
  rw [if_pos hj]
theorem implShuf_yes (s : Int) (N : Nat) (w : World) (hn : N ≤ 64) (h0 : 0 ≤ s) (h1 : s ≤ 1073741823) : Calls Tryd.prog 36 #[.int .i64 s, .int .i64 N] w (ShufP (rowF N (shufF N s)) (shufS N s) w) := by
  obtain ⟨i0, hi, hz0, hz1, hz2⟩ := info_parts info_int
  have hn0 : (0 : Int) ≤ N := by omega
  have hn1 : (N : Int) ≤ 64 := by omega
  obtain ⟨B, hB⟩ : ∃ B, w.heap.size = B := ⟨_, rfl⟩
  have hblk : (w.alloc (.cells #[.int .i64 s] 3)).heap[B]? = some (.cells #[.int .i64 s] 3 (0, 0)) := by rw [← hB]; exact heap_alloc_new w _
  have HBK := Lib.hid hblk
  have hcell := cell_of_one hblk
  clear hblk
  have HB0 : Hid (Below B w (w.alloc (.cells #[.int .i64 s] 3))) := (Below.refl _ _).alloc (by rw [hB]; exact Nat.le_refl _) _
  have HSZ : Hid ((w.alloc (.cells #[.int .i64 s] 3)).heap.size = B + 1) := by show _ = _; simp [hB]
  go_enter Tryd.func36, Tryd.ntmps36
  go_wp2_with fail
  refine (in_yes _ _ h0 h1).mono ?_
  rintro e w' ⟨rfl, rfl⟩
  generalize w.alloc (.cells #[.int .i64 s] 3) = w1 at *
  have hmf : ∀ (fn : Fn) (first cap : Array Value) (w : World), (Instr.makeFunc fn first cap).run Tryd.prog w = .ok (.func fn first cap) w := fun _ _ _ _ => rfl
  go_wp2_with (at_make; refine wpList_make_full _ rfl _ _ 26 rfl (B + 1) 3 i0 (.int .i64 0) 1 Tryd.underlying26 hi hz0 hz1 _ _ _ _ N rfl rfl rfl rfl (by rw [hz2]; omega) (by unfold maxLen; omega) (by rw [HSZ.out]; exact Nat.le_refl _) ?_)
  intro w2 hown hgrow
  have HBK2 : Hid (w2.heap[B]? = some (.cells #[.int .i64 s] 3 (0, 0))) := (hgrow.block B (lt_of_block HBK.out) (fun e => by cases e)).trans HBK.out
  have HB2 := Lib.hid (HB0.out.grown hgrow (by rw [HSZ.out]; omega) (fun _ h => by cases h))
  clear hcell HBK HB0 hgrow
  generalize w1.heap.size = G at *
  obtain rfl : G = B + 1 := HSZ.out
  clear HSZ
  have HO1 : Hid (w2.ownsRow (B + 1) 3 1 (.slice (some ⟨B + 1, 0, none⟩) N N) N (ints (rowF N (upN 0)))) := by
    show World.ownsRow _ _ _ _ _ _ _
    rw [← row_zero, ← toList_madeCells_one]; exact hown
  clear hown
  go_wp2_with fail
  go_loopw [28] (fun c wr => ∃ (k : Nat), k ≤ N ∧ c = .int .i64 k ∧ Hid (wr.ownsRow (B + 1) 3 1 (.slice (some ⟨B + 1, 0, none⟩) N N) N (ints (rowF N (upN k)))) ∧ Hid (wr.heap[B]? = some (.cells #[.int .i64 s] 3 (0, 0))) ∧ Hid (Below B w wr)) (fun c _ => N - (intOf c).toNat)
  case atStart => exact ⟨0, Nat.zero_le _, rfl, HO1.out, HBK2.out, HB2.out⟩
  case round =>
    clear HO1 HBK2 HB2
    obtain ⟨k, hk, rfl, HO, HBK, HBL⟩ := hrel
    have hk0 : 0 ≤ (k : Int) := by omega
    by_cases hlt : (k : Int) < N
    · have hkN : k < N := by omega
      have hc1 : wr.cell? ⟨B + 1, k, none⟩ = some (.int .i64 (upN k k)) := by rw [HO.out.cellAt k (by omega)]; exact row_at N _ k hkN
      have hfz := HO.out.frozenAt k
      have hst := HO.out.stored k (.int .i64 (k : Int))
      have HO2 : Hid ((wr.setCell ⟨B + 1, k, none⟩ (.int .i64 (k : Int))).ownsRow (B + 1) 3 1 (.slice (some ⟨B + 1, 0, none⟩) N N) N (ints (rowF N (upN (k + 1))))) := by
        show World.ownsRow _ _ _ _ _ _ _
        rw [← row_up]; exact hst.1
      have HBK2 : Hid ((wr.setCell ⟨B + 1, k, none⟩ (.int .i64 (k : Int))).heap[B]? = some (.cells #[.int .i64 s] 3 (0, 0))) := (Below.heap_setCell _ _ _ _ (by show B ≠ B + 1; omega)).trans HBK.out
      have HB2 := Lib.hid (HBL.out.setCell (p := ⟨B + 1, k, none⟩) (by show B ≤ B + 1; omega) (.int .i64 (k : Int)))
      clear hst
      go_wp2
      go_roundw
      case rel => exact ⟨k + 1, by omega, by go_num, HO2.out, HBK2.out, HB2.out⟩
      case measure => simp [intOf]; omega
    · obtain rfl : k = N := by omega
      have HO1 : Hid (wr.ownsRow (B + 1) 3 1 (.slice (some ⟨B + 1, 0, none⟩) k k) k (ints (rowF k (st k s 0).1))) := by
        show World.ownsRow _ _ _ _ _ _ _
        have := HO.out
        rw [row_all] at this
        exact this
      have HBK1 : Hid (wr.heap[B]? = some (.cells #[.int .i64 (st k s 0).2] 3 (0, 0))) := HBK.out
      clear HO HBK
      go_wp2_with fail
      go_loopw [9] (fun c wq => ∃ (m : Nat), (m ≤ k - 1) ∧ c = .int .i64 ((k : Int) - 1 - m) ∧ Hid (wq.ownsRow (B + 1) 3 1 (.slice (some ⟨B + 1, 0, none⟩) k k) k (ints (rowF k (st k s m).1))) ∧ Hid (wq.heap[B]? = some (.cells #[.int .i64 (st k s m).2] 3 (0, 0))) ∧ Hid (Below B w wq)) (fun c _ => (intOf c).toNat)
      case atStart => exact ⟨0, Nat.zero_le _, by simp, HO1.out, HBK1.out, HBL.out⟩
      case round =>
        clear HO1 HBK1 HBL
        obtain ⟨m, hm, rfl, HO, HBK, HBL⟩ := hrel
        have HSD := Lib.hid (st_seed k s ⟨h0, h1⟩ m)
        by_cases hlt : (1 : Int) ≤ (k : Int) - 1 - m
        · obtain ⟨i, hi⟩ : ∃ i : Nat, k - 1 - m = i := ⟨_, rfl⟩
          have ei : (k : Int) - 1 - m = (i : Int) := by omega
          rw [ei] at hlt ⊢
          have hik : i < k := by omega
          obtain ⟨q, hqe, hq⟩ := pickK_yes (st k s m).2 (i + 1) (by omega) (by omega) HSD.out
          have HST := Lib.hid (st_succ k s m i q hi hqe)
          have hps := pickS_yes (st k s m).2 (i + 1) (by omega) (by omega) HSD.out
          have HPK := Lib.hid (implPick (st k s m).2 ((i + 1 : Nat) : Int) B wr HBK.out)
          rw [hqe, hps] at HPK
          clear hi hqe hps
          have HBQ : Hid ((wr.setCell ⟨B, 0, none⟩ (.int .i64 (nextN (st k s m).2))).heap[B]? = some (.cells #[.int .i64 (nextN (st k s m).2)] 3 (0, 0))) := one_setCell HBK.out
          have HOQ := Lib.hid (ownsRow_setCell_other HO.out (a := ⟨B, 0, none⟩) (by simp [Value.ownBlock]) (.int .i64 (nextN (st k s m).2)))
          have HBLQ := Lib.hid (HBL.out.setCell (p := ⟨B, 0, none⟩) (Nat.le_refl _) (.int .i64 (nextN (st k s m).2)))
          have eS : (st k s (m + 1)).2 = nextN (st k s m).2 := by rw [HST.out]
          have HS2 := Lib.hid eS
          clear eS HO HBK HBL
          generalize (st k s m).1 = f at *
          generalize (st k s m).2 = sd at *
          generalize nextN sd = sd2 at *
          generalize wr.setCell ⟨B, 0, none⟩ (.int .i64 sd2) = wq at *
          have hc1 : wq.cell? ⟨B + 1, i, none⟩ = some (.int .i64 (f i)) := by rw [HOQ.out.cellAt i (by omega)]; exact row_at k f i hik
          have hc2 : wq.cell? ⟨B + 1, q, none⟩ = some (.int .i64 (f q)) := by rw [HOQ.out.cellAt q (by omega)]; exact row_at k f q (by omega)
          have hfz := HOQ.out.frozenAt i
          have hst := HOQ.out.stored i (.int .i64 (f q))
          have hc3 : (wq.setCell ⟨B + 1, i, none⟩ (.int .i64 (f q))).cell? ⟨B + 1, q, none⟩ = some (.int .i64 (f q)) := by
            rw [hst.1.cellAt q (by omega), List.getElem?_set]
            by_cases hiq : i = q
            · subst hiq; simp [ints_length, rowF_len, hik]
            · rw [if_neg hiq]; exact row_at k f q (by omega)
          have hfz2 := hst.1.frozenAt q
          have hst2 := hst.1.stored q (.int .i64 (f i))
          have HO2 : Hid (((wq.setCell ⟨B + 1, i, none⟩ (.int .i64 (f q))).setCell ⟨B + 1, q, none⟩ (.int .i64 (f i))).ownsRow (B + 1) 3 1 (.slice (some ⟨B + 1, 0, none⟩) k k) k (ints (rowF k (st k s (m + 1)).1))) := by
            show World.ownsRow _ _ _ _ _ _ _
            rw [HST.out, ← row_sw]; exact hst2.1
          have HBK2 : Hid (((wq.setCell ⟨B + 1, i, none⟩ (.int .i64 (f q))).setCell ⟨B + 1, q, none⟩ (.int .i64 (f i))).heap[B]? = some (.cells #[.int .i64 sd2] 3 (0, 0))) := (Below.heap_setCell _ _ _ _ (by show B ≠ B + 1; omega)).trans ((Below.heap_setCell _ _ _ _ (by show B ≠ B + 1; omega)).trans HBQ.out)
          have HB2 := Lib.hid ((HBLQ.out.setCell (p := ⟨B + 1, i, none⟩) (by show B ≤ B + 1; omega) (.int .i64 (f q))).setCell (p := ⟨B + 1, q, none⟩) (by show B ≤ B + 1; omega) (.int .i64 (f i)))
          clear hst hst2
          have hq0 : 0 ≤ (q : Int) := by omega
          have hqk : (q : Int) < (k : Int) := by omega
          have hi0 : 0 ≤ (i : Int) := by omega
          have hik' : (i : Int) < (k : Int) := by omega
          go_wp2_with fail
          rw [show ((i : Int) + 1) = ((i + 1 : Nat) : Int) by omega]
          refine HPK.out.mono ?_
          rintro e w' ⟨rfl, rfl⟩
          go_wp2
          go_region
          all_goals (try go_wp2)
          go_roundw
          case rel => exact ⟨m + 1, by omega, by go_num, HO2.out, by rw [HS2.out]; exact HBK2.out, HB2.out.drew⟩
          case measure => simp [intOf]; omega
        · have hm2 : m = k - 1 := by omega
          have HF : Hid (wr.ownsRow B 3 1 (.slice (some ⟨B + 1, 0, none⟩) k k) (rowF k (shufF k s)).length (ints (rowF k (shufF k s)))) := by
            show World.ownsRow _ _ _ _ _ _ _
            rw [rowF_len]; unfold shufF; rw [← hm2]; exact own_mono HO.out (Nat.le_succ _)
          have HS2 : Hid (shufS k s = (st k s m).2) := by show _ = _; rw [hm2]; rfl
          have hcB := cell_of_one HBK.out
          generalize (st k s m).2 = sd at *
          go_wp2
          go_region
          all_goals (try go_wp2)
          go_ret2
          refine ⟨_, by rw [HS2.out]; rfl, ?_, ?_⟩
          · rw [hB]; exact HF.out
          · rw [hB]; exact HBL.out.drew
theorem implShuf (s n : Int) (w : World) : Calls Tryd.prog 36 #[.int .i64 s, .int .i64 n] w (ShufP (outL s n) (outS s n) w) := by
  unfold outL outS
  by_cases h : (0 ≤ n ∧ n ≤ 64) ∧ 0 ≤ s ∧ s ≤ 1073741823
  · rw [if_pos h, if_pos h]
    obtain ⟨N, rfl⟩ := Int.eq_ofNat_of_zero_le h.1.1
    rw [Int.toNat_natCast]
    exact implShuf_yes s N w (by omega) h.2.1 h.2.2
  · rw [if_neg h, if_neg h]
    exact implShuf_no s n w h
end Sd
end Go.Proofs.YthcgaeodcoidnaaDoor

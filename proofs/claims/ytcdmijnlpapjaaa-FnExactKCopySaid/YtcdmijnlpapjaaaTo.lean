/- The laws' copies of what came in. -/
import Derived.Test.YtcdmijnlpapjaaaEnc
import Derived.OwnWalk
import Derived.WalkKit
import Derived.ProofKit
import Derived.BigQuiet
import Derived.Deep.QuietTactic
import Derived.Deep.RegionHeld3
import Derived.Lib.Hide
namespace Go.Proofs.Ytcdmijnlpapjaaa
open Go.RowKit
namespace Tr
theorem info_Bool : (Try.prog.info? 4).map (fun i => (i.zero, i.size, i.bytes)) = some (some (.bool false), 1, 1) := by kernel_rfl
theorem zero_Bool (w : World) : Own w (eB false) [.bool false] [] := ⟨_, rfl, ⟨rfl, rfl⟩⟩
theorem h_toBoolS (l : List Bool) (v : Value) (w : World) (h : Raw w (eBoolS l) [v]) (hs : (eBoolS l).sz ≤ 1000000000) :
    Calls Try.prog 139 #[v] w (OwnP1 (eBoolS l) w) := by
  obtain ⟨A, n, cap, rfl, hn, _, hA⟩ := read_raw (E := eB) (k := 1) h (fun _ => rfl) (by omega)
  have hl := sz_len hs
  have hn' : n ≤ 1000000000 := by omega
  have HA := Lib.hid hA
  have HN := Lib.hid hn
  have HS := Lib.hid hs
  clear h hA hn hs hl
  obtain ⟨i0, hi, hz0, hz1, hz2⟩ := info_parts info_Bool
  obtain ⟨B, hB⟩ : ∃ B, w.heap.size = B := ⟨_, rfl⟩
  go_enter Try.func139, Try.ntmps139
  go_wp2_with (at_make; refine wpList_make_full _ rfl _ _ 25 rfl B 4 i0 (.bool false) 1 Try.underlying25 hi hz0 hz1 _ _ _ _ n rfl rfl rfl rfl (by rw [hz2]; omega) (by unfold maxLen; omega) (by rw [hB]; exact Nat.le_refl _) ?_)
  intro w1 hown hgrow
  have H0 := own_made (z := (eB false)) (zc := [.bool false]) (k := 1) (by rw [Nat.mul_one]; exact hown) (zero_Bool w1) rfl (by omega) rfl
  have HB0 : Hid (Below w.heap.size w w1) := (Below.refl _ _).grown hgrow (Nat.le_refl _) (fun _ h => by cases h)
  rw [HN.out, ← fill_zero eB (eB false) l, ← HN.out] at H0
  have HO1 : Hid (∃ bs, Own w1 (rowC 4 1 (fillTo eB (eB false) l 0)) [.slice (some ⟨B, 0, none⟩) n n] bs ∧ bs.Nodup ∧ ∀ b ∈ bs, B ≤ b) := ⟨[B], H0, by simp, by simp⟩
  clear H0 hown hgrow
  go_wp2_with fail
  go_loopw [4] (fun c wr => ∃ (i : Nat), i ≤ n ∧ c = .int .i64 i ∧ Hid (∃ bs, Own wr (rowC 4 1 (fillTo eB (eB false) l i)) [.slice (some ⟨B, 0, none⟩) n n] bs ∧ bs.Nodup ∧ ∀ b ∈ bs, B ≤ b) ∧ Hid (Below w.heap.size w wr)) (fun c _ => n - (intOf c).toNat)
  case atStart => exact ⟨0, Nat.zero_le _, rfl, HO1.out, HB0.out⟩
  case round =>
    clear HO1 HB0
    obtain ⟨i, hi', rfl, HO, HBL⟩ := hrel
    by_cases hlt : (i : Int) < n
    · have hi0 : (0 : Int) ≤ i := by omega
      obtain ⟨g, o, x, us, rfl, hx, hus, hc, hr⟩ := HA.out i (by omega)
      have hsx := sz_elem HS.out hx
      simp only [Nat.mul_one] at hc
      obtain rfl := rinv_Bool hr
      have hc0 : wr.cell? ⟨g, o + i, none⟩ = some (.bool x) := cell_below HBL.out (hc 0 (by omega))
      have hbw : Below wr.heap.size wr wr := Below.refl _ _
      obtain ⟨bs, hob, hnd, hbB⟩ := HO.out
      have hlt2 := own_lt _ hob
      have hob2 := own_below hob hbw hlt2
      obtain ⟨g1, o1, cur, us1, e1, hgb, hg, hm, hset⟩ := fill_turn hob2 hnd hbB (fun _ => rfl) rfl hx
      simp only [Option.some.injEq, Addr.mk.injEq, and_true] at e1
      obtain ⟨rfl, rfl⟩ := e1
      simp only [Nat.zero_add, Nat.mul_one] at hm hset
      have hul := hm.1
      match us1, hul, hm with
      | [z0], _, hm =>
      have hk0 : wr.cell? ⟨B, i, none⟩ = some z0 := (Mid.cell (m := i) (k := 1) hm hg 0 (by omega))
      have hf0 := free_of_block hg (i)
      have hg1 := block_set hg (i) (.bool x)
      have hm1 := Mid.set (k := 1) hm 0 (by omega) (.bool x)
      have HO2 : Hid (∃ bs, Own (wr.setCell ⟨B, i, none⟩ (.bool x)) (rowC 4 1 (fillTo eB (eB false) l (i + 1))) [.slice (some ⟨B, 0, none⟩) n n] bs ∧ bs.Nodup ∧ ∀ b ∈ bs, B ≤ b) := hset _ _ _ [] hg1 hm1 (fun y hy1 hy => Below.heap_setCell _ _ _ _ hy) ⟨_, rfl, rfl, rfl⟩ (List.nodup_nil) (fun y hy => by cases hy)
      have HB2 : Hid (Below w.heap.size w (wr.setCell ⟨B, i, none⟩ (.bool x))) := (Below.setCell (below_step HBL.out hbw) (p := ⟨B, i, none⟩) (by show _ ≤ B; omega) (.bool x))
      clear hset hm hm1 hg hg1 hob hob2 hnd hbB hlt2 hx hbw
      go_wp2
      go_roundw
      case rel => exact ⟨i + 1, by omega, by go_num, HO2.out, HB2.out⟩
      case measure => simp [intOf]; omega
    · obtain rfl : i = n := by omega
      have HF : Hid (Owned wr w.heap.size (eBoolS l) [.slice (some ⟨B, 0, none⟩) i i]) := by
        show Owned _ _ _ _
        rw [hB]
        have := HO.out
        rw [show fillTo eB (eB false) l i = l.map eB by rw [HN.out]; exact fill_all _ _ _] at this
        exact this
      go_wp2
      go_ret
      exact ⟨_, rfl, HF.out, HBL.out⟩
theorem h_toEntry (x : GEntry) (w : World) : Calls Try.prog 145 #[.agg #[.int .i64 x.Mode, .int .i64 x.Frame]] w fun e w' => e = .returned (.agg #[.int .i64 x.Mode, .int .i64 x.Frame]) ∧ Below w.heap.size w w' := by
  generalize x.Mode = y0 at *
  generalize x.Frame = y1 at *
  go_enter Try.func145, Try.ntmps145
  go_wp2
  refine bodyPost_ret (v := .agg #[.int .i64 y0, .int .i64 y1]) ?_ rfl ⟨rfl, ?_⟩
  · rw [results_c rfl]; go_simp
  · repeat' (first | exact Below.refl _ _ | refine Below.drew ?_ | refine Below.alloc ?_ (by simp <;> omega) _)
theorem info_Entry : (Try.prog.info? 78).map (fun i => (i.zero, i.size, i.bytes)) = some (some (.agg #[.int .i64 0, .int .i64 0]), 2, 16) := by kernel_rfl
theorem zero_Entry (w : World) : Own w (eEntry ⟨0, 0⟩) [.int .i64 0, .int .i64 0] [] := ⟨_, rfl, ⟨_, rfl, ⟨rfl, rfl⟩⟩⟩
theorem h_toEntryS (l : List GEntry) (v : Value) (w : World) (h : Raw w (eEntryS l) [v]) (hs : (eEntryS l).sz ≤ 1000000000) :
    Calls Try.prog 140 #[v] w (OwnP1 (eEntryS l) w) := by
  obtain ⟨A, n, cap, rfl, hn, _, hA⟩ := read_raw (E := eEntry) (k := 2) h (fun _ => rfl) (by omega)
  have hl := sz_len hs
  have hn' : n ≤ 1000000000 := by omega
  have HA := Lib.hid hA
  have HN := Lib.hid hn
  have HS := Lib.hid hs
  clear h hA hn hs hl
  obtain ⟨i0, hi, hz0, hz1, hz2⟩ := info_parts info_Entry
  obtain ⟨B, hB⟩ : ∃ B, w.heap.size = B := ⟨_, rfl⟩
  go_enter Try.func140, Try.ntmps140
  go_wp2_with (at_make; refine wpList_make_full _ rfl _ _ 28 rfl B 78 i0 (.agg #[.int .i64 0, .int .i64 0]) 2 Try.underlying28 hi hz0 hz1 _ _ _ _ n rfl rfl rfl rfl (by rw [hz2]; omega) (by unfold maxLen; omega) (by rw [hB]; exact Nat.le_refl _) ?_)
  intro w1 hown hgrow
  have H0 := own_made (z := (eEntry ⟨0, 0⟩)) (zc := [.int .i64 0, .int .i64 0]) (k := 2) (by exact hown) (zero_Entry w1) rfl (by omega) rfl
  have HB0 : Hid (Below w.heap.size w w1) := (Below.refl _ _).grown hgrow (Nat.le_refl _) (fun _ h => by cases h)
  rw [HN.out, ← fill_zero eEntry (eEntry ⟨0, 0⟩) l, ← HN.out] at H0
  have HO1 : Hid (∃ bs, Own w1 (rowC 78 2 (fillTo eEntry (eEntry ⟨0, 0⟩) l 0)) [.slice (some ⟨B, 0, none⟩) n n] bs ∧ bs.Nodup ∧ ∀ b ∈ bs, B ≤ b) := ⟨[B], H0, by simp, by simp⟩
  clear H0 hown hgrow
  go_wp2_with fail
  go_loopw [4] (fun c wr => ∃ (i : Nat), i ≤ n ∧ c = .int .i64 i ∧ Hid (∃ bs, Own wr (rowC 78 2 (fillTo eEntry (eEntry ⟨0, 0⟩) l i)) [.slice (some ⟨B, 0, none⟩) n n] bs ∧ bs.Nodup ∧ ∀ b ∈ bs, B ≤ b) ∧ Hid (Below w.heap.size w wr)) (fun c _ => n - (intOf c).toNat)
  case atStart => exact ⟨0, Nat.zero_le _, rfl, HO1.out, HB0.out⟩
  case round =>
    clear HO1 HB0
    obtain ⟨i, hi', rfl, HO, HBL⟩ := hrel
    by_cases hlt : (i : Int) < n
    · have hi0 : (0 : Int) ≤ i := by omega
      obtain ⟨g, o, x, us, rfl, hx, hus, hc, hr⟩ := HA.out i (by omega)
      have hsx := sz_elem HS.out hx
      obtain rfl := rinv_Entry hr
      have hc0 : wr.cell? ⟨g, o + i * 2, none⟩ = some (.int .i64 x.Mode) := cell_below HBL.out (hc 0 (by omega))
      have hc1 : wr.cell? ⟨g, o + i * 2 + 1, none⟩ = some (.int .i64 x.Frame) := cell_below HBL.out (hc 1 (by omega))
      have HC := Lib.hid (h_toEntry x wr)
      clear hc hus hr hsx
      go_wp2_with fail
      refine HC.out.mono ?_
      rintro e w2 ⟨rfl, hbw⟩
      obtain ⟨bs, hob, hnd, hbB⟩ := HO.out
      have hlt2 := own_lt _ hob
      have hob2 := own_below hob hbw hlt2
      obtain ⟨g1, o1, cur, us1, e1, hgb, hg, hm, hset⟩ := fill_turn hob2 hnd hbB (fun _ => rfl) rfl hx
      simp only [Option.some.injEq, Addr.mk.injEq, and_true] at e1
      obtain ⟨rfl, rfl⟩ := e1
      simp only [Nat.zero_add] at hm hset
      have hul := hm.1
      match us1, hul, hm with
      | [z0, z1], _, hm =>
      have hk0 : w2.cell? ⟨B, i * 2, none⟩ = some z0 := (Mid.cell (m := i * 2) (k := 2) hm hg 0 (by omega))
      have hf0 := free_of_block hg (i * 2)
      have hg1 := block_set hg (i * 2) (.int .i64 x.Mode)
      have hm1 := Mid.set (k := 2) hm 0 (by omega) (.int .i64 x.Mode)
      have hk1 : (w2.setCell ⟨B, i * 2, none⟩ (.int .i64 x.Mode)).cell? ⟨B, i * 2 + 1, none⟩ = some z1 := (Mid.cell (m := i * 2) (k := 2) hm1 hg1 1 (by omega))
      have hf1 := free_of_block hg1 (i * 2 + 1)
      have hg2 := block_set hg1 (i * 2 + 1) (.int .i64 x.Frame)
      have hm2 := Mid.set (k := 2) hm1 1 (by omega) (.int .i64 x.Frame)
      have HO2 : Hid (∃ bs, Own ((w2.setCell ⟨B, i * 2, none⟩ (.int .i64 x.Mode)).setCell ⟨B, i * 2 + 1, none⟩ (.int .i64 x.Frame)) (rowC 78 2 (fillTo eEntry (eEntry ⟨0, 0⟩) l (i + 1))) [.slice (some ⟨B, 0, none⟩) n n] bs ∧ bs.Nodup ∧ ∀ b ∈ bs, B ≤ b) := hset _ _ _ [] hg2 hm2 (fun y hy1 hy => (Below.heap_setCell _ _ _ _ hy).trans (Below.heap_setCell _ _ _ _ hy)) ⟨_, rfl, _, rfl, rfl, rfl⟩ (List.nodup_nil) (fun y hy => by cases hy)
      have HB2 : Hid (Below w.heap.size w ((w2.setCell ⟨B, i * 2, none⟩ (.int .i64 x.Mode)).setCell ⟨B, i * 2 + 1, none⟩ (.int .i64 x.Frame))) := (Below.setCell (Below.setCell (below_step HBL.out hbw) (p := ⟨B, i * 2, none⟩) (by show _ ≤ B; omega) (.int .i64 x.Mode)) (p := ⟨B, i * 2 + 1, none⟩) (by show _ ≤ B; omega) (.int .i64 x.Frame))
      clear hset hm hm1 hm2 hg hg1 hg2 hob hob2 hnd hbB hlt2 hx hbw
      go_wp2
      go_roundw
      case rel => exact ⟨i + 1, by omega, by go_num, HO2.out, HB2.out⟩
      case measure => simp [intOf]; omega
    · obtain rfl : i = n := by omega
      have HF : Hid (Owned wr w.heap.size (eEntryS l) [.slice (some ⟨B, 0, none⟩) i i]) := by
        show Owned _ _ _ _
        rw [hB]
        have := HO.out
        rw [show fillTo eEntry (eEntry ⟨0, 0⟩) l i = l.map eEntry by rw [HN.out]; exact fill_all _ _ _] at this
        exact this
      go_wp2
      go_ret
      exact ⟨_, rfl, HF.out, HBL.out⟩
theorem info_Int : (Try.prog.info? 3).map (fun i => (i.zero, i.size, i.bytes)) = some (some (.int .i64 0), 1, 8) := by kernel_rfl
theorem zero_Int (w : World) : Own w (eI 0) [.int .i64 0] [] := ⟨_, rfl, ⟨rfl, rfl⟩⟩
theorem h_toIntS (l : List Int) (v : Value) (w : World) (h : Raw w (eIntS l) [v]) (hs : (eIntS l).sz ≤ 1000000000) :
    Calls Try.prog 27 #[v] w (OwnP1 (eIntS l) w) := by
  obtain ⟨A, n, cap, rfl, hn, _, hA⟩ := read_raw (E := eI) (k := 1) h (fun _ => rfl) (by omega)
  have hl := sz_len hs
  have hn' : n ≤ 1000000000 := by omega
  have HA := Lib.hid hA
  have HN := Lib.hid hn
  have HS := Lib.hid hs
  clear h hA hn hs hl
  obtain ⟨i0, hi, hz0, hz1, hz2⟩ := info_parts info_Int
  obtain ⟨B, hB⟩ : ∃ B, w.heap.size = B := ⟨_, rfl⟩
  go_enter Try.func27, Try.ntmps27
  go_wp2_with (at_make; refine wpList_make_full _ rfl _ _ 33 rfl B 3 i0 (.int .i64 0) 1 Try.underlying33 hi hz0 hz1 _ _ _ _ n rfl rfl rfl rfl (by rw [hz2]; omega) (by unfold maxLen; omega) (by rw [hB]; exact Nat.le_refl _) ?_)
  intro w1 hown hgrow
  have H0 := own_made (z := (eI 0)) (zc := [.int .i64 0]) (k := 1) (by rw [Nat.mul_one]; exact hown) (zero_Int w1) rfl (by omega) rfl
  have HB0 : Hid (Below w.heap.size w w1) := (Below.refl _ _).grown hgrow (Nat.le_refl _) (fun _ h => by cases h)
  rw [HN.out, ← fill_zero eI (eI 0) l, ← HN.out] at H0
  have HO1 : Hid (∃ bs, Own w1 (rowC 3 1 (fillTo eI (eI 0) l 0)) [.slice (some ⟨B, 0, none⟩) n n] bs ∧ bs.Nodup ∧ ∀ b ∈ bs, B ≤ b) := ⟨[B], H0, by simp, by simp⟩
  clear H0 hown hgrow
  go_wp2_with fail
  go_loopw [4] (fun c wr => ∃ (i : Nat), i ≤ n ∧ c = .int .i64 i ∧ Hid (∃ bs, Own wr (rowC 3 1 (fillTo eI (eI 0) l i)) [.slice (some ⟨B, 0, none⟩) n n] bs ∧ bs.Nodup ∧ ∀ b ∈ bs, B ≤ b) ∧ Hid (Below w.heap.size w wr)) (fun c _ => n - (intOf c).toNat)
  case atStart => exact ⟨0, Nat.zero_le _, rfl, HO1.out, HB0.out⟩
  case round =>
    clear HO1 HB0
    obtain ⟨i, hi', rfl, HO, HBL⟩ := hrel
    by_cases hlt : (i : Int) < n
    · have hi0 : (0 : Int) ≤ i := by omega
      obtain ⟨g, o, x, us, rfl, hx, hus, hc, hr⟩ := HA.out i (by omega)
      have hsx := sz_elem HS.out hx
      simp only [Nat.mul_one] at hc
      obtain rfl := rinv_Int hr
      have hc0 : wr.cell? ⟨g, o + i, none⟩ = some (.int .i64 x) := cell_below HBL.out (hc 0 (by omega))
      have hbw : Below wr.heap.size wr wr := Below.refl _ _
      obtain ⟨bs, hob, hnd, hbB⟩ := HO.out
      have hlt2 := own_lt _ hob
      have hob2 := own_below hob hbw hlt2
      obtain ⟨g1, o1, cur, us1, e1, hgb, hg, hm, hset⟩ := fill_turn hob2 hnd hbB (fun _ => rfl) rfl hx
      simp only [Option.some.injEq, Addr.mk.injEq, and_true] at e1
      obtain ⟨rfl, rfl⟩ := e1
      simp only [Nat.zero_add, Nat.mul_one] at hm hset
      have hul := hm.1
      match us1, hul, hm with
      | [z0], _, hm =>
      have hk0 : wr.cell? ⟨B, i, none⟩ = some z0 := (Mid.cell (m := i) (k := 1) hm hg 0 (by omega))
      have hf0 := free_of_block hg (i)
      have hg1 := block_set hg (i) (.int .i64 x)
      have hm1 := Mid.set (k := 1) hm 0 (by omega) (.int .i64 x)
      have HO2 : Hid (∃ bs, Own (wr.setCell ⟨B, i, none⟩ (.int .i64 x)) (rowC 3 1 (fillTo eI (eI 0) l (i + 1))) [.slice (some ⟨B, 0, none⟩) n n] bs ∧ bs.Nodup ∧ ∀ b ∈ bs, B ≤ b) := hset _ _ _ [] hg1 hm1 (fun y hy1 hy => Below.heap_setCell _ _ _ _ hy) ⟨_, rfl, rfl, rfl⟩ (List.nodup_nil) (fun y hy => by cases hy)
      have HB2 : Hid (Below w.heap.size w (wr.setCell ⟨B, i, none⟩ (.int .i64 x))) := (Below.setCell (below_step HBL.out hbw) (p := ⟨B, i, none⟩) (by show _ ≤ B; omega) (.int .i64 x))
      clear hset hm hm1 hg hg1 hob hob2 hnd hbB hlt2 hx hbw
      go_wp2
      go_roundw
      case rel => exact ⟨i + 1, by omega, by go_num, HO2.out, HB2.out⟩
      case measure => simp [intOf]; omega
    · obtain rfl : i = n := by omega
      have HF : Hid (Owned wr w.heap.size (eIntS l) [.slice (some ⟨B, 0, none⟩) i i]) := by
        show Owned _ _ _ _
        rw [hB]
        have := HO.out
        rw [show fillTo eI (eI 0) l i = l.map eI by rw [HN.out]; exact fill_all _ _ _] at this
        exact this
      go_wp2
      go_ret
      exact ⟨_, rfl, HF.out, HBL.out⟩
theorem info_IntS : (Try.prog.info? 33).map (fun i => (i.zero, i.size, i.bytes)) = some (some (.slice none 0 0), 1, 24) := by kernel_rfl
theorem zero_IntS (w : World) : Own w (eIntS []) [.slice none 0 0] [] := ⟨_, _, [], [], rfl, rfl, ⟨rfl, rfl⟩, Or.inl ⟨⟨none, rfl⟩, rfl, rfl, rfl⟩⟩
theorem h_toIntSS (l : List (List Int)) (v : Value) (w : World) (h : Raw w (eIntSS l) [v]) (hs : (eIntSS l).sz ≤ 1000000000) :
    Calls Try.prog 138 #[v] w (OwnP1 (eIntSS l) w) := by
  obtain ⟨A, n, cap, rfl, hn, _, hA⟩ := read_raw (E := eIntS) (k := 1) h (fun _ => rfl) (by omega)
  have hl := sz_len hs
  have hn' : n ≤ 1000000000 := by omega
  have HA := Lib.hid hA
  have HN := Lib.hid hn
  have HS := Lib.hid hs
  clear h hA hn hs hl
  obtain ⟨i0, hi, hz0, hz1, hz2⟩ := info_parts info_IntS
  obtain ⟨B, hB⟩ : ∃ B, w.heap.size = B := ⟨_, rfl⟩
  go_enter Try.func138, Try.ntmps138
  go_wp2_with (at_make; refine wpList_make_full _ rfl _ _ 24 rfl B 33 i0 (.slice none 0 0) 1 Try.underlying24 hi hz0 hz1 _ _ _ _ n rfl rfl rfl rfl (by rw [hz2]; omega) (by unfold maxLen; omega) (by rw [hB]; exact Nat.le_refl _) ?_)
  intro w1 hown hgrow
  have H0 := own_made (z := (eIntS [])) (zc := [.slice none 0 0]) (k := 1) (by rw [Nat.mul_one]; exact hown) (zero_IntS w1) rfl (by omega) rfl
  have HB0 : Hid (Below w.heap.size w w1) := (Below.refl _ _).grown hgrow (Nat.le_refl _) (fun _ h => by cases h)
  rw [HN.out, ← fill_zero eIntS (eIntS []) l, ← HN.out] at H0
  have HO1 : Hid (∃ bs, Own w1 (rowC 33 1 (fillTo eIntS (eIntS []) l 0)) [.slice (some ⟨B, 0, none⟩) n n] bs ∧ bs.Nodup ∧ ∀ b ∈ bs, B ≤ b) := ⟨[B], H0, by simp, by simp⟩
  clear H0 hown hgrow
  go_wp2_with fail
  go_loopw [4] (fun c wr => ∃ (i : Nat), i ≤ n ∧ c = .int .i64 i ∧ Hid (∃ bs, Own wr (rowC 33 1 (fillTo eIntS (eIntS []) l i)) [.slice (some ⟨B, 0, none⟩) n n] bs ∧ bs.Nodup ∧ ∀ b ∈ bs, B ≤ b) ∧ Hid (Below w.heap.size w wr)) (fun c _ => n - (intOf c).toNat)
  case atStart => exact ⟨0, Nat.zero_le _, rfl, HO1.out, HB0.out⟩
  case round =>
    clear HO1 HB0
    obtain ⟨i, hi', rfl, HO, HBL⟩ := hrel
    by_cases hlt : (i : Int) < n
    · have hi0 : (0 : Int) ≤ i := by omega
      obtain ⟨g, o, x, us, rfl, hx, hus, hc, hr⟩ := HA.out i (by omega)
      have hsx := sz_elem HS.out hx
      simp only [Nat.mul_one] at hc
      obtain ⟨c0, rfl⟩ := rinv_IntS hr
      have hc0 : wr.cell? ⟨g, o + i, none⟩ = some (c0) := cell_below HBL.out (hc 0 (by omega))
      have HC := Lib.hid (h_toIntS x c0 wr (raw_below HBL.out _ hr) hsx)
      clear hc hus hr hsx
      go_wp2_with fail
      refine HC.out.mono ?_
      rintro e w2 ⟨d0, rfl, ⟨bx, hox, hnx, hbx⟩, hbw⟩
      obtain ⟨A1, n1, p1, rfl⟩ := own_slice hox
      obtain ⟨bs, hob, hnd, hbB⟩ := HO.out
      have hlt2 := own_lt _ hob
      have hob2 := own_below hob hbw hlt2
      obtain ⟨g1, o1, cur, us1, e1, hgb, hg, hm, hset⟩ := fill_turn hob2 hnd hbB (fun _ => rfl) rfl hx
      simp only [Option.some.injEq, Addr.mk.injEq, and_true] at e1
      obtain ⟨rfl, rfl⟩ := e1
      simp only [Nat.zero_add, Nat.mul_one] at hm hset
      have hul := hm.1
      match us1, hul, hm with
      | [z0], _, hm =>
      have hk0 : w2.cell? ⟨B, i, none⟩ = some z0 := (Mid.cell (m := i) (k := 1) hm hg 0 (by omega))
      have hf0 := free_of_block hg (i)
      have hg1 := block_set hg (i) (.slice A1 n1 p1)
      have hm1 := Mid.set (k := 1) hm 0 (by omega) (.slice A1 n1 p1)
      have HO2 : Hid (∃ bs, Own (w2.setCell ⟨B, i, none⟩ (.slice A1 n1 p1)) (rowC 33 1 (fillTo eIntS (eIntS []) l (i + 1))) [.slice (some ⟨B, 0, none⟩) n n] bs ∧ bs.Nodup ∧ ∀ b ∈ bs, B ≤ b) := hset _ _ _ bx hg1 hm1 (fun y hy1 hy => Below.heap_setCell _ _ _ _ hy) (own_same _ hox (fun y hy => Below.heap_setCell _ _ _ _ (fun hh => by have h1 := hbx y hy; have h2 := hlt2 B hgb; have h3 : y = B := hh; omega))) hnx (fun y hy => ⟨by have h1 := hbx y hy; have h2 := hlt2 B hgb; omega, fun hh => by have h1 := hbx y hy; have h2 := hlt2 y hh; omega⟩)
      have HB2 : Hid (Below w.heap.size w (w2.setCell ⟨B, i, none⟩ (.slice A1 n1 p1))) := (Below.setCell (below_step HBL.out hbw) (p := ⟨B, i, none⟩) (by show _ ≤ B; omega) (.slice A1 n1 p1))
      clear hset hm hm1 hg hg1 hob hob2 hnd hbB hlt2 hx hbw hox hnx hbx
      go_wp2
      go_roundw
      case rel => exact ⟨i + 1, by omega, by go_num, HO2.out, HB2.out⟩
      case measure => simp [intOf]; omega
    · obtain rfl : i = n := by omega
      have HF : Hid (Owned wr w.heap.size (eIntSS l) [.slice (some ⟨B, 0, none⟩) i i]) := by
        show Owned _ _ _ _
        rw [hB]
        have := HO.out
        rw [show fillTo eIntS (eIntS []) l i = l.map eIntS by rw [HN.out]; exact fill_all _ _ _] at this
        exact this
      go_wp2
      go_ret
      exact ⟨_, rfl, HF.out, HBL.out⟩
theorem h_toFrames (x : GFrames) (c0 c1 : Value) (w : World) (h : Raw w (eFrames x) [c0, c1]) (hs : (eFrames x).sz ≤ 1000000000) :
    Calls Try.prog 114 #[.agg #[c0, c1]] w (OwnPA (eFrames x) w) := by
  obtain ⟨h0, ht0⟩ := raw_split h
  have h1 := ht0
  rw [sz_Frames] at hs
  obtain ⟨B, hB⟩ : ∃ B, w.heap.size = B := ⟨_, rfl⟩
  have hx0 : (((w.alloc (.cells #[c0, c1] 55)).alloc (.cells #[.slice none 0 0, .slice none 0 0] 27)).alloc (.cells #[.slice none 0 0, .slice none 0 0] 27)).heap[B]? = some (.cells #[c0, c1] 55 (0, 0)) := by rw [← hB]; exact (Below.heap_alloc _ _ _ (by simp; omega)).trans ((Below.heap_alloc _ _ _ (by simp)).trans (heap_alloc_new w _))
  have hx1 : (((w.alloc (.cells #[c0, c1] 55)).alloc (.cells #[.slice none 0 0, .slice none 0 0] 27)).alloc (.cells #[.slice none 0 0, .slice none 0 0] 27)).heap[B + 1]? = some (.cells #[.slice none 0 0, .slice none 0 0] 27 (0, 0)) := by rw [← hB]; have := heap_alloc_new (w.alloc (.cells #[c0, c1] 55)) (.cells #[.slice none 0 0, .slice none 0 0] 27); exact (Below.heap_alloc _ _ _ (by simp)).trans (by simpa using this)
  have hx2 : (((w.alloc (.cells #[c0, c1] 55)).alloc (.cells #[.slice none 0 0, .slice none 0 0] 27)).alloc (.cells #[.slice none 0 0, .slice none 0 0] 27)).heap[B + 1 + 1]? = some (.cells #[.slice none 0 0, .slice none 0 0] 27 (0, 0)) := by rw [← hB]; have := heap_alloc_new ((w.alloc (.cells #[c0, c1] 55)).alloc (.cells #[.slice none 0 0, .slice none 0 0] 27)) (.cells #[.slice none 0 0, .slice none 0 0] 27); simpa using this
  have hb0 : Below w.heap.size w (((w.alloc (.cells #[c0, c1] 55)).alloc (.cells #[.slice none 0 0, .slice none 0 0] 27)).alloc (.cells #[.slice none 0 0, .slice none 0 0] 27)) := (((Below.refl _ _).alloc (Nat.le_refl _) _).alloc (by simp) _).alloc (by simp; omega) _
  have hz0 : (((w.alloc (.cells #[c0, c1] 55)).alloc (.cells #[.slice none 0 0, .slice none 0 0] 27)).alloc (.cells #[.slice none 0 0, .slice none 0 0] 27)).heap.size = B + 1 + 1 + 1 := by simp [hB]
  obtain ⟨w0, hw0⟩ : ∃ w0, (((w.alloc (.cells #[c0, c1] 55)).alloc (.cells #[.slice none 0 0, .slice none 0 0] 27)).alloc (.cells #[.slice none 0 0, .slice none 0 0] 27)) = w0 := ⟨_, rfl⟩
  rw [hw0] at hx0 hx1 hx2 hb0 hz0
  have hz : B + 1 + 1 + 1 ≤ w0.heap.size := by omega
  have H0 : Hid (Raw w (eIntSS x.Cells) [c0]) := h0
  have H1 : Hid (Raw w (eBoolS x.Used) [c1]) := h1
  have HX0 := Lib.hid hx0
  have HX1 := Lib.hid hx1
  have HX2 := Lib.hid hx2
  have HBL := Lib.hid hb0
  have HW := Lib.hid hw0
  clear hx0 hx1 hx2 hb0 hw0 hz0 h0 h1
  go_enter Try.func114, Try.ntmps114
  go_wp2_with fail
  rw [HW.out]
  clear HW
  have hsz0 : (eIntSS x.Cells).sz ≤ 1000000000 := by omega
  refine (h_toIntSS x.Cells c0 w0 (raw_below HBL.out _ H0.out) hsz0).mono ?_
  rintro e v1 ⟨d0, rfl, ⟨b0, o0, n0, l0⟩, hb0⟩
  obtain ⟨A0, m0, p0, rfl⟩ := own_slice o0
  have hx0 := (hb0.block B (by omega)).trans HX0.out
  have hx1 := (hb0.block (B + 1) (by omega)).trans HX1.out
  have hx2 := (hb0.block (B + 1 + 1) (by omega)).trans HX2.out
  have hbl := below_step HBL.out hb0
  have hzz := hb0.size
  have hd0 : ∀ y ∈ b0, B + 1 + 1 + 1 ≤ y := fun y hy => by have := l0 y hy; omega
  have hko0_0 : v1.cell? ⟨B + 1 + 1, 0, none⟩ = some (.slice none 0 0) := cell_of_block hx2 0
  have hfo0_0 := free_of_block hx2 0
  have hx2_0_0 : (v1.setCell ⟨B + 1 + 1, 0, none⟩ (.slice A0 m0 p0)).heap[B + 1 + 1]? = some (.cells #[.slice A0 m0 p0, .slice none 0 0] 27 (0, 0)) := block_set hx2 0 (.slice A0 m0 p0)
  have hx0n : (v1.setCell ⟨B + 1 + 1, 0, none⟩ (.slice A0 m0 p0)).heap[B]? = _ := (Below.heap_setCell _ _ _ _ (by show B ≠ B + 1 + 1; omega)).trans hx0
  have hx1n : (v1.setCell ⟨B + 1 + 1, 0, none⟩ (.slice A0 m0 p0)).heap[B + 1]? = _ := (Below.heap_setCell _ _ _ _ (by show B + 1 ≠ B + 1 + 1; omega)).trans hx1
  have hbn := (Below.setCell hbl (p := ⟨B + 1 + 1, 0, none⟩) (by show _ ≤ B + 1 + 1; omega) (.slice A0 m0 p0))
  have hzn : B + 1 + 1 + 1 ≤ (v1.setCell ⟨B + 1 + 1, 0, none⟩ (.slice A0 m0 p0)).heap.size := by simp [World.setCell]; omega
  have o0n : Own (v1.setCell ⟨B + 1 + 1, 0, none⟩ (.slice A0 m0 p0)) _ _ b0 := own_same _ o0 (fun y hy => Below.heap_setCell _ _ _ _ (fun hh => by have h1 := hd0 y hy; have h2 : y = B + 1 + 1 := hh; omega))
  obtain ⟨w1, hwn⟩ : ∃ z, (v1.setCell ⟨B + 1 + 1, 0, none⟩ (.slice A0 m0 p0)) = z := ⟨_, rfl⟩
  rw [hwn] at hx0n hx1n hx2_0_0 hbn hzn o0n
  clear HX0 HX1 HX2 HBL hz
  have HX0 := Lib.hid hx0n
  have HX1 := Lib.hid hx1n
  have HX2 := Lib.hid hx2_0_0
  have HBL := Lib.hid hbn
  have hz := hzn
  have HWN := Lib.hid hwn
  have O0 := Lib.hid o0n
  clear hx0 hx1 hx2 hbl hzz hx0n hx1n hbn hzn hwn hb0 hx2_0_0 o0n o0 hsz0
  have hc1 : (v1.setCell ⟨B + 1 + 1, 0, none⟩ (.slice A0 m0 p0)).cell? ⟨B, 1, none⟩ = some (c1) := by rw [HWN.out]; exact cell_of_block HX0.out 1
  go_wp2_with fail
  rw [HWN.out]
  clear HWN hc1
  clear hko0_0 hfo0_0
  have hc1 : w1.cell? ⟨B, 1, none⟩ = some (c1) := cell_of_block HX0.out 1
  go_wp2_with fail
  have M0_1 := Lib.hid (own_lt _ O0.out)
  have hsz1 : (eBoolS x.Used).sz ≤ 1000000000 := by omega
  refine (h_toBoolS x.Used c1 w1 (raw_below HBL.out _ H1.out) hsz1).mono ?_
  rintro e v2 ⟨d1, rfl, ⟨b1, o1, n1, l1⟩, hb1⟩
  obtain ⟨A1, m1, p1, rfl⟩ := own_slice o1
  have hx0 := (hb1.block B (by omega)).trans HX0.out
  have hx1 := (hb1.block (B + 1) (by omega)).trans HX1.out
  have hx2 := (hb1.block (B + 1 + 1) (by omega)).trans HX2.out
  have hbl := below_step HBL.out hb1
  have hzz := hb1.size
  have o0' := own_below O0.out hb1 (own_lt _ O0.out)
  clear O0
  have hd1 : ∀ y ∈ b1, B + 1 + 1 + 1 ≤ y := fun y hy => by have := l1 y hy; omega
  have hko1_0 : v2.cell? ⟨B + 1 + 1, 1, none⟩ = some (.slice none 0 0) := cell_of_block hx2 1
  have hfo1_0 := free_of_block hx2 1
  have hx2_1_0 : (v2.setCell ⟨B + 1 + 1, 1, none⟩ (.slice A1 m1 p1)).heap[B + 1 + 1]? = some (.cells #[.slice A0 m0 p0, .slice A1 m1 p1] 27 (0, 0)) := block_set hx2 1 (.slice A1 m1 p1)
  have hx0n : (v2.setCell ⟨B + 1 + 1, 1, none⟩ (.slice A1 m1 p1)).heap[B]? = _ := (Below.heap_setCell _ _ _ _ (by show B ≠ B + 1 + 1; omega)).trans hx0
  have hx1n : (v2.setCell ⟨B + 1 + 1, 1, none⟩ (.slice A1 m1 p1)).heap[B + 1]? = _ := (Below.heap_setCell _ _ _ _ (by show B + 1 ≠ B + 1 + 1; omega)).trans hx1
  have hbn := (Below.setCell hbl (p := ⟨B + 1 + 1, 1, none⟩) (by show _ ≤ B + 1 + 1; omega) (.slice A1 m1 p1))
  have hzn : B + 1 + 1 + 1 ≤ (v2.setCell ⟨B + 1 + 1, 1, none⟩ (.slice A1 m1 p1)).heap.size := by simp [World.setCell]; omega
  have o0n : Own (v2.setCell ⟨B + 1 + 1, 1, none⟩ (.slice A1 m1 p1)) _ _ b0 := own_same _ o0' (fun y hy => Below.heap_setCell _ _ _ _ (fun hh => by have h1 := hd0 y hy; have h2 : y = B + 1 + 1 := hh; omega))
  have o1n : Own (v2.setCell ⟨B + 1 + 1, 1, none⟩ (.slice A1 m1 p1)) _ _ b1 := own_same _ o1 (fun y hy => Below.heap_setCell _ _ _ _ (fun hh => by have h1 := hd1 y hy; have h2 : y = B + 1 + 1 := hh; omega))
  obtain ⟨w2, hwn⟩ : ∃ z, (v2.setCell ⟨B + 1 + 1, 1, none⟩ (.slice A1 m1 p1)) = z := ⟨_, rfl⟩
  rw [hwn] at hx0n hx1n hx2_1_0 hbn hzn o0n o1n
  clear HX0 HX1 HX2 HBL hz
  have HX0 := Lib.hid hx0n
  have HX1 := Lib.hid hx1n
  have HX2 := Lib.hid hx2_1_0
  have HBL := Lib.hid hbn
  have hz := hzn
  have HWN := Lib.hid hwn
  have O0 := Lib.hid o0n
  have O1 := Lib.hid o1n
  clear hx0 hx1 hx2 hbl hzz hx0n hx1n hbn hzn hwn hb1 hx2_1_0 o0n o1n o1 o0' hsz1
  have hr0 : (v2.setCell ⟨B + 1 + 1, 1, none⟩ (.slice A1 m1 p1)).cell? ⟨B + 1 + 1, 0, none⟩ = some (.slice A0 m0 p0) := by rw [HWN.out]; exact cell_of_block HX2.out 0
  have hr1 : (v2.setCell ⟨B + 1 + 1, 1, none⟩ (.slice A1 m1 p1)).cell? ⟨B + 1 + 1, 1, none⟩ = some (.slice A1 m1 p1) := by rw [HWN.out]; exact cell_of_block HX2.out 1
  have hg0 : (v2.setCell ⟨B + 1 + 1, 1, none⟩ (.slice A1 m1 p1)).heap[B + 1]? = some (.cells #[.slice none 0 0, .slice none 0 0] 27 (0, 0)) := by rw [HWN.out]; exact HX1.out
  have hkr0 : (v2.setCell ⟨B + 1 + 1, 1, none⟩ (.slice A1 m1 p1)).cell? ⟨B + 1, 0, none⟩ = some (.slice none 0 0) := cell_of_block hg0 0
  have hfr0 := free_of_block hg0 0
  have hg1 : ((v2.setCell ⟨B + 1 + 1, 1, none⟩ (.slice A1 m1 p1)).setCell ⟨B + 1, 0, none⟩ (.slice A0 m0 p0)).heap[B + 1]? = some (.cells #[.slice A0 m0 p0, .slice none 0 0] 27 (0, 0)) := block_set hg0 0 (.slice A0 m0 p0)
  have hkr1 : ((v2.setCell ⟨B + 1 + 1, 1, none⟩ (.slice A1 m1 p1)).setCell ⟨B + 1, 0, none⟩ (.slice A0 m0 p0)).cell? ⟨B + 1, 1, none⟩ = some (.slice none 0 0) := cell_of_block hg1 1
  have hfr1 := free_of_block hg1 1
  have hg2 : (((v2.setCell ⟨B + 1 + 1, 1, none⟩ (.slice A1 m1 p1)).setCell ⟨B + 1, 0, none⟩ (.slice A0 m0 p0)).setCell ⟨B + 1, 1, none⟩ (.slice A1 m1 p1)).heap[B + 1]? = some (.cells #[.slice A0 m0 p0, .slice A1 m1 p1] 27 (0, 0)) := block_set hg1 1 (.slice A1 m1 p1)
  have HG := Lib.hid hg2
  have HBE : Hid (Below w.heap.size w (((v2.setCell ⟨B + 1 + 1, 1, none⟩ (.slice A1 m1 p1)).setCell ⟨B + 1, 0, none⟩ (.slice A0 m0 p0)).setCell ⟨B + 1, 1, none⟩ (.slice A1 m1 p1))) := (Below.setCell (Below.setCell (by rw [HWN.out]; exact HBL.out : Below w.heap.size w (v2.setCell ⟨B + 1 + 1, 1, none⟩ (.slice A1 m1 p1))) (p := ⟨B + 1, 0, none⟩) (by show _ ≤ B + 1; omega) (.slice A0 m0 p0)) (p := ⟨B + 1, 1, none⟩) (by show _ ≤ B + 1; omega) (.slice A1 m1 p1))
  have E0 : Hid (Own (((v2.setCell ⟨B + 1 + 1, 1, none⟩ (.slice A1 m1 p1)).setCell ⟨B + 1, 0, none⟩ (.slice A0 m0 p0)).setCell ⟨B + 1, 1, none⟩ (.slice A1 m1 p1)) (eIntSS x.Cells) [.slice A0 m0 p0] b0) := own_same _ (by rw [HWN.out]; exact O0.out : Own (v2.setCell ⟨B + 1 + 1, 1, none⟩ (.slice A1 m1 p1)) _ _ _) (fun y hy => (Below.heap_setCell _ _ _ _ (fun hh => by have h1 := hd0 y hy; have h2 : y = B + 1 := hh; omega)).trans (Below.heap_setCell _ _ _ _ (fun hh => by have h1 := hd0 y hy; have h2 : y = B + 1 := hh; omega)))
  have E1 : Hid (Own (((v2.setCell ⟨B + 1 + 1, 1, none⟩ (.slice A1 m1 p1)).setCell ⟨B + 1, 0, none⟩ (.slice A0 m0 p0)).setCell ⟨B + 1, 1, none⟩ (.slice A1 m1 p1)) (eBoolS x.Used) [.slice A1 m1 p1] b1) := own_same _ (by rw [HWN.out]; exact O1.out : Own (v2.setCell ⟨B + 1 + 1, 1, none⟩ (.slice A1 m1 p1)) _ _ _) (fun y hy => (Below.heap_setCell _ _ _ _ (fun hh => by have h1 := hd1 y hy; have h2 : y = B + 1 := hh; omega)).trans (Below.heap_setCell _ _ _ _ (fun hh => by have h1 := hd1 y hy; have h2 : y = B + 1 := hh; omega)))
  clear hg0 hg1 hg2
  go_wp2
  refine ret_c rfl HG.out rfl Try.underlying27 rfl (by kernel_rfl) rfl ?_
  refine ⟨[.slice A0 m0 p0, .slice A1 m1 p1], rfl, ⟨b0 ++ (b1), (own_app _ _).2 ⟨[.slice A0 m0 p0], [.slice A1 m1 p1], b0, b1, rfl, by simp, E0.out, E1.out⟩, ?_, ?_⟩, HBE.out⟩
  · rw [List.nodup_append]
    refine ⟨n0, ?_, fun a ha c hc e => ?_⟩
    · exact n1
    · subst e
      rcases hc with hc
      · have h1 := M0_1.out a ha; have h2 := l1 a hc; omega
  · intro y hy
    simp only [List.mem_append] at hy
    rw [hB]
    rcases hy with hy | hy
    · have := hd0 y hy; omega
    · have := hd1 y hy; omega
theorem h_toTable (x : GTable) (c0 : Value) (w : World) (h : Raw w (eTable x) [c0]) (hs : (eTable x).sz ≤ 1000000000) :
    Calls Try.prog 115 #[.agg #[c0]] w (OwnPA (eTable x) w) := by
  have h0 := h
  rw [sz_Table] at hs
  obtain ⟨B, hB⟩ : ∃ B, w.heap.size = B := ⟨_, rfl⟩
  have hx0 : (((w.alloc (.cells #[c0] 58)).alloc (.cells #[.slice none 0 0] 30)).alloc (.cells #[.slice none 0 0] 30)).heap[B]? = some (.cells #[c0] 58 (0, 0)) := by rw [← hB]; exact (Below.heap_alloc _ _ _ (by simp; omega)).trans ((Below.heap_alloc _ _ _ (by simp)).trans (heap_alloc_new w _))
  have hx1 : (((w.alloc (.cells #[c0] 58)).alloc (.cells #[.slice none 0 0] 30)).alloc (.cells #[.slice none 0 0] 30)).heap[B + 1]? = some (.cells #[.slice none 0 0] 30 (0, 0)) := by rw [← hB]; have := heap_alloc_new (w.alloc (.cells #[c0] 58)) (.cells #[.slice none 0 0] 30); exact (Below.heap_alloc _ _ _ (by simp)).trans (by simpa using this)
  have hx2 : (((w.alloc (.cells #[c0] 58)).alloc (.cells #[.slice none 0 0] 30)).alloc (.cells #[.slice none 0 0] 30)).heap[B + 1 + 1]? = some (.cells #[.slice none 0 0] 30 (0, 0)) := by rw [← hB]; have := heap_alloc_new ((w.alloc (.cells #[c0] 58)).alloc (.cells #[.slice none 0 0] 30)) (.cells #[.slice none 0 0] 30); simpa using this
  have hb0 : Below w.heap.size w (((w.alloc (.cells #[c0] 58)).alloc (.cells #[.slice none 0 0] 30)).alloc (.cells #[.slice none 0 0] 30)) := (((Below.refl _ _).alloc (Nat.le_refl _) _).alloc (by simp) _).alloc (by simp; omega) _
  have hz0 : (((w.alloc (.cells #[c0] 58)).alloc (.cells #[.slice none 0 0] 30)).alloc (.cells #[.slice none 0 0] 30)).heap.size = B + 1 + 1 + 1 := by simp [hB]
  obtain ⟨w0, hw0⟩ : ∃ w0, (((w.alloc (.cells #[c0] 58)).alloc (.cells #[.slice none 0 0] 30)).alloc (.cells #[.slice none 0 0] 30)) = w0 := ⟨_, rfl⟩
  rw [hw0] at hx0 hx1 hx2 hb0 hz0
  have hz : B + 1 + 1 + 1 ≤ w0.heap.size := by omega
  have H0 : Hid (Raw w (eEntryS x.Entries) [c0]) := h0
  have HX0 := Lib.hid hx0
  have HX1 := Lib.hid hx1
  have HX2 := Lib.hid hx2
  have HBL := Lib.hid hb0
  have HW := Lib.hid hw0
  clear hx0 hx1 hx2 hb0 hw0 hz0 h0
  go_enter Try.func115, Try.ntmps115
  go_wp2_with fail
  rw [HW.out]
  clear HW
  have hsz0 : (eEntryS x.Entries).sz ≤ 1000000000 := by omega
  refine (h_toEntryS x.Entries c0 w0 (raw_below HBL.out _ H0.out) hsz0).mono ?_
  rintro e v1 ⟨d0, rfl, ⟨b0, o0, n0, l0⟩, hb0⟩
  obtain ⟨A0, m0, p0, rfl⟩ := own_slice o0
  have hx0 := (hb0.block B (by omega)).trans HX0.out
  have hx1 := (hb0.block (B + 1) (by omega)).trans HX1.out
  have hx2 := (hb0.block (B + 1 + 1) (by omega)).trans HX2.out
  have hbl := below_step HBL.out hb0
  have hzz := hb0.size
  have hd0 : ∀ y ∈ b0, B + 1 + 1 + 1 ≤ y := fun y hy => by have := l0 y hy; omega
  have hko0_0 : v1.cell? ⟨B + 1 + 1, 0, none⟩ = some (.slice none 0 0) := cell_of_block hx2 0
  have hfo0_0 := free_of_block hx2 0
  have hx2_0_0 : (v1.setCell ⟨B + 1 + 1, 0, none⟩ (.slice A0 m0 p0)).heap[B + 1 + 1]? = some (.cells #[.slice A0 m0 p0] 30 (0, 0)) := block_set hx2 0 (.slice A0 m0 p0)
  have hx0n : (v1.setCell ⟨B + 1 + 1, 0, none⟩ (.slice A0 m0 p0)).heap[B]? = _ := (Below.heap_setCell _ _ _ _ (by show B ≠ B + 1 + 1; omega)).trans hx0
  have hx1n : (v1.setCell ⟨B + 1 + 1, 0, none⟩ (.slice A0 m0 p0)).heap[B + 1]? = _ := (Below.heap_setCell _ _ _ _ (by show B + 1 ≠ B + 1 + 1; omega)).trans hx1
  have hbn := (Below.setCell hbl (p := ⟨B + 1 + 1, 0, none⟩) (by show _ ≤ B + 1 + 1; omega) (.slice A0 m0 p0))
  have hzn : B + 1 + 1 + 1 ≤ (v1.setCell ⟨B + 1 + 1, 0, none⟩ (.slice A0 m0 p0)).heap.size := by simp [World.setCell]; omega
  have o0n : Own (v1.setCell ⟨B + 1 + 1, 0, none⟩ (.slice A0 m0 p0)) _ _ b0 := own_same _ o0 (fun y hy => Below.heap_setCell _ _ _ _ (fun hh => by have h1 := hd0 y hy; have h2 : y = B + 1 + 1 := hh; omega))
  obtain ⟨w1, hwn⟩ : ∃ z, (v1.setCell ⟨B + 1 + 1, 0, none⟩ (.slice A0 m0 p0)) = z := ⟨_, rfl⟩
  rw [hwn] at hx0n hx1n hx2_0_0 hbn hzn o0n
  clear HX0 HX1 HX2 HBL hz
  have HX0 := Lib.hid hx0n
  have HX1 := Lib.hid hx1n
  have HX2 := Lib.hid hx2_0_0
  have HBL := Lib.hid hbn
  have hz := hzn
  have HWN := Lib.hid hwn
  have O0 := Lib.hid o0n
  clear hx0 hx1 hx2 hbl hzz hx0n hx1n hbn hzn hwn hb0 hx2_0_0 o0n o0 hsz0
  have hr0 : (v1.setCell ⟨B + 1 + 1, 0, none⟩ (.slice A0 m0 p0)).cell? ⟨B + 1 + 1, 0, none⟩ = some (.slice A0 m0 p0) := by rw [HWN.out]; exact cell_of_block HX2.out 0
  have hg0 : (v1.setCell ⟨B + 1 + 1, 0, none⟩ (.slice A0 m0 p0)).heap[B + 1]? = some (.cells #[.slice none 0 0] 30 (0, 0)) := by rw [HWN.out]; exact HX1.out
  have hkr0 : (v1.setCell ⟨B + 1 + 1, 0, none⟩ (.slice A0 m0 p0)).cell? ⟨B + 1, 0, none⟩ = some (.slice none 0 0) := cell_of_block hg0 0
  have hfr0 := free_of_block hg0 0
  have hg1 : ((v1.setCell ⟨B + 1 + 1, 0, none⟩ (.slice A0 m0 p0)).setCell ⟨B + 1, 0, none⟩ (.slice A0 m0 p0)).heap[B + 1]? = some (.cells #[.slice A0 m0 p0] 30 (0, 0)) := block_set hg0 0 (.slice A0 m0 p0)
  have HG := Lib.hid hg1
  have HBE : Hid (Below w.heap.size w ((v1.setCell ⟨B + 1 + 1, 0, none⟩ (.slice A0 m0 p0)).setCell ⟨B + 1, 0, none⟩ (.slice A0 m0 p0))) := (Below.setCell (by rw [HWN.out]; exact HBL.out : Below w.heap.size w (v1.setCell ⟨B + 1 + 1, 0, none⟩ (.slice A0 m0 p0))) (p := ⟨B + 1, 0, none⟩) (by show _ ≤ B + 1; omega) (.slice A0 m0 p0))
  have E0 : Hid (Own ((v1.setCell ⟨B + 1 + 1, 0, none⟩ (.slice A0 m0 p0)).setCell ⟨B + 1, 0, none⟩ (.slice A0 m0 p0)) (eEntryS x.Entries) [.slice A0 m0 p0] b0) := own_same _ (by rw [HWN.out]; exact O0.out : Own (v1.setCell ⟨B + 1 + 1, 0, none⟩ (.slice A0 m0 p0)) _ _ _) (fun y hy => Below.heap_setCell _ _ _ _ (fun hh => by have h1 := hd0 y hy; have h2 : y = B + 1 := hh; omega))
  clear hg0 hg1
  go_wp2
  refine ret_c rfl HG.out rfl Try.underlying30 rfl (by kernel_rfl) rfl ?_
  refine ⟨[.slice A0 m0 p0], rfl, ⟨b0, E0.out, ?_, ?_⟩, HBE.out⟩
  · exact n0
  · intro y hy
    rw [hB]
    rcases hy with hy
    · have := hd0 y hy; omega
theorem h_toMachine (x : GMachine) (c0 c1 c2 : Value) (w : World) (h : Raw w (eMachine x) [c0, c1, c2]) (hs : (eMachine x).sz ≤ 1000000000) :
    Calls Try.prog 71 #[.agg #[c0, c1, c2]] w (OwnPA (eMachine x) w) := by
  obtain ⟨h0, ht0⟩ := raw_split h
  have h1 := ht0
  rw [sz_Machine] at hs
  obtain ⟨B, hB⟩ : ∃ B, w.heap.size = B := ⟨_, rfl⟩
  have hx0 : (((w.alloc (.cells #[c0, c1, c2] 60)).alloc (.cells #[.slice none 0 0, .slice none 0 0, .slice none 0 0] 32)).alloc (.cells #[.slice none 0 0, .slice none 0 0, .slice none 0 0] 32)).heap[B]? = some (.cells #[c0, c1, c2] 60 (0, 0)) := by rw [← hB]; exact (Below.heap_alloc _ _ _ (by simp; omega)).trans ((Below.heap_alloc _ _ _ (by simp)).trans (heap_alloc_new w _))
  have hx1 : (((w.alloc (.cells #[c0, c1, c2] 60)).alloc (.cells #[.slice none 0 0, .slice none 0 0, .slice none 0 0] 32)).alloc (.cells #[.slice none 0 0, .slice none 0 0, .slice none 0 0] 32)).heap[B + 1]? = some (.cells #[.slice none 0 0, .slice none 0 0, .slice none 0 0] 32 (0, 0)) := by rw [← hB]; have := heap_alloc_new (w.alloc (.cells #[c0, c1, c2] 60)) (.cells #[.slice none 0 0, .slice none 0 0, .slice none 0 0] 32); exact (Below.heap_alloc _ _ _ (by simp)).trans (by simpa using this)
  have hx2 : (((w.alloc (.cells #[c0, c1, c2] 60)).alloc (.cells #[.slice none 0 0, .slice none 0 0, .slice none 0 0] 32)).alloc (.cells #[.slice none 0 0, .slice none 0 0, .slice none 0 0] 32)).heap[B + 1 + 1]? = some (.cells #[.slice none 0 0, .slice none 0 0, .slice none 0 0] 32 (0, 0)) := by rw [← hB]; have := heap_alloc_new ((w.alloc (.cells #[c0, c1, c2] 60)).alloc (.cells #[.slice none 0 0, .slice none 0 0, .slice none 0 0] 32)) (.cells #[.slice none 0 0, .slice none 0 0, .slice none 0 0] 32); simpa using this
  have hb0 : Below w.heap.size w (((w.alloc (.cells #[c0, c1, c2] 60)).alloc (.cells #[.slice none 0 0, .slice none 0 0, .slice none 0 0] 32)).alloc (.cells #[.slice none 0 0, .slice none 0 0, .slice none 0 0] 32)) := (((Below.refl _ _).alloc (Nat.le_refl _) _).alloc (by simp) _).alloc (by simp; omega) _
  have hz0 : (((w.alloc (.cells #[c0, c1, c2] 60)).alloc (.cells #[.slice none 0 0, .slice none 0 0, .slice none 0 0] 32)).alloc (.cells #[.slice none 0 0, .slice none 0 0, .slice none 0 0] 32)).heap.size = B + 1 + 1 + 1 := by simp [hB]
  obtain ⟨w0, hw0⟩ : ∃ w0, (((w.alloc (.cells #[c0, c1, c2] 60)).alloc (.cells #[.slice none 0 0, .slice none 0 0, .slice none 0 0] 32)).alloc (.cells #[.slice none 0 0, .slice none 0 0, .slice none 0 0] 32)) = w0 := ⟨_, rfl⟩
  rw [hw0] at hx0 hx1 hx2 hb0 hz0
  have hz : B + 1 + 1 + 1 ≤ w0.heap.size := by omega
  have H0 : Hid (Raw w (eFrames x.Frames) [c0, c1]) := h0
  have H1 : Hid (Raw w (eTable x.Table) [c2]) := h1
  have HX0 := Lib.hid hx0
  have HX1 := Lib.hid hx1
  have HX2 := Lib.hid hx2
  have HBL := Lib.hid hb0
  have HW := Lib.hid hw0
  clear hx0 hx1 hx2 hb0 hw0 hz0 h0 h1
  go_enter Try.func71, Try.ntmps71
  go_wp2_with fail
  rw [HW.out]
  clear HW
  have hsz0 : (eFrames x.Frames).sz ≤ 1000000000 := by omega
  refine (h_toFrames x.Frames c0 c1 w0 (raw_below HBL.out _ H0.out) hsz0).mono ?_
  rintro e v1 ⟨us0, rfl, ⟨b0, o0, n0, l0⟩, hb0⟩
  obtain ⟨A0, m0, p0, A1, m1, p1, rfl⟩ := sinv_Frames o0
  have hx0 := (hb0.block B (by omega)).trans HX0.out
  have hx1 := (hb0.block (B + 1) (by omega)).trans HX1.out
  have hx2 := (hb0.block (B + 1 + 1) (by omega)).trans HX2.out
  have hbl := below_step HBL.out hb0
  have hzz := hb0.size
  have hd0 : ∀ y ∈ b0, B + 1 + 1 + 1 ≤ y := fun y hy => by have := l0 y hy; omega
  have hko0_0 : v1.cell? ⟨B + 1 + 1, 0, none⟩ = some (.slice none 0 0) := cell_of_block hx2 0
  have hfo0_0 := free_of_block hx2 0
  have hx2_0_0 : (v1.setCell ⟨B + 1 + 1, 0, none⟩ (.slice A0 m0 p0)).heap[B + 1 + 1]? = some (.cells #[.slice A0 m0 p0, .slice none 0 0, .slice none 0 0] 32 (0, 0)) := block_set hx2 0 (.slice A0 m0 p0)
  have hko0_1 : (v1.setCell ⟨B + 1 + 1, 0, none⟩ (.slice A0 m0 p0)).cell? ⟨B + 1 + 1, 1, none⟩ = some (.slice none 0 0) := cell_of_block hx2_0_0 1
  have hfo0_1 := free_of_block hx2_0_0 1
  have hx2_0_1 : ((v1.setCell ⟨B + 1 + 1, 0, none⟩ (.slice A0 m0 p0)).setCell ⟨B + 1 + 1, 1, none⟩ (.slice A1 m1 p1)).heap[B + 1 + 1]? = some (.cells #[.slice A0 m0 p0, .slice A1 m1 p1, .slice none 0 0] 32 (0, 0)) := block_set hx2_0_0 1 (.slice A1 m1 p1)
  have hx0n : ((v1.setCell ⟨B + 1 + 1, 0, none⟩ (.slice A0 m0 p0)).setCell ⟨B + 1 + 1, 1, none⟩ (.slice A1 m1 p1)).heap[B]? = _ := ((Below.heap_setCell _ _ _ _ (by show B ≠ B + 1 + 1; omega)).trans (Below.heap_setCell _ _ _ _ (by show B ≠ B + 1 + 1; omega))).trans hx0
  have hx1n : ((v1.setCell ⟨B + 1 + 1, 0, none⟩ (.slice A0 m0 p0)).setCell ⟨B + 1 + 1, 1, none⟩ (.slice A1 m1 p1)).heap[B + 1]? = _ := ((Below.heap_setCell _ _ _ _ (by show B + 1 ≠ B + 1 + 1; omega)).trans (Below.heap_setCell _ _ _ _ (by show B + 1 ≠ B + 1 + 1; omega))).trans hx1
  have hbn := (Below.setCell (Below.setCell hbl (p := ⟨B + 1 + 1, 0, none⟩) (by show _ ≤ B + 1 + 1; omega) (.slice A0 m0 p0)) (p := ⟨B + 1 + 1, 1, none⟩) (by show _ ≤ B + 1 + 1; omega) (.slice A1 m1 p1))
  have hzn : B + 1 + 1 + 1 ≤ ((v1.setCell ⟨B + 1 + 1, 0, none⟩ (.slice A0 m0 p0)).setCell ⟨B + 1 + 1, 1, none⟩ (.slice A1 m1 p1)).heap.size := by simp [World.setCell]; omega
  have o0n : Own ((v1.setCell ⟨B + 1 + 1, 0, none⟩ (.slice A0 m0 p0)).setCell ⟨B + 1 + 1, 1, none⟩ (.slice A1 m1 p1)) _ _ b0 := own_same _ o0 (fun y hy => (Below.heap_setCell _ _ _ _ (fun hh => by have h1 := hd0 y hy; have h2 : y = B + 1 + 1 := hh; omega)).trans (Below.heap_setCell _ _ _ _ (fun hh => by have h1 := hd0 y hy; have h2 : y = B + 1 + 1 := hh; omega)))
  obtain ⟨w1, hwn⟩ : ∃ z, ((v1.setCell ⟨B + 1 + 1, 0, none⟩ (.slice A0 m0 p0)).setCell ⟨B + 1 + 1, 1, none⟩ (.slice A1 m1 p1)) = z := ⟨_, rfl⟩
  rw [hwn] at hx0n hx1n hx2_0_1 hbn hzn o0n
  clear HX0 HX1 HX2 HBL hz
  have HX0 := Lib.hid hx0n
  have HX1 := Lib.hid hx1n
  have HX2 := Lib.hid hx2_0_1
  have HBL := Lib.hid hbn
  have hz := hzn
  have HWN := Lib.hid hwn
  have O0 := Lib.hid o0n
  clear hx0 hx1 hx2 hbl hzz hx0n hx1n hbn hzn hwn hb0 hx2_0_0 hx2_0_1 o0n o0 hsz0
  have hc2 : ((v1.setCell ⟨B + 1 + 1, 0, none⟩ (.slice A0 m0 p0)).setCell ⟨B + 1 + 1, 1, none⟩ (.slice A1 m1 p1)).cell? ⟨B, 2, none⟩ = some (c2) := by rw [HWN.out]; exact cell_of_block HX0.out 2
  go_wp2_with fail
  rw [HWN.out]
  clear HWN hc2
  clear hko0_0 hfo0_0 hko0_1 hfo0_1
  have hc2 : w1.cell? ⟨B, 2, none⟩ = some (c2) := cell_of_block HX0.out 2
  go_wp2_with fail
  have M0_1 := Lib.hid (own_lt _ O0.out)
  have hsz1 : (eTable x.Table).sz ≤ 1000000000 := by omega
  refine (h_toTable x.Table c2 w1 (raw_below HBL.out _ H1.out) hsz1).mono ?_
  rintro e v2 ⟨us1, rfl, ⟨b1, o1, n1, l1⟩, hb1⟩
  obtain ⟨A2, m2, p2, rfl⟩ := sinv_Table o1
  have hx0 := (hb1.block B (by omega)).trans HX0.out
  have hx1 := (hb1.block (B + 1) (by omega)).trans HX1.out
  have hx2 := (hb1.block (B + 1 + 1) (by omega)).trans HX2.out
  have hbl := below_step HBL.out hb1
  have hzz := hb1.size
  have o0' := own_below O0.out hb1 (own_lt _ O0.out)
  clear O0
  have hd1 : ∀ y ∈ b1, B + 1 + 1 + 1 ≤ y := fun y hy => by have := l1 y hy; omega
  have hko1_0 : v2.cell? ⟨B + 1 + 1, 2, none⟩ = some (.slice none 0 0) := cell_of_block hx2 2
  have hfo1_0 := free_of_block hx2 2
  have hx2_1_0 : (v2.setCell ⟨B + 1 + 1, 2, none⟩ (.slice A2 m2 p2)).heap[B + 1 + 1]? = some (.cells #[.slice A0 m0 p0, .slice A1 m1 p1, .slice A2 m2 p2] 32 (0, 0)) := block_set hx2 2 (.slice A2 m2 p2)
  have hx0n : (v2.setCell ⟨B + 1 + 1, 2, none⟩ (.slice A2 m2 p2)).heap[B]? = _ := (Below.heap_setCell _ _ _ _ (by show B ≠ B + 1 + 1; omega)).trans hx0
  have hx1n : (v2.setCell ⟨B + 1 + 1, 2, none⟩ (.slice A2 m2 p2)).heap[B + 1]? = _ := (Below.heap_setCell _ _ _ _ (by show B + 1 ≠ B + 1 + 1; omega)).trans hx1
  have hbn := (Below.setCell hbl (p := ⟨B + 1 + 1, 2, none⟩) (by show _ ≤ B + 1 + 1; omega) (.slice A2 m2 p2))
  have hzn : B + 1 + 1 + 1 ≤ (v2.setCell ⟨B + 1 + 1, 2, none⟩ (.slice A2 m2 p2)).heap.size := by simp [World.setCell]; omega
  have o0n : Own (v2.setCell ⟨B + 1 + 1, 2, none⟩ (.slice A2 m2 p2)) _ _ b0 := own_same _ o0' (fun y hy => Below.heap_setCell _ _ _ _ (fun hh => by have h1 := hd0 y hy; have h2 : y = B + 1 + 1 := hh; omega))
  have o1n : Own (v2.setCell ⟨B + 1 + 1, 2, none⟩ (.slice A2 m2 p2)) _ _ b1 := own_same _ o1 (fun y hy => Below.heap_setCell _ _ _ _ (fun hh => by have h1 := hd1 y hy; have h2 : y = B + 1 + 1 := hh; omega))
  obtain ⟨w2, hwn⟩ : ∃ z, (v2.setCell ⟨B + 1 + 1, 2, none⟩ (.slice A2 m2 p2)) = z := ⟨_, rfl⟩
  rw [hwn] at hx0n hx1n hx2_1_0 hbn hzn o0n o1n
  clear HX0 HX1 HX2 HBL hz
  have HX0 := Lib.hid hx0n
  have HX1 := Lib.hid hx1n
  have HX2 := Lib.hid hx2_1_0
  have HBL := Lib.hid hbn
  have hz := hzn
  have HWN := Lib.hid hwn
  have O0 := Lib.hid o0n
  have O1 := Lib.hid o1n
  clear hx0 hx1 hx2 hbl hzz hx0n hx1n hbn hzn hwn hb1 hx2_1_0 o0n o1n o1 o0' hsz1
  have hr0 : (v2.setCell ⟨B + 1 + 1, 2, none⟩ (.slice A2 m2 p2)).cell? ⟨B + 1 + 1, 0, none⟩ = some (.slice A0 m0 p0) := by rw [HWN.out]; exact cell_of_block HX2.out 0
  have hr1 : (v2.setCell ⟨B + 1 + 1, 2, none⟩ (.slice A2 m2 p2)).cell? ⟨B + 1 + 1, 1, none⟩ = some (.slice A1 m1 p1) := by rw [HWN.out]; exact cell_of_block HX2.out 1
  have hr2 : (v2.setCell ⟨B + 1 + 1, 2, none⟩ (.slice A2 m2 p2)).cell? ⟨B + 1 + 1, 2, none⟩ = some (.slice A2 m2 p2) := by rw [HWN.out]; exact cell_of_block HX2.out 2
  have hg0 : (v2.setCell ⟨B + 1 + 1, 2, none⟩ (.slice A2 m2 p2)).heap[B + 1]? = some (.cells #[.slice none 0 0, .slice none 0 0, .slice none 0 0] 32 (0, 0)) := by rw [HWN.out]; exact HX1.out
  have hkr0 : (v2.setCell ⟨B + 1 + 1, 2, none⟩ (.slice A2 m2 p2)).cell? ⟨B + 1, 0, none⟩ = some (.slice none 0 0) := cell_of_block hg0 0
  have hfr0 := free_of_block hg0 0
  have hg1 : ((v2.setCell ⟨B + 1 + 1, 2, none⟩ (.slice A2 m2 p2)).setCell ⟨B + 1, 0, none⟩ (.slice A0 m0 p0)).heap[B + 1]? = some (.cells #[.slice A0 m0 p0, .slice none 0 0, .slice none 0 0] 32 (0, 0)) := block_set hg0 0 (.slice A0 m0 p0)
  have hkr1 : ((v2.setCell ⟨B + 1 + 1, 2, none⟩ (.slice A2 m2 p2)).setCell ⟨B + 1, 0, none⟩ (.slice A0 m0 p0)).cell? ⟨B + 1, 1, none⟩ = some (.slice none 0 0) := cell_of_block hg1 1
  have hfr1 := free_of_block hg1 1
  have hg2 : (((v2.setCell ⟨B + 1 + 1, 2, none⟩ (.slice A2 m2 p2)).setCell ⟨B + 1, 0, none⟩ (.slice A0 m0 p0)).setCell ⟨B + 1, 1, none⟩ (.slice A1 m1 p1)).heap[B + 1]? = some (.cells #[.slice A0 m0 p0, .slice A1 m1 p1, .slice none 0 0] 32 (0, 0)) := block_set hg1 1 (.slice A1 m1 p1)
  have hkr2 : (((v2.setCell ⟨B + 1 + 1, 2, none⟩ (.slice A2 m2 p2)).setCell ⟨B + 1, 0, none⟩ (.slice A0 m0 p0)).setCell ⟨B + 1, 1, none⟩ (.slice A1 m1 p1)).cell? ⟨B + 1, 2, none⟩ = some (.slice none 0 0) := cell_of_block hg2 2
  have hfr2 := free_of_block hg2 2
  have hg3 : ((((v2.setCell ⟨B + 1 + 1, 2, none⟩ (.slice A2 m2 p2)).setCell ⟨B + 1, 0, none⟩ (.slice A0 m0 p0)).setCell ⟨B + 1, 1, none⟩ (.slice A1 m1 p1)).setCell ⟨B + 1, 2, none⟩ (.slice A2 m2 p2)).heap[B + 1]? = some (.cells #[.slice A0 m0 p0, .slice A1 m1 p1, .slice A2 m2 p2] 32 (0, 0)) := block_set hg2 2 (.slice A2 m2 p2)
  have HG := Lib.hid hg3
  have HBE : Hid (Below w.heap.size w ((((v2.setCell ⟨B + 1 + 1, 2, none⟩ (.slice A2 m2 p2)).setCell ⟨B + 1, 0, none⟩ (.slice A0 m0 p0)).setCell ⟨B + 1, 1, none⟩ (.slice A1 m1 p1)).setCell ⟨B + 1, 2, none⟩ (.slice A2 m2 p2))) := (Below.setCell (Below.setCell (Below.setCell (by rw [HWN.out]; exact HBL.out : Below w.heap.size w (v2.setCell ⟨B + 1 + 1, 2, none⟩ (.slice A2 m2 p2))) (p := ⟨B + 1, 0, none⟩) (by show _ ≤ B + 1; omega) (.slice A0 m0 p0)) (p := ⟨B + 1, 1, none⟩) (by show _ ≤ B + 1; omega) (.slice A1 m1 p1)) (p := ⟨B + 1, 2, none⟩) (by show _ ≤ B + 1; omega) (.slice A2 m2 p2))
  have E0 : Hid (Own ((((v2.setCell ⟨B + 1 + 1, 2, none⟩ (.slice A2 m2 p2)).setCell ⟨B + 1, 0, none⟩ (.slice A0 m0 p0)).setCell ⟨B + 1, 1, none⟩ (.slice A1 m1 p1)).setCell ⟨B + 1, 2, none⟩ (.slice A2 m2 p2)) (eFrames x.Frames) [.slice A0 m0 p0, .slice A1 m1 p1] b0) := own_same _ (by rw [HWN.out]; exact O0.out : Own (v2.setCell ⟨B + 1 + 1, 2, none⟩ (.slice A2 m2 p2)) _ _ _) (fun y hy => (Below.heap_setCell _ _ _ _ (fun hh => by have h1 := hd0 y hy; have h2 : y = B + 1 := hh; omega)).trans ((Below.heap_setCell _ _ _ _ (fun hh => by have h1 := hd0 y hy; have h2 : y = B + 1 := hh; omega)).trans (Below.heap_setCell _ _ _ _ (fun hh => by have h1 := hd0 y hy; have h2 : y = B + 1 := hh; omega))))
  have E1 : Hid (Own ((((v2.setCell ⟨B + 1 + 1, 2, none⟩ (.slice A2 m2 p2)).setCell ⟨B + 1, 0, none⟩ (.slice A0 m0 p0)).setCell ⟨B + 1, 1, none⟩ (.slice A1 m1 p1)).setCell ⟨B + 1, 2, none⟩ (.slice A2 m2 p2)) (eTable x.Table) [.slice A2 m2 p2] b1) := own_same _ (by rw [HWN.out]; exact O1.out : Own (v2.setCell ⟨B + 1 + 1, 2, none⟩ (.slice A2 m2 p2)) _ _ _) (fun y hy => (Below.heap_setCell _ _ _ _ (fun hh => by have h1 := hd1 y hy; have h2 : y = B + 1 := hh; omega)).trans ((Below.heap_setCell _ _ _ _ (fun hh => by have h1 := hd1 y hy; have h2 : y = B + 1 := hh; omega)).trans (Below.heap_setCell _ _ _ _ (fun hh => by have h1 := hd1 y hy; have h2 : y = B + 1 := hh; omega))))
  clear hg0 hg1 hg2 hg3
  go_wp2
  refine ret_c rfl HG.out rfl Try.underlying32 rfl (by kernel_rfl) rfl ?_
  refine ⟨[.slice A0 m0 p0, .slice A1 m1 p1, .slice A2 m2 p2], rfl, ⟨b0 ++ (b1), (own_app _ _).2 ⟨[.slice A0 m0 p0, .slice A1 m1 p1], [.slice A2 m2 p2], b0, b1, rfl, by simp, E0.out, E1.out⟩, ?_, ?_⟩, HBE.out⟩
  · rw [List.nodup_append]
    refine ⟨n0, ?_, fun a ha c hc e => ?_⟩
    · exact n1
    · subst e
      rcases hc with hc
      · have h1 := M0_1.out a ha; have h2 := l1 a hc; omega
  · intro y hy
    simp only [List.mem_append] at hy
    rw [hB]
    rcases hy with hy | hy
    · have := hd0 y hy; omega
    · have := hd1 y hy; omega
theorem h_toKernel (x : GKernel) (c0 c1 c2 c3 : Value) (w : World) (h : Raw w (eKernel x) [c0, c1, c2, .int .i64 x.Calls, c3]) (hs : (eKernel x).sz ≤ 1000000000) :
    Calls Try.prog 35 #[.agg #[c0, c1, c2, .int .i64 x.Calls, c3]] w (OwnPA (eKernel x) w) := by
  obtain ⟨h0, ht0⟩ := raw_split h
  obtain ⟨h1, ht1⟩ := raw_split ht0
  have h2 := ht1
  rw [sz_Kernel] at hs
  obtain ⟨B, hB⟩ : ∃ B, w.heap.size = B := ⟨_, rfl⟩
  have hx0 : (((w.alloc (.cells #[c0, c1, c2, .int .i64 x.Calls, c3] 62)).alloc (.cells #[.slice none 0 0, .slice none 0 0, .slice none 0 0, .int .i64 0, .slice none 0 0] 35)).alloc (.cells #[.slice none 0 0, .slice none 0 0, .slice none 0 0, .int .i64 0, .slice none 0 0] 35)).heap[B]? = some (.cells #[c0, c1, c2, .int .i64 x.Calls, c3] 62 (0, 0)) := by rw [← hB]; exact (Below.heap_alloc _ _ _ (by simp; omega)).trans ((Below.heap_alloc _ _ _ (by simp)).trans (heap_alloc_new w _))
  have hx1 : (((w.alloc (.cells #[c0, c1, c2, .int .i64 x.Calls, c3] 62)).alloc (.cells #[.slice none 0 0, .slice none 0 0, .slice none 0 0, .int .i64 0, .slice none 0 0] 35)).alloc (.cells #[.slice none 0 0, .slice none 0 0, .slice none 0 0, .int .i64 0, .slice none 0 0] 35)).heap[B + 1]? = some (.cells #[.slice none 0 0, .slice none 0 0, .slice none 0 0, .int .i64 0, .slice none 0 0] 35 (0, 0)) := by rw [← hB]; have := heap_alloc_new (w.alloc (.cells #[c0, c1, c2, .int .i64 x.Calls, c3] 62)) (.cells #[.slice none 0 0, .slice none 0 0, .slice none 0 0, .int .i64 0, .slice none 0 0] 35); exact (Below.heap_alloc _ _ _ (by simp)).trans (by simpa using this)
  have hx2 : (((w.alloc (.cells #[c0, c1, c2, .int .i64 x.Calls, c3] 62)).alloc (.cells #[.slice none 0 0, .slice none 0 0, .slice none 0 0, .int .i64 0, .slice none 0 0] 35)).alloc (.cells #[.slice none 0 0, .slice none 0 0, .slice none 0 0, .int .i64 0, .slice none 0 0] 35)).heap[B + 1 + 1]? = some (.cells #[.slice none 0 0, .slice none 0 0, .slice none 0 0, .int .i64 0, .slice none 0 0] 35 (0, 0)) := by rw [← hB]; have := heap_alloc_new ((w.alloc (.cells #[c0, c1, c2, .int .i64 x.Calls, c3] 62)).alloc (.cells #[.slice none 0 0, .slice none 0 0, .slice none 0 0, .int .i64 0, .slice none 0 0] 35)) (.cells #[.slice none 0 0, .slice none 0 0, .slice none 0 0, .int .i64 0, .slice none 0 0] 35); simpa using this
  have hb0 : Below w.heap.size w (((w.alloc (.cells #[c0, c1, c2, .int .i64 x.Calls, c3] 62)).alloc (.cells #[.slice none 0 0, .slice none 0 0, .slice none 0 0, .int .i64 0, .slice none 0 0] 35)).alloc (.cells #[.slice none 0 0, .slice none 0 0, .slice none 0 0, .int .i64 0, .slice none 0 0] 35)) := (((Below.refl _ _).alloc (Nat.le_refl _) _).alloc (by simp) _).alloc (by simp; omega) _
  have hz0 : (((w.alloc (.cells #[c0, c1, c2, .int .i64 x.Calls, c3] 62)).alloc (.cells #[.slice none 0 0, .slice none 0 0, .slice none 0 0, .int .i64 0, .slice none 0 0] 35)).alloc (.cells #[.slice none 0 0, .slice none 0 0, .slice none 0 0, .int .i64 0, .slice none 0 0] 35)).heap.size = B + 1 + 1 + 1 := by simp [hB]
  obtain ⟨w0, hw0⟩ : ∃ w0, (((w.alloc (.cells #[c0, c1, c2, .int .i64 x.Calls, c3] 62)).alloc (.cells #[.slice none 0 0, .slice none 0 0, .slice none 0 0, .int .i64 0, .slice none 0 0] 35)).alloc (.cells #[.slice none 0 0, .slice none 0 0, .slice none 0 0, .int .i64 0, .slice none 0 0] 35)) = w0 := ⟨_, rfl⟩
  rw [hw0] at hx0 hx1 hx2 hb0 hz0
  have hz : B + 1 + 1 + 1 ≤ w0.heap.size := by omega
  have H0 : Hid (Raw w (eMachine x.Machine) [c0, c1, c2]) := h0
  have H2 : Hid (Raw w (eIntS x.Refuse) [c3]) := h2
  have HX0 := Lib.hid hx0
  have HX1 := Lib.hid hx1
  have HX2 := Lib.hid hx2
  have HBL := Lib.hid hb0
  have HW := Lib.hid hw0
  clear hx0 hx1 hx2 hb0 hw0 hz0 h0 h1 h2
  go_enter Try.func35, Try.ntmps35
  go_wp2_with fail
  rw [HW.out]
  clear HW
  have hsz0 : (eMachine x.Machine).sz ≤ 1000000000 := by omega
  refine (h_toMachine x.Machine c0 c1 c2 w0 (raw_below HBL.out _ H0.out) hsz0).mono ?_
  rintro e v1 ⟨us0, rfl, ⟨b0, o0, n0, l0⟩, hb0⟩
  obtain ⟨A0, m0, p0, A1, m1, p1, A2, m2, p2, rfl⟩ := sinv_Machine o0
  have hx0 := (hb0.block B (by omega)).trans HX0.out
  have hx1 := (hb0.block (B + 1) (by omega)).trans HX1.out
  have hx2 := (hb0.block (B + 1 + 1) (by omega)).trans HX2.out
  have hbl := below_step HBL.out hb0
  have hzz := hb0.size
  have hd0 : ∀ y ∈ b0, B + 1 + 1 + 1 ≤ y := fun y hy => by have := l0 y hy; omega
  have hko0_0 : v1.cell? ⟨B + 1 + 1, 0, none⟩ = some (.slice none 0 0) := cell_of_block hx2 0
  have hfo0_0 := free_of_block hx2 0
  have hx2_0_0 : (v1.setCell ⟨B + 1 + 1, 0, none⟩ (.slice A0 m0 p0)).heap[B + 1 + 1]? = some (.cells #[.slice A0 m0 p0, .slice none 0 0, .slice none 0 0, .int .i64 0, .slice none 0 0] 35 (0, 0)) := block_set hx2 0 (.slice A0 m0 p0)
  have hko0_1 : (v1.setCell ⟨B + 1 + 1, 0, none⟩ (.slice A0 m0 p0)).cell? ⟨B + 1 + 1, 1, none⟩ = some (.slice none 0 0) := cell_of_block hx2_0_0 1
  have hfo0_1 := free_of_block hx2_0_0 1
  have hx2_0_1 : ((v1.setCell ⟨B + 1 + 1, 0, none⟩ (.slice A0 m0 p0)).setCell ⟨B + 1 + 1, 1, none⟩ (.slice A1 m1 p1)).heap[B + 1 + 1]? = some (.cells #[.slice A0 m0 p0, .slice A1 m1 p1, .slice none 0 0, .int .i64 0, .slice none 0 0] 35 (0, 0)) := block_set hx2_0_0 1 (.slice A1 m1 p1)
  have hko0_2 : ((v1.setCell ⟨B + 1 + 1, 0, none⟩ (.slice A0 m0 p0)).setCell ⟨B + 1 + 1, 1, none⟩ (.slice A1 m1 p1)).cell? ⟨B + 1 + 1, 2, none⟩ = some (.slice none 0 0) := cell_of_block hx2_0_1 2
  have hfo0_2 := free_of_block hx2_0_1 2
  have hx2_0_2 : (((v1.setCell ⟨B + 1 + 1, 0, none⟩ (.slice A0 m0 p0)).setCell ⟨B + 1 + 1, 1, none⟩ (.slice A1 m1 p1)).setCell ⟨B + 1 + 1, 2, none⟩ (.slice A2 m2 p2)).heap[B + 1 + 1]? = some (.cells #[.slice A0 m0 p0, .slice A1 m1 p1, .slice A2 m2 p2, .int .i64 0, .slice none 0 0] 35 (0, 0)) := block_set hx2_0_1 2 (.slice A2 m2 p2)
  have hko0_3 : (((v1.setCell ⟨B + 1 + 1, 0, none⟩ (.slice A0 m0 p0)).setCell ⟨B + 1 + 1, 1, none⟩ (.slice A1 m1 p1)).setCell ⟨B + 1 + 1, 2, none⟩ (.slice A2 m2 p2)).cell? ⟨B + 1 + 1, 3, none⟩ = some (.int .i64 0) := cell_of_block hx2_0_2 3
  have hfo0_3 := free_of_block hx2_0_2 3
  have hx2_0_3 : ((((v1.setCell ⟨B + 1 + 1, 0, none⟩ (.slice A0 m0 p0)).setCell ⟨B + 1 + 1, 1, none⟩ (.slice A1 m1 p1)).setCell ⟨B + 1 + 1, 2, none⟩ (.slice A2 m2 p2)).setCell ⟨B + 1 + 1, 3, none⟩ (.int .i64 x.Calls)).heap[B + 1 + 1]? = some (.cells #[.slice A0 m0 p0, .slice A1 m1 p1, .slice A2 m2 p2, .int .i64 x.Calls, .slice none 0 0] 35 (0, 0)) := block_set hx2_0_2 3 (.int .i64 x.Calls)
  have hx0n : ((((v1.setCell ⟨B + 1 + 1, 0, none⟩ (.slice A0 m0 p0)).setCell ⟨B + 1 + 1, 1, none⟩ (.slice A1 m1 p1)).setCell ⟨B + 1 + 1, 2, none⟩ (.slice A2 m2 p2)).setCell ⟨B + 1 + 1, 3, none⟩ (.int .i64 x.Calls)).heap[B]? = _ := ((Below.heap_setCell _ _ _ _ (by show B ≠ B + 1 + 1; omega)).trans ((Below.heap_setCell _ _ _ _ (by show B ≠ B + 1 + 1; omega)).trans ((Below.heap_setCell _ _ _ _ (by show B ≠ B + 1 + 1; omega)).trans (Below.heap_setCell _ _ _ _ (by show B ≠ B + 1 + 1; omega))))).trans hx0
  have hx1n : ((((v1.setCell ⟨B + 1 + 1, 0, none⟩ (.slice A0 m0 p0)).setCell ⟨B + 1 + 1, 1, none⟩ (.slice A1 m1 p1)).setCell ⟨B + 1 + 1, 2, none⟩ (.slice A2 m2 p2)).setCell ⟨B + 1 + 1, 3, none⟩ (.int .i64 x.Calls)).heap[B + 1]? = _ := ((Below.heap_setCell _ _ _ _ (by show B + 1 ≠ B + 1 + 1; omega)).trans ((Below.heap_setCell _ _ _ _ (by show B + 1 ≠ B + 1 + 1; omega)).trans ((Below.heap_setCell _ _ _ _ (by show B + 1 ≠ B + 1 + 1; omega)).trans (Below.heap_setCell _ _ _ _ (by show B + 1 ≠ B + 1 + 1; omega))))).trans hx1
  have hbn := (Below.setCell (Below.setCell (Below.setCell (Below.setCell hbl (p := ⟨B + 1 + 1, 0, none⟩) (by show _ ≤ B + 1 + 1; omega) (.slice A0 m0 p0)) (p := ⟨B + 1 + 1, 1, none⟩) (by show _ ≤ B + 1 + 1; omega) (.slice A1 m1 p1)) (p := ⟨B + 1 + 1, 2, none⟩) (by show _ ≤ B + 1 + 1; omega) (.slice A2 m2 p2)) (p := ⟨B + 1 + 1, 3, none⟩) (by show _ ≤ B + 1 + 1; omega) (.int .i64 x.Calls))
  have hzn : B + 1 + 1 + 1 ≤ ((((v1.setCell ⟨B + 1 + 1, 0, none⟩ (.slice A0 m0 p0)).setCell ⟨B + 1 + 1, 1, none⟩ (.slice A1 m1 p1)).setCell ⟨B + 1 + 1, 2, none⟩ (.slice A2 m2 p2)).setCell ⟨B + 1 + 1, 3, none⟩ (.int .i64 x.Calls)).heap.size := by simp [World.setCell]; omega
  have o0n : Own ((((v1.setCell ⟨B + 1 + 1, 0, none⟩ (.slice A0 m0 p0)).setCell ⟨B + 1 + 1, 1, none⟩ (.slice A1 m1 p1)).setCell ⟨B + 1 + 1, 2, none⟩ (.slice A2 m2 p2)).setCell ⟨B + 1 + 1, 3, none⟩ (.int .i64 x.Calls)) _ _ b0 := own_same _ o0 (fun y hy => (Below.heap_setCell _ _ _ _ (fun hh => by have h1 := hd0 y hy; have h2 : y = B + 1 + 1 := hh; omega)).trans ((Below.heap_setCell _ _ _ _ (fun hh => by have h1 := hd0 y hy; have h2 : y = B + 1 + 1 := hh; omega)).trans ((Below.heap_setCell _ _ _ _ (fun hh => by have h1 := hd0 y hy; have h2 : y = B + 1 + 1 := hh; omega)).trans (Below.heap_setCell _ _ _ _ (fun hh => by have h1 := hd0 y hy; have h2 : y = B + 1 + 1 := hh; omega)))))
  have hc3 : v1.cell? ⟨B, 3, none⟩ = some (.int .i64 x.Calls) := cell_of_block hx0 3
  have hcz0_1_1 : (v1.setCell ⟨B + 1 + 1, 0, none⟩ (.slice A0 m0 p0)).cell? ⟨B, 3, none⟩ = some (.int .i64 x.Calls) := by rw [cell_of_block ((Below.heap_setCell _ _ _ _ (by show B ≠ B + 1 + 1; omega)).trans hx0)]; rfl
  have hcz0_2_1 : ((v1.setCell ⟨B + 1 + 1, 0, none⟩ (.slice A0 m0 p0)).setCell ⟨B + 1 + 1, 1, none⟩ (.slice A1 m1 p1)).cell? ⟨B, 3, none⟩ = some (.int .i64 x.Calls) := by rw [cell_of_block (((Below.heap_setCell _ _ _ _ (by show B ≠ B + 1 + 1; omega)).trans (Below.heap_setCell _ _ _ _ (by show B ≠ B + 1 + 1; omega))).trans hx0)]; rfl
  have hcz0_3_1 : (((v1.setCell ⟨B + 1 + 1, 0, none⟩ (.slice A0 m0 p0)).setCell ⟨B + 1 + 1, 1, none⟩ (.slice A1 m1 p1)).setCell ⟨B + 1 + 1, 2, none⟩ (.slice A2 m2 p2)).cell? ⟨B, 3, none⟩ = some (.int .i64 x.Calls) := by rw [cell_of_block (((Below.heap_setCell _ _ _ _ (by show B ≠ B + 1 + 1; omega)).trans ((Below.heap_setCell _ _ _ _ (by show B ≠ B + 1 + 1; omega)).trans (Below.heap_setCell _ _ _ _ (by show B ≠ B + 1 + 1; omega)))).trans hx0)]; rfl
  obtain ⟨w1, hwn⟩ : ∃ z, ((((v1.setCell ⟨B + 1 + 1, 0, none⟩ (.slice A0 m0 p0)).setCell ⟨B + 1 + 1, 1, none⟩ (.slice A1 m1 p1)).setCell ⟨B + 1 + 1, 2, none⟩ (.slice A2 m2 p2)).setCell ⟨B + 1 + 1, 3, none⟩ (.int .i64 x.Calls)) = z := ⟨_, rfl⟩
  rw [hwn] at hx0n hx1n hx2_0_3 hbn hzn o0n
  clear HX0 HX1 HX2 HBL hz
  have HX0 := Lib.hid hx0n
  have HX1 := Lib.hid hx1n
  have HX2 := Lib.hid hx2_0_3
  have HBL := Lib.hid hbn
  have hz := hzn
  have HWN := Lib.hid hwn
  have O0 := Lib.hid o0n
  clear hx0 hx1 hx2 hbl hzz hx0n hx1n hbn hzn hwn hb0 hx2_0_0 hx2_0_1 hx2_0_2 hx2_0_3 o0n o0 hsz0
  have hc4 : ((((v1.setCell ⟨B + 1 + 1, 0, none⟩ (.slice A0 m0 p0)).setCell ⟨B + 1 + 1, 1, none⟩ (.slice A1 m1 p1)).setCell ⟨B + 1 + 1, 2, none⟩ (.slice A2 m2 p2)).setCell ⟨B + 1 + 1, 3, none⟩ (.int .i64 x.Calls)).cell? ⟨B, 4, none⟩ = some (c3) := by rw [HWN.out]; exact cell_of_block HX0.out 4
  go_wp2_with fail
  rw [HWN.out]
  clear HWN hc4
  clear hko0_0 hfo0_0 hko0_1 hfo0_1 hko0_2 hfo0_2 hko0_3 hfo0_3
  have hc4 : w1.cell? ⟨B, 4, none⟩ = some (c3) := cell_of_block HX0.out 4
  go_wp2_with fail
  have M0_2 := Lib.hid (own_lt _ O0.out)
  have hsz2 : (eIntS x.Refuse).sz ≤ 1000000000 := by omega
  refine (h_toIntS x.Refuse c3 w1 (raw_below HBL.out _ H2.out) hsz2).mono ?_
  rintro e v2 ⟨d4, rfl, ⟨b2, o2, n2, l2⟩, hb2⟩
  obtain ⟨A4, m4, p4, rfl⟩ := own_slice o2
  have hx0 := (hb2.block B (by omega)).trans HX0.out
  have hx1 := (hb2.block (B + 1) (by omega)).trans HX1.out
  have hx2 := (hb2.block (B + 1 + 1) (by omega)).trans HX2.out
  have hbl := below_step HBL.out hb2
  have hzz := hb2.size
  have o0' := own_below O0.out hb2 (own_lt _ O0.out)
  clear O0
  have hd2 : ∀ y ∈ b2, B + 1 + 1 + 1 ≤ y := fun y hy => by have := l2 y hy; omega
  have hko1_0 : v2.cell? ⟨B + 1 + 1, 4, none⟩ = some (.slice none 0 0) := cell_of_block hx2 4
  have hfo1_0 := free_of_block hx2 4
  have hx2_1_0 : (v2.setCell ⟨B + 1 + 1, 4, none⟩ (.slice A4 m4 p4)).heap[B + 1 + 1]? = some (.cells #[.slice A0 m0 p0, .slice A1 m1 p1, .slice A2 m2 p2, .int .i64 x.Calls, .slice A4 m4 p4] 35 (0, 0)) := block_set hx2 4 (.slice A4 m4 p4)
  have hx0n : (v2.setCell ⟨B + 1 + 1, 4, none⟩ (.slice A4 m4 p4)).heap[B]? = _ := (Below.heap_setCell _ _ _ _ (by show B ≠ B + 1 + 1; omega)).trans hx0
  have hx1n : (v2.setCell ⟨B + 1 + 1, 4, none⟩ (.slice A4 m4 p4)).heap[B + 1]? = _ := (Below.heap_setCell _ _ _ _ (by show B + 1 ≠ B + 1 + 1; omega)).trans hx1
  have hbn := (Below.setCell hbl (p := ⟨B + 1 + 1, 4, none⟩) (by show _ ≤ B + 1 + 1; omega) (.slice A4 m4 p4))
  have hzn : B + 1 + 1 + 1 ≤ (v2.setCell ⟨B + 1 + 1, 4, none⟩ (.slice A4 m4 p4)).heap.size := by simp [World.setCell]; omega
  have o0n : Own (v2.setCell ⟨B + 1 + 1, 4, none⟩ (.slice A4 m4 p4)) _ _ b0 := own_same _ o0' (fun y hy => Below.heap_setCell _ _ _ _ (fun hh => by have h1 := hd0 y hy; have h2 : y = B + 1 + 1 := hh; omega))
  have o2n : Own (v2.setCell ⟨B + 1 + 1, 4, none⟩ (.slice A4 m4 p4)) _ _ b2 := own_same _ o2 (fun y hy => Below.heap_setCell _ _ _ _ (fun hh => by have h1 := hd2 y hy; have h2 : y = B + 1 + 1 := hh; omega))
  obtain ⟨w2, hwn⟩ : ∃ z, (v2.setCell ⟨B + 1 + 1, 4, none⟩ (.slice A4 m4 p4)) = z := ⟨_, rfl⟩
  rw [hwn] at hx0n hx1n hx2_1_0 hbn hzn o0n o2n
  clear HX0 HX1 HX2 HBL hz
  have HX0 := Lib.hid hx0n
  have HX1 := Lib.hid hx1n
  have HX2 := Lib.hid hx2_1_0
  have HBL := Lib.hid hbn
  have hz := hzn
  have HWN := Lib.hid hwn
  have O0 := Lib.hid o0n
  have O2 := Lib.hid o2n
  clear hx0 hx1 hx2 hbl hzz hx0n hx1n hbn hzn hwn hb2 hx2_1_0 o0n o2n o2 o0' hsz2
  have hr0 : (v2.setCell ⟨B + 1 + 1, 4, none⟩ (.slice A4 m4 p4)).cell? ⟨B + 1 + 1, 0, none⟩ = some (.slice A0 m0 p0) := by rw [HWN.out]; exact cell_of_block HX2.out 0
  have hr1 : (v2.setCell ⟨B + 1 + 1, 4, none⟩ (.slice A4 m4 p4)).cell? ⟨B + 1 + 1, 1, none⟩ = some (.slice A1 m1 p1) := by rw [HWN.out]; exact cell_of_block HX2.out 1
  have hr2 : (v2.setCell ⟨B + 1 + 1, 4, none⟩ (.slice A4 m4 p4)).cell? ⟨B + 1 + 1, 2, none⟩ = some (.slice A2 m2 p2) := by rw [HWN.out]; exact cell_of_block HX2.out 2
  have hr3 : (v2.setCell ⟨B + 1 + 1, 4, none⟩ (.slice A4 m4 p4)).cell? ⟨B + 1 + 1, 3, none⟩ = some (.int .i64 x.Calls) := by rw [HWN.out]; exact cell_of_block HX2.out 3
  have hr4 : (v2.setCell ⟨B + 1 + 1, 4, none⟩ (.slice A4 m4 p4)).cell? ⟨B + 1 + 1, 4, none⟩ = some (.slice A4 m4 p4) := by rw [HWN.out]; exact cell_of_block HX2.out 4
  have hg0 : (v2.setCell ⟨B + 1 + 1, 4, none⟩ (.slice A4 m4 p4)).heap[B + 1]? = some (.cells #[.slice none 0 0, .slice none 0 0, .slice none 0 0, .int .i64 0, .slice none 0 0] 35 (0, 0)) := by rw [HWN.out]; exact HX1.out
  have hkr0 : (v2.setCell ⟨B + 1 + 1, 4, none⟩ (.slice A4 m4 p4)).cell? ⟨B + 1, 0, none⟩ = some (.slice none 0 0) := cell_of_block hg0 0
  have hfr0 := free_of_block hg0 0
  have hg1 : ((v2.setCell ⟨B + 1 + 1, 4, none⟩ (.slice A4 m4 p4)).setCell ⟨B + 1, 0, none⟩ (.slice A0 m0 p0)).heap[B + 1]? = some (.cells #[.slice A0 m0 p0, .slice none 0 0, .slice none 0 0, .int .i64 0, .slice none 0 0] 35 (0, 0)) := block_set hg0 0 (.slice A0 m0 p0)
  have hkr1 : ((v2.setCell ⟨B + 1 + 1, 4, none⟩ (.slice A4 m4 p4)).setCell ⟨B + 1, 0, none⟩ (.slice A0 m0 p0)).cell? ⟨B + 1, 1, none⟩ = some (.slice none 0 0) := cell_of_block hg1 1
  have hfr1 := free_of_block hg1 1
  have hg2 : (((v2.setCell ⟨B + 1 + 1, 4, none⟩ (.slice A4 m4 p4)).setCell ⟨B + 1, 0, none⟩ (.slice A0 m0 p0)).setCell ⟨B + 1, 1, none⟩ (.slice A1 m1 p1)).heap[B + 1]? = some (.cells #[.slice A0 m0 p0, .slice A1 m1 p1, .slice none 0 0, .int .i64 0, .slice none 0 0] 35 (0, 0)) := block_set hg1 1 (.slice A1 m1 p1)
  have hkr2 : (((v2.setCell ⟨B + 1 + 1, 4, none⟩ (.slice A4 m4 p4)).setCell ⟨B + 1, 0, none⟩ (.slice A0 m0 p0)).setCell ⟨B + 1, 1, none⟩ (.slice A1 m1 p1)).cell? ⟨B + 1, 2, none⟩ = some (.slice none 0 0) := cell_of_block hg2 2
  have hfr2 := free_of_block hg2 2
  have hg3 : ((((v2.setCell ⟨B + 1 + 1, 4, none⟩ (.slice A4 m4 p4)).setCell ⟨B + 1, 0, none⟩ (.slice A0 m0 p0)).setCell ⟨B + 1, 1, none⟩ (.slice A1 m1 p1)).setCell ⟨B + 1, 2, none⟩ (.slice A2 m2 p2)).heap[B + 1]? = some (.cells #[.slice A0 m0 p0, .slice A1 m1 p1, .slice A2 m2 p2, .int .i64 0, .slice none 0 0] 35 (0, 0)) := block_set hg2 2 (.slice A2 m2 p2)
  have hkr3 : ((((v2.setCell ⟨B + 1 + 1, 4, none⟩ (.slice A4 m4 p4)).setCell ⟨B + 1, 0, none⟩ (.slice A0 m0 p0)).setCell ⟨B + 1, 1, none⟩ (.slice A1 m1 p1)).setCell ⟨B + 1, 2, none⟩ (.slice A2 m2 p2)).cell? ⟨B + 1, 3, none⟩ = some (.int .i64 0) := cell_of_block hg3 3
  have hfr3 := free_of_block hg3 3
  have hg4 : (((((v2.setCell ⟨B + 1 + 1, 4, none⟩ (.slice A4 m4 p4)).setCell ⟨B + 1, 0, none⟩ (.slice A0 m0 p0)).setCell ⟨B + 1, 1, none⟩ (.slice A1 m1 p1)).setCell ⟨B + 1, 2, none⟩ (.slice A2 m2 p2)).setCell ⟨B + 1, 3, none⟩ (.int .i64 x.Calls)).heap[B + 1]? = some (.cells #[.slice A0 m0 p0, .slice A1 m1 p1, .slice A2 m2 p2, .int .i64 x.Calls, .slice none 0 0] 35 (0, 0)) := block_set hg3 3 (.int .i64 x.Calls)
  have hkr4 : (((((v2.setCell ⟨B + 1 + 1, 4, none⟩ (.slice A4 m4 p4)).setCell ⟨B + 1, 0, none⟩ (.slice A0 m0 p0)).setCell ⟨B + 1, 1, none⟩ (.slice A1 m1 p1)).setCell ⟨B + 1, 2, none⟩ (.slice A2 m2 p2)).setCell ⟨B + 1, 3, none⟩ (.int .i64 x.Calls)).cell? ⟨B + 1, 4, none⟩ = some (.slice none 0 0) := cell_of_block hg4 4
  have hfr4 := free_of_block hg4 4
  have hg5 : ((((((v2.setCell ⟨B + 1 + 1, 4, none⟩ (.slice A4 m4 p4)).setCell ⟨B + 1, 0, none⟩ (.slice A0 m0 p0)).setCell ⟨B + 1, 1, none⟩ (.slice A1 m1 p1)).setCell ⟨B + 1, 2, none⟩ (.slice A2 m2 p2)).setCell ⟨B + 1, 3, none⟩ (.int .i64 x.Calls)).setCell ⟨B + 1, 4, none⟩ (.slice A4 m4 p4)).heap[B + 1]? = some (.cells #[.slice A0 m0 p0, .slice A1 m1 p1, .slice A2 m2 p2, .int .i64 x.Calls, .slice A4 m4 p4] 35 (0, 0)) := block_set hg4 4 (.slice A4 m4 p4)
  have HG := Lib.hid hg5
  have HBE : Hid (Below w.heap.size w ((((((v2.setCell ⟨B + 1 + 1, 4, none⟩ (.slice A4 m4 p4)).setCell ⟨B + 1, 0, none⟩ (.slice A0 m0 p0)).setCell ⟨B + 1, 1, none⟩ (.slice A1 m1 p1)).setCell ⟨B + 1, 2, none⟩ (.slice A2 m2 p2)).setCell ⟨B + 1, 3, none⟩ (.int .i64 x.Calls)).setCell ⟨B + 1, 4, none⟩ (.slice A4 m4 p4))) := (Below.setCell (Below.setCell (Below.setCell (Below.setCell (Below.setCell (by rw [HWN.out]; exact HBL.out : Below w.heap.size w (v2.setCell ⟨B + 1 + 1, 4, none⟩ (.slice A4 m4 p4))) (p := ⟨B + 1, 0, none⟩) (by show _ ≤ B + 1; omega) (.slice A0 m0 p0)) (p := ⟨B + 1, 1, none⟩) (by show _ ≤ B + 1; omega) (.slice A1 m1 p1)) (p := ⟨B + 1, 2, none⟩) (by show _ ≤ B + 1; omega) (.slice A2 m2 p2)) (p := ⟨B + 1, 3, none⟩) (by show _ ≤ B + 1; omega) (.int .i64 x.Calls)) (p := ⟨B + 1, 4, none⟩) (by show _ ≤ B + 1; omega) (.slice A4 m4 p4))
  have E0 : Hid (Own ((((((v2.setCell ⟨B + 1 + 1, 4, none⟩ (.slice A4 m4 p4)).setCell ⟨B + 1, 0, none⟩ (.slice A0 m0 p0)).setCell ⟨B + 1, 1, none⟩ (.slice A1 m1 p1)).setCell ⟨B + 1, 2, none⟩ (.slice A2 m2 p2)).setCell ⟨B + 1, 3, none⟩ (.int .i64 x.Calls)).setCell ⟨B + 1, 4, none⟩ (.slice A4 m4 p4)) (eMachine x.Machine) [.slice A0 m0 p0, .slice A1 m1 p1, .slice A2 m2 p2] b0) := own_same _ (by rw [HWN.out]; exact O0.out : Own (v2.setCell ⟨B + 1 + 1, 4, none⟩ (.slice A4 m4 p4)) _ _ _) (fun y hy => (Below.heap_setCell _ _ _ _ (fun hh => by have h1 := hd0 y hy; have h2 : y = B + 1 := hh; omega)).trans ((Below.heap_setCell _ _ _ _ (fun hh => by have h1 := hd0 y hy; have h2 : y = B + 1 := hh; omega)).trans ((Below.heap_setCell _ _ _ _ (fun hh => by have h1 := hd0 y hy; have h2 : y = B + 1 := hh; omega)).trans ((Below.heap_setCell _ _ _ _ (fun hh => by have h1 := hd0 y hy; have h2 : y = B + 1 := hh; omega)).trans (Below.heap_setCell _ _ _ _ (fun hh => by have h1 := hd0 y hy; have h2 : y = B + 1 := hh; omega))))))
  have E2 : Hid (Own ((((((v2.setCell ⟨B + 1 + 1, 4, none⟩ (.slice A4 m4 p4)).setCell ⟨B + 1, 0, none⟩ (.slice A0 m0 p0)).setCell ⟨B + 1, 1, none⟩ (.slice A1 m1 p1)).setCell ⟨B + 1, 2, none⟩ (.slice A2 m2 p2)).setCell ⟨B + 1, 3, none⟩ (.int .i64 x.Calls)).setCell ⟨B + 1, 4, none⟩ (.slice A4 m4 p4)) (eIntS x.Refuse) [.slice A4 m4 p4] b2) := own_same _ (by rw [HWN.out]; exact O2.out : Own (v2.setCell ⟨B + 1 + 1, 4, none⟩ (.slice A4 m4 p4)) _ _ _) (fun y hy => (Below.heap_setCell _ _ _ _ (fun hh => by have h1 := hd2 y hy; have h2 : y = B + 1 := hh; omega)).trans ((Below.heap_setCell _ _ _ _ (fun hh => by have h1 := hd2 y hy; have h2 : y = B + 1 := hh; omega)).trans ((Below.heap_setCell _ _ _ _ (fun hh => by have h1 := hd2 y hy; have h2 : y = B + 1 := hh; omega)).trans ((Below.heap_setCell _ _ _ _ (fun hh => by have h1 := hd2 y hy; have h2 : y = B + 1 := hh; omega)).trans (Below.heap_setCell _ _ _ _ (fun hh => by have h1 := hd2 y hy; have h2 : y = B + 1 := hh; omega))))))
  clear hg0 hg1 hg2 hg3 hg4 hg5
  go_wp2
  refine ret_c rfl HG.out rfl Try.underlying35 rfl (by kernel_rfl) rfl ?_
  refine ⟨[.slice A0 m0 p0, .slice A1 m1 p1, .slice A2 m2 p2, .int .i64 x.Calls, .slice A4 m4 p4], rfl, ⟨b0 ++ (b2), (own_app _ _).2 ⟨[.slice A0 m0 p0, .slice A1 m1 p1, .slice A2 m2 p2], [.int .i64 x.Calls, .slice A4 m4 p4], b0, b2, rfl, by simp, E0.out, (own_app _ _).2 ⟨[.int .i64 x.Calls], [.slice A4 m4 p4], [], b2, rfl, by simp, ⟨_, rfl, rfl, rfl⟩, E2.out⟩⟩, ?_, ?_⟩, HBE.out⟩
  · rw [List.nodup_append]
    refine ⟨n0, ?_, fun a ha c hc e => ?_⟩
    · exact n2
    · subst e
      rcases hc with hc
      · have h1 := M0_2.out a ha; have h2 := l2 a hc; omega
  · intro y hy
    simp only [List.mem_append] at hy
    rw [hB]
    rcases hy with hy | hy
    · have := hd0 y hy; omega
    · have := hd2 y hy; omega
end Tr
end Go.Proofs.Ytcdmijnlpapjaaa

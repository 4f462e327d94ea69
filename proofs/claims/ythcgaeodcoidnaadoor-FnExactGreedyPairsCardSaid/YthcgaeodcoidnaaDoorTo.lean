/- The laws' copies of what came in. -/
import Derived.Test.YthcgaeodcoidnaaDoorEnc
import Derived.OwnWalk
import Derived.WalkKit
import Derived.ProofKit
import Derived.BigQuiet
import Derived.Deep.QuietTactic
import Derived.Deep.RegionHeld3
import Derived.Lib.Hide
namespace Go.Proofs.YthcgaeodcoidnaaDoor
open Go.RowKit
namespace Tr
theorem h_toPair (x : GPair) (w : World) : Calls Tryd.prog 48 #[.agg #[.int .i64 x.A, .int .i64 x.B]] w fun e w' => e = .returned (.agg #[.int .i64 x.A, .int .i64 x.B]) ∧ Below w.heap.size w w' := by
  generalize x.A = y0 at *
  generalize x.B = y1 at *
  go_enter Tryd.func48, Tryd.ntmps48
  go_wp2
  refine bodyPost_ret (v := .agg #[.int .i64 y0, .int .i64 y1]) ?_ rfl ⟨rfl, ?_⟩
  · rw [results_c rfl]; go_simp
  · repeat' (first | exact Below.refl _ _ | refine Below.drew ?_ | refine Below.alloc ?_ (by simp <;> omega) _)
theorem info_Pair : (Tryd.prog.info? 60).map (fun i => (i.zero, i.size, i.bytes)) = some (some (.agg #[.int .i64 0, .int .i64 0]), 2, 16) := by kernel_rfl
theorem zero_Pair (w : World) : Own w (ePair ⟨0, 0⟩) [.int .i64 0, .int .i64 0] [] := ⟨_, rfl, ⟨_, rfl, ⟨rfl, rfl⟩⟩⟩
theorem h_toPairS (l : List GPair) (v : Value) (w : World) (h : Raw w (ePairS l) [v]) (hs : (ePairS l).sz ≤ 1000000000) :
    Calls Tryd.prog 29 #[v] w (OwnP1 (ePairS l) w) := by
  obtain ⟨A, n, cap, rfl, hn, _, hA⟩ := read_raw (E := ePair) (k := 2) h (fun _ => rfl) (by omega)
  have hl := sz_len hs
  have hn' : n ≤ 1000000000 := by omega
  have HA := Lib.hid hA
  have HN := Lib.hid hn
  have HS := Lib.hid hs
  clear h hA hn hs hl
  obtain ⟨i0, hi, hz0, hz1, hz2⟩ := info_parts info_Pair
  obtain ⟨B, hB⟩ : ∃ B, w.heap.size = B := ⟨_, rfl⟩
  go_enter Tryd.func29, Tryd.ntmps29
  go_wp2_with (at_make; refine wpList_make_full _ rfl _ _ 28 rfl B 60 i0 (.agg #[.int .i64 0, .int .i64 0]) 2 Tryd.underlying28 hi hz0 hz1 _ _ _ _ n rfl rfl rfl rfl (by rw [hz2]; omega) (by unfold maxLen; omega) (by rw [hB]; exact Nat.le_refl _) ?_)
  intro w1 hown hgrow
  have H0 := own_made (z := (ePair ⟨0, 0⟩)) (zc := [.int .i64 0, .int .i64 0]) (k := 2) (by exact hown) (zero_Pair w1) rfl (by omega) rfl
  have HB0 : Hid (Below w.heap.size w w1) := (Below.refl _ _).grown hgrow (Nat.le_refl _) (fun _ h => by cases h)
  rw [HN.out, ← fill_zero ePair (ePair ⟨0, 0⟩) l, ← HN.out] at H0
  have HO1 : Hid (∃ bs, Own w1 (rowC 60 2 (fillTo ePair (ePair ⟨0, 0⟩) l 0)) [.slice (some ⟨B, 0, none⟩) n n] bs ∧ bs.Nodup ∧ ∀ b ∈ bs, B ≤ b) := ⟨[B], H0, by simp, by simp⟩
  clear H0 hown hgrow
  go_wp2_with fail
  go_loopw [4] (fun c wr => ∃ (i : Nat), i ≤ n ∧ c = .int .i64 i ∧ Hid (∃ bs, Own wr (rowC 60 2 (fillTo ePair (ePair ⟨0, 0⟩) l i)) [.slice (some ⟨B, 0, none⟩) n n] bs ∧ bs.Nodup ∧ ∀ b ∈ bs, B ≤ b) ∧ Hid (Below w.heap.size w wr)) (fun c _ => n - (intOf c).toNat)
  case atStart => exact ⟨0, Nat.zero_le _, rfl, HO1.out, HB0.out⟩
  case round =>
    clear HO1 HB0
    obtain ⟨i, hi', rfl, HO, HBL⟩ := hrel
    by_cases hlt : (i : Int) < n
    · have hi0 : (0 : Int) ≤ i := by omega
      obtain ⟨g, o, x, us, rfl, hx, hus, hc, hr⟩ := HA.out i (by omega)
      have hsx := sz_elem HS.out hx
      obtain rfl := rinv_Pair hr
      have hc0 : wr.cell? ⟨g, o + i * 2, none⟩ = some (.int .i64 x.A) := cell_below HBL.out (hc 0 (by omega))
      have hc1 : wr.cell? ⟨g, o + i * 2 + 1, none⟩ = some (.int .i64 x.B) := cell_below HBL.out (hc 1 (by omega))
      have HC := Lib.hid (h_toPair x wr)
      clear hc hus hr hsx
      go_wp2_with fail
      refine HC.out.mono ?_
      rintro e w2 ⟨rfl, hbw⟩
      obtain ⟨bs, hob, hnd, hbB⟩ := HO.out
      have hlt2 := own_lt _ hob
      have hob2 := own_below hob hbw hlt2
      obtain ⟨g1, o1, cur, us1, e1, hgb, hg, hm, hset⟩ := fill_turn hob2 hnd hbB (fun _ => rfl) rfl hx
      simp only [Option.some.injEq, Addr.mk.injEq, and_true] at e1
      obtain ⟨rfl, rfl⟩ := e1
      simp only [Nat.zero_add] at hm hset
      have hul := hm.1
      match us1, hul, hm with
      | [z0, z1], _, hm =>
      have hk0 : w2.cell? ⟨B, i * 2, none⟩ = some z0 := (Mid.cell (m := i * 2) (k := 2) hm hg 0 (by omega))
      have hf0 := free_of_block hg (i * 2)
      have hg1 := block_set hg (i * 2) (.int .i64 x.A)
      have hm1 := Mid.set (k := 2) hm 0 (by omega) (.int .i64 x.A)
      have hk1 : (w2.setCell ⟨B, i * 2, none⟩ (.int .i64 x.A)).cell? ⟨B, i * 2 + 1, none⟩ = some z1 := (Mid.cell (m := i * 2) (k := 2) hm1 hg1 1 (by omega))
      have hf1 := free_of_block hg1 (i * 2 + 1)
      have hg2 := block_set hg1 (i * 2 + 1) (.int .i64 x.B)
      have hm2 := Mid.set (k := 2) hm1 1 (by omega) (.int .i64 x.B)
      have HO2 : Hid (∃ bs, Own ((w2.setCell ⟨B, i * 2, none⟩ (.int .i64 x.A)).setCell ⟨B, i * 2 + 1, none⟩ (.int .i64 x.B)) (rowC 60 2 (fillTo ePair (ePair ⟨0, 0⟩) l (i + 1))) [.slice (some ⟨B, 0, none⟩) n n] bs ∧ bs.Nodup ∧ ∀ b ∈ bs, B ≤ b) := hset _ _ _ [] hg2 hm2 (fun y hy1 hy => (Below.heap_setCell _ _ _ _ hy).trans (Below.heap_setCell _ _ _ _ hy)) ⟨_, rfl, _, rfl, rfl, rfl⟩ (List.nodup_nil) (fun y hy => by cases hy)
      have HB2 : Hid (Below w.heap.size w ((w2.setCell ⟨B, i * 2, none⟩ (.int .i64 x.A)).setCell ⟨B, i * 2 + 1, none⟩ (.int .i64 x.B))) := (Below.setCell (Below.setCell (below_step HBL.out hbw) (p := ⟨B, i * 2, none⟩) (by show _ ≤ B; omega) (.int .i64 x.A)) (p := ⟨B, i * 2 + 1, none⟩) (by show _ ≤ B; omega) (.int .i64 x.B))
      clear hset hm hm1 hm2 hg hg1 hg2 hob hob2 hnd hbB hlt2 hx hbw
      go_wp2
      go_roundw
      case rel => exact ⟨i + 1, by omega, by go_num, HO2.out, HB2.out⟩
      case measure => simp [intOf]; omega
    · obtain rfl : i = n := by omega
      have HF : Hid (Owned wr w.heap.size (ePairS l) [.slice (some ⟨B, 0, none⟩) i i]) := by
        show Owned _ _ _ _
        rw [hB]
        have := HO.out
        rw [show fillTo ePair (ePair ⟨0, 0⟩) l i = l.map ePair by rw [HN.out]; exact fill_all _ _ _] at this
        exact this
      go_wp2
      go_ret
      exact ⟨_, rfl, HF.out, HBL.out⟩
theorem h_toSpan (x : GSpan) (w : World) : Calls Tryd.prog 45 #[.agg #[.int .i64 x.Page, .int .i64 x.Class, .int .i64 x.Bits]] w fun e w' => e = .returned (.agg #[.int .i64 x.Page, .int .i64 x.Class, .int .i64 x.Bits]) ∧ Below w.heap.size w w' := by
  generalize x.Page = y0 at *
  generalize x.Class = y1 at *
  generalize x.Bits = y2 at *
  go_enter Tryd.func45, Tryd.ntmps45
  go_wp2
  refine bodyPost_ret (v := .agg #[.int .i64 y0, .int .i64 y1, .int .i64 y2]) ?_ rfl ⟨rfl, ?_⟩
  · rw [results_c rfl]; go_simp
  · repeat' (first | exact Below.refl _ _ | refine Below.drew ?_ | refine Below.alloc ?_ (by simp <;> omega) _)
theorem info_Span : (Tryd.prog.info? 38).map (fun i => (i.zero, i.size, i.bytes)) = some (some (.agg #[.int .i64 0, .int .i64 0, .int .i64 0]), 3, 24) := by kernel_rfl
theorem zero_Span (w : World) : Own w (eSpan ⟨0, 0, 0⟩) [.int .i64 0, .int .i64 0, .int .i64 0] [] := ⟨_, rfl, ⟨_, rfl, ⟨_, rfl, ⟨rfl, rfl⟩⟩⟩⟩
theorem h_toSpanS (l : List GSpan) (v : Value) (w : World) (h : Raw w (eSpanS l) [v]) (hs : (eSpanS l).sz ≤ 1000000000) :
    Calls Tryd.prog 21 #[v] w (OwnP1 (eSpanS l) w) := by
  obtain ⟨A, n, cap, rfl, hn, _, hA⟩ := read_raw (E := eSpan) (k := 3) h (fun _ => rfl) (by omega)
  have hl := sz_len hs
  have hn' : n ≤ 1000000000 := by omega
  have HA := Lib.hid hA
  have HN := Lib.hid hn
  have HS := Lib.hid hs
  clear h hA hn hs hl
  obtain ⟨i0, hi, hz0, hz1, hz2⟩ := info_parts info_Span
  obtain ⟨B, hB⟩ : ∃ B, w.heap.size = B := ⟨_, rfl⟩
  go_enter Tryd.func21, Tryd.ntmps21
  go_wp2_with (at_make; refine wpList_make_full _ rfl _ _ 24 rfl B 38 i0 (.agg #[.int .i64 0, .int .i64 0, .int .i64 0]) 3 Tryd.underlying24 hi hz0 hz1 _ _ _ _ n rfl rfl rfl rfl (by rw [hz2]; omega) (by unfold maxLen; omega) (by rw [hB]; exact Nat.le_refl _) ?_)
  intro w1 hown hgrow
  have H0 := own_made (z := (eSpan ⟨0, 0, 0⟩)) (zc := [.int .i64 0, .int .i64 0, .int .i64 0]) (k := 3) (by exact hown) (zero_Span w1) rfl (by omega) rfl
  have HB0 : Hid (Below w.heap.size w w1) := (Below.refl _ _).grown hgrow (Nat.le_refl _) (fun _ h => by cases h)
  rw [HN.out, ← fill_zero eSpan (eSpan ⟨0, 0, 0⟩) l, ← HN.out] at H0
  have HO1 : Hid (∃ bs, Own w1 (rowC 38 3 (fillTo eSpan (eSpan ⟨0, 0, 0⟩) l 0)) [.slice (some ⟨B, 0, none⟩) n n] bs ∧ bs.Nodup ∧ ∀ b ∈ bs, B ≤ b) := ⟨[B], H0, by simp, by simp⟩
  clear H0 hown hgrow
  go_wp2_with fail
  go_loopw [4] (fun c wr => ∃ (i : Nat), i ≤ n ∧ c = .int .i64 i ∧ Hid (∃ bs, Own wr (rowC 38 3 (fillTo eSpan (eSpan ⟨0, 0, 0⟩) l i)) [.slice (some ⟨B, 0, none⟩) n n] bs ∧ bs.Nodup ∧ ∀ b ∈ bs, B ≤ b) ∧ Hid (Below w.heap.size w wr)) (fun c _ => n - (intOf c).toNat)
  case atStart => exact ⟨0, Nat.zero_le _, rfl, HO1.out, HB0.out⟩
  case round =>
    clear HO1 HB0
    obtain ⟨i, hi', rfl, HO, HBL⟩ := hrel
    by_cases hlt : (i : Int) < n
    · have hi0 : (0 : Int) ≤ i := by omega
      obtain ⟨g, o, x, us, rfl, hx, hus, hc, hr⟩ := HA.out i (by omega)
      have hsx := sz_elem HS.out hx
      obtain rfl := rinv_Span hr
      have hc0 : wr.cell? ⟨g, o + i * 3, none⟩ = some (.int .i64 x.Page) := cell_below HBL.out (hc 0 (by omega))
      have hc1 : wr.cell? ⟨g, o + i * 3 + 1, none⟩ = some (.int .i64 x.Class) := cell_below HBL.out (hc 1 (by omega))
      have hc2 : wr.cell? ⟨g, o + i * 3 + 2, none⟩ = some (.int .i64 x.Bits) := cell_below HBL.out (hc 2 (by omega))
      have HC := Lib.hid (h_toSpan x wr)
      clear hc hus hr hsx
      go_wp2_with fail
      refine HC.out.mono ?_
      rintro e w2 ⟨rfl, hbw⟩
      obtain ⟨bs, hob, hnd, hbB⟩ := HO.out
      have hlt2 := own_lt _ hob
      have hob2 := own_below hob hbw hlt2
      obtain ⟨g1, o1, cur, us1, e1, hgb, hg, hm, hset⟩ := fill_turn hob2 hnd hbB (fun _ => rfl) rfl hx
      simp only [Option.some.injEq, Addr.mk.injEq, and_true] at e1
      obtain ⟨rfl, rfl⟩ := e1
      simp only [Nat.zero_add] at hm hset
      have hul := hm.1
      match us1, hul, hm with
      | [z0, z1, z2], _, hm =>
      have hk0 : w2.cell? ⟨B, i * 3, none⟩ = some z0 := (Mid.cell (m := i * 3) (k := 3) hm hg 0 (by omega))
      have hf0 := free_of_block hg (i * 3)
      have hg1 := block_set hg (i * 3) (.int .i64 x.Page)
      have hm1 := Mid.set (k := 3) hm 0 (by omega) (.int .i64 x.Page)
      have hk1 : (w2.setCell ⟨B, i * 3, none⟩ (.int .i64 x.Page)).cell? ⟨B, i * 3 + 1, none⟩ = some z1 := (Mid.cell (m := i * 3) (k := 3) hm1 hg1 1 (by omega))
      have hf1 := free_of_block hg1 (i * 3 + 1)
      have hg2 := block_set hg1 (i * 3 + 1) (.int .i64 x.Class)
      have hm2 := Mid.set (k := 3) hm1 1 (by omega) (.int .i64 x.Class)
      have hk2 : ((w2.setCell ⟨B, i * 3, none⟩ (.int .i64 x.Page)).setCell ⟨B, i * 3 + 1, none⟩ (.int .i64 x.Class)).cell? ⟨B, i * 3 + 2, none⟩ = some z2 := (Mid.cell (m := i * 3) (k := 3) hm2 hg2 2 (by omega))
      have hf2 := free_of_block hg2 (i * 3 + 2)
      have hg3 := block_set hg2 (i * 3 + 2) (.int .i64 x.Bits)
      have hm3 := Mid.set (k := 3) hm2 2 (by omega) (.int .i64 x.Bits)
      have HO2 : Hid (∃ bs, Own (((w2.setCell ⟨B, i * 3, none⟩ (.int .i64 x.Page)).setCell ⟨B, i * 3 + 1, none⟩ (.int .i64 x.Class)).setCell ⟨B, i * 3 + 2, none⟩ (.int .i64 x.Bits)) (rowC 38 3 (fillTo eSpan (eSpan ⟨0, 0, 0⟩) l (i + 1))) [.slice (some ⟨B, 0, none⟩) n n] bs ∧ bs.Nodup ∧ ∀ b ∈ bs, B ≤ b) := hset _ _ _ [] hg3 hm3 (fun y hy1 hy => (Below.heap_setCell _ _ _ _ hy).trans ((Below.heap_setCell _ _ _ _ hy).trans (Below.heap_setCell _ _ _ _ hy))) ⟨_, rfl, _, rfl, _, rfl, rfl, rfl⟩ (List.nodup_nil) (fun y hy => by cases hy)
      have HB2 : Hid (Below w.heap.size w (((w2.setCell ⟨B, i * 3, none⟩ (.int .i64 x.Page)).setCell ⟨B, i * 3 + 1, none⟩ (.int .i64 x.Class)).setCell ⟨B, i * 3 + 2, none⟩ (.int .i64 x.Bits))) := (Below.setCell (Below.setCell (Below.setCell (below_step HBL.out hbw) (p := ⟨B, i * 3, none⟩) (by show _ ≤ B; omega) (.int .i64 x.Page)) (p := ⟨B, i * 3 + 1, none⟩) (by show _ ≤ B; omega) (.int .i64 x.Class)) (p := ⟨B, i * 3 + 2, none⟩) (by show _ ≤ B; omega) (.int .i64 x.Bits))
      clear hset hm hm1 hm2 hm3 hg hg1 hg2 hg3 hob hob2 hnd hbB hlt2 hx hbw
      go_wp2
      go_roundw
      case rel => exact ⟨i + 1, by omega, by go_num, HO2.out, HB2.out⟩
      case measure => simp [intOf]; omega
    · obtain rfl : i = n := by omega
      have HF : Hid (Owned wr w.heap.size (eSpanS l) [.slice (some ⟨B, 0, none⟩) i i]) := by
        show Owned _ _ _ _
        rw [hB]
        have := HO.out
        rw [show fillTo eSpan (eSpan ⟨0, 0, 0⟩) l i = l.map eSpan by rw [HN.out]; exact fill_all _ _ _] at this
        exact this
      go_wp2
      go_ret
      exact ⟨_, rfl, HF.out, HBL.out⟩
end Tr
end Go.Proofs.YthcgaeodcoidnaaDoor

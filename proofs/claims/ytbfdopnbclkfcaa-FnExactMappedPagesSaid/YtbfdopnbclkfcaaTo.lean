/- The laws' copies of what came in. -/
import Derived.Test.YtbfdopnbclkfcaaEnc
import Derived.OwnWalk
import Derived.WalkKit
import Derived.ProofKit
import Derived.BigQuiet
import Derived.Deep.QuietTactic
import Derived.Deep.RegionHeld3
import Derived.Lib.Hide
namespace Go.Proofs.Ytbfdopnbclkfcaa
open Go.RowKit
namespace Tr
theorem h_toEntry (x : GEntry) (w : World) : Calls Try.prog 26 #[.agg #[.int .i64 x.Mode, .int .i64 x.Frame]] w fun e w' => e = .returned (.agg #[.int .i64 x.Mode, .int .i64 x.Frame]) ∧ Below w.heap.size w w' := by
  generalize x.Mode = y0 at *
  generalize x.Frame = y1 at *
  go_enter Try.func26, Try.ntmps26
  go_wp2
  refine bodyPost_ret (v := .agg #[.int .i64 y0, .int .i64 y1]) ?_ rfl ⟨rfl, ?_⟩
  · rw [results_c rfl]; go_simp
  · repeat' (first | exact Below.refl _ _ | refine Below.drew ?_ | refine Below.alloc ?_ (by simp <;> omega) _)
theorem info_Entry : (Try.prog.info? 33).map (fun i => (i.zero, i.size, i.bytes)) = some (some (.agg #[.int .i64 0, .int .i64 0]), 2, 16) := by kernel_rfl
theorem zero_Entry (w : World) : Own w (eEntry ⟨0, 0⟩) [.int .i64 0, .int .i64 0] [] := ⟨_, rfl, ⟨_, rfl, ⟨rfl, rfl⟩⟩⟩
theorem h_toEntryS (l : List GEntry) (v : Value) (w : World) (h : Raw w (eEntryS l) [v]) (hs : (eEntryS l).sz ≤ 1000000000) :
    Calls Try.prog 45 #[v] w (OwnP1 (eEntryS l) w) := by
  obtain ⟨A, n, cap, rfl, hn, _, hA⟩ := read_raw (E := eEntry) (k := 2) h (fun _ => rfl) (by omega)
  have hl := sz_len hs
  have hn' : n ≤ 1000000000 := by omega
  have HA := Lib.hid hA
  have HN := Lib.hid hn
  have HS := Lib.hid hs
  clear h hA hn hs hl
  obtain ⟨i0, hi, hz0, hz1, hz2⟩ := info_parts info_Entry
  obtain ⟨B, hB⟩ : ∃ B, w.heap.size = B := ⟨_, rfl⟩
  go_enter Try.func45, Try.ntmps45
  go_wp2_with (at_make; refine wpList_make_full _ rfl _ _ 26 rfl B 33 i0 (.agg #[.int .i64 0, .int .i64 0]) 2 Try.underlying26 hi hz0 hz1 _ _ _ _ n rfl rfl rfl rfl (by rw [hz2]; omega) (by unfold maxLen; omega) (by rw [hB]; exact Nat.le_refl _) ?_)
  intro w1 hown hgrow
  have H0 := own_made (z := (eEntry ⟨0, 0⟩)) (zc := [.int .i64 0, .int .i64 0]) (k := 2) (by exact hown) (zero_Entry w1) rfl (by omega) rfl
  have HB0 : Hid (Below w.heap.size w w1) := (Below.refl _ _).grown hgrow (Nat.le_refl _) (fun _ h => by cases h)
  rw [HN.out, ← fill_zero eEntry (eEntry ⟨0, 0⟩) l, ← HN.out] at H0
  have HO1 : Hid (∃ bs, Own w1 (rowC 33 2 (fillTo eEntry (eEntry ⟨0, 0⟩) l 0)) [.slice (some ⟨B, 0, none⟩) n n] bs ∧ bs.Nodup ∧ ∀ b ∈ bs, B ≤ b) := ⟨[B], H0, by simp, by simp⟩
  clear H0 hown hgrow
  go_wp2_with fail
  go_loopw [4] (fun c wr => ∃ (i : Nat), i ≤ n ∧ c = .int .i64 i ∧ Hid (∃ bs, Own wr (rowC 33 2 (fillTo eEntry (eEntry ⟨0, 0⟩) l i)) [.slice (some ⟨B, 0, none⟩) n n] bs ∧ bs.Nodup ∧ ∀ b ∈ bs, B ≤ b) ∧ Hid (Below w.heap.size w wr)) (fun c _ => n - (intOf c).toNat)
  case atStart => exact ⟨0, Nat.zero_le _, rfl, HO1.out, HB0.out⟩
  case round =>
    clear HO1 HB0
    obtain ⟨i, hi', rfl, HO, HBL⟩ := hrel
    by_cases hlt : (i : Int) < n
    · have hi0 : (0 : Int) ≤ i := by omega
      obtain ⟨g, o, x, us, rfl, hx, hus, hc, hr⟩ := HA.out i (by omega)
      have hsx := sz_elem HS.out hx
      obtain rfl := rinv_Entry hr
      have hc0 : wr.cell? ⟨g, o + i * 2, none⟩ = some (.int .i64 x.Mode) := cell_below HBL.out (hc 0 (by omega))
      have hc1 : wr.cell? ⟨g, o + i * 2 + 1, none⟩ = some (.int .i64 x.Frame) := cell_below HBL.out (hc 1 (by omega))
      have HC := Lib.hid (h_toEntry x wr)
      clear hc hus hr hsx
      go_wp2_with fail
      refine HC.out.mono ?_
      rintro e w2 ⟨rfl, hbw⟩
      obtain ⟨bs, hob, hnd, hbB⟩ := HO.out
      have hlt2 := own_lt _ hob
      have hob2 := own_below hob hbw hlt2
      obtain ⟨g1, o1, cur, us1, e1, hgb, hg, hm, hset⟩ := fill_turn hob2 hnd hbB (fun _ => rfl) rfl hx
      simp only [Option.some.injEq, Addr.mk.injEq, and_true] at e1
      obtain ⟨rfl, rfl⟩ := e1
      simp only [Nat.zero_add] at hm hset
      have hul := hm.1
      match us1, hul, hm with
      | [z0, z1], _, hm =>
      have hk0 : w2.cell? ⟨B, i * 2, none⟩ = some z0 := (Mid.cell (m := i * 2) (k := 2) hm hg 0 (by omega))
      have hf0 := free_of_block hg (i * 2)
      have hg1 := block_set hg (i * 2) (.int .i64 x.Mode)
      have hm1 := Mid.set (k := 2) hm 0 (by omega) (.int .i64 x.Mode)
      have hk1 : (w2.setCell ⟨B, i * 2, none⟩ (.int .i64 x.Mode)).cell? ⟨B, i * 2 + 1, none⟩ = some z1 := (Mid.cell (m := i * 2) (k := 2) hm1 hg1 1 (by omega))
      have hf1 := free_of_block hg1 (i * 2 + 1)
      have hg2 := block_set hg1 (i * 2 + 1) (.int .i64 x.Frame)
      have hm2 := Mid.set (k := 2) hm1 1 (by omega) (.int .i64 x.Frame)
      have HO2 : Hid (∃ bs, Own ((w2.setCell ⟨B, i * 2, none⟩ (.int .i64 x.Mode)).setCell ⟨B, i * 2 + 1, none⟩ (.int .i64 x.Frame)) (rowC 33 2 (fillTo eEntry (eEntry ⟨0, 0⟩) l (i + 1))) [.slice (some ⟨B, 0, none⟩) n n] bs ∧ bs.Nodup ∧ ∀ b ∈ bs, B ≤ b) := hset _ _ _ [] hg2 hm2 (fun y hy1 hy => (Below.heap_setCell _ _ _ _ hy).trans (Below.heap_setCell _ _ _ _ hy)) ⟨_, rfl, _, rfl, rfl, rfl⟩ (List.nodup_nil) (fun y hy => by cases hy)
      have HB2 : Hid (Below w.heap.size w ((w2.setCell ⟨B, i * 2, none⟩ (.int .i64 x.Mode)).setCell ⟨B, i * 2 + 1, none⟩ (.int .i64 x.Frame))) := (Below.setCell (Below.setCell (below_step HBL.out hbw) (p := ⟨B, i * 2, none⟩) (by show _ ≤ B; omega) (.int .i64 x.Mode)) (p := ⟨B, i * 2 + 1, none⟩) (by show _ ≤ B; omega) (.int .i64 x.Frame))
      clear hset hm hm1 hm2 hg hg1 hg2 hob hob2 hnd hbB hlt2 hx hbw
      go_wp2
      go_roundw
      case rel => exact ⟨i + 1, by omega, by go_num, HO2.out, HB2.out⟩
      case measure => simp [intOf]; omega
    · obtain rfl : i = n := by omega
      have HF : Hid (Owned wr w.heap.size (eEntryS l) [.slice (some ⟨B, 0, none⟩) i i]) := by
        show Owned _ _ _ _
        rw [hB]
        have := HO.out
        rw [show fillTo eEntry (eEntry ⟨0, 0⟩) l i = l.map eEntry by rw [HN.out]; exact fill_all _ _ _] at this
        exact this
      go_wp2
      go_ret
      exact ⟨_, rfl, HF.out, HBL.out⟩
theorem h_toTable (x : GTable) (c0 : Value) (w : World) (h : Raw w (eTable x) [c0]) (hs : (eTable x).sz ≤ 1000000000) :
    Calls Try.prog 24 #[.agg #[c0]] w (OwnPA (eTable x) w) := by
  have h0 := h
  rw [sz_Table] at hs
  obtain ⟨B, hB⟩ : ∃ B, w.heap.size = B := ⟨_, rfl⟩
  have hx0 : (((w.alloc (.cells #[c0] 43)).alloc (.cells #[.slice none 0 0] 28)).alloc (.cells #[.slice none 0 0] 28)).heap[B]? = some (.cells #[c0] 43 (0, 0)) := by rw [← hB]; exact (Below.heap_alloc _ _ _ (by simp; omega)).trans ((Below.heap_alloc _ _ _ (by simp)).trans (heap_alloc_new w _))
  have hx1 : (((w.alloc (.cells #[c0] 43)).alloc (.cells #[.slice none 0 0] 28)).alloc (.cells #[.slice none 0 0] 28)).heap[B + 1]? = some (.cells #[.slice none 0 0] 28 (0, 0)) := by rw [← hB]; have := heap_alloc_new (w.alloc (.cells #[c0] 43)) (.cells #[.slice none 0 0] 28); exact (Below.heap_alloc _ _ _ (by simp)).trans (by simpa using this)
  have hx2 : (((w.alloc (.cells #[c0] 43)).alloc (.cells #[.slice none 0 0] 28)).alloc (.cells #[.slice none 0 0] 28)).heap[B + 1 + 1]? = some (.cells #[.slice none 0 0] 28 (0, 0)) := by rw [← hB]; have := heap_alloc_new ((w.alloc (.cells #[c0] 43)).alloc (.cells #[.slice none 0 0] 28)) (.cells #[.slice none 0 0] 28); simpa using this
  have hb0 : Below w.heap.size w (((w.alloc (.cells #[c0] 43)).alloc (.cells #[.slice none 0 0] 28)).alloc (.cells #[.slice none 0 0] 28)) := (((Below.refl _ _).alloc (Nat.le_refl _) _).alloc (by simp) _).alloc (by simp; omega) _
  have hz0 : (((w.alloc (.cells #[c0] 43)).alloc (.cells #[.slice none 0 0] 28)).alloc (.cells #[.slice none 0 0] 28)).heap.size = B + 1 + 1 + 1 := by simp [hB]
  obtain ⟨w0, hw0⟩ : ∃ w0, (((w.alloc (.cells #[c0] 43)).alloc (.cells #[.slice none 0 0] 28)).alloc (.cells #[.slice none 0 0] 28)) = w0 := ⟨_, rfl⟩
  rw [hw0] at hx0 hx1 hx2 hb0 hz0
  have hz : B + 1 + 1 + 1 ≤ w0.heap.size := by omega
  have H0 : Hid (Raw w (eEntryS x.Entries) [c0]) := h0
  have HX0 := Lib.hid hx0
  have HX1 := Lib.hid hx1
  have HX2 := Lib.hid hx2
  have HBL := Lib.hid hb0
  have HW := Lib.hid hw0
  clear hx0 hx1 hx2 hb0 hw0 hz0 h0
  go_enter Try.func24, Try.ntmps24
  go_wp2_with fail
  rw [HW.out]
  clear HW
  have hsz0 : (eEntryS x.Entries).sz ≤ 1000000000 := by omega
  refine (h_toEntryS x.Entries c0 w0 (raw_below HBL.out _ H0.out) hsz0).mono ?_
  rintro e v1 ⟨d0, rfl, ⟨b0, o0, n0, l0⟩, hb0⟩
  obtain ⟨A0, m0, p0, rfl⟩ := own_slice o0
  have hx0 := (hb0.block B (by omega)).trans HX0.out
  have hx1 := (hb0.block (B + 1) (by omega)).trans HX1.out
  have hx2 := (hb0.block (B + 1 + 1) (by omega)).trans HX2.out
  have hbl := below_step HBL.out hb0
  have hzz := hb0.size
  have hd0 : ∀ y ∈ b0, B + 1 + 1 + 1 ≤ y := fun y hy => by have := l0 y hy; omega
  have hko0_0 : v1.cell? ⟨B + 1 + 1, 0, none⟩ = some (.slice none 0 0) := cell_of_block hx2 0
  have hfo0_0 := free_of_block hx2 0
  have hx2_0_0 : (v1.setCell ⟨B + 1 + 1, 0, none⟩ (.slice A0 m0 p0)).heap[B + 1 + 1]? = some (.cells #[.slice A0 m0 p0] 28 (0, 0)) := block_set hx2 0 (.slice A0 m0 p0)
  have hx0n : (v1.setCell ⟨B + 1 + 1, 0, none⟩ (.slice A0 m0 p0)).heap[B]? = _ := (Below.heap_setCell _ _ _ _ (by show B ≠ B + 1 + 1; omega)).trans hx0
  have hx1n : (v1.setCell ⟨B + 1 + 1, 0, none⟩ (.slice A0 m0 p0)).heap[B + 1]? = _ := (Below.heap_setCell _ _ _ _ (by show B + 1 ≠ B + 1 + 1; omega)).trans hx1
  have hbn := (Below.setCell hbl (p := ⟨B + 1 + 1, 0, none⟩) (by show _ ≤ B + 1 + 1; omega) (.slice A0 m0 p0))
  have hzn : B + 1 + 1 + 1 ≤ (v1.setCell ⟨B + 1 + 1, 0, none⟩ (.slice A0 m0 p0)).heap.size := by simp [World.setCell]; omega
  have o0n : Own (v1.setCell ⟨B + 1 + 1, 0, none⟩ (.slice A0 m0 p0)) _ _ b0 := own_same _ o0 (fun y hy => Below.heap_setCell _ _ _ _ (fun hh => by have h1 := hd0 y hy; have h2 : y = B + 1 + 1 := hh; omega))
  obtain ⟨w1, hwn⟩ : ∃ z, (v1.setCell ⟨B + 1 + 1, 0, none⟩ (.slice A0 m0 p0)) = z := ⟨_, rfl⟩
  rw [hwn] at hx0n hx1n hx2_0_0 hbn hzn o0n
  clear HX0 HX1 HX2 HBL hz
  have HX0 := Lib.hid hx0n
  have HX1 := Lib.hid hx1n
  have HX2 := Lib.hid hx2_0_0
  have HBL := Lib.hid hbn
  have hz := hzn
  have HWN := Lib.hid hwn
  have O0 := Lib.hid o0n
  clear hx0 hx1 hx2 hbl hzz hx0n hx1n hbn hzn hwn hb0 hx2_0_0 o0n o0 hsz0
  have hr0 : (v1.setCell ⟨B + 1 + 1, 0, none⟩ (.slice A0 m0 p0)).cell? ⟨B + 1 + 1, 0, none⟩ = some (.slice A0 m0 p0) := by rw [HWN.out]; exact cell_of_block HX2.out 0
  have hg0 : (v1.setCell ⟨B + 1 + 1, 0, none⟩ (.slice A0 m0 p0)).heap[B + 1]? = some (.cells #[.slice none 0 0] 28 (0, 0)) := by rw [HWN.out]; exact HX1.out
  have hkr0 : (v1.setCell ⟨B + 1 + 1, 0, none⟩ (.slice A0 m0 p0)).cell? ⟨B + 1, 0, none⟩ = some (.slice none 0 0) := cell_of_block hg0 0
  have hfr0 := free_of_block hg0 0
  have hg1 : ((v1.setCell ⟨B + 1 + 1, 0, none⟩ (.slice A0 m0 p0)).setCell ⟨B + 1, 0, none⟩ (.slice A0 m0 p0)).heap[B + 1]? = some (.cells #[.slice A0 m0 p0] 28 (0, 0)) := block_set hg0 0 (.slice A0 m0 p0)
  have HG := Lib.hid hg1
  have HBE : Hid (Below w.heap.size w ((v1.setCell ⟨B + 1 + 1, 0, none⟩ (.slice A0 m0 p0)).setCell ⟨B + 1, 0, none⟩ (.slice A0 m0 p0))) := (Below.setCell (by rw [HWN.out]; exact HBL.out : Below w.heap.size w (v1.setCell ⟨B + 1 + 1, 0, none⟩ (.slice A0 m0 p0))) (p := ⟨B + 1, 0, none⟩) (by show _ ≤ B + 1; omega) (.slice A0 m0 p0))
  have E0 : Hid (Own ((v1.setCell ⟨B + 1 + 1, 0, none⟩ (.slice A0 m0 p0)).setCell ⟨B + 1, 0, none⟩ (.slice A0 m0 p0)) (eEntryS x.Entries) [.slice A0 m0 p0] b0) := own_same _ (by rw [HWN.out]; exact O0.out : Own (v1.setCell ⟨B + 1 + 1, 0, none⟩ (.slice A0 m0 p0)) _ _ _) (fun y hy => Below.heap_setCell _ _ _ _ (fun hh => by have h1 := hd0 y hy; have h2 : y = B + 1 := hh; omega))
  clear hg0 hg1
  go_wp2
  refine ret_c rfl HG.out rfl Try.underlying28 rfl (by kernel_rfl) rfl ?_
  refine ⟨[.slice A0 m0 p0], rfl, ⟨b0, E0.out, ?_, ?_⟩, HBE.out⟩
  · exact n0
  · intro y hy
    rw [hB]
    rcases hy with hy
    · have := hd0 y hy; omega
end Tr
end Go.Proofs.Ytbfdopnbclkfcaa

/- The laws' copies of what came in. -/
import Derived.Test.YthkjbjgpdapnpaaEnc
import Derived.OwnWalk
import Derived.WalkKit
import Derived.ProofKit
import Derived.BigQuiet
import Derived.Deep.QuietTactic
import Derived.Deep.RegionHeld3
import Derived.Lib.Hide
namespace Go.Proofs.Ythkjbjgpdapnpaa
open Go.RowKit
namespace Tr
theorem info_Int : (Try.prog.info? 3).map (fun i => (i.zero, i.size, i.bytes)) = some (some (.int .i64 0), 1, 8) := by kernel_rfl
theorem zero_Int (w : World) : Own w (eI 0) [.int .i64 0] [] := ⟨_, rfl, ⟨rfl, rfl⟩⟩
theorem h_toIntS (l : List Int) (v : Value) (w : World) (h : Raw w (eIntS l) [v]) (hs : (eIntS l).sz ≤ 1000000000) :
    Calls Try.prog 12 #[v] w (OwnP1 (eIntS l) w) := by
  obtain ⟨A, n, cap, rfl, hn, _, hA⟩ := read_raw (E := eI) (k := 1) h (fun _ => rfl) (by omega)
  have hl := sz_len hs
  have hn' : n ≤ 1000000000 := by omega
  have HA := Lib.hid hA
  have HN := Lib.hid hn
  have HS := Lib.hid hs
  clear h hA hn hs hl
  obtain ⟨i0, hi, hz0, hz1, hz2⟩ := info_parts info_Int
  obtain ⟨B, hB⟩ : ∃ B, w.heap.size = B := ⟨_, rfl⟩
  go_enter Try.func12, Try.ntmps12
  go_wp2_with (at_make; refine wpList_make_full _ rfl _ _ 22 rfl B 3 i0 (.int .i64 0) 1 Try.underlying22 hi hz0 hz1 _ _ _ _ n rfl rfl rfl rfl (by rw [hz2]; omega) (by unfold maxLen; omega) (by rw [hB]; exact Nat.le_refl _) ?_)
  intro w1 hown hgrow
  have H0 := own_made (z := (eI 0)) (zc := [.int .i64 0]) (k := 1) (by rw [Nat.mul_one]; exact hown) (zero_Int w1) rfl (by omega) rfl
  have HB0 : Hid (Below w.heap.size w w1) := (Below.refl _ _).grown hgrow (Nat.le_refl _) (fun _ h => by cases h)
  rw [HN.out, ← fill_zero eI (eI 0) l, ← HN.out] at H0
  have HO1 : Hid (∃ bs, Own w1 (rowC 3 1 (fillTo eI (eI 0) l 0)) [.slice (some ⟨B, 0, none⟩) n n] bs ∧ bs.Nodup ∧ ∀ b ∈ bs, B ≤ b) := ⟨[B], H0, by simp, by simp⟩
  clear H0 hown hgrow
  go_wp2_with fail
  go_loopw [4] (fun c wr => ∃ (i : Nat), i ≤ n ∧ c = .int .i64 i ∧ Hid (∃ bs, Own wr (rowC 3 1 (fillTo eI (eI 0) l i)) [.slice (some ⟨B, 0, none⟩) n n] bs ∧ bs.Nodup ∧ ∀ b ∈ bs, B ≤ b) ∧ Hid (Below w.heap.size w wr)) (fun c _ => n - (intOf c).toNat)
  case atStart => exact ⟨0, Nat.zero_le _, rfl, HO1.out, HB0.out⟩
  case round =>
    clear HO1 HB0
    obtain ⟨i, hi', rfl, HO, HBL⟩ := hrel
    by_cases hlt : (i : Int) < n
    · have hi0 : (0 : Int) ≤ i := by omega
      obtain ⟨g, o, x, us, rfl, hx, hus, hc, hr⟩ := HA.out i (by omega)
      have hsx := sz_elem HS.out hx
      simp only [Nat.mul_one] at hc
      obtain rfl := rinv_Int hr
      have hc0 : wr.cell? ⟨g, o + i, none⟩ = some (.int .i64 x) := cell_below HBL.out (hc 0 (by omega))
      have hbw : Below wr.heap.size wr wr := Below.refl _ _
      obtain ⟨bs, hob, hnd, hbB⟩ := HO.out
      have hlt2 := own_lt _ hob
      have hob2 := own_below hob hbw hlt2
      obtain ⟨g1, o1, cur, us1, e1, hgb, hg, hm, hset⟩ := fill_turn hob2 hnd hbB (fun _ => rfl) rfl hx
      simp only [Option.some.injEq, Addr.mk.injEq, and_true] at e1
      obtain ⟨rfl, rfl⟩ := e1
      simp only [Nat.zero_add, Nat.mul_one] at hm hset
      have hul := hm.1
      match us1, hul, hm with
      | [z0], _, hm =>
      have hk0 : wr.cell? ⟨B, i, none⟩ = some z0 := (Mid.cell (m := i) (k := 1) hm hg 0 (by omega))
      have hf0 := free_of_block hg (i)
      have hg1 := block_set hg (i) (.int .i64 x)
      have hm1 := Mid.set (k := 1) hm 0 (by omega) (.int .i64 x)
      have HO2 : Hid (∃ bs, Own (wr.setCell ⟨B, i, none⟩ (.int .i64 x)) (rowC 3 1 (fillTo eI (eI 0) l (i + 1))) [.slice (some ⟨B, 0, none⟩) n n] bs ∧ bs.Nodup ∧ ∀ b ∈ bs, B ≤ b) := hset _ _ _ [] hg1 hm1 (fun y hy1 hy => Below.heap_setCell _ _ _ _ hy) ⟨_, rfl, rfl, rfl⟩ (List.nodup_nil) (fun y hy => by cases hy)
      have HB2 : Hid (Below w.heap.size w (wr.setCell ⟨B, i, none⟩ (.int .i64 x))) := (Below.setCell (below_step HBL.out hbw) (p := ⟨B, i, none⟩) (by show _ ≤ B; omega) (.int .i64 x))
      clear hset hm hm1 hg hg1 hob hob2 hnd hbB hlt2 hx hbw
      go_wp2
      go_roundw
      case rel => exact ⟨i + 1, by omega, by go_num, HO2.out, HB2.out⟩
      case measure => simp [intOf]; omega
    · obtain rfl : i = n := by omega
      have HF : Hid (Owned wr w.heap.size (eIntS l) [.slice (some ⟨B, 0, none⟩) i i]) := by
        show Owned _ _ _ _
        rw [hB]
        have := HO.out
        rw [show fillTo eI (eI 0) l i = l.map eI by rw [HN.out]; exact fill_all _ _ _] at this
        exact this
      go_wp2
      go_ret
      exact ⟨_, rfl, HF.out, HBL.out⟩
theorem h_toPlan (x : GPlan) (c0 : Value) (w : World) (h : Raw w (ePlan x) [.int .i64 x.Keep, .int .i64 x.Move, c0]) (hs : (ePlan x).sz ≤ 1000000000) :
    Calls Try.prog 8 #[.agg #[.int .i64 x.Keep, .int .i64 x.Move, c0]] w (OwnPA (ePlan x) w) := by
  obtain ⟨h0, ht0⟩ := raw_split h
  obtain ⟨h1, ht1⟩ := raw_split ht0
  have h2 := ht1
  rw [sz_Plan] at hs
  obtain ⟨B, hB⟩ : ∃ B, w.heap.size = B := ⟨_, rfl⟩
  have hx0 : (((w.alloc (.cells #[.int .i64 x.Keep, .int .i64 x.Move, c0] 24)).alloc (.cells #[.int .i64 0, .int .i64 0, .slice none 0 0] 27)).alloc (.cells #[.int .i64 x.Keep, .int .i64 x.Move, .slice none 0 0] 27)).heap[B]? = some (.cells #[.int .i64 x.Keep, .int .i64 x.Move, c0] 24 (0, 0)) := by rw [← hB]; exact (Below.heap_alloc _ _ _ (by simp; omega)).trans ((Below.heap_alloc _ _ _ (by simp)).trans (heap_alloc_new w _))
  have hx1 : (((w.alloc (.cells #[.int .i64 x.Keep, .int .i64 x.Move, c0] 24)).alloc (.cells #[.int .i64 0, .int .i64 0, .slice none 0 0] 27)).alloc (.cells #[.int .i64 x.Keep, .int .i64 x.Move, .slice none 0 0] 27)).heap[B + 1]? = some (.cells #[.int .i64 0, .int .i64 0, .slice none 0 0] 27 (0, 0)) := by rw [← hB]; have := heap_alloc_new (w.alloc (.cells #[.int .i64 x.Keep, .int .i64 x.Move, c0] 24)) (.cells #[.int .i64 0, .int .i64 0, .slice none 0 0] 27); exact (Below.heap_alloc _ _ _ (by simp)).trans (by simpa using this)
  have hx2 : (((w.alloc (.cells #[.int .i64 x.Keep, .int .i64 x.Move, c0] 24)).alloc (.cells #[.int .i64 0, .int .i64 0, .slice none 0 0] 27)).alloc (.cells #[.int .i64 x.Keep, .int .i64 x.Move, .slice none 0 0] 27)).heap[B + 1 + 1]? = some (.cells #[.int .i64 x.Keep, .int .i64 x.Move, .slice none 0 0] 27 (0, 0)) := by rw [← hB]; have := heap_alloc_new ((w.alloc (.cells #[.int .i64 x.Keep, .int .i64 x.Move, c0] 24)).alloc (.cells #[.int .i64 0, .int .i64 0, .slice none 0 0] 27)) (.cells #[.int .i64 x.Keep, .int .i64 x.Move, .slice none 0 0] 27); simpa using this
  have hb0 : Below w.heap.size w (((w.alloc (.cells #[.int .i64 x.Keep, .int .i64 x.Move, c0] 24)).alloc (.cells #[.int .i64 0, .int .i64 0, .slice none 0 0] 27)).alloc (.cells #[.int .i64 x.Keep, .int .i64 x.Move, .slice none 0 0] 27)) := (((Below.refl _ _).alloc (Nat.le_refl _) _).alloc (by simp) _).alloc (by simp; omega) _
  have hz0 : (((w.alloc (.cells #[.int .i64 x.Keep, .int .i64 x.Move, c0] 24)).alloc (.cells #[.int .i64 0, .int .i64 0, .slice none 0 0] 27)).alloc (.cells #[.int .i64 x.Keep, .int .i64 x.Move, .slice none 0 0] 27)).heap.size = B + 1 + 1 + 1 := by simp [hB]
  obtain ⟨w0, hw0⟩ : ∃ w0, (((w.alloc (.cells #[.int .i64 x.Keep, .int .i64 x.Move, c0] 24)).alloc (.cells #[.int .i64 0, .int .i64 0, .slice none 0 0] 27)).alloc (.cells #[.int .i64 x.Keep, .int .i64 x.Move, .slice none 0 0] 27)) = w0 := ⟨_, rfl⟩
  rw [hw0] at hx0 hx1 hx2 hb0 hz0
  have hz : B + 1 + 1 + 1 ≤ w0.heap.size := by omega
  have H2 : Hid (Raw w (eIntS x.Cells) [c0]) := h2
  have HX0 := Lib.hid hx0
  have HX1 := Lib.hid hx1
  have HX2 := Lib.hid hx2
  have HBL := Lib.hid hb0
  have HW := Lib.hid hw0
  clear hx0 hx1 hx2 hb0 hw0 hz0 h0 h1 h2
  go_enter Try.func8, Try.ntmps8
  go_wp2_with fail
  rw [HW.out]
  clear HW
  have hsz2 : (eIntS x.Cells).sz ≤ 1000000000 := by omega
  refine (h_toIntS x.Cells c0 w0 (raw_below HBL.out _ H2.out) hsz2).mono ?_
  rintro e v1 ⟨d2, rfl, ⟨b2, o2, n2, l2⟩, hb2⟩
  obtain ⟨A2, m2, p2, rfl⟩ := own_slice o2
  have hx0 := (hb2.block B (by omega)).trans HX0.out
  have hx1 := (hb2.block (B + 1) (by omega)).trans HX1.out
  have hx2 := (hb2.block (B + 1 + 1) (by omega)).trans HX2.out
  have hbl := below_step HBL.out hb2
  have hzz := hb2.size
  have hd2 : ∀ y ∈ b2, B + 1 + 1 + 1 ≤ y := fun y hy => by have := l2 y hy; omega
  have hko0_0 : v1.cell? ⟨B + 1 + 1, 2, none⟩ = some (.slice none 0 0) := cell_of_block hx2 2
  have hfo0_0 := free_of_block hx2 2
  have hx2_0_0 : (v1.setCell ⟨B + 1 + 1, 2, none⟩ (.slice A2 m2 p2)).heap[B + 1 + 1]? = some (.cells #[.int .i64 x.Keep, .int .i64 x.Move, .slice A2 m2 p2] 27 (0, 0)) := block_set hx2 2 (.slice A2 m2 p2)
  have hx0n : (v1.setCell ⟨B + 1 + 1, 2, none⟩ (.slice A2 m2 p2)).heap[B]? = _ := (Below.heap_setCell _ _ _ _ (by show B ≠ B + 1 + 1; omega)).trans hx0
  have hx1n : (v1.setCell ⟨B + 1 + 1, 2, none⟩ (.slice A2 m2 p2)).heap[B + 1]? = _ := (Below.heap_setCell _ _ _ _ (by show B + 1 ≠ B + 1 + 1; omega)).trans hx1
  have hbn := (Below.setCell hbl (p := ⟨B + 1 + 1, 2, none⟩) (by show _ ≤ B + 1 + 1; omega) (.slice A2 m2 p2))
  have hzn : B + 1 + 1 + 1 ≤ (v1.setCell ⟨B + 1 + 1, 2, none⟩ (.slice A2 m2 p2)).heap.size := by simp [World.setCell]; omega
  have o2n : Own (v1.setCell ⟨B + 1 + 1, 2, none⟩ (.slice A2 m2 p2)) _ _ b2 := own_same _ o2 (fun y hy => Below.heap_setCell _ _ _ _ (fun hh => by have h1 := hd2 y hy; have h2 : y = B + 1 + 1 := hh; omega))
  obtain ⟨w1, hwn⟩ : ∃ z, (v1.setCell ⟨B + 1 + 1, 2, none⟩ (.slice A2 m2 p2)) = z := ⟨_, rfl⟩
  rw [hwn] at hx0n hx1n hx2_0_0 hbn hzn o2n
  clear HX0 HX1 HX2 HBL hz
  have HX0 := Lib.hid hx0n
  have HX1 := Lib.hid hx1n
  have HX2 := Lib.hid hx2_0_0
  have HBL := Lib.hid hbn
  have hz := hzn
  have HWN := Lib.hid hwn
  have O2 := Lib.hid o2n
  clear hx0 hx1 hx2 hbl hzz hx0n hx1n hbn hzn hwn hb2 hx2_0_0 o2n o2 hsz2
  have hr0 : (v1.setCell ⟨B + 1 + 1, 2, none⟩ (.slice A2 m2 p2)).cell? ⟨B + 1 + 1, 0, none⟩ = some (.int .i64 x.Keep) := by rw [HWN.out]; exact cell_of_block HX2.out 0
  have hr1 : (v1.setCell ⟨B + 1 + 1, 2, none⟩ (.slice A2 m2 p2)).cell? ⟨B + 1 + 1, 1, none⟩ = some (.int .i64 x.Move) := by rw [HWN.out]; exact cell_of_block HX2.out 1
  have hr2 : (v1.setCell ⟨B + 1 + 1, 2, none⟩ (.slice A2 m2 p2)).cell? ⟨B + 1 + 1, 2, none⟩ = some (.slice A2 m2 p2) := by rw [HWN.out]; exact cell_of_block HX2.out 2
  have hg0 : (v1.setCell ⟨B + 1 + 1, 2, none⟩ (.slice A2 m2 p2)).heap[B + 1]? = some (.cells #[.int .i64 0, .int .i64 0, .slice none 0 0] 27 (0, 0)) := by rw [HWN.out]; exact HX1.out
  have hkr0 : (v1.setCell ⟨B + 1 + 1, 2, none⟩ (.slice A2 m2 p2)).cell? ⟨B + 1, 0, none⟩ = some (.int .i64 0) := cell_of_block hg0 0
  have hfr0 := free_of_block hg0 0
  have hg1 : ((v1.setCell ⟨B + 1 + 1, 2, none⟩ (.slice A2 m2 p2)).setCell ⟨B + 1, 0, none⟩ (.int .i64 x.Keep)).heap[B + 1]? = some (.cells #[.int .i64 x.Keep, .int .i64 0, .slice none 0 0] 27 (0, 0)) := block_set hg0 0 (.int .i64 x.Keep)
  have hkr1 : ((v1.setCell ⟨B + 1 + 1, 2, none⟩ (.slice A2 m2 p2)).setCell ⟨B + 1, 0, none⟩ (.int .i64 x.Keep)).cell? ⟨B + 1, 1, none⟩ = some (.int .i64 0) := cell_of_block hg1 1
  have hfr1 := free_of_block hg1 1
  have hg2 : (((v1.setCell ⟨B + 1 + 1, 2, none⟩ (.slice A2 m2 p2)).setCell ⟨B + 1, 0, none⟩ (.int .i64 x.Keep)).setCell ⟨B + 1, 1, none⟩ (.int .i64 x.Move)).heap[B + 1]? = some (.cells #[.int .i64 x.Keep, .int .i64 x.Move, .slice none 0 0] 27 (0, 0)) := block_set hg1 1 (.int .i64 x.Move)
  have hkr2 : (((v1.setCell ⟨B + 1 + 1, 2, none⟩ (.slice A2 m2 p2)).setCell ⟨B + 1, 0, none⟩ (.int .i64 x.Keep)).setCell ⟨B + 1, 1, none⟩ (.int .i64 x.Move)).cell? ⟨B + 1, 2, none⟩ = some (.slice none 0 0) := cell_of_block hg2 2
  have hfr2 := free_of_block hg2 2
  have hg3 : ((((v1.setCell ⟨B + 1 + 1, 2, none⟩ (.slice A2 m2 p2)).setCell ⟨B + 1, 0, none⟩ (.int .i64 x.Keep)).setCell ⟨B + 1, 1, none⟩ (.int .i64 x.Move)).setCell ⟨B + 1, 2, none⟩ (.slice A2 m2 p2)).heap[B + 1]? = some (.cells #[.int .i64 x.Keep, .int .i64 x.Move, .slice A2 m2 p2] 27 (0, 0)) := block_set hg2 2 (.slice A2 m2 p2)
  have HG := Lib.hid hg3
  have HBE : Hid (Below w.heap.size w ((((v1.setCell ⟨B + 1 + 1, 2, none⟩ (.slice A2 m2 p2)).setCell ⟨B + 1, 0, none⟩ (.int .i64 x.Keep)).setCell ⟨B + 1, 1, none⟩ (.int .i64 x.Move)).setCell ⟨B + 1, 2, none⟩ (.slice A2 m2 p2))) := (Below.setCell (Below.setCell (Below.setCell (by rw [HWN.out]; exact HBL.out : Below w.heap.size w (v1.setCell ⟨B + 1 + 1, 2, none⟩ (.slice A2 m2 p2))) (p := ⟨B + 1, 0, none⟩) (by show _ ≤ B + 1; omega) (.int .i64 x.Keep)) (p := ⟨B + 1, 1, none⟩) (by show _ ≤ B + 1; omega) (.int .i64 x.Move)) (p := ⟨B + 1, 2, none⟩) (by show _ ≤ B + 1; omega) (.slice A2 m2 p2))
  have E2 : Hid (Own ((((v1.setCell ⟨B + 1 + 1, 2, none⟩ (.slice A2 m2 p2)).setCell ⟨B + 1, 0, none⟩ (.int .i64 x.Keep)).setCell ⟨B + 1, 1, none⟩ (.int .i64 x.Move)).setCell ⟨B + 1, 2, none⟩ (.slice A2 m2 p2)) (eIntS x.Cells) [.slice A2 m2 p2] b2) := own_same _ (by rw [HWN.out]; exact O2.out : Own (v1.setCell ⟨B + 1 + 1, 2, none⟩ (.slice A2 m2 p2)) _ _ _) (fun y hy => (Below.heap_setCell _ _ _ _ (fun hh => by have h1 := hd2 y hy; have h2 : y = B + 1 := hh; omega)).trans ((Below.heap_setCell _ _ _ _ (fun hh => by have h1 := hd2 y hy; have h2 : y = B + 1 := hh; omega)).trans (Below.heap_setCell _ _ _ _ (fun hh => by have h1 := hd2 y hy; have h2 : y = B + 1 := hh; omega))))
  clear hg0 hg1 hg2 hg3
  go_wp2
  refine ret_c rfl HG.out rfl Try.underlying27 rfl (by kernel_rfl) rfl ?_
  refine ⟨[.int .i64 x.Keep, .int .i64 x.Move, .slice A2 m2 p2], rfl, ⟨b2, (own_app _ _).2 ⟨[.int .i64 x.Keep], [.int .i64 x.Move, .slice A2 m2 p2], [], b2, rfl, by simp, ⟨_, rfl, rfl, rfl⟩, (own_app _ _).2 ⟨[.int .i64 x.Move], [.slice A2 m2 p2], [], b2, rfl, by simp, ⟨_, rfl, rfl, rfl⟩, E2.out⟩⟩, ?_, ?_⟩, HBE.out⟩
  · exact n2
  · intro y hy
    rw [hB]
    rcases hy with hy
    · have := hd2 y hy; omega
end Tr
end Go.Proofs.Ythkjbjgpdapnpaa

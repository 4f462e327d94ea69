/- The drawn tables (spec.l06Case). -/
import Derived.Test.YtkmkpjpopobdbaaDoorS06
import Derived.Test.YtkmkpjpopobdbaaDoorDraw
import Derived.Test.YtkmkpjpopobdbaaDoorDrawFrames
import Derived.Deep.RegionHeld3
namespace Go.Proofs.YtkmkpjpopobdbaaDoor
open Go.RowKit
set_option linter.unusedVariables false
namespace Tr
/-- a drawn table over so many frames -/
def tabOk (frames : Int) (t : GTable) : Prop := (1 ≤ t.Entries.length ∧ t.Entries.length ≤ 8) ∧ ∀ e ∈ t.Entries, okE frames e
def TabP (frames : Int) (w : World) (k : Nat) (a : Option Addr) (len cap : Nat) (zs : List Int) (e : Ending) (w' : World) : Prop :=
  ∃ t us, tabOk frames t ∧ e = .returned (.agg us.toArray) ∧ Owned w' w.heap.size (eTable t) us ∧ Dr.Step w w' k a len cap zs
theorem okE_set {frames : Int} {l : List GEntry} (h : ∀ e ∈ l, okE frames e) (i : Nat) {x : GEntry} (hx : okE frames x) : ∀ e ∈ l.set i x, okE frames e := by
  intro e he
  rcases List.mem_or_eq_of_mem_set he with he | rfl
  · exact h e he
  · exact hx
set_option maxHeartbeats 1000000 in
theorem tabCase {w : World} {k : Nat} {a : Option Addr} {len cap : Nat} {zs : List Int} (hs : Dr.Src w k a len cap zs) (frames : Int) (hf1 : 1 ≤ frames) (hf2 : frames ≤ 32) :
    Calls Tryd.prog 55 #[.pointer (some ⟨k, 0, none⟩), .int .i64 frames] w (TabP frames w k a len cap zs) := by
  have hkw := hs.lt
  have HS := Lib.hid hs
  clear hs
  obtain ⟨B, hs_B⟩ : ∃ B, w.heap.size = B := ⟨_, rfl⟩
  have hzo_ := hs_B
  have hx_ : (w.alloc (.cells #[.slice none 0 0] 30)).heap[B]? = some (.cells #[.slice none 0 0] 30 (0, 0)) := by rw [← hzo_]; exact heap_alloc_new w _
  have hb_ : Below w.heap.size w (w.alloc (.cells #[.slice none 0 0] 30)) := (Below.refl _ _).alloc (Nat.le_refl _) _
  have hz_ : (w.alloc (.cells #[.slice none 0 0] 30)).heap.size = B + 1 := by simp [hzo_]
  obtain ⟨w0, hw_⟩ : ∃ z, (w.alloc (.cells #[.slice none 0 0] 30)) = z := ⟨_, rfl⟩
  rw [hw_] at hx_ hb_ hz_
  have HX_w0 := Lib.hid hx_
  have HB_w0 := Lib.hid hb_
  have HW_w0 := Lib.hid hw_
  have hz_w0 := Lib.hid hz_
  clear hx_ hb_ hw_ hz_ hzo_
  have hST0 : Dr.Step w w0 k a len cap zs := by rw [← HW_w0.out]; exact HS.out.refl.alloc _
  have HST0 := Lib.hid hST0
  clear hST0
  go_enter Tryd.func55, Tryd.ntmps55
  go_wp2_with fail
  rw [HW_w0.out]
  refine (Dr.below HST0.out.src 8).mono ?_
  rintro e w1 ⟨x, hx0, hx1, _, rfl, hst⟩
  have hx8 : x < 8 := hx1 (by omega)
  have HST1 := Lib.hid (HST0.out.trans hst)
  have HXB1 := Lib.hid (block_step HX_w0.out hst (by omega))
  clear hx1 hst
  obtain ⟨q, rfl⟩ := Int.eq_ofNat_of_zero_le hx0
  obtain ⟨N, hq⟩ : ∃ N : Nat, (1 : Int) + (q : Int) = (N : Int) := ⟨q + 1, by omega⟩
  have hN1 : 1 ≤ N := by omega
  have hN8 : N ≤ 8 := by omega
  have HQ := Lib.hid hq
  clear hq
  go_wp2_with fail
  rw [HQ.out]
  have hpf : pTableNew (N : Int) = (⟨List.replicate N ⟨0, 0⟩⟩, true) := by
    unfold pTableNew; rw [if_pos (by omega), Int.toNat_natCast]
  have HCALL := Lib.hid (spec_TableNew (N : Int) w1 (by unfold okI; omega))
  rw [hpf] at HCALL
  clear hpf
  refine HCALL.out.mono ?_
  rintro e w2 ⟨us, rfl, hown, hb2⟩
  obtain ⟨t0, ht0⟩ : ∃ t0, (⟨List.replicate N ⟨0, 0⟩⟩ : GTable) = t0 := ⟨_, rfl⟩
  have hlt0 : t0.Entries.length = N := by rw [← ht0]; exact List.length_replicate
  have hok0 : ∀ e ∈ t0.Entries, okE frames e := by
    rw [← ht0]
    intro e he
    rw [(List.mem_replicate.1 he).2]
    exact .inl ⟨rfl, rfl⟩
  have hown' : Owned w2 w1.heap.size (eTable t0) us := by rw [← ht0]; exact hown
  have hsh := hown'
  obtain ⟨bs2, hsh, _⟩ := hsh
  obtain ⟨A3, n3, cap3, rfl⟩ := sinv_Table hsh
  obtain rfl : N = n3 := by
    have h1 := (own_cells hsh (len_map (E := eEntry) (k := 2) (fun _ => rfl))).1
    rw [List.length_map] at h1
    omega
  obtain ⟨C, hs_C⟩ : ∃ B, w2.heap.size = B := ⟨_, rfl⟩
  have hzo_ := hs_C
  have hx_ : (w2.alloc (.cells #[.slice A3 N cap3] 30)).heap[C]? = some (.cells #[.slice A3 N cap3] 30 (0, 0)) := by rw [← hzo_]; exact heap_alloc_new w2 _
  have hb_ : Below w2.heap.size w2 (w2.alloc (.cells #[.slice A3 N cap3] 30)) := (Below.refl _ _).alloc (Nat.le_refl _) _
  have hz_ : (w2.alloc (.cells #[.slice A3 N cap3] 30)).heap.size = C + 1 := by simp [hzo_]
  obtain ⟨w3, hw_⟩ : ∃ z, (w2.alloc (.cells #[.slice A3 N cap3] 30)) = z := ⟨_, rfl⟩
  rw [hw_] at hx_ hb_ hz_
  have HX_w3 := Lib.hid hx_
  have HB_w3 := Lib.hid hb_
  have HW_w3 := Lib.hid hw_
  have hz_w3 := Lib.hid hz_
  clear hx_ hb_ hw_ hz_ hzo_
  have hB1 : B + 1 ≤ w1.heap.size := by have := HST1.out.grown.size; have := lt_of_block HXB1.out; omega
  have hHST3 : Dr.Step w w3 k a len cap zs := step_below HST1.out (below_step hb2 HB_w3.out) hkw
  have HST3 := Lib.hid hHST3
  have HO3 := Lib.hid ((hown'.below HB_w3.out).mono hB1)
  have HXB3 := Lib.hid (((below_step hb2 HB_w3.out).block B (lt_of_block HXB1.out)).trans HXB1.out)
  have hBC : B + 1 ≤ C := by have := hb2.size; omega
  have HL0 := Lib.hid hlt0
  have HOK0 := Lib.hid hok0
  clear hsh hlt0 hok0 hown hown' hb2 hHST3 ht0 HCALL
  go_wp2_with fail
  rw [HW_w3.out]
  go_loopw [7] (fun c wr => ∃ (i : Nat) (t : GTable), i ≤ N ∧ c = .int .i64 i ∧ Hid (t.Entries.length = N) ∧ Hid (∀ e ∈ t.Entries, okE frames e) ∧ Hid (Owned wr (B + 1) (eTable t) [.slice A3 N cap3]) ∧ Hid (wr.heap[B]? = some (.cells #[.slice none 0 0] 30 (0, 0))) ∧ Hid (wr.heap[C]? = some (.cells #[.slice A3 N cap3] 30 (0, 0))) ∧ Hid (Dr.Step w wr k a len cap zs)) (fun c _ => N - (intOf c).toNat)
  case atStart => exact ⟨0, t0, Nat.zero_le _, rfl, HL0.out, HOK0.out, HO3.out, HXB3.out, HX_w3.out, HST3.out⟩
  case round =>
    obtain ⟨i, t, hi, rfl, HL, HOK, HO, HXB, HXC, HT⟩ := hrel
    have hcC : wr.cell? ⟨C, 0, none⟩ = some (.slice A3 N cap3) := cell_of_block HXC.out 0
    by_cases hlt : (i : Int) < (N : Int)
    · have hi0 : (0 : Int) ≤ i := by omega
      have hiq : i < N := by omega
      have hkB : k < B + 1 := by omega
      have hkC : C ≠ k := by omega
      go_wp2_with fail
      refine (Dr.once HT.out.src 3).mono ?_
      rintro e w4 ⟨b, rfl, hst⟩
      have HO4 := Lib.hid (owned_step HO.out hst hkB)
      have HXB4 := Lib.hid (block_step HXB.out hst (by omega))
      have HXC4 := Lib.hid (block_step HXC.out hst hkC)
      have HT4 := Lib.hid (HT.out.trans hst)
      have hcC4 : w4.cell? ⟨C, 0, none⟩ = some (.slice A3 N cap3) := cell_of_block HXC4.out 0
      clear hst hcC
      cases b with
      | true =>
        go_wp2
        go_roundw
        case rel => exact ⟨i + 1, t, by omega, by go_num, HL.out, HOK.out, HO4.out, HXB4.out, HXC4.out, HT4.out⟩
        case measure => simp [intOf]; omega
      | false =>
        obtain ⟨g, o, _, _, e1, hgB, _⟩ := owned_store HO4.out (E := eEntry) (k := 2) (T := 39) (l := t.Entries) (fun _ => rfl) hiq ⟨0, 0⟩ (us' := [.int .i64 0, .int .i64 0]) (fun w' => ⟨_, rfl, _, rfl, rfl, rfl⟩)
        subst e1
        have hsrc4 : Dr.Src w4.drew k a len cap zs := HT4.out.src.of_block (fun j hj => rfl)
        have htd4 : Dr.Step w w4.drew k a len cap zs := ⟨⟨HT4.out.grown.os, HT4.out.grown.tape, HT4.out.grown.output, HT4.out.grown.size, HT4.out.grown.block⟩, hsrc4⟩
        have HSRC4 := Lib.hid hsrc4
        have HTD4 := Lib.hid htd4
        have HOD4 := Lib.hid (HO4.out.below ((Below.refl _ _).drew))
        have HKEEP : Hid (∀ w', Dr.Step w4.drew w' k a len cap zs → w'.cell? ⟨C, 0, none⟩ = some (.slice (some ⟨g, o, none⟩) N cap3)) := fun w' st => cell_of_block (block_step (w := w4.drew) HXC4.out st hkC) 0
        have hS4 := HKEEP.out w4.drew hsrc4.refl
        have HFIN : Hid (∀ w7 (md fr : Int), Dr.Step w4.drew w7 k a len cap zs → (md = 1 ∨ md = 2) → 0 ≤ fr → fr < frames → ∃ z0 z1, w7.cell? ⟨g, o + i * 2, none⟩ = some z0 ∧ w7.frozen? ⟨g, o + i * 2, none⟩ = false ∧
            (w7.setCell ⟨g, o + i * 2, none⟩ (.int .i64 md)).cell? ⟨g, o + i * 2 + 1, none⟩ = some z1 ∧ (w7.setCell ⟨g, o + i * 2, none⟩ (.int .i64 md)).frozen? ⟨g, o + i * 2 + 1, none⟩ = false ∧
            (w7.setCell ⟨g, o + i * 2, none⟩ (.int .i64 md)).cell? ⟨C, 0, none⟩ = some (.slice (some ⟨g, o, none⟩) N cap3) ∧
            ((w7.setCell ⟨g, o + i * 2, none⟩ (.int .i64 md)).setCell ⟨g, o + i * 2 + 1, none⟩ (.int .i64 fr)).cell? ⟨C, 0, none⟩ = some (.slice (some ⟨g, o, none⟩) N cap3) ∧
            Hid (((w7.setCell ⟨g, o + i * 2, none⟩ (.int .i64 md)).setCell ⟨g, o + i * 2 + 1, none⟩ (.int .i64 fr)).heap[C]? = some (.cells #[.slice (some ⟨g, o, none⟩) N cap3] 30 (0, 0))) ∧
            Hid (Owned ((w7.setCell ⟨g, o + i * 2, none⟩ (.int .i64 md)).setCell ⟨g, o + i * 2 + 1, none⟩ (.int .i64 fr)) (B + 1) (eTable ⟨t.Entries.set i ⟨md, fr⟩⟩) [.slice (some ⟨g, o, none⟩) N cap3]) ∧
            Hid (((w7.setCell ⟨g, o + i * 2, none⟩ (.int .i64 md)).setCell ⟨g, o + i * 2 + 1, none⟩ (.int .i64 fr)).heap[B]? = some (.cells #[.slice none 0 0] 30 (0, 0))) ∧
            Hid (Dr.Step w ((w7.setCell ⟨g, o + i * 2, none⟩ (.int .i64 md)).setCell ⟨g, o + i * 2 + 1, none⟩ (.int .i64 fr)) k a len cap zs) ∧
            Hid (∀ e ∈ t.Entries.set i ⟨md, fr⟩, okE frames e)) := by
          intro w7 md fr hst hmd hfr0 hfr1
          have ho7 := owned_step HOD4.out hst hkB
          obtain ⟨g', o', cur, us, e1, hgB', hg, hm, hset⟩ := owned_store ho7 (E := eEntry) (k := 2) (T := 39) (l := t.Entries) (fun _ => rfl) hiq ⟨md, fr⟩ (us' := [.int .i64 md, .int .i64 fr]) (fun w' => ⟨_, rfl, _, rfl, rfl, rfl⟩)
          obtain ⟨rfl, rfl⟩ : g = g' ∧ o = o' := by simpa using e1
          have hul := hm.1
          match us, hul, hm with
          | [z0, z1], _, hm =>
          have hxC : w7.heap[C]? = _ := block_step (w := w4.drew) HXC4.out hst hkC
          have hxB : w7.heap[B]? = _ := block_step (w := w4.drew) HXB4.out hst (by omega)
          have hgC : g ≠ C := by
            intro hh
            rw [hh] at hg
            rw [hg] at hxC
            have := (Option.some.inj hxC)
            simp at this
          have hg1 := block_set hg (o + i * 2) (.int .i64 md)
          have hm1 := Mid.set (k := 2) hm 0 (by omega) (.int .i64 md)
          have hg2 := block_set hg1 (o + i * 2 + 1) (.int .i64 fr)
          have hm2 := Mid.set (k := 2) hm1 1 (by omega) (.int .i64 fr)
          have hfar : ∀ y, y ≠ g → ((w7.setCell ⟨g, o + i * 2, none⟩ (.int .i64 md)).setCell ⟨g, o + i * 2 + 1, none⟩ (.int .i64 fr)).heap[y]? = w7.heap[y]? := fun y hy => (Below.heap_setCell _ _ _ _ hy).trans (Below.heap_setCell _ _ _ _ hy)
          have hxC1 := (Below.heap_setCell w7 ⟨g, o + i * 2, none⟩ (.int .i64 md) C (by show C ≠ g; omega)).trans hxC
          exact ⟨z0, z1, Mid.cell (m := o + i * 2) (k := 2) hm hg 0 (by omega), free_of_block hg _, Mid.cell (m := o + i * 2) (k := 2) hm1 hg1 1 (by omega), free_of_block hg1 _, cell_of_block hxC1 0, cell_of_block ((hfar C (by omega)).trans hxC) 0, (hfar C (by omega)).trans hxC, hset _ _ hg2 hm2 hfar, (hfar B (by omega)).trans hxB,
            step_set (p := ⟨g, o + i * 2 + 1, none⟩) (step_set (p := ⟨g, o + i * 2, none⟩) (HTD4.out.trans hst) (by show w.heap.size ≤ g; omega) hkw (.int .i64 md)) (by show w.heap.size ≤ g; omega) hkw (.int .i64 fr),
            okE_set HOK.out i (.inr ⟨hmd, hfr0, hfr1⟩)⟩
        clear hsrc4 htd4 hcC4
        have hcC4 : w4.cell? ⟨C, 0, none⟩ = some (.slice (some ⟨g, o, none⟩) N cap3) := cell_of_block HXC4.out 0
        go_wp2_with fail
        go_region_held3 (fun w' => w'.cell? ⟨C, 0, none⟩ = some (.slice (some ⟨g, o, none⟩) N cap3)) (first | exact hS4 | exact hS6 | exact hS7 | exact hS8 | exact hS9) (first | (go_at_call 29; refine (Dr.below hst6.src frames).mono ?_; rintro e w7 ⟨y2, hy20, hy21, _, rfl, hst7⟩; have hS7 := HKEEP.out w7 (hst6.trans hst7); have hy2k : y2 < frames := hy21 (by omega); obtain ⟨z0, z1, k0, k1, k2, k3, hS8, hS9, HXC8, HO8, HXB8, HT8, HOK8⟩ := HFIN.out w7 md y2 (hst6.trans hst7) hmd hy20 hy2k) | (go_at_call 29; refine (Dr.below HSRC4.out 2).mono ?_; rintro e w6 ⟨y1, hy10, hy11, _, rfl, hst6⟩; have hy12 : y1 < 2 := hy11 (by omega); have hS6 := HKEEP.out w6 hst6; obtain ⟨md, hmde⟩ : ∃ md, IntKind.i64.wrap (1 + y1) = md := ⟨_, rfl⟩; have hmd : md = 1 ∨ md = 2 := (by rw [IntKind.wrap_i64] at hmde; omega)))
        have HLS : Hid ((t.Entries.set i ⟨md, y2⟩).length = N) := by show _ = _; rw [List.length_set]; exact HL.out
        clear hS4 hS6 hS7 hS8 hS9 hst6 hst7 k0 k1 k2 k3 hmde
        go_wp2
        go_roundw
        case rel => exact ⟨i + 1, ⟨t.Entries.set i ⟨md, y2⟩⟩, by omega, by go_num, HLS.out, HOK8.out, HO8.out, HXB8.out, HXC8.out, HT8.out⟩
        case measure => simp [intOf]; omega
    · obtain rfl : N = i := by omega
      have hk0 : wr.cell? ⟨B, 0, none⟩ = some (.slice none 0 0) := cell_of_block HXB.out 0
      have hf0 := free_of_block HXB.out 0
      have HG := Lib.hid (block_set HXB.out 0 (.slice A3 N cap3))
      have HE := Lib.hid ((HO.out.setCell (p := ⟨B, 0, none⟩) (by show B < B + 1; omega) (.slice A3 N cap3)).mono (B' := w.heap.size) (by omega))
      have HTE := Lib.hid (step_set (p := ⟨B, 0, none⟩) HT.out (by show w.heap.size ≤ B; omega) hkw (.slice A3 N cap3))
      go_wp2
      refine ret_c rfl HG.out rfl Tryd.underlying30 rfl sizeT rfl ?_
      exact ⟨t, [_], ⟨⟨by have := HL.out; omega, by have := HL.out; omega⟩, HOK.out⟩, rfl, HE.out, HTE.out⟩
end Tr
end Go.Proofs.YtkmkpjpopobdbaaDoor

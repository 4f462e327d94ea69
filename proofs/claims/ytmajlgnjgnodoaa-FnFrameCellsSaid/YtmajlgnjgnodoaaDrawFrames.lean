/- The drawn frames (spec.l05Case). -/
import Derived.Test.YtmajlgnjgnodoaaS05n
import Derived.Test.YtmajlgnjgnodoaaM05b
import Derived.Test.YtmajlgnjgnodoaaDraw
import Derived.Deep.RegionHeld3
namespace Go.Proofs.Ytmajlgnjgnodoaa
open Go.RowKit
set_option linter.unusedVariables false
namespace Tr
theorem owned_step {w w' : World} {k : Nat} {a : Option Addr} {len cap : Nat} {zs : List Int} {B : Nat} {d : D} {vs : List Value} (h : Owned w B d vs) (s : Dr.Step w w' k a len cap zs) (hk : k < B) : Owned w' B d vs := by
  obtain ⟨bs, h1, h2, h3⟩ := h
  exact ⟨bs, own_same _ h1 (fun b hb => s.grown.block b (own_lt _ h1 b hb) (fun e => by have := h3 b hb; have := Option.some.inj e; omega)), h2, h3⟩
theorem block_step {w w' : World} {k : Nat} {a : Option Addr} {len cap : Nat} {zs : List Int} {b : Nat} {o : Obj} (h : w.heap[b]? = some o) (s : Dr.Step w w' k a len cap zs) (hk : b ≠ k) : w'.heap[b]? = some o :=
  (s.grown.block b (lt_of_block h) (fun e => hk (Option.some.inj e))).trans h
theorem step_set {w w' : World} {k : Nat} {a : Option Addr} {len cap : Nat} {zs : List Int} (s : Dr.Step w w' k a len cap zs) {p : Addr} (hp : w.heap.size ≤ p.block) (hk : k < w.heap.size) (v : Value) : Dr.Step w (w'.setCell p v) k a len cap zs := by
  have hb : Below w.heap.size w' (w'.setCell p v) := (Below.refl _ _).setCell hp v
  refine ⟨⟨hb.os.trans s.grown.os, hb.tape.trans s.grown.tape, hb.output.trans s.grown.output, Nat.le_trans s.grown.size hb.size, fun i hi hr => (hb.block i hi).trans (s.grown.block i hi hr)⟩, s.src.of_block (fun j hj => hb.block j (by omega))⟩
theorem step_below {w w1 w2 : World} {k : Nat} {a : Option Addr} {len cap : Nat} {zs : List Int} (s : Dr.Step w w1 k a len cap zs) (hb : Below w1.heap.size w1 w2) (hk : k < w.heap.size) : Dr.Step w w2 k a len cap zs := by
  have hs := s.grown.size
  refine ⟨⟨hb.os.trans s.grown.os, hb.tape.trans s.grown.tape, hb.output.trans s.grown.output, Nat.le_trans hs hb.size, fun i hi hr => (hb.block i (by omega)).trans (s.grown.block i hi hr)⟩, s.src.of_block (fun j hj => hb.block j (by omega))⟩
def CaseP (w : World) (k : Nat) (a : Option Addr) (len cap : Nat) (zs : List Int) (e : Ending) (w' : World) : Prop :=
  ∃ f us, okF f ∧ e = .returned (.agg us.toArray) ∧ Owned w' w.heap.size (eFrames f) us ∧ Dr.Step w w' k a len cap zs
theorem drawCase {w : World} {k : Nat} {a : Option Addr} {len cap : Nat} {zs : List Int} (hs : Dr.Src w k a len cap zs) :
    Calls Try.prog 36 #[.pointer (some ⟨k, 0, none⟩)] w (CaseP w k a len cap zs) := by
  have hkw := hs.lt
  have HS := Lib.hid hs
  clear hs
  obtain ⟨B, hs_B⟩ : ∃ B, w.heap.size = B := ⟨_, rfl⟩
  have hzo_ := hs_B
  have hx_ : (w.alloc (.cells #[.slice none 0 0, .slice none 0 0] 27)).heap[B]? = some (.cells #[.slice none 0 0, .slice none 0 0] 27 (0, 0)) := by rw [← hzo_]; exact heap_alloc_new w _
  have hb_ : Below w.heap.size w (w.alloc (.cells #[.slice none 0 0, .slice none 0 0] 27)) := (Below.refl _ _).alloc (Nat.le_refl _) _
  have hz_ : (w.alloc (.cells #[.slice none 0 0, .slice none 0 0] 27)).heap.size = B + 1 := by simp [hzo_]
  obtain ⟨w0, hw_⟩ : ∃ z, (w.alloc (.cells #[.slice none 0 0, .slice none 0 0] 27)) = z := ⟨_, rfl⟩
  rw [hw_] at hx_ hb_ hz_
  have HX_w0 := Lib.hid hx_
  have HB_w0 := Lib.hid hb_
  have HW_w0 := Lib.hid hw_
  have hz_w0 := Lib.hid hz_
  clear hx_ hb_ hw_ hz_ hzo_
  have hST0 : Dr.Step w w0 k a len cap zs := by rw [← HW_w0.out]; exact HS.out.refl.alloc _
  have HST0 := Lib.hid hST0
  clear hST0
  go_enter Try.func36, Try.ntmps36
  go_wp2_with fail
  rw [HW_w0.out]
  refine (Dr.below HST0.out.src 5).mono ?_
  rintro e w1 ⟨x, hx0, hx1, _, rfl, hst⟩
  have hx5 : x < 5 := hx1 (by omega)
  have HST1 := Lib.hid (HST0.out.trans hst)
  have HXB1 := Lib.hid (block_step HX_w0.out hst (by omega))
  clear hx1 hst
  obtain ⟨q, rfl⟩ := Int.eq_ofNat_of_zero_le hx0
  obtain ⟨N, hq⟩ : ∃ N : Nat, (1 : Int) + (q : Int) = (N : Int) := ⟨q + 1, by omega⟩
  have hN1 : 1 ≤ N := by omega
  have hN5 : N ≤ 5 := by omega
  have HQ := Lib.hid hq
  clear hq
  go_wp2_with fail
  rw [HQ.out]
  have hpf : pFramesNew (N : Int) = (⟨List.replicate N (List.replicate 16 0), List.replicate N false⟩, true) := by
    unfold pFramesNew; rw [if_pos (by omega), Int.toNat_natCast]
  have HCALL := Lib.hid (spec_FramesNew (N : Int) w1 (by unfold okI; omega))
  rw [hpf] at HCALL
  clear hpf
  refine HCALL.out.mono ?_
  rintro e w2 ⟨us, rfl, hown, hb2⟩
  obtain ⟨f0, hf0⟩ : ∃ f0, (⟨List.replicate N (List.replicate 16 0), List.replicate N false⟩ : GFrames) = f0 := ⟨_, rfl⟩
  have hfc : f0.Cells = List.replicate N (List.replicate 16 0) := by rw [← hf0]
  have hfu : f0.Used.length = N := by rw [← hf0]; simp
  have hok0 : okF f0 := by rw [← hf0]; exact ok_new (by omega) (by omega)
  have hown' : Owned w2 w1.heap.size (eFrames f0) us := by rw [← hf0]; exact hown
  have hsh := hown'
  obtain ⟨bs2, hsh, _⟩ := hsh
  obtain ⟨A3, n3, cap3, A4, n4, cap4, rfl⟩ := sinv_Frames hsh
  have hn : n3 = f0.Cells.length ∧ n4 = f0.Used.length := by
    obtain ⟨_, _, _, k0, k1⟩ := parts_Frames hsh
    rw [(own_cells k1 (len_map (E := eB) (k := 1) (fun _ => rfl))).1, (own_cells k0 (len_map (E := eIntS) (k := 1) (fun _ => rfl))).1, List.length_map, List.length_map]
    exact ⟨rfl, rfl⟩
  obtain rfl : N = n4 := by rw [hn.2, hfu]
  obtain rfl : N = n3 := by rw [hn.1, hfc, List.length_replicate]
  obtain ⟨C, hs_C⟩ : ∃ B, w2.heap.size = B := ⟨_, rfl⟩
  have hzo_ := hs_C
  have hx_ : (w2.alloc (.cells #[.slice A3 N cap3, .slice A4 N cap4] 27)).heap[C]? = some (.cells #[.slice A3 N cap3, .slice A4 N cap4] 27 (0, 0)) := by rw [← hzo_]; exact heap_alloc_new w2 _
  have hb_ : Below w2.heap.size w2 (w2.alloc (.cells #[.slice A3 N cap3, .slice A4 N cap4] 27)) := (Below.refl _ _).alloc (Nat.le_refl _) _
  have hz_ : (w2.alloc (.cells #[.slice A3 N cap3, .slice A4 N cap4] 27)).heap.size = C + 1 := by simp [hzo_]
  obtain ⟨w3, hw_⟩ : ∃ z, (w2.alloc (.cells #[.slice A3 N cap3, .slice A4 N cap4] 27)) = z := ⟨_, rfl⟩
  rw [hw_] at hx_ hb_ hz_
  have HX_w3 := Lib.hid hx_
  have HB_w3 := Lib.hid hb_
  have HW_w3 := Lib.hid hw_
  have hz_w3 := Lib.hid hz_
  clear hx_ hb_ hw_ hz_ hzo_
  have hB1 : B + 1 ≤ w1.heap.size := by have := HST1.out.grown.size; have := lt_of_block HXB1.out; omega
  have hHST3 : Dr.Step w w3 k a len cap zs := step_below HST1.out (below_step hb2 HB_w3.out) hkw
  have HST3 := Lib.hid hHST3
  have HO3 := Lib.hid ((hown'.below HB_w3.out).mono hB1)
  have HXB3 := Lib.hid (((below_step hb2 HB_w3.out).block B (lt_of_block HXB1.out)).trans HXB1.out)
  have hBC : B + 1 ≤ C := by have := hb2.size; omega
  have HFC := Lib.hid hfc
  have HFU := Lib.hid hfu
  have HOK0 := Lib.hid hok0
  clear hsh hn hfc hfu hok0 hown hown' hb2 hHST3 hf0 HCALL
  go_wp2_with fail
  rw [HW_w3.out]
  go_loopw [5] (fun c wr => ∃ (i : Nat) (f : GFrames), i ≤ N ∧ c = .int .i64 i ∧ Hid (okF f) ∧ Hid (f.Used.length = N) ∧ Hid (∀ j, i ≤ j → j < N → f.Cells[j]? = some (List.replicate 16 0)) ∧ Hid (Owned wr (B + 1) (eFrames f) [.slice A3 N cap3, .slice A4 N cap4]) ∧ Hid (wr.heap[B]? = some (.cells #[.slice none 0 0, .slice none 0 0] 27 (0, 0))) ∧ Hid (wr.heap[C]? = some (.cells #[.slice A3 N cap3, .slice A4 N cap4] 27 (0, 0))) ∧ Hid (Dr.Step w wr k a len cap zs)) (fun c _ => N - (intOf c).toNat)
  case atStart => exact ⟨0, f0, Nat.zero_le _, rfl, HOK0.out, HFU.out, fun j _ hj => by rw [HFC.out, List.getElem?_replicate, if_pos hj], HO3.out, HXB3.out, HX_w3.out, HST3.out⟩
  case round =>
    obtain ⟨i, f, hi, rfl, HOK, HLU, HZ, HO, HXB, HXC, HT⟩ := hrel
    have hcC : wr.cell? ⟨C, 1, none⟩ = some (.slice A4 N cap4) := cell_of_block HXC.out 1
    by_cases hlt : (i : Int) < (N : Int)
    · have hi0 : (0 : Int) ≤ i := by omega
      have hiq : i < N := by omega
      obtain ⟨g, o, _, _, e1, hgB, _⟩ := fr_used HO.out (i := i) hiq true
      subst e1
      have hkB : k < B + 1 := by omega
      have hkC : C ≠ k := by omega
      have hsrc : Dr.Src wr.drew k a len cap zs := HT.out.src.of_block (fun j hj => rfl)
      have htd : Dr.Step w wr.drew k a len cap zs := ⟨⟨HT.out.grown.os, HT.out.grown.tape, HT.out.grown.output, HT.out.grown.size, HT.out.grown.block⟩, hsrc⟩
      have HSRC := Lib.hid hsrc
      have HTD := Lib.hid htd
      have HOD := Lib.hid (HO.out.below ((Below.refl _ _).drew))
      have hS0 : wr.drew.cell? ⟨C, 1, none⟩ = some (.slice (some ⟨g, o, none⟩) N cap4) := cell_of_block HXC.out 1
      clear hsrc htd
      go_wp2_with fail
      go_region_held3 (fun w' => w'.cell? ⟨C, 1, none⟩ = some (.slice (some ⟨g, o, none⟩) N cap4)) (first | exact hS0 | exact hS2 | exact hS3) ((go_at_call 61; refine (Dr.once HSRC.out 2).mono ?_; rintro e w2 ⟨b, rfl, hst⟩; have ho2 := owned_step HOD.out hst hkB; obtain ⟨g', o', cur', u', e', hgB', hg', hu', hset'⟩ := fr_used ho2 (i := i) hiq b; obtain ⟨rfl, rfl⟩ : g = g' ∧ o = o' := (by simpa using e'); have hx2 : w2.heap[C]? = _ := block_step (w := wr.drew) HXC.out hst hkC; have hS2 : w2.cell? ⟨C, 1, none⟩ = some (.slice (some ⟨g, o, none⟩) N cap4) := cell_of_block hx2 1; have hgC : g ≠ C := (by intro hh; rw [hh] at hg'; rw [hg'] at hx2; have := (Option.some.inj hx2); simp at this); have hk2 : w2.cell? ⟨g, o + i, none⟩ = some u' := (cell_of_block hg' (o + i)).trans hu'; have hf2 := free_of_block hg' (o + i); have hx3 := (Below.heap_setCell w2 ⟨g, o + i, none⟩ (.bool b) C (by show C ≠ g; omega)).trans hx2; have hS3 : (w2.setCell ⟨g, o + i, none⟩ (.bool b)).cell? ⟨C, 1, none⟩ = some (.slice (some ⟨g, o, none⟩) N cap4) := cell_of_block hx3 1; have HX3 := Lib.hid hx3; have HO3 := Lib.hid (hset' _ (block_set hg' (o + i) (.bool b)) (fun y hy => Below.heap_setCell _ _ _ _ hy)); have HXB3 := Lib.hid ((Below.heap_setCell w2 ⟨g, o + i, none⟩ (.bool b) B (by show B ≠ g; omega)).trans (block_step (w := wr.drew) HXB.out hst (by omega))); have HT3 := Lib.hid (step_set (p := ⟨g, o + i, none⟩) (HTD.out.trans hst) (by show w.heap.size ≤ g; omega) hkw (.bool b))))
      obtain ⟨f1, hf1⟩ : ∃ f1, (⟨f.Cells, f.Used.set i b⟩ : GFrames) = f1 := ⟨_, rfl⟩
      have hok1 : okF f1 := by rw [← hf1]; exact ok_used HOK.out (HZ.out i (Nat.le_refl _) hiq) b
      have hlu1 : f1.Used.length = N := by rw [← hf1]; show (f.Used.set i b).length = N; rw [List.length_set]; exact HLU.out
      have hub1 : f1.Used[i]? = some b := by rw [← hf1]; show (f.Used.set i b)[i]? = some b; exact List.getElem?_set_self (by rw [HLU.out]; exact hiq)
      have hz1 : ∀ j, i + 1 ≤ j → j < N → f1.Cells[j]? = some (List.replicate 16 0) := by rw [← hf1]; exact fun j hj hjN => HZ.out j (by omega) hjN
      rw [hf1] at HO3
      obtain ⟨w3', hw3'⟩ : ∃ w3', w2.setCell ⟨g, o + i, none⟩ (.bool b) = w3' := ⟨_, rfl⟩
      rw [hw3'] at HO3 HX3 HXB3 HT3
      have HW3' := Lib.hid hw3'
      have HOK1 := Lib.hid hok1
      have HLU1 := Lib.hid hlu1
      have HUB1 := Lib.hid hub1
      have HZ1 := Lib.hid hz1
      clear hf1 hok1 hlu1 hub1 hz1 hw3' hS0 hS2 hS3 hst ho2 hset' hg' hu' hx2 hx3 hk2 hf2 hcC
      rw [HW3'.out]
      go_wp2_with fail
      go_loopw [6] (fun c w4 => ∃ (m : Nat) (f2 : GFrames), m ≤ 6 ∧ c = .int .i64 m ∧ Hid (okF f2) ∧ Hid (f2.Used.length = N) ∧ Hid (f2.Used[i]? = some b) ∧ Hid (∀ j, i + 1 ≤ j → j < N → f2.Cells[j]? = some (List.replicate 16 0)) ∧ Hid (Owned w4 (B + 1) (eFrames f2) [.slice A3 N cap3, .slice (some ⟨g, o, none⟩) N cap4]) ∧ Hid (w4.heap[B]? = some (.cells #[.slice none 0 0, .slice none 0 0] 27 (0, 0))) ∧ Hid (w4.heap[C]? = some (.cells #[.slice A3 N cap3, .slice (some ⟨g, o, none⟩) N cap4] 27 (0, 0))) ∧ Hid (Dr.Step w w4 k a len cap zs)) (fun c _ => 6 - (intOf c).toNat)
      case atStart => exact ⟨0, f1, by omega, rfl, HOK1.out, HLU1.out, HUB1.out, HZ1.out, HO3.out, HXB3.out, HX3.out, HT3.out⟩
      case round =>
        obtain ⟨m, f2, hm, rfl, HOK2, HLU2, HUB2, HZ2, HO4, HXB4, HXC4, HT4⟩ := hrel
        go_wp2_with fail
        refine (Dr.below HT4.out.src 6).mono ?_
        rintro e w5 ⟨y, hy0, hy1, _, rfl, hst⟩
        have hy6 : y < 6 := hy1 (by omega)
        have HO5 := Lib.hid (owned_step HO4.out hst hkB)
        have HXB5 := Lib.hid (block_step HXB4.out hst (by omega))
        have HXC5 := Lib.hid (block_step HXC4.out hst hkC)
        have HT5 := Lib.hid (HT4.out.trans hst)
        have hcC5 : w5.cell? ⟨C, 1, none⟩ = some (.slice (some ⟨g, o, none⟩) N cap4) := cell_of_block HXC5.out 1
        have hcU : w5.cell? ⟨g, o + i, none⟩ = some (.bool b) := by
          obtain ⟨_, k1, _⟩ := HO5.out
          obtain ⟨_, _, _, _, k2⟩ := parts_Frames k1
          obtain ⟨A', n', p', e', _, _, _, hA⟩ := read_bools (T := 4) k2
          rw [Value.slice.injEq] at e'
          obtain ⟨e1, e2, _⟩ := e'
          obtain ⟨g', o', u, e3, hu, hcu⟩ := hA i (by omega)
          rw [← e1] at e3
          obtain ⟨rfl, rfl⟩ : g = g' ∧ o = o' := by simpa using e3
          rw [HUB2.out] at hu
          obtain rfl := Option.some.inj hu
          exact hcu
        clear hy1 hst
        by_cases hmy : (m : Int) < y
        · have hm0 : (0 : Int) ≤ m := by omega
          cases b with
          | false =>
            go_wp2
            go_roundw
            case rel => exact ⟨i + 1, f2, by omega, by go_num, HOK2.out, HLU2.out, HZ2.out, HO5.out, HXB5.out, HXC5.out, HT5.out⟩
            case measure => simp [intOf]; omega
          | true =>
            have hcl : f2.Cells.length = N := by rw [← (okF_at.1 HOK2.out).2.1]; exact HLU2.out
            obtain ⟨r, hr⟩ : ∃ r, f2.Cells[i]? = some r := ⟨_, List.getElem?_eq_getElem (by omega)⟩
            have hr16 : r.length = 16 := ((okF_at.1 HOK2.out).2.2 i r true hr HUB2.out).1
            obtain ⟨g1, o1, g2, o2, cap2, _, _, e1, hrow, hgB2, _⟩ := fr_cell HO5.out hr (k := 0) (by omega) 0
            subst e1
            rw [hr16] at hrow
            obtain ⟨gg, oo, _, _, e2, hgB1, _⟩ := fr_row HO5.out (i := i) hiq []
            obtain ⟨rfl, rfl⟩ : g1 = gg ∧ o1 = oo := by simpa using e2
            have hsrc5 : Dr.Src w5.drew k a len cap zs := HT5.out.src.of_block (fun j hj => rfl)
            have htd5 : Dr.Step w w5.drew k a len cap zs := ⟨⟨HT5.out.grown.os, HT5.out.grown.tape, HT5.out.grown.output, HT5.out.grown.size, HT5.out.grown.block⟩, hsrc5⟩
            have HSRC5 := Lib.hid hsrc5
            have HTD5 := Lib.hid htd5
            have HOD5 := Lib.hid (HO5.out.below ((Below.refl _ _).drew))
            have hg1l : g1 < w5.heap.size := World.block_lt_of_cell? w5 _ hrow
            have HKEEP : Hid (∀ w', Dr.Step w5.drew w' k a len cap zs → w'.cell? ⟨C, 0, none⟩ = some (.slice (some ⟨g1, o1, none⟩) N cap3) ∧ w'.cell? ⟨g1, o1 + i, none⟩ = some (.slice (some ⟨g2, o2, none⟩) 16 cap2)) := fun w' st =>
              ⟨cell_of_block (block_step (w := w5.drew) HXC5.out st hkC) 0, (World.cell?_of_block (a := ⟨g1, o1 + i, none⟩) (w := w5) (w' := w') (st.grown.block g1 hg1l (fun e => by have := Option.some.inj e; omega))).trans hrow⟩
            have hS5 := HKEEP.out w5.drew hsrc5.refl
            have HR := Lib.hid hr
            have HR16 := Lib.hid hr16
            have HFIN : Hid (∀ w7 (k1 : Nat) (y2 : Int), Dr.Step w5.drew w7 k a len cap zs → k1 < 16 → ∃ u7, w7.cell? ⟨g2, o2 + k1, none⟩ = some u7 ∧ w7.frozen? ⟨g2, o2 + k1, none⟩ = false ∧
                ((w7.setCell ⟨g2, o2 + k1, none⟩ (.int .i64 y2)).cell? ⟨C, 0, none⟩ = some (.slice (some ⟨g1, o1, none⟩) N cap3) ∧ (w7.setCell ⟨g2, o2 + k1, none⟩ (.int .i64 y2)).cell? ⟨g1, o1 + i, none⟩ = some (.slice (some ⟨g2, o2, none⟩) 16 cap2)) ∧
                Hid ((w7.setCell ⟨g2, o2 + k1, none⟩ (.int .i64 y2)).heap[C]? = some (.cells #[.slice (some ⟨g1, o1, none⟩) N cap3, .slice (some ⟨g, o, none⟩) N cap4] 27 (0, 0))) ∧
                Hid (Owned (w7.setCell ⟨g2, o2 + k1, none⟩ (.int .i64 y2)) (B + 1) (eFrames ⟨f2.Cells.set i (r.set k1 y2), f2.Used⟩) [.slice (some ⟨g1, o1, none⟩) N cap3, .slice (some ⟨g, o, none⟩) N cap4]) ∧
                Hid ((w7.setCell ⟨g2, o2 + k1, none⟩ (.int .i64 y2)).heap[B]? = some (.cells #[.slice none 0 0, .slice none 0 0] 27 (0, 0))) ∧
                Hid (Dr.Step w (w7.setCell ⟨g2, o2 + k1, none⟩ (.int .i64 y2)) k a len cap zs)) := by
              intro w7 k1 y2 hst57 hk16
              have hS7 := HKEEP.out w7 hst57
              have ho7 := owned_step HOD5.out hst57 hkB
              obtain ⟨ga, oa, gb, ob, cap7, cur7, u7, e7, hrow7, hgB7, hg7, hu7, hset7⟩ := fr_cell ho7 hr (k := k1) (by rw [hr16]; omega) y2
              obtain ⟨rfl, rfl⟩ : g1 = ga ∧ o1 = oa := by simpa using e7
              obtain ⟨rfl, rfl⟩ : g2 = gb ∧ o2 = ob := by
                have h := hS7.2.symm.trans hrow7
                simp at h
                exact h.1
              have hx7 : w7.heap[C]? = _ := block_step (w := w5.drew) HXC5.out hst57 hkC
              have hgC : g2 ≠ C := by
                intro hh
                rw [hh] at hg7
                rw [hg7] at hx7
                have := (Option.some.inj hx7)
                simp at this
              obtain ⟨gc, oc, curc, uc, ec, _, hgc, _⟩ := fr_row ho7 (i := i) hiq []
              obtain ⟨rfl, rfl⟩ : g1 = gc ∧ o1 = oc := by simpa using ec
              have hg12 : g1 ≠ g2 := by
                intro hh
                rw [hh] at hgc
                rw [hgc] at hg7
                have := (Option.some.inj hg7)
                simp at this
              have hx8 := (Below.heap_setCell w7 ⟨g2, o2 + k1, none⟩ (.int .i64 y2) C (by show C ≠ g2; omega)).trans hx7
              exact ⟨u7, (cell_of_block hg7 (o2 + k1)).trans hu7, free_of_block hg7 (o2 + k1), ⟨cell_of_block hx8 0, (World.cell?_of_block (a := ⟨g1, o1 + i, none⟩) (w := w7) (Below.heap_setCell w7 ⟨g2, o2 + k1, none⟩ (.int .i64 y2) g1 (by show g1 ≠ g2; exact hg12))).trans hS7.2⟩, hx8, hset7 _ (block_set hg7 (o2 + k1) (.int .i64 y2)) (fun y hy => Below.heap_setCell _ _ _ _ hy),
                (Below.heap_setCell w7 ⟨g2, o2 + k1, none⟩ (.int .i64 y2) B (by show B ≠ g2; omega)).trans (block_step (w := w5.drew) HXB5.out hst57 (by omega)), step_set (p := ⟨g2, o2 + k1, none⟩) (HTD5.out.trans hst57) (by show w.heap.size ≤ g2; omega) hkw (.int .i64 y2)⟩
            clear hsrc5 htd5 hr hr16 hrow hcl e2
            go_wp2_with fail
            go_region_held3 (fun w' => w'.cell? ⟨C, 0, none⟩ = some (.slice (some ⟨g1, o1, none⟩) N cap3) ∧ w'.cell? ⟨g1, o1 + i, none⟩ = some (.slice (some ⟨g2, o2, none⟩) 16 cap2)) (first | exact hS5 | exact hS6 | exact hS7 | exact hS8) (first | (go_at_call 45; refine (Dr.below hst6.src 1000).mono ?_; rintro e w7 ⟨y2, hy20, hy21, _, rfl, hst7⟩; have hS7 := HKEEP.out w7 (hst6.trans hst7); have hy2k : y2 < 1000 := hy21 (by omega); obtain ⟨u7, hk7, hf7, hS8, HX8, HO8, HXB8, HT8⟩ := HFIN.out w7 k1 y2 (hst6.trans hst7) (by omega)) | (go_at_call 45; refine (Dr.below HSRC5.out 16).mono ?_; rintro e w6 ⟨y1, hy10, hy11, _, rfl, hst6⟩; have hy16 : y1 < 16 := hy11 (by omega); obtain ⟨k1, rfl⟩ := Int.eq_ofNat_of_zero_le hy10; have hS6 := HKEEP.out w6 hst6))
            have HOK8 := Lib.hid (ok_cell (k := k1) (v := y2) HOK2.out HUB2.out HR.out hy20 (by omega))
            have HZ8 : Hid (∀ j, i + 1 ≤ j → j < N → (f2.Cells.set i (r.set k1 y2))[j]? = some (List.replicate 16 0)) := fun j hj hjN => by rw [List.getElem?_set_ne (by omega)]; exact HZ2.out j hj hjN
            clear hS5 hS6 hS7 hS8 hst6 hst7 hk7 hf7
            go_wp2
            go_roundw
            case rel => exact ⟨m + 1, ⟨f2.Cells.set i (r.set k1 y2), f2.Used⟩, by omega, by go_num, HOK8.out, HLU2.out, HUB2.out, HZ8.out, HO8.out, HXB8.out, HX8.out, HT8.out⟩
            case measure => simp [intOf]; omega
        · go_wp2
          go_roundw
          case rel => exact ⟨i + 1, f2, by omega, by go_num, HOK2.out, HLU2.out, HZ2.out, HO5.out, HXB5.out, HXC5.out, HT5.out⟩
          case measure => simp [intOf]; omega
    · obtain rfl : N = i := by omega
      have hcC0 : wr.cell? ⟨C, 0, none⟩ = some (.slice A3 N cap3) := cell_of_block HXC.out 0
      have h1 := block_set HXB.out 0 (.slice A3 N cap3)
      have hk0 : wr.cell? ⟨B, 0, none⟩ = some (.slice none 0 0) := cell_of_block HXB.out 0
      have hf0 := free_of_block HXB.out 0
      have hk1 : (wr.setCell ⟨B, 0, none⟩ (.slice A3 N cap3)).cell? ⟨B, 1, none⟩ = some (.slice none 0 0) := cell_of_block h1 1
      have hf1 := free_of_block h1 1
      have HG := Lib.hid (block_set h1 1 (.slice A4 N cap4))
      have HE := Lib.hid (((HO.out.setCell (p := ⟨B, 0, none⟩) (by show B < B + 1; omega) (.slice A3 N cap3)).setCell (p := ⟨B, 1, none⟩) (by show B < B + 1; omega) (.slice A4 N cap4)).mono (B' := w.heap.size) (by omega))
      have HTE := Lib.hid (step_set (p := ⟨B, 1, none⟩) (step_set (p := ⟨B, 0, none⟩) HT.out (by show w.heap.size ≤ B; omega) hkw (.slice A3 N cap3)) (by show w.heap.size ≤ B; omega) hkw (.slice A4 N cap4))
      clear h1
      go_wp2
      refine ret_c rfl HG.out rfl Try.underlying27 rfl sizeF rfl ?_
      exact ⟨f, [_, _], HOK.out, rfl, HE.out, HTE.out⟩
theorem stays_step {w w1 w2 : World} {k : Nat} {a : Option Addr} {len cap : Nat} {zs : List Int} (h : Below w.heap.size w w1) (s : Dr.Step w1 w2 k a len cap zs) (hk : w.heap.size ≤ k) : Below w.heap.size w w2 :=
  h.grown s.grown h.size (fun j hj => by cases hj; exact hk)
/-- valid frames, in memory of the call's own -/
def FramesP (w : World) (e : Ending) (w' : World) : Prop := ∃ f us, okF f ∧ e = .returned (.agg us.toArray) ∧ Owned w' w.heap.size (eFrames f) us ∧ Below w.heap.size w w'
theorem drawFrames {w : World} {a : Option Addr} {len cap : Nat} {zs : List Int} (hr : Dr.IsRow .u8 w a len cap zs) (hlen : len ≤ 1048576) :
    Calls Try.prog 14 #[.slice a len cap] w (FramesP w) := by
  obtain ⟨B, hs_B⟩ : ∃ B, w.heap.size = B := ⟨_, rfl⟩
  have hzo_ := hs_B
  have hx_ : (w.alloc (.cells #[.slice none 0 0, .slice none 0 0] 27)).heap[B]? = some (.cells #[.slice none 0 0, .slice none 0 0] 27 (0, 0)) := by rw [← hzo_]; exact heap_alloc_new w _
  have hb_ : Below w.heap.size w (w.alloc (.cells #[.slice none 0 0, .slice none 0 0] 27)) := (Below.refl _ _).alloc (Nat.le_refl _) _
  have hz_ : (w.alloc (.cells #[.slice none 0 0, .slice none 0 0] 27)).heap.size = B + 1 := by simp [hzo_]
  obtain ⟨w0, hw_⟩ : ∃ z, (w.alloc (.cells #[.slice none 0 0, .slice none 0 0] 27)) = z := ⟨_, rfl⟩
  rw [hw_] at hx_ hb_ hz_
  have HX_w0 := Lib.hid hx_
  have HB_w0 := Lib.hid hb_
  have HW_w0 := Lib.hid hw_
  have hz_w0 := Lib.hid hz_
  clear hx_ hb_ hw_ hz_ hzo_
  have HR := Lib.hid (hr.of_block (w' := w0) (fun x hx hc => HB_w0.out.block x.block (hr.lt x hx hc)))
  clear hr
  have hz0 : B + 1 ≤ w0.heap.size := by have := hz_w0.out; omega
  go_enter Try.func14, Try.ntmps14
  go_wp2_with fail
  rw [HW_w0.out]
  refine (Dr.new HR.out hlen).mono ?_
  rintro e w1 ⟨rfl, hb1, hs1⟩
  have HB1 := Lib.hid hb1
  have H1 := Lib.hid hs1
  have HX1 := Lib.hid ((hb1.block B (by omega)).trans HX_w0.out)
  have HBB := Lib.hid (below_step HB_w0.out hb1)
  have hsz1 := hb1.size
  clear hb1 hs1
  go_wp2_with fail
  refine (drawCase H1.out).mono ?_
  rintro e w2 ⟨f, us, hok, rfl, hown, hst⟩
  have hsh := hown
  obtain ⟨bs2, hsh, _⟩ := hsh
  obtain ⟨A, n, cap, A2, n2, cap2, rfl⟩ := sinv_Frames hsh
  have HK := H1.out.lt
  have hx2 := block_step HX1.out hst (by omega)
  obtain ⟨r0, r1, r2, r3, HG, HE, HBE⟩ := fr_ret (by omega) (stays_step HBB.out hst (by omega)) (hown.mono (B' := B + 1) (by omega)) (by omega) hx2
  have HOK := Lib.hid hok
  clear hsh hst hown hx2 hok
  go_wp2
  refine ret_c rfl HG.out rfl Try.underlying27 rfl sizeF rfl ?_
  exact ⟨f, [_, _], HOK.out, rfl, HE.out, HBE.out⟩
end Tr
end Go.Proofs.Ytmajlgnjgnodoaa

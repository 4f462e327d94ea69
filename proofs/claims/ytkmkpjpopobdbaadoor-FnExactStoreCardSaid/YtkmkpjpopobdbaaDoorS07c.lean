/- The machine: the specification's functions that make machines. -/
import Derived.Test.YtkmkpjpopobdbaaDoorS07b
import Derived.Test.YtkmkpjpopobdbaaDoorS05d
import Derived.Test.YtkmkpjpopobdbaaDoorS05n
namespace Go.Proofs.YtkmkpjpopobdbaaDoor
open Go.RowKit
set_option linter.unusedVariables false
namespace Tr
/-- a result's variable of three cells -/
theorem ret3 {w wr : World} {C lo : Nat} {T : TypeId} {d : D} {a b c z0 z1 z2 : Value} (hw : w.heap.size ≤ C) (hb : Below w.heap.size w wr) (ho : Owned wr lo d [a, b, c]) (hl : C < lo) (hx : wr.heap[C]? = some (.cells #[z0, z1, z2] T (0, 0))) :
    wr.cell? ⟨C, 0, none⟩ = some z0 ∧ wr.frozen? ⟨C, 0, none⟩ = false ∧ (wr.setCell ⟨C, 0, none⟩ a).cell? ⟨C, 1, none⟩ = some z1 ∧ (wr.setCell ⟨C, 0, none⟩ a).frozen? ⟨C, 1, none⟩ = false ∧
      ((wr.setCell ⟨C, 0, none⟩ a).setCell ⟨C, 1, none⟩ b).cell? ⟨C, 2, none⟩ = some z2 ∧ ((wr.setCell ⟨C, 0, none⟩ a).setCell ⟨C, 1, none⟩ b).frozen? ⟨C, 2, none⟩ = false ∧
      Hid ((((wr.setCell ⟨C, 0, none⟩ a).setCell ⟨C, 1, none⟩ b).setCell ⟨C, 2, none⟩ c).heap[C]? = some (.cells #[a, b, c] T (0, 0))) ∧ Hid (Owned (((wr.setCell ⟨C, 0, none⟩ a).setCell ⟨C, 1, none⟩ b).setCell ⟨C, 2, none⟩ c) w.heap.size d [a, b, c]) ∧
      Hid (Below w.heap.size w (((wr.setCell ⟨C, 0, none⟩ a).setCell ⟨C, 1, none⟩ b).setCell ⟨C, 2, none⟩ c)) := by
  have h1 := block_set hx 0 a
  have h2 := block_set h1 1 b
  have h3 := block_set h2 2 c
  exact ⟨cell_of_block hx 0, free_of_block hx 0, cell_of_block h1 1, free_of_block h1 1, cell_of_block h2 2, free_of_block h2 2, h3,
    (((ho.setCell (p := ⟨C, 0, none⟩) hl a).setCell (p := ⟨C, 1, none⟩) hl b).setCell (p := ⟨C, 2, none⟩) hl c).mono (by omega), ((hb.setCell (p := ⟨C, 0, none⟩) hw a).setCell (p := ⟨C, 1, none⟩) hw b).setCell (p := ⟨C, 2, none⟩) hw c⟩
theorem owned_join' {w0 w : World} {B : Nat} {d e : D} {v1 v2 : List Value} (h1 : Owned w0 B d v1) (hb : Below w0.heap.size w0 w) (h2 : Owned w w0.heap.size e v2) (hB : B ≤ w0.heap.size) : Owned w B (d.app e) (v1 ++ v2) := by
  obtain ⟨q1, o1, d1, l1⟩ := h1
  obtain ⟨q2, o2, d2, l2⟩ := h2
  refine ⟨q1 ++ q2, (own_app _ _).2 ⟨_, _, q1, q2, rfl, rfl, own_below o1 hb (own_lt _ o1), o2⟩, ?_, ?_⟩
  · rw [List.nodup_append]
    exact ⟨d1, d2, fun a ha c hc e => by have h1 := own_lt _ o1 a ha; have h2 := l2 c hc; omega⟩
  · intro b hb
    rw [List.mem_append] at hb
    rcases hb with hb | hb
    · exact l1 b hb
    · have := l2 b hb; omega
theorem spec_l07Copy (m : GMachine) (c0 c1 c2 : Value) (w : World) (h : Rd w (eMachine m) [c0, c1, c2]) (hs : (eMachine m).sz ≤ 1048576) : Calls Tryd.prog 49 #[.agg #[c0, c1, c2]] w (RetM (fun us => .agg us.toArray) (eMachine m) w) := by
  obtain ⟨hs1, hs2, hs3, hs4⟩ := sz_machine hs
  obtain ⟨hrF, hrT⟩ := rd_machine h
  obtain ⟨A, n, cap, A2, n2, cap2, A3, n3, cap3, rfl, rfl, rfl⟩ := inv_machine h
  obtain ⟨B, hs_B⟩ : ∃ B, w.heap.size = B := ⟨_, rfl⟩
  have hzo_ := hs_B
  have hx_ : (w.alloc (.cells #[.slice A n cap, .slice A2 n2 cap2, .slice A3 n3 cap3] 32)).heap[B]? = some (.cells #[.slice A n cap, .slice A2 n2 cap2, .slice A3 n3 cap3] 32 (0, 0)) := by rw [← hzo_]; exact heap_alloc_new w _
  have hb_ : Below w.heap.size w (w.alloc (.cells #[.slice A n cap, .slice A2 n2 cap2, .slice A3 n3 cap3] 32)) := (Below.refl _ _).alloc (Nat.le_refl _) _
  have hz_ : (w.alloc (.cells #[.slice A n cap, .slice A2 n2 cap2, .slice A3 n3 cap3] 32)).heap.size = B + 1 := by simp [hzo_]
  obtain ⟨w0, hw_⟩ : ∃ z, (w.alloc (.cells #[.slice A n cap, .slice A2 n2 cap2, .slice A3 n3 cap3] 32)) = z := ⟨_, rfl⟩
  rw [hw_] at hx_ hb_ hz_
  have HX_w0 := Lib.hid hx_
  have HB_w0 := Lib.hid hb_
  have HW_w0 := Lib.hid hw_
  have hz_w0 := Lib.hid hz_
  clear hx_ hb_ hw_ hz_ hzo_
  have hzo_ := hz_w0.out
  have hx_ : (w0.alloc (.cells #[.slice none 0 0, .slice none 0 0, .slice none 0 0] 32)).heap[B + 1]? = some (.cells #[.slice none 0 0, .slice none 0 0, .slice none 0 0] 32 (0, 0)) := by rw [← hzo_]; exact heap_alloc_new w0 _
  have hb_ : Below w0.heap.size w0 (w0.alloc (.cells #[.slice none 0 0, .slice none 0 0, .slice none 0 0] 32)) := (Below.refl _ _).alloc (Nat.le_refl _) _
  have hz_ : (w0.alloc (.cells #[.slice none 0 0, .slice none 0 0, .slice none 0 0] 32)).heap.size = B + 1 + 1 := by simp [hzo_]
  obtain ⟨w1, hw_⟩ : ∃ z, (w0.alloc (.cells #[.slice none 0 0, .slice none 0 0, .slice none 0 0] 32)) = z := ⟨_, rfl⟩
  rw [hw_] at hx_ hb_ hz_
  have HX_w1 := Lib.hid hx_
  have HB_w1 := Lib.hid hb_
  have HW_w1 := Lib.hid hw_
  have hz_w1 := Lib.hid hz_
  clear hx_ hb_ hw_ hz_ hzo_
  have hsw : w.heap.size ≤ B + 1 := by omega
  have hz1 : B + 1 < w1.heap.size := lt_of_block HX_w1.out
  have HC5 : Hid (∀ W, Below (B + 1) w1 W → Calls Tryd.prog 77 #[.agg #[.slice A n cap, .slice A2 n2 cap2]] W (RetM (fun us => .agg us.toArray) (eFrames m.Frames) W)) := fun W hb => spec_l05Copy m.Frames _ _ W (hrF.below ((Tr.below_step HB_w0.out HB_w1.out).trans (hb.mono hsw))) hs1
  have HC6 : Hid (∀ W, Below (B + 1) w1 W → Calls Tryd.prog 78 #[.agg #[.slice A3 n3 cap3]] W (RetM (fun us => .agg us.toArray) (eTable m.Table) W)) := fun W hb => spec_l06Copy m.Table _ W (hrT.below ((Tr.below_step HB_w0.out HB_w1.out).trans (hb.mono hsw))) hs2
  have hd : Below (B + 1) w1 w1.drew := (Below.refl _ _).drew
  have HS : Hid (∀ W, Below (B + 1) w1 W → W.cell? ⟨B, 0, none⟩ = some (.slice A n cap) ∧ W.cell? ⟨B, 1, none⟩ = some (.slice A2 n2 cap2) ∧ W.cell? ⟨B, 2, none⟩ = some (.slice A3 n3 cap3)) := fun W hb => by
    have hx := (hb.block B (by omega)).trans ((HB_w1.out.block B (lt_of_block HX_w0.out)).trans HX_w0.out)
    exact ⟨cell_of_block hx 0, cell_of_block hx 1, cell_of_block hx 2⟩
  clear h hs hs1 hs2 hs3 hs4 hrF hrT
  go_enter Tryd.func49, Tryd.ntmps49
  go_wp2_with fail
  rw [HW_w0.out, HW_w1.out]
  go_region_held3 (fun W => W.cell? ⟨B, 0, none⟩ = some (.slice A n cap) ∧ W.cell? ⟨B, 1, none⟩ = some (.slice A2 n2 cap2) ∧ W.cell? ⟨B, 2, none⟩ = some (.slice A3 n3 cap3)) (first | exact HS.out _ (by assumption) | exact HS.out _ (hB2.setCell (p := ⟨B + 1, 0, none⟩) (Nat.le_refl _) _) | exact HS.out _ ((hB2.setCell (p := ⟨B + 1, 0, none⟩) (Nat.le_refl _) _).setCell (p := ⟨B + 1, 1, none⟩) (Nat.le_refl _) _) | exact HS.out _ (((hB2.setCell (p := ⟨B + 1, 0, none⟩) (Nat.le_refl _) _).setCell (p := ⟨B + 1, 1, none⟩) (Nat.le_refl _) _).setCell (p := ⟨B + 1, 2, none⟩) (Nat.le_refl _) _)) (first
    | (go_at_call 77; refine (HC5.out _ hd).mono ?_; rintro e1 v1 ⟨us1, rfl, ho1, hb1⟩; have hq1 := ho1; obtain ⟨bs1, hq1, _⟩ := hq1; obtain ⟨A4, n4, cap4, A5, n5, cap5, rfl⟩ := sinv_Frames hq1; have hl1 : B + 1 < w1.drew.heap.size := hz1; have hB1 := hd.trans (hb1.mono (Nat.le_of_lt hl1)))
    | (go_at_call 78; refine (HC6.out _ hB1).mono ?_; rintro e2 v2 ⟨us2, rfl, ho2, hb2⟩; have hq2 := ho2; obtain ⟨bs2, hq2, _⟩ := hq2; obtain ⟨A6, n6, cap6, rfl⟩ := sinv_Table hq2; have hB2 := hB1.trans (hb2.mono (Nat.le_trans (Nat.le_of_lt hl1) hb1.size)); have hoj := owned_join' ho1 hb2 ho2 hb1.size; obtain ⟨q0, q1, q2, q3, q4, q5, HG, HE, HBE⟩ := ret3 hsw ((Tr.below_step HB_w0.out HB_w1.out).trans (hB2.mono hsw)) hoj hl1 ((hb2.block (B + 1) (Nat.lt_of_lt_of_le hl1 hb1.size)).trans ((hb1.block (B + 1) hl1).trans HX_w1.out))))
  go_wp2
  refine ret_c rfl HG.out rfl Tryd.underlying32 rfl sizeM rfl ?_
  exact ⟨[_, _, _], rfl, HE.out, HBE.out⟩
end Tr
end Go.Proofs.YtkmkpjpopobdbaaDoor

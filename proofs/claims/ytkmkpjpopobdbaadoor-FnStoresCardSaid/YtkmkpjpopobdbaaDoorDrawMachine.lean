/- The drawn machines (spec.l07Case). -/
import Derived.Test.YtkmkpjpopobdbaaDoorDrawTable
import Derived.Test.YtkmkpjpopobdbaaDoorS07e
import Derived.Test.YtkmkpjpopobdbaaDoorM07b
namespace Go.Proofs.YtkmkpjpopobdbaaDoor
open Go.RowKit
set_option linter.unusedVariables false
namespace Tr
/-- one bool of frames replaced, the blocks said -/
theorem fr_usedB {w : World} {n cap : Nat} {v0 : Value} {A : Option Addr} {f : GFrames} {bs : List Nat} (h1 : Own w (eFrames f) [v0, .slice A n cap] bs) (h2 : bs.Nodup) {i : Nat} (hi : i < f.Used.length) (x : Bool) :
    ∃ g o cur u, A = some ⟨g, o, none⟩ ∧ g ∈ bs ∧ w.heap[g]? = some (.cells cur 4 (0, 0)) ∧ cur[o + i]? = some u ∧ ∀ w' : World, w'.heap[g]? = some (.cells (cur.setIfInBounds (o + i) (.bool x)) 4 (0, 0)) → (∀ y, y ≠ g → w'.heap[y]? = w.heap[y]?) →
      ∃ bs', Own w' (eFrames ⟨f.Cells, f.Used.set i x⟩) [v0, .slice A n cap] bs' ∧ bs'.Nodup ∧ ∀ y ∈ bs', y ∈ bs := by
  obtain ⟨b0, b1, rfl, k0, k1⟩ := parts_Frames h1
  rw [List.nodup_append] at h2
  obtain ⟨q1, q2, q3⟩ := h2
  obtain ⟨g, o, cur, d, us, b, e1, _, hg, hh, hm, hd, ho, hb, hbn, hset⟩ := row_turn k1 q2 (len_map (E := eB) (k := 1) (fun _ => rfl)) (i := i) (by rw [List.length_map]; exact hi)
  simp only [Nat.mul_one] at hm hset
  match us, hm.1, hm, ho with
  | [u], _, hm, ho =>
  refine ⟨g, o, cur, u, e1, by simp [hg], hh, at_us (Mid.us hm) 0 (by omega), fun w' hg' hs => ?_⟩
  have hm' : Mid cur (cur.setIfInBounds (o + i) (.bool x)) (o + i) 1 [.bool x] := Mid.set hm 0 (by omega) (.bool x)
  obtain ⟨bs', p1, _, p2, p3⟩ := hset w' _ [.bool x] (eB x) [] hg' hm' (fun y hy hyg _ => hs y hyg) ⟨_, rfl, rfl, rfl⟩
  rw [← List.map_set] at p1
  refine ⟨b0 ++ bs', (own_app _ _).2 ⟨[v0], [.slice A n cap], b0, bs', rfl, rfl, own_same _ k0 (fun b hb => hs b (fun e => q3 b hb g hg e)), p1⟩, ?_, ?_⟩
  · rw [List.nodup_append]
    exact ⟨q1, p3 List.nodup_nil (fun y hy => by cases hy), fun a ha c hc e => (by rcases p2 c hc with hc | hc; exact q3 a ha c hc e; cases hc)⟩
  · intro b hb
    rw [List.mem_append] at hb ⊢
    rcases hb with hb | hb
    · exact .inl hb
    · rcases p2 b hb with hb | hb
      · exact .inr hb
      · cases hb
/-- one bool of a machine replaced -/
theorem ma_used {w : World} {B n cap : Nat} {v0 v2 : Value} {A : Option Addr} {m : GMachine} (h : Owned w B (eMachine m) [v0, .slice A n cap, v2]) {i : Nat} (hi : i < m.Frames.Used.length) (x : Bool) :
    ∃ g o cur u, A = some ⟨g, o, none⟩ ∧ B ≤ g ∧ w.heap[g]? = some (.cells cur 4 (0, 0)) ∧ cur[o + i]? = some u ∧ ∀ w' : World, w'.heap[g]? = some (.cells (cur.setIfInBounds (o + i) (.bool x)) 4 (0, 0)) → (∀ y, y ≠ g → w'.heap[y]? = w.heap[y]?) →
      Owned w' B (eMachine ⟨⟨m.Frames.Cells, m.Frames.Used.set i x⟩, m.Table⟩) [v0, .slice A n cap, v2] := by
  obtain ⟨bs, h1, h2, h3⟩ := h
  obtain ⟨b0, b1, rfl, k0, k1⟩ := parts_Machine h1
  rw [List.nodup_append] at h2
  obtain ⟨q1, q2, q3⟩ := h2
  obtain ⟨g, o, cur, u, e1, hg, hh, hu, hset⟩ := fr_usedB k0 q1 hi x
  refine ⟨g, o, cur, u, e1, h3 g (by simp [hg]), hh, hu, fun w' hg' hs => ?_⟩
  obtain ⟨bs', p1, p2, p3⟩ := hset w' hg' hs
  refine ⟨bs' ++ b1, (own_app _ _).2 ⟨[v0, .slice A n cap], [v2], bs', b1, rfl, rfl, p1, own_same _ k1 (fun y hy => hs y (fun e => q3 g hg y hy e.symm))⟩, ?_, ?_⟩
  · rw [List.nodup_append]
    exact ⟨p2, q2, fun a ha c hc e => q3 a (p3 a ha) c hc e⟩
  · intro y hy
    rw [List.mem_append] at hy
    rcases hy with hy | hy
    · exact h3 y (by simp [p3 y hy])
    · exact h3 y (by simp [hy])
/-- what was there, and what a drawing call has made -/
theorem join_step {W wu : World} {B k len cap : Nat} {a : Option Addr} {zs : List Int} {d e : D} {v1 v2 : List Value} (h1 : Owned W B d v1) (s : Dr.Step W wu k a len cap zs) (hk : k < B) (h2 : Owned wu W.heap.size e v2) (hB : B ≤ W.heap.size) : Owned wu B (d.app e) (v1 ++ v2) := by
  obtain ⟨q1, o1, d1, l1⟩ := h1
  obtain ⟨q2, o2, d2, l2⟩ := h2
  refine ⟨q1 ++ q2, (own_app _ _).2 ⟨_, _, q1, q2, rfl, rfl, own_same _ o1 (fun b hb => s.grown.block b (own_lt _ o1 b hb) (fun e => by have := l1 b hb; have := Option.some.inj e; omega)), o2⟩, ?_, ?_⟩
  · rw [List.nodup_append]
    exact ⟨d1, d2, fun a ha c hc e => by have h1 := own_lt _ o1 a ha; have h2 := l2 c hc; omega⟩
  · intro b hb
    rw [List.mem_append] at hb
    rcases hb with hb | hb
    · exact l1 b hb
    · have := l2 b hb; omega
theorem join_apart {w3 wu : World} {o : Obj} {B k len cap : Nat} {a : Option Addr} {zs : List Int} {d e : D} {v1 v2 : List Value} (h1 : Owned w3 B d v1) (s : Dr.Step (w3.alloc o).drew wu k a len cap zs) (hk : k < B) (h2 : Owned wu (w3.alloc o).drew.heap.size e v2) (hB : B ≤ w3.heap.size) :
    ∃ bs, Own wu (d.app e) (v1 ++ v2) bs ∧ bs.Nodup ∧ ∀ b ∈ bs, B ≤ b ∧ b ≠ w3.heap.size := by
  have hz : (w3.alloc o).drew.heap.size = w3.heap.size + 1 := by show (w3.alloc o).heap.size = _; simp
  rw [hz] at h2
  obtain ⟨q1, o1, d1, l1⟩ := h1
  obtain ⟨q2, o2, d2, l2⟩ := h2
  have hlt := own_lt _ o1
  refine ⟨q1 ++ q2, (own_app _ _).2 ⟨_, _, q1, q2, rfl, rfl, own_same _ o1 (fun b hb => (s.grown.block b (by rw [hz]; have := hlt b hb; omega) (fun e => by have := l1 b hb; have := Option.some.inj e; omega)).trans (Below.heap_alloc _ _ _ (hlt b hb))), o2⟩, ?_, ?_⟩
  · rw [List.nodup_append]
    exact ⟨d1, d2, fun a ha c hc e => by have h1 := hlt a ha; have h2 := l2 c hc; omega⟩
  · intro b hb
    rw [List.mem_append] at hb
    rcases hb with hb | hb
    · exact ⟨l1 b hb, by have := hlt b hb; omega⟩
    · have := l2 b hb; exact ⟨by omega, by omega⟩
/-- the variable of the machine, made by the statement that draws the table: its block g, its cells, and what is left as it was -/
structure MacBox (w : World) (B : Nat) (k len cap : Nat) (a : Option Addr) (zs : List Int) (d : D) (cs : List Value) (g : Nat) (w' : World) : Prop where
  step : Dr.Step w w' k a len cap zs
  own : Owned w' (B + 1) d cs
  block : w'.heap[g]? = some (.cells cs.toArray 32 (0, 0))
  res : w'.heap[B]? = some (.cells #[.slice none 0 0, .slice none 0 0, .slice none 0 0] 32 (0, 0))
  gt : B + 1 ≤ g
theorem macbox_new {w wu : World} {B k len cap : Nat} {a : Option Addr} {zs : List Int} {d : D} {x y z : Value} (hs : Dr.Step w wu k a len cap zs) (ho : Owned wu (B + 1) d [x, y, z]) (hr : wu.heap[B]? = some (.cells #[.slice none 0 0, .slice none 0 0, .slice none 0 0] 32 (0, 0))) (hB : B + 1 ≤ wu.heap.size) :
    MacBox w B k len cap a zs d [x, y, z] wu.heap.size (wu.alloc (.cells #[x, y, z] 32)) :=
  ⟨hs.alloc _, ho.alloc _, heap_alloc_new _ _, (Below.heap_alloc _ _ _ (by omega)).trans hr, hB⟩
theorem macbox_old {w wu : World} {B k len cap g : Nat} {a : Option Addr} {zs : List Int} {d : D} {x y z z0 z1 z2 : Value} (hs : Dr.Step w wu k a len cap zs) (hw : w.heap.size ≤ g) (hk : k < w.heap.size) (ho : ∃ bs, Own wu d [x, y, z] bs ∧ bs.Nodup ∧ ∀ b ∈ bs, B + 1 ≤ b ∧ b ≠ g) (hr : wu.heap[B]? = some (.cells #[.slice none 0 0, .slice none 0 0, .slice none 0 0] 32 (0, 0))) (hB : B + 1 ≤ g) (hx : wu.heap[g]? = some (.cells #[z0, z1, z2] 32 (0, 0))) :
    wu.cell? ⟨g, 0, none⟩ = some z0 ∧ wu.frozen? ⟨g, 0, none⟩ = false ∧ (wu.setCell ⟨g, 0, none⟩ x).cell? ⟨g, 1, none⟩ = some z1 ∧ (wu.setCell ⟨g, 0, none⟩ x).frozen? ⟨g, 1, none⟩ = false ∧
      ((wu.setCell ⟨g, 0, none⟩ x).setCell ⟨g, 1, none⟩ y).cell? ⟨g, 2, none⟩ = some z2 ∧ ((wu.setCell ⟨g, 0, none⟩ x).setCell ⟨g, 1, none⟩ y).frozen? ⟨g, 2, none⟩ = false ∧
      Hid (MacBox w B k len cap a zs d [x, y, z] g (((wu.setCell ⟨g, 0, none⟩ x).setCell ⟨g, 1, none⟩ y).setCell ⟨g, 2, none⟩ z)) := by
  have h1 := block_set hx 0 x
  have h2 := block_set h1 1 y
  have h3 := block_set h2 2 z
  have hfar : ∀ q, q ≠ g → (((wu.setCell ⟨g, 0, none⟩ x).setCell ⟨g, 1, none⟩ y).setCell ⟨g, 2, none⟩ z).heap[q]? = wu.heap[q]? := fun q hq => (Below.heap_setCell _ _ _ _ hq).trans ((Below.heap_setCell _ _ _ _ hq).trans (Below.heap_setCell _ _ _ _ hq))
  obtain ⟨bs, o1, o2, o3⟩ := ho
  exact ⟨cell_of_block hx 0, free_of_block hx 0, cell_of_block h1 1, free_of_block h1 1, cell_of_block h2 2, free_of_block h2 2,
    step_set (p := ⟨g, 2, none⟩) (step_set (p := ⟨g, 1, none⟩) (step_set (p := ⟨g, 0, none⟩) hs hw hk x) hw hk y) hw hk z, ⟨bs, own_same _ o1 (fun b hb => hfar b (o3 b hb).2), o2, fun b hb => (o3 b hb).1⟩, h3, (hfar B (by omega)).trans hr, hB⟩
theorem owned_lens3 {w : World} {B : Nat} {m : GMachine} {A A2 A3 : Option Addr} {n cap n2 cap2 n3 cap3 : Nat} (h : Owned w B (eMachine m) [.slice A n cap, .slice A2 n2 cap2, .slice A3 n3 cap3]) : n = m.Frames.Cells.length ∧ n2 = m.Frames.Used.length ∧ n3 = m.Table.Entries.length := by
  obtain ⟨bs, h1, _⟩ := h
  obtain ⟨b0, b1, rfl, k0, k1⟩ := parts_Machine h1
  obtain ⟨b2, b3, rfl, k2, k3⟩ := parts_Frames k0
  have e1 := (own_cells k2 (len_map (E := eIntS) (k := 1) (fun _ => rfl))).1
  have e2 := (own_cells k3 (len_map (E := eB) (k := 1) (fun _ => rfl))).1
  have e3 := (own_cells k1 (len_map (E := eEntry) (k := 2) (fun _ => rfl))).1
  rw [List.length_map] at e1 e2 e3
  exact ⟨e1, e2, e3⟩
theorem block_ne {w : World} {g h : Nat} {c d : Array Value} {T U : TypeId} (hg : w.heap[g]? = some (.cells c T (0, 0))) (hh : w.heap[h]? = some (.cells d U (0, 0))) (hne : T ≠ U) : g ≠ h := by
  intro e
  rw [e, hh] at hg
  have := Option.some.inj hg
  simp at this
  exact hne this.2.symm
def MacP (w : World) (k : Nat) (a : Option Addr) (len cap : Nat) (zs : List Int) (e : Ending) (w' : World) : Prop :=
  ∃ m us, okM m ∧ (1 ≤ m.Table.Entries.length ∧ m.Table.Entries.length ≤ 8) ∧ e = .returned (.agg us.toArray) ∧ Owned w' w.heap.size (eMachine m) us ∧ Dr.Step w w' k a len cap zs
set_option maxRecDepth 100000 in
set_option maxHeartbeats 2000000 in
theorem macCase {w : World} {k : Nat} {a : Option Addr} {len cap : Nat} {zs : List Int} (hs : Dr.Src w k a len cap zs) :
    Calls Tryd.prog 27 #[.pointer (some ⟨k, 0, none⟩)] w (MacP w k a len cap zs) := by
  have hkw := hs.lt
  have HS := Lib.hid hs
  clear hs
  obtain ⟨B, hs_B⟩ : ∃ B, w.heap.size = B := ⟨_, rfl⟩
  have hzo_ := hs_B
  have hx_ : (w.alloc (.cells #[.slice none 0 0, .slice none 0 0, .slice none 0 0] 32)).heap[B]? = some (.cells #[.slice none 0 0, .slice none 0 0, .slice none 0 0] 32 (0, 0)) := by rw [← hzo_]; exact heap_alloc_new w _
  have hb_ : Below w.heap.size w (w.alloc (.cells #[.slice none 0 0, .slice none 0 0, .slice none 0 0] 32)) := (Below.refl _ _).alloc (Nat.le_refl _) _
  have hz_ : (w.alloc (.cells #[.slice none 0 0, .slice none 0 0, .slice none 0 0] 32)).heap.size = B + 1 := by simp [hzo_]
  obtain ⟨w0, hw_⟩ : ∃ z, (w.alloc (.cells #[.slice none 0 0, .slice none 0 0, .slice none 0 0] 32)) = z := ⟨_, rfl⟩
  rw [hw_] at hx_ hb_ hz_
  have HX_w0 := Lib.hid hx_
  have HB_w0 := Lib.hid hb_
  have HW_w0 := Lib.hid hw_
  have hz_w0 := Lib.hid hz_
  clear hx_ hb_ hw_ hz_ hzo_
  have hST0 : Dr.Step w w0 k a len cap zs := by rw [← HW_w0.out]; exact HS.out.refl.alloc _
  have HST0 := Lib.hid hST0
  clear hST0
  go_enter Tryd.func27, Tryd.ntmps27
  go_wp2_with fail
  rw [HW_w0.out]
  refine (Dr.below HST0.out.src 4).mono ?_
  rintro e w1 ⟨x, hx0, hx1, _, rfl, hst⟩
  have hx4 : x < 4 := hx1 (by omega)
  have HST1 := Lib.hid (HST0.out.trans hst)
  have HXB1 := Lib.hid (block_step HX_w0.out hst (by omega))
  clear hx1 hst
  obtain ⟨q, rfl⟩ := Int.eq_ofNat_of_zero_le hx0
  obtain ⟨N, hq⟩ : ∃ N : Nat, (2 : Int) + (q : Int) = (N : Int) := ⟨q + 2, by omega⟩
  have hN2 : 2 ≤ N := by omega
  have hN5 : N ≤ 5 := by omega
  have HQ := Lib.hid hq
  clear hq
  go_wp2_with fail
  rw [HQ.out]
  have hpf : pFramesNew (N : Int) = (⟨List.replicate N (List.replicate 16 0), List.replicate N false⟩, true) := by
    unfold pFramesNew; rw [if_pos (by omega), Int.toNat_natCast]
  have HCALL := Lib.hid (spec_FramesNew (N : Int) w1 (by unfold okI; omega))
  rw [hpf] at HCALL
  clear hpf
  refine HCALL.out.mono ?_
  rintro e w2 ⟨us, rfl, hown, hb2⟩
  obtain ⟨f0, hf0⟩ : ∃ f0, (⟨List.replicate N (List.replicate 16 0), List.replicate N false⟩ : GFrames) = f0 := ⟨_, rfl⟩
  have hfc : f0.Cells.length = N := by rw [← hf0]; exact List.length_replicate
  have hfu : f0.Used = List.replicate N false := by rw [← hf0]
  have hok0 : okF f0 := by rw [← hf0]; exact ok_new (by omega) (by omega)
  have hown' : Owned w2 w1.heap.size (eFrames f0) us := by rw [← hf0]; exact hown
  have hsh := hown'
  obtain ⟨bs2, hsh, _⟩ := hsh
  obtain ⟨A, n, cp, A2, n2, cp2, rfl⟩ := sinv_Frames hsh
  obtain ⟨C, hs_C⟩ : ∃ B, w2.heap.size = B := ⟨_, rfl⟩
  have hzo_ := hs_C
  have hx_ : (w2.alloc (.cells #[.slice A n cp, .slice A2 n2 cp2] 27)).heap[C]? = some (.cells #[.slice A n cp, .slice A2 n2 cp2] 27 (0, 0)) := by rw [← hzo_]; exact heap_alloc_new w2 _
  have hb_ : Below w2.heap.size w2 (w2.alloc (.cells #[.slice A n cp, .slice A2 n2 cp2] 27)) := (Below.refl _ _).alloc (Nat.le_refl _) _
  have hz_ : (w2.alloc (.cells #[.slice A n cp, .slice A2 n2 cp2] 27)).heap.size = C + 1 := by simp [hzo_]
  obtain ⟨w3, hw_⟩ : ∃ z, (w2.alloc (.cells #[.slice A n cp, .slice A2 n2 cp2] 27)) = z := ⟨_, rfl⟩
  rw [hw_] at hx_ hb_ hz_
  have HX_w3 := Lib.hid hx_
  have HB_w3 := Lib.hid hb_
  have HW_w3 := Lib.hid hw_
  have hz_w3 := Lib.hid hz_
  clear hx_ hb_ hw_ hz_ hzo_
  have hB1 : B + 1 ≤ w1.heap.size := by have := HST1.out.grown.size; have := lt_of_block HXB1.out; omega
  have hHST3 : Dr.Step w w3 k a len cap zs := step_below HST1.out (below_step hb2 HB_w3.out) hkw
  have HST3 := Lib.hid hHST3
  have HO3 := Lib.hid ((hown'.below HB_w3.out).mono hB1)
  have HXB3 := Lib.hid (((below_step hb2 HB_w3.out).block B (lt_of_block HXB1.out)).trans HXB1.out)
  have hB3 : B + 1 ≤ w3.heap.size := by have := (below_step hb2 HB_w3.out).size; omega
  have hkB : k < B + 1 := by omega
  have hBC : B + 1 ≤ C := by have := hb2.size; omega
  have HFC := Lib.hid hfc
  have HFU := Lib.hid hfu
  have HOK0 := Lib.hid hok0
  clear hsh hfc hfu hok0 hown hown' hb2 hHST3 hf0 HCALL
  go_upto_region 3 with fail
  rw [HW_w3.out]
  have hsrc3 : Dr.Src w3.drew k a len cap zs := HST3.out.src.of_block (fun j hj => rfl)
  have hstd3 : Dr.Step w w3.drew k a len cap zs := ⟨⟨HST3.out.grown.os, HST3.out.grown.tape, HST3.out.grown.output, HST3.out.grown.size, HST3.out.grown.block⟩, hsrc3⟩
  have hsta3 : Dr.Step w (w3.alloc (.cells #[.slice none 0 0, .slice none 0 0, .slice none 0 0] 32)).drew k a len cap zs := by
    have h := HST3.out.alloc (.cells #[.slice none 0 0, .slice none 0 0, .slice none 0 0] 32)
    exact ⟨⟨h.grown.os, h.grown.tape, h.grown.output, h.grown.size, h.grown.block⟩, h.src.of_block (fun j hj => rfl)⟩
  have hwB : w.heap.size ≤ B := by omega
  have hCk : C ≠ k := by omega
  have hcC : w3.cell? ⟨C, 0, none⟩ = some (.slice A n cp) ∧ w3.cell? ⟨C, 1, none⟩ = some (.slice A2 n2 cp2) := ⟨cell_of_block HX_w3.out 0, cell_of_block HX_w3.out 1⟩
  have HSS := Lib.hid hsrc3
  have HSD := Lib.hid hstd3
  have HSA := Lib.hid hsta3
  have HK3 : Hid (∀ w' : World, w'.heap[C]? = w3.heap[C]? → w'.cell? ⟨C, 0, none⟩ = some (.slice A n cp) ∧ w'.cell? ⟨C, 1, none⟩ = some (.slice A2 n2 cp2)) := fun w' h => ⟨cell_of_block (h.trans HX_w3.out) 0, cell_of_block (h.trans HX_w3.out) 1⟩
  have hC3 : C < w3.heap.size := lt_of_block HX_w3.out
  have HKA := Lib.hid (HK3.out (w3.alloc (.cells #[.slice none 0 0, .slice none 0 0, .slice none 0 0] 32)).drew (Below.heap_alloc w3 _ _ hC3))
  have hzA : (w3.alloc (.cells #[.slice none 0 0, .slice none 0 0, .slice none 0 0] 32)).drew.heap.size = w3.heap.size + 1 := by show (w3.alloc _).heap.size = _; simp
  have HZA := Lib.hid hzA
  have HB3 := Lib.hid hB3
  clear hsrc3 hstd3 hsta3 hcC hzA
  go_cut [6] (fun s6 wx => ∃ (G : Nat) (t : GTable) (A3 : Option Addr) (n3 cp3 : Nat), s6 = .pointer (some ⟨G, 0, none⟩) ∧ Hid (tabOk (N : Int) t) ∧ Hid (MacBox w B k len cap a zs (eMachine ⟨f0, t⟩) [.slice A n cp, .slice A2 n2 cp2, .slice A3 n3 cp3] G wx))
  case first =>
    clear hs_C
    go_region_held3 (fun w' => w'.cell? ⟨C, 0, none⟩ = some (.slice A n cp) ∧ w'.cell? ⟨C, 1, none⟩ = some (.slice A2 n2 cp2)) (first | exact HK3.out _ rfl | exact HKA.out | exact hS7 | exact HK3.out _ ((Below.heap_alloc wu _ _ hCu).trans hxu) | exact HK3.out _ ((Below.heap_setCell _ _ _ _ (by show C ≠ w3.heap.size; omega)).trans hxu) | exact HK3.out _ ((Below.heap_setCell _ _ _ _ (by show C ≠ w3.heap.size; omega)).trans ((Below.heap_setCell _ _ _ _ (by show C ≠ w3.heap.size; omega)).trans hxu)) | exact HK3.out _ ((Below.heap_setCell _ _ _ _ (by show C ≠ w3.heap.size; omega)).trans ((Below.heap_setCell _ _ _ _ (by show C ≠ w3.heap.size; omega)).trans ((Below.heap_setCell _ _ _ _ (by show C ≠ w3.heap.size; omega)).trans hxu)))) (first
      | (go_at_call 55; (with_reducible refine (tabCase HSA.out.src (N : Int) (by omega) (by omega)).mono ?_); rintro eu wu ⟨t, us, hto, rfl, hot, hst⟩; have hq := hot; obtain ⟨bst, hq, _⟩ := hq; obtain ⟨A3, n3, cp3, rfl⟩ := sinv_Table hq; have hxu : wu.heap[C]? = w3.heap[C]? := ((hst.grown.block C (by rw [HZA.out]; omega) (fun e => by have := Option.some.inj e; omega)).trans (Below.heap_alloc w3 _ _ hC3)); have hS7 := HK3.out wu hxu; have hja := join_apart HO3.out hst hkB hot HB3.out; have hgx : wu.heap[w3.heap.size]? = some (.cells #[.slice none 0 0, .slice none 0 0, .slice none 0 0] 32 (0, 0)) := ((hst.grown.block w3.heap.size (by rw [HZA.out]; omega) (fun e => by have := Option.some.inj e; have := HB3.out; omega)).trans (heap_alloc_new w3 _)); have hrx := ((hst.grown.block B (by rw [HZA.out]; omega) (fun e => by have := Option.some.inj e; omega)).trans (Below.heap_alloc w3 _ _ (by omega))).trans HXB3.out; obtain ⟨q0, q1, q2, q3, q4, q5, hbx⟩ := macbox_old (HSA.out.trans hst) (by omega) hkw hja hrx HB3.out hgx; have HTO := Lib.hid hto)
      | (go_at_call 55; (with_reducible refine (tabCase HSS.out (N : Int) (by omega) (by omega)).mono ?_); rintro eu wu ⟨t, us, hto, rfl, hot, hst⟩; have hq := hot; obtain ⟨bst, hq, _⟩ := hq; obtain ⟨A3, n3, cp3, rfl⟩ := sinv_Table hq; have hxu : wu.heap[C]? = w3.heap[C]? := (hst.grown.block C hC3 (fun e => by have := Option.some.inj e; omega)); have hCu : C < wu.heap.size := (Nat.lt_of_lt_of_le hC3 hst.grown.size); have hS7 := HK3.out wu hxu; have hrx := (hst.grown.block B (by have := HB3.out; show B < w3.heap.size; omega) (fun e => by have := Option.some.inj e; omega)).trans HXB3.out; have hbx := Lib.hid (macbox_new (HSD.out.trans hst) (join_step (HO3.out.below ((Below.refl _ _).drew)) hst hkB hot HB3.out) hrx (Nat.le_trans HB3.out hst.grown.size)); have HTO := Lib.hid hto))
    all_goals go_wp2_with fail
    all_goals (go_meet; exact ⟨_, t, _, _, _, rfl, HTO.out, hbx.out⟩)
  case rest =>
    obtain ⟨G, t, A3, n3, cp3, rfl, HTO, HMB⟩ := hcut
    have HT4 := Lib.hid HMB.out.step
    have HO4 := Lib.hid HMB.out.own
    have HXG4 := Lib.hid HMB.out.block
    have HXB4 := Lib.hid HMB.out.res
    have hG := HMB.out.gt
    obtain ⟨h1, h2, h3⟩ := owned_lens3 HO4.out
    obtain rfl : N = n := by rw [h1]; exact HFC.out.symm
    obtain rfl : N = n2 := by
      have h4 : n2 = f0.Used.length := h2
      rw [h4, HFU.out, List.length_replicate]
    have hL8 : n3 ≤ 8 := by have := HTO.out.1.2; rw [← (show n3 = t.Entries.length from h3)] at this; exact this
    have HL := Lib.hid (show n3 = t.Entries.length from h3)
    have HFU0 : Hid (f0.Used.length = N) := by show _ = _; rw [HFU.out, List.length_replicate]
    have HU0 : Hid (usedTo t f0.Used 0) := by show usedTo _ _ _; rw [HFU.out]; exact usedTo_zero t N
    clear h1 h2 h3 HMB HKA HK3 HSS HSD HSA HZA
    go_wp2_with fail
    go_loopw [7] (fun c wr => ∃ (i : Nat) (fr : GFrames), i ≤ n3 ∧ c = .int .i64 i ∧ Hid (okF fr) ∧ Hid (fr.Cells.length = N ∧ fr.Used.length = N) ∧ Hid (usedTo t fr.Used i) ∧ Hid (Owned wr (B + 1) (eMachine ⟨fr, t⟩) [.slice A N cp, .slice A2 N cp2, .slice A3 n3 cp3]) ∧ Hid (wr.heap[B]? = some (.cells #[.slice none 0 0, .slice none 0 0, .slice none 0 0] 32 (0, 0))) ∧ Hid (wr.heap[G]? = some (.cells #[.slice A N cp, .slice A2 N cp2, .slice A3 n3 cp3] 32 (0, 0))) ∧ Hid (Dr.Step w wr k a len cap zs)) (fun c _ => n3 - (intOf c).toNat)
    case atStart => exact ⟨0, f0, Nat.zero_le _, rfl, HOK0.out, ⟨HFC.out, HFU0.out⟩, HU0.out, HO4.out, HXB4.out, HXG4.out, HT4.out⟩
    case round =>
      obtain ⟨i, fr, hi, rfl, HOK, HLEN, HUS, HO, HXB, HXG, HT⟩ := hrel
      have hk2 : wr.cell? ⟨G, 2, none⟩ = some (.slice A3 n3 cp3) := cell_of_block HXG.out 2
      by_cases hlt : (i : Int) < (n3 : Int)
      · have hi0 : (0 : Int) ≤ i := by omega
        obtain ⟨bs, hm0, _, hbB⟩ := HO.out
        obtain ⟨b0, b1, rfl, _, hT⟩ := parts_Machine hm0
        obtain ⟨A3', n3', cp3', e3, _, _, _, hA⟩ := read_rowD (T := 39) (E := eEntry) (k := 2) hT (fun _ => rfl)
        rw [Value.slice.injEq] at e3
        obtain ⟨rfl, rfl, rfl⟩ := e3
        obtain ⟨ge, oe, x, us, be, rfl, hx, hus, hc, ho, _⟩ := hA i (by omega)
        obtain rfl := inv_Entry ho
        obtain ⟨md, hmd⟩ : ∃ md, x.Mode = md := ⟨_, rfl⟩
        obtain ⟨fz, hfz⟩ : ∃ fz, x.Frame = fz := ⟨_, rfl⟩
        have hce0 : wr.cell? ⟨ge, oe + i * 2, none⟩ = some (.int .i64 md) := by rw [← hmd]; exact hc 0 (by omega)
        have hce1 : wr.cell? ⟨ge, oe + i * 2 + 1, none⟩ = some (.int .i64 fz) := by rw [← hfz]; exact hc 1 (by omega)
        have HX := Lib.hid hx
        have HMD := Lib.hid hmd
        have HFZ := Lib.hid hfz
        clear hm0 hbB hT hA hx hc ho hmd hfz
        go_upto_region 8 with fail
        obtain ⟨H, hs_H⟩ : ∃ B, wr.heap.size = B := ⟨_, rfl⟩
        have hzo_ := hs_H
        have hx_ : (wr.alloc (.cells #[.int .i64 md, .int .i64 fz] 39)).heap[H]? = some (.cells #[.int .i64 md, .int .i64 fz] 39 (0, 0)) := by rw [← hzo_]; exact heap_alloc_new wr _
        have hb_ : Below wr.heap.size wr (wr.alloc (.cells #[.int .i64 md, .int .i64 fz] 39)) := (Below.refl _ _).alloc (Nat.le_refl _) _
        have hz_ : (wr.alloc (.cells #[.int .i64 md, .int .i64 fz] 39)).heap.size = H + 1 := by simp [hzo_]
        obtain ⟨w5, hw_⟩ : ∃ z, (wr.alloc (.cells #[.int .i64 md, .int .i64 fz] 39)) = z := ⟨_, rfl⟩
        rw [hw_] at hx_ hb_ hz_
        have HX_w5 := Lib.hid hx_
        have HB_w5 := Lib.hid hb_
        have HW_w5 := Lib.hid hw_
        have hz_w5 := Lib.hid hz_
        clear hx_ hb_ hw_ hz_ hzo_
        rw [HW_w5.out]
        have hGr := lt_of_block HXG.out
        have hBr := lt_of_block HXB.out
        have HT5 : Hid (Dr.Step w w5 k a len cap zs) := by show Dr.Step _ _ _ _ _ _ _; rw [← HW_w5.out]; exact HT.out.alloc _
        have HO5 := Lib.hid (HO.out.below HB_w5.out)
        have HXB5 := Lib.hid ((HB_w5.out.block B hBr).trans HXB.out)
        have HXG5 := Lib.hid ((HB_w5.out.block G hGr).trans HXG.out)
        have hH0 : w5.cell? ⟨H, 0, none⟩ = some (.int .i64 md) := cell_of_block HX_w5.out 0
        have hH1 : w5.cell? ⟨H, 1, none⟩ = some (.int .i64 fz) := cell_of_block HX_w5.out 1
        have hG1 : w5.cell? ⟨G, 1, none⟩ = some (.slice A2 N cp2) := cell_of_block HXG5.out 1
        have hkH : H ≠ k := by have := HT.out.grown.size; omega
        clear hk2 hce0 hce1
        by_cases hz : md = 0
        · subst hz
          have HU5 := Lib.hid (usedTo_skip HUS.out HX.out HMD.out)
          go_wp2
          go_roundw
          case rel => exact ⟨i + 1, fr, by omega, by go_num, HOK.out, HLEN.out, HU5.out, HO5.out, HXB5.out, HXG5.out, HT5.out⟩
          case measure => simp [intOf]; omega
        · obtain ⟨f, hf, hfN, hmp⟩ : ∃ f : Nat, fz = (f : Int) ∧ f < N ∧ 0 < md := by
            have h1 := HTO.out.2 x (List.mem_of_getElem? HX.out)
            unfold okE at h1
            rw [HMD.out, HFZ.out] at h1
            exact ⟨fz.toNat, by omega, by omega, by omega⟩
          subst hf
          have hmb : decide ((0 : Int) < md) = true := decide_eq_true hmp
          obtain ⟨g1, o1, cur1, u1, e1, hg1B, hg1, hu1, hset1⟩ := ma_used HO5.out (i := f) (by have := HLEN.out.2; show f < fr.Used.length; omega) true
          subst e1
          have hg1G : g1 ≠ G := block_ne hg1 HXG5.out (by decide)
          have hg1H : g1 ≠ H := block_ne hg1 HX_w5.out (by decide)
          have hg1l := lt_of_block hg1
          have hk1 : w5.cell? ⟨g1, o1 + f, none⟩ = some u1 := (cell_of_block hg1 (o1 + f)).trans hu1
          have hf1 := free_of_block hg1 (o1 + f)
          have hfar1 : ∀ y, y ≠ g1 → (w5.setCell ⟨g1, o1 + f, none⟩ (.bool true)).heap[y]? = w5.heap[y]? := fun y hy => Below.heap_setCell _ _ _ _ hy
          obtain ⟨w6, hw6⟩ : ∃ w6, w5.setCell ⟨g1, o1 + f, none⟩ (.bool true) = w6 := ⟨_, rfl⟩
          have ho6 := hset1 _ (block_set hg1 (o1 + f) (.bool true)) hfar1
          have hxB6 := (hfar1 B (by omega)).trans HXB5.out
          have hxG6 := (hfar1 G (fun e => hg1G e.symm)).trans HXG5.out
          have hxH6 := (hfar1 H (fun e => hg1H e.symm)).trans HX_w5.out
          have ht6 := step_set (p := ⟨g1, o1 + f, none⟩) HT5.out (by show w.heap.size ≤ g1; omega) hkw (.bool true)
          rw [hw6] at ho6 hxB6 hxG6 hxH6 ht6
          have HW6 := Lib.hid hw6
          have HO6 := Lib.hid ho6
          have HXB6 := Lib.hid hxB6
          have HXG6 := Lib.hid hxG6
          have HXH6 := Lib.hid hxH6
          have HT6 := Lib.hid ht6
          have HOK1 := Lib.hid (ok_true HOK.out f)
          have HUF : Hid ((fr.Used.set f true)[f]? = some true) := List.getElem?_set_self (by have := HLEN.out.2; omega)
          obtain ⟨r, hr⟩ : ∃ r, fr.Cells[f]? = some r := ⟨_, List.getElem?_eq_getElem (by have := HLEN.out.1; omega)⟩
          have hr16 : r.length = 16 := ((okF_at.1 HOK1.out).2.2 f r true hr HUF.out).1
          have HR := Lib.hid hr
          have HR16 := Lib.hid hr16
          have HU6 := Lib.hid (usedTo_set HUS.out HX.out (by rw [HMD.out]; exact hz) HFZ.out (by have := HLEN.out.2; omega : f < fr.Used.length))
          have hf0 : (0 : Int) ≤ f := by omega
          have hfN2 : (f : Int) < N := by omega
          clear hset1 hg1 hu1 hw6 ho6 hxB6 hxG6 hxH6 ht6 hr hr16 hfar1
          go_upto_region 10 with fail
          rw [HW6.out]
          obtain ⟨gC, oC, g3, o3, cap3, cur3, u3, e3, hrow, hg3B, hg3, hu3, _⟩ := ma_cell HO6.out HR.out (k := 0) (by rw [HR16.out]; omega) 0
          subst e3
          rw [HR16.out] at hrow
          have hgCl : gC < w6.heap.size := World.block_lt_of_cell? w6 _ hrow
          have hgCB : B + 1 ≤ gC := by
            obtain ⟨bs, hm0, _, hbB⟩ := HO6.out
            obtain ⟨b0, b1, rfl, hF, _⟩ := parts_Machine hm0
            obtain ⟨b2, b3, rfl, hC, _⟩ := parts_Frames hF
            obtain ⟨A', cap', e', _, _, hA⟩ := own_row hC (len_map (E := eIntS) (k := 1) (fun _ => rfl))
            rw [Value.slice.injEq] at e'
            obtain ⟨g', o', _, _, _, _, _, e'', e3, _⟩ := hA f (by rw [List.length_map]; exact (List.getElem?_eq_some_iff.1 HR.out).1)
            rw [← e'.1] at e''
            obtain ⟨rfl, rfl⟩ : gC = g' ∧ oC = o' := by simpa using e''
            exact hbB gC (by simp [e3])
          have hsrc6 : Dr.Src w6.drew k a len cap zs := HT6.out.src.of_block (fun j hj => rfl)
          have htd6 : Dr.Step w w6.drew k a len cap zs := ⟨⟨HT6.out.grown.os, HT6.out.grown.tape, HT6.out.grown.output, HT6.out.grown.size, HT6.out.grown.block⟩, hsrc6⟩
          have HSRC6 := Lib.hid hsrc6
          have HTD6 := Lib.hid htd6
          have HOD6 := Lib.hid (HO6.out.below ((Below.refl _ _).drew))
          have HKEEP : Hid (∀ w', Dr.Step w6.drew w' k a len cap zs → w'.cell? ⟨G, 0, none⟩ = some (.slice (some ⟨gC, oC, none⟩) N cp) ∧ w'.cell? ⟨H, 1, none⟩ = some (.int .i64 f) ∧ w'.cell? ⟨gC, oC + f, none⟩ = some (.slice (some ⟨g3, o3, none⟩) 16 cap3)) := fun w' st =>
            ⟨cell_of_block (block_step (w := w6.drew) HXG6.out st (by omega)) 0, cell_of_block (block_step (w := w6.drew) HXH6.out st hkH) 1, (World.cell?_of_block (a := ⟨gC, oC + f, none⟩) (w := w6) (w' := w') (st.grown.block gC hgCl (fun e => by have := Option.some.inj e; omega))).trans hrow⟩
          have hS6 := HKEEP.out w6.drew hsrc6.refl
          have HFIN : Hid (∀ w7 (k1 : Nat) (y2 : Int), Dr.Step w6.drew w7 k a len cap zs → k1 < 16 → ∃ u7, w7.cell? ⟨g3, o3 + k1, none⟩ = some u7 ∧ w7.frozen? ⟨g3, o3 + k1, none⟩ = false ∧
              ((w7.setCell ⟨g3, o3 + k1, none⟩ (.int .i64 y2)).cell? ⟨G, 0, none⟩ = some (.slice (some ⟨gC, oC, none⟩) N cp) ∧ (w7.setCell ⟨g3, o3 + k1, none⟩ (.int .i64 y2)).cell? ⟨H, 1, none⟩ = some (.int .i64 f) ∧ (w7.setCell ⟨g3, o3 + k1, none⟩ (.int .i64 y2)).cell? ⟨gC, oC + f, none⟩ = some (.slice (some ⟨g3, o3, none⟩) 16 cap3)) ∧
              Hid ((w7.setCell ⟨g3, o3 + k1, none⟩ (.int .i64 y2)).heap[G]? = some (.cells #[.slice (some ⟨gC, oC, none⟩) N cp, .slice (some ⟨g1, o1, none⟩) N cp2, .slice (some ⟨ge, oe, none⟩) n3 cp3] 32 (0, 0))) ∧
              Hid (Owned (w7.setCell ⟨g3, o3 + k1, none⟩ (.int .i64 y2)) (B + 1) (eMachine ⟨⟨fr.Cells.set f (r.set k1 y2), fr.Used.set f true⟩, t⟩) [.slice (some ⟨gC, oC, none⟩) N cp, .slice (some ⟨g1, o1, none⟩) N cp2, .slice (some ⟨ge, oe, none⟩) n3 cp3]) ∧
              Hid ((w7.setCell ⟨g3, o3 + k1, none⟩ (.int .i64 y2)).heap[B]? = some (.cells #[.slice none 0 0, .slice none 0 0, .slice none 0 0] 32 (0, 0))) ∧
              Hid (Dr.Step w (w7.setCell ⟨g3, o3 + k1, none⟩ (.int .i64 y2)) k a len cap zs)) := by
            intro w7 k1 y2 hst hk16
            have hS7 := HKEEP.out w7 hst
            have ho7 := owned_step HOD6.out hst hkB
            obtain ⟨ga, oa, gb, ob, cap7, cur7, u7, e7, hrow7, hgB7, hg7, hu7, hset7⟩ := ma_cell ho7 HR.out (k := k1) (by rw [HR16.out]; omega) y2
            obtain ⟨rfl, rfl⟩ : gC = ga ∧ oC = oa := by simpa using e7
            obtain ⟨rfl, rfl⟩ : g3 = gb ∧ o3 = ob := by
              have h := hS7.2.2.symm.trans hrow7
              simp at h
              exact h.1
            have hxG := block_step (w := w6.drew) HXG6.out hst (by omega)
            have hxH := block_step (w := w6.drew) HXH6.out hst hkH
            have hxB := block_step (w := w6.drew) HXB6.out hst (by omega)
            have hgG : g3 ≠ G := block_ne hg7 hxG (by decide)
            have hgH : g3 ≠ H := block_ne hg7 hxH (by decide)
            have hgg : gC ≠ g3 := by
              obtain ⟨bs, hm0, _, _⟩ := ho7
              obtain ⟨b0, b1, rfl, hF, _⟩ := parts_Machine hm0
              obtain ⟨b2, b3, rfl, hC, _⟩ := parts_Frames hF
              obtain ⟨A', cap', e', _, _, hA⟩ := own_row hC (len_map (E := eIntS) (k := 1) (fun _ => rfl))
              rw [Value.slice.injEq] at e'
              obtain ⟨g', o', cur', _, _, _, _, e'', _, hh, _⟩ := hA f (by rw [List.length_map]; exact (List.getElem?_eq_some_iff.1 HR.out).1)
              rw [← e'.1] at e''
              obtain ⟨rfl, rfl⟩ : gC = g' ∧ oC = o' := by simpa using e''
              exact block_ne hh hg7 (by decide)
            have hfar : ∀ y, y ≠ g3 → (w7.setCell ⟨g3, o3 + k1, none⟩ (.int .i64 y2)).heap[y]? = w7.heap[y]? := fun y hy => Below.heap_setCell _ _ _ _ hy
            have hxG8 := (hfar G (fun e => hgG e.symm)).trans hxG
            have hxH8 := (hfar H (fun e => hgH e.symm)).trans hxH
            exact ⟨u7, (cell_of_block hg7 (o3 + k1)).trans hu7, free_of_block hg7 (o3 + k1), ⟨cell_of_block hxG8 0, cell_of_block hxH8 1, (World.cell?_of_block (a := ⟨gC, oC + f, none⟩) (w := w7) (hfar gC hgg)).trans hS7.2.2⟩, hxG8, hset7 _ (block_set hg7 (o3 + k1) (.int .i64 y2)) hfar, (hfar B (by omega)).trans hxB,
              step_set (p := ⟨g3, o3 + k1, none⟩) (HTD6.out.trans hst) (by show w.heap.size ≤ g3; omega) hkw (.int .i64 y2)⟩
          clear hsrc6 htd6 hrow hg3 hu3 hk1 hf1 hH0 hH1 hG1
          go_region_held3 (fun w' => w'.cell? ⟨G, 0, none⟩ = some (.slice (some ⟨gC, oC, none⟩) N cp) ∧ w'.cell? ⟨H, 1, none⟩ = some (.int .i64 f) ∧ w'.cell? ⟨gC, oC + f, none⟩ = some (.slice (some ⟨g3, o3, none⟩) 16 cap3)) (first | exact hS6 | exact hS7 | exact hS8 | exact hS9) (first | (go_at_call 29; refine (Dr.below hst7.src 1000).mono ?_; rintro e w8 ⟨y2, hy20, hy21, _, rfl, hst8⟩; have hS8 := HKEEP.out w8 (hst7.trans hst8); have hy2k : y2 < 1000 := hy21 (by omega); obtain ⟨u8, q0, q1, hS9, HXG9, HO9, HXB9, HT9⟩ := HFIN.out w8 k1 y2 (hst7.trans hst8) hy16n) | (go_at_call 29; refine (Dr.below HSRC6.out 16).mono ?_; rintro e w7 ⟨y1, hy10, hy11, _, rfl, hst7⟩; have hy16 : y1 < 16 := hy11 (by omega); obtain ⟨k1, rfl⟩ := Int.eq_ofNat_of_zero_le hy10; have hy16n : k1 < 16 := (by omega); have hS7 := HKEEP.out w7 hst7))
          have HOK9 := Lib.hid (ok_cell (k := k1) (v := y2) HOK1.out HUF.out HR.out hy20 (by omega))
          have HLEN9 : Hid ((fr.Cells.set f (r.set k1 y2)).length = N ∧ (fr.Used.set f true).length = N) := by show _ ∧ _; rw [List.length_set, List.length_set]; exact HLEN.out
          clear hS6 hS7 hS8 hS9 hst7 hst8 q0 q1
          go_wp2
          go_roundw
          case rel => exact ⟨i + 1, ⟨fr.Cells.set f (r.set k1 y2), fr.Used.set f true⟩, by omega, by go_num, HOK9.out, HLEN9.out, HU6.out, HO9.out, HXB9.out, HXG9.out, HT9.out⟩
          case measure => simp [intOf]; omega
      · obtain rfl : n3 = i := by omega
        have hk0 : wr.cell? ⟨G, 0, none⟩ = some (.slice A N cp) := cell_of_block HXG.out 0
        have hk1 : wr.cell? ⟨G, 1, none⟩ = some (.slice A2 N cp2) := cell_of_block HXG.out 1
        have h1 := block_set HXB.out 0 (.slice A N cp)
        have h2 := block_set h1 1 (.slice A2 N cp2)
        have q0 : wr.cell? ⟨B, 0, none⟩ = some (.slice none 0 0) := cell_of_block HXB.out 0
        have q1 := free_of_block HXB.out 0
        have q2 : (wr.setCell ⟨B, 0, none⟩ (.slice A N cp)).cell? ⟨B, 1, none⟩ = some (.slice none 0 0) := cell_of_block h1 1
        have q3 := free_of_block h1 1
        have q4 : ((wr.setCell ⟨B, 0, none⟩ (.slice A N cp)).setCell ⟨B, 1, none⟩ (.slice A2 N cp2)).cell? ⟨B, 2, none⟩ = some (.slice none 0 0) := cell_of_block h2 2
        have q5 := free_of_block h2 2
        have HG := Lib.hid (block_set h2 2 (.slice A3 n3 cp3))
        have HE := Lib.hid ((((HO.out.setCell (p := ⟨B, 0, none⟩) (by show B < B + 1; omega) (.slice A N cp)).setCell (p := ⟨B, 1, none⟩) (by show B < B + 1; omega) (.slice A2 N cp2)).setCell (p := ⟨B, 2, none⟩) (by show B < B + 1; omega) (.slice A3 n3 cp3)).mono (B' := w.heap.size) (by omega))
        have HTE := Lib.hid (step_set (p := ⟨B, 2, none⟩) (step_set (p := ⟨B, 1, none⟩) (step_set (p := ⟨B, 0, none⟩) HT.out (by show w.heap.size ≤ B; omega) hkw (.slice A N cp)) (by show w.heap.size ≤ B; omega) hkw (.slice A2 N cp2)) (by show w.heap.size ≤ B; omega) hkw (.slice A3 n3 cp3))
        have HEND : Hid (okM ⟨fr, t⟩) := okM_end HOK.out (fun e he => by rw [HLEN.out.1]; exact HTO.out.2 e he) HTO.out.1.1 HTO.out.1.2 (by rw [← HL.out]; exact HUS.out)
        clear h1 h2
        go_wp2
        refine ret_c rfl HG.out rfl Tryd.underlying32 rfl sizeM rfl ?_
        exact ⟨⟨fr, t⟩, [_, _, _], HEND.out, HTO.out.1, rfl, HE.out, HTE.out⟩
/-- a valid machine of at most eight pages, in memory of the call's own -/
def MachP (w : World) (e : Ending) (w' : World) : Prop := ∃ m us, okM m ∧ (1 ≤ m.Table.Entries.length ∧ m.Table.Entries.length ≤ 8) ∧ e = .returned (.agg us.toArray) ∧ Owned w' w.heap.size (eMachine m) us ∧ Below w.heap.size w w'
theorem drawMachine {w : World} {a : Option Addr} {len cap : Nat} {zs : List Int} (hr : Dr.IsRow .u8 w a len cap zs) (hlen : len ≤ 1048576) :
    Calls Tryd.prog 9 #[.slice a len cap] w (MachP w) := by
  obtain ⟨B, hs_B⟩ : ∃ B, w.heap.size = B := ⟨_, rfl⟩
  have hzo_ := hs_B
  have hx_ : (w.alloc (.cells #[.slice none 0 0, .slice none 0 0, .slice none 0 0] 32)).heap[B]? = some (.cells #[.slice none 0 0, .slice none 0 0, .slice none 0 0] 32 (0, 0)) := by rw [← hzo_]; exact heap_alloc_new w _
  have hb_ : Below w.heap.size w (w.alloc (.cells #[.slice none 0 0, .slice none 0 0, .slice none 0 0] 32)) := (Below.refl _ _).alloc (Nat.le_refl _) _
  have hz_ : (w.alloc (.cells #[.slice none 0 0, .slice none 0 0, .slice none 0 0] 32)).heap.size = B + 1 := by simp [hzo_]
  obtain ⟨w0, hw_⟩ : ∃ z, (w.alloc (.cells #[.slice none 0 0, .slice none 0 0, .slice none 0 0] 32)) = z := ⟨_, rfl⟩
  rw [hw_] at hx_ hb_ hz_
  have HX_w0 := Lib.hid hx_
  have HB_w0 := Lib.hid hb_
  have HW_w0 := Lib.hid hw_
  have hz_w0 := Lib.hid hz_
  clear hx_ hb_ hw_ hz_ hzo_
  have HR := Lib.hid (hr.of_block (w' := w0) (fun x hx hc => HB_w0.out.block x.block (hr.lt x hx hc)))
  clear hr
  have hz0 : B + 1 ≤ w0.heap.size := by have := hz_w0.out; omega
  go_enter Tryd.func9, Tryd.ntmps9
  go_wp2_with fail
  rw [HW_w0.out]
  refine (Dr.new HR.out hlen).mono ?_
  rintro e w1 ⟨rfl, hb1, hs1⟩
  have HB1 := Lib.hid hb1
  have H1 := Lib.hid hs1
  have HX1 := Lib.hid ((hb1.block B (by omega)).trans HX_w0.out)
  have HBB := Lib.hid (below_step HB_w0.out hb1)
  have hsz1 := hb1.size
  clear hb1 hs1
  go_wp2_with fail
  refine (macCase H1.out).mono ?_
  rintro e w2 ⟨m, us, hok, hl, rfl, hown, hst⟩
  have hsh := hown
  obtain ⟨bs2, hsh, _⟩ := hsh
  obtain ⟨A, n, cap, A2, n2, cap2, A3, n3, cap3, rfl⟩ := sinv_Machine hsh
  have HK := H1.out.lt
  have hx2 := block_step HX1.out hst (by omega)
  obtain ⟨q0, q1, q2, q3, q4, q5, HG, HE, HBE⟩ := ret3 (by omega) (stays_step HBB.out hst (by omega)) (hown.mono (B' := B + 1) (by omega)) (by omega) hx2
  have HOK := Lib.hid hok
  have HL := Lib.hid hl
  clear hsh hst hown hx2 hok hl
  go_wp2
  refine ret_c rfl HG.out rfl Tryd.underlying32 rfl sizeM rfl ?_
  exact ⟨m, [_, _, _], HOK.out, HL.out, rfl, HE.out, HBE.out⟩
end Tr
end Go.Proofs.YtkmkpjpopobdbaaDoor

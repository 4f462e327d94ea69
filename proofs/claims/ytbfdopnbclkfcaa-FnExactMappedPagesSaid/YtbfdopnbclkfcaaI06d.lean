/- Page tables: the program sets an entry. -/
import Derived.Test.YtbfdopnbclkfcaaI06c
namespace Go.Proofs.Ytbfdopnbclkfcaa
open Go.RowKit
set_option linter.unusedVariables false
namespace Tr
theorem okSet_iff (t : GTable) (page : Int) (e : GEntry) : okSet t page e ↔ (0 ≤ page ∧ page < (t.Entries.length : Int)) ∧ okA e.Mode e.Frame := Iff.rfl
set_option maxHeartbeats 2000000 in
theorem impl_SetPage (t : GTable) (c0 : Value) (page : Int) (e : GEntry) (w : World) (h : Rd w (eTable t) [c0]) (hs : (eTable t).sz ≤ 1048576) (hp : okI page) : Calls Try.prog 13 #[.agg #[c0], .int .i64 page, .agg #[.int .i64 e.Mode, .int .i64 e.Frame]] w (RetM (fun us => .tuple #[.agg us.toArray, .bool (pSetPage t page e).2]) (eTable (pSetPage t page e).1) w) := by
  obtain ⟨bs, h⟩ := h
  obtain ⟨A, n, cap, rfl⟩ := own_slice h
  obtain ⟨hn, hn'⟩ := row_n (T := 33) (k := 2) (E := eEntry) (l := t.Entries) h hs
  have hiff := okSet_iff t page e
  rw [← hn] at hiff
  obtain ⟨md, hmd⟩ : ∃ z, e.Mode = z := ⟨_, rfl⟩
  obtain ⟨fr, hfr⟩ : ∃ z, e.Frame = z := ⟨_, rfl⟩
  rw [hmd, hfr] at hiff
  rw [hmd, hfr]
  obtain ⟨B, hs_B⟩ : ∃ B, w.heap.size = B := ⟨_, rfl⟩
  have hzo_ := hs_B
  have hx_ : (w.alloc (.cells #[.slice A n cap] 28)).heap[B]? = some (.cells #[.slice A n cap] 28 (0, 0)) := by rw [← hzo_]; exact heap_alloc_new w _
  have hb_ : Below w.heap.size w (w.alloc (.cells #[.slice A n cap] 28)) := (Below.refl _ _).alloc (Nat.le_refl _) _
  have hz_ : (w.alloc (.cells #[.slice A n cap] 28)).heap.size = B + 1 := by simp [hzo_]
  obtain ⟨w0, hw_⟩ : ∃ z, (w.alloc (.cells #[.slice A n cap] 28)) = z := ⟨_, rfl⟩
  rw [hw_] at hx_ hb_ hz_
  have HX_w0 := Lib.hid hx_
  have HB_w0 := Lib.hid hb_
  have HW_w0 := Lib.hid hw_
  have hz_w0 := Lib.hid hz_
  clear hx_ hb_ hw_ hz_ hzo_
  have hzo_ := hz_w0.out
  have hx_ : (w0.alloc (.cells #[.int .i64 md, .int .i64 fr] 33)).heap[B + 1]? = some (.cells #[.int .i64 md, .int .i64 fr] 33 (0, 0)) := by rw [← hzo_]; exact heap_alloc_new w0 _
  have hb_ : Below w0.heap.size w0 (w0.alloc (.cells #[.int .i64 md, .int .i64 fr] 33)) := (Below.refl _ _).alloc (Nat.le_refl _) _
  have hz_ : (w0.alloc (.cells #[.int .i64 md, .int .i64 fr] 33)).heap.size = B + 1 + 1 := by simp [hzo_]
  obtain ⟨w1, hw_⟩ : ∃ z, (w0.alloc (.cells #[.int .i64 md, .int .i64 fr] 33)) = z := ⟨_, rfl⟩
  rw [hw_] at hx_ hb_ hz_
  have HX_w1 := Lib.hid hx_
  have HB_w1 := Lib.hid hb_
  have HW_w1 := Lib.hid hw_
  have hz_w1 := Lib.hid hz_
  clear hx_ hb_ hw_ hz_ hzo_
  have hzo_ := hz_w1.out
  have hx_ : (w1.alloc (.cells #[.slice none 0 0] 28)).heap[B + 1 + 1]? = some (.cells #[.slice none 0 0] 28 (0, 0)) := by rw [← hzo_]; exact heap_alloc_new w1 _
  have hb_ : Below w1.heap.size w1 (w1.alloc (.cells #[.slice none 0 0] 28)) := (Below.refl _ _).alloc (Nat.le_refl _) _
  have hz_ : (w1.alloc (.cells #[.slice none 0 0] 28)).heap.size = B + 1 + 1 + 1 := by simp [hzo_]
  obtain ⟨w2, hw_⟩ : ∃ z, (w1.alloc (.cells #[.slice none 0 0] 28)) = z := ⟨_, rfl⟩
  rw [hw_] at hx_ hb_ hz_
  have HX_w2 := Lib.hid hx_
  have HB_w2 := Lib.hid hb_
  have HW_w2 := Lib.hid hw_
  have hz_w2 := Lib.hid hz_
  clear hx_ hb_ hw_ hz_ hzo_
  have HB2 := Lib.hid (below_step (below_step HB_w0.out HB_w1.out) HB_w2.out)
  have H := Lib.hid (own_below h HB2.out (own_lt _ h))
  have HX0 := Lib.hid ((HB_w2.out.block _ (by have := hz_w1.out; omega)).trans ((HB_w1.out.block _ (by have := hz_w0.out; omega)).trans HX_w0.out))
  have HX1 := Lib.hid ((HB_w2.out.block _ (by have := hz_w1.out; omega)).trans HX_w1.out)
  have hcw2 : w2.cell? ⟨B, 0, none⟩ = some (.slice A n cap) := cell_of_block HX0.out 0
  have HN := Lib.hid hn
  have HMD := Lib.hid hmd
  have HFR := Lib.hid hfr
  have HIFF := Lib.hid hiff
  have HS := Lib.hid hs
  clear h hs hn hmd hfr hp hiff HX_w0 HX_w1
  go_enter Try.func13, Try.ntmps13
  go_wp2_with fail
  rw [HW_w0.out, HW_w1.out, HW_w2.out]
  refine (impl_CloneE t.Entries A n cap bs w2 H.out HS.out).mono ?_
  rintro e' w3 ⟨v3, rfl, hown3, hb3⟩
  have hsh := hown3
  obtain ⟨bs3, hsh, _⟩ := hsh
  obtain ⟨A1, n1, p1, rfl⟩ := own_slice hsh
  obtain ⟨hn1, _⟩ := row_n (T := 33) (k := 2) (E := eEntry) (l := t.Entries) hsh HS.out
  obtain rfl : n1 = n := by rw [hn1, HN.out]
  clear hn1 hsh
  obtain ⟨C, hs_C⟩ : ∃ B, w3.heap.size = B := ⟨_, rfl⟩
  have hzo_ := hs_C
  have hx_ : (w3.alloc (.cells #[.slice A1 n1 p1] 28)).heap[C]? = some (.cells #[.slice A1 n1 p1] 28 (0, 0)) := by rw [← hzo_]; exact heap_alloc_new w3 _
  have hb_ : Below w3.heap.size w3 (w3.alloc (.cells #[.slice A1 n1 p1] 28)) := (Below.refl _ _).alloc (Nat.le_refl _) _
  have hz_ : (w3.alloc (.cells #[.slice A1 n1 p1] 28)).heap.size = C + 1 := by simp [hzo_]
  obtain ⟨w4, hw_⟩ : ∃ z, (w3.alloc (.cells #[.slice A1 n1 p1] 28)) = z := ⟨_, rfl⟩
  rw [hw_] at hx_ hb_ hz_
  have HX_w4 := Lib.hid hx_
  have HB_w4 := Lib.hid hb_
  have HW_w4 := Lib.hid hw_
  have hz_w4 := Lib.hid hz_
  clear hx_ hb_ hw_ hz_ hzo_
  have HB34 := Lib.hid (below_step hb3 HB_w4.out)
  have HBA := Lib.hid (below_step HB2.out HB34.out)
  have HY0 := Lib.hid ((HB34.out.block _ (by have := hz_w2.out; omega)).trans HX0.out)
  have HY1 := Lib.hid ((HB34.out.block _ (by have := hz_w2.out; omega)).trans HX1.out)
  have HY2 := Lib.hid ((HB34.out.block _ (by have := hz_w2.out; omega)).trans HX_w2.out)
  have HO4 := Lib.hid (hown3.below HB_w4.out)
  have hC : B + 1 + 1 + 1 ≤ C := by have := hb3.size; have := hz_w2.out; omega
  have hz2 := hz_w2.out
  have hz4 := hz_w4.out
  rw [hz2] at HO4
  have hc0 : w4.cell? ⟨B, 0, none⟩ = some (.slice A n1 cap) := cell_of_block HY0.out 0
  have hBC : B < C := by omega
  have hBC1 : B + 1 < C := by omega
  have hBC2 : B + 1 + 1 < C := by omega
  have hl0 : w3.cell? ⟨B, 0, none⟩ = some (.slice A n1 cap) := cell_of_block ((hb3.block _ (by have := hz_w2.out; omega)).trans HX0.out) 0
  have HPE := Lib.hid (impl_pageExists t (.slice A n1 cap) page w4 (Rd.below ⟨_, H.out⟩ HB34.out) HS.out)
  rw [← HN.out] at HPE
  have HFAIL : Hid (∀ w5, Below w4.heap.size w4 w5 → ¬ okSet t page e → w5.heap[B + 1 + 1]? = some (.cells #[.slice none 0 0] 28 (0, 0)) ∧ w5.cell? ⟨C, 0, none⟩ = some (.slice A1 n1 p1) ∧ Owned (w5.setCell ⟨B + 1 + 1, 0, none⟩ (.slice A1 n1 p1)) w.heap.size (eTable (pSetPage t page e).1) [.slice A1 n1 p1] ∧ (pSetPage t page e).2 = false ∧ Below w.heap.size w (w5.setCell ⟨B + 1 + 1, 0, none⟩ (.slice A1 n1 p1))) := by
    intro w5 hb5 hno
    have hF : pSetPage t page e = (t, false) := by unfold pSetPage; rw [if_neg hno]
    refine ⟨(hb5.block _ (by omega)).trans HY2.out, cell_below hb5 (cell_of_block HX_w4.out 0), ?_, by rw [hF], ?_⟩
    · rw [hF]
      exact ((HO4.out.below hb5).setCell (by show B + 1 + 1 < B + 1 + 1 + 1; omega) _).mono (by omega)
    · exact (below_step HBA.out hb5).setCell (p := ⟨B + 1 + 1, 0, none⟩) (by show _ ≤ B + 1 + 1; omega) _
  clear hown3 hb3 hz2
  by_cases h1 : 0 ≤ page ∧ page < (n1 : Int)
  · have hd1 : decide (0 ≤ page ∧ page < (n1 : Int)) = true := decide_eq_true h1
    rw [hd1] at HPE
    clear hd1
    by_cases h2 : okA md fr
    · have hok := HIFF.out.2 ⟨h1, h2⟩
      have HF : Hid (pSetPage t page e = (⟨t.Entries.set page.toNat e⟩, true)) := by show _ = _; unfold pSetPage; rw [if_pos hok]
      have hd2 : decide (okA md fr) = true := decide_eq_true h2
      obtain ⟨i, rfl⟩ := Int.eq_ofNat_of_zero_le h1.1
      rw [Int.toNat_natCast] at HF
      have hin : i < n1 := by omega
      have hi0 : (0 : Int) ≤ i := by omega
      have hi2 : (i : Int) < n1 := by omega
      clear hok h1 h2
      go_wp2_with fail
      rw [HW_w4.out]
      refine HPE.out.mono ?_
      rintro e5 w5 ⟨rfl, hb5⟩
      have HB_w5 := Lib.hid hb5
      have he0 : w5.cell? ⟨B + 1, 0, none⟩ = some (.int .i64 md) := cell_below hb5 (cell_of_block HY1.out 0)
      have he1 : w5.cell? ⟨B + 1, 1, none⟩ = some (.int .i64 fr) := cell_below hb5 (cell_of_block HY1.out 1)
      have HEO := Lib.hid (impl_entryOk md fr w5)
      rw [hd2] at HEO
      clear hb5 hd2
      go_wp2_with fail
      refine HEO.out.mono ?_
      rintro e6 w6 ⟨rfl, hb6⟩
      have HB_w6 := Lib.hid hb6
      have HO6 := Lib.hid (HO4.out.below (Tr.below_step HB_w5.out HB_w6.out))
      have HBA6 := Lib.hid (below_step HBA.out (Tr.below_step HB_w5.out HB_w6.out))
      have hX6 : w6.heap[C]? = some (.cells #[.slice A1 n1 p1] 28 (0, 0)) := (((Tr.below_step HB_w5.out HB_w6.out)).block C (by omega)).trans HX_w4.out
      have hY6 : w6.heap[B + 1 + 1]? = some (.cells #[.slice none 0 0] 28 (0, 0)) := (((Tr.below_step HB_w5.out HB_w6.out)).block (B + 1 + 1) (by omega)).trans HY2.out
      have hf0 : w6.cell? ⟨B + 1, 0, none⟩ = some (.int .i64 md) := cell_below hb6 he0
      have hf1 : w6.cell? ⟨B + 1, 1, none⟩ = some (.int .i64 fr) := cell_below hb6 he1
      have hco : w6.cell? ⟨C, 0, none⟩ = some (.slice A1 n1 p1) := cell_of_block hX6 0
      obtain ⟨g, o, cur, us, e1, hgB, hg, hm, hset⟩ := owned_store HO6.out (E := eEntry) (k := 2) (T := 33) (l := t.Entries) (fun _ => rfl) hin e (us' := [.int .i64 md, .int .i64 fr]) (fun w' => ⟨_, by rw [HMD.out], _, by rw [HFR.out], rfl, rfl⟩)
      subst e1
      have hul := hm.1
      match us, hul, hm with
      | [z0, z1], _, hm =>
      have hgC : g ≠ C := by
        intro hh
        have h1 := hX6
        rw [hh] at hg
        rw [hg] at h1
        have := (Option.some.inj h1)
        simp at this
      have hk0 : w6.cell? ⟨g, o + i * 2, none⟩ = some z0 := Mid.cell (m := o + i * 2) (k := 2) hm hg 0 (by omega)
      have hfz0 := free_of_block hg (o + i * 2)
      have hg1 := block_set hg (o + i * 2) (.int .i64 md)
      have hm1 := Mid.set (k := 2) hm 0 (by omega) (.int .i64 md)
      have hk1 : (w6.setCell ⟨g, o + i * 2, none⟩ (.int .i64 md)).cell? ⟨g, o + i * 2 + 1, none⟩ = some z1 := Mid.cell (m := o + i * 2) (k := 2) hm1 hg1 1 (by omega)
      have hfz1 := free_of_block hg1 (o + i * 2 + 1)
      have hg2 := block_set hg1 (o + i * 2 + 1) (.int .i64 fr)
      have hm2 := Mid.set (k := 2) hm1 1 (by omega) (.int .i64 fr)
      have hfar : ∀ y, y ≠ g → ((w6.setCell ⟨g, o + i * 2, none⟩ (.int .i64 md)).setCell ⟨g, o + i * 2 + 1, none⟩ (.int .i64 fr)).heap[y]? = w6.heap[y]? := fun y hy => (Below.heap_setCell _ _ _ _ hy).trans (Below.heap_setCell _ _ _ _ hy)
      have hown5 := hset _ _ hg2 hm2 hfar
      have hY2 := (hfar (B + 1 + 1) (by omega)).trans hY6
      have hX4 := (hfar C (fun hh => hgC hh.symm)).trans hX6
      have HBE : Hid (Below w.heap.size w (((w6.setCell ⟨g, o + i * 2, none⟩ (.int .i64 md)).setCell ⟨g, o + i * 2 + 1, none⟩ (.int .i64 fr)).setCell ⟨B + 1 + 1, 0, none⟩ (.slice (some ⟨g, o, none⟩) n1 p1))) := ((HBA6.out.setCell (p := ⟨g, o + i * 2, none⟩) (by show _ ≤ g; omega) _).setCell (p := ⟨g, o + i * 2 + 1, none⟩) (by show _ ≤ g; omega) _).setCell (p := ⟨B + 1 + 1, 0, none⟩) (by show _ ≤ B + 1 + 1; omega) _
      have hcr5 : ((w6.setCell ⟨g, o + i * 2, none⟩ (.int .i64 md)).setCell ⟨g, o + i * 2 + 1, none⟩ (.int .i64 fr)).cell? ⟨B + 1 + 1, 0, none⟩ = some (.slice none 0 0) := cell_of_block hY2 0
      have hfr5 := free_of_block hY2 0
      have hco5 : ((w6.setCell ⟨g, o + i * 2, none⟩ (.int .i64 md)).setCell ⟨g, o + i * 2 + 1, none⟩ (.int .i64 fr)).cell? ⟨C, 0, none⟩ = some (.slice (some ⟨g, o, none⟩) n1 p1) := cell_of_block hX4 0
      have HG := Lib.hid (block_set hY2 0 (.slice (some ⟨g, o, none⟩) n1 p1))
      have HE : Hid (Owned (((w6.setCell ⟨g, o + i * 2, none⟩ (.int .i64 md)).setCell ⟨g, o + i * 2 + 1, none⟩ (.int .i64 fr)).setCell ⟨B + 1 + 1, 0, none⟩ (.slice (some ⟨g, o, none⟩) n1 p1)) w.heap.size (eTable ⟨t.Entries.set i e⟩) [.slice (some ⟨g, o, none⟩) n1 p1]) := (hown5.setCell (by show B + 1 + 1 < B + 1 + 1 + 1; omega) _).mono (by omega)
      clear hown5 hset hm hm1 hm2 hg hg1 hg2 hfar hY2 hX4 hb6 hX6 hY6
      go_wp2
      refine ret_ct rfl HG.out rfl Try.underlying28 rfl sizeT rfl ?_
      rw [HF.out]; exact ⟨[_], rfl, HE.out, HBE.out⟩
    · have hno : ¬ okSet t page e := fun hh => h2 (HIFF.out.1 hh).2
      have HNO := Lib.hid hno
      have hd2 : decide (okA md fr) = false := decide_eq_false h2
      clear hno h1 h2
      go_wp2_with fail
      rw [HW_w4.out]
      refine HPE.out.mono ?_
      rintro e5 w5 ⟨rfl, hb5⟩
      have HB_w5 := Lib.hid hb5
      have he0 : w5.cell? ⟨B + 1, 0, none⟩ = some (.int .i64 md) := cell_below hb5 (cell_of_block HY1.out 0)
      have he1 : w5.cell? ⟨B + 1, 1, none⟩ = some (.int .i64 fr) := cell_below hb5 (cell_of_block HY1.out 1)
      have HEO := Lib.hid (impl_entryOk md fr w5)
      rw [hd2] at HEO
      clear hb5 hd2
      go_wp2_with fail
      refine HEO.out.mono ?_
      rintro e6 w6 ⟨rfl, hb6⟩
      have HB_w6 := Lib.hid hb6
      obtain ⟨hy2, hco, ho, hr, hbe⟩ := HFAIL.out w6 (Tr.below_step HB_w5.out HB_w6.out) HNO.out
      have HO := Lib.hid ho
      have HR := Lib.hid hr
      have HBE := Lib.hid hbe
      have hcr : w6.cell? ⟨B + 1 + 1, 0, none⟩ = some (.slice none 0 0) := cell_of_block hy2 0
      have hfrz := free_of_block hy2 0
      have HG := Lib.hid (block_set hy2 0 (.slice A1 n1 p1))
      clear ho hr hbe hy2 hb6
      go_wp2
      refine ret_ct rfl HG.out rfl Try.underlying28 rfl sizeT rfl ?_
      exact ⟨[_], by rw [HR.out]; rfl, HO.out, HBE.out⟩
  · have hno : ¬ okSet t page e := fun hh => h1 (HIFF.out.1 hh).1
    have HNO := Lib.hid hno
    have hd1 : decide (0 ≤ page ∧ page < (n1 : Int)) = false := decide_eq_false h1
    rw [hd1] at HPE
    clear hno h1 hd1
    go_wp2_with fail
    rw [HW_w4.out]
    refine HPE.out.mono ?_
    rintro e5 w5 ⟨rfl, hb5⟩
    obtain ⟨hy2, hco, ho, hr, hbe⟩ := HFAIL.out w5 hb5 HNO.out
    have HO := Lib.hid ho
    have HR := Lib.hid hr
    have HBE := Lib.hid hbe
    have hcr : w5.cell? ⟨B + 1 + 1, 0, none⟩ = some (.slice none 0 0) := cell_of_block hy2 0
    have hfrz := free_of_block hy2 0
    have HG := Lib.hid (block_set hy2 0 (.slice A1 n1 p1))
    clear ho hr hbe hy2 hb5
    go_wp2
    refine ret_ct rfl HG.out rfl Try.underlying28 rfl sizeT rfl ?_
    exact ⟨[_], by rw [HR.out]; rfl, HO.out, HBE.out⟩
end Tr
end Go.Proofs.Ytbfdopnbclkfcaa

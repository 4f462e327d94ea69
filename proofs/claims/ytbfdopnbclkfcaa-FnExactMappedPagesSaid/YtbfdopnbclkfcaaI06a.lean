/- Page tables: the program's small functions, and its copy of the entries. -/
import Derived.Test.YtbfdopnbclkfcaaS06
import Derived.Lib.SliceRun
namespace Go.Proofs.Ytbfdopnbclkfcaa
open Go.RowKit
set_option linter.unusedVariables false
namespace Tr
theorem impl_isMapped (md fr : Int) (w : World) : Calls Try.prog 39 #[.agg #[.int .i64 md, .int .i64 fr]] w (RetP (.bool (md != 0)) w) := by
  obtain ⟨B, hs_B⟩ : ∃ B, w.heap.size = B := ⟨_, rfl⟩
  have hzo_ := hs_B
  have hx_ : (w.alloc (.cells #[.int .i64 md, .int .i64 fr] 33)).heap[B]? = some (.cells #[.int .i64 md, .int .i64 fr] 33 (0, 0)) := by rw [← hzo_]; exact heap_alloc_new w _
  have hb_ : Below w.heap.size w (w.alloc (.cells #[.int .i64 md, .int .i64 fr] 33)) := (Below.refl _ _).alloc (Nat.le_refl _) _
  have hz_ : (w.alloc (.cells #[.int .i64 md, .int .i64 fr] 33)).heap.size = B + 1 := by simp [hzo_]
  obtain ⟨w0, hw_⟩ : ∃ z, (w.alloc (.cells #[.int .i64 md, .int .i64 fr] 33)) = z := ⟨_, rfl⟩
  rw [hw_] at hx_ hb_ hz_
  have HX_w0 := Lib.hid hx_
  have HB_w0 := Lib.hid hb_
  have HW_w0 := Lib.hid hw_
  have hz_w0 := Lib.hid hz_
  clear hx_ hb_ hw_ hz_ hzo_
  have hc0 : w0.cell? ⟨B, 0, none⟩ = some (.int .i64 md) := cell_of_block HX_w0.out 0
  go_enter Try.func39, Try.ntmps39
  go_wp2_with fail
  rw [HW_w0.out]
  go_ret
  exact ⟨rfl, HB_w0.out⟩
/-- an entry of some table -/
def okA (md fr : Int) : Prop := (md = 0 ∧ fr = 0) ∨ ((md = 1 ∨ md = 2) ∧ 0 ≤ fr)
instance (md fr : Int) : Decidable (okA md fr) := by unfold okA; infer_instance
theorem impl_entryOk (md fr : Int) (w : World) : Calls Try.prog 38 #[.agg #[.int .i64 md, .int .i64 fr]] w (RetP (.bool (decide (okA md fr))) w) := by
  obtain ⟨B, hs_B⟩ : ∃ B, w.heap.size = B := ⟨_, rfl⟩
  have hzo_ := hs_B
  have hx_ : (w.alloc (.cells #[.int .i64 md, .int .i64 fr] 33)).heap[B]? = some (.cells #[.int .i64 md, .int .i64 fr] 33 (0, 0)) := by rw [← hzo_]; exact heap_alloc_new w _
  have hb_ : Below w.heap.size w (w.alloc (.cells #[.int .i64 md, .int .i64 fr] 33)) := (Below.refl _ _).alloc (Nat.le_refl _) _
  have hz_ : (w.alloc (.cells #[.int .i64 md, .int .i64 fr] 33)).heap.size = B + 1 := by simp [hzo_]
  obtain ⟨w0, hw_⟩ : ∃ z, (w.alloc (.cells #[.int .i64 md, .int .i64 fr] 33)) = z := ⟨_, rfl⟩
  rw [hw_] at hx_ hb_ hz_
  have HX_w0 := Lib.hid hx_
  have HB_w0 := Lib.hid hb_
  have HW_w0 := Lib.hid hw_
  have hz_w0 := Lib.hid hz_
  clear hx_ hb_ hw_ hz_ hzo_
  have hc0 : w0.cell? ⟨B, 0, none⟩ = some (.int .i64 md) := cell_of_block HX_w0.out 0
  have hc1 : w0.cell? ⟨B, 1, none⟩ = some (.int .i64 fr) := cell_of_block HX_w0.out 1
  have HC := Lib.hid (impl_isMapped md fr w0)
  by_cases h0 : md = 0
  · subst h0
    by_cases hf : fr = 0
    · subst hf
      have HF : Hid (decide (okA 0 0) = true) := decide_eq_true (.inl ⟨rfl, rfl⟩)
      go_enter Try.func38, Try.ntmps38
      go_wp2_with fail
      rw [HW_w0.out]
      refine HC.out.mono ?_
      rintro e w1 ⟨rfl, hb1⟩
      have hd0 : w1.cell? ⟨B, 0, none⟩ = some (.int .i64 0) := cell_below hb1 (cell_of_block HX_w0.out 0)
      have hd1 : w1.cell? ⟨B, 1, none⟩ = some (.int .i64 0) := cell_below hb1 (cell_of_block HX_w0.out 1)
      have HBE := Lib.hid (below_step HB_w0.out hb1)
      clear hb1
      go_wp2
      go_ret
      exact ⟨by rw [HF.out]; rfl, HBE.out⟩
    · have HF : Hid (decide (okA 0 fr) = false) := decide_eq_false (by unfold okA; omega)
      have hb : (fr == 0) = false := by simpa using hf
      have HFN := Lib.hid hf
      clear hf
      go_enter Try.func38, Try.ntmps38
      go_wp2_with fail
      rw [HW_w0.out]
      refine HC.out.mono ?_
      rintro e w1 ⟨rfl, hb1⟩
      have hd0 : w1.cell? ⟨B, 0, none⟩ = some (.int .i64 0) := cell_below hb1 (cell_of_block HX_w0.out 0)
      have hd1 : w1.cell? ⟨B, 1, none⟩ = some (.int .i64 fr) := cell_below hb1 (cell_of_block HX_w0.out 1)
      have HBE := Lib.hid (below_step HB_w0.out hb1)
      clear hb1
      go_wp2
      go_ret
      exact ⟨by rw [HF.out]; rfl, HBE.out⟩
  · have hm : (md != 0) = true := by rw [bne_iff_ne]; exact h0
    rw [hm] at HC
    have HD : Hid (decide (okA md fr) = (decide (1 ≤ md) && decide (md ≤ 2) && decide (0 ≤ fr))) := by
      show _ = _
      rw [← Bool.decide_and, ← Bool.decide_and, decide_eq_decide]
      unfold okA
      omega
    clear hm h0
    by_cases h1 : 1 ≤ md
    · by_cases h2 : md ≤ 2
      · by_cases h3 : 0 ≤ fr
        · have HF : Hid (decide (okA md fr) = true) := by show _ = _; rw [HD.out]; simp [h1, h2, h3]
          go_enter Try.func38, Try.ntmps38
          go_wp2_with fail
          rw [HW_w0.out]
          refine HC.out.mono ?_
          rintro e w1 ⟨rfl, hb1⟩
          have hd0 : w1.cell? ⟨B, 0, none⟩ = some (.int .i64 md) := cell_below hb1 (cell_of_block HX_w0.out 0)
          have hd1 : w1.cell? ⟨B, 1, none⟩ = some (.int .i64 fr) := cell_below hb1 (cell_of_block HX_w0.out 1)
          have HBE := Lib.hid (below_step HB_w0.out hb1)
          clear hb1
          go_wp2
          go_ret
          exact ⟨by rw [HF.out]; rfl, HBE.out⟩
        · have HF : Hid (decide (okA md fr) = false) := by show _ = _; rw [HD.out]; simp [h3]
          have h3' : decide (0 ≤ fr) = false := decide_eq_false h3
          clear h3
          go_enter Try.func38, Try.ntmps38
          go_wp2_with fail
          rw [HW_w0.out]
          refine HC.out.mono ?_
          rintro e w1 ⟨rfl, hb1⟩
          have hd0 : w1.cell? ⟨B, 0, none⟩ = some (.int .i64 md) := cell_below hb1 (cell_of_block HX_w0.out 0)
          have hd1 : w1.cell? ⟨B, 1, none⟩ = some (.int .i64 fr) := cell_below hb1 (cell_of_block HX_w0.out 1)
          have HBE := Lib.hid (below_step HB_w0.out hb1)
          clear hb1
          go_wp2
          go_ret
          exact ⟨by rw [HF.out]; rfl, HBE.out⟩
      · have HF : Hid (decide (okA md fr) = false) := by show _ = _; rw [HD.out]; simp [h2]
        have h2' : decide (md ≤ 2) = false := decide_eq_false h2
        clear h2
        go_enter Try.func38, Try.ntmps38
        go_wp2_with fail
        rw [HW_w0.out]
        refine HC.out.mono ?_
        rintro e w1 ⟨rfl, hb1⟩
        have hd0 : w1.cell? ⟨B, 0, none⟩ = some (.int .i64 md) := cell_below hb1 (cell_of_block HX_w0.out 0)
        have hd1 : w1.cell? ⟨B, 1, none⟩ = some (.int .i64 fr) := cell_below hb1 (cell_of_block HX_w0.out 1)
        have HBE := Lib.hid (below_step HB_w0.out hb1)
        clear hb1
        go_wp2
        go_ret
        exact ⟨by rw [HF.out]; rfl, HBE.out⟩
    · have HF : Hid (decide (okA md fr) = false) := by show _ = _; rw [HD.out]; simp [h1]
      have h1' : decide (1 ≤ md) = false := decide_eq_false h1
      clear h1
      go_enter Try.func38, Try.ntmps38
      go_wp2_with fail
      rw [HW_w0.out]
      refine HC.out.mono ?_
      rintro e w1 ⟨rfl, hb1⟩
      have hd0 : w1.cell? ⟨B, 0, none⟩ = some (.int .i64 md) := cell_below hb1 (cell_of_block HX_w0.out 0)
      have hd1 : w1.cell? ⟨B, 1, none⟩ = some (.int .i64 fr) := cell_below hb1 (cell_of_block HX_w0.out 1)
      have HBE := Lib.hid (below_step HB_w0.out hb1)
      clear hb1
      go_wp2
      go_ret
      exact ⟨by rw [HF.out]; rfl, HBE.out⟩
theorem impl_pageExists (t : GTable) (c0 : Value) (page : Int) (w : World) (h : Rd w (eTable t) [c0]) (hs : (eTable t).sz ≤ 1048576) : Calls Try.prog 37 #[.agg #[c0], .int .i64 page] w (RetP (.bool (decide (0 ≤ page ∧ page < (t.Entries.length : Int)))) w) := by
  obtain ⟨bs, h⟩ := h
  obtain ⟨A, n, cap, rfl⟩ := own_slice h
  obtain ⟨hn, hn'⟩ := row_n (T := 33) (k := 2) (E := eEntry) (l := t.Entries) h hs
  rw [← hn]
  obtain ⟨B, hs_B⟩ : ∃ B, w.heap.size = B := ⟨_, rfl⟩
  have hzo_ := hs_B
  have hx_ : (w.alloc (.cells #[.slice A n cap] 28)).heap[B]? = some (.cells #[.slice A n cap] 28 (0, 0)) := by rw [← hzo_]; exact heap_alloc_new w _
  have hb_ : Below w.heap.size w (w.alloc (.cells #[.slice A n cap] 28)) := (Below.refl _ _).alloc (Nat.le_refl _) _
  have hz_ : (w.alloc (.cells #[.slice A n cap] 28)).heap.size = B + 1 := by simp [hzo_]
  obtain ⟨w0, hw_⟩ : ∃ z, (w.alloc (.cells #[.slice A n cap] 28)) = z := ⟨_, rfl⟩
  rw [hw_] at hx_ hb_ hz_
  have HX_w0 := Lib.hid hx_
  have HB_w0 := Lib.hid hb_
  have HW_w0 := Lib.hid hw_
  have hz_w0 := Lib.hid hz_
  clear hx_ hb_ hw_ hz_ hzo_
  have hc0 : w0.cell? ⟨B, 0, none⟩ = some (.slice A n cap) := cell_of_block HX_w0.out 0
  clear h hs hn
  by_cases h1 : 0 ≤ page
  · by_cases h2 : page < (n : Int)
    · have HF : Hid (decide (0 ≤ page ∧ page < (n : Int)) = true) := decide_eq_true ⟨h1, h2⟩
      go_enter Try.func37, Try.ntmps37
      go_wp2_with fail
      rw [HW_w0.out]
      go_ret
      exact ⟨by rw [HF.out]; rfl, HB_w0.out⟩
    · have HF : Hid (decide (0 ≤ page ∧ page < (n : Int)) = false) := decide_eq_false (fun h => h2 h.2)
      have h2' : decide (page < (n : Int)) = false := decide_eq_false h2
      clear h2
      go_enter Try.func37, Try.ntmps37
      go_wp2_with fail
      rw [HW_w0.out]
      go_ret
      exact ⟨by rw [HF.out]; rfl, HB_w0.out⟩
  · have HF : Hid (decide (0 ≤ page ∧ page < (n : Int)) = false) := decide_eq_false (fun h => h1 h.1)
    have h1' : decide (0 ≤ page) = false := decide_eq_false h1
    clear h1
    go_enter Try.func37, Try.ntmps37
    go_wp2_with fail
    rw [HW_w0.out]
    go_ret
    exact ⟨by rw [HF.out]; rfl, HB_w0.out⟩
theorem impl_CloneE (l : List GEntry) (A : Option Addr) (n cap : Nat) (b : List Nat) (w : World) (h : Own w (rowD 33 2 eEntry l) [.slice A n cap] b) (hs : (rowD 33 2 eEntry l).sz ≤ 1048576) : Calls Try.prog 36 #[.slice A n cap] w (OwnP1 (rowD 33 2 eEntry l) w) := by
  obtain ⟨hn, hn'⟩ := row_n (T := 33) (k := 2) (E := eEntry) (l := l) h hs
  have hq := fun w => Lib.run_eql_slice_nil (P := Try.prog) w 26 33 A n cap 0 0 Try.underlying26
  cases A with
  | none =>
    have hn0 : l = [] := by
      obtain ⟨v', vs', b1, b2, e1, e2, ⟨rfl, rfl⟩, h2⟩ := h
      obtain ⟨rfl, _⟩ := List.cons.inj e1
      rcases h2 with ⟨_, h0, _⟩ | ⟨g, o, cp, cur, b, e, _⟩
      · exact List.map_eq_nil_iff.1 (List.length_eq_zero_iff.1 h0)
      · rw [Value.slice.injEq] at e; cases e.1
    subst hn0
    have HF : Hid (Owned w w.heap.size (rowD 33 2 eEntry []) [.slice none 0 0]) := ⟨[], ⟨_, [], [], [], rfl, rfl, ⟨rfl, rfl⟩, Or.inl ⟨⟨none, rfl⟩, rfl, rfl, rfl⟩⟩, by simp, by simp⟩
    clear h hn hs
    simp only [Option.isNone_none] at hq
    go_enter Try.func36, Try.ntmps36
    go_wp2
    go_ret
    exact ⟨_, rfl, HF.out, Below.refl _ _⟩
  | some ad =>
    simp only [Option.isNone_some] at hq
    have hu := h
    obtain ⟨i0, hi, hz0, hz1, hz2⟩ := info_parts infoE
    obtain ⟨B, hs_B⟩ : ∃ B, w.heap.size = B := ⟨_, rfl⟩
    have hzo_ := hs_B
    have hx_ : (w.alloc (.cells #[] 33)).heap[B]? = some (.cells #[] 33 (0, 0)) := by rw [← hzo_]; exact heap_alloc_new w _
    have hb_ : Below w.heap.size w (w.alloc (.cells #[] 33)) := (Below.refl _ _).alloc (Nat.le_refl _) _
    have hz_ : (w.alloc (.cells #[] 33)).heap.size = B + 1 := by simp [hzo_]
    obtain ⟨w2, hw_⟩ : ∃ z, (w.alloc (.cells #[] 33)) = z := ⟨_, rfl⟩
    rw [hw_] at hx_ hb_ hz_
    have HX_w2 := Lib.hid hx_
    have HB_w2 := Lib.hid hb_
    have HW_w2 := Lib.hid hw_
    have hz_w2 := Lib.hid hz_
    clear hx_ hb_ hw_ hz_ hzo_
    have HU := Lib.hid (own_below h HB_w2.out (own_lt _ h))
    have hown : w2.ownsRow B 33 2 (.slice (some ⟨B, 0, none⟩) 0 0) 0 [] := ⟨by simp, .inr ⟨_, 0, _, rfl, Nat.le_refl _, HX_w2.out, Nat.le_refl _, by unfold maxLen; omega, rfl, by simp⟩⟩
    have HO := Lib.hid hown
    have HSB := Lib.hid hs_B
    clear h hs hown hu hn
    go_enter Try.func36, Try.ntmps36
    go_wp2_with (at_builtin; rw [HW_w2.out]; refine wpList_copy_flat rfl _ _ 26 rfl B 33 i0 _ 2 16 Try.underlying26 hi hz0 hz1 hz2 rfl (by omega) _ rfl HO.out (some ad) n cap rfl eEntry l _ HU.out (fun _ => rfl) flatE (by omega) (by omega) (by have := hz_w2.out; omega) ?_)
    intro v' w3 hown3 hgrow
    have HU3 := Lib.hid hown3
    have HB3 := Lib.hid (HB_w2.out.grown hgrow (by have := hz_w2.out; omega) (fun k hk => by have : B = k := (by simpa [Value.ownBlock] using hk); omega))
    clear hown3 hgrow hq
    go_wp2
    go_ret
    exact ⟨_, rfl, HU3.out.mono (by rw [HSB.out]; exact Nat.le_refl _), HB3.out⟩
end Tr
end Go.Proofs.Ytbfdopnbclkfcaa

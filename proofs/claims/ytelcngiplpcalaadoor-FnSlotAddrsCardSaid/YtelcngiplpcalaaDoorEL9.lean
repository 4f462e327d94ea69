/- Spans: the two drawn laws, by a symbolic run. -/
import Derived.Test.YtelcngiplpcalaaDoorELa
import Derived.Test.YtelcngiplpcalaaDoorEDr9
import Derived.Test.YtelcngiplpcalaaDoorEI09n
namespace Go.Proofs.YtelcngiplpcalaaDoor
open Go.RowKit
set_option linter.unusedVariables false
set_option linter.unusedSimpArgs false
set_option maxRecDepth 100000
namespace Eng
open Tr
def c_SpanTakeR (t : Tb) (s : GSpan) (k : Int) (x : GSpan) (a b : Int) (ok : Bool) : CFD := ⟨15, [.agg [(CV.lit (.int .i64 (s.Page))), (CV.lit (.int .i64 (s.Class))), (CV.lit (.int .i64 (s.Bits)))], (SV.one (.lit (.int .i64 (k))))], [], .tup [.agg [(CV.lit (.int .i64 (x.Page))), (CV.lit (.int .i64 (x.Class))), (CV.lit (.int .i64 (x.Bits)))], (SV.one (.lit (.int .i64 (a)))), (SV.one (.lit (.int .i64 (b)))), (SV.one (.lit (.bool (ok))))], [], [], t.both⟩
theorem fn_SpanTakeR (t : Tb) (s : GSpan) (k : Int) (x : GSpan) (a b : Int) (ok : Bool) (h : pSpanTake s k = (x, a, b, ok)) : Fn Tryd.prog (c_SpanTakeR t s k x a b ok) := by
  have := fn_SpanTakeI t s k
  unfold c_SpanTakeI at this
  rw [h] at this
  exact this
def c_SpanGiveR (t : Tb) (s : GSpan) (k : Int) (x : GSpan) (ok : Bool) : CFD := ⟨17, [.agg [(CV.lit (.int .i64 (s.Page))), (CV.lit (.int .i64 (s.Class))), (CV.lit (.int .i64 (s.Bits)))], (SV.one (.lit (.int .i64 (k))))], [], .tup [.agg [(CV.lit (.int .i64 (x.Page))), (CV.lit (.int .i64 (x.Class))), (CV.lit (.int .i64 (x.Bits)))], (SV.one (.lit (.bool (ok))))], [], [], t.both⟩
theorem fn_SpanGiveR (t : Tb) (s : GSpan) (k : Int) (x : GSpan) (ok : Bool) (h : pSpanGive s k = (x, ok)) : Fn Tryd.prog (c_SpanGiveR t s k x ok) := by
  have := fn_SpanGiveI t s k
  unfold c_SpanGiveI at this
  rw [h] at this
  exact this
def c_Spans (t : Tb) (bs : List Int) : CFD := ⟨3, [.one (ro 5 1 eU bs)], [], (TV.sv (.one (.lit (.bool (true))))), [], [], t.both⟩
/-- what was taken is given back -/
theorem give_back {s : GSpan} {k : Int} (h : canTake s k) :
    Bm.has s.Bits (sSlot s k) = false ∧ pSpanOk ⟨s.Page, s.Class, Bm.set s.Bits (sSlot s k)⟩ = true ∧ pSpanGive ⟨s.Page, s.Class, Bm.set s.Bits (sSlot s k)⟩ (sSlot s k) = (s, true) ∧ pSpanGive s (sSlot s k) = (s, false) ∧ Sd.pickS k (sFree s).length = Sd.nextN k := by
  have hm := freeL_mem (slot_in (k := k) h.2.1)
  have hb := bits_bd h.1
  obtain ⟨hp, hM⟩ := span_parts h.1
  have hmb := Bm.map_bd hM
  obtain ⟨B, hB⟩ := Int.eq_ofNat_of_zero_le hb.1
  obtain ⟨j, hj⟩ := Int.eq_ofNat_of_zero_le hm.1
  obtain ⟨N, hN⟩ := Int.eq_ofNat_of_zero_le (show 0 ≤ Cl.slots s.Class by omega)
  have hB2 : B < 2 ^ N := by
    have h4 := hmb.2.2.2
    rw [hB, hN, Int.toNat_natCast] at h4
    have e : ((2 : Int) ^ N) = ((2 ^ N : Nat) : Int) := by simp
    rw [e] at h4; omega
  have hne : B.testBit j = false := by
    have := hm.2.2.2.2
    rw [hB, hj, Bm.has_nat B j (by omega)] at this
    exact this
  have hs := Bm.ok_set N B j (by omega) (by omega) hB2 (by omega)
  have hself := Bm.has_set_self B j (by omega)
  have hun : Bm.unset (Bm.set (B : Int) j) j = (B : Int) := by
    rw [Bm.set_nat B j (by omega), Bm.unset_nat (B ||| 2 ^ j) j (by omega)]
    have : Bm.clr (B ||| 2 ^ j) j = B := by
      refine Nat.eq_of_testBit_eq fun i => ?_
      have hB64 : B < 2 ^ 64 := Nat.lt_of_lt_of_le hB2 (Nat.pow_le_pow_right (by decide) (by omega))
      by_cases hi : i < 64
      · rw [Bm.test_clr _ _ _ (by omega) hi, Bm.test_set]
        by_cases e : j = i
        · subst e; rw [hne]; simp
        · simp [e]
      · rw [Bm.high B 64 i hB64 (by omega)]
        unfold Bm.clr
        rw [Nat.testBit_and, Nat.testBit_or, Bm.high B 64 i hB64 (by omega), Bm.high (2 ^ j) 64 i (Nat.pow_lt_pow_right (by decide) (by omega)) (by omega)]
        rfl
    rw [this]
  refine ⟨hm.2.2.2.2, ?_, ?_, ?_, ?_⟩
  · unfold pSpanOk
    rw [Bool.and_eq_true, decide_eq_true_eq]
    exact ⟨hp, by rw [hB, hj, hN]; exact hs⟩
  · unfold pSpanGive
    rw [if_pos]
    · simp only
      rw [hB, hj, hun, ← hB]
    · refine ⟨?_, by simp only; rw [hB, hj]; exact hself⟩
      unfold pSpanOk
      rw [Bool.and_eq_true, decide_eq_true_eq]
      exact ⟨hp, by rw [hB, hj, hN]; exact hs⟩
  · unfold pSpanGive
    rw [if_neg]
    rw [hm.2.2.2.2]
    simp
  · have h1 := h.2.1
    have h2 := h.2.2
    have h3 : (sFree s).length ≤ 16 := freeL_len _ _
    unfold Sd.pickS
    rw [if_pos ⟨by omega, by omega⟩]
theorem fn_Spans (t : Tb) (bs : List Int) (hb : ∀ x ∈ bs, 0 ≤ x ∧ x ≤ 255) : Fn Tryd.prog (c_Spans t bs) := by
  by_cases hl : (1048576 : Int) < (bs.length : Int)
  · have hd := decide_eq_true hl
    refine fn_intro tt_ok Tryd.func3 rfl Tryd.call3 Tryd.ntmps3 Tryd.results3 rfl rfl rfl rfl ?_
    intro X ρ0 hb_ hgl_
    dsimp only [c_Spans, Int.toNat_natCast, ro, Nat.reduceAdd, Nat.reduceMul, Nat.zero_add, List.map, putT, app, wrapG, gOb, argT, keys, slotOf, dropped, gAnd, wB, rnT, rnS, rnC, rnCs, rnSs, rnM, rnB, rnN, rn, lk, St.over, ded, delL, keepT, menT, menSs, menS, menCs, menC, hasN, resT, SV.cells]
    repeat' (refine ar_id ?_; first | refine ar_seq ?_ | refine ar_block ?_ | refine ar_blk ?_ | refine ar_skip ?_ | refine ar_label ?_ | refine ar_exit rfl ?_ | refine ar_scope ?_ | refine ar_scp ?_ | (first | ((first | refine ar_region (id := 1) tt_ok (inps := [.call (c_big bs)]) rfl ?_ ?_ | refine ar_region tt_ok (inps := []) rfl ?_ ?_); rotate_left; (try dsimp only [Int.toNat_natCast, ro, Nat.reduceAdd, Nat.reduceMul, Nat.zero_add, List.map, putT, app, wrapG, gOb, argT, keys, slotOf, dropped, gAnd, wB, rnT, rnS, rnC, rnCs, rnSs, rnM, rnB, rnN, rn, lk, St.over, ded, delL, keepT, menT, menSs, menS, menCs, menC, hasN, resT, SV.cells, c_big, mpM, mpTL, mpT, mpSs, mpS, mpCs, mpC, mpN]); rotate_right) | ((first | refine ar_ret ?_ | refine ar_end ?_); refine fin_auto2 rfl (by dsimp only [Nat.reduceAdd, Nat.reduceMul, Nat.zero_add, List.map, mpM, mpTL, mpT, mpSs, mpS, mpCs, mpC, mpN, lk, idN, keys, resT, ro] <;> exact rfl) (by dsimp only [Nat.reduceAdd, Nat.reduceMul, Nat.zero_add, List.map, wkOb, finOb, xTL, xM, xT, xSs, xS, xCs, xC, xB, okTL, okML, okT, okSs, okS, okCs, okC, okB, nodupN, rnN, allIn, fixed, rn, lk, hasN, app, SV.cells, ro, keys, resT] <;> exact rfl) ?_)) | (refine ar_cond rfl trivial ?_ ?_ <;> intro hc_ <;> (try simp only [isNilI, inB, reduceCtorEq, cds] at hc_) <;> (try (first | contradiction | (exfalso; omega)))) | refine ar_until (And.intro ?_ (wk_auto2 (by dsimp only [Nat.reduceAdd, Nat.reduceMul, Nat.zero_add, List.map, mpM, mpTL, mpT, mpSs, mpS, mpCs, mpC, mpN, lk, idN, keys, resT, ro] <;> exact rfl) (by dsimp only [Nat.reduceAdd, Nat.reduceMul, Nat.zero_add, List.map, wkOb, finOb, xTL, xM, xT, xSs, xS, xCs, xC, xB, okTL, okML, okT, okSs, okS, okCs, okC, okB, nodupN, rnN, allIn, fixed, rn, lk, hasN, app, SV.cells, ro, keys, resT] <;> exact rfl) ?_)))
    all_goals (first | refine ar_id ?_ | (try (focus ((try dsimp only [okX, GlAll, app, gOb, All, gAnd, wB, rnT, rnS, rnC, rnCs, rnSs, rnB, rn, lk, obD]); (repeat' (first | exact True.intro | refine And.intro ?_ ?_)); all_goals (try (intro (hg_ : _ = true); (try simp only [isNilI, inB, reduceCtorEq, cds] at hg_); (repeat' (first | exact True.intro | refine And.intro ?_ ?_)))); all_goals (first | first | with_reducible rfl | omega | exact Nat.le_refl _ | exact congrArg (Value.int .i64) (by omega) | (simp only [List.length_map]; first | done | omega) | (simp only [lns]; omega) | exact i64_ok (by omega) (by omega) | exact elem_map (fun _ => rfl) (by assumption) | exact elem_map (fun _ => rfl) (getD_at (by omega)) | exact elem_map' (fun _ => rfl) (by omega) | exact map_at (by omega) | exact set_at (by simp only [lns]; omega) | (rw [List.length_replicate, Int.toNat_natCast] at *; omega) | assumption | decide | exact fn_big bs | skip)))))
  · have hl' : bs.length ≤ 1048576 := by omega
    obtain ⟨p0, hp0⟩ : ∃ p, (places bs).getD 0 0 = p := ⟨_, rfl⟩
    have hq0 : 0 ≤ p0 ∧ p0 < 10000 := hp0 ▸ plV_lt bs 0
    have hpl : (places bs).length = 12 := by unfold places; simp
    have e0 : ((places bs).map eI)[0]? = some (eI p0) := by rw [← hp0]; exact map_at (by omega)
    have hok := dSpan_valid bs (dNew bs)
    have hd := fn_DrawSpan bs hl' hb
    unfold c_DrawSpan at hd
    generalize (dSpan bs (dNew bs)).1 = s at hok hd
    have hbd := bits_bd hok
    by_cases hC : canTake s p0
    · have hV : pSpanTake s p0 = (⟨s.Page, s.Class, Bm.set s.Bits (sSlot s p0)⟩, sSlot s p0, Sd.pickS p0 (sFree s).length, true) := if_pos hC
      obtain ⟨g1, g2, g3, g4, g5⟩ := give_back hC
      rw [g5] at hV
      generalize hx : sSlot s p0 = z at *
      refine fn_intro tt_ok Tryd.func3 rfl Tryd.call3 Tryd.ntmps3 Tryd.results3 rfl rfl rfl rfl ?_
      intro X ρ0 hb_ hgl_
      dsimp only [c_Spans, Int.toNat_natCast, ro, Nat.reduceAdd, Nat.reduceMul, Nat.zero_add, List.map, putT, app, wrapG, gOb, argT, keys, slotOf, dropped, gAnd, wB, rnT, rnS, rnC, rnCs, rnSs, rnM, rnB, rnN, rn, lk, St.over, ded, delL, keepT, menT, menSs, menS, menCs, menC, hasN, resT, SV.cells]
      repeat' (refine ar_id ?_; first | refine ar_seq ?_ | refine ar_block ?_ | refine ar_blk ?_ | refine ar_skip ?_ | refine ar_label ?_ | refine ar_exit rfl ?_ | refine ar_scope ?_ | refine ar_scp ?_ | (first | ((first | refine ar_region (id := 1) tt_ok (inps := [.call (c_big bs)]) rfl ?_ ?_ | refine ar_region (id := 3) tt_ok (inps := [.call (⟨13, [.one (ro 5 1 eU bs)], [], .sv (.agg [(CV.lit (.int .i64 (s.Page))), (CV.lit (.int .i64 (s.Class))), (CV.lit (.int .i64 (s.Bits)))]), [], [], []⟩)]) rfl ?_ ?_ | refine ar_region (id := 4) tt_ok (inps := [.call (c_Places bs)]) rfl ?_ ?_ | refine ar_draw (id := 5) (inps := [.elem (eI p0), .call (c_SpanTakeR t s p0 ⟨s.Page, s.Class, Bm.set s.Bits z⟩ z (Sd.nextN p0) true)]) tt_ok (by kernel_rfl) rfl rfl (by kernel_rfl) rfl rfl rfl rfl ?_ ?_ | refine ar_region (id := 8) tt_ok (inps := [.call (c_SpanGiveR t ⟨s.Page, s.Class, Bm.set s.Bits z⟩ z s true)]) rfl ?_ ?_ | refine ar_region (id := 9) tt_ok (inps := [.call (c_SpanGiveR t s z s false)]) rfl ?_ ?_ | refine ar_region (id := 10) tt_ok (inps := [.call (c_HasS s.Bits z), .call (c_SpanOkI t ⟨s.Page, s.Class, Bm.set s.Bits z⟩), .elem (eI p0), .call (c_NextS p0)]) rfl ?_ ?_ | refine ar_region tt_ok (inps := []) rfl ?_ ?_); rotate_left; (try dsimp only [Int.toNat_natCast, ro, Nat.reduceAdd, Nat.reduceMul, Nat.zero_add, List.map, putT, app, wrapG, gOb, argT, keys, slotOf, dropped, gAnd, wB, rnT, rnS, rnC, rnCs, rnSs, rnM, rnB, rnN, rn, lk, St.over, ded, delL, keepT, menT, menSs, menS, menCs, menC, hasN, resT, SV.cells, c_HasS, c_NextS, c_Places, c_SpanGiveR, c_SpanOkI, c_SpanTakeR, c_big, mpM, mpTL, mpT, mpSs, mpS, mpCs, mpC, mpN, endT, endM, endU, insN, addN]); rotate_right) | ((first | refine ar_ret ?_ | refine ar_end ?_); refine fin_auto2 rfl (by dsimp only [Nat.reduceAdd, Nat.reduceMul, Nat.zero_add, List.map, mpM, mpTL, mpT, mpSs, mpS, mpCs, mpC, mpN, lk, idN, keys, resT, ro] <;> exact rfl) (by dsimp only [Nat.reduceAdd, Nat.reduceMul, Nat.zero_add, List.map, wkOb, finOb, xTL, xM, xT, xSs, xS, xCs, xC, xB, okTL, okML, okT, okSs, okS, okCs, okC, okB, nodupN, rnN, allIn, fixed, rn, lk, hasN, app, SV.cells, ro, keys, resT] <;> exact rfl) ?_)) | (refine ar_cond rfl trivial ?_ ?_ <;> intro hc_ <;> (try simp only [isNilI, inB, reduceCtorEq, cds] at hc_) <;> (try (first | contradiction | (exfalso; omega)))) | refine ar_until (And.intro ?_ (wk_auto2 (by dsimp only [Nat.reduceAdd, Nat.reduceMul, Nat.zero_add, List.map, mpM, mpTL, mpT, mpSs, mpS, mpCs, mpC, mpN, lk, idN, keys, resT, ro] <;> exact rfl) (by dsimp only [Nat.reduceAdd, Nat.reduceMul, Nat.zero_add, List.map, wkOb, finOb, xTL, xM, xT, xSs, xS, xCs, xC, xB, okTL, okML, okT, okSs, okS, okCs, okC, okB, nodupN, rnN, allIn, fixed, rn, lk, hasN, app, SV.cells, ro, keys, resT] <;> exact rfl) ?_)))
      all_goals (first | refine ar_id ?_ | (try (focus ((try dsimp only [okX, GlAll, app, gOb, All, gAnd, wB, rnT, rnS, rnC, rnCs, rnSs, rnB, rn, lk, obD]); (repeat' (first | exact True.intro | refine And.intro ?_ ?_)); all_goals (try (intro (hg_ : _ = true); (try simp only [isNilI, inB, reduceCtorEq, cds] at hg_); (repeat' (first | exact True.intro | refine And.intro ?_ ?_)))); all_goals (first | first | with_reducible rfl | omega | exact Nat.le_refl _ | exact congrArg (Value.int .i64) (by omega) | (simp only [List.length_map]; first | done | omega) | (simp only [lns]; omega) | exact i64_ok (by omega) (by omega) | exact elem_map (fun _ => rfl) (by assumption) | exact elem_map (fun _ => rfl) (getD_at (by omega)) | exact elem_map' (fun _ => rfl) (by omega) | exact map_at (by omega) | exact set_at (by simp only [lns]; omega) | (rw [List.length_replicate, Int.toNat_natCast] at *; omega) | assumption | decide | exact fn_big bs | exact hd | exact fn_Places bs hl' hb | exact e0 | exact fn_SpanTakeR _ _ _ _ _ _ _ hV | exact fn_SpanGiveR _ _ _ _ _ g3 | exact fn_SpanGiveR _ _ _ _ _ g4 | exact fn_HasS _ _ (by omega) | exact fn_SpanOkI _ _ | exact fn_NextS _ | exact hgl_.1 | exact hgl_.2.1 | exact hgl_.2.2.1 | exact hgl_.2.2.2.1 | exact hgl_.2.2.2.2.1 | exact hgl_.2.2.2.2.2.1 | exact hgl_.2.2.2.2.2.2.1 | exact hgl_.2.2.2.2.2.2.2.1 | exact hgl_ | exact rfl | exact one1 rfl | skip)))))
      rw [g1, g2]
      simp
    · have hV : pSpanTake s p0 = (s, -1, p0, false) := if_neg hC
      have hF : pSpanFull s = true := by
        unfold pSpanFull
        rw [hok, Bool.true_and, decide_eq_true_eq]
        unfold canTake at hC
        by_cases h0 : (sFree s).length = 0
        · exact h0
        · exact absurd ⟨hok, h0, by omega, by omega⟩ hC
      refine fn_intro tt_ok Tryd.func3 rfl Tryd.call3 Tryd.ntmps3 Tryd.results3 rfl rfl rfl rfl ?_
      intro X ρ0 hb_ hgl_
      dsimp only [c_Spans, Int.toNat_natCast, ro, Nat.reduceAdd, Nat.reduceMul, Nat.zero_add, List.map, putT, app, wrapG, gOb, argT, keys, slotOf, dropped, gAnd, wB, rnT, rnS, rnC, rnCs, rnSs, rnM, rnB, rnN, rn, lk, St.over, ded, delL, keepT, menT, menSs, menS, menCs, menC, hasN, resT, SV.cells]
      repeat' (refine ar_id ?_; first | refine ar_seq ?_ | refine ar_block ?_ | refine ar_blk ?_ | refine ar_skip ?_ | refine ar_label ?_ | refine ar_exit rfl ?_ | refine ar_scope ?_ | refine ar_scp ?_ | (first | ((first | refine ar_region (id := 1) tt_ok (inps := [.call (c_big bs)]) rfl ?_ ?_ | refine ar_region (id := 3) tt_ok (inps := [.call (⟨13, [.one (ro 5 1 eU bs)], [], .sv (.agg [(CV.lit (.int .i64 (s.Page))), (CV.lit (.int .i64 (s.Class))), (CV.lit (.int .i64 (s.Bits)))]), [], [], []⟩)]) rfl ?_ ?_ | refine ar_region (id := 4) tt_ok (inps := [.call (c_Places bs)]) rfl ?_ ?_ | refine ar_draw (id := 5) (inps := [.elem (eI p0), .call (c_SpanTakeR t s p0 s (-1) p0 false)]) tt_ok (by kernel_rfl) rfl rfl (by kernel_rfl) rfl rfl rfl rfl ?_ ?_ | refine ar_region (id := 7) tt_ok (inps := [.call (c_SpanFullI t s), .elem (eI p0)]) rfl ?_ ?_ | refine ar_region tt_ok (inps := []) rfl ?_ ?_); rotate_left; (try dsimp only [Int.toNat_natCast, ro, Nat.reduceAdd, Nat.reduceMul, Nat.zero_add, List.map, putT, app, wrapG, gOb, argT, keys, slotOf, dropped, gAnd, wB, rnT, rnS, rnC, rnCs, rnSs, rnM, rnB, rnN, rn, lk, St.over, ded, delL, keepT, menT, menSs, menS, menCs, menC, hasN, resT, SV.cells, c_Places, c_SpanFullI, c_SpanTakeR, c_big, mpM, mpTL, mpT, mpSs, mpS, mpCs, mpC, mpN, endT, endM, endU, insN, addN]); rotate_right) | ((first | refine ar_ret ?_ | refine ar_end ?_); refine fin_auto2 rfl (by dsimp only [Nat.reduceAdd, Nat.reduceMul, Nat.zero_add, List.map, mpM, mpTL, mpT, mpSs, mpS, mpCs, mpC, mpN, lk, idN, keys, resT, ro] <;> exact rfl) (by dsimp only [Nat.reduceAdd, Nat.reduceMul, Nat.zero_add, List.map, wkOb, finOb, xTL, xM, xT, xSs, xS, xCs, xC, xB, okTL, okML, okT, okSs, okS, okCs, okC, okB, nodupN, rnN, allIn, fixed, rn, lk, hasN, app, SV.cells, ro, keys, resT] <;> exact rfl) ?_)) | (refine ar_cond rfl trivial ?_ ?_ <;> intro hc_ <;> (try simp only [isNilI, inB, reduceCtorEq, cds] at hc_) <;> (try (first | contradiction | (exfalso; omega)))) | refine ar_until (And.intro ?_ (wk_auto2 (by dsimp only [Nat.reduceAdd, Nat.reduceMul, Nat.zero_add, List.map, mpM, mpTL, mpT, mpSs, mpS, mpCs, mpC, mpN, lk, idN, keys, resT, ro] <;> exact rfl) (by dsimp only [Nat.reduceAdd, Nat.reduceMul, Nat.zero_add, List.map, wkOb, finOb, xTL, xM, xT, xSs, xS, xCs, xC, xB, okTL, okML, okT, okSs, okS, okCs, okC, okB, nodupN, rnN, allIn, fixed, rn, lk, hasN, app, SV.cells, ro, keys, resT] <;> exact rfl) ?_)))
      all_goals (first | refine ar_id ?_ | (try (focus ((try dsimp only [okX, GlAll, app, gOb, All, gAnd, wB, rnT, rnS, rnC, rnCs, rnSs, rnB, rn, lk, obD]); (repeat' (first | exact True.intro | refine And.intro ?_ ?_)); all_goals (try (intro (hg_ : _ = true); (try simp only [isNilI, inB, reduceCtorEq, cds] at hg_); (repeat' (first | exact True.intro | refine And.intro ?_ ?_)))); all_goals (first | first | with_reducible rfl | omega | exact Nat.le_refl _ | exact congrArg (Value.int .i64) (by omega) | (simp only [List.length_map]; first | done | omega) | (simp only [lns]; omega) | exact i64_ok (by omega) (by omega) | exact elem_map (fun _ => rfl) (by assumption) | exact elem_map (fun _ => rfl) (getD_at (by omega)) | exact elem_map' (fun _ => rfl) (by omega) | exact map_at (by omega) | exact set_at (by simp only [lns]; omega) | (rw [List.length_replicate, Int.toNat_natCast] at *; omega) | assumption | decide | exact fn_big bs | exact hd | exact fn_Places bs hl' hb | exact e0 | exact fn_SpanTakeR _ _ _ _ _ _ _ hV | exact fn_SpanFullI _ _ | exact hgl_.1 | exact hgl_.2.1 | exact hgl_.2.2.1 | exact hgl_.2.2.2.1 | exact hgl_.2.2.2.2.1 | exact hgl_.2.2.2.2.2.1 | exact hgl_.2.2.2.2.2.2.1 | exact hgl_.2.2.2.2.2.2.2.1 | exact hgl_ | exact rfl | exact one1 rfl | skip)))))
      rw [hF]
      simp
theorem filter_div (f : Nat → Bool) {k : Nat} (hk : 0 < k) : ∀ n : Nat, ((List.range (n * k)).filter fun i => f (i / k)).length = ((List.range n).filter f).length * k
  | 0 => by simp
  | n + 1 => by
    have h : ∀ j, j ≤ k → ((List.range (n * k + j)).filter fun i => f (i / k)).length = ((List.range n).filter f).length * k + if f n then j else 0 := by
      intro j
      induction j with
      | zero => intro _; rw [Nat.add_zero, filter_div f hk n]; simp
      | succ j ih =>
        intro hj
        have e : (n * k + j) / k = n := by
          rw [Nat.mul_comm, Nat.mul_add_div hk, Nat.div_eq_of_lt (by omega)]; rfl
        rw [← Nat.add_assoc, List.range_succ, List.filter_append, List.length_append, ih (by omega)]
        by_cases hf : f n = true
        · rw [show List.filter (fun i => f (i / k)) [n * k + j] = [n * k + j] from List.filter_cons_of_pos (by rw [e]; exact hf), if_pos hf, if_pos hf]; rfl
        · rw [show List.filter (fun i => f (i / k)) [n * k + j] = [] from List.filter_cons_of_neg (by rw [e]; exact hf), if_neg hf, if_neg hf]; rfl
    rw [Nat.succ_mul, h k (Nat.le_refl _), List.range_succ, List.filter_append, List.length_append]
    by_cases hf : f n = true
    · rw [show List.filter f [n] = [n] from List.filter_cons_of_pos hf, if_pos hf, Nat.add_mul]; simp
    · rw [show List.filter f [n] = [] from List.filter_cons_of_neg hf, if_neg hf]; rfl
theorem cells_len {s : GSpan} (h : pSpanOk s = true) : ((pSpanCells s).length : Int) = Bm.count s.Bits * Cl.csz s.Class := by
  have hb := bits_bd h
  have hc := csz_pos (span_class h)
  have hsc := slots_csz (span_class h)
  have hmb := Bm.map_bd (span_parts h).2
  unfold pSpanCells
  rw [if_pos h]
  unfold inUse
  rw [List.length_map]
  obtain ⟨B, hB⟩ := Int.eq_ofNat_of_zero_le hb.1
  obtain ⟨k, hk⟩ := Int.eq_ofNat_of_zero_le (show 0 ≤ Cl.csz s.Class by omega)
  obtain ⟨n, hn⟩ := Int.eq_ofNat_of_zero_le (show 0 ≤ Cl.slots s.Class by omega)
  rw [hk, hn] at hsc
  have hnk : n * k = 16 := by exact_mod_cast hsc
  have hB2 : B < 2 ^ n := by
    have h4 := hmb.2.2.2
    rw [hB, hn, Int.toNat_natCast] at h4
    have e : ((2 : Int) ^ n) = ((2 ^ n : Nat) : Int) := by simp
    rw [e] at h4; omega
  have hf : (List.range 16).filter (fun (i : Nat) => Bm.has s.Bits ((i : Int).tdiv (Cl.csz s.Class))) = (List.range (n * k)).filter fun i => B.testBit (i / k) := by
    rw [hnk]
    refine List.filter_congr fun i hi => ?_
    have hi' := List.mem_range.1 hi
    have e : (i : Int).tdiv (k : Int) = ((i / k : Nat) : Int) := by rw [Int.tdiv_eq_ediv_of_nonneg (by omega)]; rfl
    have hle : i / k ≤ i := Nat.div_le_self _ _
    rw [hk, hB, e, Bm.has_nat B (i / k) (by omega)]
  rw [hf, filter_div (fun j => B.testBit j) (by omega) n, hB, hk]
  unfold Bm.count
  rw [if_pos (by omega), Int.toNat_natCast, Bm.cnt_high B n hB2 (by omega)]
  unfold Bm.cnt
  exact Int.natCast_mul _ _
theorem addr_slot {s : GSpan} (h : pSpanOk s = true) {k a : Int} (hk : 0 ≤ k ∧ k < Cl.slots s.Class) (ha : 0 ≤ a ∧ a < Cl.csz s.Class) : pSlotAt s (pSpanAddr s k + a) = (k, a) ∧ 0 ≤ pSpanAddr s k ∧ pSpanAddr s k ≤ 1000 := by
  obtain ⟨hp, _⟩ := span_parts h
  have hc := csz_pos (span_class h)
  have hsc := slots_csz (span_class h)
  have e : pSpanAddr s k = s.Page * 16 + k * Cl.csz s.Class := if_pos ⟨h, hk.1, hk.2⟩
  generalize hC : Cl.csz s.Class = C at *
  have hm0 : 0 ≤ k * C := Int.mul_nonneg hk.1 (by omega)
  have hm1 : k * C + C ≤ Cl.slots s.Class * C := by
    have := Int.mul_le_mul_of_nonneg_right (show k + 1 ≤ Cl.slots s.Class by omega) (show 0 ≤ C by omega)
    rw [Int.add_mul, Int.one_mul] at this
    exact this
  rw [e]
  generalize hM : k * C = M at *
  have h1 : (s.Page * 16 + M + a).tdiv 16 = s.Page := by rw [Int.tdiv_eq_ediv_of_nonneg (by omega)]; omega
  have h2 : (s.Page * 16 + M + a).tmod 16 = M + a := by rw [Int.tmod_eq_emod_of_nonneg (by omega)]; omega
  have h3 : (M + a).tdiv C = k := by
    rw [Int.tdiv_eq_ediv_of_nonneg (by omega), ← hM, Int.add_comm, Int.add_mul_ediv_right _ _ (by omega), Int.ediv_eq_zero_of_lt ha.1 ha.2]; omega
  have h4 : (M + a).tmod C = a := by
    rw [Int.tmod_eq_emod_of_nonneg (by omega), ← hM, Int.add_comm, Int.add_mul_emod_self_right, Int.emod_eq_of_lt ha.1 ha.2]
  refine ⟨?_, by omega, by omega⟩
  unfold pSlotAt
  rw [if_pos ⟨h, by omega, h1⟩, hC, h2, h3, h4]
def c_SlotAtR (t : Tb) (s : GSpan) (a x y : Int) : CFD := ⟨23, [.agg [(CV.lit (.int .i64 (s.Page))), (CV.lit (.int .i64 (s.Class))), (CV.lit (.int .i64 (s.Bits)))], (SV.one (.lit (.int .i64 (a))))], [], .tup [(SV.one (.lit (.int .i64 (x)))), (SV.one (.lit (.int .i64 (y))))], [], [], [t.gS]⟩
theorem fn_SlotAtR (t : Tb) (s : GSpan) (a x y : Int) (ha : a ≤ 9223372036854775807) (h : pSlotAt s a = (x, y)) : Fn Tryd.prog (c_SlotAtR t s a x y) := by
  have := fn_SlotAtI t s a ha
  unfold c_SlotAtI at this
  rw [h] at this
  exact this
def c_SpanAddrR (t : Tb) (s : GSpan) (k a : Int) : CFD := ⟨24, [.agg [(CV.lit (.int .i64 (s.Page))), (CV.lit (.int .i64 (s.Class))), (CV.lit (.int .i64 (s.Bits)))], (SV.one (.lit (.int .i64 (k))))], [], (TV.sv (.one (.lit (.int .i64 (a))))), [], [], [t.gS]⟩
theorem fn_SpanAddrR (t : Tb) (s : GSpan) (k a : Int) (h : pSpanAddr s k = a) : Fn Tryd.prog (c_SpanAddrR t s k a) := h ▸ fn_SpanAddrI t s k
def c_Addrs (t : Tb) (bs : List Int) : CFD := ⟨4, [.one (ro 5 1 eU bs)], [], (TV.sv (.one (.lit (.bool (true))))), [], [], t.both⟩
theorem fn_Addrs (t : Tb) (bs : List Int) (hb : ∀ x ∈ bs, 0 ≤ x ∧ x ≤ 255) : Fn Tryd.prog (c_Addrs t bs) := by
  by_cases hl : (1048576 : Int) < (bs.length : Int)
  · have hd := decide_eq_true hl
    refine fn_intro tt_ok Tryd.func4 rfl Tryd.call4 Tryd.ntmps4 Tryd.results4 rfl rfl rfl rfl ?_
    intro X ρ0 hb_ hgl_
    dsimp only [c_Addrs, Int.toNat_natCast, ro, Nat.reduceAdd, Nat.reduceMul, Nat.zero_add, List.map, putT, app, wrapG, gOb, argT, keys, slotOf, dropped, gAnd, wB, rnT, rnS, rnC, rnCs, rnSs, rnM, rnB, rnN, rn, lk, St.over, ded, delL, keepT, menT, menSs, menS, menCs, menC, hasN, resT, SV.cells]
    repeat' (refine ar_id ?_; first | refine ar_seq ?_ | refine ar_block ?_ | refine ar_blk ?_ | refine ar_skip ?_ | refine ar_label ?_ | refine ar_exit rfl ?_ | refine ar_scope ?_ | refine ar_scp ?_ | (first | ((first | refine ar_region (id := 1) tt_ok (inps := [.call (c_big bs)]) rfl ?_ ?_ | refine ar_region tt_ok (inps := []) rfl ?_ ?_); rotate_left; (try dsimp only [Int.toNat_natCast, ro, Nat.reduceAdd, Nat.reduceMul, Nat.zero_add, List.map, putT, app, wrapG, gOb, argT, keys, slotOf, dropped, gAnd, wB, rnT, rnS, rnC, rnCs, rnSs, rnM, rnB, rnN, rn, lk, St.over, ded, delL, keepT, menT, menSs, menS, menCs, menC, hasN, resT, SV.cells, c_big, mpM, mpTL, mpT, mpSs, mpS, mpCs, mpC, mpN]); rotate_right) | ((first | refine ar_ret ?_ | refine ar_end ?_); refine fin_auto2 rfl (by dsimp only [Nat.reduceAdd, Nat.reduceMul, Nat.zero_add, List.map, mpM, mpTL, mpT, mpSs, mpS, mpCs, mpC, mpN, lk, idN, keys, resT, ro] <;> exact rfl) (by dsimp only [Nat.reduceAdd, Nat.reduceMul, Nat.zero_add, List.map, wkOb, finOb, xTL, xM, xT, xSs, xS, xCs, xC, xB, okTL, okML, okT, okSs, okS, okCs, okC, okB, nodupN, rnN, allIn, fixed, rn, lk, hasN, app, SV.cells, ro, keys, resT] <;> exact rfl) ?_)) | (refine ar_cond rfl trivial ?_ ?_ <;> intro hc_ <;> (try simp only [isNilI, inB, reduceCtorEq, cds] at hc_) <;> (try (first | contradiction | (exfalso; omega)))) | refine ar_until (And.intro ?_ (wk_auto2 (by dsimp only [Nat.reduceAdd, Nat.reduceMul, Nat.zero_add, List.map, mpM, mpTL, mpT, mpSs, mpS, mpCs, mpC, mpN, lk, idN, keys, resT, ro] <;> exact rfl) (by dsimp only [Nat.reduceAdd, Nat.reduceMul, Nat.zero_add, List.map, wkOb, finOb, xTL, xM, xT, xSs, xS, xCs, xC, xB, okTL, okML, okT, okSs, okS, okCs, okC, okB, nodupN, rnN, allIn, fixed, rn, lk, hasN, app, SV.cells, ro, keys, resT] <;> exact rfl) ?_)))
    all_goals (first | refine ar_id ?_ | (try (focus ((try dsimp only [okX, GlAll, app, gOb, All, gAnd, wB, rnT, rnS, rnC, rnCs, rnSs, rnB, rn, lk, obD]); (repeat' (first | exact True.intro | refine And.intro ?_ ?_)); all_goals (try (intro (hg_ : _ = true); (try simp only [isNilI, inB, reduceCtorEq, cds] at hg_); (repeat' (first | exact True.intro | refine And.intro ?_ ?_)))); all_goals (first | first | with_reducible rfl | omega | exact Nat.le_refl _ | exact congrArg (Value.int .i64) (by omega) | (simp only [List.length_map]; first | done | omega) | (simp only [lns]; omega) | exact i64_ok (by omega) (by omega) | exact elem_map (fun _ => rfl) (by assumption) | exact elem_map (fun _ => rfl) (getD_at (by omega)) | exact elem_map' (fun _ => rfl) (by omega) | exact map_at (by omega) | exact set_at (by simp only [lns]; omega) | (rw [List.length_replicate, Int.toNat_natCast] at *; omega) | assumption | decide | exact fn_big bs | skip)))))
  · have hl' : bs.length ≤ 1048576 := by omega
    obtain ⟨p0, hp0⟩ : ∃ p, (places bs).getD 0 0 = p := ⟨_, rfl⟩
    obtain ⟨p1, hp1⟩ : ∃ p, (places bs).getD 1 0 = p := ⟨_, rfl⟩
    have hq0 : 0 ≤ p0 ∧ p0 < 10000 := hp0 ▸ plV_lt bs 0
    have hq1 : 0 ≤ p1 ∧ p1 < 10000 := hp1 ▸ plV_lt bs 1
    have hpl : (places bs).length = 12 := by unfold places; simp
    have e0 : ((places bs).map eI)[0]? = some (eI p0) := by rw [← hp0]; exact map_at (by omega)
    have e1 : ((places bs).map eI)[1]? = some (eI p1) := by rw [← hp1]; exact map_at (by omega)
    have hok := dSpan_valid bs (dNew bs)
    have hd := fn_DrawSpan bs hl' hb
    unfold c_DrawSpan at hd
    generalize (dSpan bs (dNew bs)).1 = s at hok hd
    have hbd := bits_bd hok
    have hc := csz_pos (span_class hok)
    have hsl : 1 ≤ Cl.slots s.Class ∧ Cl.slots s.Class ≤ 16 := by have := Bm.map_bd (span_parts hok).2; omega
    have hk := tmod_bd hq0.1 hsl.1
    have ha := tmod_bd hq1.1 hc.1
    obtain ⟨g1, g2, g3⟩ := addr_slot hok hk ha
    have g4 := cells_len hok
    have g5 : Bm.count s.Bits ≤ 16 ∧ 0 ≤ Bm.count s.Bits := by have := count_le (span_parts hok).2; omega
    have hm1 : Bm.count s.Bits * Cl.csz s.Class ≤ 16 * 8 := Int.mul_le_mul g5.1 hc.2 (by omega) (by omega)
    have hm0 : 0 ≤ Bm.count s.Bits * Cl.csz s.Class := Int.mul_nonneg g5.2 (by omega)
    generalize hkk : p0.tmod (Cl.slots s.Class) = k at *
    generalize haa : p1.tmod (Cl.csz s.Class) = a at *
    generalize hA : pSpanAddr s k = A at *
    refine fn_intro tt_ok Tryd.func4 rfl Tryd.call4 Tryd.ntmps4 Tryd.results4 rfl rfl rfl rfl ?_
    intro X ρ0 hb_ hgl_
    dsimp only [c_Addrs, Int.toNat_natCast, ro, Nat.reduceAdd, Nat.reduceMul, Nat.zero_add, List.map, putT, app, wrapG, gOb, argT, keys, slotOf, dropped, gAnd, wB, rnT, rnS, rnC, rnCs, rnSs, rnM, rnB, rnN, rn, lk, St.over, ded, delL, keepT, menT, menSs, menS, menCs, menC, hasN, resT, SV.cells]
    repeat' (refine ar_id ?_; first | refine ar_seq ?_ | refine ar_block ?_ | refine ar_blk ?_ | refine ar_skip ?_ | refine ar_label ?_ | refine ar_exit rfl ?_ | refine ar_scope ?_ | refine ar_scp ?_ | (first | ((first | refine ar_region (id := 1) tt_ok (inps := [.call (c_big bs)]) rfl ?_ ?_ | refine ar_region (id := 3) tt_ok (inps := [.call (⟨13, [.one (ro 5 1 eU bs)], [], .sv (.agg [(CV.lit (.int .i64 (s.Page))), (CV.lit (.int .i64 (s.Class))), (CV.lit (.int .i64 (s.Bits)))]), [], [], []⟩)]) rfl ?_ ?_ | refine ar_region (id := 4) tt_ok (inps := [.call (c_Places bs)]) rfl ?_ ?_ | refine ar_draw (id := 5) (inps := [.elem (eI p0), .call (c_SlotsS s.Class)]) tt_ok (by kernel_rfl) rfl rfl (by kernel_rfl) rfl rfl rfl rfl ?_ ?_ | refine ar_draw (id := 6) (inps := [.elem (eI p1), .call (c_CszS s.Class)]) tt_ok (by kernel_rfl) rfl rfl (by kernel_rfl) rfl rfl rfl rfl ?_ ?_ | refine ar_draw (id := 7) (inps := [.call (c_SpanAddrR t s k A), .call (c_SlotAtR t s (A + a) k a)]) tt_ok (by kernel_rfl) rfl rfl (by kernel_rfl) rfl rfl rfl rfl ?_ ?_ | refine ar_region (id := 8) tt_ok (inps := [.call (c_SpanCellsI t s)]) rfl ?_ ?_ | refine ar_draw (id := 9) (inps := [.call (c_CountS s.Bits), .call (c_CszS s.Class)]) tt_ok (by kernel_rfl) rfl rfl (by kernel_rfl) rfl rfl rfl rfl ?_ ?_ | refine ar_region tt_ok (inps := []) rfl ?_ ?_); rotate_left; (try dsimp only [Int.toNat_natCast, ro, Nat.reduceAdd, Nat.reduceMul, Nat.zero_add, List.map, putT, app, wrapG, gOb, argT, keys, slotOf, dropped, gAnd, wB, rnT, rnS, rnC, rnCs, rnSs, rnM, rnB, rnN, rn, lk, St.over, ded, delL, keepT, menT, menSs, menS, menCs, menC, hasN, resT, SV.cells, c_CountS, c_CszS, c_Places, c_SlotAtR, c_SlotsS, c_SpanAddrR, c_SpanCellsI, c_big, mpM, mpTL, mpT, mpSs, mpS, mpCs, mpC, mpN, endT, endM, endU, insN, addN]); rotate_right) | ((first | refine ar_ret ?_ | refine ar_end ?_); refine fin_auto2 rfl (by dsimp only [Nat.reduceAdd, Nat.reduceMul, Nat.zero_add, List.map, mpM, mpTL, mpT, mpSs, mpS, mpCs, mpC, mpN, lk, idN, keys, resT, ro] <;> exact rfl) (by dsimp only [Nat.reduceAdd, Nat.reduceMul, Nat.zero_add, List.map, wkOb, finOb, xTL, xM, xT, xSs, xS, xCs, xC, xB, okTL, okML, okT, okSs, okS, okCs, okC, okB, nodupN, rnN, allIn, fixed, rn, lk, hasN, app, SV.cells, ro, keys, resT] <;> exact rfl) ?_)) | (refine ar_cond rfl trivial ?_ ?_ <;> intro hc_ <;> (try simp only [isNilI, inB, reduceCtorEq, cds] at hc_) <;> (try (first | contradiction | (exfalso; omega)))) | refine ar_until (And.intro ?_ (wk_auto2 (by dsimp only [Nat.reduceAdd, Nat.reduceMul, Nat.zero_add, List.map, mpM, mpTL, mpT, mpSs, mpS, mpCs, mpC, mpN, lk, idN, keys, resT, ro] <;> exact rfl) (by dsimp only [Nat.reduceAdd, Nat.reduceMul, Nat.zero_add, List.map, wkOb, finOb, xTL, xM, xT, xSs, xS, xCs, xC, xB, okTL, okML, okT, okSs, okS, okCs, okC, okB, nodupN, rnN, allIn, fixed, rn, lk, hasN, app, SV.cells, ro, keys, resT] <;> exact rfl) ?_)))
    all_goals (first | refine ar_id ?_ | (try (focus ((try dsimp only [okX, GlAll, app, gOb, All, gAnd, wB, rnT, rnS, rnC, rnCs, rnSs, rnB, rn, lk, obD]); (repeat' (first | exact True.intro | refine And.intro ?_ ?_)); all_goals (try (intro (hg_ : _ = true); (try simp only [isNilI, inB, reduceCtorEq, cds] at hg_); (repeat' (first | exact True.intro | refine And.intro ?_ ?_)))); all_goals (first | first | with_reducible rfl | omega | exact Nat.le_refl _ | exact congrArg (Value.int .i64) (by omega) | (simp only [List.length_map]; first | done | omega) | (simp only [lns]; omega) | exact i64_ok (by omega) (by omega) | exact elem_map (fun _ => rfl) (by assumption) | exact elem_map (fun _ => rfl) (getD_at (by omega)) | exact elem_map' (fun _ => rfl) (by omega) | exact map_at (by omega) | exact set_at (by simp only [lns]; omega) | (rw [List.length_replicate, Int.toNat_natCast] at *; omega) | assumption | decide | exact fn_big bs | exact hd | exact fn_Places bs hl' hb | exact e0 | exact e1 | exact fn_SlotsS _ | exact fn_CszS _ | exact fn_SpanAddrR _ _ _ _ hA | exact fn_SlotAtR _ _ _ _ _ (by omega) g1 | exact fn_SpanCellsI _ _ | exact fn_CountS _ (by omega) | exact hgl_.1 | exact hgl_.2.1 | exact hgl_.2.2.1 | exact hgl_.2.2.2.1 | exact hgl_.2.2.2.2.1 | exact hgl_.2.2.2.2.2.1 | exact hgl_.2.2.2.2.2.2.1 | exact hgl_.2.2.2.2.2.2.2.1 | exact hgl_ | exact rfl | exact one1 rfl | exact congrArg (Value.int .i64) hkk | exact i64_ok (by rw [haa]; omega) (by rw [haa]; omega) | exact congrArg (fun z => Value.int .i64 (A + z)) haa | skip)))))
    all_goals first
      | exact congrArg (Value.int .i64) hkk
      | exact i64_ok (by rw [haa]; omega) (by rw [haa]; omega)
      | exact congrArg (fun z => Value.int .i64 (A + z)) haa
      | (rw [hkk, haa, List.length_map, g4]; simp)
end Eng
end Go.Proofs.YtelcngiplpcalaaDoor

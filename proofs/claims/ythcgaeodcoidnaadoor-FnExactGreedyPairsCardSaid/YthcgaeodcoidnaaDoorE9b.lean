/- A symbolic run (E9b). No program. -/
import Derived.Test.YthcgaeodcoidnaaDoorE2b
import Derived.Test.YthcgaeodcoidnaaDoorM09
import Derived.Test.YthcgaeodcoidnaaDoorEngZ
import Derived.Test.YthcgaeodcoidnaaDoorBit2
namespace Go.Proofs.YthcgaeodcoidnaaDoor
open Go.RowKit
set_option linter.unusedVariables false
set_option linter.unusedSimpArgs false
set_option maxRecDepth 100000
namespace Eng
open Tr
theorem isMap_le {n b : Int} (h : Bm.isMap n b = true) : b ≤ 9223372036854775807 := by
  obtain ⟨h1, h2, h3, h4⟩ := Bm.map_bd h
  have : (2 : Int) ^ n.toNat ≤ 2 ^ 16 := by
    have := Nat.pow_le_pow_right (show 0 < 2 by decide) (show n.toNat ≤ 16 by omega)
    exact_mod_cast this
  omega
/-- the free slots below i -/
def freeI (b : Int) (i : Nat) : List Int := (Bm.freeTo b.toNat i).map fun (j : Nat) => (j : Int)
theorem freeI_len (b : Int) (i : Nat) : (freeI b i).length ≤ i := by unfold freeI; rw [List.length_map]; exact Bm.freeTo_le _ _
theorem freeI_succ {b : Int} (h0 : 0 ≤ b) {i : Nat} (hi : i ≤ 15) : freeI b (i + 1) = if Bm.has b (i : Int) = true then freeI b i else freeI b i ++ [(i : Int)] := by
  obtain ⟨B, rfl⟩ := Int.eq_ofNat_of_zero_le h0
  rw [Bm.has_nat B i hi]
  unfold freeI
  rw [Int.toNat_natCast, Bm.freeTo_succ, List.map_append]
  split <;> simp
theorem freeL_yes {n b : Int} (h : Bm.isMap n b = true) : Bm.freeL n b = freeI b n.toNat := by unfold Bm.freeL; rw [if_pos h]; rfl
theorem freeL_no {n b : Int} (h : ¬ Bm.isMap n b = true) : Bm.freeL n b = [] := by unfold Bm.freeL; rw [if_neg h]
end Eng
end Go.Proofs.YthcgaeodcoidnaaDoor
namespace Go.Proofs.YthcgaeodcoidnaaDoor
open Go.RowKit
set_option linter.unusedVariables false
set_option linter.unusedSimpArgs false
set_option maxRecDepth 100000
namespace Eng
open Tr
theorem spanOk_b (s : GSpan) : (bif inB s.Page 0 31 then Bm.isMap (Cl.slots s.Class) s.Bits else false) = pSpanOk s := by
  rw [Bool.cond_false_right]
  unfold pSpanOk inB
  rw [Bool.decide_and]
theorem len_free (s : GSpan) : ((((Bm.freeL (Cl.slots s.Class) s.Bits).map Tr.eI).length : Int) == 0) = decide ((sFree s).length = 0) := by
  rw [List.length_map]
  unfold sFree
  rw [Bool.eq_iff_iff, beq_iff_eq, decide_eq_true_eq]
  omega
def c_SpanOk (s : GSpan) : CFD := ⟨44, [.agg [(CV.lit (.int .i64 (s.Page))), (CV.lit (.int .i64 (s.Class))), (CV.lit (.int .i64 (s.Bits)))]], [], (TV.sv (.one (.lit (.bool (pSpanOk s))))), [], [], []⟩
theorem fn_SpanOk (s : GSpan) : Fn Tryd.prog (c_SpanOk s) := by
  refine fn_intro tt_ok Tryd.func44 rfl Tryd.call44 Tryd.ntmps44 Tryd.results44 rfl rfl rfl rfl ?_
  intro X ρ0 hb_ hgl_
  dsimp only [c_SpanOk, rnCap, capSVs, Int.toNat_natCast, ro, Nat.reduceAdd, Nat.reduceMul, Nat.zero_add, List.map, putT, app, wrapG, gOb, argT, keys, slotOf, dropped, gAnd, wB, rnT, rnS, rnC, rnCs, rnSs, rnM, rnB, rnN, rn, lk, St.over, ded, delL, keepT, menT, menSs, menS, menCs, menC, hasN, resT, SV.cells]
  repeat' (refine ar_id ?_; first | refine ar_seq ?_ | refine ar_block ?_ | refine ar_blk ?_ | refine ar_skip ?_ | refine ar_label ?_ | refine ar_exit rfl ?_ | refine ar_scope ?_ | refine ar_scp ?_ | (first | ((first | refine ar_draw (id := 1) (inps := [.call (c_In s.Page 0 31), .call (c_SlotsS s.Class), .call (c_BmOkS (Cl.slots s.Class) s.Bits)]) tt_ok (by kernel_rfl) rfl rfl (by kernel_rfl) rfl rfl rfl rfl ?_ ?_ | refine ar_region tt_ok (inps := []) rfl ?_ ?_); rotate_left; (try dsimp only [rnCap, capSVs, Int.toNat_natCast, ro, Nat.reduceAdd, Nat.reduceMul, Nat.zero_add, List.map, putT, app, wrapG, gOb, argT, keys, slotOf, dropped, gAnd, wB, rnT, rnS, rnC, rnCs, rnSs, rnM, rnB, rnN, rn, lk, St.over, ded, delL, keepT, menT, menSs, menS, menCs, menC, hasN, resT, SV.cells, c_BmOkS, c_In, c_SlotsS, mpM, mpTL, mpT, mpSs, mpS, mpCs, mpC, mpN, endT, endM, endU, insN, addN]); rotate_right) | ((first | refine ar_ret ?_ | refine ar_end ?_); refine fin_auto2 rfl (by dsimp only [mpCap, Nat.reduceAdd, Nat.reduceMul, Nat.zero_add, List.map, mpM, mpTL, mpT, mpSs, mpS, mpCs, mpC, mpN, lk, idN, keys, resT, ro] <;> exact rfl) (by dsimp only [xCap, okCap, rnCap, Nat.reduceAdd, Nat.reduceMul, Nat.zero_add, List.map, wkOb, finOb, xTL, xM, xT, xSs, xS, xCs, xC, xB, okTL, okML, okT, okSs, okS, okCs, okC, okB, nodupN, rnN, allIn, fixed, rn, lk, hasN, app, SV.cells, ro, keys, resT] <;> exact rfl) ?_)) | (refine ar_cond rfl trivial ?_ ?_ <;> intro hc_ <;> (try simp only [isNilI, inB, reduceCtorEq, cds] at hc_) <;> (try (first | contradiction | (exfalso; omega)))) | refine ar_until (And.intro ?_ (wk_auto2 (by dsimp only [mpCap, Nat.reduceAdd, Nat.reduceMul, Nat.zero_add, List.map, mpM, mpTL, mpT, mpSs, mpS, mpCs, mpC, mpN, lk, idN, keys, resT, ro] <;> exact rfl) (by dsimp only [xCap, okCap, rnCap, Nat.reduceAdd, Nat.reduceMul, Nat.zero_add, List.map, wkOb, finOb, xTL, xM, xT, xSs, xS, xCs, xC, xB, okTL, okML, okT, okSs, okS, okCs, okC, okB, nodupN, rnN, allIn, fixed, rn, lk, hasN, app, SV.cells, ro, keys, resT] <;> exact rfl) ?_)))
  all_goals (first | refine ar_id ?_ | (try (focus ((try dsimp only [okX, GlAll, app, gOb, All, gAnd, wB, rnT, rnS, rnC, rnCs, rnSs, rnB, rn, lk, obD]); (repeat' (first | exact True.intro | refine And.intro ?_ ?_)); all_goals (try (intro (hg_ : _ = true); (try simp only [isNilI, inB, reduceCtorEq, cds] at hg_); (repeat' (first | exact True.intro | refine And.intro ?_ ?_)))); all_goals (first | first | with_reducible rfl | omega | exact Nat.le_refl _ | exact congrArg (Value.int .i64) (by omega) | (simp only [List.length_map]; first | done | omega) | (simp only [lns]; omega) | exact i64_ok (by omega) (by omega) | exact elem_map (fun _ => rfl) (by assumption) | exact elem_map (fun _ => rfl) (getD_at (by omega)) | exact elem_map' (fun _ => rfl) (by omega) | exact map_at (by omega) | exact set_at (by simp only [lns]; omega) | (rw [List.length_replicate, Int.toNat_natCast] at *; omega) | assumption | decide | exact fn_In _ _ _ | exact fn_SlotsS _ | exact fn_BmOkS _ _ | skip)))))
  rw [spanOk_b]
end Eng
end Go.Proofs.YthcgaeodcoidnaaDoor
namespace Go.Proofs.YthcgaeodcoidnaaDoor
open Go.RowKit
set_option linter.unusedVariables false
set_option linter.unusedSimpArgs false
set_option maxRecDepth 100000
namespace Eng
open Tr
theorem count_le {n b : Int} (h : Bm.isMap n b = true) : 0 ≤ Bm.count b ∧ Bm.count b ≤ n := by
  obtain ⟨h1, h2, h3, h4⟩ := Bm.map_bd h
  obtain ⟨N, rfl⟩ := Int.eq_ofNat_of_zero_le (show 0 ≤ n by omega)
  obtain ⟨B, rfl⟩ := Int.eq_ofNat_of_zero_le h3
  have hb : B < 2 ^ N := by
    rw [Int.toNat_natCast] at h4
    have e : ((2 : Int) ^ N) = ((2 ^ N : Nat) : Int) := by simp
    rw [e] at h4; omega
  have e := Bm.cnt_high B N hb (by omega)
  have := Bm.cnt_le B N
  unfold Bm.count
  rw [if_pos h3, Int.toNat_natCast, e]
  omega
end Eng
end Go.Proofs.YthcgaeodcoidnaaDoor
namespace Go.Proofs.YthcgaeodcoidnaaDoor
open Go.RowKit
set_option linter.unusedVariables false
set_option linter.unusedSimpArgs false
set_option maxRecDepth 100000
namespace Eng
open Tr
def c_SpanOkI (t : Tb) (s : GSpan) : CFD := ⟨56, [.agg [(CV.lit (.int .i64 (s.Page))), (CV.lit (.int .i64 (s.Class))), (CV.lit (.int .i64 (s.Bits)))]], [], (TV.sv (.one (.lit (.bool (pSpanOk s))))), [], [], [t.gS]⟩
theorem fn_SpanOkI (t : Tb) (s : GSpan) : Fn Tryd.prog (c_SpanOkI t s) := by
  refine fn_intro tt_ok Tryd.func56 rfl Tryd.call56 Tryd.ntmps56 Tryd.results56 rfl rfl rfl rfl ?_
  intro X ρ0 hb_ hgl_
  dsimp only [c_SpanOkI, rnCap, capSVs, Int.toNat_natCast, ro, Nat.reduceAdd, Nat.reduceMul, Nat.zero_add, List.map, putT, app, wrapG, gOb, argT, keys, slotOf, dropped, gAnd, wB, rnT, rnS, rnC, rnCs, rnSs, rnM, rnB, rnN, rn, lk, St.over, ded, delL, keepT, menT, menSs, menS, menCs, menC, hasN, resT, SV.cells]
  repeat' (refine ar_id ?_; first | refine ar_seq ?_ | refine ar_block ?_ | refine ar_blk ?_ | refine ar_skip ?_ | refine ar_label ?_ | refine ar_exit rfl ?_ | refine ar_scope ?_ | refine ar_scp ?_ | (first | ((first | refine ar_draw (id := 1) (inps := [.call (c_SlotsI t s.Class), .call (c_BmOkI (Cl.slots s.Class) s.Bits)]) tt_ok (by kernel_rfl) rfl rfl (by kernel_rfl) rfl rfl rfl rfl ?_ ?_ | refine ar_region tt_ok (inps := []) rfl ?_ ?_); rotate_left; (try dsimp only [rnCap, capSVs, Int.toNat_natCast, ro, Nat.reduceAdd, Nat.reduceMul, Nat.zero_add, List.map, putT, app, wrapG, gOb, argT, keys, slotOf, dropped, gAnd, wB, rnT, rnS, rnC, rnCs, rnSs, rnM, rnB, rnN, rn, lk, St.over, ded, delL, keepT, menT, menSs, menS, menCs, menC, hasN, resT, SV.cells, c_BmOkI, c_SlotsI, mpM, mpTL, mpT, mpSs, mpS, mpCs, mpC, mpN, endT, endM, endU, insN, addN]); rotate_right) | ((first | refine ar_ret ?_ | refine ar_end ?_); refine fin_auto2 rfl (by dsimp only [mpCap, Nat.reduceAdd, Nat.reduceMul, Nat.zero_add, List.map, mpM, mpTL, mpT, mpSs, mpS, mpCs, mpC, mpN, lk, idN, keys, resT, ro] <;> exact rfl) (by dsimp only [xCap, okCap, rnCap, Nat.reduceAdd, Nat.reduceMul, Nat.zero_add, List.map, wkOb, finOb, xTL, xM, xT, xSs, xS, xCs, xC, xB, okTL, okML, okT, okSs, okS, okCs, okC, okB, nodupN, rnN, allIn, fixed, rn, lk, hasN, app, SV.cells, ro, keys, resT] <;> exact rfl) ?_)) | (refine ar_cond rfl trivial ?_ ?_ <;> intro hc_ <;> (try simp only [isNilI, inB, reduceCtorEq, cds] at hc_) <;> (try (first | contradiction | (exfalso; omega)))) | refine ar_until (And.intro ?_ (wk_auto2 (by dsimp only [mpCap, Nat.reduceAdd, Nat.reduceMul, Nat.zero_add, List.map, mpM, mpTL, mpT, mpSs, mpS, mpCs, mpC, mpN, lk, idN, keys, resT, ro] <;> exact rfl) (by dsimp only [xCap, okCap, rnCap, Nat.reduceAdd, Nat.reduceMul, Nat.zero_add, List.map, wkOb, finOb, xTL, xM, xT, xSs, xS, xCs, xC, xB, okTL, okML, okT, okSs, okS, okCs, okC, okB, nodupN, rnN, allIn, fixed, rn, lk, hasN, app, SV.cells, ro, keys, resT] <;> exact rfl) ?_)))
  all_goals (first | refine ar_id ?_ | (try (focus ((try dsimp only [okX, GlAll, app, gOb, All, gAnd, wB, rnT, rnS, rnC, rnCs, rnSs, rnB, rn, lk, obD]); (repeat' (first | exact True.intro | refine And.intro ?_ ?_)); all_goals (try (intro (hg_ : _ = true); (try simp only [isNilI, inB, reduceCtorEq, cds] at hg_); (repeat' (first | exact True.intro | refine And.intro ?_ ?_)))); all_goals (first | first | with_reducible rfl | omega | exact Nat.le_refl _ | exact congrArg (Value.int .i64) (by omega) | (simp only [List.length_map]; first | done | omega) | (simp only [lns]; omega) | exact i64_ok (by omega) (by omega) | exact elem_map (fun _ => rfl) (by assumption) | exact elem_map (fun _ => rfl) (getD_at (by omega)) | exact elem_map' (fun _ => rfl) (by omega) | exact map_at (by omega) | exact set_at (by simp only [lns]; omega) | (rw [List.length_replicate, Int.toNat_natCast] at *; omega) | assumption | decide | exact fn_SlotsI _ _ | exact fn_BmOkI _ _ | exact hgl_.1 | exact hgl_.2.1 | exact hgl_.2.2.1 | exact hgl_.2.2.2.1 | exact hgl_.2.2.2.2.1 | exact hgl_.2.2.2.2.2.1 | exact hgl_.2.2.2.2.2.2.1 | exact hgl_.2.2.2.2.2.2.2.1 | exact hgl_ | exact rfl | exact one1 rfl | skip)))))
  refine congrArg Value.bool ?_
  rw [Bool.cond_false_right, Bool.cond_false_right]
  unfold pSpanOk
  rw [← Bool.decide_and]
  congr 1
  exact decide_eq_decide.2 (by omega)
def pgI (a : Int) : Int := if a < 0 then -1 else a.tdiv 16
end Eng
end Go.Proofs.YthcgaeodcoidnaaDoor

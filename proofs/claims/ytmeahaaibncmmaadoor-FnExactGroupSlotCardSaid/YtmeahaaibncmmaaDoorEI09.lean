/- Spans: the program's functions, by the symbolic run. -/
import Derived.Test.YtmeahaaibncmmaaDoorEI09a
import Derived.Test.YtmeahaaibncmmaaDoorE09
namespace Go.Proofs.YtmeahaaibncmmaaDoor
open Go.RowKit
set_option linter.unusedVariables false
set_option linter.unusedSimpArgs false
set_option maxRecDepth 100000
namespace Eng
open Tr
def c_SpanOkI (t : Tb) (s : GSpan) : CFD := ⟨38, [.agg [(CV.lit (.int .i64 (s.Page))), (CV.lit (.int .i64 (s.Class))), (CV.lit (.int .i64 (s.Bits)))]], [], (TV.sv (.one (.lit (.bool (pSpanOk s))))), [], [], [t.gS]⟩
theorem fn_SpanOkI (t : Tb) (s : GSpan) : Fn Tryd.prog (c_SpanOkI t s) := by
  refine fn_intro tt_ok Tryd.func38 rfl Tryd.call38 Tryd.ntmps38 Tryd.results38 rfl rfl rfl rfl ?_
  intro X ρ0 hb_ hgl_
  dsimp only [c_SpanOkI, rnCap, capSVs, Int.toNat_natCast, ro, Nat.reduceAdd, Nat.reduceMul, Nat.zero_add, List.map, putT, app, wrapG, gOb, argT, keys, slotOf, dropped, gAnd, wB, rnT, rnS, rnC, rnCs, rnSs, rnM, rnB, rnN, rn, lk, St.over, ded, delL, keepT, menT, menSs, menS, menCs, menC, hasN, resT, SV.cells]
  repeat' (refine ar_id ?_; first | refine ar_seq ?_ | refine ar_block ?_ | refine ar_blk ?_ | refine ar_skip ?_ | refine ar_label ?_ | refine ar_exit rfl ?_ | refine ar_scope ?_ | refine ar_scp ?_ | (first | ((first | refine ar_draw (id := 1) (inps := [.call (c_SlotsI t s.Class), .call (c_BmOkI (Cl.slots s.Class) s.Bits)]) tt_ok (by kernel_rfl) rfl rfl (by kernel_rfl) rfl rfl rfl rfl ?_ ?_ | refine ar_region tt_ok (inps := []) rfl ?_ ?_); rotate_left; (try dsimp only [rnCap, capSVs, Int.toNat_natCast, ro, Nat.reduceAdd, Nat.reduceMul, Nat.zero_add, List.map, putT, app, wrapG, gOb, argT, keys, slotOf, dropped, gAnd, wB, rnT, rnS, rnC, rnCs, rnSs, rnM, rnB, rnN, rn, lk, St.over, ded, delL, keepT, menT, menSs, menS, menCs, menC, hasN, resT, SV.cells, c_BmOkI, c_SlotsI, mpM, mpTL, mpT, mpSs, mpS, mpCs, mpC, mpN, endT, endM, endU, insN, addN]); rotate_right) | ((first | refine ar_ret ?_ | refine ar_end ?_); refine fin_auto2 rfl (by dsimp only [mpCap, Nat.reduceAdd, Nat.reduceMul, Nat.zero_add, List.map, mpM, mpTL, mpT, mpSs, mpS, mpCs, mpC, mpN, lk, idN, keys, resT, ro] <;> exact rfl) (by dsimp only [xCap, okCap, rnCap, Nat.reduceAdd, Nat.reduceMul, Nat.zero_add, List.map, wkOb, finOb, xTL, xM, xT, xSs, xS, xCs, xC, xB, okTL, okML, okT, okSs, okS, okCs, okC, okB, nodupN, rnN, allIn, fixed, rn, lk, hasN, app, SV.cells, ro, keys, resT] <;> exact rfl) ?_)) | (refine ar_cond rfl trivial ?_ ?_ <;> intro hc_ <;> (try simp only [isNilI, inB, reduceCtorEq, cds] at hc_) <;> (try (first | contradiction | (exfalso; omega)))) | refine ar_until (And.intro ?_ (wk_auto2 (by dsimp only [mpCap, Nat.reduceAdd, Nat.reduceMul, Nat.zero_add, List.map, mpM, mpTL, mpT, mpSs, mpS, mpCs, mpC, mpN, lk, idN, keys, resT, ro] <;> exact rfl) (by dsimp only [xCap, okCap, rnCap, Nat.reduceAdd, Nat.reduceMul, Nat.zero_add, List.map, wkOb, finOb, xTL, xM, xT, xSs, xS, xCs, xC, xB, okTL, okML, okT, okSs, okS, okCs, okC, okB, nodupN, rnN, allIn, fixed, rn, lk, hasN, app, SV.cells, ro, keys, resT] <;> exact rfl) ?_)))
  all_goals (first | refine ar_id ?_ | (try (focus ((try dsimp only [okX, GlAll, app, gOb, All, gAnd, wB, rnT, rnS, rnC, rnCs, rnSs, rnB, rn, lk, obD]); (repeat' (first | exact True.intro | refine And.intro ?_ ?_)); all_goals (try (intro (hg_ : _ = true); (try simp only [isNilI, inB, reduceCtorEq, cds] at hg_); (repeat' (first | exact True.intro | refine And.intro ?_ ?_)))); all_goals (first | first | with_reducible rfl | omega | exact Nat.le_refl _ | exact congrArg (Value.int .i64) (by omega) | (simp only [List.length_map]; first | done | omega) | (simp only [lns]; omega) | exact i64_ok (by omega) (by omega) | exact elem_map (fun _ => rfl) (by assumption) | exact elem_map (fun _ => rfl) (getD_at (by omega)) | exact elem_map' (fun _ => rfl) (by omega) | exact map_at (by omega) | exact set_at (by simp only [lns]; omega) | (rw [List.length_replicate, Int.toNat_natCast] at *; omega) | assumption | decide | exact fn_SlotsI _ _ | exact fn_BmOkI _ _ | exact hgl_.1 | exact hgl_.2.1 | exact hgl_.2.2.1 | exact hgl_.2.2.2.1 | exact hgl_.2.2.2.2.1 | exact hgl_.2.2.2.2.2.1 | exact hgl_.2.2.2.2.2.2.1 | exact hgl_.2.2.2.2.2.2.2.1 | exact hgl_ | exact rfl | exact one1 rfl | skip)))))
  refine congrArg Value.bool ?_
  rw [Bool.cond_false_right, Bool.cond_false_right]
  unfold pSpanOk
  rw [← Bool.decide_and]
  congr 1
  exact decide_eq_decide.2 (by omega)
def pgI (a : Int) : Int := if a < 0 then -1 else a.tdiv 16
end Eng
end Go.Proofs.YtmeahaaibncmmaaDoor

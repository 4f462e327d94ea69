/- Writes during meshing: WaitingWriters of both sides, by the symbolic run. -/
import Derived.Test.YtabnglcabpijfaaELw
import Derived.Test.YtabnglcabpijfaaEngZ
namespace Go.Proofs.Ytabnglcabpijfaa
open Go.RowKit
set_option linter.unusedVariables false
set_option linter.unusedSimpArgs false
set_option maxRecDepth 100000
namespace Eng
open Tr
theorem cntW (l : List GWriter) {i : Nat} (h : i < l.length) : (l.take (i + 1)).countP waitsW = (l.take i).countP waitsW + (if waitsW (l.getD i noW) then 1 else 0) := by
  rw [List.take_add_one, List.getElem?_eq_getElem h, List.countP_append, List.getD_eq_getElem?_getD, List.getElem?_eq_getElem h]
  simp [List.countP_cons]
theorem cnt_up (l : List GWriter) (i : Nat) : (l.take i).countP waitsW ≤ l.length := Nat.le_trans List.countP_le_length (by simp; omega)
def c_WaitS (l : List GWriter) : CFD := ⟨5, [.one (ro 30 4 eWriter l)], [], (TV.sv (.one (.lit (.int .i64 (pWaiting l))))), [], [], []⟩
theorem fn_WaitS (l : List GWriter) (hl : l.length ≤ 1048576) : Fn Try.prog (c_WaitS l) := by
  have hV : pWaiting l = ((l.countP waitsW : Nat) : Int) := rfl
  have up := cnt_up l
  refine fn_intro tt_ok Try.func5 rfl Try.call5 Try.ntmps5 Try.results5 rfl rfl rfl rfl ?_
  intro X ρ0 hb_ hgl_
  dsimp only [c_WaitS]
  try refine nrm ?_
  rw [hV]
  repeat' (refine ar_id ?_; first | refine st1 ?_ | (first | ((first | refine ar_region tt_ok (inps := []) rfl ?_ ?_); rotate_left; (try refine nrm ?_); rotate_right) | refine ret3 ?_ | refine end3 ?_) | (refine ar_cond rfl trivial ?_ ?_ <;> intro hc_ <;> (try simp only [isNilI, inB, reduceCtorEq, cds] at hc_) <;> (try (first | contradiction | (exfalso; omega)))) | refine ar_until (And.intro ?_ (wk3 ?_)))
  all_goals (first | refine ar_id ?_ | (try (focus ((try refine nrmO ?_); (repeat' (first | exact True.intro | refine And.intro ?_ ?_)); all_goals (try (intro (hg_ : _ = true); (try simp only [isNilI, inB, reduceCtorEq, cds] at hg_); (repeat' (first | exact True.intro | refine And.intro ?_ ?_)))); all_goals (first | exact ob1 | skip)))))
  refine ar_keep 29 (by dsimp only [keepS] <;> exact rfl) ?_
  refine ar_forM (l.length) (fun n => True) (fun n => [(4, (TV.sv (.one (.lit (.int .i64 (n)))))), (3, (TV.sv (.one (.lit (.int .i64 (((l.take n).countP waitsW : Nat)))))))]) (fun n => []) ?_ ?_ ?_
  rotate_left
  · first | trivial | simp
  (dsimp only [rnCap, capSVs, Int.toNat_natCast, ro, Nat.reduceAdd, Nat.reduceMul, Nat.zero_add, List.map, putT, app, wrapG, gOb, argT, keys, slotOf, dropped, gAnd, wB, rnT, rnS, rnC, rnCs, rnSs, rnM, rnB, rnN, rn, lk, St.over, ded, delL, keepT, menT, menSs, menS, menCs, menC, hasN, resT, SV.cells]; refine wk3 ?_; (focus ((try refine nrmO ?_); (repeat' (first | exact True.intro | refine And.intro ?_ ?_)); all_goals (try (intro (hg_ : _ = true); (try simp only [isNilI, inB, reduceCtorEq, cds] at hg_); (repeat' (first | exact True.intro | refine And.intro ?_ ?_)))); all_goals (first | exact ob1 | exact rfl | skip))))
  rotate_right
  intro n hn_ hnI_
  dsimp only [rnCap, capSVs, Int.toNat_natCast, ro, Nat.reduceAdd, Nat.reduceMul, Nat.zero_add, List.map, putT, app, wrapG, gOb, argT, keys, slotOf, dropped, gAnd, wB, rnT, rnS, rnC, rnCs, rnSs, rnM, rnB, rnN, rn, lk, St.over, ded, delL, keepT, menT, menSs, menS, menCs, menC, hasN, resT, SV.cells]
  have hn1 : n < l.length → (l.take (n + 1)).countP waitsW = (l.take n).countP waitsW + if waitsW (l.getD n noW) then 1 else 0 := fun hn => cntW l hn
  have hwW : waitsW (l.getD n noW) = (!(l.getD n noW).Done && decide (0 < (l.getD n noW).Waits)) := rfl
  have := up n
  repeat' (refine ar_id ?_; first | refine st1 ?_ | (first | ((first | refine ar_region (id := 5) tt_ok (inps := [.elem (eWriter (l.getD n noW)), .elem (eWriter (l.getD n noW))]) rfl ?_ ?_ | refine ar_region tt_ok (inps := []) rfl ?_ ?_); rotate_left; (try refine nrm ?_); rotate_right) | refine ret3 ?_ | refine end3 ?_) | (refine ar_cond rfl trivial ?_ ?_ <;> intro hc_ <;> (try simp only [isNilI, inB, reduceCtorEq, cds] at hc_) <;> (try (first | contradiction | (exfalso; omega)))) | refine ar_until (And.intro ?_ (wk3 ?_)))
  all_goals (first | refine ar_id ?_ | (try (focus ((try refine nrmO ?_); (repeat' (first | exact True.intro | refine And.intro ?_ ?_)); all_goals (try (intro (hg_ : _ = true); (try simp only [isNilI, inB, reduceCtorEq, cds] at hg_); (repeat' (first | exact True.intro | refine And.intro ?_ ?_)))); all_goals (first | exact ob1 | skip)))))
  · rw [hn1 (by omega), if_pos (by rw [hwW, hc_.1, decide_eq_true hc_.2]; rfl)]
    exact congrArg _ (by omega)
  · rw [hn1 (by omega), if_neg (by
      rw [hwW]
      rcases hc_ with h | h
      · rw [h]; simp
      · rw [decide_eq_false (by omega)]; simp)]
    rfl
  · rw [List.take_of_length_le (by omega)]
def c_WaitI (l : List GWriter) : CFD := ⟨7, [.one (ro 30 4 eWriter l)], [], (TV.sv (.one (.lit (.int .i64 (pWaiting l))))), [], [], []⟩
theorem fn_WaitI (l : List GWriter) (hl : l.length ≤ 1048576) : Fn Try.prog (c_WaitI l) := by
  have hV : pWaiting l = ((l.countP waitsW : Nat) : Int) := rfl
  have up := cnt_up l
  refine fn_intro tt_ok Try.func7 rfl Try.call7 Try.ntmps7 Try.results7 rfl rfl rfl rfl ?_
  intro X ρ0 hb_ hgl_
  dsimp only [c_WaitI]
  try refine nrm ?_
  rw [hV]
  repeat' (refine ar_id ?_; first | refine st1 ?_ | (first | ((first | refine ar_region tt_ok (inps := []) rfl ?_ ?_); rotate_left; (try refine nrm ?_); rotate_right) | refine ret3 ?_ | refine end3 ?_) | (refine ar_cond rfl trivial ?_ ?_ <;> intro hc_ <;> (try simp only [isNilI, inB, reduceCtorEq, cds] at hc_) <;> (try (first | contradiction | (exfalso; omega)))) | refine ar_until (And.intro ?_ (wk3 ?_)))
  all_goals (first | refine ar_id ?_ | (try (focus ((try refine nrmO ?_); (repeat' (first | exact True.intro | refine And.intro ?_ ?_)); all_goals (try (intro (hg_ : _ = true); (try simp only [isNilI, inB, reduceCtorEq, cds] at hg_); (repeat' (first | exact True.intro | refine And.intro ?_ ?_)))); all_goals (first | exact ob1 | skip)))))
  refine ar_keep 493 (by dsimp only [keepS] <;> exact rfl) ?_
  refine ar_forM (l.length) (fun n => True) (fun n => [(8, (TV.sv (.one (.lit (.int .i64 (n)))))), (3, (TV.sv (.one (.lit (.int .i64 (((l.take n).countP waitsW : Nat)))))))]) (fun n => []) ?_ ?_ ?_
  rotate_left
  · first | trivial | simp
  (dsimp only [rnCap, capSVs, Int.toNat_natCast, ro, Nat.reduceAdd, Nat.reduceMul, Nat.zero_add, List.map, putT, app, wrapG, gOb, argT, keys, slotOf, dropped, gAnd, wB, rnT, rnS, rnC, rnCs, rnSs, rnM, rnB, rnN, rn, lk, St.over, ded, delL, keepT, menT, menSs, menS, menCs, menC, hasN, resT, SV.cells]; refine wk3 ?_; (focus ((try refine nrmO ?_); (repeat' (first | exact True.intro | refine And.intro ?_ ?_)); all_goals (try (intro (hg_ : _ = true); (try simp only [isNilI, inB, reduceCtorEq, cds] at hg_); (repeat' (first | exact True.intro | refine And.intro ?_ ?_)))); all_goals (first | exact ob1 | exact rfl | skip))))
  rotate_right
  intro n hn_ hnI_
  dsimp only [rnCap, capSVs, Int.toNat_natCast, ro, Nat.reduceAdd, Nat.reduceMul, Nat.zero_add, List.map, putT, app, wrapG, gOb, argT, keys, slotOf, dropped, gAnd, wB, rnT, rnS, rnC, rnCs, rnSs, rnM, rnB, rnN, rn, lk, St.over, ded, delL, keepT, menT, menSs, menS, menCs, menC, hasN, resT, SV.cells]
  have hn1 : n < l.length → (l.take (n + 1)).countP waitsW = (l.take n).countP waitsW + if waitsW (l.getD n noW) then 1 else 0 := fun hn => cntW l hn
  have hwW : waitsW (l.getD n noW) = (!(l.getD n noW).Done && decide (0 < (l.getD n noW).Waits)) := rfl
  have := up n
  repeat' (refine ar_id ?_; first | refine st1 ?_ | (first | ((first | refine ar_region (id := 4) tt_ok (inps := [.elem (eWriter (l.getD n noW))]) rfl ?_ ?_ | refine ar_region tt_ok (inps := []) rfl ?_ ?_); rotate_left; (try refine nrm ?_); rotate_right) | refine ret3 ?_ | refine end3 ?_) | (refine ar_cond rfl trivial ?_ ?_ <;> intro hc_ <;> (try simp only [isNilI, inB, reduceCtorEq, cds] at hc_) <;> (try (first | contradiction | (exfalso; omega)))) | refine ar_until (And.intro ?_ (wk3 ?_)))
  all_goals (first | refine ar_id ?_ | (try (focus ((try refine nrmO ?_); (repeat' (first | exact True.intro | refine And.intro ?_ ?_)); all_goals (try (intro (hg_ : _ = true); (try simp only [isNilI, inB, reduceCtorEq, cds] at hg_); (repeat' (first | exact True.intro | refine And.intro ?_ ?_)))); all_goals (first | exact ob1 | skip)))))
  · rw [hn1 (by omega), if_pos (by rw [hwW, hc_.1, decide_eq_true hc_.2]; rfl)]
    exact congrArg _ (by omega)
  · rw [hn1 (by omega), if_neg (by
      rw [hwW]
      rcases hc_ with h | h
      · rw [h]; simp
      · rw [decide_eq_false (by omega)]; simp)]
    rfl
  · rw [List.take_of_length_le (by omega)]
end Eng
end Go.Proofs.Ytabnglcabpijfaa

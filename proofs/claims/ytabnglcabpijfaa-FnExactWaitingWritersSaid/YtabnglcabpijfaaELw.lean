/- What the exact laws call over lists of writers: copies, comparisons, marks, by the symbolic run. -/
import Derived.Test.YtabnglcabpijfaaELh
import Derived.Test.YtabnglcabpijfaaEnc
import Derived.Test.YtabnglcabpijfaaEngZ
import Derived.Test.YtabnglcabpijfaaM15w
namespace Go.Proofs.Ytabnglcabpijfaa
open Go.RowKit
set_option linter.unusedVariables false
set_option linter.unusedSimpArgs false
set_option maxRecDepth 100000
namespace Eng
open Tr
/-- the writer with the marks k, k + 1, .. -/
def wMk (k : Nat) : GWriter := ⟨(k : Int), ((k + 1 : Nat) : Int), decide ((k + 2) % 3 = 0), ((k + 3 : Nat) : Int)⟩
/-- writers with marks -/
def mkW (k n : Nat) : List GWriter := (List.range n).map fun i => wMk (k + 4 * i)
theorem mkW_len (k n : Nat) : (mkW k n).length = n := by unfold mkW; rw [List.length_map, List.length_range]
theorem mkW_at {k n i : Nat} (h : i < n) : (mkW k n).getD i noW = wMk (k + 4 * i) := by
  unfold mkW
  rw [List.getD_eq_getElem?_getD, List.getElem?_map, List.getElem?_range h]
  rfl
theorem mkW_succ (k n : Nat) : mkW k (n + 1) = mkW k n ++ [wMk (k + 4 * n)] := by unfold mkW; rw [List.range_succ, List.map_append]; rfl
theorem mkW_set {l : List GWriter} {k i : Nat} (hi : i < l.length) : ((mkW k i ++ l.drop i).map eWriter).set i (eWriter (wMk (k + 4 * i))) = (mkW k (i + 1) ++ l.drop (i + 1)).map eWriter := by
  rw [← List.map_set, mid_set _ _ _ (mkW_len k i) (by rw [mkW_len, List.length_drop]; omega), mkW_succ, List.drop_drop, Nat.add_comm i 1]
def c_szWS (l : List GWriter) (a v : Int) : CFD := ⟨4, [.one (ro 32 4 eWriter l), (SV.one (.lit (.int .i64 (a))))], [], (TV.sv (.one (.lit (.int .i64 (v))))), [], [], []⟩
theorem fn_szWS (l : List GWriter) (a v : Int) (hm : l.length ≤ 9223372036854775807) (ha : 0 ≤ a ∧ a ≤ 1048576) (hv : v = if a - (l.length : Int) < 0 then -1 else a - (l.length : Int)) : Fn Try.prog (c_szWS l a v) := by
  refine fn_intro tt_ok Try.func4 rfl Try.call4 Try.ntmps4 Try.results4 rfl rfl rfl rfl ?_
  intro X ρ0 hb_ hgl_
  dsimp only [c_szWS]
  try refine nrm ?_
  repeat' (refine ar_id ?_; first | refine st1 ?_ | (first | ((first | refine ar_region tt_ok (inps := []) rfl ?_ ?_); rotate_left; (try refine nrm ?_); rotate_right) | refine ret3 ?_ | refine end3 ?_) | (refine ar_cond rfl trivial ?_ ?_ <;> intro hc_ <;> (try simp only [isNilI, inB, reduceCtorEq, cds] at hc_) <;> (try (first | contradiction | (exfalso; omega)))) | refine ar_until (And.intro ?_ (wk3 ?_)))
  all_goals (first | refine ar_id ?_ | (try (focus ((try refine nrmO ?_); (repeat' (first | exact True.intro | refine And.intro ?_ ?_)); all_goals (try (intro (hg_ : _ = true); (try simp only [isNilI, inB, reduceCtorEq, cds] at hg_); (repeat' (first | exact True.intro | refine And.intro ?_ ?_)))); all_goals (first | exact ob1 | skip)))))
  all_goals (rw [hv]; split <;> first | rfl | omega)
def c_toW (e : GWriter) : CFD := ⟨9, [.agg [(CV.lit (.int .i64 (e.Addr))), (CV.lit (.int .i64 (e.Value))), (CV.lit (.bool (e.Done))), (CV.lit (.int .i64 (e.Waits)))]], [], .sv (.agg [(CV.lit (.int .i64 (e.Addr))), (CV.lit (.int .i64 (e.Value))), (CV.lit (.bool (e.Done))), (CV.lit (.int .i64 (e.Waits)))]), [], [], []⟩
theorem fn_toW (e : GWriter) : Fn Try.prog (c_toW e) := by
  refine fn_intro tt_ok Try.func9 rfl Try.call9 Try.ntmps9 Try.results9 rfl rfl rfl rfl ?_
  intro X ρ0 hb_ hgl_
  dsimp only [c_toW]
  try refine nrm ?_
  repeat' (refine ar_id ?_; first | refine st1 ?_ | (first | ((first | refine ar_region tt_ok (inps := []) rfl ?_ ?_); rotate_left; (try refine nrm ?_); rotate_right) | refine ret3 ?_ | refine end3 ?_) | (refine ar_cond rfl trivial ?_ ?_ <;> intro hc_ <;> (try simp only [isNilI, inB, reduceCtorEq, cds] at hc_) <;> (try (first | contradiction | (exfalso; omega)))) | refine ar_until (And.intro ?_ (wk3 ?_)))
  all_goals (first | refine ar_id ?_ | (try (focus ((try refine nrmO ?_); (repeat' (first | exact True.intro | refine And.intro ?_ ?_)); all_goals (try (intro (hg_ : _ = true); (try simp only [isNilI, inB, reduceCtorEq, cds] at hg_); (repeat' (first | exact True.intro | refine And.intro ?_ ?_)))); all_goals (first | exact ob1 | skip)))))
def c_toWS (l : List GWriter) : CFD := ⟨6, [.one (ro 32 4 eWriter l)], [], .sv (.one (.hd 0)), [(0, some (.row 30 4 (l.map eWriter)))], [0], []⟩
theorem fn_toWS (l : List GWriter) (hl : l.length ≤ 1048576) : Fn Try.prog (c_toWS l) := by
  refine fn_intro tt_ok Try.func6 rfl Try.call6 Try.ntmps6 Try.results6 rfl rfl rfl rfl ?_
  intro X ρ0 hb_ hgl_
  dsimp only [c_toWS]
  try refine nrm ?_
  repeat' (refine ar_id ?_; first | refine st1 ?_ | (first | ((first | refine ar_region tt_ok (inps := []) rfl ?_ ?_); rotate_left; (try refine nrm ?_); rotate_right) | refine ret3 ?_ | refine end3 ?_) | (refine ar_cond rfl trivial ?_ ?_ <;> intro hc_ <;> (try simp only [isNilI, inB, reduceCtorEq, cds] at hc_) <;> (try (first | contradiction | (exfalso; omega)))) | refine ar_until (And.intro ?_ (wk3 ?_)))
  all_goals (first | refine ar_id ?_ | (try (focus ((try refine nrmO ?_); (repeat' (first | exact True.intro | refine And.intro ?_ ?_)); all_goals (try (intro (hg_ : _ = true); (try simp only [isNilI, inB, reduceCtorEq, cds] at hg_); (repeat' (first | exact True.intro | refine And.intro ?_ ?_)))); all_goals (first | exact ob1 | skip)))))
  refine ar_keep 29 (by dsimp only [keepS] <;> exact rfl) ?_
  refine ar_forM (l.length) (fun i => True) (fun i => [(4, (TV.sv (.one (.lit (.int .i64 (i)))))), (3, (TV.sv (.one (.hd 7))))]) (fun i => [(7, some (.row 30 4 ((l.take i ++ List.replicate (l.length - i) noW).map eWriter)))]) ?_ ?_ ?_
  rotate_left
  · first | trivial | simp
  (dsimp only [rnCap, capSVs, Int.toNat_natCast, ro, Nat.reduceAdd, Nat.reduceMul, Nat.zero_add, List.map, putT, app, wrapG, gOb, argT, keys, slotOf, dropped, gAnd, wB, rnT, rnS, rnC, rnCs, rnSs, rnM, rnB, rnN, rn, lk, St.over, ded, delL, keepT, menT, menSs, menS, menCs, menC, hasN, resT, SV.cells]; refine wk3 ?_; (focus ((try refine nrmO ?_); (repeat' (first | exact True.intro | refine And.intro ?_ ?_)); all_goals (try (intro (hg_ : _ = true); (try simp only [isNilI, inB, reduceCtorEq, cds] at hg_); (repeat' (first | exact True.intro | refine And.intro ?_ ?_)))); all_goals (first | exact ob1 | exact rfl | skip))))
  rotate_right
  intro i hi_ hiI_
  dsimp only [rnCap, capSVs, Int.toNat_natCast, ro, Nat.reduceAdd, Nat.reduceMul, Nat.zero_add, List.map, putT, app, wrapG, gOb, argT, keys, slotOf, dropped, gAnd, wB, rnT, rnS, rnC, rnCs, rnSs, rnM, rnB, rnN, rn, lk, St.over, ded, delL, keepT, menT, menSs, menS, menCs, menC, hasN, resT, SV.cells]
  have hlen : (l.take i ++ List.replicate (l.length - i) noW).length = l.length := by rw [List.length_append, List.length_take, List.length_replicate]; omega
  repeat' (refine ar_id ?_; first | refine st1 ?_ | (refine ar_drawS (id := 5) tt_ok (by kernel_rfl) [.elem (eWriter (l.getD i noW)), .call (c_toW (l.getD i noW)), .elem (eWriter ((l.take i ++ List.replicate (l.length - i) noW).getD i noW))] ?_; refine ed_hide ?_; intro K_ hK_; repeat' (first | ((first | refine ed_call3 ?_ | refine ed_sure3 ?_ | refine ed_cons3 ?_); refine ed_hide ?_; intro K_ hK_; (try dsimp only [c_toW]); (try refine nrmE ?_)) | (refine ed_nil ?_; (repeat subst hK_); dsimp only; refine Exists.intro _ (And.intro rfl (And.intro (by kernel_rfl) (And.intro ?_ ?_))); rotate_left; (try dsimp only [c_toW]); (try refine nrm ?_); rotate_right))) | (first | ((first | refine ar_region (id := 5) tt_ok (inps := [.elem (eWriter (l.getD i noW)), .call (c_toW (l.getD i noW)), .elem (eWriter ((l.take i ++ List.replicate (l.length - i) noW).getD i noW))]) rfl ?_ ?_ | refine ar_region tt_ok (inps := []) rfl ?_ ?_); rotate_left; (try dsimp only [c_toW]); (try refine nrm ?_); rotate_right) | refine ret3 ?_ | refine end3 ?_) | (refine ar_cond rfl trivial ?_ ?_ <;> intro hc_ <;> (try simp only [isNilI, inB, reduceCtorEq, cds] at hc_) <;> (try (first | contradiction | (exfalso; omega)))) | refine ar_until (And.intro ?_ (wk3 ?_)))
  all_goals (first | refine ar_id ?_ | (try (focus ((try refine nrmO ?_); (repeat' (first | exact True.intro | refine And.intro ?_ ?_)); all_goals (try (intro (hg_ : _ = true); (try simp only [isNilI, inB, reduceCtorEq, cds] at hg_); (repeat' (first | exact True.intro | refine And.intro ?_ ?_)))); all_goals (first | exact ob1 | exact fn_toW _ | skip)))))
  · exact to_set (E := eWriter) (by omega)
  · rw [show i = l.length by omega, List.take_length, Nat.sub_self]; rw [show List.replicate 0 noW = [] from rfl, List.append_nil]
  · rw [Nat.sub_zero, show l.take 0 = [] from rfl, List.nil_append, List.map_replicate]; rfl
def c_eqW (e : GWriter) : CFD := ⟨10, [.agg [(CV.lit (.int .i64 (e.Addr))), (CV.lit (.int .i64 (e.Value))), (CV.lit (.bool (e.Done))), (CV.lit (.int .i64 (e.Waits)))], .agg [(CV.lit (.int .i64 (e.Addr))), (CV.lit (.int .i64 (e.Value))), (CV.lit (.bool (e.Done))), (CV.lit (.int .i64 (e.Waits)))]], [], (TV.sv (.one (.lit (.bool (true))))), [], [], []⟩
theorem fn_eqW (e : GWriter) : Fn Try.prog (c_eqW e) := by
  refine fn_intro tt_ok Try.func10 rfl Try.call10 Try.ntmps10 Try.results10 rfl rfl rfl rfl ?_
  intro X ρ0 hb_ hgl_
  dsimp only [c_eqW]
  try refine nrm ?_
  repeat' (refine ar_id ?_; first | refine st1 ?_ | (first | ((first | refine ar_region tt_ok (inps := []) rfl ?_ ?_); rotate_left; (try refine nrm ?_); rotate_right) | refine ret3 ?_ | refine end3 ?_) | (refine ar_cond rfl trivial ?_ ?_ <;> intro hc_ <;> (try simp only [isNilI, inB, reduceCtorEq, cds] at hc_) <;> (try (first | contradiction | (exfalso; omega)))) | refine ar_until (And.intro ?_ (wk3 ?_)))
  all_goals (first | refine ar_id ?_ | (try (focus ((try refine nrmO ?_); (repeat' (first | exact True.intro | refine And.intro ?_ ?_)); all_goals (try (intro (hg_ : _ = true); (try simp only [isNilI, inB, reduceCtorEq, cds] at hg_); (repeat' (first | exact True.intro | refine And.intro ?_ ?_)))); all_goals (first | exact ob1 | skip)))))
def c_eqWS (l : List GWriter) : CFD := ⟨8, [.one (ro 30 4 eWriter l), .one (ro 30 4 eWriter l)], [], (TV.sv (.one (.lit (.bool (true))))), [], [], []⟩
theorem fn_eqWS (l : List GWriter) (hl : l.length ≤ 1048576) : Fn Try.prog (c_eqWS l) := by
  refine fn_intro tt_ok Try.func8 rfl Try.call8 Try.ntmps8 Try.results8 rfl rfl rfl rfl ?_
  intro X ρ0 hb_ hgl_
  dsimp only [c_eqWS]
  try refine nrm ?_
  repeat' (refine ar_id ?_; first | refine st1 ?_ | (first | ((first | refine ar_region tt_ok (inps := []) rfl ?_ ?_); rotate_left; (try refine nrm ?_); rotate_right) | refine ret3 ?_ | refine end3 ?_) | (refine ar_cond rfl trivial ?_ ?_ <;> intro hc_ <;> (try simp only [isNilI, inB, reduceCtorEq, cds] at hc_) <;> (try (first | contradiction | (exfalso; omega)))) | refine ar_until (And.intro ?_ (wk3 ?_)))
  all_goals (first | refine ar_id ?_ | (try (focus ((try refine nrmO ?_); (repeat' (first | exact True.intro | refine And.intro ?_ ?_)); all_goals (try (intro (hg_ : _ = true); (try simp only [isNilI, inB, reduceCtorEq, cds] at hg_); (repeat' (first | exact True.intro | refine And.intro ?_ ?_)))); all_goals (first | exact ob1 | skip)))))
  refine ar_keep 51 (by dsimp only [keepS] <;> exact rfl) ?_
  refine ar_forM (l.length) (fun i => True) (fun i => [(5, (TV.sv (.one (.lit (.int .i64 (i))))))]) (fun i => []) ?_ ?_ ?_
  rotate_left
  · first | trivial | simp
  (dsimp only [rnCap, capSVs, Int.toNat_natCast, ro, Nat.reduceAdd, Nat.reduceMul, Nat.zero_add, List.map, putT, app, wrapG, gOb, argT, keys, slotOf, dropped, gAnd, wB, rnT, rnS, rnC, rnCs, rnSs, rnM, rnB, rnN, rn, lk, St.over, ded, delL, keepT, menT, menSs, menS, menCs, menC, hasN, resT, SV.cells]; refine wk3 ?_; (focus ((try refine nrmO ?_); (repeat' (first | exact True.intro | refine And.intro ?_ ?_)); all_goals (try (intro (hg_ : _ = true); (try simp only [isNilI, inB, reduceCtorEq, cds] at hg_); (repeat' (first | exact True.intro | refine And.intro ?_ ?_)))); all_goals (first | exact ob1 | exact rfl | skip))))
  rotate_right
  intro i hi_ hiI_
  dsimp only [rnCap, capSVs, Int.toNat_natCast, ro, Nat.reduceAdd, Nat.reduceMul, Nat.zero_add, List.map, putT, app, wrapG, gOb, argT, keys, slotOf, dropped, gAnd, wB, rnT, rnS, rnC, rnCs, rnSs, rnM, rnB, rnN, rn, lk, St.over, ded, delL, keepT, menT, menSs, menS, menCs, menC, hasN, resT, SV.cells]
  repeat' (refine ar_id ?_; first | refine st1 ?_ | (refine ar_drawS (id := 6) tt_ok (by kernel_rfl) [.elem (eWriter (l.getD i noW)), .elem (eWriter (l.getD i noW)), .call (c_eqW (l.getD i noW))] ?_; refine ed_hide ?_; intro K_ hK_; repeat' (first | ((first | refine ed_call3 ?_ | refine ed_sure3 ?_ | refine ed_cons3 ?_); refine ed_hide ?_; intro K_ hK_; (try dsimp only [c_eqW]); (try refine nrmE ?_)) | (refine ed_nil ?_; (repeat subst hK_); dsimp only; refine Exists.intro _ (And.intro rfl (And.intro (by kernel_rfl) (And.intro ?_ ?_))); rotate_left; (try dsimp only [c_eqW]); (try refine nrm ?_); rotate_right))) | (first | ((first | refine ar_region tt_ok (inps := []) rfl ?_ ?_); rotate_left; (try dsimp only [c_eqW]); (try refine nrm ?_); rotate_right) | refine ret3 ?_ | refine end3 ?_) | (refine ar_cond rfl trivial ?_ ?_ <;> intro hc_ <;> (try simp only [isNilI, inB, reduceCtorEq, cds] at hc_) <;> (try (first | contradiction | (exfalso; omega)))) | refine ar_until (And.intro ?_ (wk3 ?_)))
  all_goals (first | refine ar_id ?_ | (try (focus ((try refine nrmO ?_); (repeat' (first | exact True.intro | refine And.intro ?_ ?_)); all_goals (try (intro (hg_ : _ = true); (try simp only [isNilI, inB, reduceCtorEq, cds] at hg_); (repeat' (first | exact True.intro | refine And.intro ?_ ?_)))); all_goals (first | exact ob1 | exact fn_eqW _ | skip)))))
  all_goals trace_state
end Eng
end Go.Proofs.Ytabnglcabpijfaa

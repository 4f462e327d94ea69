/- What the exact laws call over lists of frees that wait: copies, comparisons, marks, by the symbolic run. -/
import Derived.Test.YtgeakpeodhhffaaELh
import Derived.Test.YtgeakpeodhhffaaEnc
import Derived.Test.YtgeakpeodhhffaaEngZ
import Derived.Test.YtgeakpeodhhffaaM16a
namespace Go.Proofs.Ytgeakpeodhhffaa
open Go.RowKit
set_option linter.unusedVariables false
set_option linter.unusedSimpArgs false
set_option maxRecDepth 100000
namespace Eng
open Tr
/-- the free with the marks k, k + 1 -/
def tMk (k : Nat) : GLate := ⟨(k : Int), ((k + 1 : Nat) : Int)⟩
/-- frees with marks -/
def mkT (k n : Nat) : List GLate := (List.range n).map fun i => tMk (k + 2 * i)
theorem mkT_len (k n : Nat) : (mkT k n).length = n := by unfold mkT; rw [List.length_map, List.length_range]
theorem mkT_at {k n i : Nat} (h : i < n) : (mkT k n).getD i noLt = tMk (k + 2 * i) := by
  unfold mkT
  rw [List.getD_eq_getElem?_getD, List.getElem?_map, List.getElem?_range h]
  rfl
theorem mkT_succ (k n : Nat) : mkT k (n + 1) = mkT k n ++ [tMk (k + 2 * n)] := by unfold mkT; rw [List.range_succ, List.map_append]; rfl
theorem mkT_set {l : List GLate} {k i : Nat} (hi : i < l.length) : ((mkT k i ++ l.drop i).map eLate).set i (eLate (tMk (k + 2 * i))) = (mkT k (i + 1) ++ l.drop (i + 1)).map eLate := by
  rw [← List.map_set, mid_set _ _ _ (mkT_len k i) (by rw [mkT_len, List.length_drop]; omega), mkT_succ, List.drop_drop, Nat.add_comm i 1]
def c_szLS (l : List GLate) (a v : Int) : CFD := ⟨4, [.one (ro 24 2 eLate l), (SV.one (.lit (.int .i64 (a))))], [], (TV.sv (.one (.lit (.int .i64 (v))))), [], [], []⟩
theorem fn_szLS (l : List GLate) (a v : Int) (hm : l.length ≤ 9223372036854775807) (ha : 0 ≤ a ∧ a ≤ 1048576) (hv : v = if a - (l.length : Int) < 0 then -1 else a - (l.length : Int)) : Fn Try.prog (c_szLS l a v) := by
  refine fn_intro tt_ok Try.func4 rfl Try.call4 Try.ntmps4 Try.results4 rfl rfl rfl rfl ?_
  intro X ρ0 hb_ hgl_
  dsimp only [c_szLS]
  try refine nrm ?_
  repeat' (refine ar_id ?_; first | refine st1 ?_ | (first | ((first | refine ar_region tt_ok (inps := []) rfl ?_ ?_); rotate_left; (try refine nrm ?_); rotate_right) | refine ret3 ?_ | refine end3 ?_) | (refine ar_cond rfl trivial ?_ ?_ <;> intro hc_ <;> (try simp only [isNilI, inB, reduceCtorEq, cds] at hc_) <;> (try (first | contradiction | (exfalso; omega)))) | refine ar_until (And.intro ?_ (wk3 ?_)))
  all_goals (first | refine ar_id ?_ | (try (focus ((try refine nrmO ?_); (repeat' (first | exact True.intro | refine And.intro ?_ ?_)); all_goals (try (intro (hg_ : _ = true); (try simp only [isNilI, inB, reduceCtorEq, cds] at hg_); (repeat' (first | exact True.intro | refine And.intro ?_ ?_)))); all_goals (first | exact ob1 | skip)))))
  all_goals (rw [hv]; split <;> first | rfl | omega)
def c_toLt (e : GLate) : CFD := ⟨7, [.agg [(CV.lit (.int .i64 (e.Index))), (CV.lit (.int .i64 (e.Slot)))]], [], .sv (.agg [(CV.lit (.int .i64 (e.Index))), (CV.lit (.int .i64 (e.Slot)))]), [], [], []⟩
theorem fn_toLt (e : GLate) : Fn Try.prog (c_toLt e) := by
  refine fn_intro tt_ok Try.func7 rfl Try.call7 Try.ntmps7 Try.results7 rfl rfl rfl rfl ?_
  intro X ρ0 hb_ hgl_
  dsimp only [c_toLt]
  try refine nrm ?_
  repeat' (refine ar_id ?_; first | refine st1 ?_ | (first | ((first | refine ar_region tt_ok (inps := []) rfl ?_ ?_); rotate_left; (try refine nrm ?_); rotate_right) | refine ret3 ?_ | refine end3 ?_) | (refine ar_cond rfl trivial ?_ ?_ <;> intro hc_ <;> (try simp only [isNilI, inB, reduceCtorEq, cds] at hc_) <;> (try (first | contradiction | (exfalso; omega)))) | refine ar_until (And.intro ?_ (wk3 ?_)))
  all_goals (first | refine ar_id ?_ | (try (focus ((try refine nrmO ?_); (repeat' (first | exact True.intro | refine And.intro ?_ ?_)); all_goals (try (intro (hg_ : _ = true); (try simp only [isNilI, inB, reduceCtorEq, cds] at hg_); (repeat' (first | exact True.intro | refine And.intro ?_ ?_)))); all_goals (first | exact ob1 | skip)))))
def c_toLS (l : List GLate) : CFD := ⟨6, [.one (ro 24 2 eLate l)], [], .sv (.one (.hd 0)), [(0, some (.row 30 2 (l.map eLate)))], [0], []⟩
theorem fn_toLS (l : List GLate) (hl : l.length ≤ 1048576) : Fn Try.prog (c_toLS l) := by
  refine fn_intro tt_ok Try.func6 rfl Try.call6 Try.ntmps6 Try.results6 rfl rfl rfl rfl ?_
  intro X ρ0 hb_ hgl_
  dsimp only [c_toLS]
  try refine nrm ?_
  repeat' (refine ar_id ?_; first | refine st1 ?_ | (first | ((first | refine ar_region tt_ok (inps := []) rfl ?_ ?_); rotate_left; (try refine nrm ?_); rotate_right) | refine ret3 ?_ | refine end3 ?_) | (refine ar_cond rfl trivial ?_ ?_ <;> intro hc_ <;> (try simp only [isNilI, inB, reduceCtorEq, cds] at hc_) <;> (try (first | contradiction | (exfalso; omega)))) | refine ar_until (And.intro ?_ (wk3 ?_)))
  all_goals (first | refine ar_id ?_ | (try (focus ((try refine nrmO ?_); (repeat' (first | exact True.intro | refine And.intro ?_ ?_)); all_goals (try (intro (hg_ : _ = true); (try simp only [isNilI, inB, reduceCtorEq, cds] at hg_); (repeat' (first | exact True.intro | refine And.intro ?_ ?_)))); all_goals (first | exact ob1 | skip)))))
  refine ar_keep 29 (by dsimp only [keepS] <;> exact rfl) ?_
  refine ar_forM (l.length) (fun i => True) (fun i => [(4, (TV.sv (.one (.lit (.int .i64 (i)))))), (3, (TV.sv (.one (.hd 7))))]) (fun i => [(7, some (.row 30 2 ((l.take i ++ List.replicate (l.length - i) noLt).map eLate)))]) ?_ ?_ ?_
  rotate_left
  · first | trivial | simp
  (dsimp only [rnCap, capSVs, Int.toNat_natCast, ro, Nat.reduceAdd, Nat.reduceMul, Nat.zero_add, List.map, putT, app, wrapG, gOb, argT, keys, slotOf, dropped, gAnd, wB, rnT, rnS, rnC, rnCs, rnSs, rnM, rnB, rnN, rn, lk, St.over, ded, delL, keepT, menT, menSs, menS, menCs, menC, hasN, resT, SV.cells]; refine wk3 ?_; (focus ((try refine nrmO ?_); (repeat' (first | exact True.intro | refine And.intro ?_ ?_)); all_goals (try (intro (hg_ : _ = true); (try simp only [isNilI, inB, reduceCtorEq, cds] at hg_); (repeat' (first | exact True.intro | refine And.intro ?_ ?_)))); all_goals (first | exact ob1 | exact rfl | skip))))
  rotate_right
  intro i hi_ hiI_
  dsimp only [rnCap, capSVs, Int.toNat_natCast, ro, Nat.reduceAdd, Nat.reduceMul, Nat.zero_add, List.map, putT, app, wrapG, gOb, argT, keys, slotOf, dropped, gAnd, wB, rnT, rnS, rnC, rnCs, rnSs, rnM, rnB, rnN, rn, lk, St.over, ded, delL, keepT, menT, menSs, menS, menCs, menC, hasN, resT, SV.cells]
  have hlen : (l.take i ++ List.replicate (l.length - i) noLt).length = l.length := by rw [List.length_append, List.length_take, List.length_replicate]; omega
  repeat' (refine ar_id ?_; first | refine st1 ?_ | (refine ar_drawS (id := 5) tt_ok (by kernel_rfl) [.elem (eLate (l.getD i noLt)), .call (c_toLt (l.getD i noLt)), .elem (eLate ((l.take i ++ List.replicate (l.length - i) noLt).getD i noLt))] ?_; refine ed_hide ?_; intro K_ hK_; repeat' (first | ((first | refine ed_call3 ?_ | refine ed_sure3 ?_ | refine ed_cons3 ?_); refine ed_hide ?_; intro K_ hK_; (try dsimp only [c_toLt]); (try refine nrmE ?_)) | (refine ed_nil ?_; (repeat subst hK_); dsimp only; refine Exists.intro _ (And.intro rfl (And.intro (by kernel_rfl) (And.intro ?_ ?_))); rotate_left; (try dsimp only [c_toLt]); (try refine nrm ?_); rotate_right))) | (first | ((first | refine ar_region (id := 5) tt_ok (inps := [.elem (eLate (l.getD i noLt)), .call (c_toLt (l.getD i noLt)), .elem (eLate ((l.take i ++ List.replicate (l.length - i) noLt).getD i noLt))]) rfl ?_ ?_ | refine ar_region tt_ok (inps := []) rfl ?_ ?_); rotate_left; (try dsimp only [c_toLt]); (try refine nrm ?_); rotate_right) | refine ret3 ?_ | refine end3 ?_) | (refine ar_cond rfl trivial ?_ ?_ <;> intro hc_ <;> (try simp only [isNilI, inB, reduceCtorEq, cds] at hc_) <;> (try (first | contradiction | (exfalso; omega)))) | refine ar_until (And.intro ?_ (wk3 ?_)))
  all_goals (first | refine ar_id ?_ | (try (focus ((try refine nrmO ?_); (repeat' (first | exact True.intro | refine And.intro ?_ ?_)); all_goals (try (intro (hg_ : _ = true); (try simp only [isNilI, inB, reduceCtorEq, cds] at hg_); (repeat' (first | exact True.intro | refine And.intro ?_ ?_)))); all_goals (first | exact ob1 | exact fn_toLt _ | skip)))))
  · exact to_set (E := eLate) (by omega)
  · rw [show i = l.length by omega, List.take_length, Nat.sub_self]; rw [show List.replicate 0 noLt = [] from rfl, List.append_nil]
  · rw [Nat.sub_zero, show l.take 0 = [] from rfl, List.nil_append, List.map_replicate]; rfl
def c_eqLt (e : GLate) : CFD := ⟨15, [.agg [(CV.lit (.int .i64 (e.Index))), (CV.lit (.int .i64 (e.Slot)))], .agg [(CV.lit (.int .i64 (e.Index))), (CV.lit (.int .i64 (e.Slot)))]], [], (TV.sv (.one (.lit (.bool (true))))), [], [], []⟩
theorem fn_eqLt (e : GLate) : Fn Try.prog (c_eqLt e) := by
  refine fn_intro tt_ok Try.func15 rfl Try.call15 Try.ntmps15 Try.results15 rfl rfl rfl rfl ?_
  intro X ρ0 hb_ hgl_
  dsimp only [c_eqLt]
  try refine nrm ?_
  repeat' (refine ar_id ?_; first | refine st1 ?_ | (first | ((first | refine ar_region tt_ok (inps := []) rfl ?_ ?_); rotate_left; (try refine nrm ?_); rotate_right) | refine ret3 ?_ | refine end3 ?_) | (refine ar_cond rfl trivial ?_ ?_ <;> intro hc_ <;> (try simp only [isNilI, inB, reduceCtorEq, cds] at hc_) <;> (try (first | contradiction | (exfalso; omega)))) | refine ar_until (And.intro ?_ (wk3 ?_)))
  all_goals (first | refine ar_id ?_ | (try (focus ((try refine nrmO ?_); (repeat' (first | exact True.intro | refine And.intro ?_ ?_)); all_goals (try (intro (hg_ : _ = true); (try simp only [isNilI, inB, reduceCtorEq, cds] at hg_); (repeat' (first | exact True.intro | refine And.intro ?_ ?_)))); all_goals (first | exact ob1 | skip)))))
def c_eqLS (l : List GLate) : CFD := ⟨9, [.one (ro 30 2 eLate l), .one (ro 30 2 eLate l)], [], (TV.sv (.one (.lit (.bool (true))))), [], [], []⟩
theorem fn_eqLS (l : List GLate) (hl : l.length ≤ 1048576) : Fn Try.prog (c_eqLS l) := by
  refine fn_intro tt_ok Try.func9 rfl Try.call9 Try.ntmps9 Try.results9 rfl rfl rfl rfl ?_
  intro X ρ0 hb_ hgl_
  dsimp only [c_eqLS]
  try refine nrm ?_
  repeat' (refine ar_id ?_; first | refine st1 ?_ | (first | ((first | refine ar_region tt_ok (inps := []) rfl ?_ ?_); rotate_left; (try refine nrm ?_); rotate_right) | refine ret3 ?_ | refine end3 ?_) | (refine ar_cond rfl trivial ?_ ?_ <;> intro hc_ <;> (try simp only [isNilI, inB, reduceCtorEq, cds] at hc_) <;> (try (first | contradiction | (exfalso; omega)))) | refine ar_until (And.intro ?_ (wk3 ?_)))
  all_goals (first | refine ar_id ?_ | (try (focus ((try refine nrmO ?_); (repeat' (first | exact True.intro | refine And.intro ?_ ?_)); all_goals (try (intro (hg_ : _ = true); (try simp only [isNilI, inB, reduceCtorEq, cds] at hg_); (repeat' (first | exact True.intro | refine And.intro ?_ ?_)))); all_goals (first | exact ob1 | skip)))))
  refine ar_keep 51 (by dsimp only [keepS] <;> exact rfl) ?_
  refine ar_forM (l.length) (fun i => True) (fun i => [(5, (TV.sv (.one (.lit (.int .i64 (i))))))]) (fun i => []) ?_ ?_ ?_
  rotate_left
  · first | trivial | simp
  (dsimp only [rnCap, capSVs, Int.toNat_natCast, ro, Nat.reduceAdd, Nat.reduceMul, Nat.zero_add, List.map, putT, app, wrapG, gOb, argT, keys, slotOf, dropped, gAnd, wB, rnT, rnS, rnC, rnCs, rnSs, rnM, rnB, rnN, rn, lk, St.over, ded, delL, keepT, menT, menSs, menS, menCs, menC, hasN, resT, SV.cells]; refine wk3 ?_; (focus ((try refine nrmO ?_); (repeat' (first | exact True.intro | refine And.intro ?_ ?_)); all_goals (try (intro (hg_ : _ = true); (try simp only [isNilI, inB, reduceCtorEq, cds] at hg_); (repeat' (first | exact True.intro | refine And.intro ?_ ?_)))); all_goals (first | exact ob1 | exact rfl | skip))))
  rotate_right
  intro i hi_ hiI_
  dsimp only [rnCap, capSVs, Int.toNat_natCast, ro, Nat.reduceAdd, Nat.reduceMul, Nat.zero_add, List.map, putT, app, wrapG, gOb, argT, keys, slotOf, dropped, gAnd, wB, rnT, rnS, rnC, rnCs, rnSs, rnM, rnB, rnN, rn, lk, St.over, ded, delL, keepT, menT, menSs, menS, menCs, menC, hasN, resT, SV.cells]
  repeat' (refine ar_id ?_; first | refine st1 ?_ | (refine ar_drawS (id := 6) tt_ok (by kernel_rfl) [.elem (eLate (l.getD i noLt)), .elem (eLate (l.getD i noLt)), .call (c_eqLt (l.getD i noLt))] ?_; refine ed_hide ?_; intro K_ hK_; repeat' (first | ((first | refine ed_call3 ?_ | refine ed_sure3 ?_ | refine ed_cons3 ?_); refine ed_hide ?_; intro K_ hK_; (try dsimp only [c_eqLt]); (try refine nrmE ?_)) | (refine ed_nil ?_; (repeat subst hK_); dsimp only; refine Exists.intro _ (And.intro rfl (And.intro (by kernel_rfl) (And.intro ?_ ?_))); rotate_left; (try dsimp only [c_eqLt]); (try refine nrm ?_); rotate_right))) | (first | ((first | refine ar_region tt_ok (inps := []) rfl ?_ ?_); rotate_left; (try dsimp only [c_eqLt]); (try refine nrm ?_); rotate_right) | refine ret3 ?_ | refine end3 ?_) | (refine ar_cond rfl trivial ?_ ?_ <;> intro hc_ <;> (try simp only [isNilI, inB, reduceCtorEq, cds] at hc_) <;> (try (first | contradiction | (exfalso; omega)))) | refine ar_until (And.intro ?_ (wk3 ?_)))
  all_goals (first | refine ar_id ?_ | (try (focus ((try refine nrmO ?_); (repeat' (first | exact True.intro | refine And.intro ?_ ?_)); all_goals (try (intro (hg_ : _ = true); (try simp only [isNilI, inB, reduceCtorEq, cds] at hg_); (repeat' (first | exact True.intro | refine And.intro ?_ ?_)))); all_goals (first | exact ob1 | exact fn_eqLt _ | skip)))))
  all_goals trace_state
def c_markLS (l : List GLate) (k : Nat) : CFD := ⟨10, [.one (.hd 0), (SV.one (.lit (.int .i64 ((k : Int)))))], [(0, some (.row 30 2 (l.map eLate)))], (TV.sv (.one (.lit (.int .i64 (((k + 2 * l.length : Nat) : Int)))))), [(0, some (.row 30 2 ((mkT k l.length).map eLate)))], [], []⟩
theorem fn_markLS (l : List GLate) (k : Nat) (hl : l.length ≤ 1048576) (hk : k ≤ 1000000000) : Fn Try.prog (c_markLS l k) := by
  refine fn_intro tt_ok Try.func10 rfl Try.call10 Try.ntmps10 Try.results10 rfl rfl rfl rfl ?_
  intro X ρ0 hb_ hgl_
  dsimp only [c_markLS]
  try refine nrm ?_
  repeat' (refine ar_id ?_; first | refine st1 ?_ | (first | ((first | refine ar_region tt_ok (inps := []) rfl ?_ ?_); rotate_left; (try refine nrm ?_); rotate_right) | refine ret3 ?_ | refine end3 ?_) | (refine ar_cond rfl trivial ?_ ?_ <;> intro hc_ <;> (try simp only [isNilI, inB, reduceCtorEq, cds] at hc_) <;> (try (first | contradiction | (exfalso; omega)))) | refine ar_until (And.intro ?_ (wk3 ?_)))
  all_goals (first | refine ar_id ?_ | (try (focus ((try refine nrmO ?_); (repeat' (first | exact True.intro | refine And.intro ?_ ?_)); all_goals (try (intro (hg_ : _ = true); (try simp only [isNilI, inB, reduceCtorEq, cds] at hg_); (repeat' (first | exact True.intro | refine And.intro ?_ ?_)))); all_goals (first | exact ob1 | skip)))))
  refine ar_keep 51 (by dsimp only [keepS] <;> exact rfl) ?_
  refine ar_forM (l.length) (fun i => True) (fun i => [(5, (TV.sv (.one (.lit (.int .i64 (i)))))), (1, (TV.sv (.one (.lit (.int .i64 (((k + 2 * i : Nat) : Int))))))), (0, (TV.sv (.one (.hd 0))))]) (fun i => [(0, some (.row 30 2 ((mkT k i ++ l.drop i).map eLate)))]) ?_ ?_ ?_
  rotate_left
  · first | trivial | simp
  (dsimp only [rnCap, capSVs, Int.toNat_natCast, ro, Nat.reduceAdd, Nat.reduceMul, Nat.zero_add, List.map, putT, app, wrapG, gOb, argT, keys, slotOf, dropped, gAnd, wB, rnT, rnS, rnC, rnCs, rnSs, rnM, rnB, rnN, rn, lk, St.over, ded, delL, keepT, menT, menSs, menS, menCs, menC, hasN, resT, SV.cells]; refine wk3 ?_; (focus ((try refine nrmO ?_); (repeat' (first | exact True.intro | refine And.intro ?_ ?_)); all_goals (try (intro (hg_ : _ = true); (try simp only [isNilI, inB, reduceCtorEq, cds] at hg_); (repeat' (first | exact True.intro | refine And.intro ?_ ?_)))); all_goals (first | exact ob1 | exact rfl | skip))))
  rotate_right
  intro i hi_ hiI_
  dsimp only [rnCap, capSVs, Int.toNat_natCast, ro, Nat.reduceAdd, Nat.reduceMul, Nat.zero_add, List.map, putT, app, wrapG, gOb, argT, keys, slotOf, dropped, gAnd, wB, rnT, rnS, rnC, rnCs, rnSs, rnM, rnB, rnN, rn, lk, St.over, ded, delL, keepT, menT, menSs, menS, menCs, menC, hasN, resT, SV.cells]
  have hlen : i ≤ l.length → (mkT k i ++ l.drop i).length = l.length := fun h => by rw [List.length_append, mkT_len, List.length_drop]; omega
  obtain ⟨e, he⟩ : ∃ e, (mkT k i ++ l.drop i).getD i noLt = e := ⟨_, rfl⟩
  repeat' (refine ar_id ?_; first | refine st1 ?_ | (first | ((first | refine ar_region (id := 4) tt_ok (inps := [.elem (eLate e)]) rfl ?_ ?_ | refine ar_region (id := 6) tt_ok (inps := [.elem (eLate ⟨((k + 2 * i : Nat) : Int), e.Slot⟩)]) rfl ?_ ?_ | refine ar_region tt_ok (inps := []) rfl ?_ ?_); rotate_left; (try refine nrm ?_); rotate_right) | refine ret3 ?_ | refine end3 ?_) | (refine ar_cond rfl trivial ?_ ?_ <;> intro hc_ <;> (try simp only [isNilI, inB, reduceCtorEq, cds] at hc_) <;> (try (first | contradiction | (exfalso; omega)))) | refine ar_until (And.intro ?_ (wk3 ?_)))
  all_goals (first | refine ar_id ?_ | (try (focus ((try refine nrmO ?_); (repeat' (first | exact True.intro | refine And.intro ?_ ?_)); all_goals (try (intro (hg_ : _ = true); (try simp only [isNilI, inB, reduceCtorEq, cds] at hg_); (repeat' (first | exact True.intro | refine And.intro ?_ ?_)))); all_goals (first | exact ob1 | exact (he ▸ map_at (by rw [hlen (by omega)]; omega)) | skip)))))
  all_goals first
    | (show 0 + 0 + 1 ≤ 2; omega)
    | (show 0 + 1 + 1 ≤ 2; omega)
    | (rw [List.length_set, List.length_map]; exact hc_)
    | (rw [Int.toNat_natCast, List.getElem?_set_self (by rw [List.length_map]; omega)]; rfl)
    | (rw [List.set_set]; exact mkT_set (by have := hlen (by omega); omega))
    | (have := hlen (by omega); rw [show i = l.length by omega, List.drop_length, List.append_nil])
    | trace_state
def c_heldLS (n k : Nat) : CFD := ⟨11, [.one (ro 30 2 eLate (mkT k n)), (SV.one (.lit (.int .i64 ((k : Int)))))], [], (TV.sv (.one (.lit (.int .i64 (((k + 2 * n : Nat) : Int)))))), [], [], []⟩
theorem fn_heldLS (n k : Nat) (hl : n ≤ 1048576) (hk : k ≤ 1000000000) : Fn Try.prog (c_heldLS n k) := by
  have hln := mkT_len k n
  refine fn_intro tt_ok Try.func11 rfl Try.call11 Try.ntmps11 Try.results11 rfl rfl rfl rfl ?_
  intro X ρ0 hb_ hgl_
  dsimp only [c_heldLS]
  try refine nrm ?_
  repeat' (refine ar_id ?_; first | refine st1 ?_ | (first | ((first | refine ar_region tt_ok (inps := []) rfl ?_ ?_); rotate_left; (try refine nrm ?_); rotate_right) | refine ret3 ?_ | refine end3 ?_) | (refine ar_cond rfl trivial ?_ ?_ <;> intro hc_ <;> (try simp only [isNilI, inB, reduceCtorEq, cds] at hc_) <;> (try (first | contradiction | (exfalso; omega)))) | refine ar_until (And.intro ?_ (wk3 ?_)))
  all_goals (first | refine ar_id ?_ | (try (focus ((try refine nrmO ?_); (repeat' (first | exact True.intro | refine And.intro ?_ ?_)); all_goals (try (intro (hg_ : _ = true); (try simp only [isNilI, inB, reduceCtorEq, cds] at hg_); (repeat' (first | exact True.intro | refine And.intro ?_ ?_)))); all_goals (first | exact ob1 | skip)))))
  refine ar_keep 51 (by dsimp only [keepS] <;> exact rfl) ?_
  refine ar_forM (n) (fun i => True) (fun i => [(5, (TV.sv (.one (.lit (.int .i64 (i)))))), (1, (TV.sv (.one (.lit (.int .i64 (((k + 2 * i : Nat) : Int)))))))]) (fun i => []) ?_ ?_ ?_
  rotate_left
  · first | trivial | simp
  (dsimp only [rnCap, capSVs, Int.toNat_natCast, ro, Nat.reduceAdd, Nat.reduceMul, Nat.zero_add, List.map, putT, app, wrapG, gOb, argT, keys, slotOf, dropped, gAnd, wB, rnT, rnS, rnC, rnCs, rnSs, rnM, rnB, rnN, rn, lk, St.over, ded, delL, keepT, menT, menSs, menS, menCs, menC, hasN, resT, SV.cells]; refine wk3 ?_; (focus ((try refine nrmO ?_); (repeat' (first | exact True.intro | refine And.intro ?_ ?_)); all_goals (try (intro (hg_ : _ = true); (try simp only [isNilI, inB, reduceCtorEq, cds] at hg_); (repeat' (first | exact True.intro | refine And.intro ?_ ?_)))); all_goals (first | exact ob1 | exact rfl | skip))))
  rotate_right
  intro i hi_ hiI_
  dsimp only [rnCap, capSVs, Int.toNat_natCast, ro, Nat.reduceAdd, Nat.reduceMul, Nat.zero_add, List.map, putT, app, wrapG, gOb, argT, keys, slotOf, dropped, gAnd, wB, rnT, rnS, rnC, rnCs, rnSs, rnM, rnB, rnN, rn, lk, St.over, ded, delL, keepT, menT, menSs, menS, menCs, menC, hasN, resT, SV.cells]
  have hm : i < n → (mkT k n).getD i noLt = tMk (k + 2 * i) := fun h => mkT_at h
  have hm1 : i < n → ((mkT k n).getD i noLt).Index = ((k + 2 * i : Nat) : Int) := fun h => by rw [hm h]; rfl
  have hm2 : i < n → ((mkT k n).getD i noLt).Slot = ((k + 2 * i + 1 : Nat) : Int) := fun h => by rw [hm h]; rfl
  repeat' (refine ar_id ?_; first | refine st1 ?_ | (first | ((first | refine ar_region (id := 4) tt_ok (inps := [.elem (eLate ((mkT k n).getD i noLt))]) rfl ?_ ?_ | refine ar_region (id := 7) tt_ok (inps := [.elem (eLate ((mkT k n).getD i noLt))]) rfl ?_ ?_ | refine ar_region tt_ok (inps := []) rfl ?_ ?_); rotate_left; (try refine nrm ?_); rotate_right) | refine ret3 ?_ | refine end3 ?_) | (refine ar_cond rfl trivial ?_ ?_ <;> intro hc_ <;> (try simp only [isNilI, inB, reduceCtorEq, cds] at hc_) <;> (try (first | contradiction | (exfalso; omega)))) | refine ar_until (And.intro ?_ (wk3 ?_)))
  all_goals (first | refine ar_id ?_ | (try (focus ((try refine nrmO ?_); (repeat' (first | exact True.intro | refine And.intro ?_ ?_)); all_goals (try (intro (hg_ : _ = true); (try simp only [isNilI, inB, reduceCtorEq, cds] at hg_); (repeat' (first | exact True.intro | refine And.intro ?_ ?_)))); all_goals (first | exact ob1 | skip)))))
  all_goals trace_state
end Eng
end Go.Proofs.Ytgeakpeodhhffaa

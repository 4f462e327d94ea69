/- Lemmas for the proofs, part 4 of 5: a symbolic run of the program, and what it needs. -/
import Derived.RowKit
import Derived.WalkKit
import Derived.LaidEql
import Derived.Stop.Asserts
import Derived.RowKitTokens
import Derived.Test.YtabnglcabpijfaaDoorA3
namespace Go.Proofs.YtabnglcabpijfaaDoor
open Go.RowKit
set_option linter.unusedVariables false
set_option linter.unusedSimpArgs false
set_option maxRecDepth 100000
namespace Eng
open Tr
/-- the numbers from k on -/
def mkI (k n : Nat) : List Int := (List.range n).map fun i => ((k + i : Nat) : Int)
theorem mkI_len (k n : Nat) : (mkI k n).length = n := by unfold mkI; rw [List.length_map, List.length_range]
theorem mkI_at {k n i : Nat} (h : i < n) : (mkI k n).getD i 0 = ((k + i : Nat) : Int) := by
  unfold mkI
  rw [List.getD_eq_getElem?_getD, List.getElem?_map, List.getElem?_range h]
  rfl
theorem mkI_succ (k n : Nat) : mkI k (n + 1) = mkI k n ++ [((k + n : Nat) : Int)] := by unfold mkI; rw [List.range_succ, List.map_append]; rfl
theorem mid_set {α : Type} (a b : List α) {i : Nat} (x : α) (ha : a.length = i) (hb : i < a.length + b.length) : (a ++ b).set i x = a ++ [x] ++ b.drop 1 := by
  subst ha
  cases b with
  | nil => simp at hb
  | cons y b => simp
theorem mkI_set {l : List Int} {k i : Nat} (hi : i < l.length) : ((mkI k i ++ l.drop i).map Tr.eI).set i (Tr.eI ((k + i : Nat) : Int)) = (mkI k (i + 1) ++ l.drop (i + 1)).map Tr.eI := by
  rw [← List.map_set, mid_set _ _ _ (mkI_len k i) (by rw [mkI_len, List.length_drop]; omega), mkI_succ, List.drop_drop, Nat.add_comm i 1]
theorem to_set {α : Type} {E : α → D} {l : List α} {z d : α} {i : Nat} (hi : i < l.length) : ((l.take i ++ List.replicate (l.length - i) z).map E).set i (E (l.getD i d)) = (l.take (i + 1) ++ List.replicate (l.length - (i + 1)) z).map E := by
  rw [← List.map_set, mid_set _ _ _ (by rw [List.length_take]; omega) (by rw [List.length_take, List.length_replicate]; omega), take_getD l d hi]
  congr 2
  rw [List.drop_replicate, Nat.sub_sub]
theorem raw_max {α : Type} {w : World} {T k : Nat} {E : α → D} {l : List α} {v : Value} (h : Raw w (rowD T k E l) [v]) : l.length ≤ 9223372036854775807 := by
  obtain ⟨_, _, _, _, h⟩ := h
  rcases h with ⟨_, h, _⟩ | ⟨_, cap, _, _, h1, h2, _⟩
  · rw [List.length_map] at h; omega
  · rw [List.length_map] at h1
    have : maxLen = 9223372036854775807 := rfl
    omega
def c_szI (l : List Int) (a v : Int) : CFD := ⟨14, [.one (ro 3 1 Tr.eI l), (SV.one (.lit (.int .i64 (a))))], [], (TV.sv (.one (.lit (.int .i64 (v))))), [], [], []⟩
theorem fn_szI (l : List Int) (a v : Int) (hl : l.length ≤ 9223372036854775807) (ha : 0 ≤ a ∧ a ≤ 1048576) (hv : v = if a - (l.length : Int) < 0 then -1 else a - (l.length : Int)) : Fn Tryd.prog (c_szI l a v) := by
  refine fn_intro tt_ok Tryd.func14 rfl Tryd.call14 Tryd.ntmps14 Tryd.results14 rfl rfl rfl rfl ?_
  intro X ρ0 hb_ hgl_
  dsimp only [c_szI]
  try refine nrm ?_
  repeat' (refine ar_id ?_; first | refine st1 ?_ | (first | ((first | refine ar_region tt_ok (inps := []) rfl ?_ ?_); rotate_left; (try refine nrm ?_); rotate_right) | refine ret3 ?_ | refine end3 ?_) | (refine ar_cond rfl trivial ?_ ?_ <;> intro hc_ <;> (try simp only [isNilI, inB, reduceCtorEq, cds] at hc_) <;> (try (first | contradiction | (exfalso; omega)))) | refine ar_until (And.intro ?_ (wk3 ?_)))
  all_goals (first | refine ar_id ?_ | (try (focus ((try refine nrmO ?_); (repeat' (first | exact True.intro | refine And.intro ?_ ?_)); all_goals (try (intro (hg_ : _ = true); (try simp only [isNilI, inB, reduceCtorEq, cds] at hg_); (repeat' (first | exact True.intro | refine And.intro ?_ ?_)))); all_goals (first | exact ob1 | skip)))))
  all_goals first | (rw [hv, if_pos (by omega)]) | (rw [hv, if_neg (by omega)])
def c_toI (l : List Int) : CFD := ⟨19, [.one (ro 3 1 Tr.eI l)], [], .sv (.one (.hd 0)), [(0, some (.row 3 1 (l.map Tr.eI)))], [0], []⟩
theorem fn_toI (l : List Int) (hl : l.length ≤ 1048576) : Fn Tryd.prog (c_toI l) := by
  refine fn_intro tt_ok Tryd.func19 rfl Tryd.call19 Tryd.ntmps19 Tryd.results19 rfl rfl rfl rfl ?_
  intro X ρ0 hb_ hgl_
  dsimp only [c_toI]
  try refine nrm ?_
  repeat' (refine ar_id ?_; first | refine st1 ?_ | (first | ((first | refine ar_region tt_ok (inps := []) rfl ?_ ?_); rotate_left; (try refine nrm ?_); rotate_right) | refine ret3 ?_ | refine end3 ?_) | (refine ar_cond rfl trivial ?_ ?_ <;> intro hc_ <;> (try simp only [isNilI, inB, reduceCtorEq, cds] at hc_) <;> (try (first | contradiction | (exfalso; omega)))) | refine ar_until (And.intro ?_ (wk3 ?_)))
  all_goals (first | refine ar_id ?_ | (try (focus ((try refine nrmO ?_); (repeat' (first | exact True.intro | refine And.intro ?_ ?_)); all_goals (try (intro (hg_ : _ = true); (try simp only [isNilI, inB, reduceCtorEq, cds] at hg_); (repeat' (first | exact True.intro | refine And.intro ?_ ?_)))); all_goals (first | exact ob1 | skip)))))
  refine ar_keep 29 (by dsimp only [keepS] <;> exact rfl) ?_
  refine ar_forM (l.length) (fun i => True) (fun i => [(4, (TV.sv (.one (.lit (.int .i64 (i)))))), (3, (TV.sv (.one (.hd 7))))]) (fun i => [(7, some (.row 3 1 ((l.take i ++ List.replicate (l.length - i) 0).map Tr.eI)))]) ?_ ?_ ?_
  rotate_left
  · first | trivial | simp
  (dsimp only [rnCap, capSVs, Int.toNat_natCast, ro, Nat.reduceAdd, Nat.reduceMul, Nat.zero_add, List.map, putT, app, wrapG, gOb, argT, keys, slotOf, dropped, gAnd, wB, rnT, rnS, rnC, rnCs, rnSs, rnM, rnB, rnN, rn, lk, St.over, ded, delL, keepT, menT, menSs, menS, menCs, menC, hasN, resT, SV.cells]; refine wk3 ?_; (focus ((try refine nrmO ?_); (repeat' (first | exact True.intro | refine And.intro ?_ ?_)); all_goals (try (intro (hg_ : _ = true); (try simp only [isNilI, inB, reduceCtorEq, cds] at hg_); (repeat' (first | exact True.intro | refine And.intro ?_ ?_)))); all_goals (first | exact ob1 | exact rfl | skip))))
  rotate_right
  intro i hi_ hiI_
  dsimp only [rnCap, capSVs, Int.toNat_natCast, ro, Nat.reduceAdd, Nat.reduceMul, Nat.zero_add, List.map, putT, app, wrapG, gOb, argT, keys, slotOf, dropped, gAnd, wB, rnT, rnS, rnC, rnCs, rnSs, rnM, rnB, rnN, rn, lk, St.over, ded, delL, keepT, menT, menSs, menS, menCs, menC, hasN, resT, SV.cells]
  have hlen : (l.take i ++ List.replicate (l.length - i) (0 : Int)).length = l.length := by rw [List.length_append, List.length_take, List.length_replicate]; omega
  repeat' (refine ar_id ?_; first | refine st1 ?_ | (refine ar_drawS (id := 5) tt_ok (by kernel_rfl) [.elem (Tr.eI (l.getD i 0)), .elem (Tr.eI ((l.take i ++ List.replicate (l.length - i) 0).getD i 0))] ?_; refine ed_hide ?_; intro K_ hK_; repeat' (first | ((first | refine ed_call3 ?_ | refine ed_sure3 ?_ | refine ed_cons3 ?_); refine ed_hide ?_; intro K_ hK_; (try refine nrmE ?_)) | (refine ed_nil ?_; (repeat subst hK_); dsimp only; refine Exists.intro _ (And.intro rfl (And.intro (by kernel_rfl) (And.intro ?_ ?_))); rotate_left; (try refine nrm ?_); rotate_right))) | (first | ((first | refine ar_region (id := 5) tt_ok (inps := [.elem (Tr.eI (l.getD i 0)), .elem (Tr.eI ((l.take i ++ List.replicate (l.length - i) 0).getD i 0))]) rfl ?_ ?_ | refine ar_region tt_ok (inps := []) rfl ?_ ?_); rotate_left; (try refine nrm ?_); rotate_right) | refine ret3 ?_ | refine end3 ?_) | (refine ar_cond rfl trivial ?_ ?_ <;> intro hc_ <;> (try simp only [isNilI, inB, reduceCtorEq, cds] at hc_) <;> (try (first | contradiction | (exfalso; omega)))) | refine ar_until (And.intro ?_ (wk3 ?_)))
  all_goals (first | refine ar_id ?_ | (try (focus ((try refine nrmO ?_); (repeat' (first | exact True.intro | refine And.intro ?_ ?_)); all_goals (try (intro (hg_ : _ = true); (try simp only [isNilI, inB, reduceCtorEq, cds] at hg_); (repeat' (first | exact True.intro | refine And.intro ?_ ?_)))); all_goals (first | exact ob1 | skip)))))
  · exact to_set (E := Tr.eI) (by omega)
  · rw [show i = l.length by omega, List.take_length, Nat.sub_self]; rw [show List.replicate 0 (0 : Int) = [] from rfl, List.append_nil]
  · rw [Nat.sub_zero, show l.take 0 = [] from rfl, List.nil_append, List.map_replicate]; rfl
def c_eqI (l : List Int) : CFD := ⟨24, [.one (ro 3 1 Tr.eI l), .one (ro 3 1 Tr.eI l)], [], (TV.sv (.one (.lit (.bool (true))))), [], [], []⟩
theorem fn_eqI (l : List Int) (hl : l.length ≤ 1048576) : Fn Tryd.prog (c_eqI l) := by
  refine fn_intro tt_ok Tryd.func24 rfl Tryd.call24 Tryd.ntmps24 Tryd.results24 rfl rfl rfl rfl ?_
  intro X ρ0 hb_ hgl_
  dsimp only [c_eqI]
  try refine nrm ?_
  repeat' (refine ar_id ?_; first | refine st1 ?_ | (first | ((first | refine ar_region tt_ok (inps := []) rfl ?_ ?_); rotate_left; (try refine nrm ?_); rotate_right) | refine ret3 ?_ | refine end3 ?_) | (refine ar_cond rfl trivial ?_ ?_ <;> intro hc_ <;> (try simp only [isNilI, inB, reduceCtorEq, cds] at hc_) <;> (try (first | contradiction | (exfalso; omega)))) | refine ar_until (And.intro ?_ (wk3 ?_)))
  all_goals (first | refine ar_id ?_ | (try (focus ((try refine nrmO ?_); (repeat' (first | exact True.intro | refine And.intro ?_ ?_)); all_goals (try (intro (hg_ : _ = true); (try simp only [isNilI, inB, reduceCtorEq, cds] at hg_); (repeat' (first | exact True.intro | refine And.intro ?_ ?_)))); all_goals (first | exact ob1 | skip)))))
  refine ar_keep 51 (by dsimp only [keepS] <;> exact rfl) ?_
  refine ar_forM (l.length) (fun i => True) (fun i => [(5, (TV.sv (.one (.lit (.int .i64 (i))))))]) (fun i => []) ?_ ?_ ?_
  rotate_left
  · first | trivial | simp
  (dsimp only [rnCap, capSVs, Int.toNat_natCast, ro, Nat.reduceAdd, Nat.reduceMul, Nat.zero_add, List.map, putT, app, wrapG, gOb, argT, keys, slotOf, dropped, gAnd, wB, rnT, rnS, rnC, rnCs, rnSs, rnM, rnB, rnN, rn, lk, St.over, ded, delL, keepT, menT, menSs, menS, menCs, menC, hasN, resT, SV.cells]; refine wk3 ?_; (focus ((try refine nrmO ?_); (repeat' (first | exact True.intro | refine And.intro ?_ ?_)); all_goals (try (intro (hg_ : _ = true); (try simp only [isNilI, inB, reduceCtorEq, cds] at hg_); (repeat' (first | exact True.intro | refine And.intro ?_ ?_)))); all_goals (first | exact ob1 | exact rfl | skip))))
  rotate_right
  intro i hi_ hiI_
  dsimp only [rnCap, capSVs, Int.toNat_natCast, ro, Nat.reduceAdd, Nat.reduceMul, Nat.zero_add, List.map, putT, app, wrapG, gOb, argT, keys, slotOf, dropped, gAnd, wB, rnT, rnS, rnC, rnCs, rnSs, rnM, rnB, rnN, rn, lk, St.over, ded, delL, keepT, menT, menSs, menS, menCs, menC, hasN, resT, SV.cells]
  repeat' (refine ar_id ?_; first | refine st1 ?_ | (refine ar_drawS (id := 6) tt_ok (by kernel_rfl) [.elem (Tr.eI (l.getD i 0)), .elem (Tr.eI (l.getD i 0))] ?_; refine ed_hide ?_; intro K_ hK_; repeat' (first | ((first | refine ed_call3 ?_ | refine ed_sure3 ?_ | refine ed_cons3 ?_); refine ed_hide ?_; intro K_ hK_; (try refine nrmE ?_)) | (refine ed_nil ?_; (repeat subst hK_); dsimp only; refine Exists.intro _ (And.intro rfl (And.intro (by kernel_rfl) (And.intro ?_ ?_))); rotate_left; (try refine nrm ?_); rotate_right))) | (first | ((first | refine ar_region tt_ok (inps := []) rfl ?_ ?_); rotate_left; (try refine nrm ?_); rotate_right) | refine ret3 ?_ | refine end3 ?_) | (refine ar_cond rfl trivial ?_ ?_ <;> intro hc_ <;> (try simp only [isNilI, inB, reduceCtorEq, cds] at hc_) <;> (try (first | contradiction | (exfalso; omega)))) | refine ar_until (And.intro ?_ (wk3 ?_)))
  all_goals (first | refine ar_id ?_ | (try (focus ((try refine nrmO ?_); (repeat' (first | exact True.intro | refine And.intro ?_ ?_)); all_goals (try (intro (hg_ : _ = true); (try simp only [isNilI, inB, reduceCtorEq, cds] at hg_); (repeat' (first | exact True.intro | refine And.intro ?_ ?_)))); all_goals (first | exact ob1 | skip)))))
def c_markI (l : List Int) (k : Nat) : CFD := ⟨26, [.one (.hd 0), (SV.one (.lit (.int .i64 ((k : Int)))))], [(0, some (.row 3 1 (l.map Tr.eI)))], (TV.sv (.one (.lit (.int .i64 (((k + l.length : Nat) : Int)))))), [(0, some (.row 3 1 ((mkI k l.length).map Tr.eI)))], [], []⟩
theorem fn_markI (l : List Int) (k : Nat) (hl : l.length ≤ 1048576) (hk : k ≤ 1000000000) : Fn Tryd.prog (c_markI l k) := by
  refine fn_intro tt_ok Tryd.func26 rfl Tryd.call26 Tryd.ntmps26 Tryd.results26 rfl rfl rfl rfl ?_
  intro X ρ0 hb_ hgl_
  dsimp only [c_markI]
  try refine nrm ?_
  repeat' (refine ar_id ?_; first | refine st1 ?_ | (first | ((first | refine ar_region tt_ok (inps := []) rfl ?_ ?_); rotate_left; (try refine nrm ?_); rotate_right) | refine ret3 ?_ | refine end3 ?_) | (refine ar_cond rfl trivial ?_ ?_ <;> intro hc_ <;> (try simp only [isNilI, inB, reduceCtorEq, cds] at hc_) <;> (try (first | contradiction | (exfalso; omega)))) | refine ar_until (And.intro ?_ (wk3 ?_)))
  all_goals (first | refine ar_id ?_ | (try (focus ((try refine nrmO ?_); (repeat' (first | exact True.intro | refine And.intro ?_ ?_)); all_goals (try (intro (hg_ : _ = true); (try simp only [isNilI, inB, reduceCtorEq, cds] at hg_); (repeat' (first | exact True.intro | refine And.intro ?_ ?_)))); all_goals (first | exact ob1 | skip)))))
  refine ar_keep 51 (by dsimp only [keepS] <;> exact rfl) ?_
  refine ar_forM (l.length) (fun i => True) (fun i => [(5, (TV.sv (.one (.lit (.int .i64 (i)))))), (1, (TV.sv (.one (.lit (.int .i64 (((k + i : Nat) : Int))))))), (0, (TV.sv (.one (.hd 0))))]) (fun i => [(0, some (.row 3 1 ((mkI k i ++ l.drop i).map Tr.eI)))]) ?_ ?_ ?_
  rotate_left
  · first | trivial | simp
  (dsimp only [rnCap, capSVs, Int.toNat_natCast, ro, Nat.reduceAdd, Nat.reduceMul, Nat.zero_add, List.map, putT, app, wrapG, gOb, argT, keys, slotOf, dropped, gAnd, wB, rnT, rnS, rnC, rnCs, rnSs, rnM, rnB, rnN, rn, lk, St.over, ded, delL, keepT, menT, menSs, menS, menCs, menC, hasN, resT, SV.cells]; refine wk3 ?_; (focus ((try refine nrmO ?_); (repeat' (first | exact True.intro | refine And.intro ?_ ?_)); all_goals (try (intro (hg_ : _ = true); (try simp only [isNilI, inB, reduceCtorEq, cds] at hg_); (repeat' (first | exact True.intro | refine And.intro ?_ ?_)))); all_goals (first | exact ob1 | exact rfl | skip))))
  rotate_right
  intro i hi_ hiI_
  dsimp only [rnCap, capSVs, Int.toNat_natCast, ro, Nat.reduceAdd, Nat.reduceMul, Nat.zero_add, List.map, putT, app, wrapG, gOb, argT, keys, slotOf, dropped, gAnd, wB, rnT, rnS, rnC, rnCs, rnSs, rnM, rnB, rnN, rn, lk, St.over, ded, delL, keepT, menT, menSs, menS, menCs, menC, hasN, resT, SV.cells]
  have hlen : i ≤ l.length → (mkI k i ++ l.drop i).length = l.length := fun h => by rw [List.length_append, mkI_len, List.length_drop]; omega
  repeat' (refine ar_id ?_; first | refine st1 ?_ | (refine ar_drawS (id := 4) tt_ok (by kernel_rfl) [.elem (Tr.eI ((mkI k i ++ l.drop i).getD i 0))] ?_; refine ed_hide ?_; intro K_ hK_; repeat' (first | ((first | refine ed_call3 ?_ | refine ed_sure3 ?_ | refine ed_cons3 ?_); refine ed_hide ?_; intro K_ hK_; (try refine nrmE ?_)) | (refine ed_nil ?_; (repeat subst hK_); dsimp only; refine Exists.intro _ (And.intro rfl (And.intro (by kernel_rfl) (And.intro ?_ ?_))); rotate_left; (try refine nrm ?_); rotate_right))) | (first | ((first | refine ar_region (id := 4) tt_ok (inps := [.elem (Tr.eI ((mkI k i ++ l.drop i).getD i 0))]) rfl ?_ ?_ | refine ar_region tt_ok (inps := []) rfl ?_ ?_); rotate_left; (try refine nrm ?_); rotate_right) | refine ret3 ?_ | refine end3 ?_) | (refine ar_cond rfl trivial ?_ ?_ <;> intro hc_ <;> (try simp only [isNilI, inB, reduceCtorEq, cds] at hc_) <;> (try (first | contradiction | (exfalso; omega)))) | refine ar_until (And.intro ?_ (wk3 ?_)))
  all_goals (first | refine ar_id ?_ | (try (focus ((try refine nrmO ?_); (repeat' (first | exact True.intro | refine And.intro ?_ ?_)); all_goals (try (intro (hg_ : _ = true); (try simp only [isNilI, inB, reduceCtorEq, cds] at hg_); (repeat' (first | exact True.intro | refine And.intro ?_ ?_)))); all_goals (first | exact ob1 | exact map_at (by rw [hlen (by omega)]; omega) | skip)))))
  · exact mkI_set (by have := hlen (by omega); omega)
  · have := hlen (by omega)
    rw [show i = l.length by omega, List.drop_length, List.append_nil]
def c_heldI (n k : Nat) : CFD := ⟨28, [.one (ro 3 1 Tr.eI (mkI k n)), (SV.one (.lit (.int .i64 ((k : Int)))))], [], (TV.sv (.one (.lit (.int .i64 (((k + n : Nat) : Int)))))), [], [], []⟩
theorem fn_heldI (n k : Nat) (hl : n ≤ 1048576) (hk : k ≤ 1000000000) : Fn Tryd.prog (c_heldI n k) := by
  have hln := mkI_len k n
  refine fn_intro tt_ok Tryd.func28 rfl Tryd.call28 Tryd.ntmps28 Tryd.results28 rfl rfl rfl rfl ?_
  intro X ρ0 hb_ hgl_
  dsimp only [c_heldI]
  try refine nrm ?_
  repeat' (refine ar_id ?_; first | refine st1 ?_ | (first | ((first | refine ar_region tt_ok (inps := []) rfl ?_ ?_); rotate_left; (try refine nrm ?_); rotate_right) | refine ret3 ?_ | refine end3 ?_) | (refine ar_cond rfl trivial ?_ ?_ <;> intro hc_ <;> (try simp only [isNilI, inB, reduceCtorEq, cds] at hc_) <;> (try (first | contradiction | (exfalso; omega)))) | refine ar_until (And.intro ?_ (wk3 ?_)))
  all_goals (first | refine ar_id ?_ | (try (focus ((try refine nrmO ?_); (repeat' (first | exact True.intro | refine And.intro ?_ ?_)); all_goals (try (intro (hg_ : _ = true); (try simp only [isNilI, inB, reduceCtorEq, cds] at hg_); (repeat' (first | exact True.intro | refine And.intro ?_ ?_)))); all_goals (first | exact ob1 | skip)))))
  refine ar_keep 51 (by dsimp only [keepS] <;> exact rfl) ?_
  refine ar_forM (n) (fun i => True) (fun i => [(5, (TV.sv (.one (.lit (.int .i64 (i)))))), (1, (TV.sv (.one (.lit (.int .i64 (((k + i : Nat) : Int)))))))]) (fun i => []) ?_ ?_ ?_
  rotate_left
  · first | trivial | simp
  (dsimp only [rnCap, capSVs, Int.toNat_natCast, ro, Nat.reduceAdd, Nat.reduceMul, Nat.zero_add, List.map, putT, app, wrapG, gOb, argT, keys, slotOf, dropped, gAnd, wB, rnT, rnS, rnC, rnCs, rnSs, rnM, rnB, rnN, rn, lk, St.over, ded, delL, keepT, menT, menSs, menS, menCs, menC, hasN, resT, SV.cells]; refine wk3 ?_; (focus ((try refine nrmO ?_); (repeat' (first | exact True.intro | refine And.intro ?_ ?_)); all_goals (try (intro (hg_ : _ = true); (try simp only [isNilI, inB, reduceCtorEq, cds] at hg_); (repeat' (first | exact True.intro | refine And.intro ?_ ?_)))); all_goals (first | exact ob1 | exact rfl | skip))))
  rotate_right
  intro i hi_ hiI_
  dsimp only [rnCap, capSVs, Int.toNat_natCast, ro, Nat.reduceAdd, Nat.reduceMul, Nat.zero_add, List.map, putT, app, wrapG, gOb, argT, keys, slotOf, dropped, gAnd, wB, rnT, rnS, rnC, rnCs, rnSs, rnM, rnB, rnN, rn, lk, St.over, ded, delL, keepT, menT, menSs, menS, menCs, menC, hasN, resT, SV.cells]
  have hm : i < n → (mkI k n).getD i 0 = ((k + i : Nat) : Int) := fun h => mkI_at h
  repeat' (refine ar_id ?_; first | refine st1 ?_ | (first | ((first | refine ar_region (id := 4) tt_ok (inps := [.elem (Tr.eI ((mkI k n).getD i 0))]) rfl ?_ ?_ | refine ar_region tt_ok (inps := []) rfl ?_ ?_); rotate_left; (try refine nrm ?_); rotate_right) | refine ret3 ?_ | refine end3 ?_) | (refine ar_cond rfl trivial ?_ ?_ <;> intro hc_ <;> (try simp only [isNilI, inB, reduceCtorEq, cds] at hc_) <;> (try (first | contradiction | (exfalso; omega)))) | refine ar_until (And.intro ?_ (wk3 ?_)))
  all_goals (first | refine ar_id ?_ | (try (focus ((try refine nrmO ?_); (repeat' (first | exact True.intro | refine And.intro ?_ ?_)); all_goals (try (intro (hg_ : _ = true); (try simp only [isNilI, inB, reduceCtorEq, cds] at hg_); (repeat' (first | exact True.intro | refine And.intro ?_ ?_)))); all_goals (first | exact ob1 | skip)))))
end Eng
end Go.Proofs.YtabnglcabpijfaaDoor
namespace Go.Proofs.YtabnglcabpijfaaDoor
open Go.RowKit
set_option linter.unusedVariables false
set_option linter.unusedSimpArgs false
set_option maxRecDepth 100000
namespace Eng
open Tr
/-- rows with marks from k on -/
def mkII : Nat → List (List Int) → List (List Int)
  | _, [] => []
  | k, r :: l => mkI k r.length :: mkII (k + r.length) l
def cntII : List (List Int) → Nat
  | [] => 0
  | r :: l => r.length + cntII l
theorem mkII_len : ∀ (k : Nat) (l : List (List Int)), (mkII k l).length = l.length
  | _, [] => rfl
  | k, r :: l => by show (mkII _ l).length + 1 = l.length + 1; rw [mkII_len]
theorem cntII_app : ∀ (a b : List (List Int)), cntII (a ++ b) = cntII a + cntII b
  | [], b => by rw [List.nil_append]; show _ = 0 + _; omega
  | r :: a, b => by show r.length + cntII (a ++ b) = r.length + cntII a + cntII b; rw [cntII_app a b]; omega
theorem mkII_app : ∀ (k : Nat) (a b : List (List Int)), mkII k (a ++ b) = mkII k a ++ mkII (k + cntII a) b
  | k, [], b => by rw [List.nil_append]; rfl
  | k, r :: a, b => by
    show mkI k r.length :: mkII (k + r.length) (a ++ b) = mkI k r.length :: (mkII (k + r.length) a ++ mkII (k + (r.length + cntII a)) b)
    rw [mkII_app (k + r.length) a b, Nat.add_assoc]
theorem cntII_take (l : List (List Int)) {i : Nat} (hi : i < l.length) : cntII (l.take (i + 1)) = cntII (l.take i) + (l.getD i []).length := by
  rw [take_getD l [] hi, cntII_app]; rfl
theorem mkII_take (k : Nat) (l : List (List Int)) {i : Nat} (hi : i < l.length) : mkII k (l.take (i + 1)) = mkII k (l.take i) ++ [mkI (k + cntII (l.take i)) (l.getD i []).length] := by
  rw [take_getD l [] hi, mkII_app]; rfl
theorem cntII_le (l : List (List Int)) : ∀ i, cntII (l.take i) ≤ cntII l
  | i => by
    have h : cntII (l.take i ++ l.drop i) = _ := cntII_app _ _
    rw [List.take_append_drop] at h
    rw [h]; exact Nat.le_add_right _ _
/-- truth values with marks -/
def mkB (k n : Nat) : List Bool := (List.range n).map fun i => decide ((k + i) % 3 = 0)
theorem mkB_len (k n : Nat) : (mkB k n).length = n := by unfold mkB; rw [List.length_map, List.length_range]
theorem mkB_at {k n i : Nat} (h : i < n) : (mkB k n).getD i false = decide ((k + i) % 3 = 0) := by
  unfold mkB
  rw [List.getD_eq_getElem?_getD, List.getElem?_map, List.getElem?_range h]
  rfl
theorem mkB_succ (k n : Nat) : mkB k (n + 1) = mkB k n ++ [decide ((k + n) % 3 = 0)] := by unfold mkB; rw [List.range_succ, List.map_append]; rfl
theorem mkB_set {l : List Bool} {k i : Nat} (hi : i < l.length) : ((mkB k i ++ l.drop i).map Tr.eB).set i (Tr.eB (decide ((k + i) % 3 = 0))) = (mkB k (i + 1) ++ l.drop (i + 1)).map Tr.eB := by
  rw [← List.map_set, mid_set _ _ _ (mkB_len k i) (by rw [mkB_len, List.length_drop]; omega), mkB_succ, List.drop_drop, Nat.add_comm i 1]
def enD : GEntry := ⟨0, 0⟩
/-- entries with marks -/
def mkE (k n : Nat) : List GEntry := (List.range n).map fun i => ⟨((k + 2 * i : Nat) : Int), ((k + 2 * i + 1 : Nat) : Int)⟩
theorem mkE_len (k n : Nat) : (mkE k n).length = n := by unfold mkE; rw [List.length_map, List.length_range]
theorem mkE_at {k n i : Nat} (h : i < n) : (mkE k n).getD i enD = ⟨((k + 2 * i : Nat) : Int), ((k + 2 * i + 1 : Nat) : Int)⟩ := by
  unfold mkE
  rw [List.getD_eq_getElem?_getD, List.getElem?_map, List.getElem?_range h]
  rfl
theorem mkE_succ (k n : Nat) : mkE k (n + 1) = mkE k n ++ [⟨((k + 2 * n : Nat) : Int), ((k + 2 * n + 1 : Nat) : Int)⟩] := by unfold mkE; rw [List.range_succ, List.map_append]; rfl
theorem mkE_set {l : List GEntry} {k i : Nat} (hi : i < l.length) : ((mkE k i ++ l.drop i).map eEntry).set i (eEntry ⟨((k + 2 * i : Nat) : Int), ((k + 2 * i + 1 : Nat) : Int)⟩) = (mkE k (i + 1) ++ l.drop (i + 1)).map eEntry := by
  rw [← List.map_set, mid_set _ _ _ (mkE_len k i) (by rw [mkE_len, List.length_drop]; omega), mkE_succ, List.drop_drop, Nat.add_comm i 1]
theorem raw_max2 {w : World} {T T2 k : Nat} {l : List (List Int)} {v : Value} (h : Raw w (rowD T k (fun r => rowD T2 1 eI r) l) [v]) : ∀ r ∈ l, r.length ≤ 9223372036854775807 := by
  obtain ⟨_, _, _, _, h⟩ := h
  rcases h with ⟨_, h, _⟩ | ⟨_, cap, us, _, _, _, _, _, hc⟩
  · rw [List.length_map] at h
    intro r hr
    rw [List.length_eq_zero_iff.1 h] at hr
    cases hr
  · intro r hr
    obtain ⟨i, hi, rfl⟩ := List.getElem_of_mem hr
    have hk : ∀ d ∈ l.map (fun r => rowD T2 1 eI r), d.len = 1 := fun d hd => by
      obtain ⟨x, _, rfl⟩ := List.mem_map.1 hd; rfl
    have hr := raw_cat 1 _ hk hc i (by rw [List.length_map]; exact hi)
    rw [List.getElem_map] at hr
    obtain ⟨x, hx⟩ : ∃ x, ((us.drop (i * 1)).take 1) = [x] := by
      have h1 := raw_len _ hr
      have h2 : (rowD T2 1 eI l[i]).len = 1 := rfl
      rw [h2] at h1
      exact List.length_eq_one_iff.1 h1
    rw [hx] at hr
    exact raw_max hr
def c_toB (l : List Bool) : CFD := ⟨58, [.one (ro 4 1 Tr.eB l)], [], .sv (.one (.hd 0)), [(0, some (.row 4 1 (l.map Tr.eB)))], [0], []⟩
theorem fn_toB (l : List Bool) (hl : l.length ≤ 1048576) : Fn Tryd.prog (c_toB l) := by
  refine fn_intro tt_ok Tryd.func58 rfl Tryd.call58 Tryd.ntmps58 Tryd.results58 rfl rfl rfl rfl ?_
  intro X ρ0 hb_ hgl_
  dsimp only [c_toB]
  try refine nrm ?_
  repeat' (refine ar_id ?_; first | refine st1 ?_ | (first | ((first | refine ar_region tt_ok (inps := []) rfl ?_ ?_); rotate_left; (try refine nrm ?_); rotate_right) | refine ret3 ?_ | refine end3 ?_) | (refine ar_cond rfl trivial ?_ ?_ <;> intro hc_ <;> (try simp only [isNilI, inB, reduceCtorEq, cds] at hc_) <;> (try (first | contradiction | (exfalso; omega)))) | refine ar_until (And.intro ?_ (wk3 ?_)))
  all_goals (first | refine ar_id ?_ | (try (focus ((try refine nrmO ?_); (repeat' (first | exact True.intro | refine And.intro ?_ ?_)); all_goals (try (intro (hg_ : _ = true); (try simp only [isNilI, inB, reduceCtorEq, cds] at hg_); (repeat' (first | exact True.intro | refine And.intro ?_ ?_)))); all_goals (first | exact ob1 | skip)))))
  refine ar_keep 29 (by dsimp only [keepS] <;> exact rfl) ?_
  refine ar_forM (l.length) (fun i => True) (fun i => [(4, (TV.sv (.one (.lit (.int .i64 (i)))))), (3, (TV.sv (.one (.hd 7))))]) (fun i => [(7, some (.row 4 1 ((l.take i ++ List.replicate (l.length - i) false).map Tr.eB)))]) ?_ ?_ ?_
  rotate_left
  · first | trivial | simp
  (dsimp only [rnCap, capSVs, Int.toNat_natCast, ro, Nat.reduceAdd, Nat.reduceMul, Nat.zero_add, List.map, putT, app, wrapG, gOb, argT, keys, slotOf, dropped, gAnd, wB, rnT, rnS, rnC, rnCs, rnSs, rnM, rnB, rnN, rn, lk, St.over, ded, delL, keepT, menT, menSs, menS, menCs, menC, hasN, resT, SV.cells]; refine wk3 ?_; (focus ((try refine nrmO ?_); (repeat' (first | exact True.intro | refine And.intro ?_ ?_)); all_goals (try (intro (hg_ : _ = true); (try simp only [isNilI, inB, reduceCtorEq, cds] at hg_); (repeat' (first | exact True.intro | refine And.intro ?_ ?_)))); all_goals (first | exact ob1 | exact rfl | skip))))
  rotate_right
  intro i hi_ hiI_
  dsimp only [rnCap, capSVs, Int.toNat_natCast, ro, Nat.reduceAdd, Nat.reduceMul, Nat.zero_add, List.map, putT, app, wrapG, gOb, argT, keys, slotOf, dropped, gAnd, wB, rnT, rnS, rnC, rnCs, rnSs, rnM, rnB, rnN, rn, lk, St.over, ded, delL, keepT, menT, menSs, menS, menCs, menC, hasN, resT, SV.cells]
  have hlen : (l.take i ++ List.replicate (l.length - i) false).length = l.length := by rw [List.length_append, List.length_take, List.length_replicate]; omega
  repeat' (refine ar_id ?_; first | refine st1 ?_ | (refine ar_drawS (id := 5) tt_ok (by kernel_rfl) [.elem (Tr.eB (l.getD i false)), .elem (Tr.eB ((l.take i ++ List.replicate (l.length - i) false).getD i false))] ?_; refine ed_hide ?_; intro K_ hK_; repeat' (first | ((first | refine ed_call3 ?_ | refine ed_sure3 ?_ | refine ed_cons3 ?_); refine ed_hide ?_; intro K_ hK_; (try refine nrmE ?_)) | (refine ed_nil ?_; (repeat subst hK_); dsimp only; refine Exists.intro _ (And.intro rfl (And.intro (by kernel_rfl) (And.intro ?_ ?_))); rotate_left; (try refine nrm ?_); rotate_right))) | (first | ((first | refine ar_region (id := 5) tt_ok (inps := [.elem (Tr.eB (l.getD i false)), .elem (Tr.eB ((l.take i ++ List.replicate (l.length - i) false).getD i false))]) rfl ?_ ?_ | refine ar_region tt_ok (inps := []) rfl ?_ ?_); rotate_left; (try refine nrm ?_); rotate_right) | refine ret3 ?_ | refine end3 ?_) | (refine ar_cond rfl trivial ?_ ?_ <;> intro hc_ <;> (try simp only [isNilI, inB, reduceCtorEq, cds] at hc_) <;> (try (first | contradiction | (exfalso; omega)))) | refine ar_until (And.intro ?_ (wk3 ?_)))
  all_goals (first | refine ar_id ?_ | (try (focus ((try refine nrmO ?_); (repeat' (first | exact True.intro | refine And.intro ?_ ?_)); all_goals (try (intro (hg_ : _ = true); (try simp only [isNilI, inB, reduceCtorEq, cds] at hg_); (repeat' (first | exact True.intro | refine And.intro ?_ ?_)))); all_goals (first | exact ob1 | skip)))))
  · exact to_set (E := Tr.eB) (by omega)
  · rw [show i = l.length by omega, List.take_length, Nat.sub_self]; rw [show List.replicate 0 false = [] from rfl, List.append_nil]
  · rw [Nat.sub_zero, show l.take 0 = [] from rfl, List.nil_append, List.map_replicate]; rfl
def c_eqB (l : List Bool) : CFD := ⟨71, [.one (ro 4 1 Tr.eB l), .one (ro 4 1 Tr.eB l)], [], (TV.sv (.one (.lit (.bool (true))))), [], [], []⟩
theorem fn_eqB (l : List Bool) (hl : l.length ≤ 1048576) : Fn Tryd.prog (c_eqB l) := by
  have hne : ∀ b : Bool, (b != b) = false := fun b => by cases b <;> rfl
  refine fn_intro tt_ok Tryd.func71 rfl Tryd.call71 Tryd.ntmps71 Tryd.results71 rfl rfl rfl rfl ?_
  intro X ρ0 hb_ hgl_
  dsimp only [c_eqB]
  try refine nrm ?_
  repeat' (refine ar_id ?_; first | refine st1 ?_ | (first | ((first | refine ar_region tt_ok (inps := []) rfl ?_ ?_); rotate_left; (try refine nrm ?_); rotate_right) | refine ret3 ?_ | refine end3 ?_) | (refine ar_cond rfl trivial ?_ ?_ <;> intro hc_ <;> (try simp only [isNilI, inB, reduceCtorEq, cds] at hc_) <;> (try (first | contradiction | (exfalso; omega)))) | refine ar_until (And.intro ?_ (wk3 ?_)))
  all_goals (first | refine ar_id ?_ | (try (focus ((try refine nrmO ?_); (repeat' (first | exact True.intro | refine And.intro ?_ ?_)); all_goals (try (intro (hg_ : _ = true); (try simp only [isNilI, inB, reduceCtorEq, cds] at hg_); (repeat' (first | exact True.intro | refine And.intro ?_ ?_)))); all_goals (first | exact ob1 | skip)))))
  refine ar_keep 51 (by dsimp only [keepS] <;> exact rfl) ?_
  refine ar_forM (l.length) (fun i => True) (fun i => [(5, (TV.sv (.one (.lit (.int .i64 (i))))))]) (fun i => []) ?_ ?_ ?_
  rotate_left
  · first | trivial | simp
  (dsimp only [rnCap, capSVs, Int.toNat_natCast, ro, Nat.reduceAdd, Nat.reduceMul, Nat.zero_add, List.map, putT, app, wrapG, gOb, argT, keys, slotOf, dropped, gAnd, wB, rnT, rnS, rnC, rnCs, rnSs, rnM, rnB, rnN, rn, lk, St.over, ded, delL, keepT, menT, menSs, menS, menCs, menC, hasN, resT, SV.cells]; refine wk3 ?_; (focus ((try refine nrmO ?_); (repeat' (first | exact True.intro | refine And.intro ?_ ?_)); all_goals (try (intro (hg_ : _ = true); (try simp only [isNilI, inB, reduceCtorEq, cds] at hg_); (repeat' (first | exact True.intro | refine And.intro ?_ ?_)))); all_goals (first | exact ob1 | exact rfl | skip))))
  rotate_right
  intro i hi_ hiI_
  dsimp only [rnCap, capSVs, Int.toNat_natCast, ro, Nat.reduceAdd, Nat.reduceMul, Nat.zero_add, List.map, putT, app, wrapG, gOb, argT, keys, slotOf, dropped, gAnd, wB, rnT, rnS, rnC, rnCs, rnSs, rnM, rnB, rnN, rn, lk, St.over, ded, delL, keepT, menT, menSs, menS, menCs, menC, hasN, resT, SV.cells]
  repeat' (refine ar_id ?_; first | refine st1 ?_ | (refine ar_drawS (id := 6) tt_ok (by kernel_rfl) [.elem (Tr.eB (l.getD i false)), .elem (Tr.eB (l.getD i false))] ?_; refine ed_hide ?_; intro K_ hK_; repeat' (first | ((first | refine ed_call3 ?_ | refine ed_sure3 ?_ | refine ed_cons3 ?_); refine ed_hide ?_; intro K_ hK_; (try refine nrmE ?_)) | (refine ed_nil ?_; (repeat subst hK_); dsimp only; refine Exists.intro _ (And.intro rfl (And.intro (by kernel_rfl) (And.intro ?_ ?_))); rotate_left; (try refine nrm ?_); rotate_right))) | (first | ((first | refine ar_region tt_ok (inps := []) rfl ?_ ?_); rotate_left; (try refine nrm ?_); rotate_right) | refine ret3 ?_ | refine end3 ?_) | (refine ar_cond rfl trivial ?_ ?_ <;> intro hc_ <;> (try simp only [isNilI, inB, reduceCtorEq, cds] at hc_) <;> (try (first | contradiction | (exfalso; omega) | (exfalso; (rw [hne] at hc_; cases hc_))))) | refine ar_until (And.intro ?_ (wk3 ?_)))
  all_goals (first | refine ar_id ?_ | (try (focus ((try refine nrmO ?_); (repeat' (first | exact True.intro | refine And.intro ?_ ?_)); all_goals (try (intro (hg_ : _ = true); (try simp only [isNilI, inB, reduceCtorEq, cds] at hg_); (repeat' (first | exact True.intro | refine And.intro ?_ ?_)))); all_goals (first | exact ob1 | exact rfl | skip)))))
def c_markB (l : List Bool) (k : Nat) : CFD := ⟨74, [.one (.hd 0), (SV.one (.lit (.int .i64 ((k : Int)))))], [(0, some (.row 4 1 (l.map Tr.eB)))], (TV.sv (.one (.lit (.int .i64 (((k + l.length : Nat) : Int)))))), [(0, some (.row 4 1 ((mkB k l.length).map Tr.eB)))], [], []⟩
theorem mod3 (n : Nat) : (((n : Nat) : Int).tmod 3 == 0) = decide (n % 3 = 0) := by
  rw [Int.tmod_eq_emod_of_nonneg (by omega), Bool.eq_iff_iff, beq_iff_eq, decide_eq_true_eq]
  omega
theorem fn_markB (l : List Bool) (k : Nat) (hl : l.length ≤ 1048576) (hk : k ≤ 1000000000) : Fn Tryd.prog (c_markB l k) := by
  refine fn_intro tt_ok Tryd.func74 rfl Tryd.call74 Tryd.ntmps74 Tryd.results74 rfl rfl rfl rfl ?_
  intro X ρ0 hb_ hgl_
  dsimp only [c_markB]
  try refine nrm ?_
  repeat' (refine ar_id ?_; first | refine st1 ?_ | (first | ((first | refine ar_region tt_ok (inps := []) rfl ?_ ?_); rotate_left; (try refine nrm ?_); rotate_right) | refine ret3 ?_ | refine end3 ?_) | (refine ar_cond rfl trivial ?_ ?_ <;> intro hc_ <;> (try simp only [isNilI, inB, reduceCtorEq, cds] at hc_) <;> (try (first | contradiction | (exfalso; omega)))) | refine ar_until (And.intro ?_ (wk3 ?_)))
  all_goals (first | refine ar_id ?_ | (try (focus ((try refine nrmO ?_); (repeat' (first | exact True.intro | refine And.intro ?_ ?_)); all_goals (try (intro (hg_ : _ = true); (try simp only [isNilI, inB, reduceCtorEq, cds] at hg_); (repeat' (first | exact True.intro | refine And.intro ?_ ?_)))); all_goals (first | exact ob1 | skip)))))
  refine ar_keep 51 (by dsimp only [keepS] <;> exact rfl) ?_
  refine ar_forM (l.length) (fun i => True) (fun i => [(5, (TV.sv (.one (.lit (.int .i64 (i)))))), (1, (TV.sv (.one (.lit (.int .i64 (((k + i : Nat) : Int))))))), (0, (TV.sv (.one (.hd 0))))]) (fun i => [(0, some (.row 4 1 ((mkB k i ++ l.drop i).map Tr.eB)))]) ?_ ?_ ?_
  rotate_left
  · first | trivial | simp
  (dsimp only [rnCap, capSVs, Int.toNat_natCast, ro, Nat.reduceAdd, Nat.reduceMul, Nat.zero_add, List.map, putT, app, wrapG, gOb, argT, keys, slotOf, dropped, gAnd, wB, rnT, rnS, rnC, rnCs, rnSs, rnM, rnB, rnN, rn, lk, St.over, ded, delL, keepT, menT, menSs, menS, menCs, menC, hasN, resT, SV.cells]; refine wk3 ?_; (focus ((try refine nrmO ?_); (repeat' (first | exact True.intro | refine And.intro ?_ ?_)); all_goals (try (intro (hg_ : _ = true); (try simp only [isNilI, inB, reduceCtorEq, cds] at hg_); (repeat' (first | exact True.intro | refine And.intro ?_ ?_)))); all_goals (first | exact ob1 | exact rfl | skip))))
  rotate_right
  intro i hi_ hiI_
  dsimp only [rnCap, capSVs, Int.toNat_natCast, ro, Nat.reduceAdd, Nat.reduceMul, Nat.zero_add, List.map, putT, app, wrapG, gOb, argT, keys, slotOf, dropped, gAnd, wB, rnT, rnS, rnC, rnCs, rnSs, rnM, rnB, rnN, rn, lk, St.over, ded, delL, keepT, menT, menSs, menS, menCs, menC, hasN, resT, SV.cells]
  have hlen : i ≤ l.length → (mkB k i ++ l.drop i).length = l.length := fun h => by rw [List.length_append, mkB_len, List.length_drop]; omega
  have ht : inK .i64 (((k + i : Nat) : Int).tmod 3) := by rw [Int.tmod_eq_emod_of_nonneg (by omega)]; exact i64_ok (by omega) (by omega)
  repeat' (refine ar_id ?_; first | refine st1 ?_ | (refine ar_drawS (id := 4) tt_ok (by kernel_rfl) [.elem (Tr.eB ((mkB k i ++ l.drop i).getD i false))] ?_; refine ed_hide ?_; intro K_ hK_; repeat' (first | ((first | refine ed_call3 ?_ | refine ed_sure3 ?_ | refine ed_cons3 ?_); refine ed_hide ?_; intro K_ hK_; (try refine nrmE ?_)) | (refine ed_nil ?_; (repeat subst hK_); dsimp only; refine Exists.intro _ (And.intro rfl (And.intro (by kernel_rfl) (And.intro ?_ ?_))); rotate_left; (try refine nrm ?_); rotate_right))) | (first | ((first | refine ar_region (id := 4) tt_ok (inps := [.elem (Tr.eB ((mkB k i ++ l.drop i).getD i false))]) rfl ?_ ?_ | refine ar_region tt_ok (inps := []) rfl ?_ ?_); rotate_left; (try refine nrm ?_); rotate_right) | refine ret3 ?_ | refine end3 ?_) | (refine ar_cond rfl trivial ?_ ?_ <;> intro hc_ <;> (try simp only [isNilI, inB, reduceCtorEq, cds] at hc_) <;> (try (first | contradiction | (exfalso; omega)))) | refine ar_until (And.intro ?_ (wk3 ?_)))
  all_goals (first | refine ar_id ?_ | (try (focus ((try refine nrmO ?_); (repeat' (first | exact True.intro | refine And.intro ?_ ?_)); all_goals (try (intro (hg_ : _ = true); (try simp only [isNilI, inB, reduceCtorEq, cds] at hg_); (repeat' (first | exact True.intro | refine And.intro ?_ ?_)))); all_goals (first | exact ob1 | exact ht | exact map_at (by rw [hlen (by omega)]; omega) | skip)))))
  · rw [mod3]
    exact mkB_set (by have := hlen (by omega); omega)
  · have := hlen (by omega)
    rw [show i = l.length by omega, List.drop_length, List.append_nil]
def c_heldB (n k : Nat) : CFD := ⟨77, [.one (ro 4 1 Tr.eB (mkB k n)), (SV.one (.lit (.int .i64 ((k : Int)))))], [], (TV.sv (.one (.lit (.int .i64 (((k + n : Nat) : Int)))))), [], [], []⟩
theorem fn_heldB (n k : Nat) (hl : n ≤ 1048576) (hk : k ≤ 1000000000) : Fn Tryd.prog (c_heldB n k) := by
  have hln := mkB_len k n
  refine fn_intro tt_ok Tryd.func77 rfl Tryd.call77 Tryd.ntmps77 Tryd.results77 rfl rfl rfl rfl ?_
  intro X ρ0 hb_ hgl_
  dsimp only [c_heldB]
  try refine nrm ?_
  repeat' (refine ar_id ?_; first | refine st1 ?_ | (first | ((first | refine ar_region tt_ok (inps := []) rfl ?_ ?_); rotate_left; (try refine nrm ?_); rotate_right) | refine ret3 ?_ | refine end3 ?_) | (refine ar_cond rfl trivial ?_ ?_ <;> intro hc_ <;> (try simp only [isNilI, inB, reduceCtorEq, cds] at hc_) <;> (try (first | contradiction | (exfalso; omega)))) | refine ar_until (And.intro ?_ (wk3 ?_)))
  all_goals (first | refine ar_id ?_ | (try (focus ((try refine nrmO ?_); (repeat' (first | exact True.intro | refine And.intro ?_ ?_)); all_goals (try (intro (hg_ : _ = true); (try simp only [isNilI, inB, reduceCtorEq, cds] at hg_); (repeat' (first | exact True.intro | refine And.intro ?_ ?_)))); all_goals (first | exact ob1 | skip)))))
  refine ar_keep 51 (by dsimp only [keepS] <;> exact rfl) ?_
  refine ar_forM (n) (fun i => True) (fun i => [(5, (TV.sv (.one (.lit (.int .i64 (i)))))), (1, (TV.sv (.one (.lit (.int .i64 (((k + i : Nat) : Int)))))))]) (fun i => []) ?_ ?_ ?_
  rotate_left
  · first | trivial | simp
  (dsimp only [rnCap, capSVs, Int.toNat_natCast, ro, Nat.reduceAdd, Nat.reduceMul, Nat.zero_add, List.map, putT, app, wrapG, gOb, argT, keys, slotOf, dropped, gAnd, wB, rnT, rnS, rnC, rnCs, rnSs, rnM, rnB, rnN, rn, lk, St.over, ded, delL, keepT, menT, menSs, menS, menCs, menC, hasN, resT, SV.cells]; refine wk3 ?_; (focus ((try refine nrmO ?_); (repeat' (first | exact True.intro | refine And.intro ?_ ?_)); all_goals (try (intro (hg_ : _ = true); (try simp only [isNilI, inB, reduceCtorEq, cds] at hg_); (repeat' (first | exact True.intro | refine And.intro ?_ ?_)))); all_goals (first | exact ob1 | exact rfl | skip))))
  rotate_right
  intro i hi_ hiI_
  dsimp only [rnCap, capSVs, Int.toNat_natCast, ro, Nat.reduceAdd, Nat.reduceMul, Nat.zero_add, List.map, putT, app, wrapG, gOb, argT, keys, slotOf, dropped, gAnd, wB, rnT, rnS, rnC, rnCs, rnSs, rnM, rnB, rnN, rn, lk, St.over, ded, delL, keepT, menT, menSs, menS, menCs, menC, hasN, resT, SV.cells]
  have hm : i < n → ((mkB k n).getD i false != (((k + i : Nat) : Int).tmod 3 == 0)) = false := fun h => by rw [mkB_at h, mod3]; simp
  have ht : inK .i64 (((k + i : Nat) : Int).tmod 3) := by rw [Int.tmod_eq_emod_of_nonneg (by omega)]; exact i64_ok (by omega) (by omega)
  repeat' (refine ar_id ?_; first | refine st1 ?_ | (first | ((first | refine ar_region (id := 4) tt_ok (inps := [.elem (Tr.eB ((mkB k n).getD i false))]) rfl ?_ ?_ | refine ar_region tt_ok (inps := []) rfl ?_ ?_); rotate_left; (try refine nrm ?_); rotate_right) | refine ret3 ?_ | refine end3 ?_) | (refine ar_cond rfl trivial ?_ ?_ <;> intro hc_ <;> (try simp only [isNilI, inB, reduceCtorEq, cds] at hc_) <;> (try (first | contradiction | (exfalso; omega) | (exfalso; (rw [hm (by omega)] at hc_; cases hc_))))) | refine ar_until (And.intro ?_ (wk3 ?_)))
  all_goals (first | refine ar_id ?_ | (try (focus ((try refine nrmO ?_); (repeat' (first | exact True.intro | refine And.intro ?_ ?_)); all_goals (try (intro (hg_ : _ = true); (try simp only [isNilI, inB, reduceCtorEq, cds] at hg_); (repeat' (first | exact True.intro | refine And.intro ?_ ?_)))); all_goals (first | exact ob1 | exact ht | skip)))))
  exact absurd (by have := hm (by omega); simpa using this) hc_
def c_toE (e : GEntry) : CFD := ⟨80, [.agg [(CV.lit (.int .i64 (e.Mode))), (CV.lit (.int .i64 (e.Frame)))]], [], .sv (.agg [(CV.lit (.int .i64 (e.Mode))), (CV.lit (.int .i64 (e.Frame)))]), [], [], []⟩
theorem fn_toE (e : GEntry) : Fn Tryd.prog (c_toE e) := by
  refine fn_intro tt_ok Tryd.func80 rfl Tryd.call80 Tryd.ntmps80 Tryd.results80 rfl rfl rfl rfl ?_
  intro X ρ0 hb_ hgl_
  dsimp only [c_toE]
  try refine nrm ?_
  repeat' (refine ar_id ?_; first | refine st1 ?_ | (first | ((first | refine ar_region tt_ok (inps := []) rfl ?_ ?_); rotate_left; (try refine nrm ?_); rotate_right) | refine ret3 ?_ | refine end3 ?_) | (refine ar_cond rfl trivial ?_ ?_ <;> intro hc_ <;> (try simp only [isNilI, inB, reduceCtorEq, cds] at hc_) <;> (try (first | contradiction | (exfalso; omega)))) | refine ar_until (And.intro ?_ (wk3 ?_)))
  all_goals (first | refine ar_id ?_ | (try (focus ((try refine nrmO ?_); (repeat' (first | exact True.intro | refine And.intro ?_ ?_)); all_goals (try (intro (hg_ : _ = true); (try simp only [isNilI, inB, reduceCtorEq, cds] at hg_); (repeat' (first | exact True.intro | refine And.intro ?_ ?_)))); all_goals (first | exact ob1 | skip)))))
def c_toES (l : List GEntry) : CFD := ⟨59, [.one (ro 110 2 eEntry l)], [], .sv (.one (.hd 0)), [(0, some (.row 75 2 (l.map eEntry)))], [0], []⟩
theorem fn_toES (l : List GEntry) (hl : l.length ≤ 1048576) : Fn Tryd.prog (c_toES l) := by
  refine fn_intro tt_ok Tryd.func59 rfl Tryd.call59 Tryd.ntmps59 Tryd.results59 rfl rfl rfl rfl ?_
  intro X ρ0 hb_ hgl_
  dsimp only [c_toES]
  try refine nrm ?_
  repeat' (refine ar_id ?_; first | refine st1 ?_ | (first | ((first | refine ar_region tt_ok (inps := []) rfl ?_ ?_); rotate_left; (try refine nrm ?_); rotate_right) | refine ret3 ?_ | refine end3 ?_) | (refine ar_cond rfl trivial ?_ ?_ <;> intro hc_ <;> (try simp only [isNilI, inB, reduceCtorEq, cds] at hc_) <;> (try (first | contradiction | (exfalso; omega)))) | refine ar_until (And.intro ?_ (wk3 ?_)))
  all_goals (first | refine ar_id ?_ | (try (focus ((try refine nrmO ?_); (repeat' (first | exact True.intro | refine And.intro ?_ ?_)); all_goals (try (intro (hg_ : _ = true); (try simp only [isNilI, inB, reduceCtorEq, cds] at hg_); (repeat' (first | exact True.intro | refine And.intro ?_ ?_)))); all_goals (first | exact ob1 | skip)))))
  refine ar_keep 29 (by dsimp only [keepS] <;> exact rfl) ?_
  refine ar_forM (l.length) (fun i => True) (fun i => [(4, (TV.sv (.one (.lit (.int .i64 (i)))))), (3, (TV.sv (.one (.hd 7))))]) (fun i => [(7, some (.row 75 2 ((l.take i ++ List.replicate (l.length - i) enD).map eEntry)))]) ?_ ?_ ?_
  rotate_left
  · first | trivial | simp
  (dsimp only [rnCap, capSVs, Int.toNat_natCast, ro, Nat.reduceAdd, Nat.reduceMul, Nat.zero_add, List.map, putT, app, wrapG, gOb, argT, keys, slotOf, dropped, gAnd, wB, rnT, rnS, rnC, rnCs, rnSs, rnM, rnB, rnN, rn, lk, St.over, ded, delL, keepT, menT, menSs, menS, menCs, menC, hasN, resT, SV.cells]; refine wk3 ?_; (focus ((try refine nrmO ?_); (repeat' (first | exact True.intro | refine And.intro ?_ ?_)); all_goals (try (intro (hg_ : _ = true); (try simp only [isNilI, inB, reduceCtorEq, cds] at hg_); (repeat' (first | exact True.intro | refine And.intro ?_ ?_)))); all_goals (first | exact ob1 | exact rfl | skip))))
  rotate_right
  intro i hi_ hiI_
  dsimp only [rnCap, capSVs, Int.toNat_natCast, ro, Nat.reduceAdd, Nat.reduceMul, Nat.zero_add, List.map, putT, app, wrapG, gOb, argT, keys, slotOf, dropped, gAnd, wB, rnT, rnS, rnC, rnCs, rnSs, rnM, rnB, rnN, rn, lk, St.over, ded, delL, keepT, menT, menSs, menS, menCs, menC, hasN, resT, SV.cells]
  have hlen : (l.take i ++ List.replicate (l.length - i) enD).length = l.length := by rw [List.length_append, List.length_take, List.length_replicate]; omega
  repeat' (refine ar_id ?_; first | refine st1 ?_ | (refine ar_drawS (id := 5) tt_ok (by kernel_rfl) [.elem (eEntry (l.getD i enD)), .call (c_toE (l.getD i enD)), .elem (eEntry ((l.take i ++ List.replicate (l.length - i) enD).getD i enD))] ?_; refine ed_hide ?_; intro K_ hK_; repeat' (first | ((first | refine ed_call3 ?_ | refine ed_sure3 ?_ | refine ed_cons3 ?_); refine ed_hide ?_; intro K_ hK_; (try dsimp only [c_toE]); (try refine nrmE ?_)) | (refine ed_nil ?_; (repeat subst hK_); dsimp only; refine Exists.intro _ (And.intro rfl (And.intro (by kernel_rfl) (And.intro ?_ ?_))); rotate_left; (try dsimp only [c_toE]); (try refine nrm ?_); rotate_right))) | (first | ((first | refine ar_region (id := 5) tt_ok (inps := [.elem (eEntry (l.getD i enD)), .call (c_toE (l.getD i enD)), .elem (eEntry ((l.take i ++ List.replicate (l.length - i) enD).getD i enD))]) rfl ?_ ?_ | refine ar_region tt_ok (inps := []) rfl ?_ ?_); rotate_left; (try dsimp only [c_toE]); (try refine nrm ?_); rotate_right) | refine ret3 ?_ | refine end3 ?_) | (refine ar_cond rfl trivial ?_ ?_ <;> intro hc_ <;> (try simp only [isNilI, inB, reduceCtorEq, cds] at hc_) <;> (try (first | contradiction | (exfalso; omega)))) | refine ar_until (And.intro ?_ (wk3 ?_)))
  all_goals (first | refine ar_id ?_ | (try (focus ((try refine nrmO ?_); (repeat' (first | exact True.intro | refine And.intro ?_ ?_)); all_goals (try (intro (hg_ : _ = true); (try simp only [isNilI, inB, reduceCtorEq, cds] at hg_); (repeat' (first | exact True.intro | refine And.intro ?_ ?_)))); all_goals (first | exact ob1 | exact fn_toE _ | skip)))))
  · exact to_set (E := eEntry) (by omega)
  · rw [show i = l.length by omega, List.take_length, Nat.sub_self]; rw [show List.replicate 0 enD = [] from rfl, List.append_nil]
  · rw [Nat.sub_zero, show l.take 0 = [] from rfl, List.nil_append, List.map_replicate]; rfl
def c_eqE (e : GEntry) : CFD := ⟨88, [.agg [(CV.lit (.int .i64 (e.Mode))), (CV.lit (.int .i64 (e.Frame)))], .agg [(CV.lit (.int .i64 (e.Mode))), (CV.lit (.int .i64 (e.Frame)))]], [], (TV.sv (.one (.lit (.bool (true))))), [], [], []⟩
theorem fn_eqE (e : GEntry) : Fn Tryd.prog (c_eqE e) := by
  refine fn_intro tt_ok Tryd.func88 rfl Tryd.call88 Tryd.ntmps88 Tryd.results88 rfl rfl rfl rfl ?_
  intro X ρ0 hb_ hgl_
  dsimp only [c_eqE]
  try refine nrm ?_
  repeat' (refine ar_id ?_; first | refine st1 ?_ | (first | ((first | refine ar_region tt_ok (inps := []) rfl ?_ ?_); rotate_left; (try refine nrm ?_); rotate_right) | refine ret3 ?_ | refine end3 ?_) | (refine ar_cond rfl trivial ?_ ?_ <;> intro hc_ <;> (try simp only [isNilI, inB, reduceCtorEq, cds] at hc_) <;> (try (first | contradiction | (exfalso; omega)))) | refine ar_until (And.intro ?_ (wk3 ?_)))
  all_goals (first | refine ar_id ?_ | (try (focus ((try refine nrmO ?_); (repeat' (first | exact True.intro | refine And.intro ?_ ?_)); all_goals (try (intro (hg_ : _ = true); (try simp only [isNilI, inB, reduceCtorEq, cds] at hg_); (repeat' (first | exact True.intro | refine And.intro ?_ ?_)))); all_goals (first | exact ob1 | skip)))))
def c_eqES (l : List GEntry) : CFD := ⟨72, [.one (ro 75 2 eEntry l), .one (ro 75 2 eEntry l)], [], (TV.sv (.one (.lit (.bool (true))))), [], [], []⟩
theorem fn_eqES (l : List GEntry) (hl : l.length ≤ 1048576) : Fn Tryd.prog (c_eqES l) := by
  refine fn_intro tt_ok Tryd.func72 rfl Tryd.call72 Tryd.ntmps72 Tryd.results72 rfl rfl rfl rfl ?_
  intro X ρ0 hb_ hgl_
  dsimp only [c_eqES]
  try refine nrm ?_
  repeat' (refine ar_id ?_; first | refine st1 ?_ | (first | ((first | refine ar_region tt_ok (inps := []) rfl ?_ ?_); rotate_left; (try refine nrm ?_); rotate_right) | refine ret3 ?_ | refine end3 ?_) | (refine ar_cond rfl trivial ?_ ?_ <;> intro hc_ <;> (try simp only [isNilI, inB, reduceCtorEq, cds] at hc_) <;> (try (first | contradiction | (exfalso; omega)))) | refine ar_until (And.intro ?_ (wk3 ?_)))
  all_goals (first | refine ar_id ?_ | (try (focus ((try refine nrmO ?_); (repeat' (first | exact True.intro | refine And.intro ?_ ?_)); all_goals (try (intro (hg_ : _ = true); (try simp only [isNilI, inB, reduceCtorEq, cds] at hg_); (repeat' (first | exact True.intro | refine And.intro ?_ ?_)))); all_goals (first | exact ob1 | skip)))))
  refine ar_keep 51 (by dsimp only [keepS] <;> exact rfl) ?_
  refine ar_forM (l.length) (fun i => True) (fun i => [(5, (TV.sv (.one (.lit (.int .i64 (i))))))]) (fun i => []) ?_ ?_ ?_
  rotate_left
  · first | trivial | simp
  (dsimp only [rnCap, capSVs, Int.toNat_natCast, ro, Nat.reduceAdd, Nat.reduceMul, Nat.zero_add, List.map, putT, app, wrapG, gOb, argT, keys, slotOf, dropped, gAnd, wB, rnT, rnS, rnC, rnCs, rnSs, rnM, rnB, rnN, rn, lk, St.over, ded, delL, keepT, menT, menSs, menS, menCs, menC, hasN, resT, SV.cells]; refine wk3 ?_; (focus ((try refine nrmO ?_); (repeat' (first | exact True.intro | refine And.intro ?_ ?_)); all_goals (try (intro (hg_ : _ = true); (try simp only [isNilI, inB, reduceCtorEq, cds] at hg_); (repeat' (first | exact True.intro | refine And.intro ?_ ?_)))); all_goals (first | exact ob1 | exact rfl | skip))))
  rotate_right
  intro i hi_ hiI_
  dsimp only [rnCap, capSVs, Int.toNat_natCast, ro, Nat.reduceAdd, Nat.reduceMul, Nat.zero_add, List.map, putT, app, wrapG, gOb, argT, keys, slotOf, dropped, gAnd, wB, rnT, rnS, rnC, rnCs, rnSs, rnM, rnB, rnN, rn, lk, St.over, ded, delL, keepT, menT, menSs, menS, menCs, menC, hasN, resT, SV.cells]
  repeat' (refine ar_id ?_; first | refine st1 ?_ | (refine ar_drawS (id := 6) tt_ok (by kernel_rfl) [.elem (eEntry (l.getD i enD)), .elem (eEntry (l.getD i enD)), .call (c_eqE (l.getD i enD))] ?_; refine ed_hide ?_; intro K_ hK_; repeat' (first | ((first | refine ed_call3 ?_ | refine ed_sure3 ?_ | refine ed_cons3 ?_); refine ed_hide ?_; intro K_ hK_; (try dsimp only [c_eqE]); (try refine nrmE ?_)) | (refine ed_nil ?_; (repeat subst hK_); dsimp only; refine Exists.intro _ (And.intro rfl (And.intro (by kernel_rfl) (And.intro ?_ ?_))); rotate_left; (try dsimp only [c_eqE]); (try refine nrm ?_); rotate_right))) | (first | ((first | refine ar_region tt_ok (inps := []) rfl ?_ ?_); rotate_left; (try dsimp only [c_eqE]); (try refine nrm ?_); rotate_right) | refine ret3 ?_ | refine end3 ?_) | (refine ar_cond rfl trivial ?_ ?_ <;> intro hc_ <;> (try simp only [isNilI, inB, reduceCtorEq, cds] at hc_) <;> (try (first | contradiction | (exfalso; omega)))) | refine ar_until (And.intro ?_ (wk3 ?_)))
  all_goals (first | refine ar_id ?_ | (try (focus ((try refine nrmO ?_); (repeat' (first | exact True.intro | refine And.intro ?_ ?_)); all_goals (try (intro (hg_ : _ = true); (try simp only [isNilI, inB, reduceCtorEq, cds] at hg_); (repeat' (first | exact True.intro | refine And.intro ?_ ?_)))); all_goals (first | exact ob1 | exact fn_eqE _ | skip)))))
  all_goals trace_state
def c_markES (l : List GEntry) (k : Nat) : CFD := ⟨75, [.one (.hd 0), (SV.one (.lit (.int .i64 ((k : Int)))))], [(0, some (.row 75 2 (l.map eEntry)))], (TV.sv (.one (.lit (.int .i64 (((k + 2 * l.length : Nat) : Int)))))), [(0, some (.row 75 2 ((mkE k l.length).map eEntry)))], [], []⟩
theorem fn_markES (l : List GEntry) (k : Nat) (hl : l.length ≤ 1048576) (hk : k ≤ 1000000000) : Fn Tryd.prog (c_markES l k) := by
  refine fn_intro tt_ok Tryd.func75 rfl Tryd.call75 Tryd.ntmps75 Tryd.results75 rfl rfl rfl rfl ?_
  intro X ρ0 hb_ hgl_
  dsimp only [c_markES]
  try refine nrm ?_
  repeat' (refine ar_id ?_; first | refine st1 ?_ | (first | ((first | refine ar_region tt_ok (inps := []) rfl ?_ ?_); rotate_left; (try refine nrm ?_); rotate_right) | refine ret3 ?_ | refine end3 ?_) | (refine ar_cond rfl trivial ?_ ?_ <;> intro hc_ <;> (try simp only [isNilI, inB, reduceCtorEq, cds] at hc_) <;> (try (first | contradiction | (exfalso; omega)))) | refine ar_until (And.intro ?_ (wk3 ?_)))
  all_goals (first | refine ar_id ?_ | (try (focus ((try refine nrmO ?_); (repeat' (first | exact True.intro | refine And.intro ?_ ?_)); all_goals (try (intro (hg_ : _ = true); (try simp only [isNilI, inB, reduceCtorEq, cds] at hg_); (repeat' (first | exact True.intro | refine And.intro ?_ ?_)))); all_goals (first | exact ob1 | skip)))))
  refine ar_keep 51 (by dsimp only [keepS] <;> exact rfl) ?_
  refine ar_forM (l.length) (fun i => True) (fun i => [(5, (TV.sv (.one (.lit (.int .i64 (i)))))), (1, (TV.sv (.one (.lit (.int .i64 (((k + 2 * i : Nat) : Int))))))), (0, (TV.sv (.one (.hd 0))))]) (fun i => [(0, some (.row 75 2 ((mkE k i ++ l.drop i).map eEntry)))]) ?_ ?_ ?_
  rotate_left
  · first | trivial | simp
  (dsimp only [rnCap, capSVs, Int.toNat_natCast, ro, Nat.reduceAdd, Nat.reduceMul, Nat.zero_add, List.map, putT, app, wrapG, gOb, argT, keys, slotOf, dropped, gAnd, wB, rnT, rnS, rnC, rnCs, rnSs, rnM, rnB, rnN, rn, lk, St.over, ded, delL, keepT, menT, menSs, menS, menCs, menC, hasN, resT, SV.cells]; refine wk3 ?_; (focus ((try refine nrmO ?_); (repeat' (first | exact True.intro | refine And.intro ?_ ?_)); all_goals (try (intro (hg_ : _ = true); (try simp only [isNilI, inB, reduceCtorEq, cds] at hg_); (repeat' (first | exact True.intro | refine And.intro ?_ ?_)))); all_goals (first | exact ob1 | exact rfl | skip))))
  rotate_right
  intro i hi_ hiI_
  dsimp only [rnCap, capSVs, Int.toNat_natCast, ro, Nat.reduceAdd, Nat.reduceMul, Nat.zero_add, List.map, putT, app, wrapG, gOb, argT, keys, slotOf, dropped, gAnd, wB, rnT, rnS, rnC, rnCs, rnSs, rnM, rnB, rnN, rn, lk, St.over, ded, delL, keepT, menT, menSs, menS, menCs, menC, hasN, resT, SV.cells]
  have hlen : i ≤ l.length → (mkE k i ++ l.drop i).length = l.length := fun h => by rw [List.length_append, mkE_len, List.length_drop]; omega
  obtain ⟨e, he⟩ : ∃ e, (mkE k i ++ l.drop i).getD i enD = e := ⟨_, rfl⟩
  repeat' (refine ar_id ?_; first | refine st1 ?_ | (first | ((first | refine ar_region (id := 4) tt_ok (inps := [.elem (eEntry e)]) rfl ?_ ?_ | refine ar_region (id := 6) tt_ok (inps := [.elem (eEntry ⟨((k + 2 * i : Nat) : Int), e.Frame⟩)]) rfl ?_ ?_ | refine ar_region tt_ok (inps := []) rfl ?_ ?_); rotate_left; (try refine nrm ?_); rotate_right) | refine ret3 ?_ | refine end3 ?_) | (refine ar_cond rfl trivial ?_ ?_ <;> intro hc_ <;> (try simp only [isNilI, inB, reduceCtorEq, cds] at hc_) <;> (try (first | contradiction | (exfalso; omega)))) | refine ar_until (And.intro ?_ (wk3 ?_)))
  all_goals (first | refine ar_id ?_ | (try (focus ((try refine nrmO ?_); (repeat' (first | exact True.intro | refine And.intro ?_ ?_)); all_goals (try (intro (hg_ : _ = true); (try simp only [isNilI, inB, reduceCtorEq, cds] at hg_); (repeat' (first | exact True.intro | refine And.intro ?_ ?_)))); all_goals (first | exact ob1 | exact (he ▸ map_at (by rw [hlen (by omega)]; omega)) | skip)))))
  · show 0 + 0 + 1 ≤ 2; omega
  · rw [List.length_set, List.length_map]; exact hc_
  · rw [Int.toNat_natCast, List.getElem?_set_self (by rw [List.length_map]; omega)]; rfl
  · rw [List.set_set]
    exact mkE_set (by have := hlen (by omega); omega)
  · have := hlen (by omega)
    rw [show i = l.length by omega, List.drop_length, List.append_nil]
def c_heldES (n k : Nat) : CFD := ⟨78, [.one (ro 75 2 eEntry (mkE k n)), (SV.one (.lit (.int .i64 ((k : Int)))))], [], (TV.sv (.one (.lit (.int .i64 (((k + 2 * n : Nat) : Int)))))), [], [], []⟩
theorem fn_heldES (n k : Nat) (hl : n ≤ 1048576) (hk : k ≤ 1000000000) : Fn Tryd.prog (c_heldES n k) := by
  have hln := mkE_len k n
  refine fn_intro tt_ok Tryd.func78 rfl Tryd.call78 Tryd.ntmps78 Tryd.results78 rfl rfl rfl rfl ?_
  intro X ρ0 hb_ hgl_
  dsimp only [c_heldES]
  try refine nrm ?_
  repeat' (refine ar_id ?_; first | refine st1 ?_ | (first | ((first | refine ar_region tt_ok (inps := []) rfl ?_ ?_); rotate_left; (try refine nrm ?_); rotate_right) | refine ret3 ?_ | refine end3 ?_) | (refine ar_cond rfl trivial ?_ ?_ <;> intro hc_ <;> (try simp only [isNilI, inB, reduceCtorEq, cds] at hc_) <;> (try (first | contradiction | (exfalso; omega)))) | refine ar_until (And.intro ?_ (wk3 ?_)))
  all_goals (first | refine ar_id ?_ | (try (focus ((try refine nrmO ?_); (repeat' (first | exact True.intro | refine And.intro ?_ ?_)); all_goals (try (intro (hg_ : _ = true); (try simp only [isNilI, inB, reduceCtorEq, cds] at hg_); (repeat' (first | exact True.intro | refine And.intro ?_ ?_)))); all_goals (first | exact ob1 | skip)))))
  refine ar_keep 51 (by dsimp only [keepS] <;> exact rfl) ?_
  refine ar_forM (n) (fun i => True) (fun i => [(5, (TV.sv (.one (.lit (.int .i64 (i)))))), (1, (TV.sv (.one (.lit (.int .i64 (((k + 2 * i : Nat) : Int)))))))]) (fun i => []) ?_ ?_ ?_
  rotate_left
  · first | trivial | simp
  (dsimp only [rnCap, capSVs, Int.toNat_natCast, ro, Nat.reduceAdd, Nat.reduceMul, Nat.zero_add, List.map, putT, app, wrapG, gOb, argT, keys, slotOf, dropped, gAnd, wB, rnT, rnS, rnC, rnCs, rnSs, rnM, rnB, rnN, rn, lk, St.over, ded, delL, keepT, menT, menSs, menS, menCs, menC, hasN, resT, SV.cells]; refine wk3 ?_; (focus ((try refine nrmO ?_); (repeat' (first | exact True.intro | refine And.intro ?_ ?_)); all_goals (try (intro (hg_ : _ = true); (try simp only [isNilI, inB, reduceCtorEq, cds] at hg_); (repeat' (first | exact True.intro | refine And.intro ?_ ?_)))); all_goals (first | exact ob1 | exact rfl | skip))))
  rotate_right
  intro i hi_ hiI_
  dsimp only [rnCap, capSVs, Int.toNat_natCast, ro, Nat.reduceAdd, Nat.reduceMul, Nat.zero_add, List.map, putT, app, wrapG, gOb, argT, keys, slotOf, dropped, gAnd, wB, rnT, rnS, rnC, rnCs, rnSs, rnM, rnB, rnN, rn, lk, St.over, ded, delL, keepT, menT, menSs, menS, menCs, menC, hasN, resT, SV.cells]
  have hm : i < n → (mkE k n).getD i enD = ⟨((k + 2 * i : Nat) : Int), ((k + 2 * i + 1 : Nat) : Int)⟩ := fun h => mkE_at h
  have hm1 : i < n → ((mkE k n).getD i enD).Mode = ((k + 2 * i : Nat) : Int) := fun h => by rw [hm h]
  have hm2 : i < n → ((mkE k n).getD i enD).Frame = ((k + 2 * i + 1 : Nat) : Int) := fun h => by rw [hm h]
  repeat' (refine ar_id ?_; first | refine st1 ?_ | (first | ((first | refine ar_region (id := 4) tt_ok (inps := [.elem (eEntry ((mkE k n).getD i enD))]) rfl ?_ ?_ | refine ar_region (id := 7) tt_ok (inps := [.elem (eEntry ((mkE k n).getD i enD))]) rfl ?_ ?_ | refine ar_region tt_ok (inps := []) rfl ?_ ?_); rotate_left; (try refine nrm ?_); rotate_right) | refine ret3 ?_ | refine end3 ?_) | (refine ar_cond rfl trivial ?_ ?_ <;> intro hc_ <;> (try simp only [isNilI, inB, reduceCtorEq, cds] at hc_) <;> (try (first | contradiction | (exfalso; omega)))) | refine ar_until (And.intro ?_ (wk3 ?_)))
  all_goals (first | refine ar_id ?_ | (try (focus ((try refine nrmO ?_); (repeat' (first | exact True.intro | refine And.intro ?_ ?_)); all_goals (try (intro (hg_ : _ = true); (try simp only [isNilI, inB, reduceCtorEq, cds] at hg_); (repeat' (first | exact True.intro | refine And.intro ?_ ?_)))); all_goals (first | exact ob1 | skip)))))
  all_goals trace_state
end Eng
end Go.Proofs.YtabnglcabpijfaaDoor
namespace Go.Proofs.YtabnglcabpijfaaDoor
open Go.RowKit
set_option linter.unusedVariables false
set_option linter.unusedSimpArgs false
set_option maxRecDepth 100000
namespace Eng
open Tr
theorem ii_set {α : Type} {E : α → D} {l : List α} {z : D} {d : α} {i : Nat} (hi : i < l.length) : ((l.take i).map E ++ List.replicate (l.length - i) z).set i (E (l.getD i d)) = (l.take (i + 1)).map E ++ List.replicate (l.length - (i + 1)) z := by
  have hl : ((l.take i).map E).length = i := by rw [List.length_map, List.length_take]; omega
  rw [mid_set _ _ _ hl (by rw [hl, List.length_replicate]; omega), take_getD l d hi, List.map_append, List.drop_replicate, Nat.sub_sub]; rfl
theorem mkII_get {l : List (List Int)} {k i : Nat} (hi : i < l.length) : (mkII k l)[i]? = some (mkI (k + cntII (l.take i)) (l.getD i []).length) := by
  have h : mkII k (l.take (i + 1) ++ l.drop (i + 1)) = _ := mkII_app _ _ _
  rw [List.take_append_drop] at h
  have hl : (mkII k (l.take i)).length = i := by rw [mkII_len, List.length_take]; omega
  rw [h, mkII_take k l hi, List.append_assoc, List.getElem?_append_right (by omega), hl, Nat.sub_self]
  rfl
def c_toII (l : List (List Int)) : CFD := ⟨57, [.one (ro 31 1 eIntS l)], [], .sv (.one (.hd 0)), [(0, some (.row 31 1 (l.map eIntS)))], [0], []⟩
theorem fn_toII (l : List (List Int)) (hl : l.length ≤ 1048576) (hr : ∀ r ∈ l, r.length ≤ 1048576) : Fn Tryd.prog (c_toII l) := by
  refine fn_intro tt_ok Tryd.func57 rfl Tryd.call57 Tryd.ntmps57 Tryd.results57 rfl rfl rfl rfl ?_
  intro X ρ0 hb_ hgl_
  dsimp only [c_toII]
  try refine nrm ?_
  repeat' (refine ar_id ?_; first | refine st1 ?_ | (first | ((first | refine ar_region tt_ok (inps := []) rfl ?_ ?_); rotate_left; (try refine nrm ?_); rotate_right) | refine ret3 ?_ | refine end3 ?_) | (refine ar_cond rfl trivial ?_ ?_ <;> intro hc_ <;> (try simp only [isNilI, inB, reduceCtorEq, cds] at hc_) <;> (try (first | contradiction | (exfalso; omega)))) | refine ar_until (And.intro ?_ (wk3 ?_)))
  all_goals (first | refine ar_id ?_ | (try (focus ((try refine nrmO ?_); (repeat' (first | exact True.intro | refine And.intro ?_ ?_)); all_goals (try (intro (hg_ : _ = true); (try simp only [isNilI, inB, reduceCtorEq, cds] at hg_); (repeat' (first | exact True.intro | refine And.intro ?_ ?_)))); all_goals (first | exact ob1 | skip)))))
  refine ar_keep 29 (by dsimp only [keepS] <;> exact rfl) ?_
  refine ar_forM (l.length) (fun i => True) (fun i => [(4, (TV.sv (.one (.lit (.int .i64 (i)))))), (3, (TV.sv (.one (.hd 7))))]) (fun i => [(7, some (.row 31 1 ((l.take i).map eIntS ++ List.replicate (l.length - i) (dOf [.slice none 0 0]))))]) ?_ ?_ ?_
  rotate_left
  · first | trivial | simp
  (dsimp only [rnCap, capSVs, Int.toNat_natCast, ro, Nat.reduceAdd, Nat.reduceMul, Nat.zero_add, List.map, putT, app, wrapG, gOb, argT, keys, slotOf, dropped, gAnd, wB, rnT, rnS, rnC, rnCs, rnSs, rnM, rnB, rnN, rn, lk, St.over, ded, delL, keepT, menT, menSs, menS, menCs, menC, hasN, resT, SV.cells]; refine wk3 ?_; (focus ((try refine nrmO ?_); (repeat' (first | exact True.intro | refine And.intro ?_ ?_)); all_goals (try (intro (hg_ : _ = true); (try simp only [isNilI, inB, reduceCtorEq, cds] at hg_); (repeat' (first | exact True.intro | refine And.intro ?_ ?_)))); all_goals (first | exact ob1 | exact rfl | skip))))
  rotate_right
  intro i hi_ hiI_
  dsimp only [rnCap, capSVs, Int.toNat_natCast, ro, Nat.reduceAdd, Nat.reduceMul, Nat.zero_add, List.map, putT, app, wrapG, gOb, argT, keys, slotOf, dropped, gAnd, wB, rnT, rnS, rnC, rnCs, rnSs, rnM, rnB, rnN, rn, lk, St.over, ded, delL, keepT, menT, menSs, menS, menCs, menC, hasN, resT, SV.cells]
  repeat' (refine ar_id ?_; first | refine st1 ?_ | (refine ar_drawS (id := 5) tt_ok (by kernel_rfl) [.elem (eIntS (l.getD i [])), .call (c_toI (l.getD i [])), .elem (dOf [.slice none 0 0])] ?_; refine ed_hide ?_; intro K_ hK_; repeat' (first | ((first | refine ed_call3 ?_ | refine ed_sure3 ?_ | refine ed_cons3 ?_); refine ed_hide ?_; intro K_ hK_; (try dsimp only [c_toI]); (try refine nrmE ?_)) | (refine ed_nil ?_; (repeat subst hK_); dsimp only; refine Exists.intro _ (And.intro rfl (And.intro (by kernel_rfl) (And.intro ?_ ?_))); rotate_left; (try dsimp only [c_toI]); (try refine nrm ?_); rotate_right))) | (first | ((first | refine ar_region (id := 5) tt_ok (inps := [.elem (eIntS (l.getD i [])), .call (c_toI (l.getD i [])), .elem (dOf [.slice none 0 0])]) rfl ?_ ?_ | refine ar_region tt_ok (inps := []) rfl ?_ ?_); rotate_left; (try dsimp only [c_toI]); (try refine nrm ?_); rotate_right) | refine ret3 ?_ | refine end3 ?_) | (refine ar_cond rfl trivial ?_ ?_ <;> intro hc_ <;> (try simp only [isNilI, inB, reduceCtorEq, cds] at hc_) <;> (try (first | contradiction | (exfalso; omega)))) | refine ar_until (And.intro ?_ (wk3 ?_)))
  all_goals (first | refine ar_id ?_ | (try (focus ((try refine nrmO ?_); (repeat' (first | exact True.intro | refine And.intro ?_ ?_)); all_goals (try (intro (hg_ : _ = true); (try simp only [isNilI, inB, reduceCtorEq, cds] at hg_); (repeat' (first | exact True.intro | refine And.intro ?_ ?_)))); all_goals (first | exact ob1 | exact fn_toI _ (hr _ (getD_in (by omega))) | skip)))))
  · rw [Int.toNat_natCast]; exact Eng.fill_at _ _ _ (by omega)
  · exact ii_set (E := eIntS) (d := []) (by omega)
  · rw [show i = l.length by omega, List.take_length, Nat.sub_self]
    exact List.append_nil _
def c_eqII (l : List (List Int)) : CFD := ⟨70, [.one (ro 31 1 eIntS l), .one (ro 31 1 eIntS l)], [], (TV.sv (.one (.lit (.bool (true))))), [], [], []⟩
theorem fn_eqII (l : List (List Int)) (hl : l.length ≤ 1048576) (hr : ∀ r ∈ l, r.length ≤ 1048576) : Fn Tryd.prog (c_eqII l) := by
  refine fn_intro tt_ok Tryd.func70 rfl Tryd.call70 Tryd.ntmps70 Tryd.results70 rfl rfl rfl rfl ?_
  intro X ρ0 hb_ hgl_
  dsimp only [c_eqII]
  try refine nrm ?_
  repeat' (refine ar_id ?_; first | refine st1 ?_ | (first | ((first | refine ar_region tt_ok (inps := []) rfl ?_ ?_); rotate_left; (try refine nrm ?_); rotate_right) | refine ret3 ?_ | refine end3 ?_) | (refine ar_cond rfl trivial ?_ ?_ <;> intro hc_ <;> (try simp only [isNilI, inB, reduceCtorEq, cds] at hc_) <;> (try (first | contradiction | (exfalso; omega)))) | refine ar_until (And.intro ?_ (wk3 ?_)))
  all_goals (first | refine ar_id ?_ | (try (focus ((try refine nrmO ?_); (repeat' (first | exact True.intro | refine And.intro ?_ ?_)); all_goals (try (intro (hg_ : _ = true); (try simp only [isNilI, inB, reduceCtorEq, cds] at hg_); (repeat' (first | exact True.intro | refine And.intro ?_ ?_)))); all_goals (first | exact ob1 | skip)))))
  refine ar_keep 51 (by dsimp only [keepS] <;> exact rfl) ?_
  refine ar_forM (l.length) (fun i => True) (fun i => [(5, (TV.sv (.one (.lit (.int .i64 (i))))))]) (fun i => []) ?_ ?_ ?_
  rotate_left
  · first | trivial | simp
  (dsimp only [rnCap, capSVs, Int.toNat_natCast, ro, Nat.reduceAdd, Nat.reduceMul, Nat.zero_add, List.map, putT, app, wrapG, gOb, argT, keys, slotOf, dropped, gAnd, wB, rnT, rnS, rnC, rnCs, rnSs, rnM, rnB, rnN, rn, lk, St.over, ded, delL, keepT, menT, menSs, menS, menCs, menC, hasN, resT, SV.cells]; refine wk3 ?_; (focus ((try refine nrmO ?_); (repeat' (first | exact True.intro | refine And.intro ?_ ?_)); all_goals (try (intro (hg_ : _ = true); (try simp only [isNilI, inB, reduceCtorEq, cds] at hg_); (repeat' (first | exact True.intro | refine And.intro ?_ ?_)))); all_goals (first | exact ob1 | exact rfl | skip))))
  rotate_right
  intro i hi_ hiI_
  dsimp only [rnCap, capSVs, Int.toNat_natCast, ro, Nat.reduceAdd, Nat.reduceMul, Nat.zero_add, List.map, putT, app, wrapG, gOb, argT, keys, slotOf, dropped, gAnd, wB, rnT, rnS, rnC, rnCs, rnSs, rnM, rnB, rnN, rn, lk, St.over, ded, delL, keepT, menT, menSs, menS, menCs, menC, hasN, resT, SV.cells]
  repeat' (refine ar_id ?_; first | refine st1 ?_ | (refine ar_drawS (id := 6) tt_ok (by kernel_rfl) [.elem (eIntS (l.getD i [])), .elem (eIntS (l.getD i [])), .call (c_eqI (l.getD i []))] ?_; refine ed_hide ?_; intro K_ hK_; repeat' (first | ((first | refine ed_call3 ?_ | refine ed_sure3 ?_ | refine ed_cons3 ?_); refine ed_hide ?_; intro K_ hK_; (try dsimp only [c_eqI]); (try refine nrmE ?_)) | (refine ed_nil ?_; (repeat subst hK_); dsimp only; refine Exists.intro _ (And.intro rfl (And.intro (by kernel_rfl) (And.intro ?_ ?_))); rotate_left; (try dsimp only [c_eqI]); (try refine nrm ?_); rotate_right))) | (first | ((first | refine ar_region tt_ok (inps := []) rfl ?_ ?_); rotate_left; (try dsimp only [c_eqI]); (try refine nrm ?_); rotate_right) | refine ret3 ?_ | refine end3 ?_) | (refine ar_cond rfl trivial ?_ ?_ <;> intro hc_ <;> (try simp only [isNilI, inB, reduceCtorEq, cds] at hc_) <;> (try (first | contradiction | (exfalso; omega)))) | refine ar_until (And.intro ?_ (wk3 ?_)))
  all_goals (first | refine ar_id ?_ | (try (focus ((try refine nrmO ?_); (repeat' (first | exact True.intro | refine And.intro ?_ ?_)); all_goals (try (intro (hg_ : _ = true); (try simp only [isNilI, inB, reduceCtorEq, cds] at hg_); (repeat' (first | exact True.intro | refine And.intro ?_ ?_)))); all_goals (first | exact ob1 | exact fn_eqI _ (hr _ (getD_in (by omega))) | skip)))))
def c_markII (l : List (List Int)) (k : Nat) : CFD := ⟨73, [.one (.hd 0), (SV.one (.lit (.int .i64 ((k : Int)))))], [(0, some (.row 31 1 (l.map eIntS)))], (TV.sv (.one (.lit (.int .i64 (((k + cntII l : Nat) : Int)))))), [(0, some (.row 31 1 ((mkII k l).map eIntS)))], [], []⟩
theorem mkII_set {l : List (List Int)} {k i : Nat} (hi : i < l.length) : ((mkII k (l.take i) ++ l.drop i).map eIntS).set i (eIntS (mkI (k + cntII (l.take i)) (l.getD i []).length)) = (mkII k (l.take (i + 1)) ++ l.drop (i + 1)).map eIntS := by
  have hl : (mkII k (l.take i)).length = i := by rw [mkII_len, List.length_take]; omega
  rw [← List.map_set, mid_set _ _ _ hl (by rw [hl, List.length_drop]; omega), mkII_take k l hi, List.drop_drop, Nat.add_comm i 1]
theorem mkII_at {l : List (List Int)} {k i : Nat} (hi : i < l.length) : (mkII k (l.take i) ++ l.drop i).getD i [] = l.getD i [] := by
  have hl : (mkII k (l.take i)).length = i := by rw [mkII_len, List.length_take]; omega
  rw [List.getD_eq_getElem?_getD, List.getElem?_append_right (by omega), hl, Nat.sub_self, List.getElem?_drop, Nat.add_zero, ← List.getD_eq_getElem?_getD]
set_option maxHeartbeats 2000000 in
theorem fn_markII (l : List (List Int)) (k : Nat) (hl : l.length ≤ 1048576) (hr : ∀ r ∈ l, r.length ≤ 1048576) (hk : k + cntII l ≤ 1000000000) : Fn Tryd.prog (c_markII l k) := by
  refine fn_intro tt_ok Tryd.func73 rfl Tryd.call73 Tryd.ntmps73 Tryd.results73 rfl rfl rfl rfl ?_
  intro X ρ0 hb_ hgl_
  dsimp only [c_markII]
  try refine nrm ?_
  repeat' (refine ar_id ?_; first | refine st1 ?_ | (first | ((first | refine ar_region tt_ok (inps := []) rfl ?_ ?_); rotate_left; (try refine nrm ?_); rotate_right) | refine ret3 ?_ | refine end3 ?_) | (refine ar_cond rfl trivial ?_ ?_ <;> intro hc_ <;> (try simp only [isNilI, inB, reduceCtorEq, cds] at hc_) <;> (try (first | contradiction | (exfalso; omega)))) | refine ar_until (And.intro ?_ (wk3 ?_)))
  all_goals (first | refine ar_id ?_ | (try (focus ((try refine nrmO ?_); (repeat' (first | exact True.intro | refine And.intro ?_ ?_)); all_goals (try (intro (hg_ : _ = true); (try simp only [isNilI, inB, reduceCtorEq, cds] at hg_); (repeat' (first | exact True.intro | refine And.intro ?_ ?_)))); all_goals (first | exact ob1 | skip)))))
  refine ar_keep 51 (by dsimp only [keepS] <;> exact rfl) ?_
  refine ar_forM (l.length) (fun i => True) (fun i => [(5, (TV.sv (.one (.lit (.int .i64 (i)))))), (1, (TV.sv (.one (.lit (.int .i64 (((k + cntII (l.take i) : Nat) : Int))))))), (0, (TV.sv (.one (.hd 0))))]) (fun i => [(0, some (.row 31 1 ((mkII k (l.take i) ++ l.drop i).map eIntS)))]) ?_ ?_ ?_
  rotate_left
  · first | trivial | simp
  (dsimp only [rnCap, capSVs, Int.toNat_natCast, ro, Nat.reduceAdd, Nat.reduceMul, Nat.zero_add, List.map, putT, app, wrapG, gOb, argT, keys, slotOf, dropped, gAnd, wB, rnT, rnS, rnC, rnCs, rnSs, rnM, rnB, rnN, rn, lk, St.over, ded, delL, keepT, menT, menSs, menS, menCs, menC, hasN, resT, SV.cells]; refine wk3 ?_; (focus ((try refine nrmO ?_); (repeat' (first | exact True.intro | refine And.intro ?_ ?_)); all_goals (try (intro (hg_ : _ = true); (try simp only [isNilI, inB, reduceCtorEq, cds] at hg_); (repeat' (first | exact True.intro | refine And.intro ?_ ?_)))); all_goals (first | exact ob1 | exact rfl | skip))))
  rotate_right
  intro i hi_ hiI_
  dsimp only [rnCap, capSVs, Int.toNat_natCast, ro, Nat.reduceAdd, Nat.reduceMul, Nat.zero_add, List.map, putT, app, wrapG, gOb, argT, keys, slotOf, dropped, gAnd, wB, rnT, rnS, rnC, rnCs, rnSs, rnM, rnB, rnN, rn, lk, St.over, ded, delL, keepT, menT, menSs, menS, menCs, menC, hasN, resT, SV.cells]
  have hlen : i ≤ l.length → (mkII k (l.take i) ++ l.drop i).length = l.length := fun h => by rw [List.length_append, mkII_len, List.length_drop, List.length_take]; omega
  have hcn := cntII_le l i
  repeat' (refine ar_id ?_; first | refine st1 ?_ | (first | ((first | refine ar_region tt_ok (inps := []) rfl ?_ ?_); rotate_left; (try refine nrm ?_); rotate_right) | refine ret3 ?_ | refine end3 ?_) | (refine ar_cond rfl trivial ?_ ?_ <;> intro hc_ <;> (try simp only [isNilI, inB, reduceCtorEq, cds] at hc_) <;> (try (first | contradiction | (exfalso; omega)))) | refine ar_until (And.intro ?_ (wk3 ?_)))
  all_goals (first | refine ar_id ?_ | (try (focus ((try refine nrmO ?_); (repeat' (first | exact True.intro | refine And.intro ?_ ?_)); all_goals (try (intro (hg_ : _ = true); (try simp only [isNilI, inB, reduceCtorEq, cds] at hg_); (repeat' (first | exact True.intro | refine And.intro ?_ ?_)))); all_goals (first | exact ob1 | skip)))))
  · have hil : i < l.length := by have := hlen hi_; omega
    have hat := mkII_at (k := k) hil
    have hel : ((mkII k (l.take i) ++ l.drop i).map eIntS)[i]? = some (eIntS (l.getD i [])) := by rw [← hat]; exact map_at (by rw [hlen (by omega)]; exact hil)
    have hct := cntII_take l hil
    refine ar_open 0 i 0 90001 90002 (d := eIntS (l.getD i [])) ((l.getD i []).map Tr.eI) rfl ?_ rfl ?_ rfl rfl rfl ?_
    · first | exact map_at (by omega) | assumption | exact set_at (by (try simp only [List.length_map, List.length_set]); omega) | (rw [List.getElem?_set_ne (by omega)]; exact map_at (by omega))
    · exact ⟨rfl, rfl, by intro e he; simp only [List.mem_map] at he; obtain ⟨_, _, rfl⟩ := he; rfl⟩
    intro A_90001 n_90001 c_90001
    try refine nrm ?_
    refine ar_region (id := 4) tt_ok (inps := [.nest (.lit (Value.slice A_90001 n_90001 c_90001) .nil) [(0, 90002)], .call (c_markI (l.getD i []) (k + cntII (l.take i)))]) rfl ?_ ?_
    rotate_left
    (try dsimp only [c_markI]); (try refine nrm ?_)
    refine ar_close 0 i 0 90001 90002 rfl rfl rfl (set_at ?_) rfl rfl rfl ?_
    · (simp only [List.length_map, List.length_set]; omega)
    try refine nrm ?_
    repeat' (refine ar_id ?_; first | refine st1 ?_ | (first | ((first | refine ar_region tt_ok (inps := []) rfl ?_ ?_); rotate_left; (try refine nrm ?_); rotate_right) | refine ret3 ?_ | refine end3 ?_) | (refine ar_cond rfl trivial ?_ ?_ <;> intro hc_ <;> (try simp only [isNilI, inB, reduceCtorEq, cds] at hc_) <;> (try (first | contradiction | (exfalso; omega)))) | refine ar_until (And.intro ?_ (wk3 ?_)))
    all_goals (first | refine ar_id ?_ | (try (focus ((try refine nrmO ?_); (repeat' (first | exact True.intro | refine And.intro ?_ ?_)); all_goals (try (intro (hg_ : _ = true); (try simp only [isNilI, inB, reduceCtorEq, cds] at hg_); (repeat' (first | exact True.intro | refine And.intro ?_ ?_)))); all_goals (first | exact ob1 | skip)))))
    all_goals (try (focus ((try refine nrmO ?_); (repeat' (first | exact True.intro | refine And.intro ?_ ?_)); all_goals (try (intro (hg_ : _ = true); (try simp only [isNilI, inB, reduceCtorEq, cds] at hg_); (repeat' (first | exact True.intro | refine And.intro ?_ ?_)))); all_goals (first | exact ob1 | exact fn_markI _ _ (hr _ (getD_in hil)) (by omega) | exact hel | skip))))
    · rw [List.set_set]
      exact mkII_set hil
    · simp only [List.length_set, List.length_map]; omega
    · rw [Int.toNat_natCast, List.getElem?_set_self (by rw [List.length_map]; omega)]; rfl
  · have := hlen hi_
    rw [show i = l.length by omega, List.take_length]
  · have := hlen hi_
    rw [show i = l.length by omega, List.take_length, List.drop_length, List.append_nil]
def c_heldII (l : List (List Int)) (k : Nat) : CFD := ⟨76, [.one (ro 31 1 eIntS (mkII k l)), (SV.one (.lit (.int .i64 ((k : Int)))))], [], (TV.sv (.one (.lit (.int .i64 (((k + cntII l : Nat) : Int)))))), [], [], []⟩
theorem fn_heldII (l : List (List Int)) (k : Nat) (hl : l.length ≤ 1048576) (hr : ∀ r ∈ l, r.length ≤ 1048576) (hk : k + cntII l ≤ 1000000000) : Fn Tryd.prog (c_heldII l k) := by
  have hln := mkII_len k l
  refine fn_intro tt_ok Tryd.func76 rfl Tryd.call76 Tryd.ntmps76 Tryd.results76 rfl rfl rfl rfl ?_
  intro X ρ0 hb_ hgl_
  dsimp only [c_heldII]
  try refine nrm ?_
  repeat' (refine ar_id ?_; first | refine st1 ?_ | (first | ((first | refine ar_region tt_ok (inps := []) rfl ?_ ?_); rotate_left; (try refine nrm ?_); rotate_right) | refine ret3 ?_ | refine end3 ?_) | (refine ar_cond rfl trivial ?_ ?_ <;> intro hc_ <;> (try simp only [isNilI, inB, reduceCtorEq, cds] at hc_) <;> (try (first | contradiction | (exfalso; omega)))) | refine ar_until (And.intro ?_ (wk3 ?_)))
  all_goals (first | refine ar_id ?_ | (try (focus ((try refine nrmO ?_); (repeat' (first | exact True.intro | refine And.intro ?_ ?_)); all_goals (try (intro (hg_ : _ = true); (try simp only [isNilI, inB, reduceCtorEq, cds] at hg_); (repeat' (first | exact True.intro | refine And.intro ?_ ?_)))); all_goals (first | exact ob1 | skip)))))
  refine ar_keep 51 (by dsimp only [keepS] <;> exact rfl) ?_
  refine ar_forM (l.length) (fun i => True) (fun i => [(5, (TV.sv (.one (.lit (.int .i64 (i)))))), (1, (TV.sv (.one (.lit (.int .i64 (((k + cntII (l.take i) : Nat) : Int)))))))]) (fun i => []) ?_ ?_ ?_
  rotate_left
  · first | trivial | simp
  (dsimp only [rnCap, capSVs, Int.toNat_natCast, ro, Nat.reduceAdd, Nat.reduceMul, Nat.zero_add, List.map, putT, app, wrapG, gOb, argT, keys, slotOf, dropped, gAnd, wB, rnT, rnS, rnC, rnCs, rnSs, rnM, rnB, rnN, rn, lk, St.over, ded, delL, keepT, menT, menSs, menS, menCs, menC, hasN, resT, SV.cells]; refine wk3 ?_; (focus ((try refine nrmO ?_); (repeat' (first | exact True.intro | refine And.intro ?_ ?_)); all_goals (try (intro (hg_ : _ = true); (try simp only [isNilI, inB, reduceCtorEq, cds] at hg_); (repeat' (first | exact True.intro | refine And.intro ?_ ?_)))); all_goals (first | exact ob1 | exact rfl | skip))))
  rotate_right
  intro i hi_ hiI_
  dsimp only [rnCap, capSVs, Int.toNat_natCast, ro, Nat.reduceAdd, Nat.reduceMul, Nat.zero_add, List.map, putT, app, wrapG, gOb, argT, keys, slotOf, dropped, gAnd, wB, rnT, rnS, rnC, rnCs, rnSs, rnM, rnB, rnN, rn, lk, St.over, ded, delL, keepT, menT, menSs, menS, menCs, menC, hasN, resT, SV.cells]
  have hcn := cntII_le l i
  have hct := fun h => cntII_take l (i := i) h
  repeat' (refine ar_id ?_; first | refine st1 ?_ | (first | ((first | refine ar_region (id := 4) tt_ok (inps := [.elem (eIntS (mkI (k + cntII (l.take i)) (l.getD i []).length)), .call (c_heldI (l.getD i []).length (k + cntII (l.take i)))]) rfl ?_ ?_ | refine ar_region tt_ok (inps := []) rfl ?_ ?_); rotate_left; (try dsimp only [c_heldI]); (try refine nrm ?_); rotate_right) | refine ret3 ?_ | refine end3 ?_) | (refine ar_cond rfl trivial ?_ ?_ <;> intro hc_ <;> (try simp only [isNilI, inB, reduceCtorEq, cds] at hc_) <;> (try (first | contradiction | (exfalso; omega)))) | refine ar_until (And.intro ?_ (wk3 ?_)))
  all_goals (first | refine ar_id ?_ | (try (focus ((try refine nrmO ?_); (repeat' (first | exact True.intro | refine And.intro ?_ ?_)); all_goals (try (intro (hg_ : _ = true); (try simp only [isNilI, inB, reduceCtorEq, cds] at hg_); (repeat' (first | exact True.intro | refine And.intro ?_ ?_)))); all_goals (first | exact ob1 | exact fn_heldI _ _ (hr _ (getD_in (by omega))) (by omega) | skip)))))
  · rw [Int.toNat_natCast]
    exact elem_map (fun _ => rfl) (mkII_get (by omega))
  · rw [show i = l.length by omega, List.take_length]
theorem cntII_mem : ∀ {l : List (List Int)} {r : List Int}, r ∈ l → r.length ≤ cntII l
  | x :: l, r, h => by
    show r.length ≤ x.length + cntII l
    rcases List.mem_cons.1 h with rfl | h
    · omega
    · have := cntII_mem h; omega
def c_szB (l : List Bool) (a v : Int) : CFD := ⟨49, [.one (ro 4 1 Tr.eB l), (SV.one (.lit (.int .i64 (a))))], [], (TV.sv (.one (.lit (.int .i64 (v))))), [], [], []⟩
theorem fn_szB (l : List Bool) (a v : Int) (hl : l.length ≤ 9223372036854775807) (ha : 0 ≤ a ∧ a ≤ 1048576) (hv : v = if a - (l.length : Int) < 0 then -1 else a - (l.length : Int)) : Fn Tryd.prog (c_szB l a v) := by
  refine fn_intro tt_ok Tryd.func49 rfl Tryd.call49 Tryd.ntmps49 Tryd.results49 rfl rfl rfl rfl ?_
  intro X ρ0 hb_ hgl_
  dsimp only [c_szB]
  try refine nrm ?_
  repeat' (refine ar_id ?_; first | refine st1 ?_ | (first | ((first | refine ar_region tt_ok (inps := []) rfl ?_ ?_); rotate_left; (try refine nrm ?_); rotate_right) | refine ret3 ?_ | refine end3 ?_) | (refine ar_cond rfl trivial ?_ ?_ <;> intro hc_ <;> (try simp only [isNilI, inB, reduceCtorEq, cds] at hc_) <;> (try (first | contradiction | (exfalso; omega)))) | refine ar_until (And.intro ?_ (wk3 ?_)))
  all_goals (first | refine ar_id ?_ | (try (focus ((try refine nrmO ?_); (repeat' (first | exact True.intro | refine And.intro ?_ ?_)); all_goals (try (intro (hg_ : _ = true); (try simp only [isNilI, inB, reduceCtorEq, cds] at hg_); (repeat' (first | exact True.intro | refine And.intro ?_ ?_)))); all_goals (first | exact ob1 | skip)))))
  all_goals first | (rw [hv, if_pos (by omega)]) | (rw [hv, if_neg (by omega)])
def c_szES (l : List GEntry) (a v : Int) : CFD := ⟨50, [.one (ro 110 2 eEntry l), (SV.one (.lit (.int .i64 (a))))], [], (TV.sv (.one (.lit (.int .i64 (v))))), [], [], []⟩
theorem fn_szES (l : List GEntry) (a v : Int) (hl : l.length ≤ 9223372036854775807) (ha : 0 ≤ a ∧ a ≤ 1048576) (hv : v = if a - (l.length : Int) < 0 then -1 else a - (l.length : Int)) : Fn Tryd.prog (c_szES l a v) := by
  refine fn_intro tt_ok Tryd.func50 rfl Tryd.call50 Tryd.ntmps50 Tryd.results50 rfl rfl rfl rfl ?_
  intro X ρ0 hb_ hgl_
  dsimp only [c_szES]
  try refine nrm ?_
  repeat' (refine ar_id ?_; first | refine st1 ?_ | (first | ((first | refine ar_region tt_ok (inps := []) rfl ?_ ?_); rotate_left; (try refine nrm ?_); rotate_right) | refine ret3 ?_ | refine end3 ?_) | (refine ar_cond rfl trivial ?_ ?_ <;> intro hc_ <;> (try simp only [isNilI, inB, reduceCtorEq, cds] at hc_) <;> (try (first | contradiction | (exfalso; omega)))) | refine ar_until (And.intro ?_ (wk3 ?_)))
  all_goals (first | refine ar_id ?_ | (try (focus ((try refine nrmO ?_); (repeat' (first | exact True.intro | refine And.intro ?_ ?_)); all_goals (try (intro (hg_ : _ = true); (try simp only [isNilI, inB, reduceCtorEq, cds] at hg_); (repeat' (first | exact True.intro | refine And.intro ?_ ?_)))); all_goals (first | exact ob1 | skip)))))
  all_goals first | (rw [hv, if_pos (by omega)]) | (rw [hv, if_neg (by omega)])
def c_szII (l : List (List Int)) (a v : Int) : CFD := ⟨48, [.one (ro 31 1 eIntS l), (SV.one (.lit (.int .i64 (a))))], [], (TV.sv (.one (.lit (.int .i64 (v))))), [], [], []⟩
theorem fn_szII (l : List (List Int)) (a v : Int) (hl : l.length ≤ 9223372036854775807) (hr : ∀ r ∈ l, r.length ≤ 9223372036854775807) (ha : 0 ≤ a ∧ a ≤ 1048576) (hv : v = if a - ((l.length + cntII l : Nat) : Int) < 0 then -1 else a - ((l.length + cntII l : Nat) : Int)) : Fn Tryd.prog (c_szII l a v) := by
  refine fn_intro tt_ok Tryd.func48 rfl Tryd.call48 Tryd.ntmps48 Tryd.results48 rfl rfl rfl rfl ?_
  intro X ρ0 hb_ hgl_
  dsimp only [c_szII]
  try refine nrm ?_
  repeat' (refine ar_id ?_; first | refine st1 ?_ | (first | ((first | refine ar_region tt_ok (inps := []) rfl ?_ ?_); rotate_left; (try refine nrm ?_); rotate_right) | refine ret3 ?_ | refine end3 ?_) | (refine ar_cond rfl trivial ?_ ?_ <;> intro hc_ <;> (try simp only [isNilI, inB, reduceCtorEq, cds] at hc_) <;> (try (first | contradiction | (exfalso; omega)))) | refine ar_until (And.intro ?_ (wk3 ?_)))
  all_goals (first | refine ar_id ?_ | (try (focus ((try refine nrmO ?_); (repeat' (first | exact True.intro | refine And.intro ?_ ?_)); all_goals (try (intro (hg_ : _ = true); (try simp only [isNilI, inB, reduceCtorEq, cds] at hg_); (repeat' (first | exact True.intro | refine And.intro ?_ ?_)))); all_goals (first | exact ob1 | skip)))))
  have h0 : a - (l.length : Int) - (cntII (l.take 0) : Nat) ≥ 0 := by show a - (l.length : Int) - ((0 : Nat) : Int) ≥ 0; omega
  refine ar_keep 51 (by dsimp only [keepS] <;> exact rfl) ?_
  refine ar_forM (l.length) (fun i => a - (l.length : Int) - (cntII (l.take i) : Nat) ≥ 0) (fun i => [(5, (TV.sv (.one (.lit (.int .i64 (i)))))), (1, (TV.sv (.one (.lit (.int .i64 (a - (l.length : Int) - (cntII (l.take i) : Nat)))))))]) (fun i => []) ?_ ?_ ?_
  rotate_left
  · first | trivial | simp
  (dsimp only [rnCap, capSVs, Int.toNat_natCast, ro, Nat.reduceAdd, Nat.reduceMul, Nat.zero_add, List.map, putT, app, wrapG, gOb, argT, keys, slotOf, dropped, gAnd, wB, rnT, rnS, rnC, rnCs, rnSs, rnM, rnB, rnN, rn, lk, St.over, ded, delL, keepT, menT, menSs, menS, menCs, menC, hasN, resT, SV.cells]; refine wk3 ?_; (focus ((try refine nrmO ?_); (repeat' (first | exact True.intro | refine And.intro ?_ ?_)); all_goals (try (intro (hg_ : _ = true); (try simp only [isNilI, inB, reduceCtorEq, cds] at hg_); (repeat' (first | exact True.intro | refine And.intro ?_ ?_)))); all_goals (first | exact ob1 | exact rfl | skip))))
  rotate_right
  intro i hi_ hiI_
  dsimp only [rnCap, capSVs, Int.toNat_natCast, ro, Nat.reduceAdd, Nat.reduceMul, Nat.zero_add, List.map, putT, app, wrapG, gOb, argT, keys, slotOf, dropped, gAnd, wB, rnT, rnS, rnC, rnCs, rnSs, rnM, rnB, rnN, rn, lk, St.over, ded, delL, keepT, menT, menSs, menS, menCs, menC, hasN, resT, SV.cells]
  have hcn := cntII_le l i
  have hct := fun h => cntII_take l (i := i) h
  have hcs := cntII_le l (i + 1)
  by_cases hx : a - (l.length : Int) - (cntII (l.take i) : Nat) - ((l.getD i []).length : Int) < 0
  · skip
    repeat' (refine ar_id ?_; first | refine st1 ?_ | (first | ((first | refine ar_region (id := 7) tt_ok (inps := [.elem (eIntS (l.getD i [])), .call (c_szI (l.getD i []) (a - (l.length : Int) - (cntII (l.take i) : Nat)) (-1))]) rfl ?_ ?_ | refine ar_region tt_ok (inps := []) rfl ?_ ?_); rotate_left; (try dsimp only [c_szI]); (try refine nrm ?_); rotate_right) | refine ret3 ?_ | refine end3 ?_) | (refine ar_cond rfl trivial ?_ ?_ <;> intro hc_ <;> (try simp only [isNilI, inB, reduceCtorEq, cds] at hc_) <;> (try (first | contradiction | (exfalso; omega)))) | refine ar_until (And.intro ?_ (wk3 ?_)))
    all_goals (first | refine ar_id ?_ | (try (focus ((try refine nrmO ?_); (repeat' (first | exact True.intro | refine And.intro ?_ ?_)); all_goals (try (intro (hg_ : _ = true); (try simp only [isNilI, inB, reduceCtorEq, cds] at hg_); (repeat' (first | exact True.intro | refine And.intro ?_ ?_)))); all_goals (first | exact ob1 | exact fn_szI _ _ _ (hr _ (getD_in (by omega))) (by omega) (by rw [if_pos hx]) | skip)))))
    all_goals
      obtain rfl : i = l.length := by omega
      rw [List.take_length] at hiI_ ⊢
      rw [hv, if_neg (by omega)]
      congr 1
      omega
  · skip
    repeat' (refine ar_id ?_; first | refine st1 ?_ | (first | ((first | refine ar_region (id := 7) tt_ok (inps := [.elem (eIntS (l.getD i [])), .call (c_szI (l.getD i []) (a - (l.length : Int) - (cntII (l.take i) : Nat)) (a - (l.length : Int) - (cntII (l.take i) : Nat) - ((l.getD i []).length : Int)))]) rfl ?_ ?_ | refine ar_region tt_ok (inps := []) rfl ?_ ?_); rotate_left; (try dsimp only [c_szI]); (try refine nrm ?_); rotate_right) | refine ret3 ?_ | refine end3 ?_) | (refine ar_cond rfl trivial ?_ ?_ <;> intro hc_ <;> (try simp only [isNilI, inB, reduceCtorEq, cds] at hc_) <;> (try (first | contradiction | (exfalso; omega)))) | refine ar_until (And.intro ?_ (wk3 ?_)))
    all_goals (first | refine ar_id ?_ | (try (focus ((try refine nrmO ?_); (repeat' (first | exact True.intro | refine And.intro ?_ ?_)); all_goals (try (intro (hg_ : _ = true); (try simp only [isNilI, inB, reduceCtorEq, cds] at hg_); (repeat' (first | exact True.intro | refine And.intro ?_ ?_)))); all_goals (first | exact ob1 | exact fn_szI _ _ _ (hr _ (getD_in (by omega))) (by omega) (by rw [if_neg hx]) | skip)))))
    all_goals
      obtain rfl : i = l.length := by omega
      rw [List.take_length] at hiI_ ⊢
      rw [hv, if_neg (by omega)]
      congr 1
      omega
  · show _ = Value.int .i64 (a - (l.length : Int) - ((0 : Nat) : Int))
    congr 1
    omega
end Eng
end Go.Proofs.YtabnglcabpijfaaDoor
namespace Go.Proofs.YtabnglcabpijfaaDoor
open Go.RowKit
set_option linter.unusedVariables false
namespace Tr
def okV (u : Bool) (v : Int) : Prop := (0 ≤ v ∧ v ≤ 999) ∧ (u = true ∨ v = 0)
instance (u : Bool) (v : Int) : Decidable (okV u v) := by unfold okV; infer_instance
def okRow (u : Bool) (r : List Int) : Prop := r.length = 16 ∧ ∀ v ∈ r, okV u v
instance (u : Bool) (r : List Int) : Decidable (okRow u r) := by unfold okRow; infer_instance
def okF (f : GFrames) : Prop := (1 ≤ f.Cells.length ∧ f.Cells.length ≤ 32) ∧ f.Used.length = f.Cells.length ∧ ∀ p ∈ f.Cells.zip f.Used, okRow p.2 p.1
instance (f : GFrames) : Decidable (okF f) := by unfold okF; infer_instance
def pFramesOk (f : GFrames) : Bool := decide (okF f)
theorem zip_at {α β : Type} {l : List α} {m : List β} {i : Nat} {x : α} {y : β} (hx : l[i]? = some x) (hy : m[i]? = some y) : (l.zip m)[i]? = some (x, y) := List.getElem?_zip_eq_some.2 ⟨hx, hy⟩
/-- frame i of valid frames is used -/
def isUsed (f : GFrames) (i : Int) : Prop := okF f ∧ (0 ≤ i ∧ i < f.Used.length) ∧ f.Used[i.toNat]? = some true
instance (f : GFrames) (i : Int) : Decidable (isUsed f i) := by unfold isUsed; infer_instance
end Tr
end Go.Proofs.YtabnglcabpijfaaDoor
namespace Go.Proofs.YtabnglcabpijfaaDoor
open Go.RowKit
set_option linter.unusedVariables false
set_option linter.unusedSimpArgs false
set_option maxRecDepth 100000
namespace Eng
open Tr
def c_Copy5 (f : GFrames) : CFD := ⟨51, [.agg [ro 31 1 eIntS f.Cells, ro 4 1 Tr.eB f.Used]], [], .sv (.agg [.hd 0, .hd 1]),
  [(0, some (.row 31 1 (f.Cells.map eIntS))), (1, some (.row 4 1 (f.Used.map Tr.eB)))], [0, 1], []⟩
theorem fn_Copy5 (f : GFrames) (hl : f.Cells.length ≤ 1048576) (hu : f.Used.length ≤ 1048576) (hc : ∀ r ∈ f.Cells, r.length ≤ 1048576) : Fn Tryd.prog (c_Copy5 f) := by
  refine fn_intro tt_ok Tryd.func51 rfl Tryd.call51 Tryd.ntmps51 Tryd.results51 rfl rfl rfl rfl ?_
  intro X ρ0 hb_ hgl_
  dsimp only [c_Copy5]
  try refine nrm ?_
  repeat' (refine ar_id ?_; first | refine st1 ?_ | (first | ((first | refine ar_region (id := 1) tt_ok (inps := [.elems (f.Used.map Tr.eB)]) rfl ?_ ?_ | refine ar_region tt_ok (inps := []) rfl ?_ ?_); rotate_left; (try refine nrm ?_); rotate_right) | refine ret3 ?_ | refine end3 ?_) | (refine ar_cond rfl trivial ?_ ?_ <;> intro hc_ <;> (try simp only [isNilI, inB, reduceCtorEq, cds] at hc_) <;> (try (first | contradiction | (exfalso; omega)))) | refine ar_until (And.intro ?_ (wk3 ?_)))
  all_goals (first | refine ar_id ?_ | (try (focus ((try refine nrmO ?_); (repeat' (first | exact True.intro | refine And.intro ?_ ?_)); all_goals (try (intro (hg_ : _ = true); (try simp only [isNilI, inB, reduceCtorEq, cds] at hg_); (repeat' (first | exact True.intro | refine And.intro ?_ ?_)))); all_goals (first | exact ob1 | exact flat_map' f.Used (fun x => ⟨rfl, rfl, trivial⟩) | exact (by simp only [lns]; omega) | exact (by simp) | skip)))))
  refine ar_nilB (b := 3) (j := 0) (T := 31) (q := 1) (r := 90000) rfl rfl rfl rfl rfl ?_
  try dsimp only [putL]
  refine ar_keep 31 (by dsimp only [keepS] <;> exact rfl) ?_
  refine ar_forM (f.Cells.length) (fun i => True) (fun i => [(4, (TV.sv (.one (.lit (.int .i64 (i))))))]) (fun i => [(3, some (.box 37 [.hd 90000, .hd 8])), (90000, some (.row 31 1 ((f.Cells.take i).map eIntS)))]) ?_ ?_ ?_
  rotate_left
  · first | trivial | simp
  (dsimp only [rnCap, capSVs, Int.toNat_natCast, ro, Nat.reduceAdd, Nat.reduceMul, Nat.zero_add, List.map, putT, app, wrapG, gOb, argT, keys, slotOf, dropped, gAnd, wB, rnT, rnS, rnC, rnCs, rnSs, rnM, rnB, rnN, rn, lk, St.over, ded, delL, keepT, menT, menSs, menS, menCs, menC, hasN, resT, SV.cells]; refine wk3 ?_; (focus ((try refine nrmO ?_); (repeat' (first | exact True.intro | refine And.intro ?_ ?_)); all_goals (try (intro (hg_ : _ = true); (try simp only [isNilI, inB, reduceCtorEq, cds] at hg_); (repeat' (first | exact True.intro | refine And.intro ?_ ?_)))); all_goals (first | exact ob1 | exact rfl | skip))))
  rotate_right
  intro i hi_ hiI_
  dsimp only [rnCap, capSVs, Int.toNat_natCast, ro, Nat.reduceAdd, Nat.reduceMul, Nat.zero_add, List.map, putT, app, wrapG, gOb, argT, keys, slotOf, dropped, gAnd, wB, rnT, rnS, rnC, rnCs, rnSs, rnM, rnB, rnN, rn, lk, St.over, ded, delL, keepT, menT, menSs, menS, menCs, menC, hasN, resT, SV.cells]
  repeat' (refine ar_id ?_; first | refine st1 ?_ | (first | ((first | refine ar_region tt_ok (inps := []) rfl ?_ ?_); rotate_left; (try refine nrm ?_); rotate_right) | refine ret3 ?_ | refine end3 ?_) | (refine ar_cond rfl trivial ?_ ?_ <;> intro hc_ <;> (try simp only [isNilI, inB, reduceCtorEq, cds] at hc_) <;> (try (first | contradiction | (exfalso; omega)))) | refine ar_until (And.intro ?_ (wk3 ?_)))
  all_goals (first | refine ar_id ?_ | (try (focus ((try refine nrmO ?_); (repeat' (first | exact True.intro | refine And.intro ?_ ?_)); all_goals (try (intro (hg_ : _ = true); (try simp only [isNilI, inB, reduceCtorEq, cds] at hg_); (repeat' (first | exact True.intro | refine And.intro ?_ ?_)))); all_goals (first | exact ob1 | skip)))))
  · have hi : f.Cells.getD i [] ∈ f.Cells := by rw [List.getD_eq_getElem?_getD, List.getElem?_eq_getElem (by omega)]; exact List.getElem_mem _
    refine ar_draw (id := 5) (inps := [ .elem (eIntS (f.Cells.getD i [])), .elems ((f.Cells.getD i []).map eI)]) tt_ok (by kernel_rfl) rfl rfl (by kernel_rfl) rfl rfl rfl rfl ?_ ?_
    rotate_left
    (try refine nrm ?_)
    repeat' (refine ar_id ?_; first | refine st1 ?_ | (first | ((first | refine ar_region tt_ok (inps := []) rfl ?_ ?_); rotate_left; (try refine nrm ?_); rotate_right) | refine ret3 ?_ | refine end3 ?_) | (refine ar_cond rfl trivial ?_ ?_ <;> intro hc_ <;> (try simp only [isNilI, inB, reduceCtorEq, cds] at hc_) <;> (try (first | contradiction | (exfalso; omega)))) | refine ar_until (And.intro ?_ (wk3 ?_)))
    all_goals (first | refine ar_id ?_ | (try (focus ((try refine nrmO ?_); (repeat' (first | exact True.intro | refine And.intro ?_ ?_)); all_goals (try (intro (hg_ : _ = true); (try simp only [isNilI, inB, reduceCtorEq, cds] at hg_); (repeat' (first | exact True.intro | refine And.intro ?_ ?_)))); all_goals (first | exact ob1 | skip)))))
    all_goals (try (focus ((try refine nrmO ?_); (repeat' (first | exact True.intro | refine And.intro ?_ ?_)); all_goals (try (intro (hg_ : _ = true); (try simp only [isNilI, inB, reduceCtorEq, cds] at hg_); (repeat' (first | exact True.intro | refine And.intro ?_ ?_)))); all_goals (first | exact ob1 | exact flat_map' (f.Cells.getD i []) (fun x => ⟨rfl, rfl, trivial⟩) | exact (by have := hc _ hi; simp only [lns]; omega) | skip))))
    · rw [take_getD _ [] (by omega), List.map_append, app_eq]; rfl
  · rw [List.take_of_length_le (by omega)]
def c_Ok5 (f : GFrames) : CFD := ⟨53, [.agg [ro 31 1 eIntS f.Cells, ro 4 1 Tr.eB f.Used]], [], (TV.sv (.one (.lit (.bool (pFramesOk f))))), [], [], []⟩
theorem zip_take' {α β : Type} {l : List α} {m : List β} {i : Nat} {a : α} {b : β} (h1 : i < l.length) (h2 : i < m.length) : (l.zip m).getD i (a, b) = (l.getD i a, m.getD i b) := by
  have := zip_at (getD_at (x := a) h1) (getD_at (x := b) h2)
  rw [List.getD_eq_getElem?_getD, this]
  rfl
theorem fn_Ok5 (f : GFrames) (hl : f.Cells.length ≤ 1048576) (hu : f.Used.length ≤ 1048576) (hc : ∀ r ∈ f.Cells, r.length ≤ 1048576) : Fn Tryd.prog (c_Ok5 f) := by
  refine fn_intro tt_ok Tryd.func53 rfl Tryd.call53 Tryd.ntmps53 Tryd.results53 rfl rfl rfl rfl ?_
  intro X ρ0 hb_ hgl_
  dsimp only [c_Ok5]
  try refine nrm ?_
  repeat' (refine ar_id ?_; first | refine st1 ?_ | (first | ((first | refine ar_region (id := 1) tt_ok (inps := [.call (c_In f.Cells.length 1 32)]) rfl ?_ ?_ | refine ar_region tt_ok (inps := []) rfl ?_ ?_); rotate_left; (try dsimp only [c_In]); (try refine nrm ?_); rotate_right) | refine ret3 ?_ | refine end3 ?_) | (refine ar_cond rfl trivial ?_ ?_ <;> intro hc_ <;> (try simp only [isNilI, inB, reduceCtorEq, cds] at hc_) <;> (try (first | contradiction | (exfalso; omega)))) | refine ar_until (And.intro ?_ (wk3 ?_)))
  all_goals (first | refine ar_id ?_ | (try (focus ((try refine nrmO ?_); (repeat' (first | exact True.intro | refine And.intro ?_ ?_)); all_goals (try (intro (hg_ : _ = true); (try simp only [isNilI, inB, reduceCtorEq, cds] at hg_); (repeat' (first | exact True.intro | refine And.intro ?_ ?_)))); all_goals (first | exact ob1 | exact fn_In _ _ _ | skip)))))
  · exact bf fun h => by have := h.1; have := h.2.1; omega
  have hlen := hc_
  refine ar_keep 63 (by dsimp only [keepS] <;> exact rfl) ?_
  refine ar_forM (f.Cells.length) (fun i => ∀ p ∈ (f.Cells.zip f.Used).take i, okRow p.2 p.1) (fun i => [(3, (TV.sv (.one (.lit (.int .i64 (i))))))]) (fun i => []) ?_ ?_ ?_
  rotate_left
  · first | trivial | simp
  (dsimp only [rnCap, capSVs, Int.toNat_natCast, ro, Nat.reduceAdd, Nat.reduceMul, Nat.zero_add, List.map, putT, app, wrapG, gOb, argT, keys, slotOf, dropped, gAnd, wB, rnT, rnS, rnC, rnCs, rnSs, rnM, rnB, rnN, rn, lk, St.over, ded, delL, keepT, menT, menSs, menS, menCs, menC, hasN, resT, SV.cells]; refine wk3 ?_; (focus ((try refine nrmO ?_); (repeat' (first | exact True.intro | refine And.intro ?_ ?_)); all_goals (try (intro (hg_ : _ = true); (try simp only [isNilI, inB, reduceCtorEq, cds] at hg_); (repeat' (first | exact True.intro | refine And.intro ?_ ?_)))); all_goals (first | exact ob1 | exact rfl | skip))))
  rotate_right
  intro i hi_ hiI_
  dsimp only [rnCap, capSVs, Int.toNat_natCast, ro, Nat.reduceAdd, Nat.reduceMul, Nat.zero_add, List.map, putT, app, wrapG, gOb, argT, keys, slotOf, dropped, gAnd, wB, rnT, rnS, rnC, rnCs, rnSs, rnM, rnB, rnN, rn, lk, St.over, ded, delL, keepT, menT, menSs, menS, menCs, menC, hasN, resT, SV.cells]
  repeat' (refine ar_id ?_; first | refine st1 ?_ | (first | ((first | refine ar_region (id := 6) tt_ok (inps := [.elem (eIntS (f.Cells.getD i []))]) rfl ?_ ?_ | refine ar_region tt_ok (inps := []) rfl ?_ ?_); rotate_left; (try refine nrm ?_); rotate_right) | refine ret3 ?_ | refine end3 ?_) | (refine ar_cond rfl trivial ?_ ?_ <;> intro hc_ <;> (try simp only [isNilI, inB, reduceCtorEq, cds] at hc_) <;> (try (first | contradiction | (exfalso; omega)))) | refine ar_until (And.intro ?_ (wk3 ?_)))
  all_goals (first | refine ar_id ?_ | (try (focus ((try refine nrmO ?_); (repeat' (first | exact True.intro | refine And.intro ?_ ?_)); all_goals (try (intro (hg_ : _ = true); (try simp only [isNilI, inB, reduceCtorEq, cds] at hg_); (repeat' (first | exact True.intro | refine And.intro ?_ ?_)))); all_goals (first | exact ob1 | skip)))))
  · refine bf fun h => hc_ ?_
    have := h.2.2 _ (getD_in (l := f.Cells.zip f.Used) (i := i) (d := ([], false)) (by rw [List.length_zip]; omega))
    rw [zip_take' (by omega) (by omega)] at this
    rw [this.1]; rfl
  · have h16 := hc_
    refine ar_keep 63 (by dsimp only [keepS] <;> exact rfl) ?_
    refine ar_forM (16) (fun k => ∀ v ∈ (f.Cells.getD i []).take k, okV (f.Used.getD i false) v) (fun k => [(4, (TV.sv (.one (.lit (.int .i64 (k))))))]) (fun k => []) ?_ ?_ ?_
    rotate_left
    · first | trivial | simp
    (dsimp only [rnCap, capSVs, Int.toNat_natCast, ro, Nat.reduceAdd, Nat.reduceMul, Nat.zero_add, List.map, putT, app, wrapG, gOb, argT, keys, slotOf, dropped, gAnd, wB, rnT, rnS, rnC, rnCs, rnSs, rnM, rnB, rnN, rn, lk, St.over, ded, delL, keepT, menT, menSs, menS, menCs, menC, hasN, resT, SV.cells]; refine wk3 ?_; (focus ((try refine nrmO ?_); (repeat' (first | exact True.intro | refine And.intro ?_ ?_)); all_goals (try (intro (hg_ : _ = true); (try simp only [isNilI, inB, reduceCtorEq, cds] at hg_); (repeat' (first | exact True.intro | refine And.intro ?_ ?_)))); all_goals (first | exact ob1 | exact rfl | skip))))
    rotate_right
    intro k hk_ hkI_
    dsimp only [rnCap, capSVs, Int.toNat_natCast, ro, Nat.reduceAdd, Nat.reduceMul, Nat.zero_add, List.map, putT, app, wrapG, gOb, argT, keys, slotOf, dropped, gAnd, wB, rnT, rnS, rnC, rnCs, rnSs, rnM, rnB, rnN, rn, lk, St.over, ded, delL, keepT, menT, menSs, menS, menCs, menC, hasN, resT, SV.cells]
    repeat' (refine ar_id ?_; first | refine st1 ?_ | (first | ((first | refine ar_region (id := 11) tt_ok (inps := [.elem (eIntS (f.Cells.getD i [])), .elem (Tr.eI ((f.Cells.getD i []).getD k 0))]) rfl ?_ ?_ | refine ar_region (id := 12) tt_ok (inps := [.call (c_In ((f.Cells.getD i []).getD k 0) 0 999), .elem (Tr.eB (f.Used.getD i false))]) rfl ?_ ?_ | refine ar_region tt_ok (inps := []) rfl ?_ ?_); rotate_left; (try dsimp only [c_In]); (try refine nrm ?_); rotate_right) | refine ret3 ?_ | refine end3 ?_) | (refine ar_cond rfl trivial ?_ ?_ <;> intro hc_ <;> (try simp only [isNilI, inB, reduceCtorEq, cds] at hc_) <;> (try (first | contradiction | (exfalso; omega)))) | refine ar_until (And.intro ?_ (wk3 ?_)))
    all_goals (first | refine ar_id ?_ | (try (focus ((try refine nrmO ?_); (repeat' (first | exact True.intro | refine And.intro ?_ ?_)); all_goals (try (intro (hg_ : _ = true); (try simp only [isNilI, inB, reduceCtorEq, cds] at hg_); (repeat' (first | exact True.intro | refine And.intro ?_ ?_)))); all_goals (first | exact ob1 | exact fn_In _ _ _ | skip)))))
    · refine bf fun h => ?_
      have := h.2.2 _ (getD_in (l := f.Cells.zip f.Used) (i := i) (d := ([], false)) (by rw [List.length_zip]; omega))
      rw [zip_take' (by omega) (by omega)] at this
      have h5 := this.2 _ (getD_in (l := f.Cells.getD i []) (i := k) (d := 0) (by omega))
      rcases hc_ with h1 | ⟨h1, h2⟩
      · have := h5.1; omega
      · rcases h5.2 with h3 | h3
        · rw [h1] at h3; cases h3
        · exact h2 h3
    · exact all_take (d := 0) hkI_ (by omega) hc_
    · refine all_take (d := ([], false)) hiI_ (by rw [List.length_zip]; omega) ?_
      rw [zip_take' (by omega) (by omega)]
      refine ⟨(show (f.Cells.getD i []).length = 16 by omega), ?_⟩
      exact all_full (l := f.Cells.getD i []) hkI_ (by omega)
  · exact bt ⟨by omega, by omega, all_full hiI_ (by rw [List.length_zip]; omega)⟩
end Eng
end Go.Proofs.YtabnglcabpijfaaDoor
namespace Go.Proofs.YtabnglcabpijfaaDoor
open Go.RowKit
namespace Tr
/-- an entry of a table over so many frames -/
def okE (frames : Int) (e : GEntry) : Prop := (e.Mode = 0 ∧ e.Frame = 0) ∨ ((e.Mode = 1 ∨ e.Mode = 2) ∧ 0 ≤ e.Frame ∧ e.Frame < frames)
instance (frames : Int) (e : GEntry) : Decidable (okE frames e) := by unfold okE; infer_instance
def pTableOk (t : GTable) (frames : Int) : Bool := decide ((∀ e ∈ t.Entries, okE frames e) ∧ 1 ≤ t.Entries.length ∧ t.Entries.length ≤ 32)
def okSet (t : GTable) (page : Int) (e : GEntry) : Prop := (0 ≤ page ∧ page < t.Entries.length) ∧ ((e.Mode = 0 ∧ e.Frame = 0) ∨ ((e.Mode = 1 ∨ e.Mode = 2) ∧ 0 ≤ e.Frame))
instance (t : GTable) (page : Int) (e : GEntry) : Decidable (okSet t page e) := by unfold okSet; infer_instance
def pPageEntry (t : GTable) (page : Int) : GEntry := if 0 ≤ page ∧ page < t.Entries.length then t.Entries.getD page.toNat ⟨0, 0⟩ else ⟨0, 0⟩
def onFrame (frame : Int) : Nat → List GEntry → List Int
  | _, [] => []
  | i, e :: l => (if e.Mode ≠ 0 ∧ e.Frame = frame then [(i : Int)] else []) ++ onFrame frame (i + 1) l
def pPagesOn (t : GTable) (frame : Int) : List Int := onFrame frame 0 t.Entries
theorem onFrame_append (f : Int) : ∀ (i : Nat) (a b : List GEntry), onFrame f i (a ++ b) = onFrame f i a ++ onFrame f (i + a.length) b
  | i, [], b => by simp [onFrame]
  | i, e :: a, b => by
    show _ ++ onFrame f (i + 1) (a ++ b) = (_ ++ onFrame f (i + 1) a) ++ _
    rw [onFrame_append f (i + 1) a b, List.append_assoc, List.length_cons, show i + 1 + a.length = i + (a.length + 1) by omega]
theorem onFrame_take (f : Int) (l : List GEntry) (i : Nat) (x : GEntry) (h : l[i]? = some x) : onFrame f 0 (l.take (i + 1)) = onFrame f 0 (l.take i) ++ (if x.Mode ≠ 0 ∧ x.Frame = f then [(i : Int)] else []) := by
  have hi : i < l.length := (List.getElem?_eq_some_iff.1 h).1
  rw [List.take_add_one, h, onFrame_append, List.length_take, Nat.min_eq_left (by omega), Nat.zero_add]
  show _ ++ (_ ++ []) = _
  rw [List.append_nil]
theorem onFrame_len (f : Int) : ∀ (i : Nat) (l : List GEntry), (onFrame f i l).length ≤ l.length
  | _, [] => Nat.le_refl _
  | i, e :: l => by
    show (_ ++ onFrame f (i + 1) l).length ≤ l.length + 1
    have := onFrame_len f (i + 1) l
    rw [List.length_append]
    split <;> simp <;> omega
end Tr
end Go.Proofs.YtabnglcabpijfaaDoor
namespace Go.Proofs.YtabnglcabpijfaaDoor
open Go.RowKit
set_option linter.unusedVariables false
set_option linter.unusedSimpArgs false
set_option maxRecDepth 100000
namespace Eng
open Tr
def c_Copy6 (t : GTable) : CFD := ⟨52, [.agg [ro 75 2 eEntry t.Entries]], [], .sv (.agg [.hd 0]), [(0, some (.row 75 2 (t.Entries.map eEntry)))], [0], []⟩
theorem fn_Copy6 (t : GTable) (hl : t.Entries.length ≤ 1048576) : Fn Tryd.prog (c_Copy6 t) := by
  refine fn_intro tt_ok Tryd.func52 rfl Tryd.call52 Tryd.ntmps52 Tryd.results52 rfl rfl rfl rfl ?_
  intro X ρ0 hb_ hgl_
  dsimp only [c_Copy6]
  try refine nrm ?_
  repeat' (refine ar_id ?_; first | refine st1 ?_ | (first | ((first | refine ar_region (id := 1) tt_ok (inps := [.elems (t.Entries.map eEntry)]) rfl ?_ ?_ | refine ar_region tt_ok (inps := []) rfl ?_ ?_); rotate_left; (try refine nrm ?_); rotate_right) | refine ret3 ?_ | refine end3 ?_) | (refine ar_cond rfl trivial ?_ ?_ <;> intro hc_ <;> (try simp only [isNilI, inB, reduceCtorEq, cds] at hc_) <;> (try (first | contradiction | (exfalso; omega)))) | refine ar_until (And.intro ?_ (wk3 ?_)))
  all_goals (first | refine ar_id ?_ | (try (focus ((try refine nrmO ?_); (repeat' (first | exact True.intro | refine And.intro ?_ ?_)); all_goals (try (intro (hg_ : _ = true); (try simp only [isNilI, inB, reduceCtorEq, cds] at hg_); (repeat' (first | exact True.intro | refine And.intro ?_ ?_)))); all_goals (first | exact ob1 | exact flat_map' t.Entries (fun x => ⟨rfl, rfl, rfl, trivial⟩) | exact (by simp only [lns]; omega) | exact (by simp) | skip)))))
def c_PageEntry (t : GTable) (page : Int) : CFD := ⟨79, [.agg [ro 75 2 eEntry t.Entries], (SV.one (.lit (.int .i64 (page))))], [], .sv (.agg [(CV.lit (.int .i64 ((pPageEntry t page).Mode))), (CV.lit (.int .i64 ((pPageEntry t page).Frame)))]), [], [], []⟩
theorem fn_PageEntry (t : GTable) (page : Int) (hl : t.Entries.length ≤ 1048576) : Fn Tryd.prog (c_PageEntry t page) := by
  refine fn_intro tt_ok Tryd.func79 rfl Tryd.call79 Tryd.ntmps79 Tryd.results79 rfl rfl rfl rfl ?_
  intro X ρ0 hb_ hgl_
  dsimp only [c_PageEntry]
  try refine nrm ?_
  repeat' (refine ar_id ?_; first | refine st1 ?_ | (first | ((first | refine ar_region (id := 1) tt_ok (inps := [.call (c_In page 0 (t.Entries.length - 1))]) rfl ?_ ?_ | refine ar_region (id := 3) tt_ok (inps := [.elem (eEntry (t.Entries.getD page.toNat ⟨0, 0⟩))]) rfl ?_ ?_ | refine ar_region tt_ok (inps := []) rfl ?_ ?_); rotate_left; (try dsimp only [c_In]); (try refine nrm ?_); rotate_right) | refine ret3 ?_ | refine end3 ?_) | (refine ar_cond rfl trivial ?_ ?_ <;> intro hc_ <;> (try simp only [isNilI, inB, reduceCtorEq, cds] at hc_) <;> (try (first | contradiction | (exfalso; omega)))) | refine ar_until (And.intro ?_ (wk3 ?_)))
  all_goals (first | refine ar_id ?_ | (try (focus ((try refine nrmO ?_); (repeat' (first | exact True.intro | refine And.intro ?_ ?_)); all_goals (try (intro (hg_ : _ = true); (try simp only [isNilI, inB, reduceCtorEq, cds] at hg_); (repeat' (first | exact True.intro | refine And.intro ?_ ?_)))); all_goals (first | exact ob1 | exact fn_In _ _ _ | skip)))))
  all_goals unfold pPageEntry
  · rw [if_neg (by omega)]
  · rw [if_neg (by omega)]
  · rw [if_pos (by omega)]
  · rw [if_pos (by omega)]
def c_PagesOn (t : GTable) (frame : Int) : CFD := ⟨55, [.agg [ro 75 2 eEntry t.Entries], (SV.one (.lit (.int .i64 (frame))))], [], .sv (.one (.hd 0)), [(0, some (.row 3 1 ((pPagesOn t frame).map eI)))], [0], []⟩
theorem fn_PagesOn (t : GTable) (frame : Int) (hl : t.Entries.length ≤ 1048576) : Fn Tryd.prog (c_PagesOn t frame) := by
  refine fn_intro tt_ok Tryd.func55 rfl Tryd.call55 Tryd.ntmps55 Tryd.results55 rfl rfl rfl rfl ?_
  intro X ρ0 hb_ hgl_
  dsimp only [c_PagesOn]
  try refine nrm ?_
  repeat' (refine ar_id ?_; first | refine st1 ?_ | (first | ((first | refine ar_region tt_ok (inps := []) rfl ?_ ?_); rotate_left; (try refine nrm ?_); rotate_right) | refine ret3 ?_ | refine end3 ?_) | (refine ar_cond rfl trivial ?_ ?_ <;> intro hc_ <;> (try simp only [isNilI, inB, reduceCtorEq, cds] at hc_) <;> (try (first | contradiction | (exfalso; omega)))) | refine ar_until (And.intro ?_ (wk3 ?_)))
  all_goals (first | refine ar_id ?_ | (try (focus ((try refine nrmO ?_); (repeat' (first | exact True.intro | refine And.intro ?_ ?_)); all_goals (try (intro (hg_ : _ = true); (try simp only [isNilI, inB, reduceCtorEq, cds] at hg_); (repeat' (first | exact True.intro | refine And.intro ?_ ?_)))); all_goals (first | exact ob1 | skip)))))
  refine ar_keep 119 (by dsimp only [keepS] <;> exact rfl) ?_
  refine ar_forM (t.Entries.length) (fun i => True) (fun i => [(6, (TV.sv (.one (.lit (.int .i64 (i)))))), (5, (TV.sv (.one (.hd 7))))]) (fun i => [(7, some (.row 3 1 ((onFrame frame 0 (t.Entries.take i)).map eI)))]) ?_ ?_ ?_
  rotate_left
  · first | trivial | simp
  (dsimp only [rnCap, capSVs, Int.toNat_natCast, ro, Nat.reduceAdd, Nat.reduceMul, Nat.zero_add, List.map, putT, app, wrapG, gOb, argT, keys, slotOf, dropped, gAnd, wB, rnT, rnS, rnC, rnCs, rnSs, rnM, rnB, rnN, rn, lk, St.over, ded, delL, keepT, menT, menSs, menS, menCs, menC, hasN, resT, SV.cells]; refine wk3 ?_; (focus ((try refine nrmO ?_); (repeat' (first | exact True.intro | refine And.intro ?_ ?_)); all_goals (try (intro (hg_ : _ = true); (try simp only [isNilI, inB, reduceCtorEq, cds] at hg_); (repeat' (first | exact True.intro | refine And.intro ?_ ?_)))); all_goals (first | exact ob1 | exact rfl | skip))))
  rotate_right
  intro i hi_ hiI_
  dsimp only [rnCap, capSVs, Int.toNat_natCast, ro, Nat.reduceAdd, Nat.reduceMul, Nat.zero_add, List.map, putT, app, wrapG, gOb, argT, keys, slotOf, dropped, gAnd, wB, rnT, rnS, rnC, rnCs, rnSs, rnM, rnB, rnN, rn, lk, St.over, ded, delL, keepT, menT, menSs, menS, menCs, menC, hasN, resT, SV.cells]
  repeat' (refine ar_id ?_; first | refine st1 ?_ | (first | ((first | refine ar_region (id := 5) tt_ok (inps := [.elem (eEntry (t.Entries.getD i ⟨0, 0⟩)), .elem (eEntry (t.Entries.getD i ⟨0, 0⟩))]) rfl ?_ ?_ | refine ar_region tt_ok (inps := []) rfl ?_ ?_); rotate_left; (try refine nrm ?_); rotate_right) | refine ret3 ?_ | refine end3 ?_) | (refine ar_cond rfl trivial ?_ ?_ <;> intro hc_ <;> (try simp only [isNilI, inB, reduceCtorEq, cds] at hc_) <;> (try (first | contradiction | (exfalso; omega)))) | refine ar_until (And.intro ?_ (wk3 ?_)))
  all_goals (first | refine ar_id ?_ | (try (focus ((try refine nrmO ?_); (repeat' (first | exact True.intro | refine And.intro ?_ ?_)); all_goals (try (intro (hg_ : _ = true); (try simp only [isNilI, inB, reduceCtorEq, cds] at hg_); (repeat' (first | exact True.intro | refine And.intro ?_ ?_)))); all_goals (first | exact ob1 | skip)))))
  · have := onFrame_len frame 0 (t.Entries.take i)
    simp only [List.length_map, List.length_take, List.length_cons, List.length_nil] at *
    omega
  · rw [onFrame_take _ _ _ _ (getD_at (x := ⟨0, 0⟩) (by omega)), if_pos hc_, List.map_append, app_eq]; rfl
  · rw [onFrame_take _ _ _ _ (getD_at (x := ⟨0, 0⟩) (by omega)), if_neg (by omega), List.append_nil]
  · rw [List.take_of_length_le (by omega)]; rfl
def c_TOk (t : GTable) (frames : Int) : CFD := ⟨54, [.agg [ro 75 2 eEntry t.Entries], (SV.one (.lit (.int .i64 (frames))))], [], (TV.sv (.one (.lit (.bool (pTableOk t frames))))), [], [], []⟩
theorem fn_TOk (t : GTable) (frames : Int) (hl : t.Entries.length ≤ 1048576) : Fn Tryd.prog (c_TOk t frames) := by
  refine fn_intro tt_ok Tryd.func54 rfl Tryd.call54 Tryd.ntmps54 Tryd.results54 rfl rfl rfl rfl ?_
  intro X ρ0 hb_ hgl_
  dsimp only [c_TOk]
  try refine nrm ?_
  repeat' (refine ar_id ?_; first | refine st1 ?_ | (first | ((first | refine ar_region tt_ok (inps := []) rfl ?_ ?_); rotate_left; (try refine nrm ?_); rotate_right) | refine ret3 ?_ | refine end3 ?_) | (refine ar_cond rfl trivial ?_ ?_ <;> intro hc_ <;> (try simp only [isNilI, inB, reduceCtorEq, cds] at hc_) <;> (try (first | contradiction | (exfalso; omega)))) | refine ar_until (And.intro ?_ (wk3 ?_)))
  all_goals (first | refine ar_id ?_ | (try (focus ((try refine nrmO ?_); (repeat' (first | exact True.intro | refine And.intro ?_ ?_)); all_goals (try (intro (hg_ : _ = true); (try simp only [isNilI, inB, reduceCtorEq, cds] at hg_); (repeat' (first | exact True.intro | refine And.intro ?_ ?_)))); all_goals (first | exact ob1 | skip)))))
  refine ar_keep 119 (by dsimp only [keepS] <;> exact rfl) ?_
  refine ar_forM (t.Entries.length) (fun i => ∀ e ∈ t.Entries.take i, okE frames e) (fun i => [(5, (TV.sv (.one (.lit (.int .i64 (i))))))]) (fun i => []) ?_ ?_ ?_
  rotate_left
  · first | trivial | simp
  (dsimp only [rnCap, capSVs, Int.toNat_natCast, ro, Nat.reduceAdd, Nat.reduceMul, Nat.zero_add, List.map, putT, app, wrapG, gOb, argT, keys, slotOf, dropped, gAnd, wB, rnT, rnS, rnC, rnCs, rnSs, rnM, rnB, rnN, rn, lk, St.over, ded, delL, keepT, menT, menSs, menS, menCs, menC, hasN, resT, SV.cells]; refine wk3 ?_; (focus ((try refine nrmO ?_); (repeat' (first | exact True.intro | refine And.intro ?_ ?_)); all_goals (try (intro (hg_ : _ = true); (try simp only [isNilI, inB, reduceCtorEq, cds] at hg_); (repeat' (first | exact True.intro | refine And.intro ?_ ?_)))); all_goals (first | exact ob1 | exact rfl | skip))))
  rotate_right
  intro i hi_ hiI_
  dsimp only [rnCap, capSVs, Int.toNat_natCast, ro, Nat.reduceAdd, Nat.reduceMul, Nat.zero_add, List.map, putT, app, wrapG, gOb, argT, keys, slotOf, dropped, gAnd, wB, rnT, rnS, rnC, rnCs, rnSs, rnM, rnB, rnN, rn, lk, St.over, ded, delL, keepT, menT, menSs, menS, menCs, menC, hasN, resT, SV.cells]
  repeat' (refine ar_id ?_; first | refine st1 ?_ | (first | ((first | refine ar_region (id := 4) tt_ok (inps := [.elem (eEntry (t.Entries.getD i ⟨0, 0⟩))]) rfl ?_ ?_ | refine ar_region (id := 5) tt_ok (inps := [.call (c_In (t.Entries.getD i ⟨0, 0⟩).Mode 0 2)]) rfl ?_ ?_ | refine ar_region (id := 7) tt_ok (inps := [.call (c_In t.Entries.length 1 32)]) rfl ?_ ?_ | refine ar_region tt_ok (inps := []) rfl ?_ ?_); rotate_left; (try dsimp only [c_In]); (try refine nrm ?_); rotate_right) | refine ret3 ?_ | refine end3 ?_) | (refine ar_cond rfl trivial ?_ ?_ <;> intro hc_ <;> (try simp only [isNilI, inB, reduceCtorEq, cds] at hc_) <;> (try (first | contradiction | (exfalso; omega)))) | refine ar_until (And.intro ?_ (wk3 ?_)))
  all_goals (first | refine ar_id ?_ | (try (focus ((try refine nrmO ?_); (repeat' (first | exact True.intro | refine And.intro ?_ ?_)); all_goals (try (intro (hg_ : _ = true); (try simp only [isNilI, inB, reduceCtorEq, cds] at hg_); (repeat' (first | exact True.intro | refine And.intro ?_ ?_)))); all_goals (first | exact ob1 | exact fn_In _ _ _ | skip)))))
  · refine bf fun h => ?_
    have h1 := h.1 _ (getD_in (l := t.Entries) (i := i) (d := ⟨0, 0⟩) (by omega))
    unfold okE at h1
    omega
  · refine all_take (d := ⟨0, 0⟩) hiI_ (by omega) ?_
    unfold okE
    omega
  · refine congrArg Value.bool ?_
    have h1 := all_full hiI_ (by omega)
    unfold pTableOk
    cases h : inB (t.Entries.length : Int) 1 32
    · rw [eq_comm, decide_eq_false_iff_not]
      rintro ⟨_, h2, h3⟩
      rw [show inB (t.Entries.length : Int) 1 32 = true from inB_iff.2 ⟨by omega, by omega⟩] at h
      cases h
    · have := inB_iff.1 h
      rw [eq_comm, decide_eq_true_iff]
      exact ⟨h1, by omega, by omega⟩
end Eng
end Go.Proofs.YtabnglcabpijfaaDoor
namespace Go.Proofs.YtabnglcabpijfaaDoor
open Go.RowKit
set_option linter.unusedVariables false
namespace Tr
/-- the used frames are exactly those to which pages are mapped -/
def usedAre (m : GMachine) : Prop := ∀ i, i < m.Frames.Used.length → m.Frames.Used[i]? = some (decide (0 < (pPagesOn m.Table (i : Int)).length))
instance (m : GMachine) : Decidable (usedAre m) := by unfold usedAre; infer_instance
def okM (m : GMachine) : Prop := okF m.Frames ∧ pTableOk m.Table (m.Frames.Cells.length : Int) = true ∧ usedAre m
instance (m : GMachine) : Decidable (okM m) := by unfold okM; infer_instance
def pMachineOk (m : GMachine) : Bool := decide (okM m)
/-- the entry of an address, and its offset -/
def pEntry (m : GMachine) (addr : Int) : GEntry × Int := if addr < 0 then (⟨0, 0⟩, 0) else (pPageEntry m.Table (addr / 16), addr % 16)
def canLoad (m : GMachine) (addr : Int) : Prop := okM m ∧ (pEntry m addr).1.Mode ≠ 0
instance (m : GMachine) (addr : Int) : Decidable (canLoad m addr) := by unfold canLoad; infer_instance
def setCellOf (m : GMachine) (f k v : Int) : GMachine := ⟨⟨m.Frames.Cells.set f.toNat ((m.Frames.Cells.getD f.toNat []).set k.toNat v), m.Frames.Used⟩, m.Table⟩
def pStore (m : GMachine) (addr v : Int) : GMachine × Int :=
  if canLoad m addr then
    if (pEntry m addr).1.Mode = 1 then (m, 2)
    else if 0 ≤ v ∧ v ≤ 999 then (setCellOf m (pEntry m addr).1.Frame (pEntry m addr).2 v, 0) else (m, 3)
  else (m, 1)
/-- a mapped entry of a valid machine: its frame is there -/
theorem okM_entry {m : GMachine} (h : okM m) {page : Int} (hm : (pPageEntry m.Table page).Mode ≠ 0) : ∃ f : Nat, (pPageEntry m.Table page).Frame = (f : Int) ∧ f < m.Frames.Cells.length ∧ f < m.Frames.Used.length ∧ (m.Frames.Cells.getD f []).length = 16 ∧ m.Frames.Cells[f]? = some (m.Frames.Cells.getD f []) := by
  obtain ⟨h1, h2, _⟩ := h
  unfold pTableOk at h2
  rw [decide_eq_true_iff] at h2
  have he : pPageEntry m.Table page ∈ m.Table.Entries ∨ pPageEntry m.Table page = ⟨0, 0⟩ := by
    unfold pPageEntry
    split
    · rename_i hp
      left
      rw [List.getD_eq_getElem?_getD, List.getElem?_eq_getElem (by omega)]
      exact List.getElem_mem _
    · right; rfl
  rcases he with he | he
  · rcases h2.1 _ he with ⟨h0, _⟩ | ⟨_, h3, h4⟩
    · exact absurd h0 hm
    · obtain ⟨f, hf⟩ := Int.eq_ofNat_of_zero_le h3
      have hl : f < m.Frames.Cells.length := by rw [hf] at h4; omega
      have hu : f < m.Frames.Used.length := by rw [h1.2.1]; exact hl
      have hr : m.Frames.Cells[f]? = some (m.Frames.Cells.getD f []) := by rw [List.getD_eq_getElem?_getD, List.getElem?_eq_getElem hl]; rfl
      exact ⟨f, hf, hl, hu, (h1.2.2 _ (List.mem_of_getElem? (zip_at hr (List.getElem?_eq_getElem hu)))).1, hr⟩
  · rw [he] at hm; exact absurd rfl hm
/-- where the cell of an address lies that can be loaded -/
theorem load_at {m : GMachine} {addr : Int} (h : canLoad m addr) : 0 ≤ addr ∧ ∃ (f k : Nat) (r : List Int), (pEntry m addr).1.Frame = (f : Int) ∧ (pEntry m addr).2 = (k : Int) ∧ k < 16 ∧ f < m.Frames.Cells.length ∧ f < m.Frames.Used.length ∧ m.Frames.Cells[f]? = some r ∧ r.length = 16 := by
  obtain ⟨h1, h2⟩ := h
  by_cases ha : addr < 0
  · unfold pEntry at h2
    rw [if_pos ha] at h2
    exact absurd rfl h2
  · unfold pEntry at h2 ⊢
    rw [if_neg ha] at h2 ⊢
    obtain ⟨f, hf, hl, hu, hr, hrow⟩ := okM_entry h1 h2
    exact ⟨by omega, f, (addr % 16).toNat, _, hf, by show addr % 16 = _; omega, by omega, hl, hu, hrow, hr⟩
end Tr
end Go.Proofs.YtabnglcabpijfaaDoor
namespace Go.Proofs.YtabnglcabpijfaaDoor
open Go.RowKit
set_option linter.unusedVariables false
set_option linter.unusedSimpArgs false
set_option maxRecDepth 100000
namespace Eng
open Tr
/-- a machine that can be read: its slices are not too long -/
structure szM7 (m : GMachine) : Prop where
  c : m.Frames.Cells.length ≤ 1048576
  u : m.Frames.Used.length ≤ 1048576
  r : ∀ r ∈ m.Frames.Cells, r.length ≤ 1048576
  e : m.Table.Entries.length ≤ 1048576
def c_MOk (m : GMachine) : CFD := ⟨32, [.agg [ro 31 1 eIntS m.Frames.Cells, ro 4 1 Tr.eB m.Frames.Used, ro 75 2 eEntry m.Table.Entries]], [], (TV.sv (.one (.lit (.bool (pMachineOk m))))), [], [], []⟩
theorem fn_MOk (m : GMachine) (hs : szM7 m) : Fn Tryd.prog (c_MOk m) := by
  refine fn_intro tt_ok Tryd.func32 rfl Tryd.call32 Tryd.ntmps32 Tryd.results32 rfl rfl rfl rfl ?_
  intro X ρ0 hb_ hgl_
  dsimp only [c_MOk]
  try refine nrm ?_
  repeat' (refine ar_id ?_; first | refine st1 ?_ | (first | ((first | refine ar_region (id := 1) tt_ok (inps := [.call (c_Ok5 m.Frames), .call (c_TOk m.Table m.Frames.Cells.length)]) rfl ?_ ?_ | refine ar_region tt_ok (inps := []) rfl ?_ ?_); rotate_left; (try dsimp only [c_Ok5, c_TOk]); (try refine nrm ?_); rotate_right) | refine ret3 ?_ | refine end3 ?_) | (refine ar_cond rfl trivial ?_ ?_ <;> intro hc_ <;> (try simp only [isNilI, inB, reduceCtorEq, cds] at hc_) <;> (try (first | contradiction | (exfalso; omega)))) | refine ar_until (And.intro ?_ (wk3 ?_)))
  all_goals (first | refine ar_id ?_ | (try (focus ((try refine nrmO ?_); (repeat' (first | exact True.intro | refine And.intro ?_ ?_)); all_goals (try (intro (hg_ : _ = true); (try simp only [isNilI, inB, reduceCtorEq, cds] at hg_); (repeat' (first | exact True.intro | refine And.intro ?_ ?_)))); all_goals (first | exact ob1 | exact fn_Ok5 _ hs.c hs.u hs.r | exact fn_TOk _ _ hs.e | skip)))))
  · refine bf fun h => ?_
    rcases hc_ with hc_ | hc_
    · rw [show pFramesOk m.Frames = true from decide_eq_true h.1] at hc_; cases hc_
    · rw [h.2.1] at hc_; cases hc_
  have hok := of_decide_eq_true hc_.1
  have htk := hc_.2
  have hu := hs.u
  refine ar_keep 15 (by dsimp only [keepS] <;> exact rfl) ?_
  refine ar_forM (m.Frames.Used.length) (fun i => ∀ j, j < i → m.Frames.Used[j]? = some (decide (0 < (pPagesOn m.Table (j : Int)).length))) (fun i => [(3, (TV.sv (.one (.lit (.int .i64 (i))))))]) (fun i => []) ?_ ?_ ?_
  rotate_left
  · first | trivial | simp
  (dsimp only [rnCap, capSVs, Int.toNat_natCast, ro, Nat.reduceAdd, Nat.reduceMul, Nat.zero_add, List.map, putT, app, wrapG, gOb, argT, keys, slotOf, dropped, gAnd, wB, rnT, rnS, rnC, rnCs, rnSs, rnM, rnB, rnN, rn, lk, St.over, ded, delL, keepT, menT, menSs, menS, menCs, menC, hasN, resT, SV.cells]; refine wk3 ?_; (focus ((try refine nrmO ?_); (repeat' (first | exact True.intro | refine And.intro ?_ ?_)); all_goals (try (intro (hg_ : _ = true); (try simp only [isNilI, inB, reduceCtorEq, cds] at hg_); (repeat' (first | exact True.intro | refine And.intro ?_ ?_)))); all_goals (first | exact ob1 | exact rfl | skip))))
  rotate_right
  intro i hi_ hiI_
  dsimp only [rnCap, capSVs, Int.toNat_natCast, ro, Nat.reduceAdd, Nat.reduceMul, Nat.zero_add, List.map, putT, app, wrapG, gOb, argT, keys, slotOf, dropped, gAnd, wB, rnT, rnS, rnC, rnCs, rnSs, rnM, rnB, rnN, rn, lk, St.over, ded, delL, keepT, menT, menSs, menS, menCs, menC, hasN, resT, SV.cells]
  repeat' (refine ar_id ?_; first | refine st1 ?_ | (first | ((first | refine ar_draw (id := 6) (inps := [.elem (Tr.eB (m.Frames.Used.getD i false)), .call (c_PagesOn m.Table i)]) tt_ok (by kernel_rfl) rfl rfl (by kernel_rfl) rfl rfl rfl rfl ?_ ?_ | refine ar_region tt_ok (inps := []) rfl ?_ ?_); rotate_left; (try dsimp only [c_PagesOn]); (try refine nrm ?_); rotate_right) | refine ret3 ?_ | refine end3 ?_) | (refine ar_cond rfl trivial ?_ ?_ <;> intro hc_ <;> (try simp only [isNilI, inB, reduceCtorEq, cds] at hc_) <;> (try (first | contradiction | (exfalso; omega)))) | refine ar_until (And.intro ?_ (wk3 ?_)))
  all_goals (first | refine ar_id ?_ | (try (focus ((try refine nrmO ?_); (repeat' (first | exact True.intro | refine And.intro ?_ ?_)); all_goals (try (intro (hg_ : _ = true); (try simp only [isNilI, inB, reduceCtorEq, cds] at hg_); (repeat' (first | exact True.intro | refine And.intro ?_ ?_)))); all_goals (first | exact ob1 | exact fn_PagesOn _ _ hs.e | skip)))))
  · exact bf fun h => hc_ (by
      have h1 := h.2.2 i (by omega)
      rw [getD_at (x := false) (by omega)] at h1
      rw [Option.some.inj h1]
      exact decide_eq_decide.2 (by omega))
  · intro j hj
    rcases Nat.lt_succ_iff_lt_or_eq.1 hj with hj | rfl
    · exact hiI_ j hj
    · rw [getD_at (x := false) (by omega), hc_]
      exact congrArg some (decide_eq_decide.2 (by omega))
  · exact bt ⟨hok, htk, fun j hj => hiI_ j (by omega)⟩
def c_Copy7 (m : GMachine) : CFD := ⟨31, [.agg [ro 31 1 eIntS m.Frames.Cells, ro 4 1 Tr.eB m.Frames.Used, ro 75 2 eEntry m.Table.Entries]], [], .sv (.agg [.hd 0, .hd 1, .hd 2]),
  [(0, some (.row 31 1 (m.Frames.Cells.map eIntS))), (1, some (.row 4 1 (m.Frames.Used.map Tr.eB))), (2, some (.row 75 2 (m.Table.Entries.map eEntry)))], [0, 1, 2], []⟩
theorem fn_Copy7 (m : GMachine) (hs : szM7 m) : Fn Tryd.prog (c_Copy7 m) := by
  refine fn_intro tt_ok Tryd.func31 rfl Tryd.call31 Tryd.ntmps31 Tryd.results31 rfl rfl rfl rfl ?_
  intro X ρ0 hb_ hgl_
  dsimp only [c_Copy7]
  try refine nrm ?_
  repeat' (refine ar_id ?_; first | refine st1 ?_ | (first | ((first | refine ar_draw (id := 1) (inps := [.call (c_Copy5 m.Frames), .call (c_Copy6 m.Table)]) tt_ok (by kernel_rfl) rfl rfl (by kernel_rfl) rfl rfl rfl rfl ?_ ?_ | refine ar_region tt_ok (inps := []) rfl ?_ ?_); rotate_left; (try dsimp only [c_Copy5, c_Copy6]); (try refine nrm ?_); rotate_right) | refine ret3 ?_ | refine end3 ?_) | (refine ar_cond rfl trivial ?_ ?_ <;> intro hc_ <;> (try simp only [isNilI, inB, reduceCtorEq, cds] at hc_) <;> (try (first | contradiction | (exfalso; omega)))) | refine ar_until (And.intro ?_ (wk3 ?_)))
  all_goals (first | refine ar_id ?_ | (try (focus ((try refine nrmO ?_); (repeat' (first | exact True.intro | refine And.intro ?_ ?_)); all_goals (try (intro (hg_ : _ = true); (try simp only [isNilI, inB, reduceCtorEq, cds] at hg_); (repeat' (first | exact True.intro | refine And.intro ?_ ?_)))); all_goals (first | exact ob1 | exact fn_Copy5 _ hs.c hs.u hs.r | exact fn_Copy6 _ hs.e | skip)))))
end Eng
end Go.Proofs.YtabnglcabpijfaaDoor
namespace Go.Proofs.YtabnglcabpijfaaDoor
open Go.RowKit
set_option linter.unusedVariables false
set_option linter.unusedSimpArgs false
set_option maxRecDepth 100000
namespace Eng
open Tr
def c_Entry7 (m : GMachine) (addr : Int) : CFD := ⟨56, [.agg [ro 31 1 eIntS m.Frames.Cells, ro 4 1 Tr.eB m.Frames.Used, ro 75 2 eEntry m.Table.Entries], (SV.one (.lit (.int .i64 (addr))))], [], .tup [.agg [(CV.lit (.int .i64 ((pEntry m addr).1.Mode))), (CV.lit (.int .i64 ((pEntry m addr).1.Frame)))], (SV.one (.lit (.int .i64 ((pEntry m addr).2))))], [], [], []⟩
theorem fn_Entry7 (m : GMachine) (addr : Int) (hs : szM7 m) (ha : addr ≤ 9223372036854775807) : Fn Tryd.prog (c_Entry7 m addr) := by
  have hse := hs.e
  refine fn_intro tt_ok Tryd.func56 rfl Tryd.call56 Tryd.ntmps56 Tryd.results56 rfl rfl rfl rfl ?_
  intro X ρ0 hb_ hgl_
  dsimp only [c_Entry7]
  try refine nrm ?_
  repeat' (refine ar_id ?_; first | refine st1 ?_ | (first | ((first | refine ar_region (id := 3) tt_ok (inps := [.call (c_PageEntry m.Table (addr.tdiv 16))]) rfl ?_ ?_ | refine ar_region tt_ok (inps := []) rfl ?_ ?_); rotate_left; (try dsimp only [c_PageEntry]); (try refine nrm ?_); rotate_right) | refine ret3 ?_ | refine end3 ?_) | (refine ar_cond rfl trivial ?_ ?_ <;> intro hc_ <;> (try simp only [isNilI, inB, reduceCtorEq, cds] at hc_) <;> (try (first | contradiction | (exfalso; omega)))) | refine ar_until (And.intro ?_ (wk3 ?_)))
  all_goals (first | refine ar_id ?_ | (try (focus ((try refine nrmO ?_); (repeat' (first | exact True.intro | refine And.intro ?_ ?_)); all_goals (try (intro (hg_ : _ = true); (try simp only [isNilI, inB, reduceCtorEq, cds] at hg_); (repeat' (first | exact True.intro | refine And.intro ?_ ?_)))); all_goals (first | exact ob1 | exact fn_PageEntry _ _ hse | skip)))))
  all_goals first
    | (unfold pEntry; rw [if_pos (by assumption)]; done)
    | (rw [Int.tdiv_eq_ediv_of_nonneg (by assumption)]; exact i64_ok (by omega) (by omega))
    | (unfold pEntry; rw [if_neg (by omega), Int.tdiv_eq_ediv_of_nonneg (by assumption)]; done)
    | (unfold pEntry; rw [if_neg (by omega), Int.tmod_eq_emod_of_nonneg (by assumption)]; done)
def c_EntR (m : GMachine) (addr md fr k : Int) : CFD := ⟨56, [.agg [ro 31 1 eIntS m.Frames.Cells, ro 4 1 Tr.eB m.Frames.Used, ro 75 2 eEntry m.Table.Entries], (SV.one (.lit (.int .i64 (addr))))], [], .tup [.agg [(CV.lit (.int .i64 (md))), (CV.lit (.int .i64 (fr)))], (SV.one (.lit (.int .i64 (k))))], [], [], []⟩
theorem fn_EntR (m : GMachine) (addr md fr k : Int) (hs : szM7 m) (ha : addr ≤ 9223372036854775807) (h1 : (pEntry m addr).1.Mode = md) (h2 : (pEntry m addr).1.Frame = fr) (h3 : (pEntry m addr).2 = k) : Fn Tryd.prog (c_EntR m addr md fr k) := by
  subst h1 h2 h3; exact fn_Entry7 m addr hs ha
def c_Store7 (m : GMachine) (addr v : Int) (m' : GMachine) : CFD := ⟨34, [.agg [ro 31 1 eIntS m.Frames.Cells, ro 4 1 Tr.eB m.Frames.Used, ro 75 2 eEntry m.Table.Entries], (SV.one (.lit (.int .i64 (addr)))), (SV.one (.lit (.int .i64 (v))))], [], .tup [.agg [.hd 0, .hd 1, .hd 2], (SV.one (.lit (.int .i64 (0))))], [(0, some (.row 31 1 ((m').Frames.Cells.map eIntS))), (1, some (.row 4 1 ((m').Frames.Used.map Tr.eB))), (2, some (.row 75 2 ((m').Table.Entries.map eEntry)))], [0, 1, 2], []⟩
/-- a store that is made -/
theorem fn_Store7 (m : GMachine) (addr v : Int) (hs : szM7 m) (ha : addr ≤ 9223372036854775807) (hC : canLoad m addr) (h2 : (pEntry m addr).1.Mode = 2) (hv : 0 ≤ v ∧ v ≤ 999) : Fn Tryd.prog (c_Store7 m addr v (setCellOf m (pEntry m addr).1.Frame (pEntry m addr).2 v)) := by
  obtain ⟨_, f, k, r, hf, hk, h1, h2', _, h3, h4⟩ := load_at hC
  have hok : pMachineOk m = true := decide_eq_true hC.1
  have hr : m.Frames.Cells.getD f [] = r := by rw [List.getD_eq_getElem?_getD, h3]; rfl
  have h5 : (m.Frames.Cells.getD f []).length = 16 := by rw [hr]; exact h4
  rw [hf, hk]
  refine fn_intro tt_ok Tryd.func34 rfl Tryd.call34 Tryd.ntmps34 Tryd.results34 rfl rfl rfl rfl ?_
  intro X ρ0 hb_ hgl_
  dsimp only [c_Store7]
  try refine nrm ?_
  repeat' (refine ar_id ?_; first | refine st1 ?_ | (first | ((first | refine ar_region (id := 1) tt_ok (inps := [.call (c_Copy7 m)]) rfl ?_ ?_ | refine ar_region (id := 2) tt_ok (inps := [.call (c_EntR m addr 2 f k)]) rfl ?_ ?_ | refine ar_region (id := 3) tt_ok (inps := [.call (c_MOk m)]) rfl ?_ ?_ | refine ar_region (id := 7) tt_ok (inps := [.call (c_In v 0 999)]) rfl ?_ ?_ | refine ar_region tt_ok (inps := []) rfl ?_ ?_); rotate_left; (try dsimp only [c_Copy7, c_EntR, c_In, c_MOk]); (try refine nrm ?_); rotate_right) | refine ret3 ?_ | refine end3 ?_) | (refine ar_cond rfl trivial ?_ ?_ <;> intro hc_ <;> (try simp only [isNilI, inB, reduceCtorEq, cds] at hc_) <;> (try (first | contradiction | (exfalso; omega) | (exfalso; grind)))) | refine ar_until (And.intro ?_ (wk3 ?_)))
  all_goals (first | refine ar_id ?_ | (try (focus ((try refine nrmO ?_); (repeat' (first | exact True.intro | refine And.intro ?_ ?_)); all_goals (try (intro (hg_ : _ = true); (try simp only [isNilI, inB, reduceCtorEq, cds] at hg_); (repeat' (first | exact True.intro | refine And.intro ?_ ?_)))); all_goals (first | exact ob1 | exact fn_Copy7 m hs | exact fn_EntR m addr _ _ _ hs ha h2 hf hk | exact fn_MOk m hs | exact fn_In _ _ _ | skip)))))
  refine ar_open 13000 f 0 90001 90002 (d := eIntS (m.Frames.Cells.getD f [])) ((m.Frames.Cells.getD f []).map eI) rfl ?_ rfl ?_ rfl rfl rfl ?_
  · first | exact map_at (by omega) | assumption | exact set_at (by (try simp only [List.length_map, List.length_set]); omega) | (rw [List.getElem?_set_ne (by omega)]; exact map_at (by omega))
  · exact ⟨rfl, rfl, by intro e he; simp only [List.mem_map] at he; obtain ⟨_, _, rfl⟩ := he; rfl⟩
  intro A_90001 n_90001 c_90001
  try refine nrm ?_
  refine ar_region (id := 9) tt_ok (inps := [.nest (.lit (Value.slice A_90001 n_90001 c_90001) .nil) [(0, 90002)], .elem (eI ((m.Frames.Cells.getD f []).getD k 0))]) rfl ?_ ?_
  rotate_left
  (try refine nrm ?_)
  refine ar_close 13000 f 0 90001 90002 rfl rfl rfl (set_at ?_) rfl rfl rfl ?_
  · (simp only [List.length_map, List.length_set]; omega)
  try refine nrm ?_
  repeat' (refine ar_id ?_; first | refine st1 ?_ | (first | ((first | refine ar_region tt_ok (inps := []) rfl ?_ ?_); rotate_left; (try refine nrm ?_); rotate_right) | refine ret3 ?_ | refine end3 ?_) | (refine ar_cond rfl trivial ?_ ?_ <;> intro hc_ <;> (try simp only [isNilI, inB, reduceCtorEq, cds] at hc_) <;> (try (first | contradiction | (exfalso; omega)))) | refine ar_until (And.intro ?_ (wk3 ?_)))
  all_goals (first | refine ar_id ?_ | (try (focus ((try refine nrmO ?_); (repeat' (first | exact True.intro | refine And.intro ?_ ?_)); all_goals (try (intro (hg_ : _ = true); (try simp only [isNilI, inB, reduceCtorEq, cds] at hg_); (repeat' (first | exact True.intro | refine And.intro ?_ ?_)))); all_goals (first | exact ob1 | skip)))))
  all_goals (try (focus ((try refine nrmO ?_); (repeat' (first | exact True.intro | refine And.intro ?_ ?_)); all_goals (try (intro (hg_ : _ = true); (try simp only [isNilI, inB, reduceCtorEq, cds] at hg_); (repeat' (first | exact True.intro | refine And.intro ?_ ?_)))); all_goals (first | exact ob1 | skip))))
  · have hset : ((m.Frames.Cells.getD f []).map eI).set k (dPut (eI ((m.Frames.Cells.getD f []).getD k 0)) 0 (D.lit (.int .i64 v) .nil)) = ((m.Frames.Cells.getD f []).set k v).map eI := List.map_set.symm
    rw [List.set_set, hset]
    exact (congrArg (List.set (m.Frames.Cells.map eIntS) f) (show _ = eIntS ((m.Frames.Cells.getD f []).set k v) from rfl)).trans List.map_set.symm
  · rfl
  · rfl
end Eng
end Go.Proofs.YtabnglcabpijfaaDoor
namespace Go.Proofs.YtabnglcabpijfaaDoor
open Go.RowKit
set_option linter.unusedVariables false
set_option linter.unusedSimpArgs false
set_option maxRecDepth 100000
namespace Eng
open Tr
def nF (x : GFrames) : Nat := (x.Cells.length + cntII x.Cells) + x.Used.length
def cF (x : GFrames) : Nat := cntII x.Cells + x.Used.length
structure smF (x : GFrames) : Prop where
  hCells : x.Cells.length ≤ 1048576 ∧ ∀ r ∈ x.Cells, r.length ≤ 1048576
  hUsed : x.Used.length ≤ 1048576
structure mxF (x : GFrames) : Prop where
  hCells : x.Cells.length ≤ 9223372036854775807 ∧ ∀ r ∈ x.Cells, r.length ≤ 9223372036854775807
  hUsed : x.Used.length ≤ 9223372036854775807
theorem F_sm {x : GFrames} (h : nF x ≤ 1048576) : smF x := by
  unfold nF at h
  exact ⟨⟨by omega, fun r hr => Nat.le_trans (cntII_mem hr) (by omega)⟩, by omega⟩
theorem F_cn (x : GFrames) : cF x ≤ 2 * nF x := by
  unfold cF nF
  omega
def c_szF (x : GFrames) (a v : Int) : CFD := ⟨29, [.agg [ro 31 1 eIntS x.Cells, ro 4 1 Tr.eB x.Used], (SV.one (.lit (.int .i64 (a))))], [], (TV.sv (.one (.lit (.int .i64 (v))))), [], [], []⟩
theorem fn_szF (x : GFrames) (a v : Int) (hm : mxF x) (ha : 0 ≤ a ∧ a ≤ 1048576) (hv : v = if a - (nF x : Int) < 0 then -1 else a - (nF x : Int)) : Fn Tryd.prog (c_szF x a v) := by
  by_cases h0_ : a - (((x.Cells.length + cntII x.Cells) : Nat) : Int) < 0
  · have hvv : v = -1 := by rw [hv, if_pos (by unfold nF; omega)]
    refine fn_intro tt_ok Tryd.func29 rfl Tryd.call29 Tryd.ntmps29 Tryd.results29 rfl rfl rfl rfl ?_
    intro X ρ0 hb_ hgl_
    dsimp only [c_szF]
    try refine nrm ?_
    rw [hvv]
    repeat' (refine ar_id ?_; first | refine st1 ?_ | (first | ((first | refine ar_region (id := 1) tt_ok (inps := [.call (c_szII x.Cells (a) (-1))]) rfl ?_ ?_ | refine ar_region tt_ok (inps := []) rfl ?_ ?_); rotate_left; (try dsimp only [c_szII]); (try refine nrm ?_); rotate_right) | refine ret3 ?_ | refine end3 ?_) | (refine ar_cond rfl trivial ?_ ?_ <;> intro hc_ <;> (try simp only [isNilI, inB, reduceCtorEq, cds] at hc_) <;> (try (first | contradiction | (exfalso; omega)))) | refine ar_until (And.intro ?_ (wk3 ?_)))
    all_goals (first | refine ar_id ?_ | (try (focus ((try refine nrmO ?_); (repeat' (first | exact True.intro | refine And.intro ?_ ?_)); all_goals (try (intro (hg_ : _ = true); (try simp only [isNilI, inB, reduceCtorEq, cds] at hg_); (repeat' (first | exact True.intro | refine And.intro ?_ ?_)))); all_goals (first | exact ob1 | exact fn_szII _ _ _ hm.hCells.1 hm.hCells.2 (by omega) (by rw [if_pos h0_]) | skip)))))
  · skip
    refine fn_intro tt_ok Tryd.func29 rfl Tryd.call29 Tryd.ntmps29 Tryd.results29 rfl rfl rfl rfl ?_
    intro X ρ0 hb_ hgl_
    dsimp only [c_szF]
    try refine nrm ?_
    repeat' (refine ar_id ?_; first | refine st1 ?_ | (first | ((first | refine ar_region (id := 1) tt_ok (inps := [.call (c_szII x.Cells (a) (a - (((x.Cells.length + cntII x.Cells) : Nat) : Int)))]) rfl ?_ ?_ | refine ar_region (id := 4) tt_ok (inps := [.call (c_szB x.Used (a - (((x.Cells.length + cntII x.Cells) : Nat) : Int)) (v))]) rfl ?_ ?_ | refine ar_region tt_ok (inps := []) rfl ?_ ?_); rotate_left; (try dsimp only [c_szB, c_szII]); (try refine nrm ?_); rotate_right) | refine ret3 ?_ | refine end3 ?_) | (refine ar_cond rfl trivial ?_ ?_ <;> intro hc_ <;> (try simp only [isNilI, inB, reduceCtorEq, cds] at hc_) <;> (try (first | contradiction | (exfalso; omega)))) | refine ar_until (And.intro ?_ (wk3 ?_)))
    all_goals (first | refine ar_id ?_ | (try (focus ((try refine nrmO ?_); (repeat' (first | exact True.intro | refine And.intro ?_ ?_)); all_goals (try (intro (hg_ : _ = true); (try simp only [isNilI, inB, reduceCtorEq, cds] at hg_); (repeat' (first | exact True.intro | refine And.intro ?_ ?_)))); all_goals (first | exact ob1 | exact fn_szII _ _ _ hm.hCells.1 hm.hCells.2 (by omega) (by rw [if_neg h0_]) | exact fn_szB _ _ _ hm.hUsed (by omega) (by rw [hv]; unfold nF; first | rfl | (split <;> split <;> omega)) | skip)))))
    all_goals (rw [hv]; unfold nF; split <;> first | rfl | omega | (congr 1; omega))
def c_toF (x : GFrames) : CFD := ⟨35, [.agg [ro 31 1 eIntS x.Cells, ro 4 1 Tr.eB x.Used]], [], .sv (.agg [.hd 0, .hd 1]), [(0, some (.row 31 1 (x.Cells.map eIntS))), (1, some (.row 4 1 (x.Used.map Tr.eB)))], [0, 1], []⟩
theorem fn_toF (x : GFrames) (h : smF x) : Fn Tryd.prog (c_toF x) := by
  refine fn_intro tt_ok Tryd.func35 rfl Tryd.call35 Tryd.ntmps35 Tryd.results35 rfl rfl rfl rfl ?_
  intro X ρ0 hb_ hgl_
  dsimp only [c_toF]
  try refine nrm ?_
  repeat' (refine ar_id ?_; first | refine st1 ?_ | (first | ((first | refine ar_region (id := 2) tt_ok (inps := [.call (c_toII x.Cells)]) rfl ?_ ?_ | refine ar_region (id := 3) tt_ok (inps := [.call (c_toB x.Used)]) rfl ?_ ?_ | refine ar_region tt_ok (inps := []) rfl ?_ ?_); rotate_left; (try dsimp only [c_toB, c_toII]); (try refine nrm ?_); rotate_right) | refine ret3 ?_ | refine end3 ?_) | (refine ar_cond rfl trivial ?_ ?_ <;> intro hc_ <;> (try simp only [isNilI, inB, reduceCtorEq, cds] at hc_) <;> (try (first | contradiction | (exfalso; omega)))) | refine ar_until (And.intro ?_ (wk3 ?_)))
  all_goals (first | refine ar_id ?_ | (try (focus ((try refine nrmO ?_); (repeat' (first | exact True.intro | refine And.intro ?_ ?_)); all_goals (try (intro (hg_ : _ = true); (try simp only [isNilI, inB, reduceCtorEq, cds] at hg_); (repeat' (first | exact True.intro | refine And.intro ?_ ?_)))); all_goals (first | exact ob1 | exact fn_toII _ h.hCells.1 h.hCells.2 | exact fn_toB _ h.hUsed | skip)))))
def c_eqF (x : GFrames) : CFD := ⟨42, [.agg [ro 31 1 eIntS x.Cells, ro 4 1 Tr.eB x.Used], .agg [ro 31 1 eIntS x.Cells, ro 4 1 Tr.eB x.Used]], [], (TV.sv (.one (.lit (.bool (true))))), [], [], []⟩
theorem fn_eqF (x : GFrames) (h : smF x) : Fn Tryd.prog (c_eqF x) := by
  refine fn_intro tt_ok Tryd.func42 rfl Tryd.call42 Tryd.ntmps42 Tryd.results42 rfl rfl rfl rfl ?_
  intro X ρ0 hb_ hgl_
  dsimp only [c_eqF]
  try refine nrm ?_
  repeat' (refine ar_id ?_; first | refine st1 ?_ | (first | ((first | refine ar_region (id := 1) tt_ok (inps := [.call (c_eqII x.Cells)]) rfl ?_ ?_ | refine ar_region (id := 3) tt_ok (inps := [.call (c_eqB x.Used)]) rfl ?_ ?_ | refine ar_region tt_ok (inps := []) rfl ?_ ?_); rotate_left; (try dsimp only [c_eqB, c_eqII]); (try refine nrm ?_); rotate_right) | refine ret3 ?_ | refine end3 ?_) | (refine ar_cond rfl trivial ?_ ?_ <;> intro hc_ <;> (try simp only [isNilI, inB, reduceCtorEq, cds] at hc_) <;> (try (first | contradiction | (exfalso; omega)))) | refine ar_until (And.intro ?_ (wk3 ?_)))
  all_goals (first | refine ar_id ?_ | (try (focus ((try refine nrmO ?_); (repeat' (first | exact True.intro | refine And.intro ?_ ?_)); all_goals (try (intro (hg_ : _ = true); (try simp only [isNilI, inB, reduceCtorEq, cds] at hg_); (repeat' (first | exact True.intro | refine And.intro ?_ ?_)))); all_goals (first | exact ob1 | exact fn_eqII _ h.hCells.1 h.hCells.2 | exact fn_eqB _ h.hUsed | skip)))))
def c_markF (x : GFrames) (k : Nat) : CFD := ⟨44, [.agg [.hd 700, .hd 701], (SV.one (.lit (.int .i64 ((k : Int)))))], [(700, some (.row 31 1 (x.Cells.map eIntS))), (701, some (.row 4 1 (x.Used.map Tr.eB)))], (TV.sv (.one (.lit (.int .i64 (((k + cF x : Nat) : Int)))))), [(700, some (.row 31 1 ((mkII (k) x.Cells).map eIntS))), (701, some (.row 4 1 ((mkB (k + cntII x.Cells) x.Used.length).map Tr.eB)))], [], []⟩
theorem fn_markF (x : GFrames) (k : Nat) (h : smF x) (hk : k + cF x ≤ 100000000) : Fn Tryd.prog (c_markF x k) := by
  unfold cF at hk
  refine fn_intro tt_ok Tryd.func44 rfl Tryd.call44 Tryd.ntmps44 Tryd.results44 rfl rfl rfl rfl ?_
  intro X ρ0 hb_ hgl_
  dsimp only [c_markF]
  try refine nrm ?_
  repeat' (refine ar_id ?_; first | refine st1 ?_ | (first | ((first | refine ar_region (id := 1) tt_ok (inps := [.call (c_markII x.Cells (k))]) rfl ?_ ?_ | refine ar_region (id := 2) tt_ok (inps := [.call (c_markB x.Used (k + cntII x.Cells))]) rfl ?_ ?_ | refine ar_region tt_ok (inps := []) rfl ?_ ?_); rotate_left; (try dsimp only [c_markB, c_markII]); (try refine nrm ?_); rotate_right) | refine ret3 ?_ | refine end3 ?_) | (refine ar_cond rfl trivial ?_ ?_ <;> intro hc_ <;> (try simp only [isNilI, inB, reduceCtorEq, cds] at hc_) <;> (try (first | contradiction | (exfalso; omega)))) | refine ar_until (And.intro ?_ (wk3 ?_)))
  all_goals (first | refine ar_id ?_ | (try (focus ((try refine nrmO ?_); (repeat' (first | exact True.intro | refine And.intro ?_ ?_)); all_goals (try (intro (hg_ : _ = true); (try simp only [isNilI, inB, reduceCtorEq, cds] at hg_); (repeat' (first | exact True.intro | refine And.intro ?_ ?_)))); all_goals (first | exact ob1 | exact fn_markII _ _ h.hCells.1 h.hCells.2 (by omega) | exact fn_markB _ _ h.hUsed (by omega) | skip)))))
  all_goals (unfold cF; first | rfl | (rw [Nat.add_assoc]; done) | (simp only [Nat.add_assoc]; done))
def c_heldF (x : GFrames) (k : Nat) : CFD := ⟨46, [.agg [ro 31 1 eIntS (mkII (k) x.Cells), ro 4 1 Tr.eB (mkB (k + cntII x.Cells) x.Used.length)], (SV.one (.lit (.int .i64 ((k : Int)))))], [], (TV.sv (.one (.lit (.int .i64 (((k + cF x : Nat) : Int)))))), [], [], []⟩
theorem fn_heldF (x : GFrames) (k : Nat) (h : smF x) (hk : k + cF x ≤ 100000000) : Fn Tryd.prog (c_heldF x k) := by
  unfold cF at hk
  refine fn_intro tt_ok Tryd.func46 rfl Tryd.call46 Tryd.ntmps46 Tryd.results46 rfl rfl rfl rfl ?_
  intro X ρ0 hb_ hgl_
  dsimp only [c_heldF]
  try refine nrm ?_
  repeat' (refine ar_id ?_; first | refine st1 ?_ | (first | ((first | refine ar_region (id := 1) tt_ok (inps := [.call (c_heldII x.Cells (k))]) rfl ?_ ?_ | refine ar_region (id := 4) tt_ok (inps := [.call (c_heldB x.Used.length (k + cntII x.Cells))]) rfl ?_ ?_ | refine ar_region tt_ok (inps := []) rfl ?_ ?_); rotate_left; (try dsimp only [c_heldB, c_heldII]); (try refine nrm ?_); rotate_right) | refine ret3 ?_ | refine end3 ?_) | (refine ar_cond rfl trivial ?_ ?_ <;> intro hc_ <;> (try simp only [isNilI, inB, reduceCtorEq, cds] at hc_) <;> (try (first | contradiction | (exfalso; omega)))) | refine ar_until (And.intro ?_ (wk3 ?_)))
  all_goals (first | refine ar_id ?_ | (try (focus ((try refine nrmO ?_); (repeat' (first | exact True.intro | refine And.intro ?_ ?_)); all_goals (try (intro (hg_ : _ = true); (try simp only [isNilI, inB, reduceCtorEq, cds] at hg_); (repeat' (first | exact True.intro | refine And.intro ?_ ?_)))); all_goals (first | exact ob1 | exact fn_heldII _ _ h.hCells.1 h.hCells.2 (by omega) | exact fn_heldB _ _ h.hUsed (by omega) | skip)))))
  all_goals (unfold cF; first | rfl | (rw [Nat.add_assoc]; done) | (simp only [Nat.add_assoc]; done) | omega)
def nT (x : GTable) : Nat := x.Entries.length
def cT (x : GTable) : Nat := 2 * x.Entries.length
structure smT (x : GTable) : Prop where
  hEntries : x.Entries.length ≤ 1048576
structure mxT (x : GTable) : Prop where
  hEntries : x.Entries.length ≤ 9223372036854775807
theorem T_sm {x : GTable} (h : nT x ≤ 1048576) : smT x := by
  unfold nT at h
  exact ⟨by omega⟩
theorem T_cn (x : GTable) : cT x ≤ 2 * nT x := by
  unfold cT nT
  omega
def c_szT (x : GTable) (a v : Int) : CFD := ⟨30, [.agg [ro 110 2 eEntry x.Entries], (SV.one (.lit (.int .i64 (a))))], [], (TV.sv (.one (.lit (.int .i64 (v))))), [], [], []⟩
theorem fn_szT (x : GTable) (a v : Int) (hm : mxT x) (ha : 0 ≤ a ∧ a ≤ 1048576) (hv : v = if a - (nT x : Int) < 0 then -1 else a - (nT x : Int)) : Fn Tryd.prog (c_szT x a v) := by
  refine fn_intro tt_ok Tryd.func30 rfl Tryd.call30 Tryd.ntmps30 Tryd.results30 rfl rfl rfl rfl ?_
  intro X ρ0 hb_ hgl_
  dsimp only [c_szT]
  try refine nrm ?_
  repeat' (refine ar_id ?_; first | refine st1 ?_ | (first | ((first | refine ar_region (id := 1) tt_ok (inps := [.call (c_szES x.Entries (a) (v))]) rfl ?_ ?_ | refine ar_region tt_ok (inps := []) rfl ?_ ?_); rotate_left; (try dsimp only [c_szES]); (try refine nrm ?_); rotate_right) | refine ret3 ?_ | refine end3 ?_) | (refine ar_cond rfl trivial ?_ ?_ <;> intro hc_ <;> (try simp only [isNilI, inB, reduceCtorEq, cds] at hc_) <;> (try (first | contradiction | (exfalso; omega)))) | refine ar_until (And.intro ?_ (wk3 ?_)))
  all_goals (first | refine ar_id ?_ | (try (focus ((try refine nrmO ?_); (repeat' (first | exact True.intro | refine And.intro ?_ ?_)); all_goals (try (intro (hg_ : _ = true); (try simp only [isNilI, inB, reduceCtorEq, cds] at hg_); (repeat' (first | exact True.intro | refine And.intro ?_ ?_)))); all_goals (first | exact ob1 | exact fn_szES _ _ _ hm.hEntries (by omega) (by rw [hv]; unfold nT; first | rfl | (split <;> split <;> omega)) | skip)))))
  all_goals (rw [hv]; unfold nT; split <;> first | rfl | omega | (congr 1; omega))
def c_toT (x : GTable) : CFD := ⟨36, [.agg [ro 110 2 eEntry x.Entries]], [], .sv (.agg [.hd 0]), [(0, some (.row 75 2 (x.Entries.map eEntry)))], [0], []⟩
theorem fn_toT (x : GTable) (h : smT x) : Fn Tryd.prog (c_toT x) := by
  refine fn_intro tt_ok Tryd.func36 rfl Tryd.call36 Tryd.ntmps36 Tryd.results36 rfl rfl rfl rfl ?_
  intro X ρ0 hb_ hgl_
  dsimp only [c_toT]
  try refine nrm ?_
  repeat' (refine ar_id ?_; first | refine st1 ?_ | (first | ((first | refine ar_region (id := 2) tt_ok (inps := [.call (c_toES x.Entries)]) rfl ?_ ?_ | refine ar_region tt_ok (inps := []) rfl ?_ ?_); rotate_left; (try dsimp only [c_toES]); (try refine nrm ?_); rotate_right) | refine ret3 ?_ | refine end3 ?_) | (refine ar_cond rfl trivial ?_ ?_ <;> intro hc_ <;> (try simp only [isNilI, inB, reduceCtorEq, cds] at hc_) <;> (try (first | contradiction | (exfalso; omega)))) | refine ar_until (And.intro ?_ (wk3 ?_)))
  all_goals (first | refine ar_id ?_ | (try (focus ((try refine nrmO ?_); (repeat' (first | exact True.intro | refine And.intro ?_ ?_)); all_goals (try (intro (hg_ : _ = true); (try simp only [isNilI, inB, reduceCtorEq, cds] at hg_); (repeat' (first | exact True.intro | refine And.intro ?_ ?_)))); all_goals (first | exact ob1 | exact fn_toES _ h.hEntries | skip)))))
def c_eqT (x : GTable) : CFD := ⟨43, [.agg [ro 75 2 eEntry x.Entries], .agg [ro 75 2 eEntry x.Entries]], [], (TV.sv (.one (.lit (.bool (true))))), [], [], []⟩
theorem fn_eqT (x : GTable) (h : smT x) : Fn Tryd.prog (c_eqT x) := by
  refine fn_intro tt_ok Tryd.func43 rfl Tryd.call43 Tryd.ntmps43 Tryd.results43 rfl rfl rfl rfl ?_
  intro X ρ0 hb_ hgl_
  dsimp only [c_eqT]
  try refine nrm ?_
  repeat' (refine ar_id ?_; first | refine st1 ?_ | (first | ((first | refine ar_region (id := 1) tt_ok (inps := [.call (c_eqES x.Entries)]) rfl ?_ ?_ | refine ar_region tt_ok (inps := []) rfl ?_ ?_); rotate_left; (try dsimp only [c_eqES]); (try refine nrm ?_); rotate_right) | refine ret3 ?_ | refine end3 ?_) | (refine ar_cond rfl trivial ?_ ?_ <;> intro hc_ <;> (try simp only [isNilI, inB, reduceCtorEq, cds] at hc_) <;> (try (first | contradiction | (exfalso; omega)))) | refine ar_until (And.intro ?_ (wk3 ?_)))
  all_goals (first | refine ar_id ?_ | (try (focus ((try refine nrmO ?_); (repeat' (first | exact True.intro | refine And.intro ?_ ?_)); all_goals (try (intro (hg_ : _ = true); (try simp only [isNilI, inB, reduceCtorEq, cds] at hg_); (repeat' (first | exact True.intro | refine And.intro ?_ ?_)))); all_goals (first | exact ob1 | exact fn_eqES _ h.hEntries | skip)))))
def c_markT (x : GTable) (k : Nat) : CFD := ⟨45, [.agg [.hd 700], (SV.one (.lit (.int .i64 ((k : Int)))))], [(700, some (.row 75 2 (x.Entries.map eEntry)))], (TV.sv (.one (.lit (.int .i64 (((k + cT x : Nat) : Int)))))), [(700, some (.row 75 2 ((mkE (k) x.Entries.length).map eEntry)))], [], []⟩
theorem fn_markT (x : GTable) (k : Nat) (h : smT x) (hk : k + cT x ≤ 100000000) : Fn Tryd.prog (c_markT x k) := by
  unfold cT at hk
  refine fn_intro tt_ok Tryd.func45 rfl Tryd.call45 Tryd.ntmps45 Tryd.results45 rfl rfl rfl rfl ?_
  intro X ρ0 hb_ hgl_
  dsimp only [c_markT]
  try refine nrm ?_
  repeat' (refine ar_id ?_; first | refine st1 ?_ | (first | ((first | refine ar_region (id := 1) tt_ok (inps := [.call (c_markES x.Entries (k))]) rfl ?_ ?_ | refine ar_region tt_ok (inps := []) rfl ?_ ?_); rotate_left; (try dsimp only [c_markES]); (try refine nrm ?_); rotate_right) | refine ret3 ?_ | refine end3 ?_) | (refine ar_cond rfl trivial ?_ ?_ <;> intro hc_ <;> (try simp only [isNilI, inB, reduceCtorEq, cds] at hc_) <;> (try (first | contradiction | (exfalso; omega)))) | refine ar_until (And.intro ?_ (wk3 ?_)))
  all_goals (first | refine ar_id ?_ | (try (focus ((try refine nrmO ?_); (repeat' (first | exact True.intro | refine And.intro ?_ ?_)); all_goals (try (intro (hg_ : _ = true); (try simp only [isNilI, inB, reduceCtorEq, cds] at hg_); (repeat' (first | exact True.intro | refine And.intro ?_ ?_)))); all_goals (first | exact ob1 | exact fn_markES _ _ h.hEntries (by omega) | skip)))))
  all_goals (unfold cT; first | rfl | (rw [Nat.add_assoc]; done) | (simp only [Nat.add_assoc]; done))
def c_heldT (x : GTable) (k : Nat) : CFD := ⟨47, [.agg [ro 75 2 eEntry (mkE (k) x.Entries.length)], (SV.one (.lit (.int .i64 ((k : Int)))))], [], (TV.sv (.one (.lit (.int .i64 (((k + cT x : Nat) : Int)))))), [], [], []⟩
theorem fn_heldT (x : GTable) (k : Nat) (h : smT x) (hk : k + cT x ≤ 100000000) : Fn Tryd.prog (c_heldT x k) := by
  unfold cT at hk
  refine fn_intro tt_ok Tryd.func47 rfl Tryd.call47 Tryd.ntmps47 Tryd.results47 rfl rfl rfl rfl ?_
  intro X ρ0 hb_ hgl_
  dsimp only [c_heldT]
  try refine nrm ?_
  repeat' (refine ar_id ?_; first | refine st1 ?_ | (first | ((first | refine ar_region (id := 1) tt_ok (inps := [.call (c_heldES x.Entries.length (k))]) rfl ?_ ?_ | refine ar_region tt_ok (inps := []) rfl ?_ ?_); rotate_left; (try dsimp only [c_heldES]); (try refine nrm ?_); rotate_right) | refine ret3 ?_ | refine end3 ?_) | (refine ar_cond rfl trivial ?_ ?_ <;> intro hc_ <;> (try simp only [isNilI, inB, reduceCtorEq, cds] at hc_) <;> (try (first | contradiction | (exfalso; omega)))) | refine ar_until (And.intro ?_ (wk3 ?_)))
  all_goals (first | refine ar_id ?_ | (try (focus ((try refine nrmO ?_); (repeat' (first | exact True.intro | refine And.intro ?_ ?_)); all_goals (try (intro (hg_ : _ = true); (try simp only [isNilI, inB, reduceCtorEq, cds] at hg_); (repeat' (first | exact True.intro | refine And.intro ?_ ?_)))); all_goals (first | exact ob1 | exact fn_heldES _ _ h.hEntries (by omega) | skip)))))
  all_goals (unfold cT; first | rfl | (rw [Nat.add_assoc]; done) | (simp only [Nat.add_assoc]; done) | omega)
def nM (x : GMachine) : Nat := nF x.Frames + nT x.Table
def cM (x : GMachine) : Nat := cF x.Frames + cT x.Table
structure smM (x : GMachine) : Prop where
  hFrames : smF x.Frames
  hTable : smT x.Table
structure mxM (x : GMachine) : Prop where
  hFrames : mxF x.Frames
  hTable : mxT x.Table
theorem M_sm {x : GMachine} (h : nM x ≤ 1048576) : smM x := by
  unfold nM at h
  exact ⟨F_sm (by omega), T_sm (by omega)⟩
theorem M_cn (x : GMachine) : cM x ≤ 2 * nM x := by
  unfold cM nM
  have h_Frames := F_cn x.Frames
  have h_Table := T_cn x.Table
  omega
def c_szM (x : GMachine) (a v : Int) : CFD := ⟨13, [.agg [ro 31 1 eIntS x.Frames.Cells, ro 4 1 Tr.eB x.Frames.Used, ro 110 2 eEntry x.Table.Entries], (SV.one (.lit (.int .i64 (a))))], [], (TV.sv (.one (.lit (.int .i64 (v))))), [], [], []⟩
theorem fn_szM (x : GMachine) (a v : Int) (hm : mxM x) (ha : 0 ≤ a ∧ a ≤ 1048576) (hv : v = if a - (nM x : Int) < 0 then -1 else a - (nM x : Int)) : Fn Tryd.prog (c_szM x a v) := by
  by_cases h0_ : a - ((nF x.Frames : Nat) : Int) < 0
  · have hvv : v = -1 := by rw [hv, if_pos (by unfold nM; omega)]
    refine fn_intro tt_ok Tryd.func13 rfl Tryd.call13 Tryd.ntmps13 Tryd.results13 rfl rfl rfl rfl ?_
    intro X ρ0 hb_ hgl_
    dsimp only [c_szM]
    try refine nrm ?_
    rw [hvv]
    repeat' (refine ar_id ?_; first | refine st1 ?_ | (first | ((first | refine ar_region (id := 1) tt_ok (inps := [.call (c_szF x.Frames (a) (-1))]) rfl ?_ ?_ | refine ar_region tt_ok (inps := []) rfl ?_ ?_); rotate_left; (try dsimp only [c_szF]); (try refine nrm ?_); rotate_right) | refine ret3 ?_ | refine end3 ?_) | (refine ar_cond rfl trivial ?_ ?_ <;> intro hc_ <;> (try simp only [isNilI, inB, reduceCtorEq, cds] at hc_) <;> (try (first | contradiction | (exfalso; omega)))) | refine ar_until (And.intro ?_ (wk3 ?_)))
    all_goals (first | refine ar_id ?_ | (try (focus ((try refine nrmO ?_); (repeat' (first | exact True.intro | refine And.intro ?_ ?_)); all_goals (try (intro (hg_ : _ = true); (try simp only [isNilI, inB, reduceCtorEq, cds] at hg_); (repeat' (first | exact True.intro | refine And.intro ?_ ?_)))); all_goals (first | exact ob1 | exact fn_szF _ _ _ hm.hFrames (by omega) (by rw [if_pos h0_]) | skip)))))
  · skip
    refine fn_intro tt_ok Tryd.func13 rfl Tryd.call13 Tryd.ntmps13 Tryd.results13 rfl rfl rfl rfl ?_
    intro X ρ0 hb_ hgl_
    dsimp only [c_szM]
    try refine nrm ?_
    repeat' (refine ar_id ?_; first | refine st1 ?_ | (first | ((first | refine ar_region (id := 1) tt_ok (inps := [.call (c_szF x.Frames (a) (a - ((nF x.Frames : Nat) : Int)))]) rfl ?_ ?_ | refine ar_region (id := 4) tt_ok (inps := [.call (c_szT x.Table (a - ((nF x.Frames : Nat) : Int)) (v))]) rfl ?_ ?_ | refine ar_region tt_ok (inps := []) rfl ?_ ?_); rotate_left; (try dsimp only [c_szF, c_szT]); (try refine nrm ?_); rotate_right) | refine ret3 ?_ | refine end3 ?_) | (refine ar_cond rfl trivial ?_ ?_ <;> intro hc_ <;> (try simp only [isNilI, inB, reduceCtorEq, cds] at hc_) <;> (try (first | contradiction | (exfalso; omega)))) | refine ar_until (And.intro ?_ (wk3 ?_)))
    all_goals (first | refine ar_id ?_ | (try (focus ((try refine nrmO ?_); (repeat' (first | exact True.intro | refine And.intro ?_ ?_)); all_goals (try (intro (hg_ : _ = true); (try simp only [isNilI, inB, reduceCtorEq, cds] at hg_); (repeat' (first | exact True.intro | refine And.intro ?_ ?_)))); all_goals (first | exact ob1 | exact fn_szF _ _ _ hm.hFrames (by omega) (by rw [if_neg h0_]) | exact fn_szT _ _ _ hm.hTable (by omega) (by rw [hv]; unfold nM; first | rfl | (split <;> split <;> omega)) | skip)))))
    all_goals (rw [hv]; unfold nM; split <;> first | rfl | omega | (congr 1; omega))
def c_toM (x : GMachine) : CFD := ⟨18, [.agg [ro 31 1 eIntS x.Frames.Cells, ro 4 1 Tr.eB x.Frames.Used, ro 110 2 eEntry x.Table.Entries]], [], .sv (.agg [.hd 0, .hd 1, .hd 2]), [(0, some (.row 31 1 (x.Frames.Cells.map eIntS))), (1, some (.row 4 1 (x.Frames.Used.map Tr.eB))), (2, some (.row 75 2 (x.Table.Entries.map eEntry)))], [0, 1, 2], []⟩
theorem fn_toM (x : GMachine) (h : smM x) : Fn Tryd.prog (c_toM x) := by
  refine fn_intro tt_ok Tryd.func18 rfl Tryd.call18 Tryd.ntmps18 Tryd.results18 rfl rfl rfl rfl ?_
  intro X ρ0 hb_ hgl_
  dsimp only [c_toM]
  try refine nrm ?_
  repeat' (refine ar_id ?_; first | refine st1 ?_ | (first | ((first | refine ar_region (id := 2) tt_ok (inps := [.call (c_toF x.Frames)]) rfl ?_ ?_ | refine ar_region (id := 3) tt_ok (inps := [.call (c_toT x.Table)]) rfl ?_ ?_ | refine ar_region tt_ok (inps := []) rfl ?_ ?_); rotate_left; (try dsimp only [c_toF, c_toT]); (try refine nrm ?_); rotate_right) | refine ret3 ?_ | refine end3 ?_) | (refine ar_cond rfl trivial ?_ ?_ <;> intro hc_ <;> (try simp only [isNilI, inB, reduceCtorEq, cds] at hc_) <;> (try (first | contradiction | (exfalso; omega)))) | refine ar_until (And.intro ?_ (wk3 ?_)))
  all_goals (first | refine ar_id ?_ | (try (focus ((try refine nrmO ?_); (repeat' (first | exact True.intro | refine And.intro ?_ ?_)); all_goals (try (intro (hg_ : _ = true); (try simp only [isNilI, inB, reduceCtorEq, cds] at hg_); (repeat' (first | exact True.intro | refine And.intro ?_ ?_)))); all_goals (first | exact ob1 | exact fn_toF _ h.hFrames | exact fn_toT _ h.hTable | skip)))))
def c_eqM (x : GMachine) : CFD := ⟨23, [.agg [ro 31 1 eIntS x.Frames.Cells, ro 4 1 Tr.eB x.Frames.Used, ro 75 2 eEntry x.Table.Entries], .agg [ro 31 1 eIntS x.Frames.Cells, ro 4 1 Tr.eB x.Frames.Used, ro 75 2 eEntry x.Table.Entries]], [], (TV.sv (.one (.lit (.bool (true))))), [], [], []⟩
theorem fn_eqM (x : GMachine) (h : smM x) : Fn Tryd.prog (c_eqM x) := by
  refine fn_intro tt_ok Tryd.func23 rfl Tryd.call23 Tryd.ntmps23 Tryd.results23 rfl rfl rfl rfl ?_
  intro X ρ0 hb_ hgl_
  dsimp only [c_eqM]
  try refine nrm ?_
  repeat' (refine ar_id ?_; first | refine st1 ?_ | (first | ((first | refine ar_region (id := 1) tt_ok (inps := [.call (c_eqF x.Frames)]) rfl ?_ ?_ | refine ar_region (id := 3) tt_ok (inps := [.call (c_eqT x.Table)]) rfl ?_ ?_ | refine ar_region tt_ok (inps := []) rfl ?_ ?_); rotate_left; (try dsimp only [c_eqF, c_eqT]); (try refine nrm ?_); rotate_right) | refine ret3 ?_ | refine end3 ?_) | (refine ar_cond rfl trivial ?_ ?_ <;> intro hc_ <;> (try simp only [isNilI, inB, reduceCtorEq, cds] at hc_) <;> (try (first | contradiction | (exfalso; omega)))) | refine ar_until (And.intro ?_ (wk3 ?_)))
  all_goals (first | refine ar_id ?_ | (try (focus ((try refine nrmO ?_); (repeat' (first | exact True.intro | refine And.intro ?_ ?_)); all_goals (try (intro (hg_ : _ = true); (try simp only [isNilI, inB, reduceCtorEq, cds] at hg_); (repeat' (first | exact True.intro | refine And.intro ?_ ?_)))); all_goals (first | exact ob1 | exact fn_eqF _ h.hFrames | exact fn_eqT _ h.hTable | skip)))))
def c_markM (x : GMachine) (k : Nat) : CFD := ⟨25, [.agg [.hd 700, .hd 701, .hd 702], (SV.one (.lit (.int .i64 ((k : Int)))))], [(700, some (.row 31 1 (x.Frames.Cells.map eIntS))), (701, some (.row 4 1 (x.Frames.Used.map Tr.eB))), (702, some (.row 75 2 (x.Table.Entries.map eEntry)))], (TV.sv (.one (.lit (.int .i64 (((k + cM x : Nat) : Int)))))), [(700, some (.row 31 1 ((mkII (k) x.Frames.Cells).map eIntS))), (701, some (.row 4 1 ((mkB (k + cntII x.Frames.Cells) x.Frames.Used.length).map Tr.eB))), (702, some (.row 75 2 ((mkE (k + cF x.Frames) x.Table.Entries.length).map eEntry)))], [], []⟩
theorem fn_markM (x : GMachine) (k : Nat) (h : smM x) (hk : k + cM x ≤ 100000000) : Fn Tryd.prog (c_markM x k) := by
  unfold cM at hk
  refine fn_intro tt_ok Tryd.func25 rfl Tryd.call25 Tryd.ntmps25 Tryd.results25 rfl rfl rfl rfl ?_
  intro X ρ0 hb_ hgl_
  dsimp only [c_markM]
  try refine nrm ?_
  repeat' (refine ar_id ?_; first | refine st1 ?_ | (first | ((first | refine ar_region (id := 1) tt_ok (inps := [.call (c_markF x.Frames (k))]) rfl ?_ ?_ | refine ar_region (id := 2) tt_ok (inps := [.call (c_markT x.Table (k + cF x.Frames))]) rfl ?_ ?_ | refine ar_region tt_ok (inps := []) rfl ?_ ?_); rotate_left; (try dsimp only [c_markF, c_markT]); (try refine nrm ?_); rotate_right) | refine ret3 ?_ | refine end3 ?_) | (refine ar_cond rfl trivial ?_ ?_ <;> intro hc_ <;> (try simp only [isNilI, inB, reduceCtorEq, cds] at hc_) <;> (try (first | contradiction | (exfalso; omega)))) | refine ar_until (And.intro ?_ (wk3 ?_)))
  all_goals (first | refine ar_id ?_ | (try (focus ((try refine nrmO ?_); (repeat' (first | exact True.intro | refine And.intro ?_ ?_)); all_goals (try (intro (hg_ : _ = true); (try simp only [isNilI, inB, reduceCtorEq, cds] at hg_); (repeat' (first | exact True.intro | refine And.intro ?_ ?_)))); all_goals (first | exact ob1 | exact fn_markF _ _ h.hFrames (by omega) | exact fn_markT _ _ h.hTable (by omega) | skip)))))
  all_goals (unfold cM; first | rfl | (rw [Nat.add_assoc]; done) | (simp only [Nat.add_assoc]; done))
def c_heldM (x : GMachine) (k : Nat) : CFD := ⟨27, [.agg [ro 31 1 eIntS (mkII (k) x.Frames.Cells), ro 4 1 Tr.eB (mkB (k + cntII x.Frames.Cells) x.Frames.Used.length), ro 75 2 eEntry (mkE (k + cF x.Frames) x.Table.Entries.length)], (SV.one (.lit (.int .i64 ((k : Int)))))], [], (TV.sv (.one (.lit (.int .i64 (((k + cM x : Nat) : Int)))))), [], [], []⟩
theorem fn_heldM (x : GMachine) (k : Nat) (h : smM x) (hk : k + cM x ≤ 100000000) : Fn Tryd.prog (c_heldM x k) := by
  unfold cM at hk
  refine fn_intro tt_ok Tryd.func27 rfl Tryd.call27 Tryd.ntmps27 Tryd.results27 rfl rfl rfl rfl ?_
  intro X ρ0 hb_ hgl_
  dsimp only [c_heldM]
  try refine nrm ?_
  repeat' (refine ar_id ?_; first | refine st1 ?_ | (first | ((first | refine ar_region (id := 1) tt_ok (inps := [.call (c_heldF x.Frames (k))]) rfl ?_ ?_ | refine ar_region (id := 4) tt_ok (inps := [.call (c_heldT x.Table (k + cF x.Frames))]) rfl ?_ ?_ | refine ar_region tt_ok (inps := []) rfl ?_ ?_); rotate_left; (try dsimp only [c_heldF, c_heldT]); (try refine nrm ?_); rotate_right) | refine ret3 ?_ | refine end3 ?_) | (refine ar_cond rfl trivial ?_ ?_ <;> intro hc_ <;> (try simp only [isNilI, inB, reduceCtorEq, cds] at hc_) <;> (try (first | contradiction | (exfalso; omega)))) | refine ar_until (And.intro ?_ (wk3 ?_)))
  all_goals (first | refine ar_id ?_ | (try (focus ((try refine nrmO ?_); (repeat' (first | exact True.intro | refine And.intro ?_ ?_)); all_goals (try (intro (hg_ : _ = true); (try simp only [isNilI, inB, reduceCtorEq, cds] at hg_); (repeat' (first | exact True.intro | refine And.intro ?_ ?_)))); all_goals (first | exact ob1 | exact fn_heldF _ _ h.hFrames (by omega) | exact fn_heldT _ _ h.hTable (by omega) | skip)))))
  all_goals (unfold cM; first | rfl | (rw [Nat.add_assoc]; done) | (simp only [Nat.add_assoc]; done) | omega)
def nK (x : GKernel) : Nat := nM x.Machine + x.Refuse.length
def cK (x : GKernel) : Nat := cM x.Machine + x.Refuse.length
structure smK (x : GKernel) : Prop where
  hMachine : smM x.Machine
  hRefuse : x.Refuse.length ≤ 1048576
structure mxK (x : GKernel) : Prop where
  hMachine : mxM x.Machine
  hRefuse : x.Refuse.length ≤ 9223372036854775807
theorem K_sm {x : GKernel} (h : nK x ≤ 1048576) : smK x := by
  unfold nK at h
  exact ⟨M_sm (by omega), by omega⟩
theorem K_cn (x : GKernel) : cK x ≤ 2 * nK x := by
  unfold cK nK
  have h_Machine := M_cn x.Machine
  omega
def c_szK (x : GKernel) (a v : Int) : CFD := ⟨4, [.agg [ro 31 1 eIntS x.Machine.Frames.Cells, ro 4 1 Tr.eB x.Machine.Frames.Used, ro 110 2 eEntry x.Machine.Table.Entries, (CV.lit (.int .i64 (x.Calls))), ro 3 1 Tr.eI x.Refuse], (SV.one (.lit (.int .i64 (a))))], [], (TV.sv (.one (.lit (.int .i64 (v))))), [], [], []⟩
theorem fn_szK (x : GKernel) (a v : Int) (hm : mxK x) (ha : 0 ≤ a ∧ a ≤ 1048576) (hv : v = if a - (nK x : Int) < 0 then -1 else a - (nK x : Int)) : Fn Tryd.prog (c_szK x a v) := by
  by_cases h0_ : a - ((nM x.Machine : Nat) : Int) < 0
  · have hvv : v = -1 := by rw [hv, if_pos (by unfold nK; omega)]
    refine fn_intro tt_ok Tryd.func4 rfl Tryd.call4 Tryd.ntmps4 Tryd.results4 rfl rfl rfl rfl ?_
    intro X ρ0 hb_ hgl_
    dsimp only [c_szK]
    try refine nrm ?_
    rw [hvv]
    repeat' (refine ar_id ?_; first | refine st1 ?_ | (first | ((first | refine ar_region (id := 1) tt_ok (inps := [.call (c_szM x.Machine (a) (-1))]) rfl ?_ ?_ | refine ar_region tt_ok (inps := []) rfl ?_ ?_); rotate_left; (try dsimp only [c_szM]); (try refine nrm ?_); rotate_right) | refine ret3 ?_ | refine end3 ?_) | (refine ar_cond rfl trivial ?_ ?_ <;> intro hc_ <;> (try simp only [isNilI, inB, reduceCtorEq, cds] at hc_) <;> (try (first | contradiction | (exfalso; omega)))) | refine ar_until (And.intro ?_ (wk3 ?_)))
    all_goals (first | refine ar_id ?_ | (try (focus ((try refine nrmO ?_); (repeat' (first | exact True.intro | refine And.intro ?_ ?_)); all_goals (try (intro (hg_ : _ = true); (try simp only [isNilI, inB, reduceCtorEq, cds] at hg_); (repeat' (first | exact True.intro | refine And.intro ?_ ?_)))); all_goals (first | exact ob1 | exact fn_szM _ _ _ hm.hMachine (by omega) (by rw [if_pos h0_]) | skip)))))
  · skip
    refine fn_intro tt_ok Tryd.func4 rfl Tryd.call4 Tryd.ntmps4 Tryd.results4 rfl rfl rfl rfl ?_
    intro X ρ0 hb_ hgl_
    dsimp only [c_szK]
    try refine nrm ?_
    repeat' (refine ar_id ?_; first | refine st1 ?_ | (first | ((first | refine ar_region (id := 1) tt_ok (inps := [.call (c_szM x.Machine (a) (a - ((nM x.Machine : Nat) : Int)))]) rfl ?_ ?_ | refine ar_region (id := 4) tt_ok (inps := [.call (c_szI x.Refuse (a - ((nM x.Machine : Nat) : Int)) (v))]) rfl ?_ ?_ | refine ar_region tt_ok (inps := []) rfl ?_ ?_); rotate_left; (try dsimp only [c_szI, c_szM]); (try refine nrm ?_); rotate_right) | refine ret3 ?_ | refine end3 ?_) | (refine ar_cond rfl trivial ?_ ?_ <;> intro hc_ <;> (try simp only [isNilI, inB, reduceCtorEq, cds] at hc_) <;> (try (first | contradiction | (exfalso; omega)))) | refine ar_until (And.intro ?_ (wk3 ?_)))
    all_goals (first | refine ar_id ?_ | (try (focus ((try refine nrmO ?_); (repeat' (first | exact True.intro | refine And.intro ?_ ?_)); all_goals (try (intro (hg_ : _ = true); (try simp only [isNilI, inB, reduceCtorEq, cds] at hg_); (repeat' (first | exact True.intro | refine And.intro ?_ ?_)))); all_goals (first | exact ob1 | exact fn_szM _ _ _ hm.hMachine (by omega) (by rw [if_neg h0_]) | exact fn_szI _ _ _ hm.hRefuse (by omega) (by rw [hv]; unfold nK; first | rfl | (split <;> split <;> omega)) | skip)))))
    all_goals (rw [hv]; unfold nK; split <;> first | rfl | omega | (congr 1; omega))
def c_toK (x : GKernel) : CFD := ⟨6, [.agg [ro 31 1 eIntS x.Machine.Frames.Cells, ro 4 1 Tr.eB x.Machine.Frames.Used, ro 110 2 eEntry x.Machine.Table.Entries, (CV.lit (.int .i64 (x.Calls))), ro 3 1 Tr.eI x.Refuse]], [], .sv (.agg [.hd 0, .hd 1, .hd 2, (CV.lit (.int .i64 (x.Calls))), .hd 3]), [(0, some (.row 31 1 (x.Machine.Frames.Cells.map eIntS))), (1, some (.row 4 1 (x.Machine.Frames.Used.map Tr.eB))), (2, some (.row 75 2 (x.Machine.Table.Entries.map eEntry))), (3, some (.row 3 1 (x.Refuse.map Tr.eI)))], [0, 1, 2, 3], []⟩
theorem fn_toK (x : GKernel) (h : smK x) : Fn Tryd.prog (c_toK x) := by
  refine fn_intro tt_ok Tryd.func6 rfl Tryd.call6 Tryd.ntmps6 Tryd.results6 rfl rfl rfl rfl ?_
  intro X ρ0 hb_ hgl_
  dsimp only [c_toK]
  try refine nrm ?_
  repeat' (refine ar_id ?_; first | refine st1 ?_ | (first | ((first | refine ar_region (id := 2) tt_ok (inps := [.call (c_toM x.Machine)]) rfl ?_ ?_ | refine ar_region (id := 4) tt_ok (inps := [.call (c_toI x.Refuse)]) rfl ?_ ?_ | refine ar_region tt_ok (inps := []) rfl ?_ ?_); rotate_left; (try dsimp only [c_toI, c_toM]); (try refine nrm ?_); rotate_right) | refine ret3 ?_ | refine end3 ?_) | (refine ar_cond rfl trivial ?_ ?_ <;> intro hc_ <;> (try simp only [isNilI, inB, reduceCtorEq, cds] at hc_) <;> (try (first | contradiction | (exfalso; omega)))) | refine ar_until (And.intro ?_ (wk3 ?_)))
  all_goals (first | refine ar_id ?_ | (try (focus ((try refine nrmO ?_); (repeat' (first | exact True.intro | refine And.intro ?_ ?_)); all_goals (try (intro (hg_ : _ = true); (try simp only [isNilI, inB, reduceCtorEq, cds] at hg_); (repeat' (first | exact True.intro | refine And.intro ?_ ?_)))); all_goals (first | exact ob1 | exact fn_toM _ h.hMachine | exact fn_toI _ h.hRefuse | skip)))))
def c_eqK (x : GKernel) : CFD := ⟨9, [.agg [ro 31 1 eIntS x.Machine.Frames.Cells, ro 4 1 Tr.eB x.Machine.Frames.Used, ro 75 2 eEntry x.Machine.Table.Entries, (CV.lit (.int .i64 (x.Calls))), ro 3 1 Tr.eI x.Refuse], .agg [ro 31 1 eIntS x.Machine.Frames.Cells, ro 4 1 Tr.eB x.Machine.Frames.Used, ro 75 2 eEntry x.Machine.Table.Entries, (CV.lit (.int .i64 (x.Calls))), ro 3 1 Tr.eI x.Refuse]], [], (TV.sv (.one (.lit (.bool (true))))), [], [], []⟩
theorem fn_eqK (x : GKernel) (h : smK x) : Fn Tryd.prog (c_eqK x) := by
  refine fn_intro tt_ok Tryd.func9 rfl Tryd.call9 Tryd.ntmps9 Tryd.results9 rfl rfl rfl rfl ?_
  intro X ρ0 hb_ hgl_
  dsimp only [c_eqK]
  try refine nrm ?_
  repeat' (refine ar_id ?_; first | refine st1 ?_ | (first | ((first | refine ar_region (id := 1) tt_ok (inps := [.call (c_eqM x.Machine)]) rfl ?_ ?_ | refine ar_region (id := 5) tt_ok (inps := [.call (c_eqI x.Refuse)]) rfl ?_ ?_ | refine ar_region tt_ok (inps := []) rfl ?_ ?_); rotate_left; (try dsimp only [c_eqI, c_eqM]); (try refine nrm ?_); rotate_right) | refine ret3 ?_ | refine end3 ?_) | (refine ar_cond rfl trivial ?_ ?_ <;> intro hc_ <;> (try simp only [isNilI, inB, reduceCtorEq, cds] at hc_) <;> (try (first | contradiction | (exfalso; omega)))) | refine ar_until (And.intro ?_ (wk3 ?_)))
  all_goals (first | refine ar_id ?_ | (try (focus ((try refine nrmO ?_); (repeat' (first | exact True.intro | refine And.intro ?_ ?_)); all_goals (try (intro (hg_ : _ = true); (try simp only [isNilI, inB, reduceCtorEq, cds] at hg_); (repeat' (first | exact True.intro | refine And.intro ?_ ?_)))); all_goals (first | exact ob1 | exact fn_eqM _ h.hMachine | exact fn_eqI _ h.hRefuse | skip)))))
def c_markK (x : GKernel) (k : Nat) : CFD := ⟨11, [.agg [.hd 700, .hd 701, .hd 702, (CV.lit (.int .i64 (x.Calls))), .hd 703], (SV.one (.lit (.int .i64 ((k : Int)))))], [(700, some (.row 31 1 (x.Machine.Frames.Cells.map eIntS))), (701, some (.row 4 1 (x.Machine.Frames.Used.map Tr.eB))), (702, some (.row 75 2 (x.Machine.Table.Entries.map eEntry))), (703, some (.row 3 1 (x.Refuse.map Tr.eI)))], (TV.sv (.one (.lit (.int .i64 (((k + cK x : Nat) : Int)))))), [(700, some (.row 31 1 ((mkII (k) x.Machine.Frames.Cells).map eIntS))), (701, some (.row 4 1 ((mkB (k + cntII x.Machine.Frames.Cells) x.Machine.Frames.Used.length).map Tr.eB))), (702, some (.row 75 2 ((mkE (k + cF x.Machine.Frames) x.Machine.Table.Entries.length).map eEntry))), (703, some (.row 3 1 ((mkI (k + cM x.Machine) x.Refuse.length).map Tr.eI)))], [], []⟩
theorem fn_markK (x : GKernel) (k : Nat) (h : smK x) (hk : k + cK x ≤ 100000000) : Fn Tryd.prog (c_markK x k) := by
  unfold cK at hk
  refine fn_intro tt_ok Tryd.func11 rfl Tryd.call11 Tryd.ntmps11 Tryd.results11 rfl rfl rfl rfl ?_
  intro X ρ0 hb_ hgl_
  dsimp only [c_markK]
  try refine nrm ?_
  repeat' (refine ar_id ?_; first | refine st1 ?_ | (first | ((first | refine ar_region (id := 1) tt_ok (inps := [.call (c_markM x.Machine (k))]) rfl ?_ ?_ | refine ar_region (id := 2) tt_ok (inps := [.call (c_markI x.Refuse (k + cM x.Machine))]) rfl ?_ ?_ | refine ar_region tt_ok (inps := []) rfl ?_ ?_); rotate_left; (try dsimp only [c_markI, c_markM]); (try refine nrm ?_); rotate_right) | refine ret3 ?_ | refine end3 ?_) | (refine ar_cond rfl trivial ?_ ?_ <;> intro hc_ <;> (try simp only [isNilI, inB, reduceCtorEq, cds] at hc_) <;> (try (first | contradiction | (exfalso; omega)))) | refine ar_until (And.intro ?_ (wk3 ?_)))
  all_goals (first | refine ar_id ?_ | (try (focus ((try refine nrmO ?_); (repeat' (first | exact True.intro | refine And.intro ?_ ?_)); all_goals (try (intro (hg_ : _ = true); (try simp only [isNilI, inB, reduceCtorEq, cds] at hg_); (repeat' (first | exact True.intro | refine And.intro ?_ ?_)))); all_goals (first | exact ob1 | exact fn_markM _ _ h.hMachine (by omega) | exact fn_markI _ _ h.hRefuse (by omega) | skip)))))
  all_goals (unfold cK; first | rfl | (rw [Nat.add_assoc]; done) | (simp only [Nat.add_assoc]; done))
def c_heldK (x : GKernel) (k : Nat) : CFD := ⟨12, [.agg [ro 31 1 eIntS (mkII (k) x.Machine.Frames.Cells), ro 4 1 Tr.eB (mkB (k + cntII x.Machine.Frames.Cells) x.Machine.Frames.Used.length), ro 75 2 eEntry (mkE (k + cF x.Machine.Frames) x.Machine.Table.Entries.length), (CV.lit (.int .i64 (x.Calls))), ro 3 1 Tr.eI (mkI (k + cM x.Machine) x.Refuse.length)], (SV.one (.lit (.int .i64 ((k : Int)))))], [], (TV.sv (.one (.lit (.int .i64 (((k + cK x : Nat) : Int)))))), [], [], []⟩
theorem fn_heldK (x : GKernel) (k : Nat) (h : smK x) (hk : k + cK x ≤ 100000000) : Fn Tryd.prog (c_heldK x k) := by
  unfold cK at hk
  refine fn_intro tt_ok Tryd.func12 rfl Tryd.call12 Tryd.ntmps12 Tryd.results12 rfl rfl rfl rfl ?_
  intro X ρ0 hb_ hgl_
  dsimp only [c_heldK]
  try refine nrm ?_
  repeat' (refine ar_id ?_; first | refine st1 ?_ | (first | ((first | refine ar_region (id := 1) tt_ok (inps := [.call (c_heldM x.Machine (k))]) rfl ?_ ?_ | refine ar_region (id := 4) tt_ok (inps := [.call (c_heldI x.Refuse.length (k + cM x.Machine))]) rfl ?_ ?_ | refine ar_region tt_ok (inps := []) rfl ?_ ?_); rotate_left; (try dsimp only [c_heldI, c_heldM]); (try refine nrm ?_); rotate_right) | refine ret3 ?_ | refine end3 ?_) | (refine ar_cond rfl trivial ?_ ?_ <;> intro hc_ <;> (try simp only [isNilI, inB, reduceCtorEq, cds] at hc_) <;> (try (first | contradiction | (exfalso; omega)))) | refine ar_until (And.intro ?_ (wk3 ?_)))
  all_goals (first | refine ar_id ?_ | (try (focus ((try refine nrmO ?_); (repeat' (first | exact True.intro | refine And.intro ?_ ?_)); all_goals (try (intro (hg_ : _ = true); (try simp only [isNilI, inB, reduceCtorEq, cds] at hg_); (repeat' (first | exact True.intro | refine And.intro ?_ ?_)))); all_goals (first | exact ob1 | exact fn_heldM _ _ h.hMachine (by omega) | exact fn_heldI _ _ h.hRefuse (by omega) | skip)))))
  all_goals (unfold cK; first | rfl | (rw [Nat.add_assoc]; done) | (simp only [Nat.add_assoc]; done) | omega)
end Eng
end Go.Proofs.YtabnglcabpijfaaDoor
namespace Go.Proofs.YtabnglcabpijfaaDoor
open Go.RowKit
namespace Tr
def noW : GWriter := ⟨0, 0, false, 0⟩
end Tr
end Go.Proofs.YtabnglcabpijfaaDoor
namespace Go.Proofs.YtabnglcabpijfaaDoor
open Go.RowKit
set_option linter.unusedVariables false
set_option linter.unusedSimpArgs false
set_option maxRecDepth 100000
namespace Eng
open Tr
def c_toW (e : GWriter) : CFD := ⟨7, [.agg [(CV.lit (.int .i64 (e.Addr))), (CV.lit (.int .i64 (e.Value))), (CV.lit (.bool (e.Done))), (CV.lit (.int .i64 (e.Waits)))]], [], .sv (.agg [(CV.lit (.int .i64 (e.Addr))), (CV.lit (.int .i64 (e.Value))), (CV.lit (.bool (e.Done))), (CV.lit (.int .i64 (e.Waits)))]), [], [], []⟩
theorem fn_toW (e : GWriter) : Fn Tryd.prog (c_toW e) := by
  refine fn_intro tt_ok Tryd.func7 rfl Tryd.call7 Tryd.ntmps7 Tryd.results7 rfl rfl rfl rfl ?_
  intro X ρ0 hb_ hgl_
  dsimp only [c_toW]
  try refine nrm ?_
  repeat' (refine ar_id ?_; first | refine st1 ?_ | (first | ((first | refine ar_region tt_ok (inps := []) rfl ?_ ?_); rotate_left; (try refine nrm ?_); rotate_right) | refine ret3 ?_ | refine end3 ?_) | (refine ar_cond rfl trivial ?_ ?_ <;> intro hc_ <;> (try simp only [isNilI, inB, reduceCtorEq, cds] at hc_) <;> (try (first | contradiction | (exfalso; omega)))) | refine ar_until (And.intro ?_ (wk3 ?_)))
  all_goals (first | refine ar_id ?_ | (try (focus ((try refine nrmO ?_); (repeat' (first | exact True.intro | refine And.intro ?_ ?_)); all_goals (try (intro (hg_ : _ = true); (try simp only [isNilI, inB, reduceCtorEq, cds] at hg_); (repeat' (first | exact True.intro | refine And.intro ?_ ?_)))); all_goals (first | exact ob1 | skip)))))
def c_eqW (e : GWriter) : CFD := ⟨10, [.agg [(CV.lit (.int .i64 (e.Addr))), (CV.lit (.int .i64 (e.Value))), (CV.lit (.bool (e.Done))), (CV.lit (.int .i64 (e.Waits)))], .agg [(CV.lit (.int .i64 (e.Addr))), (CV.lit (.int .i64 (e.Value))), (CV.lit (.bool (e.Done))), (CV.lit (.int .i64 (e.Waits)))]], [], (TV.sv (.one (.lit (.bool (true))))), [], [], []⟩
theorem fn_eqW (e : GWriter) : Fn Tryd.prog (c_eqW e) := by
  refine fn_intro tt_ok Tryd.func10 rfl Tryd.call10 Tryd.ntmps10 Tryd.results10 rfl rfl rfl rfl ?_
  intro X ρ0 hb_ hgl_
  dsimp only [c_eqW]
  try refine nrm ?_
  repeat' (refine ar_id ?_; first | refine st1 ?_ | (first | ((first | refine ar_region tt_ok (inps := []) rfl ?_ ?_); rotate_left; (try refine nrm ?_); rotate_right) | refine ret3 ?_ | refine end3 ?_) | (refine ar_cond rfl trivial ?_ ?_ <;> intro hc_ <;> (try simp only [isNilI, inB, reduceCtorEq, cds] at hc_) <;> (try (first | contradiction | (exfalso; omega)))) | refine ar_until (And.intro ?_ (wk3 ?_)))
  all_goals (first | refine ar_id ?_ | (try (focus ((try refine nrmO ?_); (repeat' (first | exact True.intro | refine And.intro ?_ ?_)); all_goals (try (intro (hg_ : _ = true); (try simp only [isNilI, inB, reduceCtorEq, cds] at hg_); (repeat' (first | exact True.intro | refine And.intro ?_ ?_)))); all_goals (first | exact ob1 | skip)))))
end Eng
end Go.Proofs.YtabnglcabpijfaaDoor
namespace Go.Proofs.YtabnglcabpijfaaDoor
open Go.RowKit
set_option linter.unusedVariables false
set_option linter.unusedSimpArgs false
set_option maxRecDepth 100000
namespace Eng
open Tr
def c_CloneB (l : List Bool) : CFD := ⟨81, [.one (ro 4 1 Tr.eB l)], [], .sv (.one (.hd 0)), [(0, some (.row 4 1 (l.map Tr.eB)))], [0], []⟩
theorem fn_CloneB (l : List Bool) (hl : l.length ≤ 1048576) : Fn Tryd.prog (c_CloneB l) := by
  refine fn_intro tt_ok Tryd.func81 rfl Tryd.call81 Tryd.ntmps81 Tryd.results81 rfl rfl rfl rfl ?_
  intro X ρ0 hb_ hgl_
  dsimp only [c_CloneB]
  try refine nrm ?_
  repeat' (refine ar_id ?_; first | refine st1 ?_ | (first | ((first | refine ar_region tt_ok (inps := []) rfl ?_ ?_); rotate_left; (try refine nrm ?_); rotate_right) | refine ret3 ?_ | refine end3 ?_) | (refine ar_cond rfl trivial ?_ ?_ <;> intro hc_ <;> (try simp only [isNilI, inB, reduceCtorEq, cds] at hc_) <;> (try (first | contradiction | (exfalso; omega)))) | refine ar_until (And.intro ?_ (wk3 ?_)))
  all_goals (first | refine ar_id ?_ | (try (focus ((try refine nrmO ?_); (repeat' (first | exact True.intro | refine And.intro ?_ ?_)); all_goals (try (intro (hg_ : _ = true); (try simp only [isNilI, inB, reduceCtorEq, cds] at hg_); (repeat' (first | exact True.intro | refine And.intro ?_ ?_)))); all_goals (first | exact ob1 | skip)))))
  refine ar_split (s := 0) rfl ?_ ?_
  · intro hn hc
    repeat' (refine ar_id ?_; first | refine st1 ?_ | (first | ((first | refine ar_region tt_ok (inps := []) rfl ?_ ?_); rotate_left; (try refine nrm ?_); rotate_right) | refine ret3 ?_ | refine end3 ?_) | (refine ar_cond rfl trivial ?_ ?_ <;> intro hc_ <;> (try simp only [isNilI, inB, reduceCtorEq, cds] at hc_) <;> (try (first | contradiction | (exfalso; omega)))) | refine ar_until (And.intro ?_ (wk3 ?_)))
    all_goals (first | refine ar_id ?_ | (try (focus ((try refine nrmO ?_); (repeat' (first | exact True.intro | refine And.intro ?_ ?_)); all_goals (try (intro (hg_ : _ = true); (try simp only [isNilI, inB, reduceCtorEq, cds] at hg_); (repeat' (first | exact True.intro | refine And.intro ?_ ?_)))); all_goals (first | exact ob1 | skip)))))
    refine ar_nil (s := 2) (T := 4) (q := 1) (r := 90000) rfl rfl ?_
    repeat' (refine ar_id ?_; first | refine st1 ?_ | (first | ((first | refine ar_region tt_ok (inps := []) rfl ?_ ?_); rotate_left; (try refine nrm ?_); rotate_right) | refine ret3 ?_ | refine end3 ?_) | (refine ar_cond rfl trivial ?_ ?_ <;> intro hc_ <;> (try simp only [isNilI, inB, reduceCtorEq, cds] at hc_) <;> (try (first | contradiction | (exfalso; omega)))) | refine ar_until (And.intro ?_ (wk3 ?_)))
    all_goals (first | refine ar_id ?_ | (try (focus ((try refine nrmO ?_); (repeat' (first | exact True.intro | refine And.intro ?_ ?_)); all_goals (try (intro (hg_ : _ = true); (try simp only [isNilI, inB, reduceCtorEq, cds] at hg_); (repeat' (first | exact True.intro | refine And.intro ?_ ?_)))); all_goals (first | exact ob1 | skip)))))
    rw [List.length_eq_zero_iff.1 hn]; rfl
  · intro ad cap hr
    repeat' (refine ar_id ?_; first | refine st1 ?_ | (first | ((first | refine ar_region tt_ok (inps := []) rfl ?_ ?_); rotate_left; (try refine nrm ?_); rotate_right) | refine ret3 ?_ | refine end3 ?_) | (refine ar_cond rfl trivial ?_ ?_ <;> intro hc_ <;> (try simp only [isNilI, inB, reduceCtorEq, cds] at hc_) <;> (try (first | contradiction | (exfalso; omega)))) | refine ar_until (And.intro ?_ (wk3 ?_)))
    all_goals (first | refine ar_id ?_ | (try (focus ((try refine nrmO ?_); (repeat' (first | exact True.intro | refine And.intro ?_ ?_)); all_goals (try (intro (hg_ : _ = true); (try simp only [isNilI, inB, reduceCtorEq, cds] at hg_); (repeat' (first | exact True.intro | refine And.intro ?_ ?_)))); all_goals (first | exact ob1 | skip)))))
    refine ar_read (s := 0) hr rfl ?_
    repeat' (refine ar_id ?_; first | refine st1 ?_ | (first | ((first | refine ar_region (id := 3) tt_ok (inps := [.elems (l.map Tr.eB)]) rfl ?_ ?_ | refine ar_region tt_ok (inps := []) rfl ?_ ?_); rotate_left; (try refine nrm ?_); rotate_right) | refine ret3 ?_ | refine end3 ?_) | (refine ar_cond rfl trivial ?_ ?_ <;> intro hc_ <;> (try simp only [isNilI, inB, reduceCtorEq, cds] at hc_) <;> (try (first | contradiction | (exfalso; omega)))) | refine ar_until (And.intro ?_ (wk3 ?_)))
    all_goals (first | refine ar_id ?_ | (try (focus ((try refine nrmO ?_); (repeat' (first | exact True.intro | refine And.intro ?_ ?_)); all_goals (try (intro (hg_ : _ = true); (try simp only [isNilI, inB, reduceCtorEq, cds] at hg_); (repeat' (first | exact True.intro | refine And.intro ?_ ?_)))); all_goals (first | exact ob1 | exact flat_map' l (fun x => ⟨rfl, rfl, trivial⟩) | exact (by simp only [lns]; omega) | exact (by simp) | skip)))))
def c_CloneI (l : List Int) : CFD := ⟨38, [.one (ro 3 1 Tr.eI l)], [], .sv (.one (.hd 0)), [(0, some (.row 3 1 (l.map Tr.eI)))], [0], []⟩
theorem fn_CloneI (l : List Int) (hl : l.length ≤ 1048576) : Fn Tryd.prog (c_CloneI l) := by
  refine fn_intro tt_ok Tryd.func38 rfl Tryd.call38 Tryd.ntmps38 Tryd.results38 rfl rfl rfl rfl ?_
  intro X ρ0 hb_ hgl_
  dsimp only [c_CloneI]
  try refine nrm ?_
  repeat' (refine ar_id ?_; first | refine st1 ?_ | (first | ((first | refine ar_region tt_ok (inps := []) rfl ?_ ?_); rotate_left; (try refine nrm ?_); rotate_right) | refine ret3 ?_ | refine end3 ?_) | (refine ar_cond rfl trivial ?_ ?_ <;> intro hc_ <;> (try simp only [isNilI, inB, reduceCtorEq, cds] at hc_) <;> (try (first | contradiction | (exfalso; omega)))) | refine ar_until (And.intro ?_ (wk3 ?_)))
  all_goals (first | refine ar_id ?_ | (try (focus ((try refine nrmO ?_); (repeat' (first | exact True.intro | refine And.intro ?_ ?_)); all_goals (try (intro (hg_ : _ = true); (try simp only [isNilI, inB, reduceCtorEq, cds] at hg_); (repeat' (first | exact True.intro | refine And.intro ?_ ?_)))); all_goals (first | exact ob1 | skip)))))
  refine ar_split (s := 0) rfl ?_ ?_
  · intro hn hc
    repeat' (refine ar_id ?_; first | refine st1 ?_ | (first | ((first | refine ar_region tt_ok (inps := []) rfl ?_ ?_); rotate_left; (try refine nrm ?_); rotate_right) | refine ret3 ?_ | refine end3 ?_) | (refine ar_cond rfl trivial ?_ ?_ <;> intro hc_ <;> (try simp only [isNilI, inB, reduceCtorEq, cds] at hc_) <;> (try (first | contradiction | (exfalso; omega)))) | refine ar_until (And.intro ?_ (wk3 ?_)))
    all_goals (first | refine ar_id ?_ | (try (focus ((try refine nrmO ?_); (repeat' (first | exact True.intro | refine And.intro ?_ ?_)); all_goals (try (intro (hg_ : _ = true); (try simp only [isNilI, inB, reduceCtorEq, cds] at hg_); (repeat' (first | exact True.intro | refine And.intro ?_ ?_)))); all_goals (first | exact ob1 | skip)))))
    refine ar_nil (s := 2) (T := 3) (q := 1) (r := 90000) rfl rfl ?_
    repeat' (refine ar_id ?_; first | refine st1 ?_ | (first | ((first | refine ar_region tt_ok (inps := []) rfl ?_ ?_); rotate_left; (try refine nrm ?_); rotate_right) | refine ret3 ?_ | refine end3 ?_) | (refine ar_cond rfl trivial ?_ ?_ <;> intro hc_ <;> (try simp only [isNilI, inB, reduceCtorEq, cds] at hc_) <;> (try (first | contradiction | (exfalso; omega)))) | refine ar_until (And.intro ?_ (wk3 ?_)))
    all_goals (first | refine ar_id ?_ | (try (focus ((try refine nrmO ?_); (repeat' (first | exact True.intro | refine And.intro ?_ ?_)); all_goals (try (intro (hg_ : _ = true); (try simp only [isNilI, inB, reduceCtorEq, cds] at hg_); (repeat' (first | exact True.intro | refine And.intro ?_ ?_)))); all_goals (first | exact ob1 | skip)))))
    rw [List.length_eq_zero_iff.1 hn]; rfl
  · intro ad cap hr
    repeat' (refine ar_id ?_; first | refine st1 ?_ | (first | ((first | refine ar_region tt_ok (inps := []) rfl ?_ ?_); rotate_left; (try refine nrm ?_); rotate_right) | refine ret3 ?_ | refine end3 ?_) | (refine ar_cond rfl trivial ?_ ?_ <;> intro hc_ <;> (try simp only [isNilI, inB, reduceCtorEq, cds] at hc_) <;> (try (first | contradiction | (exfalso; omega)))) | refine ar_until (And.intro ?_ (wk3 ?_)))
    all_goals (first | refine ar_id ?_ | (try (focus ((try refine nrmO ?_); (repeat' (first | exact True.intro | refine And.intro ?_ ?_)); all_goals (try (intro (hg_ : _ = true); (try simp only [isNilI, inB, reduceCtorEq, cds] at hg_); (repeat' (first | exact True.intro | refine And.intro ?_ ?_)))); all_goals (first | exact ob1 | skip)))))
    refine ar_read (s := 0) hr rfl ?_
    repeat' (refine ar_id ?_; first | refine st1 ?_ | (first | ((first | refine ar_region (id := 3) tt_ok (inps := [.elems (l.map Tr.eI)]) rfl ?_ ?_ | refine ar_region tt_ok (inps := []) rfl ?_ ?_); rotate_left; (try refine nrm ?_); rotate_right) | refine ret3 ?_ | refine end3 ?_) | (refine ar_cond rfl trivial ?_ ?_ <;> intro hc_ <;> (try simp only [isNilI, inB, reduceCtorEq, cds] at hc_) <;> (try (first | contradiction | (exfalso; omega)))) | refine ar_until (And.intro ?_ (wk3 ?_)))
    all_goals (first | refine ar_id ?_ | (try (focus ((try refine nrmO ?_); (repeat' (first | exact True.intro | refine And.intro ?_ ?_)); all_goals (try (intro (hg_ : _ = true); (try simp only [isNilI, inB, reduceCtorEq, cds] at hg_); (repeat' (first | exact True.intro | refine And.intro ?_ ?_)))); all_goals (first | exact ob1 | exact flat_map' l (fun x => ⟨rfl, rfl, trivial⟩) | exact (by simp only [lns]; omega) | exact (by simp) | skip)))))
def c_CloneE (l : List GEntry) : CFD := ⟨61, [.one (ro 75 2 eEntry l)], [], .sv (.one (.hd 0)), [(0, some (.row 75 2 (l.map eEntry)))], [0], []⟩
theorem fn_CloneE (l : List GEntry) (hl : l.length ≤ 1048576) : Fn Tryd.prog (c_CloneE l) := by
  refine fn_intro tt_ok Tryd.func61 rfl Tryd.call61 Tryd.ntmps61 Tryd.results61 rfl rfl rfl rfl ?_
  intro X ρ0 hb_ hgl_
  dsimp only [c_CloneE]
  try refine nrm ?_
  repeat' (refine ar_id ?_; first | refine st1 ?_ | (first | ((first | refine ar_region tt_ok (inps := []) rfl ?_ ?_); rotate_left; (try refine nrm ?_); rotate_right) | refine ret3 ?_ | refine end3 ?_) | (refine ar_cond rfl trivial ?_ ?_ <;> intro hc_ <;> (try simp only [isNilI, inB, reduceCtorEq, cds] at hc_) <;> (try (first | contradiction | (exfalso; omega)))) | refine ar_until (And.intro ?_ (wk3 ?_)))
  all_goals (first | refine ar_id ?_ | (try (focus ((try refine nrmO ?_); (repeat' (first | exact True.intro | refine And.intro ?_ ?_)); all_goals (try (intro (hg_ : _ = true); (try simp only [isNilI, inB, reduceCtorEq, cds] at hg_); (repeat' (first | exact True.intro | refine And.intro ?_ ?_)))); all_goals (first | exact ob1 | skip)))))
  refine ar_split (s := 0) rfl ?_ ?_
  · intro hn hc
    repeat' (refine ar_id ?_; first | refine st1 ?_ | (first | ((first | refine ar_region tt_ok (inps := []) rfl ?_ ?_); rotate_left; (try refine nrm ?_); rotate_right) | refine ret3 ?_ | refine end3 ?_) | (refine ar_cond rfl trivial ?_ ?_ <;> intro hc_ <;> (try simp only [isNilI, inB, reduceCtorEq, cds] at hc_) <;> (try (first | contradiction | (exfalso; omega)))) | refine ar_until (And.intro ?_ (wk3 ?_)))
    all_goals (first | refine ar_id ?_ | (try (focus ((try refine nrmO ?_); (repeat' (first | exact True.intro | refine And.intro ?_ ?_)); all_goals (try (intro (hg_ : _ = true); (try simp only [isNilI, inB, reduceCtorEq, cds] at hg_); (repeat' (first | exact True.intro | refine And.intro ?_ ?_)))); all_goals (first | exact ob1 | skip)))))
    refine ar_nil (s := 2) (T := 75) (q := 2) (r := 90000) rfl rfl ?_
    repeat' (refine ar_id ?_; first | refine st1 ?_ | (first | ((first | refine ar_region tt_ok (inps := []) rfl ?_ ?_); rotate_left; (try refine nrm ?_); rotate_right) | refine ret3 ?_ | refine end3 ?_) | (refine ar_cond rfl trivial ?_ ?_ <;> intro hc_ <;> (try simp only [isNilI, inB, reduceCtorEq, cds] at hc_) <;> (try (first | contradiction | (exfalso; omega)))) | refine ar_until (And.intro ?_ (wk3 ?_)))
    all_goals (first | refine ar_id ?_ | (try (focus ((try refine nrmO ?_); (repeat' (first | exact True.intro | refine And.intro ?_ ?_)); all_goals (try (intro (hg_ : _ = true); (try simp only [isNilI, inB, reduceCtorEq, cds] at hg_); (repeat' (first | exact True.intro | refine And.intro ?_ ?_)))); all_goals (first | exact ob1 | skip)))))
    rw [List.length_eq_zero_iff.1 hn]; rfl
  · intro ad cap hr
    repeat' (refine ar_id ?_; first | refine st1 ?_ | (first | ((first | refine ar_region tt_ok (inps := []) rfl ?_ ?_); rotate_left; (try refine nrm ?_); rotate_right) | refine ret3 ?_ | refine end3 ?_) | (refine ar_cond rfl trivial ?_ ?_ <;> intro hc_ <;> (try simp only [isNilI, inB, reduceCtorEq, cds] at hc_) <;> (try (first | contradiction | (exfalso; omega)))) | refine ar_until (And.intro ?_ (wk3 ?_)))
    all_goals (first | refine ar_id ?_ | (try (focus ((try refine nrmO ?_); (repeat' (first | exact True.intro | refine And.intro ?_ ?_)); all_goals (try (intro (hg_ : _ = true); (try simp only [isNilI, inB, reduceCtorEq, cds] at hg_); (repeat' (first | exact True.intro | refine And.intro ?_ ?_)))); all_goals (first | exact ob1 | skip)))))
    refine ar_read (s := 0) hr rfl ?_
    repeat' (refine ar_id ?_; first | refine st1 ?_ | (first | ((first | refine ar_region (id := 3) tt_ok (inps := [.elems (l.map eEntry)]) rfl ?_ ?_ | refine ar_region tt_ok (inps := []) rfl ?_ ?_); rotate_left; (try refine nrm ?_); rotate_right) | refine ret3 ?_ | refine end3 ?_) | (refine ar_cond rfl trivial ?_ ?_ <;> intro hc_ <;> (try simp only [isNilI, inB, reduceCtorEq, cds] at hc_) <;> (try (first | contradiction | (exfalso; omega)))) | refine ar_until (And.intro ?_ (wk3 ?_)))
    all_goals (first | refine ar_id ?_ | (try (focus ((try refine nrmO ?_); (repeat' (first | exact True.intro | refine And.intro ?_ ?_)); all_goals (try (intro (hg_ : _ = true); (try simp only [isNilI, inB, reduceCtorEq, cds] at hg_); (repeat' (first | exact True.intro | refine And.intro ?_ ?_)))); all_goals (first | exact ob1 | exact flat_map' l (fun x => ⟨rfl, rfl, rfl, trivial⟩) | exact (by simp only [lns]; omega) | exact (by simp) | skip)))))
end Eng
end Go.Proofs.YtabnglcabpijfaaDoor
namespace Go.Proofs.YtabnglcabpijfaaDoor
open Go.RowKit
set_option linter.unusedVariables false
set_option linter.unusedSimpArgs false
set_option maxRecDepth 100000
namespace Eng
open Tr
def c_vir (v : Int) : CFD := ⟨68, [(SV.one (.lit (.int .i64 (v))))], [], (TV.sv (.one (.lit (.bool (inB v 0 999))))), [], [], []⟩
theorem fn_vir (v : Int) : Fn Tryd.prog (c_vir v) := by
  refine fn_intro tt_ok Tryd.func68 rfl Tryd.call68 Tryd.ntmps68 Tryd.results68 rfl rfl rfl rfl ?_
  intro X ρ0 hb_ hgl_
  dsimp only [c_vir]
  try refine nrm ?_
  repeat' (refine ar_id ?_; first | refine st1 ?_ | (first | ((first | refine ar_region tt_ok (inps := []) rfl ?_ ?_); rotate_left; (try refine nrm ?_); rotate_right) | refine ret3 ?_ | refine end3 ?_) | (refine ar_cond rfl trivial ?_ ?_ <;> intro hc_ <;> (try simp only [isNilI, inB, reduceCtorEq, cds] at hc_) <;> (try (first | contradiction | (exfalso; omega)))) | refine ar_until (And.intro ?_ (wk3 ?_)))
  all_goals (first | refine ar_id ?_ | (try (focus ((try refine nrmO ?_); (repeat' (first | exact True.intro | refine And.intro ?_ ?_)); all_goals (try (intro (hg_ : _ = true); (try simp only [isNilI, inB, reduceCtorEq, cds] at hg_); (repeat' (first | exact True.intro | refine And.intro ?_ ?_)))); all_goals (first | exact ob1 | skip)))))
  exact congrArg Value.bool (by unfold inB; cases h : decide (v ≥ 0) <;> simp_all)
def c_frameOk (r : List Int) (u : Bool) : CFD := ⟨82, [.one (ro 3 1 Tr.eI r), (SV.one (.lit (.bool (u))))], [], (TV.sv (.one (.lit (.bool (decide (okRow u r)))))), [], [], []⟩
theorem fn_frameOk (r : List Int) (u : Bool) (hl : r.length ≤ 1048576) : Fn Tryd.prog (c_frameOk r u) := by
  refine fn_intro tt_ok Tryd.func82 rfl Tryd.call82 Tryd.ntmps82 Tryd.results82 rfl rfl rfl rfl ?_
  intro X ρ0 hb_ hgl_
  dsimp only [c_frameOk]
  try refine nrm ?_
  repeat' (refine ar_id ?_; first | refine st1 ?_ | (first | ((first | refine ar_region tt_ok (inps := []) rfl ?_ ?_); rotate_left; (try refine nrm ?_); rotate_right) | refine ret3 ?_ | refine end3 ?_) | (refine ar_cond rfl trivial ?_ ?_ <;> intro hc_ <;> (try simp only [isNilI, inB, reduceCtorEq, cds] at hc_) <;> (try (first | contradiction | (exfalso; omega)))) | refine ar_until (And.intro ?_ (wk3 ?_)))
  all_goals (first | refine ar_id ?_ | (try (focus ((try refine nrmO ?_); (repeat' (first | exact True.intro | refine And.intro ?_ ?_)); all_goals (try (intro (hg_ : _ = true); (try simp only [isNilI, inB, reduceCtorEq, cds] at hg_); (repeat' (first | exact True.intro | refine And.intro ?_ ?_)))); all_goals (first | exact ob1 | skip)))))
  · exact bf fun h => hc_ (by rw [h.1]; rfl)
  have hlen := hc_
  refine ar_keep 7251 (by dsimp only [keepS] <;> exact rfl) ?_
  refine ar_forM (r.length) (fun i => ∀ v ∈ r.take i, okV u v) (fun i => [(12, (TV.sv (.one (.lit (.int .i64 (i))))))]) (fun i => []) ?_ ?_ ?_
  rotate_left
  · first | trivial | simp
  (dsimp only [rnCap, capSVs, Int.toNat_natCast, ro, Nat.reduceAdd, Nat.reduceMul, Nat.zero_add, List.map, putT, app, wrapG, gOb, argT, keys, slotOf, dropped, gAnd, wB, rnT, rnS, rnC, rnCs, rnSs, rnM, rnB, rnN, rn, lk, St.over, ded, delL, keepT, menT, menSs, menS, menCs, menC, hasN, resT, SV.cells]; refine wk3 ?_; (focus ((try refine nrmO ?_); (repeat' (first | exact True.intro | refine And.intro ?_ ?_)); all_goals (try (intro (hg_ : _ = true); (try simp only [isNilI, inB, reduceCtorEq, cds] at hg_); (repeat' (first | exact True.intro | refine And.intro ?_ ?_)))); all_goals (first | exact ob1 | exact rfl | skip))))
  rotate_right
  intro i hi_ hiI_
  dsimp only [rnCap, capSVs, Int.toNat_natCast, ro, Nat.reduceAdd, Nat.reduceMul, Nat.zero_add, List.map, putT, app, wrapG, gOb, argT, keys, slotOf, dropped, gAnd, wB, rnT, rnS, rnC, rnCs, rnSs, rnM, rnB, rnN, rn, lk, St.over, ded, delL, keepT, menT, menSs, menS, menCs, menC, hasN, resT, SV.cells]
  repeat' (refine ar_id ?_; first | refine st1 ?_ | (first | ((first | refine ar_region (id := 5) tt_ok (inps := [.elem (Tr.eI (r.getD i 0))]) rfl ?_ ?_ | refine ar_region (id := 6) tt_ok (inps := [.call (c_vir (r.getD i 0))]) rfl ?_ ?_ | refine ar_region tt_ok (inps := []) rfl ?_ ?_); rotate_left; (try dsimp only [c_vir]); (try refine nrm ?_); rotate_right) | refine ret3 ?_ | refine end3 ?_) | (refine ar_cond rfl trivial ?_ ?_ <;> intro hc_ <;> (try simp only [isNilI, inB, reduceCtorEq, cds] at hc_) <;> (try (first | contradiction | (exfalso; omega)))) | refine ar_until (And.intro ?_ (wk3 ?_)))
  all_goals (first | refine ar_id ?_ | (try (focus ((try refine nrmO ?_); (repeat' (first | exact True.intro | refine And.intro ?_ ?_)); all_goals (try (intro (hg_ : _ = true); (try simp only [isNilI, inB, reduceCtorEq, cds] at hg_); (repeat' (first | exact True.intro | refine And.intro ?_ ?_)))); all_goals (first | exact ob1 | exact fn_vir _ | skip)))))
  · refine bf fun h => ?_
    have := h.2 _ (getD_in (l := r) (i := i) (d := 0) (by omega))
    rcases hc_ with hc_ | ⟨h1, h2⟩
    · have := this.1; omega
    · rcases this.2 with h3 | h3
      · rw [h1] at h3; cases h3
      · exact h2 h3
  · exact all_take hiI_ (by omega) hc_
  · exact bt ⟨by omega, all_full hiI_ (by omega)⟩
theorem zip_getD {α β : Type} {l : List α} {m : List β} {i : Nat} {a : α} {b : β} (h1 : i < l.length) (h2 : i < m.length) : (l.zip m).getD i (a, b) = (l.getD i a, m.getD i b) := by
  have := zip_at (getD_at (x := a) h1) (getD_at (x := b) h2)
  rw [List.getD_eq_getElem?_getD, this]
  rfl
def c_FramesOkI (f : GFrames) : CFD := ⟨62, [.agg [ro 31 1 eIntS f.Cells, ro 4 1 Tr.eB f.Used]], [], (TV.sv (.one (.lit (.bool (pFramesOk f))))), [], [], []⟩
theorem fn_FramesOkI (f : GFrames) (hl : f.Cells.length ≤ 1048576) (hu : f.Used.length ≤ 1048576) (hc : ∀ r ∈ f.Cells, r.length ≤ 1048576) : Fn Tryd.prog (c_FramesOkI f) := by
  refine fn_intro tt_ok Tryd.func62 rfl Tryd.call62 Tryd.ntmps62 Tryd.results62 rfl rfl rfl rfl ?_
  intro X ρ0 hb_ hgl_
  dsimp only [c_FramesOkI]
  try refine nrm ?_
  repeat' (refine ar_id ?_; first | refine st1 ?_ | (first | ((first | refine ar_region tt_ok (inps := []) rfl ?_ ?_); rotate_left; (try refine nrm ?_); rotate_right) | refine ret3 ?_ | refine end3 ?_) | (refine ar_cond rfl trivial ?_ ?_ <;> intro hc_ <;> (try simp only [isNilI, inB, reduceCtorEq, cds] at hc_) <;> (try (first | contradiction | (exfalso; omega)))) | refine ar_until (And.intro ?_ (wk3 ?_)))
  all_goals (first | refine ar_id ?_ | (try (focus ((try refine nrmO ?_); (repeat' (first | exact True.intro | refine And.intro ?_ ?_)); all_goals (try (intro (hg_ : _ = true); (try simp only [isNilI, inB, reduceCtorEq, cds] at hg_); (repeat' (first | exact True.intro | refine And.intro ?_ ?_)))); all_goals (first | exact ob1 | skip)))))
  · exact bf fun h => by have := h.1; have := h.2.1; omega
  have hlen := hc_
  refine ar_keep 234881055 (by dsimp only [keepS] <;> exact rfl) ?_
  refine ar_forM (f.Cells.length) (fun i => ∀ p ∈ (f.Cells.zip f.Used).take i, okRow p.2 p.1) (fun i => [(27, (TV.sv (.one (.lit (.int .i64 (i))))))]) (fun i => []) ?_ ?_ ?_
  rotate_left
  · first | trivial | simp
  (dsimp only [rnCap, capSVs, Int.toNat_natCast, ro, Nat.reduceAdd, Nat.reduceMul, Nat.zero_add, List.map, putT, app, wrapG, gOb, argT, keys, slotOf, dropped, gAnd, wB, rnT, rnS, rnC, rnCs, rnSs, rnM, rnB, rnN, rn, lk, St.over, ded, delL, keepT, menT, menSs, menS, menCs, menC, hasN, resT, SV.cells]; refine wk3 ?_; (focus ((try refine nrmO ?_); (repeat' (first | exact True.intro | refine And.intro ?_ ?_)); all_goals (try (intro (hg_ : _ = true); (try simp only [isNilI, inB, reduceCtorEq, cds] at hg_); (repeat' (first | exact True.intro | refine And.intro ?_ ?_)))); all_goals (first | exact ob1 | exact rfl | skip))))
  rotate_right
  intro i hi_ hiI_
  dsimp only [rnCap, capSVs, Int.toNat_natCast, ro, Nat.reduceAdd, Nat.reduceMul, Nat.zero_add, List.map, putT, app, wrapG, gOb, argT, keys, slotOf, dropped, gAnd, wB, rnT, rnS, rnC, rnCs, rnSs, rnM, rnB, rnN, rn, lk, St.over, ded, delL, keepT, menT, menSs, menS, menCs, menC, hasN, resT, SV.cells]
  repeat' (refine ar_id ?_; first | refine st1 ?_ | (first | ((first | refine ar_region (id := 5) tt_ok (inps := [.elem (eIntS (f.Cells.getD i []))]) rfl ?_ ?_ | refine ar_region (id := 6) tt_ok (inps := [.elem (Tr.eB (f.Used.getD i false)), .call (c_frameOk (f.Cells.getD i []) (f.Used.getD i false))]) rfl ?_ ?_ | refine ar_region tt_ok (inps := []) rfl ?_ ?_); rotate_left; (try dsimp only [c_frameOk]); (try refine nrm ?_); rotate_right) | refine ret3 ?_ | refine end3 ?_) | (refine ar_cond rfl trivial ?_ ?_ <;> intro hc_ <;> (try simp only [isNilI, inB, reduceCtorEq, cds] at hc_) <;> (try (first | contradiction | (exfalso; omega)))) | refine ar_until (And.intro ?_ (wk3 ?_)))
  all_goals (first | refine ar_id ?_ | (try (focus ((try refine nrmO ?_); (repeat' (first | exact True.intro | refine And.intro ?_ ?_)); all_goals (try (intro (hg_ : _ = true); (try simp only [isNilI, inB, reduceCtorEq, cds] at hg_); (repeat' (first | exact True.intro | refine And.intro ?_ ?_)))); all_goals (first | exact ob1 | exact fn_frameOk _ _ (hc _ (getD_in (by omega))) | skip)))))
  · refine bf fun h => hc_ ?_
    have := h.2.2 _ (getD_in (l := f.Cells.zip f.Used) (i := i) (d := ([], false)) (by rw [List.length_zip]; omega))
    rwa [zip_getD (by omega) (by omega)] at this
  · exact all_take (d := ([], false)) hiI_ (by rw [List.length_zip]; omega) (by rw [zip_getD (by omega) (by omega)]; exact hc_)
  · exact bt ⟨by omega, by omega, all_full hiI_ (by rw [List.length_zip]; omega)⟩
def c_Copy5I (f : GFrames) : CFD := ⟨60, [.agg [ro 31 1 eIntS f.Cells, ro 4 1 Tr.eB f.Used]], [], .sv (.agg [.hd 0, .hd 1]),
  [(0, some (.row 31 1 (f.Cells.map eIntS))), (1, some (.row 4 1 (f.Used.map Tr.eB)))], [0, 1], []⟩
theorem fn_Copy5I (f : GFrames) (hl : f.Cells.length ≤ 1048576) (hu : f.Used.length ≤ 1048576) (hc : ∀ r ∈ f.Cells, r.length ≤ 1048576) : Fn Tryd.prog (c_Copy5I f) := by
  refine fn_intro tt_ok Tryd.func60 rfl Tryd.call60 Tryd.ntmps60 Tryd.results60 rfl rfl rfl rfl ?_
  intro X ρ0 hb_ hgl_
  dsimp only [c_Copy5I]
  try refine nrm ?_
  repeat' (refine ar_id ?_; first | refine st1 ?_ | (first | ((first | refine ar_region tt_ok (inps := []) rfl ?_ ?_); rotate_left; (try refine nrm ?_); rotate_right) | refine ret3 ?_ | refine end3 ?_) | (refine ar_cond rfl trivial ?_ ?_ <;> intro hc_ <;> (try simp only [isNilI, inB, reduceCtorEq, cds] at hc_) <;> (try (first | contradiction | (exfalso; omega)))) | refine ar_until (And.intro ?_ (wk3 ?_)))
  all_goals (first | refine ar_id ?_ | (try (focus ((try refine nrmO ?_); (repeat' (first | exact True.intro | refine And.intro ?_ ?_)); all_goals (try (intro (hg_ : _ = true); (try simp only [isNilI, inB, reduceCtorEq, cds] at hg_); (repeat' (first | exact True.intro | refine And.intro ?_ ?_)))); all_goals (first | exact ob1 | skip)))))
  refine ar_keep 3103 (by dsimp only [keepS] <;> exact rfl) ?_
  refine ar_forM (f.Cells.length) (fun i => True) (fun i => [(11, (TV.sv (.one (.lit (.int .i64 (i)))))), (3, (TV.sv (.one (.hd 8))))]) (fun i => [(8, some (.row 31 1 ((f.Cells.take i).map eIntS ++ List.replicate (f.Cells.length - i) (dOf [.slice none 0 0]))))]) ?_ ?_ ?_
  rotate_left
  · first | trivial | simp
  (dsimp only [rnCap, capSVs, Int.toNat_natCast, ro, Nat.reduceAdd, Nat.reduceMul, Nat.zero_add, List.map, putT, app, wrapG, gOb, argT, keys, slotOf, dropped, gAnd, wB, rnT, rnS, rnC, rnCs, rnSs, rnM, rnB, rnN, rn, lk, St.over, ded, delL, keepT, menT, menSs, menS, menCs, menC, hasN, resT, SV.cells]; refine wk3 ?_; (focus ((try refine nrmO ?_); (repeat' (first | exact True.intro | refine And.intro ?_ ?_)); all_goals (try (intro (hg_ : _ = true); (try simp only [isNilI, inB, reduceCtorEq, cds] at hg_); (repeat' (first | exact True.intro | refine And.intro ?_ ?_)))); all_goals (first | exact ob1 | exact rfl | skip))))
  rotate_right
  intro i hi_ hiI_
  dsimp only [rnCap, capSVs, Int.toNat_natCast, ro, Nat.reduceAdd, Nat.reduceMul, Nat.zero_add, List.map, putT, app, wrapG, gOb, argT, keys, slotOf, dropped, gAnd, wB, rnT, rnS, rnC, rnCs, rnSs, rnM, rnB, rnN, rn, lk, St.over, ded, delL, keepT, menT, menSs, menS, menCs, menC, hasN, resT, SV.cells]
  repeat' (refine ar_id ?_; first | refine st1 ?_ | (first | ((first | refine ar_region (id := 5) tt_ok (inps := [.elem (eIntS (f.Cells.getD i [])), .elem (dOf [.slice none 0 0])]) rfl ?_ ?_ | refine ar_region tt_ok (inps := []) rfl ?_ ?_); rotate_left; (try refine nrm ?_); rotate_right) | refine ret3 ?_ | refine end3 ?_) | (refine ar_cond rfl trivial ?_ ?_ <;> intro hc_ <;> (try simp only [isNilI, inB, reduceCtorEq, cds] at hc_) <;> (try (first | contradiction | (exfalso; omega)))) | refine ar_until (And.intro ?_ (wk3 ?_)))
  all_goals (first | refine ar_id ?_ | (try (focus ((try refine nrmO ?_); (repeat' (first | exact True.intro | refine And.intro ?_ ?_)); all_goals (try (intro (hg_ : _ = true); (try simp only [isNilI, inB, reduceCtorEq, cds] at hg_); (repeat' (first | exact True.intro | refine And.intro ?_ ?_)))); all_goals (first | exact ob1 | skip)))))
  · have := hc _ (getD_in (l := f.Cells) (i := i) (d := []) (by omega)); simp only [List.length_map]; omega
  · rw [Int.toNat_natCast]; exact fill_at _ _ _ (by omega)
  · have hlen : i < ((f.Cells.take i).map eIntS ++ List.replicate (f.Cells.length - i) (dOf [.slice none 0 0])).length := by rw [fill_len _ _ _ (by omega)]; omega
    refine ar_row 8 (((f.Cells.take i).map eIntS ++ List.replicate (f.Cells.length - i) (dOf [.slice none 0 0])).set i (eIntS (List.replicate (f.Cells.getD i []).length 0))) rfl ((congrArg (List.set _ i) (by show D.row _ _ _ _ _ = D.row _ _ _ _ _; rw [List.map_replicate, List.length_map]; rfl))) ?_
    refine ar_open 8 i 0 90001 90002 (d := eIntS (List.replicate (f.Cells.getD i []).length 0)) ((List.replicate (f.Cells.getD i []).length 0).map eI) rfl ?_ rfl ?_ rfl rfl rfl ?_
    · first | exact map_at (by omega) | assumption | exact set_at (by (try simp only [List.length_map, List.length_set]); omega) | (rw [List.getElem?_set_ne (by omega)]; exact map_at (by omega))
    · exact ⟨rfl, rfl, by intro e he; simp only [List.mem_map] at he; obtain ⟨_, _, rfl⟩ := he; rfl⟩
    intro A_90001 n_90001 c_90001
    try refine nrm ?_
    refine ar_draw (id := 6) (inps := [ .nest (.lit (Value.slice A_90001 n_90001 c_90001) .nil) [(0, 90002)], .elem (eIntS (f.Cells.getD i [])), .elems ((f.Cells.getD i []).map eI)]) tt_ok (by kernel_rfl) rfl rfl (by kernel_rfl) rfl rfl rfl rfl ?_ ?_
    rotate_left
    (try refine nrm ?_)
    refine ar_close 8 i 0 90001 90002 rfl rfl rfl (set_at ?_) rfl rfl rfl ?_
    · (simp only [List.length_map, List.length_set]; omega)
    try refine nrm ?_
    repeat' (refine ar_id ?_; first | refine st1 ?_ | (first | ((first | refine ar_region tt_ok (inps := []) rfl ?_ ?_); rotate_left; (try refine nrm ?_); rotate_right) | refine ret3 ?_ | refine end3 ?_) | (refine ar_cond rfl trivial ?_ ?_ <;> intro hc_ <;> (try simp only [isNilI, inB, reduceCtorEq, cds] at hc_) <;> (try (first | contradiction | (exfalso; omega)))) | refine ar_until (And.intro ?_ (wk3 ?_)))
    all_goals (first | refine ar_id ?_ | (try (focus ((try refine nrmO ?_); (repeat' (first | exact True.intro | refine And.intro ?_ ?_)); all_goals (try (intro (hg_ : _ = true); (try simp only [isNilI, inB, reduceCtorEq, cds] at hg_); (repeat' (first | exact True.intro | refine And.intro ?_ ?_)))); all_goals (first | exact ob1 | skip)))))
    all_goals (try (focus ((try refine nrmO ?_); (repeat' (first | exact True.intro | refine And.intro ?_ ?_)); all_goals (try (intro (hg_ : _ = true); (try simp only [isNilI, inB, reduceCtorEq, cds] at hg_); (repeat' (first | exact True.intro | refine And.intro ?_ ?_)))); all_goals (first | exact ob1 | exact flat_map' (f.Cells.getD i []) (fun x => ⟨rfl, rfl, trivial⟩) | exact (fun d hd => by obtain ⟨_, _, rfl⟩ := List.mem_map.1 hd; exact ⟨rfl, trivial⟩) | skip))))
    · rw [List.set_set, List.set_set]; exact fill_step eIntS f.Cells _ [] (by omega)
    · rw [List.length_map, List.length_map, List.length_replicate]
  · skip
    repeat' (refine ar_id ?_; first | refine st1 ?_ | (first | ((first | refine ar_region (id := 8) tt_ok (inps := [.call (c_CloneB f.Used)]) rfl ?_ ?_ | refine ar_region tt_ok (inps := []) rfl ?_ ?_); rotate_left; (try dsimp only [c_CloneB]); (try refine nrm ?_); rotate_right) | refine ret3 ?_ | refine end3 ?_) | (refine ar_cond rfl trivial ?_ ?_ <;> intro hc_ <;> (try simp only [isNilI, inB, reduceCtorEq, cds] at hc_) <;> (try (first | contradiction | (exfalso; omega)))) | refine ar_until (And.intro ?_ (wk3 ?_)))
    all_goals (first | refine ar_id ?_ | (try (focus ((try refine nrmO ?_); (repeat' (first | exact True.intro | refine And.intro ?_ ?_)); all_goals (try (intro (hg_ : _ = true); (try simp only [isNilI, inB, reduceCtorEq, cds] at hg_); (repeat' (first | exact True.intro | refine And.intro ?_ ?_)))); all_goals (first | exact ob1 | exact fn_CloneB _ hu | skip)))))
    exact fill_end eIntS f.Cells _ (by omega)
end Eng
end Go.Proofs.YtabnglcabpijfaaDoor
namespace Go.Proofs.YtabnglcabpijfaaDoor
open Go.RowKit
set_option linter.unusedVariables false
set_option linter.unusedSimpArgs false
set_option maxRecDepth 100000
namespace Eng
open Tr
def c_isMapped (md fr : Int) : CFD := ⟨84, [.agg [(CV.lit (.int .i64 (md))), (CV.lit (.int .i64 (fr)))]], [], (TV.sv (.one (.lit (.bool (md != 0))))), [], [], []⟩
theorem fn_isMapped (md fr : Int) : Fn Tryd.prog (c_isMapped md fr) := by
  refine fn_intro tt_ok Tryd.func84 rfl Tryd.call84 Tryd.ntmps84 Tryd.results84 rfl rfl rfl rfl ?_
  intro X ρ0 hb_ hgl_
  dsimp only [c_isMapped]
  try refine nrm ?_
  repeat' (refine ar_id ?_; first | refine st1 ?_ | (first | ((first | refine ar_region tt_ok (inps := []) rfl ?_ ?_); rotate_left; (try refine nrm ?_); rotate_right) | refine ret3 ?_ | refine end3 ?_) | (refine ar_cond rfl trivial ?_ ?_ <;> intro hc_ <;> (try simp only [isNilI, inB, reduceCtorEq, cds] at hc_) <;> (try (first | contradiction | (exfalso; omega)))) | refine ar_until (And.intro ?_ (wk3 ?_)))
  all_goals (first | refine ar_id ?_ | (try (focus ((try refine nrmO ?_); (repeat' (first | exact True.intro | refine And.intro ?_ ?_)); all_goals (try (intro (hg_ : _ = true); (try simp only [isNilI, inB, reduceCtorEq, cds] at hg_); (repeat' (first | exact True.intro | refine And.intro ?_ ?_)))); all_goals (first | exact ob1 | skip)))))
def okA (md fr : Int) : Prop := (md = 0 ∧ fr = 0) ∨ ((md = 1 ∨ md = 2) ∧ 0 ≤ fr)
instance (md fr : Int) : Decidable (okA md fr) := by unfold okA; infer_instance
def c_entryOk (md fr : Int) : CFD := ⟨83, [.agg [(CV.lit (.int .i64 (md))), (CV.lit (.int .i64 (fr)))]], [], (TV.sv (.one (.lit (.bool (decide (okA md fr)))))), [], [], []⟩
theorem fn_entryOk (md fr : Int) : Fn Tryd.prog (c_entryOk md fr) := by
  refine fn_intro tt_ok Tryd.func83 rfl Tryd.call83 Tryd.ntmps83 Tryd.results83 rfl rfl rfl rfl ?_
  intro X ρ0 hb_ hgl_
  dsimp only [c_entryOk]
  try refine nrm ?_
  repeat' (refine ar_id ?_; first | refine st1 ?_ | (first | ((first | refine ar_region (id := 1) tt_ok (inps := [.call (c_isMapped md fr)]) rfl ?_ ?_ | refine ar_region tt_ok (inps := []) rfl ?_ ?_); rotate_left; (try dsimp only [c_isMapped]); (try refine nrm ?_); rotate_right) | refine ret3 ?_ | refine end3 ?_) | (refine ar_cond rfl trivial ?_ ?_ <;> intro hc_ <;> (try simp only [isNilI, inB, reduceCtorEq, cds] at hc_) <;> (try (first | contradiction | (exfalso; omega)))) | refine ar_until (And.intro ?_ (wk3 ?_)))
  all_goals (first | refine ar_id ?_ | (try (focus ((try refine nrmO ?_); (repeat' (first | exact True.intro | refine And.intro ?_ ?_)); all_goals (try (intro (hg_ : _ = true); (try simp only [isNilI, inB, reduceCtorEq, cds] at hg_); (repeat' (first | exact True.intro | refine And.intro ?_ ?_)))); all_goals (first | exact ob1 | exact fn_isMapped _ _ | skip)))))
  · refine congrArg Value.bool ?_
    subst hc_
    by_cases h : fr = 0
    · subst h; rfl
    · simp [okA, h]
  · refine congrArg Value.bool ?_
    simp only [okA, cond_ite]
    rw [Bool.eq_iff_iff]
    split <;> split <;> simp_all <;> omega
def c_TableOkI (t : GTable) (frames : Int) : CFD := ⟨63, [.agg [ro 75 2 eEntry t.Entries], (SV.one (.lit (.int .i64 (frames))))], [], (TV.sv (.one (.lit (.bool (pTableOk t frames))))), [], [], []⟩
theorem fn_TableOkI (t : GTable) (frames : Int) (hl : t.Entries.length ≤ 1048576) : Fn Tryd.prog (c_TableOkI t frames) := by
  refine fn_intro tt_ok Tryd.func63 rfl Tryd.call63 Tryd.ntmps63 Tryd.results63 rfl rfl rfl rfl ?_
  intro X ρ0 hb_ hgl_
  dsimp only [c_TableOkI]
  try refine nrm ?_
  repeat' (refine ar_id ?_; first | refine st1 ?_ | (first | ((first | refine ar_region tt_ok (inps := []) rfl ?_ ?_); rotate_left; (try refine nrm ?_); rotate_right) | refine ret3 ?_ | refine end3 ?_) | (refine ar_cond rfl trivial ?_ ?_ <;> intro hc_ <;> (try simp only [isNilI, inB, reduceCtorEq, cds] at hc_) <;> (try (first | contradiction | (exfalso; omega)))) | refine ar_until (And.intro ?_ (wk3 ?_)))
  all_goals (first | refine ar_id ?_ | (try (focus ((try refine nrmO ?_); (repeat' (first | exact True.intro | refine And.intro ?_ ?_)); all_goals (try (intro (hg_ : _ = true); (try simp only [isNilI, inB, reduceCtorEq, cds] at hg_); (repeat' (first | exact True.intro | refine And.intro ?_ ?_)))); all_goals (first | exact ob1 | skip)))))
  · exact bf fun h => by have := h.2; omega
  have hlen := hc_
  refine ar_keep 1835095 (by dsimp only [keepS] <;> exact rfl) ?_
  refine ar_forM (t.Entries.length) (fun i => ∀ e ∈ t.Entries.take i, okE frames e) (fun i => [(20, (TV.sv (.one (.lit (.int .i64 (i))))))]) (fun i => []) ?_ ?_ ?_
  rotate_left
  · first | trivial | simp
  (dsimp only [rnCap, capSVs, Int.toNat_natCast, ro, Nat.reduceAdd, Nat.reduceMul, Nat.zero_add, List.map, putT, app, wrapG, gOb, argT, keys, slotOf, dropped, gAnd, wB, rnT, rnS, rnC, rnCs, rnSs, rnM, rnB, rnN, rn, lk, St.over, ded, delL, keepT, menT, menSs, menS, menCs, menC, hasN, resT, SV.cells]; refine wk3 ?_; (focus ((try refine nrmO ?_); (repeat' (first | exact True.intro | refine And.intro ?_ ?_)); all_goals (try (intro (hg_ : _ = true); (try simp only [isNilI, inB, reduceCtorEq, cds] at hg_); (repeat' (first | exact True.intro | refine And.intro ?_ ?_)))); all_goals (first | exact ob1 | exact rfl | skip))))
  rotate_right
  intro i hi_ hiI_
  dsimp only [rnCap, capSVs, Int.toNat_natCast, ro, Nat.reduceAdd, Nat.reduceMul, Nat.zero_add, List.map, putT, app, wrapG, gOb, argT, keys, slotOf, dropped, gAnd, wB, rnT, rnS, rnC, rnCs, rnSs, rnM, rnB, rnN, rn, lk, St.over, ded, delL, keepT, menT, menSs, menS, menCs, menC, hasN, resT, SV.cells]
  repeat' (refine ar_id ?_; first | refine st1 ?_ | (first | ((first | refine ar_region (id := 5) tt_ok (inps := [.elem (eEntry (t.Entries.getD i ⟨0, 0⟩))]) rfl ?_ ?_ | refine ar_region (id := 6) tt_ok (inps := [.call (c_entryOk (t.Entries.getD i ⟨0, 0⟩).Mode (t.Entries.getD i ⟨0, 0⟩).Frame), .call (c_isMapped (t.Entries.getD i ⟨0, 0⟩).Mode (t.Entries.getD i ⟨0, 0⟩).Frame)]) rfl ?_ ?_ | refine ar_region tt_ok (inps := []) rfl ?_ ?_); rotate_left; (try dsimp only [c_entryOk, c_isMapped]); (try refine nrm ?_); rotate_right) | refine ret3 ?_ | refine end3 ?_) | (refine ar_cond rfl trivial ?_ ?_ <;> intro hc_ <;> (try simp only [isNilI, inB, reduceCtorEq, cds] at hc_) <;> (try (first | contradiction | (exfalso; omega)))) | refine ar_until (And.intro ?_ (wk3 ?_)))
  all_goals (first | refine ar_id ?_ | (try (focus ((try refine nrmO ?_); (repeat' (first | exact True.intro | refine And.intro ?_ ?_)); all_goals (try (intro (hg_ : _ = true); (try simp only [isNilI, inB, reduceCtorEq, cds] at hg_); (repeat' (first | exact True.intro | refine And.intro ?_ ?_)))); all_goals (first | exact ob1 | exact fn_entryOk _ _ | exact fn_isMapped _ _ | skip)))))
  · refine bf fun h => ?_
    have := h.1 _ (getD_in (l := t.Entries) (i := i) (d := ⟨0, 0⟩) (by omega))
    unfold okE at this
    unfold okA at hc_
    omega
  · refine all_take (d := ⟨0, 0⟩) hiI_ (by omega) ?_
    unfold okE
    unfold okA at hc_
    omega
  · exact bt ⟨all_full hiI_ (by omega), by omega, by omega⟩
def c_pageExists (t : GTable) (page : Int) : CFD := ⟨89, [.agg [ro 75 2 eEntry t.Entries], (SV.one (.lit (.int .i64 (page))))], [], (TV.sv (.one (.lit (.bool (decide (0 ≤ page ∧ page < (t.Entries.length : Int))))))), [], [], []⟩
theorem fn_pageExists (t : GTable) (page : Int) (hl : t.Entries.length ≤ 1048576) : Fn Tryd.prog (c_pageExists t page) := by
  refine fn_intro tt_ok Tryd.func89 rfl Tryd.call89 Tryd.ntmps89 Tryd.results89 rfl rfl rfl rfl ?_
  intro X ρ0 hb_ hgl_
  dsimp only [c_pageExists]
  try refine nrm ?_
  repeat' (refine ar_id ?_; first | refine st1 ?_ | (first | ((first | refine ar_region tt_ok (inps := []) rfl ?_ ?_); rotate_left; (try refine nrm ?_); rotate_right) | refine ret3 ?_ | refine end3 ?_) | (refine ar_cond rfl trivial ?_ ?_ <;> intro hc_ <;> (try simp only [isNilI, inB, reduceCtorEq, cds] at hc_) <;> (try (first | contradiction | (exfalso; omega)))) | refine ar_until (And.intro ?_ (wk3 ?_)))
  all_goals (first | refine ar_id ?_ | (try (focus ((try refine nrmO ?_); (repeat' (first | exact True.intro | refine And.intro ?_ ?_)); all_goals (try (intro (hg_ : _ = true); (try simp only [isNilI, inB, reduceCtorEq, cds] at hg_); (repeat' (first | exact True.intro | refine And.intro ?_ ?_)))); all_goals (first | exact ob1 | skip)))))
  refine congrArg Value.bool ?_
  rw [cond_ite, Bool.eq_iff_iff]
  split <;> simp_all <;> omega
def c_PageEntryI (t : GTable) (page : Int) : CFD := ⟨85, [.agg [ro 75 2 eEntry t.Entries], (SV.one (.lit (.int .i64 (page))))], [], .sv (.agg [(CV.lit (.int .i64 ((pPageEntry t page).Mode))), (CV.lit (.int .i64 ((pPageEntry t page).Frame)))]), [], [], []⟩
theorem fn_PageEntryI (t : GTable) (page : Int) (hl : t.Entries.length ≤ 1048576) : Fn Tryd.prog (c_PageEntryI t page) := by
  refine fn_intro tt_ok Tryd.func85 rfl Tryd.call85 Tryd.ntmps85 Tryd.results85 rfl rfl rfl rfl ?_
  intro X ρ0 hb_ hgl_
  dsimp only [c_PageEntryI]
  try refine nrm ?_
  repeat' (refine ar_id ?_; first | refine st1 ?_ | (first | ((first | refine ar_region (id := 1) tt_ok (inps := [.call (c_pageExists t page)]) rfl ?_ ?_ | refine ar_region (id := 3) tt_ok (inps := [.elem (eEntry (t.Entries.getD page.toNat ⟨0, 0⟩))]) rfl ?_ ?_ | refine ar_region tt_ok (inps := []) rfl ?_ ?_); rotate_left; (try dsimp only [c_pageExists]); (try refine nrm ?_); rotate_right) | refine ret3 ?_ | refine end3 ?_) | (refine ar_cond rfl trivial ?_ ?_ <;> intro hc_ <;> (try simp only [isNilI, inB, reduceCtorEq, cds] at hc_) <;> (try (first | contradiction | (exfalso; omega)))) | refine ar_until (And.intro ?_ (wk3 ?_)))
  all_goals (first | refine ar_id ?_ | (try (focus ((try refine nrmO ?_); (repeat' (first | exact True.intro | refine And.intro ?_ ?_)); all_goals (try (intro (hg_ : _ = true); (try simp only [isNilI, inB, reduceCtorEq, cds] at hg_); (repeat' (first | exact True.intro | refine And.intro ?_ ?_)))); all_goals (first | exact ob1 | exact fn_pageExists _ _ hl | skip)))))
  all_goals unfold pPageEntry
  · rw [if_neg hc_]
  · rw [if_neg hc_]
  · rw [if_pos hc_]
  · rw [if_pos hc_]
end Eng
end Go.Proofs.YtabnglcabpijfaaDoor
namespace Go.Proofs.YtabnglcabpijfaaDoor
open Go.RowKit Go.Extern.Stop Go.Stop Go.Extern
set_option linter.unusedVariables false
namespace Is
theorem typeOf (v : Value) (w : World) : (Extern.ReflectliteType.typeOf #[.iface 130 v]).run Tryd.prog w = .ok (.iface 120 (.agg #[.pointer (some ⟨3, 130, none⟩)])) w := by kernel_rfl
theorem comparable (w : World) : (callFunc 108 #[.agg #[.pointer (some ⟨3, 130, none⟩)]]).run Tryd.prog w = .ok (.value (.bool true)) w := by kernel_rfl
theorem methodComparable (v : Value) (w : World) : (Go.method 268 120 v "Comparable").run Tryd.prog w = .ok (108, v) w := by kernel_rfl
theorem comp : (Tryd.prog.info? 130).map (·.comparable) = some true := by kernel_rfl
theorem size : (Tryd.prog.info? 156).map (·.size) = some 1 := by kernel_rfl
theorem noIs (v : Value) (xT : TypeId) (w : World) : (Instr.typeAssert (.iface 130 v) xT 122 true).run Tryd.prog w = .ok (.tuple #[.nilIface, .bool false]) w := run_typeAssert_lacksB Tryd.underlying122 (by kernel_rfl) (by kernel_rfl) v xT w
theorem noUnwrap (v : Value) (xT : TypeId) (w : World) : (Instr.typeAssert (.iface 130 v) xT 125 true).run Tryd.prog w = .ok (.tuple #[.nilIface, .bool false]) w := run_typeAssert_lacksB Tryd.underlying125 (by kernel_rfl) (by kernel_rfl) v xT w
theorem noUnwraps (v : Value) (xT : TypeId) (w : World) : (Instr.typeAssert (.iface 130 v) xT 127 true).run Tryd.prog w = .ok (.tuple #[.nilIface, .bool false]) w := run_typeAssert_lacksB Tryd.underlying127 (by kernel_rfl) (by kernel_rfl) v xT w
theorem same (a : Addr) (w : World) :
    Calls Tryd.prog 69 #[.iface 130 (.pointer (some a)), .iface 130 (.pointer (some a))] w fun e w' => e = .returned (.bool true) ∧ w' = w := by
  obtain ⟨i, hi, hcmp⟩ := Option.map_eq_some_iff.1 comp
  obtain ⟨j, hj, hjs⟩ := Option.map_eq_some_iff.1 size
  have h8 := @run_callFunc_extern Tryd.prog 86 _ Extern.ReflectliteType.typeOf Tryd.func86 (by kernel_rfl) (by kernel_rfl) (by kernel_rfl) (by kernel_rfl)
  have tT := typeOf
  have cT := comparable
  have mR := methodComparable
  have heq := run_eql_iface_ptr_same (P := Tryd.prog) w a Tryd.underlying77 Tryd.underlying130 hi hcmp hj
  go_enter Tryd.func69, Tryd.ntmps69
  go_wp2
  refine wp_loop_rounds 1 ?_
  rw [rounds_succ]
  go_wp2
  go_ret
  exact ⟨rfl, rfl⟩
theorem other (a b : Addr) (ca cb : Array Value) (ta tb : TypeId) (w : World) (hne : a ≠ b) (ha : w.heap[a.block]? = some (.cells ca ta (0, 0))) (hb : w.heap[b.block]? = some (.cells cb tb (0, 0))) :
    Calls Tryd.prog 69 #[.iface 130 (.pointer (some a)), .iface 130 (.pointer (some b))] w fun e w' => e = .returned (.bool false) ∧ w' = w := by
  obtain ⟨i, hi, hcmp⟩ := Option.map_eq_some_iff.1 comp
  obtain ⟨j, hj, hjs⟩ := Option.map_eq_some_iff.1 size
  have h8 := @run_callFunc_extern Tryd.prog 86 _ Extern.ReflectliteType.typeOf Tryd.func86 (by kernel_rfl) (by kernel_rfl) (by kernel_rfl) (by kernel_rfl)
  have tT := typeOf
  have cT := comparable
  have mR := methodComparable
  have nE := noIs
  have uE := noUnwrap
  have vE := noUnwraps
  have heq := run_eql_iface_ptr_other (P := Tryd.prog) w Tryd.underlying77 Tryd.underlying130 hi hcmp hj (by rw [hjs]; decide) hne ha hb
  go_enter Tryd.func69, Tryd.ntmps69
  go_wp2
  refine wp_loop_rounds 1 ?_
  rw [rounds_succ]
  go_wp2
  go_ret
  exact ⟨rfl, rfl⟩
end Is
end Go.Proofs.YtabnglcabpijfaaDoor
namespace Go.Proofs.YtabnglcabpijfaaDoor
open Go.RowKit
set_option linter.unusedVariables false
set_option linter.unusedSimpArgs false
set_option maxRecDepth 100000
namespace Eng
open Tr
/-- for each of n frames: a page is mapped to it -/
def fwL (l : List GEntry) (n : Nat) : List Bool := (List.range n).map fun i : Nat => decide (∃ e ∈ l, e.Mode ≠ 0 ∧ e.Frame = (i : Int))
theorem fwL_nil (n : Nat) : fwL [] n = List.replicate n false := by
  unfold fwL
  rw [List.eq_replicate_iff]
  simp
theorem fwL_len (l : List GEntry) (n : Nat) : (fwL l n).length = n := by simp [fwL]
theorem fwL_snoc (l : List GEntry) (e : GEntry) (n : Nat) : fwL (l ++ [e]) n = if e.Mode ≠ 0 ∧ 0 ≤ e.Frame then (fwL l n).set e.Frame.toNat true else fwL l n := by
  refine List.ext_getElem? fun i => ?_
  have h0 : ∀ (l : List GEntry), (fwL l n)[i]? = if i < n then some (decide (∃ e ∈ l, e.Mode ≠ 0 ∧ e.Frame = (i : Int))) else none := by
    intro l
    unfold fwL
    rw [List.getElem?_map]
    split
    · rw [List.getElem?_range (by assumption)]; rfl
    · rw [List.getElem?_eq_none (by simp; omega)]; rfl
  rw [h0]
  by_cases hi : i < n
  · rw [if_pos hi]
    by_cases he : e.Mode ≠ 0 ∧ 0 ≤ e.Frame
    · rw [if_pos he, List.getElem?_set, fwL_len]
      by_cases hf : e.Frame.toNat = i
      · rw [if_pos hf, if_pos (by omega), decide_eq_true ⟨e, by simp, he.1, by omega⟩]
      · rw [if_neg hf, h0, if_pos hi]
        congr 1
        rw [decide_eq_decide]
        constructor
        · rintro ⟨x, hx, h1, h2⟩
          rw [List.mem_append, List.mem_singleton] at hx
          rcases hx with hx | rfl
          · exact ⟨x, hx, h1, h2⟩
          · omega
        · rintro ⟨x, hx, h1, h2⟩; exact ⟨x, by simp [hx], h1, h2⟩
    · rw [if_neg he, h0, if_pos hi]
      congr 1
      rw [decide_eq_decide]
      constructor
      · rintro ⟨x, hx, h1, h2⟩
        rw [List.mem_append, List.mem_singleton] at hx
        rcases hx with hx | rfl
        · exact ⟨x, hx, h1, h2⟩
        · exact absurd ⟨h1, by omega⟩ he
      · rintro ⟨x, hx, h1, h2⟩; exact ⟨x, by simp [hx], h1, h2⟩
  · rw [if_neg hi]
    split
    · rw [List.getElem?_set, fwL_len, h0]
      split <;> (try split) <;> first | rfl | omega
    · rw [h0, if_neg hi]
def c_fwp (t : GTable) (n : Nat) : CFD := ⟨65, [.agg [ro 75 2 eEntry t.Entries], (SV.one (.lit (.int .i64 ((n : Int)))))], [], .sv (.one (.hd 0)), [(0, some (.row 4 1 ((fwL t.Entries n).map Tr.eB)))], [0], []⟩
theorem fn_fwp (t : GTable) (n : Nat) (hl : t.Entries.length ≤ 1048576) (hn : n ≤ 1048576) (hok : ∀ e ∈ t.Entries, okE n e) : Fn Tryd.prog (c_fwp t n) := by
  refine fn_intro tt_ok Tryd.func65 rfl Tryd.call65 Tryd.ntmps65 Tryd.results65 rfl rfl rfl rfl ?_
  intro X ρ0 hb_ hgl_
  dsimp only [c_fwp]
  try refine nrm ?_
  repeat' (refine ar_id ?_; first | refine st1 ?_ | (first | ((first | refine ar_region tt_ok (inps := []) rfl ?_ ?_); rotate_left; (try refine nrm ?_); rotate_right) | refine ret3 ?_ | refine end3 ?_) | (refine ar_cond rfl trivial ?_ ?_ <;> intro hc_ <;> (try simp only [isNilI, inB, reduceCtorEq, cds] at hc_) <;> (try (first | contradiction | (exfalso; omega)))) | refine ar_until (And.intro ?_ (wk3 ?_)))
  all_goals (first | refine ar_id ?_ | (try (focus ((try refine nrmO ?_); (repeat' (first | exact True.intro | refine And.intro ?_ ?_)); all_goals (try (intro (hg_ : _ = true); (try simp only [isNilI, inB, reduceCtorEq, cds] at hg_); (repeat' (first | exact True.intro | refine And.intro ?_ ?_)))); all_goals (first | exact ob1 | skip)))))
  refine ar_keep 14519 (by dsimp only [keepS] <;> exact rfl) ?_
  refine ar_forM (t.Entries.length) (fun i => True) (fun i => [(13, (TV.sv (.one (.lit (.int .i64 (i)))))), (5, (TV.sv (.one (.hd 9))))]) (fun i => [(9, some (.row 4 1 ((fwL (t.Entries.take i) n).map Tr.eB)))]) ?_ ?_ ?_
  rotate_left
  · first | trivial | simp
  (dsimp only [rnCap, capSVs, Int.toNat_natCast, ro, Nat.reduceAdd, Nat.reduceMul, Nat.zero_add, List.map, putT, app, wrapG, gOb, argT, keys, slotOf, dropped, gAnd, wB, rnT, rnS, rnC, rnCs, rnSs, rnM, rnB, rnN, rn, lk, St.over, ded, delL, keepT, menT, menSs, menS, menCs, menC, hasN, resT, SV.cells]; refine wk3 ?_; (focus ((try refine nrmO ?_); (repeat' (first | exact True.intro | refine And.intro ?_ ?_)); all_goals (try (intro (hg_ : _ = true); (try simp only [isNilI, inB, reduceCtorEq, cds] at hg_); (repeat' (first | exact True.intro | refine And.intro ?_ ?_)))); all_goals (first | exact ob1 | exact rfl | skip))))
  rotate_right
  intro i hi_ hiI_
  dsimp only [rnCap, capSVs, Int.toNat_natCast, ro, Nat.reduceAdd, Nat.reduceMul, Nat.zero_add, List.map, putT, app, wrapG, gOb, argT, keys, slotOf, dropped, gAnd, wB, rnT, rnS, rnC, rnCs, rnSs, rnM, rnB, rnN, rn, lk, St.over, ded, delL, keepT, menT, menSs, menS, menCs, menC, hasN, resT, SV.cells]
  repeat' (refine ar_id ?_; first | refine st1 ?_ | (first | ((first | refine ar_region (id := 4) tt_ok (inps := [.elem (eEntry (t.Entries.getD i ⟨0, 0⟩))]) rfl ?_ ?_ | refine ar_region (id := 5) tt_ok (inps := [.call (c_isMapped (t.Entries.getD i ⟨0, 0⟩).Mode (t.Entries.getD i ⟨0, 0⟩).Frame)]) rfl ?_ ?_ | refine ar_region (id := 6) tt_ok (inps := [.elem (Tr.eB ((fwL (t.Entries.take i) n).getD (t.Entries.getD i ⟨0, 0⟩).Frame.toNat false))]) rfl ?_ ?_ | refine ar_region tt_ok (inps := []) rfl ?_ ?_); rotate_left; (try dsimp only [c_isMapped]); (try refine nrm ?_); rotate_right) | refine ret3 ?_ | refine end3 ?_) | (refine ar_cond rfl trivial ?_ ?_ <;> intro hc_ <;> (try simp only [isNilI, inB, reduceCtorEq, cds] at hc_) <;> (try (first | contradiction | (exfalso; omega)))) | refine ar_until (And.intro ?_ (wk3 ?_)))
  all_goals (first | refine ar_id ?_ | (try (focus ((try refine nrmO ?_); (repeat' (first | exact True.intro | refine And.intro ?_ ?_)); all_goals (try (intro (hg_ : _ = true); (try simp only [isNilI, inB, reduceCtorEq, cds] at hg_); (repeat' (first | exact True.intro | refine And.intro ?_ ?_)))); all_goals (first | exact ob1 | exact fn_isMapped _ _ | skip)))))
  · have := hok _ (getD_in (l := t.Entries) (i := i) (d := ⟨0, 0⟩) (by omega)); unfold okE at this; omega
  · have := hok _ (getD_in (l := t.Entries) (i := i) (d := ⟨0, 0⟩) (by omega)); unfold okE at this; rw [List.length_map, fwL_len]; omega
  · have := hok _ (getD_in (l := t.Entries) (i := i) (d := ⟨0, 0⟩) (by omega)); unfold okE at this; exact map_at (by rw [fwL_len]; omega)
  · have := hok _ (getD_in (l := t.Entries) (i := i) (d := ⟨0, 0⟩) (by omega)); unfold okE at this
    rw [take_getD _ ⟨0, 0⟩ (by omega), fwL_snoc, if_pos ⟨hc_, by omega⟩]
    exact List.map_set.symm
  · rw [take_getD _ ⟨0, 0⟩ (by omega), fwL_snoc, if_neg (fun h => h.1 hc_)]
  · rw [List.take_of_length_le (by omega)]
  · rw [List.take_zero, fwL_nil, List.map_replicate]; rfl
def c_EqualB (a b : List Bool) : CFD := ⟨64, [.one (ro 4 1 Tr.eB a), .one (ro 4 1 Tr.eB b)], [], (TV.sv (.one (.lit (.bool (decide (a = b)))))), [], [], []⟩
theorem fn_EqualB (a b : List Bool) (hl : a.length ≤ 1048576) (hb : b.length ≤ 1048576) : Fn Tryd.prog (c_EqualB a b) := by
  refine fn_intro tt_ok Tryd.func64 rfl Tryd.call64 Tryd.ntmps64 Tryd.results64 rfl rfl rfl rfl ?_
  intro X ρ0 hb_ hgl_
  dsimp only [c_EqualB]
  try refine nrm ?_
  repeat' (refine ar_id ?_; first | refine st1 ?_ | (first | ((first | refine ar_region tt_ok (inps := []) rfl ?_ ?_); rotate_left; (try refine nrm ?_); rotate_right) | refine ret3 ?_ | refine end3 ?_) | (refine ar_cond rfl trivial ?_ ?_ <;> intro hc_ <;> (try simp only [isNilI, inB, reduceCtorEq, cds] at hc_) <;> (try (first | contradiction | (exfalso; omega)))) | refine ar_until (And.intro ?_ (wk3 ?_)))
  all_goals (first | refine ar_id ?_ | (try (focus ((try refine nrmO ?_); (repeat' (first | exact True.intro | refine And.intro ?_ ?_)); all_goals (try (intro (hg_ : _ = true); (try simp only [isNilI, inB, reduceCtorEq, cds] at hg_); (repeat' (first | exact True.intro | refine And.intro ?_ ?_)))); all_goals (first | exact ob1 | skip)))))
  · exact bf fun h => hc_ (by rw [h])
  have hlen := hc_
  refine ar_keep 12339 (by dsimp only [keepS] <;> exact rfl) ?_
  refine ar_forM (a.length) (fun i => a.take i = b.take i) (fun i => [(13, (TV.sv (.one (.lit (.int .i64 (i))))))]) (fun i => []) ?_ ?_ ?_
  rotate_left
  · first | trivial | simp
  (dsimp only [rnCap, capSVs, Int.toNat_natCast, ro, Nat.reduceAdd, Nat.reduceMul, Nat.zero_add, List.map, putT, app, wrapG, gOb, argT, keys, slotOf, dropped, gAnd, wB, rnT, rnS, rnC, rnCs, rnSs, rnM, rnB, rnN, rn, lk, St.over, ded, delL, keepT, menT, menSs, menS, menCs, menC, hasN, resT, SV.cells]; refine wk3 ?_; (focus ((try refine nrmO ?_); (repeat' (first | exact True.intro | refine And.intro ?_ ?_)); all_goals (try (intro (hg_ : _ = true); (try simp only [isNilI, inB, reduceCtorEq, cds] at hg_); (repeat' (first | exact True.intro | refine And.intro ?_ ?_)))); all_goals (first | exact ob1 | exact rfl | skip))))
  rotate_right
  intro i hi_ hiI_
  dsimp only [rnCap, capSVs, Int.toNat_natCast, ro, Nat.reduceAdd, Nat.reduceMul, Nat.zero_add, List.map, putT, app, wrapG, gOb, argT, keys, slotOf, dropped, gAnd, wB, rnT, rnS, rnC, rnCs, rnSs, rnM, rnB, rnN, rn, lk, St.over, ded, delL, keepT, menT, menSs, menS, menCs, menC, hasN, resT, SV.cells]
  repeat' (refine ar_id ?_; first | refine st1 ?_ | (first | ((first | refine ar_draw (id := 6) (inps := [.elem (Tr.eB (a.getD i false)), .elem (Tr.eB (b.getD i false))]) tt_ok (by kernel_rfl) rfl rfl (by kernel_rfl) rfl rfl rfl rfl ?_ ?_ | refine ar_region tt_ok (inps := []) rfl ?_ ?_); rotate_left; (try refine nrm ?_); rotate_right) | refine ret3 ?_ | refine end3 ?_) | (refine ar_cond rfl trivial ?_ ?_ <;> intro hc_ <;> (try simp only [isNilI, inB, reduceCtorEq, cds] at hc_) <;> (try (first | contradiction | (exfalso; omega)))) | refine ar_until (And.intro ?_ (wk3 ?_)))
  all_goals (first | refine ar_id ?_ | (try (focus ((try refine nrmO ?_); (repeat' (first | exact True.intro | refine And.intro ?_ ?_)); all_goals (try (intro (hg_ : _ = true); (try simp only [isNilI, inB, reduceCtorEq, cds] at hg_); (repeat' (first | exact True.intro | refine And.intro ?_ ?_)))); all_goals (first | exact ob1 | skip)))))
  · refine bf fun h => ?_
    subst h
    simp at hc_
  · rw [take_getD a false (by omega), take_getD b false (by omega), hiI_]
    simpa using hc_
  · refine bt ?_
    rw [List.take_of_length_le (by omega), List.take_of_length_le (by omega)] at hiI_
    exact hiI_
theorem onFrame_pos (f : Int) : ∀ (i : Nat) (l : List GEntry), 0 < (onFrame f i l).length ↔ ∃ e ∈ l, e.Mode ≠ 0 ∧ e.Frame = f
  | _, [] => by simp [onFrame]
  | i, e :: l => by
    have ih := onFrame_pos f (i + 1) l
    show 0 < (_ ++ onFrame f (i + 1) l).length ↔ _
    rw [List.length_append]
    by_cases h : e.Mode ≠ 0 ∧ e.Frame = f
    · rw [if_pos h]
      exact ⟨fun _ => ⟨e, by simp, h⟩, fun _ => by simp; omega⟩
    · rw [if_neg h]
      simp only [List.length_nil, Nat.zero_add, ih]
      constructor
      · rintro ⟨x, hx, h1⟩; exact ⟨x, by simp [hx], h1⟩
      · rintro ⟨x, hx, h1⟩
        rw [List.mem_cons] at hx
        rcases hx with rfl | hx
        · exact absurd h1 h
        · exact ⟨x, hx, h1⟩
theorem used_iff (m : GMachine) : usedAre m ↔ m.Frames.Used = fwL m.Table.Entries m.Frames.Used.length := by
  have h0 : ∀ i, i < m.Frames.Used.length → (fwL m.Table.Entries m.Frames.Used.length)[i]? = some (decide (0 < (pPagesOn m.Table (i : Int)).length)) := by
    intro i hi
    unfold fwL pPagesOn
    rw [List.getElem?_map, List.getElem?_range hi, Option.map_some]
    congr 1
    rw [decide_eq_decide, onFrame_pos]
  constructor
  · intro h
    refine List.ext_getElem? fun i => ?_
    rcases Nat.lt_or_ge i m.Frames.Used.length with hi | hi
    · rw [h i hi, h0 i hi]
    · rw [List.getElem?_eq_none hi, List.getElem?_eq_none (by rw [fwL_len]; exact hi)]
  · intro h i hi
    rw [← h0 i hi, ← h]
/-- a machine that can be read: its slices are not too long -/
structure szM (m : GMachine) : Prop where
  c : m.Frames.Cells.length ≤ 1048576
  u : m.Frames.Used.length ≤ 1048576
  r : ∀ r ∈ m.Frames.Cells, r.length ≤ 1048576
  e : m.Table.Entries.length ≤ 1048576
def c_MOkI (m : GMachine) : CFD := ⟨39, [.agg [ro 31 1 eIntS m.Frames.Cells, ro 4 1 Tr.eB m.Frames.Used, ro 75 2 eEntry m.Table.Entries]], [], (TV.sv (.one (.lit (.bool (pMachineOk m))))), [], [], []⟩
theorem fn_MOkI (m : GMachine) (hs : szM m) : Fn Tryd.prog (c_MOkI m) := by
  refine fn_intro tt_ok Tryd.func39 rfl Tryd.call39 Tryd.ntmps39 Tryd.results39 rfl rfl rfl rfl ?_
  intro X ρ0 hb_ hgl_
  dsimp only [c_MOkI]
  try refine nrm ?_
  repeat' (refine ar_id ?_; first | refine st1 ?_ | (first | ((first | refine ar_region (id := 1) tt_ok (inps := [.call (c_FramesOkI m.Frames), .call (c_TableOkI m.Table m.Frames.Used.length)]) rfl ?_ ?_ | refine ar_region tt_ok (inps := []) rfl ?_ ?_); rotate_left; (try dsimp only [c_FramesOkI, c_TableOkI]); (try refine nrm ?_); rotate_right) | refine ret3 ?_ | refine end3 ?_) | (refine ar_cond rfl trivial ?_ ?_ <;> intro hc_ <;> (try simp only [isNilI, inB, reduceCtorEq, cds] at hc_) <;> (try (first | contradiction | (exfalso; omega)))) | refine ar_until (And.intro ?_ (wk3 ?_)))
  all_goals (first | refine ar_id ?_ | (try (focus ((try refine nrmO ?_); (repeat' (first | exact True.intro | refine And.intro ?_ ?_)); all_goals (try (intro (hg_ : _ = true); (try simp only [isNilI, inB, reduceCtorEq, cds] at hg_); (repeat' (first | exact True.intro | refine And.intro ?_ ?_)))); all_goals (first | exact ob1 | exact fn_FramesOkI _ hs.c hs.u hs.r | exact fn_TableOkI _ _ hs.e | skip)))))
  · refine bf fun h => ?_
    rcases hc_ with hc_ | hc_
    · rw [show pFramesOk m.Frames = true from decide_eq_true h.1] at hc_; cases hc_
    · rw [h.1.2.1, h.2.1] at hc_; cases hc_
  have hok := of_decide_eq_true hc_.1
  repeat' (refine ar_id ?_; first | refine st1 ?_ | (first | ((first | refine ar_draw (id := 3) (inps := [.call (c_fwp m.Table m.Frames.Used.length), .call (c_EqualB m.Frames.Used (fwL m.Table.Entries m.Frames.Used.length))]) tt_ok (by kernel_rfl) rfl rfl (by kernel_rfl) rfl rfl rfl rfl ?_ ?_ | refine ar_region tt_ok (inps := []) rfl ?_ ?_); rotate_left; (try dsimp only [c_EqualB, c_fwp]); (try refine nrm ?_); rotate_right) | refine ret3 ?_ | refine end3 ?_) | (refine ar_cond rfl trivial ?_ ?_ <;> intro hc_ <;> (try simp only [isNilI, inB, reduceCtorEq, cds] at hc_) <;> (try (first | contradiction | (exfalso; omega)))) | refine ar_until (And.intro ?_ (wk3 ?_)))
  all_goals (first | refine ar_id ?_ | (try (focus ((try refine nrmO ?_); (repeat' (first | exact True.intro | refine And.intro ?_ ?_)); all_goals (try (intro (hg_ : _ = true); (try simp only [isNilI, inB, reduceCtorEq, cds] at hg_); (repeat' (first | exact True.intro | refine And.intro ?_ ?_)))); all_goals (first | exact ob1 | exact fn_EqualB _ _ hs.u (by rw [fwL_len]; exact hs.u) | exact fn_fwp _ _ hs.e hs.u (of_decide_eq_true hc_.2).1 | skip)))))
  refine congrArg Value.bool ?_
  show _ = decide (okM m)
  rw [decide_eq_decide]
  exact ⟨fun h => ⟨hok, by rw [← hok.2.1]; exact hc_.2, (used_iff m).2 h⟩, fun h => (used_iff m).1 h.2.2⟩
def c_CopyMI (m : GMachine) : CFD := ⟨37, [.agg [ro 31 1 eIntS m.Frames.Cells, ro 4 1 Tr.eB m.Frames.Used, ro 75 2 eEntry m.Table.Entries]], [], .sv (.agg [.hd 0, .hd 1, .hd 2]),
  [(0, some (.row 31 1 (m.Frames.Cells.map eIntS))), (1, some (.row 4 1 (m.Frames.Used.map Tr.eB))), (2, some (.row 75 2 (m.Table.Entries.map eEntry)))], [0, 1, 2], []⟩
theorem fn_CopyMI (m : GMachine) (hs : szM m) : Fn Tryd.prog (c_CopyMI m) := by
  refine fn_intro tt_ok Tryd.func37 rfl Tryd.call37 Tryd.ntmps37 Tryd.results37 rfl rfl rfl rfl ?_
  intro X ρ0 hb_ hgl_
  dsimp only [c_CopyMI]
  try refine nrm ?_
  repeat' (refine ar_id ?_; first | refine st1 ?_ | (first | ((first | refine ar_draw (id := 1) (inps := [.call (c_Copy5I m.Frames), .call (c_CloneE m.Table.Entries)]) tt_ok (by kernel_rfl) rfl rfl (by kernel_rfl) rfl rfl rfl rfl ?_ ?_ | refine ar_region tt_ok (inps := []) rfl ?_ ?_); rotate_left; (try dsimp only [c_CloneE, c_Copy5I]); (try refine nrm ?_); rotate_right) | refine ret3 ?_ | refine end3 ?_) | (refine ar_cond rfl trivial ?_ ?_ <;> intro hc_ <;> (try simp only [isNilI, inB, reduceCtorEq, cds] at hc_) <;> (try (first | contradiction | (exfalso; omega)))) | refine ar_until (And.intro ?_ (wk3 ?_)))
  all_goals (first | refine ar_id ?_ | (try (focus ((try refine nrmO ?_); (repeat' (first | exact True.intro | refine And.intro ?_ ?_)); all_goals (try (intro (hg_ : _ = true); (try simp only [isNilI, inB, reduceCtorEq, cds] at hg_); (repeat' (first | exact True.intro | refine And.intro ?_ ?_)))); all_goals (first | exact ob1 | exact fn_Copy5I _ hs.c hs.u hs.r | exact fn_CloneE _ hs.e | skip)))))
/-- the sentinel of a page that is not mapped -/
def eP (a : Addr) : Value := .iface 130 (.pointer (some a))
def gP (a : Addr) (ty : Nat) : Glb := ⟨2, [eP a], ty, (0, 0)⟩
def canMap (m : GMachine) (page : Int) : Prop := okM m ∧ (pPageEntry m.Table page).Mode ≠ 0
instance (m : GMachine) (page : Int) : Decidable (canMap m page) := by unfold canMap; infer_instance
def mapE (m : GMachine) (page : Int) : GEntry := if canMap m page then pPageEntry m.Table page else ⟨0, 0⟩
def errP (a : Addr) (m : GMachine) (page : Int) : Value := if canMap m page then .nilIface else eP a
def c_mapped (a : Addr) (ty : Nat) (m : GMachine) (page : Int) : CFD := ⟨66, [.agg [ro 31 1 eIntS m.Frames.Cells, ro 4 1 Tr.eB m.Frames.Used, ro 75 2 eEntry m.Table.Entries], (SV.one (.lit (.int .i64 (page))))], [],
  .tup [.agg [(CV.lit (.int .i64 ((mapE m page).Mode))), (CV.lit (.int .i64 ((mapE m page).Frame)))], .one (.lit (errP a m page))], [], [], [gP a ty]⟩
theorem fn_mapped (a : Addr) (ty : Nat) (m : GMachine) (page : Int) (hs : szM m) : Fn Tryd.prog (c_mapped a ty m page) := by
  refine fn_intro tt_ok Tryd.func66 rfl Tryd.call66 Tryd.ntmps66 Tryd.results66 rfl rfl rfl rfl ?_
  intro X ρ0 hb_ hgl_
  dsimp only [c_mapped]
  try refine nrm ?_
  repeat' (refine ar_id ?_; first | refine st1 ?_ | (first | ((first | refine ar_region (id := 1) tt_ok (inps := [.call (c_PageEntryI m.Table page)]) rfl ?_ ?_ | refine ar_region (id := 2) tt_ok (inps := [.call (c_MOkI m), .call (c_isMapped (pPageEntry m.Table page).Mode (pPageEntry m.Table page).Frame)]) rfl ?_ ?_ | refine ar_draw (id := 3) (inps := [.glob (gP a ty) [eP a]]) tt_ok (by kernel_rfl) rfl rfl (by kernel_rfl) rfl rfl rfl rfl ?_ ?_ | refine ar_region tt_ok (inps := []) rfl ?_ ?_); rotate_left; (try dsimp only [c_MOkI, c_PageEntryI, c_isMapped]); (try refine nrm ?_); rotate_right) | refine ret3 ?_ | refine end3 ?_) | (refine ar_cond rfl trivial ?_ ?_ <;> intro hc_ <;> (try simp only [isNilI, inB, reduceCtorEq, cds] at hc_) <;> (try (first | contradiction | (exfalso; omega)))) | refine ar_until (And.intro ?_ (wk3 ?_)))
  all_goals (first | refine ar_id ?_ | (try (focus ((try refine nrmO ?_); (repeat' (first | exact True.intro | refine And.intro ?_ ?_)); all_goals (try (intro (hg_ : _ = true); (try simp only [isNilI, inB, reduceCtorEq, cds] at hg_); (repeat' (first | exact True.intro | refine And.intro ?_ ?_)))); all_goals (first | exact ob1 | exact fn_PageEntryI _ _ hs.e | exact fn_MOkI _ hs | exact fn_isMapped _ _ | exact hgl_.1 | exact rfl | exact one1 rfl | skip)))))
  all_goals (try (
    have hcm : ¬ canMap m page := fun h => by
      rcases hc_ with hc_ | hc_
      · rw [show pMachineOk m = true from decide_eq_true h.1] at hc_; cases hc_
      · exact h.2 hc_
    unfold mapE
    rw [if_neg hcm]; done))
  · exact (if_neg (fun h => by
      rcases hc_ with hc_ | hc_
      · rw [show pMachineOk m = true from decide_eq_true h.1] at hc_; cases hc_
      · exact h.2 hc_)).symm
  all_goals have hcm : canMap m page := ⟨of_decide_eq_true hc_.1, hc_.2⟩
  · unfold mapE; rw [if_pos hcm]
  · unfold mapE; rw [if_pos hcm]
  · exact (if_pos hcm).symm
def pgOf (addr : Int) : Int := if addr < 0 then -1 else addr.tdiv 16
def c_pageOf (addr : Int) : CFD := ⟨67, [(SV.one (.lit (.int .i64 (addr))))], [], (TV.sv (.one (.lit (.int .i64 (pgOf addr))))), [], [], []⟩
theorem fn_pageOf (addr : Int) (h : okI addr) : Fn Tryd.prog (c_pageOf addr) := by
  refine fn_intro tt_ok Tryd.func67 rfl Tryd.call67 Tryd.ntmps67 Tryd.results67 rfl rfl rfl rfl ?_
  intro X ρ0 hb_ hgl_
  dsimp only [c_pageOf]
  try refine nrm ?_
  repeat' (refine ar_id ?_; first | refine st1 ?_ | (first | ((first | refine ar_region tt_ok (inps := []) rfl ?_ ?_); rotate_left; (try refine nrm ?_); rotate_right) | refine ret3 ?_ | refine end3 ?_) | (refine ar_cond rfl trivial ?_ ?_ <;> intro hc_ <;> (try simp only [isNilI, inB, reduceCtorEq, cds] at hc_) <;> (try (first | contradiction | (exfalso; omega)))) | refine ar_until (And.intro ?_ (wk3 ?_)))
  all_goals (first | refine ar_id ?_ | (try (focus ((try refine nrmO ?_); (repeat' (first | exact True.intro | refine And.intro ?_ ?_)); all_goals (try (intro (hg_ : _ = true); (try simp only [isNilI, inB, reduceCtorEq, cds] at hg_); (repeat' (first | exact True.intro | refine And.intro ?_ ?_)))); all_goals (first | exact ob1 | skip)))))
  · unfold pgOf; rw [if_pos hc_]
  · have h1 := h.1; have h2 := h.2; rw [Int.tdiv_eq_ediv_of_nonneg hc_]; exact i64_ok (by omega) (by omega)
  · unfold pgOf; rw [if_neg (by omega)]
/-- the page is mapped; it is not -/
def c_mapY (a : Addr) (ty : Nat) (m : GMachine) (page : Int) : CFD := ⟨66, [.agg [ro 31 1 eIntS m.Frames.Cells, ro 4 1 Tr.eB m.Frames.Used, ro 75 2 eEntry m.Table.Entries], (SV.one (.lit (.int .i64 (page))))], [],
  .tup [.agg [(CV.lit (.int .i64 ((pPageEntry m.Table page).Mode))), (CV.lit (.int .i64 ((pPageEntry m.Table page).Frame)))], .one (.lit .nilIface)], [], [], [gP a ty]⟩
def c_mapN (a : Addr) (ty : Nat) (m : GMachine) (page : Int) : CFD := ⟨66, [.agg [ro 31 1 eIntS m.Frames.Cells, ro 4 1 Tr.eB m.Frames.Used, ro 75 2 eEntry m.Table.Entries], (SV.one (.lit (.int .i64 (page))))], [],
  .tup [.agg [(CV.lit (.int .i64 (0))), (CV.lit (.int .i64 (0)))], .one (.lit (.iface 130 (.pointer (some a))))], [], [], [gP a ty]⟩
theorem fn_mapY (a : Addr) (ty : Nat) (m : GMachine) (page : Int) (hs : szM m) (h : canMap m page) : Fn Tryd.prog (c_mapY a ty m page) := by
  have := fn_mapped a ty m page hs
  unfold c_mapped mapE errP at this
  rw [if_pos h, if_pos h] at this
  exact this
theorem fn_mapN (a : Addr) (ty : Nat) (m : GMachine) (page : Int) (hs : szM m) (h : ¬ canMap m page) : Fn Tryd.prog (c_mapN a ty m page) := by
  have := fn_mapped a ty m page hs
  unfold c_mapped mapE errP at this
  rw [if_neg h, if_neg h] at this
  exact this
theorem canMap_frame {m : GMachine} {page : Int} (h : canMap m page) : 0 ≤ (pPageEntry m.Table page).Frame ∧ (pPageEntry m.Table page).Frame < (m.Frames.Cells.length : Int) ∧ (m.Frames.Cells.getD (pPageEntry m.Table page).Frame.toNat []).length = 16 ∧ m.Frames.Cells[(pPageEntry m.Table page).Frame.toNat]? = some (m.Frames.Cells.getD (pPageEntry m.Table page).Frame.toNat []) := by
  obtain ⟨f, hf, h1, h2, h3, h4⟩ := okM_entry h.1 h.2
  rw [hf, Int.toNat_natCast]
  exact ⟨by omega, by omega, h3, h4⟩
/-- the three sentinels -/
structure Se where
  (aP aW aV : Addr)
  (cP cW cV : List Value)
  (tP tW tV uP uW uV : Nat)
  n1 : aP ≠ aW
  n2 : aP ≠ aV
  n3 : aW ≠ aV
def gW (a : Addr) (ty : Nat) : Glb := ⟨0, [eP a], ty, (0, 0)⟩
def gV (a : Addr) (ty : Nat) : Glb := ⟨1, [eP a], ty, (0, 0)⟩
def Se.gl (s : Se) : List Glb := [gP s.aP s.uP, gW s.aW s.uW, gV s.aV s.uV, ⟨s.aP.block, s.cP, s.tP, (0, 0)⟩, ⟨s.aW.block, s.cW, s.tW, (0, 0)⟩, ⟨s.aV.block, s.cV, s.tV, (0, 0)⟩]
def c_Is (s : Se) (x y : Addr) (b : Bool) : CFD := ⟨69, [.one (.lit (.iface 130 (.pointer (some x)))), .one (.lit (.iface 130 (.pointer (some y))))], [], (TV.sv (.one (.lit (.bool (b))))), [], [], s.gl⟩
theorem fn_IsT (s : Se) (x : Addr) : Fn Tryd.prog (c_Is s x x true) :=
  fn_still (vs := [.iface 130 (.pointer (some x)), .iface 130 (.pointer (some x))]) rfl (fun w _ => Is.same x w) Tryd.call69
theorem fn_IsF (s : Se) (x y : Addr) {cx cy : List Value} {tx ty : Nat} (hne : x ≠ y) (hx : (⟨x.block, cx, tx, (0, 0)⟩ : Glb) ∈ s.gl) (hy : (⟨y.block, cy, ty, (0, 0)⟩ : Glb) ∈ s.gl) : Fn Tryd.prog (c_Is s x y false) :=
  fn_still (vs := [.iface 130 (.pointer (some x)), .iface 130 (.pointer (some y))]) rfl (fun w h => Is.other x y _ _ _ _ w hne (h _ hx) (h _ hy)) Tryd.call69
theorem Se.mP (s : Se) : (⟨s.aP.block, s.cP, s.tP, (0, 0)⟩ : Glb) ∈ s.gl := by simp [Se.gl]
theorem Se.mW (s : Se) : (⟨s.aW.block, s.cW, s.tW, (0, 0)⟩ : Glb) ∈ s.gl := by simp [Se.gl]
theorem Se.mV (s : Se) : (⟨s.aV.block, s.cV, s.tV, (0, 0)⟩ : Glb) ∈ s.gl := by simp [Se.gl]
def c_fault (s : Se) (x : Addr) (k : Int) : CFD := ⟨41, [.one (.lit (.iface 130 (.pointer (some x))))], [], (TV.sv (.one (.lit (.int .i64 (k))))), [], [], s.gl⟩
theorem fn_faultP (s : Se) : Fn Tryd.prog (c_fault s s.aP 1) := by
  refine fn_intro tt_ok Tryd.func41 rfl Tryd.call41 Tryd.ntmps41 Tryd.results41 rfl rfl rfl rfl ?_
  intro X ρ0 hb_ hgl_
  dsimp only [c_fault]
  try refine nrm ?_
  repeat' (refine ar_id ?_; first | refine st1 ?_ | (first | ((first | refine ar_region (id := 1) tt_ok (inps := [.glob (gP s.aP s.uP) [.iface 130 (.pointer (some s.aP))], .call (c_Is s s.aP s.aP true)]) rfl ?_ ?_ | refine ar_region tt_ok (inps := []) rfl ?_ ?_); rotate_left; (try dsimp only [c_Is]); (try refine nrm ?_); rotate_right) | refine ret3 ?_ | refine end3 ?_) | (refine ar_cond rfl trivial ?_ ?_ <;> intro hc_ <;> (try simp only [isNilI, inB, reduceCtorEq, cds] at hc_) <;> (try (first | contradiction | (exfalso; omega)))) | refine ar_until (And.intro ?_ (wk3 ?_)))
  all_goals (first | refine ar_id ?_ | (try (focus ((try refine nrmO ?_); (repeat' (first | exact True.intro | refine And.intro ?_ ?_)); all_goals (try (intro (hg_ : _ = true); (try simp only [isNilI, inB, reduceCtorEq, cds] at hg_); (repeat' (first | exact True.intro | refine And.intro ?_ ?_)))); all_goals (first | exact ob1 | exact hgl_.1 | exact hgl_.2.1 | exact hgl_.2.2.1 | exact hgl_.2.2.2.1 | exact hgl_.2.2.2.2.1 | exact hgl_.2.2.2.2.2.1 | exact hgl_.2.2.2.2.2.2.1 | exact hgl_.2.2.2.2.2.2.2.1 | exact hgl_ | exact rfl | exact one1 rfl | exact fn_IsT _ _ | skip)))))
theorem fn_faultW (s : Se) : Fn Tryd.prog (c_fault s s.aW 2) := by
  refine fn_intro tt_ok Tryd.func41 rfl Tryd.call41 Tryd.ntmps41 Tryd.results41 rfl rfl rfl rfl ?_
  intro X ρ0 hb_ hgl_
  dsimp only [c_fault]
  try refine nrm ?_
  repeat' (refine ar_id ?_; first | refine st1 ?_ | (first | ((first | refine ar_region (id := 1) tt_ok (inps := [.glob (gP s.aP s.uP) [.iface 130 (.pointer (some s.aP))], .call (c_Is s s.aW s.aP false)]) rfl ?_ ?_ | refine ar_region (id := 3) tt_ok (inps := [.glob (gW s.aW s.uW) [.iface 130 (.pointer (some s.aW))], .call (c_Is s s.aW s.aW true)]) rfl ?_ ?_ | refine ar_region tt_ok (inps := []) rfl ?_ ?_); rotate_left; (try dsimp only [c_Is]); (try refine nrm ?_); rotate_right) | refine ret3 ?_ | refine end3 ?_) | (refine ar_cond rfl trivial ?_ ?_ <;> intro hc_ <;> (try simp only [isNilI, inB, reduceCtorEq, cds] at hc_) <;> (try (first | contradiction | (exfalso; omega)))) | refine ar_until (And.intro ?_ (wk3 ?_)))
  all_goals (first | refine ar_id ?_ | (try (focus ((try refine nrmO ?_); (repeat' (first | exact True.intro | refine And.intro ?_ ?_)); all_goals (try (intro (hg_ : _ = true); (try simp only [isNilI, inB, reduceCtorEq, cds] at hg_); (repeat' (first | exact True.intro | refine And.intro ?_ ?_)))); all_goals (first | exact ob1 | exact hgl_.1 | exact hgl_.2.1 | exact hgl_.2.2.1 | exact hgl_.2.2.2.1 | exact hgl_.2.2.2.2.1 | exact hgl_.2.2.2.2.2.1 | exact hgl_.2.2.2.2.2.2.1 | exact hgl_.2.2.2.2.2.2.2.1 | exact hgl_ | exact rfl | exact one1 rfl | exact fn_IsT _ _ | exact fn_IsF _ _ _ (Ne.symm s.n1) s.mW s.mP | skip)))))
theorem fn_faultV (s : Se) : Fn Tryd.prog (c_fault s s.aV 3) := by
  refine fn_intro tt_ok Tryd.func41 rfl Tryd.call41 Tryd.ntmps41 Tryd.results41 rfl rfl rfl rfl ?_
  intro X ρ0 hb_ hgl_
  dsimp only [c_fault]
  try refine nrm ?_
  repeat' (refine ar_id ?_; first | refine st1 ?_ | (first | ((first | refine ar_region (id := 1) tt_ok (inps := [.glob (gP s.aP s.uP) [.iface 130 (.pointer (some s.aP))], .call (c_Is s s.aV s.aP false)]) rfl ?_ ?_ | refine ar_region (id := 3) tt_ok (inps := [.glob (gW s.aW s.uW) [.iface 130 (.pointer (some s.aW))], .call (c_Is s s.aV s.aW false)]) rfl ?_ ?_ | refine ar_region (id := 5) tt_ok (inps := [.glob (gV s.aV s.uV) [.iface 130 (.pointer (some s.aV))], .call (c_Is s s.aV s.aV true)]) rfl ?_ ?_ | refine ar_region tt_ok (inps := []) rfl ?_ ?_); rotate_left; (try dsimp only [c_Is]); (try refine nrm ?_); rotate_right) | refine ret3 ?_ | refine end3 ?_) | (refine ar_cond rfl trivial ?_ ?_ <;> intro hc_ <;> (try simp only [isNilI, inB, reduceCtorEq, cds] at hc_) <;> (try (first | contradiction | (exfalso; omega)))) | refine ar_until (And.intro ?_ (wk3 ?_)))
  all_goals (first | refine ar_id ?_ | (try (focus ((try refine nrmO ?_); (repeat' (first | exact True.intro | refine And.intro ?_ ?_)); all_goals (try (intro (hg_ : _ = true); (try simp only [isNilI, inB, reduceCtorEq, cds] at hg_); (repeat' (first | exact True.intro | refine And.intro ?_ ?_)))); all_goals (first | exact ob1 | exact hgl_.1 | exact hgl_.2.1 | exact hgl_.2.2.1 | exact hgl_.2.2.2.1 | exact hgl_.2.2.2.2.1 | exact hgl_.2.2.2.2.2.1 | exact hgl_.2.2.2.2.2.2.1 | exact hgl_.2.2.2.2.2.2.2.1 | exact hgl_ | exact rfl | exact one1 rfl | exact fn_IsT _ _ | exact fn_IsF _ _ _ (Ne.symm s.n2) s.mV s.mP | exact fn_IsF _ _ _ (Ne.symm s.n3) s.mV s.mW | skip)))))
theorem pgOf_eq {addr : Int} (h : ¬ addr < 0) : pgOf addr = addr / 16 := by unfold pgOf; rw [if_neg h, Int.tdiv_eq_ediv_of_nonneg (by omega)]
theorem entry_eq (m : GMachine) (addr : Int) : (pEntry m addr).1 = pPageEntry m.Table (pgOf addr) := by
  unfold pEntry
  by_cases h : addr < 0
  · rw [if_pos h]
    unfold pgOf pPageEntry
    rw [if_pos h, if_neg (by omega)]
  · rw [if_neg h, pgOf_eq h]
theorem canLoad_iff (m : GMachine) (addr : Int) : canLoad m addr ↔ canMap m (pgOf addr) := by unfold canLoad canMap; rw [entry_eq]
theorem canMap_nonneg {m : GMachine} {addr : Int} (h : canMap m (pgOf addr)) : ¬ addr < 0 := fun hn => by
  have := h.2
  unfold pgOf pPageEntry at this
  rw [if_pos hn, if_neg (by omega)] at this
  exact this rfl
/-- what stands in the way of a store -/
def c_writ (s : Se) (m : GMachine) (addr v md fr : Int) (e : Value) : CFD := ⟨40, [.agg [ro 31 1 eIntS m.Frames.Cells, ro 4 1 Tr.eB m.Frames.Used, ro 75 2 eEntry m.Table.Entries], (SV.one (.lit (.int .i64 (addr)))), (SV.one (.lit (.int .i64 (v))))], [],
  .tup [.agg [(CV.lit (.int .i64 (md))), (CV.lit (.int .i64 (fr)))], .one (.lit e)], [], [], s.gl⟩
theorem fn_writP (s : Se) (m : GMachine) (addr v : Int) (hs : szM m) (ha : okI addr) (hcm : ¬ canMap m (pgOf addr)) : Fn Tryd.prog (c_writ s m addr v 0 0 (.iface 130 (.pointer (some s.aP)))) := by
  refine fn_intro tt_ok Tryd.func40 rfl Tryd.call40 Tryd.ntmps40 Tryd.results40 rfl rfl rfl rfl ?_
  intro X ρ0 hb_ hgl_
  dsimp only [c_writ]
  try refine nrm ?_
  repeat' (refine ar_id ?_; first | refine st1 ?_ | (first | ((first | refine ar_draw (id := 1) (inps := [.call (c_pageOf addr), .call (c_mapN s.aP s.uP m (pgOf addr))]) tt_ok (by kernel_rfl) rfl rfl (by kernel_rfl) rfl rfl rfl rfl ?_ ?_ | refine ar_region tt_ok (inps := []) rfl ?_ ?_); rotate_left; (try dsimp only [c_mapN, c_pageOf]); (try refine nrm ?_); rotate_right) | refine ret3 ?_ | refine end3 ?_) | (refine ar_cond rfl trivial ?_ ?_ <;> intro hc_ <;> (try simp only [isNilI, inB, reduceCtorEq, cds] at hc_) <;> (try (first | contradiction | (exfalso; omega)))) | refine ar_until (And.intro ?_ (wk3 ?_)))
  all_goals (first | refine ar_id ?_ | (try (focus ((try refine nrmO ?_); (repeat' (first | exact True.intro | refine And.intro ?_ ?_)); all_goals (try (intro (hg_ : _ = true); (try simp only [isNilI, inB, reduceCtorEq, cds] at hg_); (repeat' (first | exact True.intro | refine And.intro ?_ ?_)))); all_goals (first | exact ob1 | exact fn_pageOf _ ha | exact fn_mapN _ _ _ _ hs hcm | exact hgl_.1 | exact hgl_.2.1 | exact hgl_.2.2.1 | exact hgl_.2.2.2.1 | exact hgl_.2.2.2.2.1 | exact hgl_.2.2.2.2.2.1 | exact hgl_.2.2.2.2.2.2.1 | exact hgl_.2.2.2.2.2.2.2.1 | exact hgl_ | exact rfl | exact one1 rfl | exact trivial | skip)))))
theorem fn_writW (s : Se) (m : GMachine) (addr v : Int) (hs : szM m) (ha : okI addr) (hcm : canMap m (pgOf addr)) (h1 : (pPageEntry m.Table (pgOf addr)).Mode = 1) : Fn Tryd.prog (c_writ s m addr v 0 0 (.iface 130 (.pointer (some s.aW)))) := by
  refine fn_intro tt_ok Tryd.func40 rfl Tryd.call40 Tryd.ntmps40 Tryd.results40 rfl rfl rfl rfl ?_
  intro X ρ0 hb_ hgl_
  dsimp only [c_writ]
  try refine nrm ?_
  repeat' (refine ar_id ?_; first | refine st1 ?_ | (first | ((first | refine ar_draw (id := 1) (inps := [.call (c_pageOf addr), .call (c_mapY s.aP s.uP m (pgOf addr))]) tt_ok (by kernel_rfl) rfl rfl (by kernel_rfl) rfl rfl rfl rfl ?_ ?_ | refine ar_draw (id := 5) (inps := [.glob (gW s.aW s.uW) [.iface 130 (.pointer (some s.aW))]]) tt_ok (by kernel_rfl) rfl rfl (by kernel_rfl) rfl rfl rfl rfl ?_ ?_ | refine ar_region tt_ok (inps := []) rfl ?_ ?_); rotate_left; (try dsimp only [c_mapY, c_pageOf]); (try refine nrm ?_); rotate_right) | refine ret3 ?_ | refine end3 ?_) | (refine ar_cond rfl trivial ?_ ?_ <;> intro hc_ <;> (try simp only [isNilI, inB, reduceCtorEq, cds] at hc_) <;> (try (first | contradiction | (exfalso; omega)))) | refine ar_until (And.intro ?_ (wk3 ?_)))
  all_goals (first | refine ar_id ?_ | (try (focus ((try refine nrmO ?_); (repeat' (first | exact True.intro | refine And.intro ?_ ?_)); all_goals (try (intro (hg_ : _ = true); (try simp only [isNilI, inB, reduceCtorEq, cds] at hg_); (repeat' (first | exact True.intro | refine And.intro ?_ ?_)))); all_goals (first | exact ob1 | exact fn_pageOf _ ha | exact fn_mapY _ _ _ _ hs hcm | exact hgl_.1 | exact hgl_.2.1 | exact hgl_.2.2.1 | exact hgl_.2.2.2.1 | exact hgl_.2.2.2.2.1 | exact hgl_.2.2.2.2.2.1 | exact hgl_.2.2.2.2.2.2.1 | exact hgl_.2.2.2.2.2.2.2.1 | exact hgl_ | exact rfl | exact one1 rfl | exact trivial | skip)))))
theorem fn_writV (s : Se) (m : GMachine) (addr v : Int) (hs : szM m) (ha : okI addr) (hcm : canMap m (pgOf addr)) (h1 : (pPageEntry m.Table (pgOf addr)).Mode ≠ 1) (hv : ¬ (0 ≤ v ∧ v ≤ 999)) : Fn Tryd.prog (c_writ s m addr v 0 0 (.iface 130 (.pointer (some s.aV)))) := by
  refine fn_intro tt_ok Tryd.func40 rfl Tryd.call40 Tryd.ntmps40 Tryd.results40 rfl rfl rfl rfl ?_
  intro X ρ0 hb_ hgl_
  dsimp only [c_writ]
  try refine nrm ?_
  repeat' (refine ar_id ?_; first | refine st1 ?_ | (first | ((first | refine ar_draw (id := 1) (inps := [.call (c_pageOf addr), .call (c_mapY s.aP s.uP m (pgOf addr))]) tt_ok (by kernel_rfl) rfl rfl (by kernel_rfl) rfl rfl rfl rfl ?_ ?_ | refine ar_region (id := 6) tt_ok (inps := [.call (c_vir v)]) rfl ?_ ?_ | refine ar_draw (id := 7) (inps := [.glob (gV s.aV s.uV) [.iface 130 (.pointer (some s.aV))]]) tt_ok (by kernel_rfl) rfl rfl (by kernel_rfl) rfl rfl rfl rfl ?_ ?_ | refine ar_region tt_ok (inps := []) rfl ?_ ?_); rotate_left; (try dsimp only [c_mapY, c_pageOf, c_vir]); (try refine nrm ?_); rotate_right) | refine ret3 ?_ | refine end3 ?_) | (refine ar_cond rfl trivial ?_ ?_ <;> intro hc_ <;> (try simp only [isNilI, inB, reduceCtorEq, cds] at hc_) <;> (try (first | contradiction | (exfalso; omega)))) | refine ar_until (And.intro ?_ (wk3 ?_)))
  all_goals (first | refine ar_id ?_ | (try (focus ((try refine nrmO ?_); (repeat' (first | exact True.intro | refine And.intro ?_ ?_)); all_goals (try (intro (hg_ : _ = true); (try simp only [isNilI, inB, reduceCtorEq, cds] at hg_); (repeat' (first | exact True.intro | refine And.intro ?_ ?_)))); all_goals (first | exact ob1 | exact fn_pageOf _ ha | exact fn_mapY _ _ _ _ hs hcm | exact hgl_.1 | exact hgl_.2.1 | exact hgl_.2.2.1 | exact hgl_.2.2.2.1 | exact hgl_.2.2.2.2.1 | exact hgl_.2.2.2.2.2.1 | exact hgl_.2.2.2.2.2.2.1 | exact hgl_.2.2.2.2.2.2.2.1 | exact hgl_ | exact rfl | exact one1 rfl | exact trivial | exact fn_vir _ | skip)))))
theorem fn_writN (s : Se) (m : GMachine) (addr v : Int) (hs : szM m) (ha : okI addr) (hcm : canMap m (pgOf addr)) (h1 : (pPageEntry m.Table (pgOf addr)).Mode ≠ 1) (hv : 0 ≤ v ∧ v ≤ 999) : Fn Tryd.prog (c_writ s m addr v (pPageEntry m.Table (pgOf addr)).Mode (pPageEntry m.Table (pgOf addr)).Frame .nilIface) := by
  refine fn_intro tt_ok Tryd.func40 rfl Tryd.call40 Tryd.ntmps40 Tryd.results40 rfl rfl rfl rfl ?_
  intro X ρ0 hb_ hgl_
  dsimp only [c_writ]
  try refine nrm ?_
  repeat' (refine ar_id ?_; first | refine st1 ?_ | (first | ((first | refine ar_draw (id := 1) (inps := [.call (c_pageOf addr), .call (c_mapY s.aP s.uP m (pgOf addr))]) tt_ok (by kernel_rfl) rfl rfl (by kernel_rfl) rfl rfl rfl rfl ?_ ?_ | refine ar_region (id := 6) tt_ok (inps := [.call (c_vir v)]) rfl ?_ ?_ | refine ar_region tt_ok (inps := []) rfl ?_ ?_); rotate_left; (try dsimp only [c_mapY, c_pageOf, c_vir]); (try refine nrm ?_); rotate_right) | refine ret3 ?_ | refine end3 ?_) | (refine ar_cond rfl trivial ?_ ?_ <;> intro hc_ <;> (try simp only [isNilI, inB, reduceCtorEq, cds] at hc_) <;> (try (first | contradiction | (exfalso; omega)))) | refine ar_until (And.intro ?_ (wk3 ?_)))
  all_goals (first | refine ar_id ?_ | (try (focus ((try refine nrmO ?_); (repeat' (first | exact True.intro | refine And.intro ?_ ?_)); all_goals (try (intro (hg_ : _ = true); (try simp only [isNilI, inB, reduceCtorEq, cds] at hg_); (repeat' (first | exact True.intro | refine And.intro ?_ ?_)))); all_goals (first | exact ob1 | exact fn_pageOf _ ha | exact fn_mapY _ _ _ _ hs hcm | exact hgl_.1 | exact hgl_.2.1 | exact hgl_.2.2.1 | exact hgl_.2.2.2.1 | exact hgl_.2.2.2.2.1 | exact hgl_.2.2.2.2.2.1 | exact hgl_.2.2.2.2.2.2.1 | exact hgl_.2.2.2.2.2.2.2.1 | exact hgl_ | exact rfl | exact one1 rfl | exact trivial | exact fn_vir _ | skip)))))
def c_StoreI (s : Se) (m : GMachine) (addr v : Int) : CFD := ⟨22, [.agg [ro 31 1 eIntS m.Frames.Cells, ro 4 1 Tr.eB m.Frames.Used, ro 75 2 eEntry m.Table.Entries], (SV.one (.lit (.int .i64 (addr)))), (SV.one (.lit (.int .i64 (v))))], [],
  .tup [.agg [.hd 0, .hd 1, .hd 2], (SV.one (.lit (.int .i64 ((pStore m addr v).2))))],
  [(0, some (.row 31 1 ((pStore m addr v).1.Frames.Cells.map eIntS))), (1, some (.row 4 1 ((pStore m addr v).1.Frames.Used.map Tr.eB))), (2, some (.row 75 2 ((pStore m addr v).1.Table.Entries.map eEntry)))], [0, 1, 2], s.gl⟩
theorem fn_StoreI (s : Se) (m : GMachine) (addr v : Int) (hs : szM m) (ha : okI addr) : Fn Tryd.prog (c_StoreI s m addr v) := by
  by_cases hcm : canMap m (pgOf addr)
  · have hcl := (canLoad_iff m addr).2 hcm
    by_cases h1 : (pPageEntry m.Table (pgOf addr)).Mode = 1
    · have hV : pStore m addr v = (m, 2) := by unfold pStore; rw [if_pos hcl, if_pos (by rw [entry_eq]; exact h1)]
      refine fn_intro tt_ok Tryd.func22 rfl Tryd.call22 Tryd.ntmps22 Tryd.results22 rfl rfl rfl rfl ?_
      intro X ρ0 hb_ hgl_
      dsimp only [c_StoreI]
      try refine nrm ?_
      repeat' (refine ar_id ?_; first | refine st1 ?_ | (first | ((first | refine ar_region (id := 1) tt_ok (inps := [.call (c_CopyMI m)]) rfl ?_ ?_ | refine ar_region (id := 2) tt_ok (inps := [.call (c_writ s m addr v 0 0 (.iface 130 (.pointer (some s.aW))))]) rfl ?_ ?_ | refine ar_draw (id := 4) (inps := [.call (c_fault s s.aW 2)]) tt_ok (by kernel_rfl) rfl rfl (by kernel_rfl) rfl rfl rfl rfl ?_ ?_ | refine ar_region tt_ok (inps := []) rfl ?_ ?_); rotate_left; (try dsimp only [c_CopyMI, c_fault, c_writ]); (try refine nrm ?_); rotate_right) | refine ret3 ?_ | refine end3 ?_) | (refine ar_cond rfl trivial ?_ ?_ <;> intro hc_ <;> (try simp only [isNilI, inB, reduceCtorEq, cds] at hc_) <;> (try (first | contradiction | (exfalso; omega)))) | refine ar_until (And.intro ?_ (wk3 ?_)))
      all_goals (first | refine ar_id ?_ | (try (focus ((try refine nrmO ?_); (repeat' (first | exact True.intro | refine And.intro ?_ ?_)); all_goals (try (intro (hg_ : _ = true); (try simp only [isNilI, inB, reduceCtorEq, cds] at hg_); (repeat' (first | exact True.intro | refine And.intro ?_ ?_)))); all_goals (first | exact ob1 | exact fn_CopyMI _ hs | exact fn_writW _ _ _ _ hs ha hcm h1 | exact fn_faultW _ | exact hgl_.1 | exact hgl_.2.1 | exact hgl_.2.2.1 | exact hgl_.2.2.2.1 | exact hgl_.2.2.2.2.1 | exact hgl_.2.2.2.2.2.1 | exact hgl_.2.2.2.2.2.2.1 | exact hgl_.2.2.2.2.2.2.2.1 | exact hgl_ | exact rfl | exact one1 rfl | exact trivial | skip)))))
      all_goals rw [hV]
    · by_cases hv : 0 ≤ v ∧ v ≤ 999
      · have hV : pStore m addr v = (setCellOf m (pEntry m addr).1.Frame (pEntry m addr).2 v, 0) := by unfold pStore; rw [if_pos hcl, if_neg (by rw [entry_eq]; exact h1), if_pos hv]
        obtain ⟨f0, f1, f2, f3⟩ := canMap_frame hcm
        have hn := canMap_nonneg hcm
        have ht : addr.tmod 16 = addr % 16 := Int.tmod_eq_emod_of_nonneg (by omega)
        refine fn_intro tt_ok Tryd.func22 rfl Tryd.call22 Tryd.ntmps22 Tryd.results22 rfl rfl rfl rfl ?_
        intro X ρ0 hb_ hgl_
        dsimp only [c_StoreI]
        try refine nrm ?_
        repeat' (refine ar_id ?_; first | refine st1 ?_ | (first | ((first | refine ar_region (id := 1) tt_ok (inps := [.call (c_CopyMI m)]) rfl ?_ ?_ | refine ar_region (id := 2) tt_ok (inps := [.call (c_writ s m addr v (pPageEntry m.Table (pgOf addr)).Mode (pPageEntry m.Table (pgOf addr)).Frame .nilIface)]) rfl ?_ ?_ | refine ar_region tt_ok (inps := []) rfl ?_ ?_); rotate_left; (try dsimp only [c_CopyMI, c_writ]); (try refine nrm ?_); rotate_right) | refine ret3 ?_ | refine end3 ?_) | (refine ar_cond rfl trivial ?_ ?_ <;> intro hc_ <;> (try simp only [isNilI, inB, reduceCtorEq, cds] at hc_) <;> (try (first | contradiction | (exfalso; omega)))) | refine ar_until (And.intro ?_ (wk3 ?_)))
        all_goals (first | refine ar_id ?_ | (try (focus ((try refine nrmO ?_); (repeat' (first | exact True.intro | refine And.intro ?_ ?_)); all_goals (try (intro (hg_ : _ = true); (try simp only [isNilI, inB, reduceCtorEq, cds] at hg_); (repeat' (first | exact True.intro | refine And.intro ?_ ?_)))); all_goals (first | exact ob1 | exact fn_CopyMI _ hs | exact fn_writN _ _ _ _ hs ha hcm h1 hv | exact hgl_.1 | exact hgl_.2.1 | exact hgl_.2.2.1 | exact hgl_.2.2.2.1 | exact hgl_.2.2.2.2.1 | exact hgl_.2.2.2.2.2.1 | exact hgl_.2.2.2.2.2.2.1 | exact hgl_.2.2.2.2.2.2.2.1 | exact hgl_ | exact rfl | exact one1 rfl | exact trivial | skip)))))
        have h2 : (pEntry m addr).1.Frame = (pPageEntry m.Table (pgOf addr)).Frame := by rw [entry_eq]
        have h3 : (pEntry m addr).2 = addr % 16 := by unfold pEntry; rw [if_neg hn]
        have hset : ∀ (o w : Int), ((m.Frames.Cells.getD (pPageEntry m.Table (pgOf addr)).Frame.toNat []).map eI).set (addr.tmod 16).toNat (dPut (eI o) 0 (D.lit (.int .i64 w) .nil)) = ((m.Frames.Cells.getD (pPageEntry m.Table (pgOf addr)).Frame.toNat []).set (addr.tmod 16).toNat w).map eI := fun o w => List.map_set.symm
        refine ar_open 13000 ((pPageEntry m.Table (pgOf addr)).Frame.toNat) 0 90001 90002 (d := eIntS (m.Frames.Cells.getD (pPageEntry m.Table (pgOf addr)).Frame.toNat [])) ((m.Frames.Cells.getD (pPageEntry m.Table (pgOf addr)).Frame.toNat []).map eI) rfl ?_ rfl ?_ rfl rfl rfl ?_
        · first | exact map_at (by omega) | assumption | exact set_at (by (try simp only [List.length_map, List.length_set]); omega) | (rw [List.getElem?_set_ne (by omega)]; exact map_at (by omega))
        · exact ⟨rfl, rfl, by intro e he; simp only [List.mem_map] at he; obtain ⟨_, _, rfl⟩ := he; rfl⟩
        intro A_90001 n_90001 c_90001
        try refine nrm ?_
        refine ar_region (id := 5) tt_ok (inps := [.nest (.lit (Value.slice A_90001 n_90001 c_90001) .nil) [(0, 90002)], .elem (eI ((m.Frames.Cells.getD (pPageEntry m.Table (pgOf addr)).Frame.toNat []).getD (addr.tmod 16).toNat 0))]) rfl ?_ ?_
        rotate_left
        (try refine nrm ?_)
        refine ar_close 13000 ((pPageEntry m.Table (pgOf addr)).Frame.toNat) 0 90001 90002 rfl rfl rfl (set_at ?_) rfl rfl rfl ?_
        · (simp only [List.length_map, List.length_set]; omega)
        try refine nrm ?_
        repeat' (refine ar_id ?_; first | refine st1 ?_ | (first | ((first | refine ar_region tt_ok (inps := []) rfl ?_ ?_); rotate_left; (try refine nrm ?_); rotate_right) | refine ret3 ?_ | refine end3 ?_) | (refine ar_cond rfl trivial ?_ ?_ <;> intro hc_ <;> (try simp only [isNilI, inB, reduceCtorEq, cds] at hc_) <;> (try (first | contradiction | (exfalso; omega)))) | refine ar_until (And.intro ?_ (wk3 ?_)))
        all_goals (first | refine ar_id ?_ | (try (focus ((try refine nrmO ?_); (repeat' (first | exact True.intro | refine And.intro ?_ ?_)); all_goals (try (intro (hg_ : _ = true); (try simp only [isNilI, inB, reduceCtorEq, cds] at hg_); (repeat' (first | exact True.intro | refine And.intro ?_ ?_)))); all_goals (first | exact ob1 | skip)))))
        all_goals (try (focus ((try refine nrmO ?_); (repeat' (first | exact True.intro | refine And.intro ?_ ?_)); all_goals (try (intro (hg_ : _ = true); (try simp only [isNilI, inB, reduceCtorEq, cds] at hg_); (repeat' (first | exact True.intro | refine And.intro ?_ ?_)))); all_goals (first | exact ob1 | skip))))
        · rw [hV]
        · rw [hV, List.set_set, hset, ht]
          unfold setCellOf
          rw [h2, h3]
          exact List.map_set.symm
        · rw [hV]; rfl
        · rw [hV]; rfl
        all_goals (rw [ht]; simp only [List.length_map]; omega)
      · have hV : pStore m addr v = (m, 3) := by unfold pStore; rw [if_pos hcl, if_neg (by rw [entry_eq]; exact h1), if_neg hv]
        refine fn_intro tt_ok Tryd.func22 rfl Tryd.call22 Tryd.ntmps22 Tryd.results22 rfl rfl rfl rfl ?_
        intro X ρ0 hb_ hgl_
        dsimp only [c_StoreI]
        try refine nrm ?_
        repeat' (refine ar_id ?_; first | refine st1 ?_ | (first | ((first | refine ar_region (id := 1) tt_ok (inps := [.call (c_CopyMI m)]) rfl ?_ ?_ | refine ar_region (id := 2) tt_ok (inps := [.call (c_writ s m addr v 0 0 (.iface 130 (.pointer (some s.aV))))]) rfl ?_ ?_ | refine ar_draw (id := 4) (inps := [.call (c_fault s s.aV 3)]) tt_ok (by kernel_rfl) rfl rfl (by kernel_rfl) rfl rfl rfl rfl ?_ ?_ | refine ar_region tt_ok (inps := []) rfl ?_ ?_); rotate_left; (try dsimp only [c_CopyMI, c_fault, c_writ]); (try refine nrm ?_); rotate_right) | refine ret3 ?_ | refine end3 ?_) | (refine ar_cond rfl trivial ?_ ?_ <;> intro hc_ <;> (try simp only [isNilI, inB, reduceCtorEq, cds] at hc_) <;> (try (first | contradiction | (exfalso; omega)))) | refine ar_until (And.intro ?_ (wk3 ?_)))
        all_goals (first | refine ar_id ?_ | (try (focus ((try refine nrmO ?_); (repeat' (first | exact True.intro | refine And.intro ?_ ?_)); all_goals (try (intro (hg_ : _ = true); (try simp only [isNilI, inB, reduceCtorEq, cds] at hg_); (repeat' (first | exact True.intro | refine And.intro ?_ ?_)))); all_goals (first | exact ob1 | exact fn_CopyMI _ hs | exact fn_writV _ _ _ _ hs ha hcm h1 hv | exact fn_faultV _ | exact hgl_.1 | exact hgl_.2.1 | exact hgl_.2.2.1 | exact hgl_.2.2.2.1 | exact hgl_.2.2.2.2.1 | exact hgl_.2.2.2.2.2.1 | exact hgl_.2.2.2.2.2.2.1 | exact hgl_.2.2.2.2.2.2.2.1 | exact hgl_ | exact rfl | exact one1 rfl | exact trivial | skip)))))
        all_goals rw [hV]
  · have hV : pStore m addr v = (m, 1) := by unfold pStore; rw [if_neg (fun h => hcm ((canLoad_iff m addr).1 h))]
    refine fn_intro tt_ok Tryd.func22 rfl Tryd.call22 Tryd.ntmps22 Tryd.results22 rfl rfl rfl rfl ?_
    intro X ρ0 hb_ hgl_
    dsimp only [c_StoreI]
    try refine nrm ?_
    repeat' (refine ar_id ?_; first | refine st1 ?_ | (first | ((first | refine ar_region (id := 1) tt_ok (inps := [.call (c_CopyMI m)]) rfl ?_ ?_ | refine ar_region (id := 2) tt_ok (inps := [.call (c_writ s m addr v 0 0 (.iface 130 (.pointer (some s.aP))))]) rfl ?_ ?_ | refine ar_draw (id := 4) (inps := [.call (c_fault s s.aP 1)]) tt_ok (by kernel_rfl) rfl rfl (by kernel_rfl) rfl rfl rfl rfl ?_ ?_ | refine ar_region tt_ok (inps := []) rfl ?_ ?_); rotate_left; (try dsimp only [c_CopyMI, c_fault, c_writ]); (try refine nrm ?_); rotate_right) | refine ret3 ?_ | refine end3 ?_) | (refine ar_cond rfl trivial ?_ ?_ <;> intro hc_ <;> (try simp only [isNilI, inB, reduceCtorEq, cds] at hc_) <;> (try (first | contradiction | (exfalso; omega)))) | refine ar_until (And.intro ?_ (wk3 ?_)))
    all_goals (first | refine ar_id ?_ | (try (focus ((try refine nrmO ?_); (repeat' (first | exact True.intro | refine And.intro ?_ ?_)); all_goals (try (intro (hg_ : _ = true); (try simp only [isNilI, inB, reduceCtorEq, cds] at hg_); (repeat' (first | exact True.intro | refine And.intro ?_ ?_)))); all_goals (first | exact ob1 | exact fn_CopyMI _ hs | exact fn_writP _ _ _ _ hs ha hcm | exact fn_faultP _ | exact hgl_.1 | exact hgl_.2.1 | exact hgl_.2.2.1 | exact hgl_.2.2.2.1 | exact hgl_.2.2.2.2.1 | exact hgl_.2.2.2.2.2.1 | exact hgl_.2.2.2.2.2.2.1 | exact hgl_.2.2.2.2.2.2.2.1 | exact hgl_ | exact rfl | exact one1 rfl | exact trivial | skip)))))
    all_goals rw [hV]
end Eng
end Go.Proofs.YtabnglcabpijfaaDoor
namespace Go.Proofs.YtabnglcabpijfaaDoor
open Go.RowKit
set_option linter.unusedVariables false
namespace Tr
def okK (k : GKernel) : Prop := okM k.Machine ∧ (0 ≤ k.Calls ∧ k.Calls ≤ 100000) ∧ (∀ x ∈ k.Refuse, 0 ≤ x) ∧ k.Refuse.length ≤ 40
instance (k : GKernel) : Decidable (okK k) := by unfold okK; infer_instance
def pKernelOk (k : GKernel) : Bool := decide (okK k)
def canCall (k : GKernel) : Prop := okK k ∧ k.Calls < 100000
instance (k : GKernel) : Decidable (canCall k) := by unfold canCall; infer_instance
def granted (k : GKernel) : Prop := k.Calls ∉ k.Refuse
instance (k : GKernel) : Decidable (granted k) := by unfold granted; infer_instance
/-- a frame given back if no page is mapped to it -/
def dropped (m : GMachine) (f : Nat) : GMachine := if (pPagesOn m.Table (f : Int)).length = 0 then ⟨⟨m.Frames.Cells.set f (List.replicate 16 0), m.Frames.Used.set f false⟩, m.Table⟩ else m
end Tr
end Go.Proofs.YtabnglcabpijfaaDoor
namespace Go.Proofs.YtabnglcabpijfaaDoor
open Go.RowKit
set_option linter.unusedVariables false
set_option linter.unusedSimpArgs false
set_option maxRecDepth 100000
namespace Eng
open Tr
/-- a kernel that can be read -/
structure szK (k : GKernel) : Prop where
  m : szM k.Machine
  r : k.Refuse.length ≤ 1048576
def c_KOkI (k : GKernel) : CFD := ⟨21, [.agg [ro 31 1 eIntS k.Machine.Frames.Cells, ro 4 1 Tr.eB k.Machine.Frames.Used, ro 75 2 eEntry k.Machine.Table.Entries, (CV.lit (.int .i64 (k.Calls))), ro 3 1 Tr.eI k.Refuse]], [], (TV.sv (.one (.lit (.bool (pKernelOk k))))), [], [], []⟩
theorem fn_KOkI (k : GKernel) (hs : szK k) : Fn Tryd.prog (c_KOkI k) := by
  have hr := hs.r
  refine fn_intro tt_ok Tryd.func21 rfl Tryd.call21 Tryd.ntmps21 Tryd.results21 rfl rfl rfl rfl ?_
  intro X ρ0 hb_ hgl_
  dsimp only [c_KOkI]
  try refine nrm ?_
  repeat' (refine ar_id ?_; first | refine st1 ?_ | (first | ((first | refine ar_region (id := 1) tt_ok (inps := [.call (c_MOkI k.Machine)]) rfl ?_ ?_ | refine ar_region tt_ok (inps := []) rfl ?_ ?_); rotate_left; (try dsimp only [c_MOkI]); (try refine nrm ?_); rotate_right) | refine ret3 ?_ | refine end3 ?_) | (refine ar_cond rfl trivial ?_ ?_ <;> intro hc_ <;> (try simp only [isNilI, inB, reduceCtorEq, cds] at hc_) <;> (try (first | contradiction | (exfalso; omega)))) | refine ar_until (And.intro ?_ (wk3 ?_)))
  all_goals (first | refine ar_id ?_ | (try (focus ((try refine nrmO ?_); (repeat' (first | exact True.intro | refine And.intro ?_ ?_)); all_goals (try (intro (hg_ : _ = true); (try simp only [isNilI, inB, reduceCtorEq, cds] at hg_); (repeat' (first | exact True.intro | refine And.intro ?_ ?_)))); all_goals (first | exact ob1 | exact fn_MOkI _ hs.m | skip)))))
  · refine bf fun h => ?_
    rcases hc_ with ((hc_ | hc_) | hc_) | hc_
    · exact of_decide_eq_false hc_ h.1
    · have := h.2.1.1; omega
    · have := h.2.1.2; omega
    · have := h.2.2.2; omega
  have hc1 := hc_
  refine ar_keep 469762071 (by dsimp only [keepS] <;> exact rfl) ?_
  refine ar_forM (k.Refuse.length) (fun i => ∀ y ∈ k.Refuse.take i, 0 ≤ y) (fun i => [(28, (TV.sv (.one (.lit (.int .i64 (i))))))]) (fun i => []) ?_ ?_ ?_
  rotate_left
  · first | trivial | simp
  (dsimp only [rnCap, capSVs, Int.toNat_natCast, ro, Nat.reduceAdd, Nat.reduceMul, Nat.zero_add, List.map, putT, app, wrapG, gOb, argT, keys, slotOf, dropped, gAnd, wB, rnT, rnS, rnC, rnCs, rnSs, rnM, rnB, rnN, rn, lk, St.over, ded, delL, keepT, menT, menSs, menS, menCs, menC, hasN, resT, SV.cells]; refine wk3 ?_; (focus ((try refine nrmO ?_); (repeat' (first | exact True.intro | refine And.intro ?_ ?_)); all_goals (try (intro (hg_ : _ = true); (try simp only [isNilI, inB, reduceCtorEq, cds] at hg_); (repeat' (first | exact True.intro | refine And.intro ?_ ?_)))); all_goals (first | exact ob1 | exact rfl | skip))))
  rotate_right
  intro i hi_ hiI_
  dsimp only [rnCap, capSVs, Int.toNat_natCast, ro, Nat.reduceAdd, Nat.reduceMul, Nat.zero_add, List.map, putT, app, wrapG, gOb, argT, keys, slotOf, dropped, gAnd, wB, rnT, rnS, rnC, rnCs, rnSs, rnM, rnB, rnN, rn, lk, St.over, ded, delL, keepT, menT, menSs, menS, menCs, menC, hasN, resT, SV.cells]
  repeat' (refine ar_id ?_; first | refine st1 ?_ | (first | ((first | refine ar_region (id := 5) tt_ok (inps := [.elem (Tr.eI (k.Refuse.getD i 0))]) rfl ?_ ?_ | refine ar_region tt_ok (inps := []) rfl ?_ ?_); rotate_left; (try refine nrm ?_); rotate_right) | refine ret3 ?_ | refine end3 ?_) | (refine ar_cond rfl trivial ?_ ?_ <;> intro hc_ <;> (try simp only [isNilI, inB, reduceCtorEq, cds] at hc_) <;> (try (first | contradiction | (exfalso; omega)))) | refine ar_until (And.intro ?_ (wk3 ?_)))
  all_goals (first | refine ar_id ?_ | (try (focus ((try refine nrmO ?_); (repeat' (first | exact True.intro | refine And.intro ?_ ?_)); all_goals (try (intro (hg_ : _ = true); (try simp only [isNilI, inB, reduceCtorEq, cds] at hg_); (repeat' (first | exact True.intro | refine And.intro ?_ ?_)))); all_goals (first | exact ob1 | skip)))))
  · exact bf fun h => by have := h.2.2.1 _ (getD_in (l := k.Refuse) (i := i) (d := 0) (by omega)); omega
  · exact all_take (d := 0) hiI_ (by omega) hc_
  · exact bt ⟨of_decide_eq_true hc1.1.1.1, ⟨hc1.1.1.2, hc1.1.2⟩, all_full hiI_ (by omega), by omega⟩
def c_CopyKI (k : GKernel) : CFD := ⟨20, [.agg [ro 31 1 eIntS k.Machine.Frames.Cells, ro 4 1 Tr.eB k.Machine.Frames.Used, ro 75 2 eEntry k.Machine.Table.Entries, (CV.lit (.int .i64 (k.Calls))), ro 3 1 Tr.eI k.Refuse]], [], .sv (.agg [.hd 0, .hd 1, .hd 2, (CV.lit (.int .i64 (k.Calls))), .hd 3]), [(0, some (.row 31 1 (k.Machine.Frames.Cells.map eIntS))), (1, some (.row 4 1 (k.Machine.Frames.Used.map Tr.eB))), (2, some (.row 75 2 (k.Machine.Table.Entries.map eEntry))), (3, some (.row 3 1 (k.Refuse.map Tr.eI)))], [0, 1, 2, 3], []⟩
theorem fn_CopyKI (k : GKernel) (hs : szK k) : Fn Tryd.prog (c_CopyKI k) := by
  have hr := hs.r
  refine fn_intro tt_ok Tryd.func20 rfl Tryd.call20 Tryd.ntmps20 Tryd.results20 rfl rfl rfl rfl ?_
  intro X ρ0 hb_ hgl_
  dsimp only [c_CopyKI]
  try refine nrm ?_
  repeat' (refine ar_id ?_; first | refine st1 ?_ | (first | ((first | refine ar_draw (id := 1) (inps := [.call (c_CopyMI k.Machine), .call (c_CloneI k.Refuse)]) tt_ok (by kernel_rfl) rfl rfl (by kernel_rfl) rfl rfl rfl rfl ?_ ?_ | refine ar_region tt_ok (inps := []) rfl ?_ ?_); rotate_left; (try dsimp only [c_CloneI, c_CopyMI]); (try refine nrm ?_); rotate_right) | refine ret3 ?_ | refine end3 ?_) | (refine ar_cond rfl trivial ?_ ?_ <;> intro hc_ <;> (try simp only [isNilI, inB, reduceCtorEq, cds] at hc_) <;> (try (first | contradiction | (exfalso; omega)))) | refine ar_until (And.intro ?_ (wk3 ?_)))
  all_goals (first | refine ar_id ?_ | (try (focus ((try refine nrmO ?_); (repeat' (first | exact True.intro | refine And.intro ?_ ?_)); all_goals (try (intro (hg_ : _ = true); (try simp only [isNilI, inB, reduceCtorEq, cds] at hg_); (repeat' (first | exact True.intro | refine And.intro ?_ ?_)))); all_goals (first | exact ob1 | exact fn_CopyMI _ hs.m | exact fn_CloneI _ hs.r | skip)))))
end Eng
end Go.Proofs.YtabnglcabpijfaaDoor
namespace Go.Proofs.YtabnglcabpijfaaDoor
open Go.RowKit
set_option linter.unusedVariables false
namespace Eng
open Tr
theorem okF_sz {f : GFrames} (h : okF f) : f.Cells.length ≤ 32 ∧ f.Used.length ≤ 32 ∧ ∀ r ∈ f.Cells, r.length ≤ 16 := by
  refine ⟨h.1.2, by have := h.1.2; have := h.2.1; omega, fun r hr => ?_⟩
  obtain ⟨i, hi⟩ := List.getElem?_of_mem hr
  have hl := (List.getElem?_eq_some_iff.1 hi).1
  have hu : f.Used[i]? = some (f.Used.getD i false) := getD_at (by have := h.2.1; omega)
  have := h.2.2 _ (List.mem_of_getElem? (zip_at hi hu))
  have := this.1
  show r.length ≤ 16
  simp only at this
  omega
end Eng
end Go.Proofs.YtabnglcabpijfaaDoor
namespace Go.Proofs.YtabnglcabpijfaaDoor
open Go.RowKit
set_option linter.unusedVariables false
namespace Tr
theorem okF_at {f : GFrames} : okF f ↔ (1 ≤ f.Cells.length ∧ f.Cells.length ≤ 32) ∧ f.Used.length = f.Cells.length ∧ ∀ (i : Nat) (r : List Int) (u : Bool), f.Cells[i]? = some r → f.Used[i]? = some u → okRow u r := by
  unfold okF
  constructor
  · rintro ⟨h1, h2, h3⟩
    exact ⟨h1, h2, fun i r u hr hu => h3 (r, u) (List.mem_of_getElem? (zip_at hr hu))⟩
  · rintro ⟨h1, h2, h3⟩
    refine ⟨h1, h2, fun p hp => ?_⟩
    obtain ⟨i, hi⟩ := List.mem_iff_getElem?.1 hp
    obtain ⟨r, u⟩ := p
    obtain ⟨hr, hu⟩ := List.getElem?_zip_eq_some.1 hi
    exact h3 i r u hr hu
end Tr
end Go.Proofs.YtabnglcabpijfaaDoor
namespace Go.Proofs.YtabnglcabpijfaaDoor
open Go.RowKit
set_option linter.unusedVariables false
namespace Tr
theorem okRow_mono {u : Bool} {r : List Int} (h : okRow u r) : okRow true r := ⟨h.1, fun v hv => ⟨(h.2 v hv).1, .inl rfl⟩⟩
theorem okRow_none {r : List Int} (h : okRow false r) : r = List.replicate 16 0 := by
  refine List.eq_replicate_iff.2 ⟨h.1, fun v hv => ?_⟩
  rcases (h.2 v hv).2 with h2 | h2
  · cases h2
  · exact h2
/-- frames of which frame i is taken -/
structure Taken (f : GFrames) (i : Nat) : Prop where
  ok : okF f
  free : f.Used[i]? = some false
def took (f : GFrames) (i : Nat) : GFrames := ⟨f.Cells, f.Used.set i true⟩
section
variable {f : GFrames} {i : Nat} (t : Taken f i)
include t
theorem Taken.lt : i < f.Used.length := (List.getElem?_eq_some_iff.1 t.free).1
theorem Taken.ltc : i < f.Cells.length := by have := t.lt; have := t.ok.2.1; omega
theorem Taken.row : f.Cells[i]? = some (List.replicate 16 0) := by
  have hl := t.ltc
  have hr := List.getElem?_eq_getElem hl
  have h1 := (okF_at.1 t.ok).2.2 i _ false hr t.free
  rw [hr, okRow_none h1]
theorem Taken.ok1 : okF (took f i) := by
  have h := okF_at.1 t.ok
  refine okF_at.2 ⟨h.1, by show (f.Used.set i true).length = _; rw [List.length_set]; exact h.2.1, fun j r u hr hu => ?_⟩
  by_cases hj : i = j
  · subst hj
    have hu' : (f.Used.set i true)[i]? = some u := hu
    rw [List.getElem?_set_self t.lt] at hu'
    obtain rfl := Option.some.inj hu'
    exact okRow_mono (h.2.2 i r false hr t.free)
  · have hu' : (f.Used.set i true)[j]? = some u := hu
    rw [List.getElem?_set_ne hj] at hu'
    exact h.2.2 j r u hr hu'
end
end Tr
end Go.Proofs.YtabnglcabpijfaaDoor
namespace Go.Proofs.YtabnglcabpijfaaDoor
open Go.RowKit
set_option linter.unusedVariables false
namespace Tr
theorem onFrame_pos (f : Int) : ∀ (k : Nat) (l : List GEntry) (i : Nat) (e : GEntry), l[i]? = some e → e.Mode ≠ 0 → e.Frame = f → 0 < (onFrame f k l).length
  | _, [], _, _, h, _, _ => by simp at h
  | k, x :: l, 0, e, h, hm, hf => by
    obtain rfl : x = e := by simpa using h
    show 0 < (_ ++ onFrame f (k + 1) l).length
    rw [if_pos ⟨hm, hf⟩, List.length_append]
    simp; omega
  | k, x :: l, i + 1, e, h, hm, hf => by
    show 0 < (_ ++ onFrame f (k + 1) l).length
    rw [List.length_append]
    have := onFrame_pos f (k + 1) l i e (by simpa using h) hm hf
    omega
end Tr
end Go.Proofs.YtabnglcabpijfaaDoor
namespace Go.Proofs.YtabnglcabpijfaaDoor
open Go.RowKit
set_option linter.unusedVariables false
set_option linter.unusedSimpArgs false
namespace Tr
/-- a page is mapped to the frame f -/
def onF (f : Int) (l : List GEntry) : Prop := ∃ (j : Nat) (e : GEntry), l[j]? = some e ∧ e.Mode ≠ 0 ∧ e.Frame = f
theorem onFrame_iff (f : Int) : ∀ (l : List GEntry) (k : Nat), 0 < (onFrame f k l).length ↔ onF f l
  | [], k => by constructor
                · intro h; exact absurd h (by simp [onFrame])
                · rintro ⟨j, e, h, _⟩; simp at h
  | a :: l, k => by
    unfold onFrame
    have ih := onFrame_iff f l (k + 1)
    by_cases h : a.Mode ≠ 0 ∧ a.Frame = f
    · rw [if_pos h]
      exact ⟨fun _ => ⟨0, a, rfl, h⟩, fun _ => by simp⟩
    · rw [if_neg h]
      refine Iff.trans ih ⟨?_, ?_⟩
      · rintro ⟨j, e, h1, h2⟩; exact ⟨j + 1, e, by simpa using h1, h2⟩
      · rintro ⟨j, e, h1, h2⟩
        cases j with
        | zero => obtain rfl := Option.some.inj (show some a = some e from h1); exact absurd h2 h
        | succ j => exact ⟨j, e, by simpa using h1, h2⟩
theorem pages_iff (t : GTable) (f : Int) : 0 < (pPagesOn t f).length ↔ onF f t.Entries := onFrame_iff f _ 0
theorem used_iff {m : GMachine} : usedAre m ↔ ∀ i, i < m.Frames.Used.length → (m.Frames.Used[i]? = some true ∧ onF (i : Int) m.Table.Entries) ∨ (m.Frames.Used[i]? = some false ∧ ¬ onF (i : Int) m.Table.Entries) := by
  unfold usedAre
  refine forall_congr' fun i => forall_congr' fun hi => ?_
  rw [← pages_iff]
  by_cases h : 0 < (pPagesOn m.Table (i : Int)).length
  · rw [decide_eq_true h]; simp [h]
  · rw [decide_eq_false h]; simp [h]
end Tr
end Go.Proofs.YtabnglcabpijfaaDoor

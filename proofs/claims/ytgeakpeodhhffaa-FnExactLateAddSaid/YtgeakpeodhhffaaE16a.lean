/- Frees that wait: the specification's LateAdd, by the symbolic run. -/
import Derived.Test.YtgeakpeodhhffaaEngZ
import Derived.Test.YtgeakpeodhhffaaE2b
import Derived.Test.YtgeakpeodhhffaaEnc
import Derived.Test.YtgeakpeodhhffaaM16a
namespace Go.Proofs.Ytgeakpeodhhffaa
open Go.RowKit
set_option linter.unusedVariables false
set_option linter.unusedSimpArgs false
set_option maxRecDepth 100000
namespace Eng
open Tr
theorem lt_eq (a b : GLate) : ((a.Index == b.Index) && ((a.Slot == b.Slot) && true)) = decide (a = b) := by
  obtain ⟨a1, a2⟩ := a
  obtain ⟨b1, b2⟩ := b
  rw [Bool.eq_iff_iff]
  simp
def c_LHas (l : List GLate) (x : GLate) : CFD := ⟨12, [.one (ro 30 2 eLate l), .agg [(CV.lit (.int .i64 (x.Index))), (CV.lit (.int .i64 (x.Slot)))]], [], (TV.sv (.one (.lit (.bool (decide (x ∈ l)))))), [], [], []⟩
theorem fn_LHas (l : List GLate) (x : GLate) (hl : l.length ≤ 1048576) : Fn Try.prog (c_LHas l x) := by
  refine fn_intro tt_ok Try.func12 rfl Try.call12 Try.ntmps12 Try.results12 rfl rfl rfl rfl ?_
  intro X ρ0 hb_ hgl_
  dsimp only [c_LHas]
  try refine nrm ?_
  repeat' (refine ar_id ?_; first | refine st1 ?_ | (first | ((first | refine ar_region tt_ok (inps := []) rfl ?_ ?_); rotate_left; (try refine nrm ?_); rotate_right) | refine ret3 ?_ | refine end3 ?_) | (refine ar_cond rfl trivial ?_ ?_ <;> intro hc_ <;> (try simp only [isNilI, inB, reduceCtorEq, cds] at hc_) <;> (try (first | contradiction | (exfalso; omega)))) | refine ar_until (And.intro ?_ (wk3 ?_)))
  all_goals (first | refine ar_id ?_ | (try (focus ((try refine nrmO ?_); (repeat' (first | exact True.intro | refine And.intro ?_ ?_)); all_goals (try (intro (hg_ : _ = true); (try simp only [isNilI, inB, reduceCtorEq, cds] at hg_); (repeat' (first | exact True.intro | refine And.intro ?_ ?_)))); all_goals (first | exact ob1 | skip)))))
  refine ar_keep 59 (by dsimp only [keepS] <;> exact rfl) ?_
  refine ar_forM (l.length) (fun i => ∀ y ∈ l.take i, y ≠ x) (fun i => [(5, (TV.sv (.one (.lit (.int .i64 (i))))))]) (fun i => []) ?_ ?_ ?_
  rotate_left
  · first | trivial | simp
  (dsimp only [rnCap, capSVs, Int.toNat_natCast, ro, Nat.reduceAdd, Nat.reduceMul, Nat.zero_add, List.map, putT, app, wrapG, gOb, argT, keys, slotOf, dropped, gAnd, wB, rnT, rnS, rnC, rnCs, rnSs, rnM, rnB, rnN, rn, lk, St.over, ded, delL, keepT, menT, menSs, menS, menCs, menC, hasN, resT, SV.cells]; refine wk3 ?_; (focus ((try refine nrmO ?_); (repeat' (first | exact True.intro | refine And.intro ?_ ?_)); all_goals (try (intro (hg_ : _ = true); (try simp only [isNilI, inB, reduceCtorEq, cds] at hg_); (repeat' (first | exact True.intro | refine And.intro ?_ ?_)))); all_goals (first | exact ob1 | exact rfl | skip))))
  rotate_right
  intro i hi_ hiI_
  dsimp only [rnCap, capSVs, Int.toNat_natCast, ro, Nat.reduceAdd, Nat.reduceMul, Nat.zero_add, List.map, putT, app, wrapG, gOb, argT, keys, slotOf, dropped, gAnd, wB, rnT, rnS, rnC, rnCs, rnSs, rnM, rnB, rnN, rn, lk, St.over, ded, delL, keepT, menT, menSs, menS, menCs, menC, hasN, resT, SV.cells]
  repeat' (refine ar_id ?_; first | refine st1 ?_ | (first | ((first | refine ar_draw (id := 4) (inps := [.elem (eLate (l.getD i noLt))]) tt_ok (by kernel_rfl) rfl rfl (by kernel_rfl) rfl rfl rfl rfl ?_ ?_ | refine ar_region tt_ok (inps := []) rfl ?_ ?_); rotate_left; (try refine nrm ?_); rotate_right) | refine ret3 ?_ | refine end3 ?_) | (refine ar_cond rfl trivial ?_ ?_ <;> intro hc_ <;> (try simp only [isNilI, inB, reduceCtorEq, cds] at hc_) <;> (try (first | contradiction | (exfalso; omega)))) | refine ar_until (And.intro ?_ (wk3 ?_)))
  all_goals (first | refine ar_id ?_ | (try (focus ((try refine nrmO ?_); (repeat' (first | exact True.intro | refine And.intro ?_ ?_)); all_goals (try (intro (hg_ : _ = true); (try simp only [isNilI, inB, reduceCtorEq, cds] at hg_); (repeat' (first | exact True.intro | refine And.intro ?_ ?_)))); all_goals (first | exact ob1 | skip)))))
  · have e : l.getD i noLt = x := by obtain ⟨h1, h2⟩ := hc_; cases hh : l.getD i noLt; rw [hh] at h1 h2; cases x; simp_all
    exact bt (e ▸ getD_in (by omega))
  · refine all_take (d := noLt) hiI_ (by omega) (fun e => ?_)
    rw [e] at hc_
    simp at hc_
  · exact bf fun h => all_full hiI_ (by omega) _ h rfl
def c_LAddS (l : List GLate) (x : GLate) (r : List GLate) (b : Bool) : CFD := ⟨5, [.one (ro 30 2 eLate l), .agg [(CV.lit (.int .i64 (x.Index))), (CV.lit (.int .i64 (x.Slot)))]], [], .tup [.one (.hd 0), (SV.one (.lit (.bool (b))))], [(0, some (.row 30 2 (r.map eLate)))], [0], []⟩
theorem fn_LAddS (l : List GLate) (x : GLate) (r : List GLate) (b : Bool) (hl : l.length ≤ 1048576) (h : pLateAdd l x = (r, b)) : Fn Try.prog (c_LAddS l x r b) := by
  by_cases hc : x ∈ l ∨ 40 ≤ l.length
  · unfold pLateAdd at h
    rw [if_pos hc] at h
    obtain ⟨rfl, rfl⟩ := Prod.mk.inj h
    refine fn_intro tt_ok Try.func5 rfl Try.call5 Try.ntmps5 Try.results5 rfl rfl rfl rfl ?_
    intro X ρ0 hb_ hgl_
    dsimp only [c_LAddS]
    try refine nrm ?_
    repeat' (refine ar_id ?_; first | refine st1 ?_ | (first | ((first | refine ar_region (id := 1) tt_ok (inps := [.elems (l.map eLate)]) rfl ?_ ?_ | refine ar_region (id := 2) tt_ok (inps := [.call (c_LHas l x)]) rfl ?_ ?_ | refine ar_region tt_ok (inps := []) rfl ?_ ?_); rotate_left; (try dsimp only [c_LHas]); (try refine nrm ?_); rotate_right) | refine ret3 ?_ | refine end3 ?_) | (refine ar_cond rfl trivial ?_ ?_ <;> intro hc_ <;> (try simp only [isNilI, inB, reduceCtorEq, cds] at hc_) <;> (try (first | contradiction | (exfalso; omega) | (exfalso; exact hc.elim (fun h => hc_.1 h) (fun h => by omega))))) | refine ar_until (And.intro ?_ (wk3 ?_)))
    all_goals (first | refine ar_id ?_ | (try (focus ((try refine nrmO ?_); (repeat' (first | exact True.intro | refine And.intro ?_ ?_)); all_goals (try (intro (hg_ : _ = true); (try simp only [isNilI, inB, reduceCtorEq, cds] at hg_); (repeat' (first | exact True.intro | refine And.intro ?_ ?_)))); all_goals (first | exact ob1 | exact flat_map' l (fun x => ⟨rfl, rfl, rfl, trivial⟩) | exact fn_LHas _ _ hl | skip)))))
    all_goals trace_state
  · unfold pLateAdd at h
    rw [if_neg hc] at h
    obtain ⟨rfl, rfl⟩ := Prod.mk.inj h
    refine fn_intro tt_ok Try.func5 rfl Try.call5 Try.ntmps5 Try.results5 rfl rfl rfl rfl ?_
    intro X ρ0 hb_ hgl_
    dsimp only [c_LAddS]
    try refine nrm ?_
    repeat' (refine ar_id ?_; first | refine st1 ?_ | (first | ((first | refine ar_region (id := 1) tt_ok (inps := [.elems (l.map eLate)]) rfl ?_ ?_ | refine ar_region (id := 2) tt_ok (inps := [.call (c_LHas l x)]) rfl ?_ ?_ | refine ar_region tt_ok (inps := []) rfl ?_ ?_); rotate_left; (try dsimp only [c_LHas]); (try refine nrm ?_); rotate_right) | refine ret3 ?_ | refine end3 ?_) | (refine ar_cond rfl trivial ?_ ?_ <;> intro hc_ <;> (try simp only [isNilI, inB, reduceCtorEq, cds] at hc_) <;> (try (first | contradiction | (exfalso; omega) | (exfalso; exact hc (hc_.imp id (fun h => by omega)))))) | refine ar_until (And.intro ?_ (wk3 ?_)))
    all_goals (first | refine ar_id ?_ | (try (focus ((try refine nrmO ?_); (repeat' (first | exact True.intro | refine And.intro ?_ ?_)); all_goals (try (intro (hg_ : _ = true); (try simp only [isNilI, inB, reduceCtorEq, cds] at hg_); (repeat' (first | exact True.intro | refine And.intro ?_ ?_)))); all_goals (first | exact ob1 | exact flat_map' l (fun x => ⟨rfl, rfl, rfl, trivial⟩) | exact fn_LHas _ _ hl | skip)))))
    all_goals (rw [app_eq, List.map_append]; rfl)
end Eng
end Go.Proofs.Ytgeakpeodhhffaa

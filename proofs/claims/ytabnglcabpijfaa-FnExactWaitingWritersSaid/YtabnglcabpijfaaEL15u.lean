/- Writes during meshing: exact laws of WaitingWriters, by the symbolic run. -/
import Derived.Test.YtabnglcabpijfaaELw
import Derived.Test.YtabnglcabpijfaaEI15w
import Derived.Test.YtabnglcabpijfaaEngZ
namespace Go.Proofs.Ytabnglcabpijfaa
open Go.RowKit
set_option linter.unusedVariables false
set_option linter.unusedSimpArgs false
set_option maxRecDepth 100000
namespace Eng
open Tr
def c_SWaitingWriters (x0 : List GWriter) (r0 : Int) : CFD := ⟨5, [.one (ro 30 4 eWriter x0)], [], .sv ((SV.one (.lit (.int .i64 (r0))))), [], [], []⟩
def c_IWaitingWriters (gl : List Glb) (x0 : List GWriter) (r0 : Int) : CFD := ⟨7, [.one (ro 30 4 eWriter x0)], [], .sv ((SV.one (.lit (.int .i64 (r0))))), [], [], gl⟩
def c_XWaitingWriters (gl : List Glb) (x0 : List GWriter) : CFD := ⟨3, [.one (ro 32 4 eWriter x0)], [], (TV.sv (.one (.lit (.bool (true))))), [], [], gl⟩
set_option maxHeartbeats 16000000 in
theorem fn_XWaitingWriters (gl : List Glb) (x0 : List GWriter) (r0 : Int) (hm_x0 : x0.length ≤ 9223372036854775807) (hR : x0.length ≤ 1048576 → Fn Try.prog (c_SWaitingWriters x0 r0) ∧ Fn Try.prog (c_IWaitingWriters gl x0 r0)) : Fn Try.prog (c_XWaitingWriters gl x0) := by
  by_cases hz_x0 : 1048576 - ((x0.length : Nat) : Int) < 0
  · skip
    refine fn_intro tt_ok Try.func3 rfl Try.call3 Try.ntmps3 Try.results3 rfl rfl rfl rfl ?_
    intro X ρ0 hb_ hgl_
    dsimp only [c_XWaitingWriters]
    try refine nrm ?_
    repeat' (refine ar_id ?_; first | refine st1 ?_ | (first | ((first | refine ar_region (id := 2) tt_ok (inps := [.call (c_szWS x0 (1048576) (-1))]) rfl ?_ ?_ | refine ar_region tt_ok (inps := []) rfl ?_ ?_); rotate_left; (try dsimp only [c_szWS]); (try refine nrm ?_); rotate_right) | refine ret3 ?_ | refine end3 ?_) | (refine ar_cond rfl trivial ?_ ?_ <;> intro hc_ <;> (try simp only [isNilI, inB, reduceCtorEq, cds] at hc_) <;> (try (first | contradiction | (exfalso; omega)))) | refine ar_until (And.intro ?_ (wk3 ?_)))
    all_goals (first | refine ar_id ?_ | (try (focus ((try refine nrmO ?_); (repeat' (first | exact True.intro | refine And.intro ?_ ?_)); all_goals (try (intro (hg_ : _ = true); (try simp only [isNilI, inB, reduceCtorEq, cds] at hg_); (repeat' (first | exact True.intro | refine And.intro ?_ ?_)))); all_goals (first | exact ob1 | exact fn_szWS _ _ _ hm_x0 (by omega) (by rw [if_pos hz_x0]) | skip)))))
  have hs_x0 : x0.length ≤ 1048576 := by omega
  obtain ⟨hS, hI⟩ := hR (by omega)
  refine fn_intro tt_ok Try.func3 rfl Try.call3 Try.ntmps3 Try.results3 rfl rfl rfl rfl ?_
  intro X ρ0 hb_ hgl_
  dsimp only [c_XWaitingWriters]
  try refine nrm ?_
  repeat' (refine ar_id ?_; first | refine st1 ?_ | (first | ((first | refine ar_region (id := 2) tt_ok (inps := [.call (c_szWS x0 (1048576) (1048576 - ((x0.length : Nat) : Int)))]) rfl ?_ ?_ | refine ar_region (id := 5) tt_ok (inps := [.call (c_toWS x0), .call (c_SWaitingWriters x0 r0)]) rfl ?_ ?_ | refine ar_region (id := 6) tt_ok (inps := [.call (c_toWS x0)]) rfl ?_ ?_ | refine ar_region (id := 7) tt_ok (inps := [.call (c_IWaitingWriters gl x0 r0)]) rfl ?_ ?_ | refine ar_region (id := 10) tt_ok (inps := [.call (c_toWS x0), .call (c_eqWS x0)]) rfl ?_ ?_ | refine ar_region tt_ok (inps := []) rfl ?_ ?_); rotate_left; (try dsimp only [c_IWaitingWriters, c_SWaitingWriters, c_eqWS, c_szWS, c_toWS]); (try refine nrm ?_); rotate_right) | refine ret3 ?_ | refine end3 ?_) | (refine ar_cond rfl trivial ?_ ?_ <;> intro hc_ <;> (try simp only [isNilI, inB, reduceCtorEq, cds] at hc_) <;> (try (first | contradiction | (exfalso; omega)))) | refine ar_until (And.intro ?_ (wk3 ?_)))
  all_goals (first | refine ar_id ?_ | (try (focus ((try refine nrmO ?_); (repeat' (first | exact True.intro | refine And.intro ?_ ?_)); all_goals (try (intro (hg_ : _ = true); (try simp only [isNilI, inB, reduceCtorEq, cds] at hg_); (repeat' (first | exact True.intro | refine And.intro ?_ ?_)))); all_goals (first | exact ob1 | exact fn_szWS _ _ _ hm_x0 (by omega) (by rw [if_neg hz_x0]) | exact hS | exact hI | exact fn_toWS _ hs_x0 | exact fn_eqWS _ hs_x0 | exact hgl_.1 | exact hgl_.2.1 | exact hgl_.2.2.1 | exact hgl_.2.2.2.1 | exact hgl_.2.2.2.2.1 | exact hgl_.2.2.2.2.2.1 | exact hgl_.2.2.2.2.2.2.1 | exact hgl_.2.2.2.2.2.2.2.1 | exact hgl_ | exact rfl | exact one1 rfl | skip)))))
  all_goals (exfalso; (try simp only [or_false, false_or, not_true_eq_false] at hc_); omega)

theorem fn_LWaitingWriters (x0 : List GWriter) (hm : x0.length ≤ 9223372036854775807) : Fn Try.prog (c_XWaitingWriters [] x0) :=
  fn_XWaitingWriters [] x0 (pWaiting x0) hm (fun h => ⟨fn_WaitS x0 h, fn_WaitI x0 h⟩)
end Eng
end Go.Proofs.Ytabnglcabpijfaa

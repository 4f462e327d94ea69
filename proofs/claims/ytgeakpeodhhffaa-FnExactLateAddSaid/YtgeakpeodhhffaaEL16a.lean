/- Frees that wait: the exact law of LateAdd, by the symbolic run. -/
import Derived.Test.YtgeakpeodhhffaaELt
import Derived.Test.YtgeakpeodhhffaaEngZ
import Derived.Test.YtgeakpeodhhffaaE16a
import Derived.Test.YtgeakpeodhhffaaEI16a
import Derived.Test.YtgeakpeodhhffaaIn
import Derived.Test.YtgeakpeodhhffaaEArg
namespace Go.Proofs.Ytgeakpeodhhffaa
open Go.RowKit
set_option linter.unusedVariables false
set_option linter.unusedSimpArgs false
set_option maxRecDepth 100000
namespace Eng
open Tr
def c_SLateAdd (x0 : List GLate) (x1 : GLate) (r0 : List GLate) (r1 : Bool) : CFD := ⟨5, [.one (ro 30 2 eLate x0), .agg [(CV.lit (.int .i64 (x1.Index))), (CV.lit (.int .i64 (x1.Slot)))]], [], .tup [.one (.hd 0), (SV.one (.lit (.bool (r1))))], [(0, some (.row 30 2 (r0.map eLate)))], [0], []⟩
def c_ILateAdd (gl : List Glb) (x0 : List GLate) (x1 : GLate) (r0 : List GLate) (r1 : Bool) : CFD := ⟨8, [.one (ro 30 2 eLate x0), .agg [(CV.lit (.int .i64 (x1.Index))), (CV.lit (.int .i64 (x1.Slot)))]], [], .tup [.one (.hd 0), (SV.one (.lit (.bool (r1))))], [(0, some (.row 30 2 (r0.map eLate)))], [0], gl⟩
def c_XLateAdd (gl : List Glb) (x0 : List GLate) (x1 : GLate) : CFD := ⟨3, [.one (ro 24 2 eLate x0), .agg [(CV.lit (.int .i64 (x1.Index))), (CV.lit (.int .i64 (x1.Slot)))]], [], (TV.sv (.one (.lit (.bool (true))))), [], [], gl⟩
set_option maxHeartbeats 16000000 in
theorem fn_XLateAdd (gl : List Glb) (x0 : List GLate) (x1 : GLate) (r0 : List GLate) (r1 : Bool) (hm_x0 : x0.length ≤ 9223372036854775807) (hR : x0.length ≤ 1048576 → r0.length ≤ 1048576 ∧ 2 * r0.length ≤ 50000000 ∧ Fn Try.prog (c_SLateAdd x0 x1 r0 r1) ∧ Fn Try.prog (c_ILateAdd gl x0 x1 r0 r1)) : Fn Try.prog (c_XLateAdd gl x0 x1) := by
  by_cases hz_x0 : 1048576 - ((x0.length : Nat) : Int) < 0
  · skip
    refine fn_intro tt_ok Try.func3 rfl Try.call3 Try.ntmps3 Try.results3 rfl rfl rfl rfl ?_
    intro X ρ0 hb_ hgl_
    dsimp only [c_XLateAdd]
    try refine nrm ?_
    repeat' (refine ar_id ?_; first | refine st1 ?_ | (first | ((first | refine ar_region (id := 2) tt_ok (inps := [.call (c_szLS x0 (1048576) (-1))]) rfl ?_ ?_ | refine ar_region tt_ok (inps := []) rfl ?_ ?_); rotate_left; (try dsimp only [c_szLS]); (try refine nrm ?_); rotate_right) | refine ret3 ?_ | refine end3 ?_) | (refine ar_cond rfl trivial ?_ ?_ <;> intro hc_ <;> (try simp only [isNilI, inB, reduceCtorEq, cds] at hc_) <;> (try (first | contradiction | (exfalso; omega)))) | refine ar_until (And.intro ?_ (wk3 ?_)))
    all_goals (first | refine ar_id ?_ | (try (focus ((try refine nrmO ?_); (repeat' (first | exact True.intro | refine And.intro ?_ ?_)); all_goals (try (intro (hg_ : _ = true); (try simp only [isNilI, inB, reduceCtorEq, cds] at hg_); (repeat' (first | exact True.intro | refine And.intro ?_ ?_)))); all_goals (first | exact ob1 | exact fn_szLS _ _ _ hm_x0 (by omega) (by rw [if_pos hz_x0]) | skip)))))
  have hs_x0 : x0.length ≤ 1048576 := by omega
  obtain ⟨hs_r0, hc_r, hS, hI⟩ := hR (by omega)
  have hne_r1 : (r1 != r1) = false := by simp
  refine fn_intro tt_ok Try.func3 rfl Try.call3 Try.ntmps3 Try.results3 rfl rfl rfl rfl ?_
  intro X ρ0 hb_ hgl_
  dsimp only [c_XLateAdd]
  try refine nrm ?_
  repeat' (refine ar_id ?_; first | refine st1 ?_ | (refine ar_drawS (id := 5) tt_ok (by kernel_rfl) [.call (c_toLS x0), .call (c_toLt x1), .call (c_SLateAdd x0 x1 r0 r1)] ?_; refine ed_hide ?_; intro K_ hK_; repeat' (first | ((first | refine ed_call3 ?_ | refine ed_sure3 ?_ | refine ed_cons3 ?_); refine ed_hide ?_; intro K_ hK_; (try dsimp only [c_ILateAdd, c_SLateAdd, c_eqLS, c_heldLS, c_markLS, c_szLS, c_toLS, c_toLt]); (try refine nrmE ?_)) | (refine ed_nil ?_; (repeat subst hK_); dsimp only; refine Exists.intro _ (And.intro rfl (And.intro (by kernel_rfl) (And.intro ?_ ?_))); rotate_left; (try dsimp only [c_ILateAdd, c_SLateAdd, c_eqLS, c_heldLS, c_markLS, c_szLS, c_toLS, c_toLt]); (try refine nrm ?_); rotate_right))) | (refine ar_drawS (id := 24) tt_ok (by kernel_rfl) [.call (c_toLS x0), .call (c_toLt x1), .call (c_ILateAdd gl x0 x1 r0 r1)] ?_; refine ed_hide ?_; intro K_ hK_; repeat' (first | ((first | refine ed_call3 ?_ | refine ed_sure3 ?_ | refine ed_cons3 ?_); refine ed_hide ?_; intro K_ hK_; (try dsimp only [c_ILateAdd, c_SLateAdd, c_eqLS, c_heldLS, c_markLS, c_szLS, c_toLS, c_toLt]); (try refine nrmE ?_)) | (refine ed_nil ?_; (repeat subst hK_); dsimp only; refine Exists.intro _ (And.intro rfl (And.intro (by kernel_rfl) (And.intro ?_ ?_))); rotate_left; (try dsimp only [c_ILateAdd, c_SLateAdd, c_eqLS, c_heldLS, c_markLS, c_szLS, c_toLS, c_toLt]); (try refine nrm ?_); rotate_right))) | (first | ((first | refine ar_region (id := 2) tt_ok (inps := [.call (c_szLS x0 (1048576) (1048576 - ((x0.length : Nat) : Int)))]) rfl ?_ ?_ | refine ar_region (id := 6) tt_ok (inps := [.call (c_toLS x0)]) rfl ?_ ?_ | refine ar_region (id := 7) tt_ok (inps := [.call (c_toLt x1), .call (c_ILateAdd gl x0 x1 r0 r1)]) rfl ?_ ?_ | refine ar_region (id := 8) tt_ok (inps := [.call (c_eqLS r0)]) rfl ?_ ?_ | refine ar_region (id := 10) tt_ok (inps := [.call (c_toLS x0), .call (c_eqLS x0)]) rfl ?_ ?_ | refine ar_region (id := 13) tt_ok (inps := [.call (c_markLS x0 (1))]) rfl ?_ ?_ | refine ar_region (id := 14) tt_ok (inps := [.call (c_eqLS r0)]) rfl ?_ ?_ | refine ar_region (id := 17) tt_ok (inps := [.call (c_markLS r0 (1))]) rfl ?_ ?_ | refine ar_region (id := 19) tt_ok (inps := [.call (c_heldLS r0.length (1))]) rfl ?_ ?_ | refine ar_region (id := 25) tt_ok (inps := [.call (c_eqLS r0)]) rfl ?_ ?_ | refine ar_region (id := 28) tt_ok (inps := [.call (c_heldLS r0.length (1))]) rfl ?_ ?_ | refine ar_region tt_ok (inps := []) rfl ?_ ?_); rotate_left; (try dsimp only [c_ILateAdd, c_SLateAdd, c_eqLS, c_heldLS, c_markLS, c_szLS, c_toLS, c_toLt]); (try refine nrm ?_); rotate_right) | refine ret3 ?_ | refine end3 ?_) | (refine ar_cond rfl trivial ?_ ?_ <;> intro hc_ <;> (try simp only [isNilI, inB, reduceCtorEq, cds] at hc_) <;> (try (first | contradiction | (exfalso; omega) | (exfalso; (simp only [hne_r1] at hc_; cases hc_))))) | refine ar_until (And.intro ?_ (wk3 ?_)))
  all_goals (first | refine ar_id ?_ | (try (focus ((try refine nrmO ?_); (repeat' (first | exact True.intro | refine And.intro ?_ ?_)); all_goals (try (intro (hg_ : _ = true); (try simp only [isNilI, inB, reduceCtorEq, cds] at hg_); (repeat' (first | exact True.intro | refine And.intro ?_ ?_)))); all_goals (first | exact ob1 | exact fn_szLS _ _ _ hm_x0 (by omega) (by rw [if_neg hz_x0]) | exact hS | exact hI | exact fn_toLS _ hs_x0 | exact fn_eqLS _ hs_x0 | exact fn_eqLS _ hs_r0 | exact fn_markLS _ _ hs_x0 (by omega) | exact fn_markLS _ _ hs_r0 (by omega) | exact fn_heldLS _ _ (by omega) (by omega) | exact fn_toLt _ | exact hgl_.1 | exact hgl_.2.1 | exact hgl_.2.2.1 | exact hgl_.2.2.2.1 | exact hgl_.2.2.2.2.1 | exact hgl_.2.2.2.2.2.1 | exact hgl_.2.2.2.2.2.2.1 | exact hgl_.2.2.2.2.2.2.2.1 | exact hgl_ | exact rfl | exact one1 rfl | skip)))))
  all_goals (exfalso; (try simp only [or_false, false_or, not_true_eq_false] at hc_); omega)
theorem arg_Lt {w : World} (s : GLate) : SRel (cxOf w) noEnv (.agg [(CV.lit (.int .i64 (s.Index))), (CV.lit (.int .i64 (s.Slot)))]) (.agg #[.int .i64 s.Index, .int .i64 s.Slot]) :=
  arg_lits (vs := [.int .i64 s.Index, .int .i64 s.Slot]) rfl (by intro v hv; simp only [List.mem_cons, List.not_mem_nil, or_false] at hv; rcases hv with rfl | rfl <;> rfl)
theorem fn_LLateAdd (G : List Glb) (hI : ∀ l x r b, l.length ≤ 1048576 → pLateAdd l x = (r, b) → Fn Try.prog (c_ILateAdd G l x r b)) (x0 : List GLate) (x1 : GLate) (hm0 : x0.length ≤ 9223372036854775807) : Fn Try.prog (c_XLateAdd G x0 x1) := by
  obtain ⟨⟨r, b⟩, hr⟩ : ∃ r, pLateAdd x0 x1 = r := ⟨_, rfl⟩
  refine fn_XLateAdd G x0 x1 r b hm0 (fun hn => ?_)
  have hl : r.length ≤ 1048576 := by
    unfold pLateAdd at hr
    split at hr
    · obtain ⟨rfl, _⟩ := Prod.mk.inj hr; omega
    · rename_i h
      obtain ⟨rfl, _⟩ := Prod.mk.inj hr
      have : x0.length < 40 := by
        rcases Nat.lt_or_ge x0.length 40 with h1 | h1
        · exact h1
        · exact absurd (Or.inr h1) h
      rw [List.length_append]
      show _ + 1 ≤ _
      omega
  exact ⟨hl, by omega, fn_LAddS x0 x1 r b (by omega) hr, hI x0 x1 r b (by omega) hr⟩
end Eng
end Go.Proofs.Ytgeakpeodhhffaa

/- Lemmas for the proofs, part 7 of 7: a symbolic run of the program, and what it needs. -/
import Derived.Stop.LaidErr
import Derived.Below
import Derived.Test.YtfiofmaknndpcaaGreatDoorRows
import Derived.Deep.DeepHandedRow
import Derived.Lib.LaidTab
import Derived.WalkSmall
import Derived.ProofKit
import Derived.OpenVars
import Derived.Test.YtfiofmaknndpcaaGreatDoorW6
set_option linter.unusedVariables false
set_option linter.unusedSimpArgs false
set_option maxRecDepth 100000
namespace Go.Proofs.YtfiofmaknndpcaaGreatDoor
open Go.RowKit
namespace Eng
open Tr
def qt2 (s : Se) (k : GKernel) (j : GJob) (ws : List GWriter) (order : List Int) (r : WSt) : CFD := ⟨11, [.agg [ro 33 1 x8 k.Machine.Frames.Cells, ro 4 1 Tr.eB k.Machine.Frames.Used, ro 42 2 xk k.Machine.Table.Entries, (CV.lit (.int .i64 (k.Calls))), ro 3 1 Tr.eI k.Refuse], .agg [(CV.lit (.int .i64 (j.Plan.Keep))), (CV.lit (.int .i64 (j.Plan.Move))), ro 3 1 Tr.eI j.Plan.Cells, (CV.lit (.int .i64 (j.Phase))), (CV.lit (.int .i64 (j.Next)))], .one (ro 46 4 qa5 ws), .one (ro 3 1 Tr.eI order)], [], .tup [.agg [.hd 0, .hd 1, .hd 2, (CV.lit (.int .i64 (r.k.Calls))), .hd 3], .agg [(CV.lit (.int .i64 (r.j.Plan.Keep))), (CV.lit (.int .i64 (r.j.Plan.Move))), .hd 4, (CV.lit (.int .i64 (r.j.Phase))), (CV.lit (.int .i64 (r.j.Next)))], .one (.hd 5)], [(0, some (.row 33 1 (r.k.Machine.Frames.Cells.map x8))), (1, some (.row 4 1 (r.k.Machine.Frames.Used.map Tr.eB))), (2, some (.row 42 2 (r.k.Machine.Table.Entries.map xk))), (3, some (.row 3 1 (r.k.Refuse.map Tr.eI))), (4, some (.row 3 1 (r.j.Plan.Cells.map Tr.eI))), (5, some (.row 46 4 (r.ws.map qa5)))], [0, 1, 2, 3, 4, 5], s.gl⟩
set_option maxHeartbeats 8000000 in
theorem q4v (hn : ¬ Co.Lone) (s : Se) (hJ : ∀ k j k' j', szK8 k -> j.Plan.Cells.length <= 1048576 -> qbj k j = (k', j') -> Fn Tryz.prog (qb6 s k j k' j')) (hWr : ∀ k w k' w', szK8 k -> okI w.Addr -> jv k w = (k', w') -> Fn Tryz.prog (qch s k w k' w'))
  (k : GKernel) (j : GJob) (ws : List GWriter) (order : List Int) (r : WSt) (hs : szK8 k) (hl : j.Plan.Cells.length <= 1048576) (hw : ws.length <= 1048576) (ho : order.length <= 1048576) (ha : ∀ n, okI (ws.getD n noW).Addr) (h : qb7 k j ws order = r) : FnGo Tryz.prog (qt2 s k j ws order r) := by
 have hcp := qdt k (qex hs)
 have hcj := qk6 j hl
 have hcw := qxl ws hw
 unfold qb7 at h
 by_cases hm : order.length <= 200
 ·rw [if_pos hm] at h
  have hz := qvt ⟨k, j, ws⟩ order
  have h0 : runO ⟨k, j, ws⟩ order 0 = ⟨k, j, ws⟩ := rfl
  have hsucc : ∀ n, runO ⟨k, j, ws⟩ order (n + 1) = stepO (runO ⟨k, j, ws⟩ order n) (order.getD n 0) := fun _ => rfl
  generalize runO ⟨k, j, ws⟩ order = T at h h0 hsucc hz
  refine qj9 hn qf Tryz.func11 rfl Tryz.ntmps11 Tryz.results11 rfl rfl rfl rfl ?_
  intro X ρ0 hb_ hgl_ hH_ hP_
  dsimp only [qt2]
  try refine nrm ?_
  refine qf5 hn (qi8 hn ?_)
  repeat' (refine qj ?_; first | refine st1 ?_ | (first | ((first | refine qc qf (inps := []) rfl ?_ ?_); rotate_left; (try refine nrm ?_); rotate_right) | refine ret3 ?_ | refine end3 ?_) | (refine ql rfl trivial ?_ ?_ <;> intro hc_ <;> (try simp only [qg, inB, reduceCtorEq, cds] at hc_) <;> (try (first | contradiction | (exfalso; omega)))) | refine qi (And.intro ?_ (wk3 ?_)) | fail)
  all_goals (first | refine qj ?_ | (try (focus ((try refine nrmO ?_); (repeat' (first | exact True.intro | apply And.intro)); all_goals (try (intro (hg_ : _ = true); (try simp only [qg, inB, reduceCtorEq, cds] at hg_); (repeat' (first | exact True.intro | apply And.intro)))); all_goals (first | exact ob1 | skip)))))
  refine qi ?_
  refine qf5 hn (qi8 hn ?_)
  repeat' (refine qj ?_; first | refine st1 ?_ | (refine yg (id := 1) qf (by kernel_rfl) [.call (qo k), .call (qy j), .call (qcd ws)] ?_; refine qp ?_; intro K_ hK_; repeat' (first | ((first | refine yc ?_ | refine yf ?_ | refine x9 ?_); refine qp ?_; intro K_ hK_; (try dsimp only [qcd, qo, qy]); (try refine nrmE ?_)) | (refine zk ?_; (repeat subst hK_); dsimp only; refine Exists.intro _ (And.intro rfl (And.intro (by kernel_rfl) (And.intro ?_ ?_))); rotate_left; (try dsimp only [qcd, qo, qy]); (try refine nrm ?_); rotate_right))) | (first | ((first | refine qc qf (inps := []) rfl ?_ ?_); rotate_left; (try dsimp only [qcd, qo, qy]); (try refine nrm ?_); rotate_right) | refine ret3 ?_ | refine end3 ?_) | (refine ql rfl trivial ?_ ?_ <;> intro hc_ <;> (try simp only [qg, inB, reduceCtorEq, cds] at hc_) <;> (try (first | contradiction | (exfalso; omega)))) | refine qi (And.intro ?_ (wk3 ?_)) | fail)
  all_goals (first | refine qj ?_ | (try (focus ((try refine nrmO ?_); (repeat' (first | exact True.intro | apply And.intro)); all_goals (try (intro (hg_ : _ = true); (try simp only [qg, inB, reduceCtorEq, cds] at hg_); (repeat' (first | exact True.intro | apply And.intro)))); all_goals (first | exact ob1 | exact hcp | exact hcj | exact hcw | skip)))))
  dsimp only [q8a, q8b]
  refine qi ?_
  refine qf5 hn (qi8 hn ?_)
  repeat' (refine qj ?_; first | refine st1 ?_ | (first | ((first | refine qc qf (inps := []) rfl ?_ ?_); rotate_left; (try refine nrm ?_); rotate_right) | refine ret3 ?_ | refine end3 ?_) | (refine ql rfl trivial ?_ ?_ <;> intro hc_ <;> (try simp only [qg, inB, reduceCtorEq, cds] at hc_) <;> (try (first | contradiction | (exfalso; omega) | (exfalso; omega)))) | refine qi (And.intro ?_ (wk3 ?_)) | fail)
  all_goals (first | refine qj ?_ | (try (focus ((try refine nrmO ?_); (repeat' (first | exact True.intro | apply And.intro)); all_goals (try (intro (hg_ : _ = true); (try simp only [qg, inB, reduceCtorEq, cds] at hg_); (repeat' (first | exact True.intro | apply And.intro)))); all_goals (first | exact ob1 | skip)))))
  refine qi ?_
  refine qf5 hn (qf5 hn ?_)
  refine q1a hn rfl rfl rfl rfl rfl rfl rfl rfl rfl rfl rfl (by omega) hH_ ?_
  intro X' c S hH' hS' hg' hback
  dsimp only at hback ⊢
  have hgl_ : qcz (GlX X') s.gl := qfk hg' hgl_
  refine q08 hn hH' hS' ?_
  refine qxm [8, 9, 11, 12, 17000, 17001, 17002, 17003, 19000, 21000] (by dsimp only [selB, hasN] <;> exact rfl) ?_
  refine q4t 805338943 (by dsimp only [qbb] <;> exact rfl) ?_
  refine q4u (inps := []) (inps' := []) hn hH' hS' hback hH_ (ds := 29) (sl := 28) rfl rfl (fun ρ w => ⟨by kernel_rfl, by kernel_rfl⟩) rfl rfl order (fun n => [(13, (TV.sv (.one (.hd 21000))))]) (fun n => [(11, some (.box 35 [.hd 17000, .hd 17001, .hd 17002, (CV.lit (.int .i64 (((T n).k).Calls))), .hd 17003])), (17000, some (.row 33 1 (((T n).k).Machine.Frames.Cells.map x8))), (17001, some (.row 4 1 (((T n).k).Machine.Frames.Used.map Tr.eB))), (17002, some (.row 42 2 (((T n).k).Machine.Table.Entries.map xk))), (17003, some (.row 3 1 (((T n).k).Refuse.map Tr.eI))), (12, some (.box 48 [(CV.lit (.int .i64 (((T n).j).Plan.Keep))), (CV.lit (.int .i64 (((T n).j).Plan.Move))), .hd 19000, (CV.lit (.int .i64 (((T n).j).Phase))), (CV.lit (.int .i64 (((T n).j).Next)))])), (19000, some (.row 3 1 (((T n).j).Plan.Cells.map Tr.eI))), (21000, some (.row 46 4 ((T n).ws.map qa5)))]) (fun n => rfl) ?_ ?_ ?_
  rotate_left
  ·have hT : T order.length = r := h
   dsimp only [jk, zf, Int.toNat_natCast, ro, Nat.reduceAdd, Nat.reduceMul, Nat.zero_add, List.map, putT, app, jh, gOb, argT, keys, yj, dropped, gAnd, wB, rnT, rnS, rnC, rnCs, rnSs, rnM, rnB, rnN, rn, lk, St.over, ded, delL, ww, menT, qaa, menS, wz, menC, hasN, resT, SV.cells]
   generalize hQ_ : kont _ _ _ _ = Q_
   repeat' (first | (focus (refine zh qf ?_ ?_; (try refine nrm ?_); rotate_left)) | (subst hQ_; refine as_nil ?_))
   all_goals first | exact ⟨True.intro, True.intro⟩ | (dsimp only [app, gOb, All]; done) | (dsimp only [app, gOb, All]; exact True.intro) | skip
   repeat' (refine qj ?_; first | refine st1 ?_ | (refine yg (id := 11) qf (by kernel_rfl) [] ?_; refine qp ?_; intro K_ hK_; repeat' (first | ((first | refine yc ?_ | refine yf ?_ | refine x9 ?_); refine qp ?_; intro K_ hK_; (try refine nrmE ?_)) | (refine zk ?_; (repeat subst hK_); dsimp only; refine Exists.intro _ (And.intro rfl (And.intro (by kernel_rfl) (And.intro ?_ ?_))); rotate_left; (try refine nrm ?_); rotate_right))) | (first | ((first | refine qc qf (inps := []) rfl ?_ ?_); rotate_left; (try refine nrm ?_); rotate_right) | refine ret3 ?_ | refine end3 ?_) | (refine ql rfl trivial ?_ ?_ <;> intro hc_ <;> (try simp only [qg, inB, reduceCtorEq, cds] at hc_) <;> (try (first | contradiction | (exfalso; omega) | (exfalso; omega)))) | refine qi (And.intro ?_ (wk3 ?_)) | fail)
   all_goals (first | refine qj ?_ | (try (focus ((try refine nrmO ?_); (repeat' (first | exact True.intro | apply And.intro)); all_goals (try (intro (hg_ : _ = true); (try simp only [qg, inB, reduceCtorEq, cds] at hg_); (repeat' (first | exact True.intro | apply And.intro)))); all_goals (first | exact ob1 | exact rfl | skip)))))
   all_goals first | (rw [hT]; done) | trace_state
  ·dsimp only [jk, zf, Int.toNat_natCast, ro, Nat.reduceAdd, Nat.reduceMul, Nat.zero_add, List.map, putT, app, jh, gOb, argT, keys, yj, dropped, gAnd, wB, rnT, rnS, rnC, rnCs, rnSs, rnM, rnB, rnN, rn, lk, St.over, ded, delL, ww, menT, qaa, menS, wz, menC, hasN, resT, SV.cells]
   refine wk3 ?_
   all_goals (try (focus ((try refine nrmO ?_); (repeat' (first | exact True.intro | apply And.intro)); all_goals (try (intro (hg_ : _ = true); (try simp only [qg, inB, reduceCtorEq, cds] at hg_); (repeat' (first | exact True.intro | apply And.intro)))); all_goals (first | exact ob1 | exact rfl | skip))))
   all_goals first | (rw [h0]; done) | trace_state
  ·intro n hlt
   have hn0 := hz n
   have hsn := qib hs hn0.m hn0.r
   have hln : (T n).j.Plan.Cells.length <= 1048576 := by rw [hn0.p]; exact hl
   have han : ∀ q, okI ((T n).ws.getD q noW).Addr := fun q => by rw [hn0.w]; exact ha q
   have hwn : (T n).ws.length <= 1048576 := by rw [hn0.n]; exact hw
   have hst := hsucc n
   unfold stepO at hst
   dsimp only [jk, zf, Int.toNat_natCast, ro, Nat.reduceAdd, Nat.reduceMul, Nat.zero_add, List.map, putT, app, jh, gOb, argT, keys, yj, dropped, gAnd, wB, rnT, rnS, rnC, rnCs, rnSs, rnM, rnB, rnN, rn, lk, St.over, ded, delL, ww, menT, qaa, menS, wz, menC, hasN, resT, SV.cells]
   generalize hQ_ : kont _ _ _ _ = Q_
   repeat' (first | (focus (refine zh qf ?_ ?_; (try refine nrm ?_); rotate_left)) | (subst hQ_; refine as_nil ?_))
   all_goals first | exact ⟨True.intro, True.intro⟩ | (dsimp only [app, gOb, All]; done) | (dsimp only [app, gOb, All]; exact True.intro) | skip
   by_cases ho1 : order.getD n 0 = -1
   ·rw [if_pos ho1] at hst
    have hws : (T (n + 1)).ws = (T n).ws := by rw [hst]
    have hj1 := hJ (T n).k (T n).j (T (n + 1)).k (T (n + 1)).j hsn hln (by rw [hst])
    repeat' (refine qj ?_; first | refine st1 ?_ | (first | ((first | refine qc (id := 8) qf (inps := [.call (qb6 s (T n).k (T n).j (T (n + 1)).k (T (n + 1)).j)]) rfl ?_ ?_ | refine qc qf (inps := []) rfl ?_ ?_); rotate_left; (try dsimp only [qb6]); (try refine nrm ?_); rotate_right) | refine ret3 ?_ | refine end3 ?_) | (refine ql rfl trivial ?_ ?_ <;> intro hc_ <;> (try simp only [qg, inB, reduceCtorEq, cds] at hc_) <;> (try (first | contradiction | (exfalso; omega) | (exfalso; exact hc_ ho1)))) | refine qi (And.intro ?_ (wk3 ?_)) | fail)
    all_goals (first | refine qj ?_ | (try (focus ((try refine nrmO ?_); (repeat' (first | exact True.intro | apply And.intro)); all_goals (try (intro (hg_ : _ = true); (try simp only [qg, inB, reduceCtorEq, cds] at hg_); (repeat' (first | exact True.intro | apply And.intro)))); all_goals (first | exact ob1 | exact hj1 | exact hgl_.1 | exact hgl_.2.1 | exact hgl_.2.2.1 | exact hgl_.2.2.2.1 | exact hgl_.2.2.2.2.1 | exact hgl_.2.2.2.2.2.1 | exact hgl_.2.2.2.2.2.2.1 | exact hgl_.2.2.2.2.2.2.2.1 | exact hgl_ | exact rfl | exact one1 rfl | skip)))))
    all_goals first | exact (congrArg _ hws.symm) | trace_state
   ·rw [if_neg ho1] at hst
    by_cases ho2 : 0 <= order.getD n 0 /\ order.getD n 0 < ((T n).ws.length : Int)
    ·rw [if_pos ho2] at hst
     obtain ⟨⟨k1, w1⟩, hW1⟩ : ∃ r, jv (T n).k ((T n).ws.getD (order.getD n 0).toNat noW) = r := ⟨_, rfl⟩
     rw [hW1] at hst
     have hk1 : (T (n + 1)).k = k1 := by rw [hst]
     have hj1 : (T (n + 1)).j = (T n).j := by rw [hst]
     have hw1 : (T (n + 1)).ws = (T n).ws.set (order.getD n 0).toNat w1 := by rw [hst]
     have hWc := hWr _ _ _ _ hsn (han _) hW1
     repeat' (refine qj ?_; first | refine st1 ?_ | (refine yg (id := 10) qf (by kernel_rfl) [.elem (qa5 ((T n).ws.getD (order.getD n 0).toNat noW)), .call (qch s (T n).k ((T n).ws.getD (order.getD n 0).toNat noW) k1 w1), .elem (qa5 ((T n).ws.getD (order.getD n 0).toNat noW))] ?_; refine qp ?_; intro K_ hK_; repeat' (first | ((first | refine yc ?_ | refine yf ?_ | refine x9 ?_); refine qp ?_; intro K_ hK_; (try dsimp only [qch]); (try refine nrmE ?_)) | (refine zk ?_; (repeat subst hK_); dsimp only; refine Exists.intro _ (And.intro rfl (And.intro (by kernel_rfl) (And.intro ?_ ?_))); rotate_left; (try dsimp only [qch]); (try refine nrm ?_); rotate_right))) | (first | ((first | refine qc qf (inps := []) rfl ?_ ?_); rotate_left; (try dsimp only [qch]); (try refine nrm ?_); rotate_right) | refine ret3 ?_ | refine end3 ?_) | (refine ql rfl trivial ?_ ?_ <;> intro hc_ <;> (try simp only [qg, inB, reduceCtorEq, cds] at hc_) <;> (try (first | contradiction | (exfalso; omega) | (exfalso; first | omega | exact ho1 hc_)))) | refine qi (And.intro ?_ (wk3 ?_)) | fail)
     all_goals (first | refine qj ?_ | (try (focus ((try refine nrmO ?_); (repeat' (first | exact True.intro | apply And.intro)); all_goals (try (intro (hg_ : _ = true); (try simp only [qg, inB, reduceCtorEq, cds] at hg_); (repeat' (first | exact True.intro | apply And.intro)))); all_goals (first | exact ob1 | exact hWc | exact hgl_.1 | exact hgl_.2.1 | exact hgl_.2.2.1 | exact hgl_.2.2.2.1 | exact hgl_.2.2.2.2.1 | exact hgl_.2.2.2.2.2.1 | exact hgl_.2.2.2.2.2.2.1 | exact hgl_.2.2.2.2.2.2.2.1 | exact hgl_ | exact rfl | exact one1 rfl | skip)))))
     all_goals first | (rw [hk1]; done) | (rw [hj1]; done) | (rw [hw1, List.map_set]; rfl) | trace_state
    ·have hst' : T (n + 1) = T n := by rw [hst, if_neg ho2]
     repeat' (refine qj ?_; first | refine st1 ?_ | (first | ((first | refine qc qf (inps := []) rfl ?_ ?_); rotate_left; (try refine nrm ?_); rotate_right) | refine ret3 ?_ | refine end3 ?_) | (refine ql rfl trivial ?_ ?_ <;> intro hc_ <;> (try simp only [qg, inB, reduceCtorEq, cds] at hc_) <;> (try (first | contradiction | (exfalso; omega) | (exfalso; first | omega | exact ho1 hc_)))) | refine qi (And.intro ?_ (wk3 ?_)) | fail)
     all_goals (first | refine qj ?_ | (try (focus ((try refine nrmO ?_); (repeat' (first | exact True.intro | apply And.intro)); all_goals (try (intro (hg_ : _ = true); (try simp only [qg, inB, reduceCtorEq, cds] at hg_); (repeat' (first | exact True.intro | apply And.intro)))); all_goals (first | exact ob1 | skip)))))
     all_goals first | (rw [hst']; done) | trace_state
 ·rw [if_neg hm] at h
  subst h
  refine qj9 hn qf Tryz.func11 rfl Tryz.ntmps11 Tryz.results11 rfl rfl rfl rfl ?_
  intro X ρ0 hb_ hgl_ hH_ hP_
  dsimp only [qt2]
  try refine nrm ?_
  refine qsi hn ?_
  repeat' (refine qj ?_; first | refine st1 ?_ | (refine yg (id := 1) qf (by kernel_rfl) [.call (qo k), .call (qy j), .call (qcd ws)] ?_; refine qp ?_; intro K_ hK_; repeat' (first | ((first | refine yc ?_ | refine yf ?_ | refine x9 ?_); refine qp ?_; intro K_ hK_; (try dsimp only [qcd, qo, qy]); (try refine nrmE ?_)) | (refine zk ?_; (repeat subst hK_); dsimp only; refine Exists.intro _ (And.intro rfl (And.intro (by kernel_rfl) (And.intro ?_ ?_))); rotate_left; (try dsimp only [qcd, qo, qy]); (try refine nrm ?_); rotate_right))) | (refine yg (id := 3) qf (by kernel_rfl) [] ?_; refine qp ?_; intro K_ hK_; repeat' (first | ((first | refine yc ?_ | refine yf ?_ | refine x9 ?_); refine qp ?_; intro K_ hK_; (try dsimp only [qcd, qo, qy]); (try refine nrmE ?_)) | (refine zk ?_; (repeat subst hK_); dsimp only; refine Exists.intro _ (And.intro rfl (And.intro (by kernel_rfl) (And.intro ?_ ?_))); rotate_left; (try dsimp only [qcd, qo, qy]); (try refine nrm ?_); rotate_right))) | (first | ((first | refine qc qf (inps := []) rfl ?_ ?_); rotate_left; (try dsimp only [qcd, qo, qy]); (try refine nrm ?_); rotate_right) | refine ret3 ?_ | refine end3 ?_) | (refine ql rfl trivial ?_ ?_ <;> intro hc_ <;> (try simp only [qg, inB, reduceCtorEq, cds] at hc_) <;> (try (first | contradiction | (exfalso; omega) | (exfalso; exact hm (by omega))))) | refine qi (And.intro ?_ (wk3 ?_)) | fail)
  all_goals (first | refine qj ?_ | (try (focus ((try refine nrmO ?_); (repeat' (first | exact True.intro | apply And.intro)); all_goals (try (intro (hg_ : _ = true); (try simp only [qg, inB, reduceCtorEq, cds] at hg_); (repeat' (first | exact True.intro | apply And.intro)))); all_goals (first | exact ob1 | exact hcp | exact hcj | exact hcw | skip)))))
  all_goals trace_state
set_option maxHeartbeats 4000000 in
theorem q7t (hn : ¬ Co.Lone) (G : List Glb) (hInt : ∀ k j ws o s, szK8 k -> j.Plan.Cells.length <= 1048576 -> ws.length <= 1048576 -> o.length <= 1048576 -> (∀ n, okI (ws.getD n noW).Addr) -> qb7 k j ws o = s -> FnGo Tryz.prog (qtu G k j ws o s))
  (hWr : ∀ k w k' w', szK8 k -> okI w.Addr -> jv k w = (k', w') -> Fn Tryz.prog (qe7 G k w k' w'))
  (hAct : ∀ j : GJob, j.Plan.Cells.length <= 1048576 -> Fn Tryz.prog (qg3 G j)) (hJok : ∀ j : GJob, j.Plan.Cells.length <= 1048576 -> Fn Tryz.prog (qtw G j)) (bs : List Int) (hb : ∀ x ∈ bs, 0 <= x /\ x <= 255) : FnGo Tryz.prog (qvl G bs) := by
 by_cases hl : (1048576 : Int) < (bs.length : Int)
 ·have hd := decide_eq_true hl
  refine qj9 hn qf Tryz.func4 rfl Tryz.ntmps4 Tryz.results4 rfl rfl rfl rfl ?_
  intro X ρ0 hb_ hgl_ hH_ hP_
  dsimp only [qvl]
  try refine nrm ?_
  refine qsi hn ?_
  repeat' (refine qj ?_; first | refine st1 ?_ | (first | ((first | refine qc (id := 1) qf (inps := [.call (qou bs)]) rfl ?_ ?_ | refine qc qf (inps := []) rfl ?_ ?_); rotate_left; (try dsimp only [qou]); (try refine nrm ?_); rotate_right) | refine ret3 ?_ | refine end3 ?_) | (refine ql rfl trivial ?_ ?_ <;> intro hc_ <;> (try simp only [qg, inB, reduceCtorEq, cds] at hc_) <;> (try (first | contradiction | (exfalso; omega)))) | refine qi (And.intro ?_ (wk3 ?_)) | fail)
  all_goals (first | refine qj ?_ | (try (focus ((try refine nrmO ?_); (repeat' (first | exact True.intro | apply And.intro)); all_goals (try (intro (hg_ : _ = true); (try simp only [qg, inB, reduceCtorEq, cds] at hg_); (repeat' (first | exact True.intro | apply And.intro)))); all_goals (first | exact ob1 | exact q0v bs | skip)))))
 ·have hl' : bs.length <= 2097152 := by omega
  have hc0 := ql9 hl' hb
  obtain ⟨r, hr⟩ : ∃ r, qc7 bs (dNew bs) = r := ⟨_, rfl⟩
  obtain ⟨w, hw⟩ : ∃ w, wrS bs r.1.2 r.2 16 = w := ⟨_, rfl⟩
  obtain ⟨o, ho⟩ : ∃ o, dOrd bs w.2 = o := ⟨_, rfl⟩
  have hdraw := qw2 bs r w o hl' hb hr hw ho
  obtain ⟨g1, g2, g3, g4, g5⟩ := qfy hc0
  have hol := q4g (bs := bs) (c := w.2) (by rw [← hw]; rw [hr] at g4; exact (qns g4 16).1)
  rw [ho] at hol
  have hwl := q0t (bs := bs) (p := r.1.2) (cu := r.2) 16
  rw [hw] at hwl
  have hWE := qw1 hc0 (congrArg (fun z => z.1.1) hr) (congrArg (fun z => z.1.2) hr) hw (by omega) (rfl : qb7 r.1.1 ⟨r.1.2, 0, 0⟩ w.1 o.1 = _)
  rw [hr] at g1 g2 g3 g5
  clear hr hw ho g4
  obtain ⟨⟨k, p⟩, cu⟩ := r
  obtain ⟨ws, cw⟩ := w
  obtain ⟨o, co⟩ := o
  dsimp only at hdraw hWE g1 g2 g3 g5 hol hwl
  have hp1 := g3.2.1
  have hp2 := g3.2.2.1
  have hcl := qjv g3.2.2.2
  have hjn : qeh p = (⟨p, 0, 0⟩, true) := if_pos g3
  have han : ∀ n, okI (ws.getD n noW).Addr := fun n => by
   by_cases hn : n < ws.length
   ·have := (hWE.2.2.2 n hn).1; exact ⟨by omega, by omega⟩
   ·rw [List.getD_eq_getElem?_getD, List.getElem?_eq_none (by omega)]; exact ⟨by decide, by decide⟩
  obtain ⟨x1, hx1⟩ : ∃ x1, qb7 k ⟨p, 0, 0⟩ ws o = x1 := ⟨_, rfl⟩
  rw [hx1] at hWE
  obtain ⟨e1, e2, e3, e4⟩ := hWE
  have y1 : szK8 x1.k := by have := q7p e2; exact ⟨⟨this.m.c, this.m.u, this.m.r, this.m.e⟩, this.r⟩
  have l1 : x1.j.Plan.Cells.length <= 1048576 := by have := qjv e3.1.2.2.2; omega
  have hI := hInt k ⟨p, 0, 0⟩ ws o x1 g5 (by show p.Cells.length <= _; omega) (by omega) (by omega) han hx1
  have hN := q4l p ⟨p, 0, 0⟩ true (by omega) hjn
  have hA := hAct x1.j l1
  have hJ := hJok x1.j l1
  have hj2 : qkt x1.j = true := decide_eq_true e3
  clear hx1 e2 e3
  refine qj9 hn qf Tryz.func4 rfl Tryz.ntmps4 Tryz.results4 rfl rfl rfl rfl ?_
  intro X ρ0 hb_ hgl_ hH_ hP_
  dsimp only [qvl]
  try refine nrm ?_
  refine qf5 hn (qi8 hn ?_)
  repeat' (refine qj ?_; first | refine st1 ?_ | (first | ((first | refine qc qf (inps := []) rfl ?_ ?_); rotate_left; (try refine nrm ?_); rotate_right) | refine ret3 ?_ | refine end3 ?_) | (refine ql rfl trivial ?_ ?_ <;> intro hc_ <;> (try simp only [qg, inB, reduceCtorEq, cds] at hc_) <;> (try (first | contradiction | (exfalso; omega)))) | refine qi (And.intro ?_ (wk3 ?_)) | fail)
  all_goals (first | refine qj ?_ | (try (focus ((try refine nrmO ?_); (repeat' (first | exact True.intro | apply And.intro)); all_goals (try (intro (hg_ : _ = true); (try simp only [qg, inB, reduceCtorEq, cds] at hg_); (repeat' (first | exact True.intro | apply And.intro)))); all_goals (first | exact ob1 | skip)))))
  refine qi ?_
  refine qf5 hn (qi8 hn ?_)
  repeat' (refine qj ?_; first | refine st1 ?_ | (first | ((first | refine qc (id := 1) qf (inps := [.call (qou bs)]) rfl ?_ ?_ | refine qc qf (inps := []) rfl ?_ ?_); rotate_left; (try dsimp only [qou]); (try refine nrm ?_); rotate_right) | refine ret3 ?_ | refine end3 ?_) | (refine ql rfl trivial ?_ ?_ <;> intro hc_ <;> (try simp only [qg, inB, reduceCtorEq, cds] at hc_) <;> (try (first | contradiction | (exfalso; omega) | (exfalso; grind)))) | refine qi (And.intro ?_ (wk3 ?_)) | fail)
  all_goals (first | refine qj ?_ | (try (focus ((try refine nrmO ?_); (repeat' (first | exact True.intro | apply And.intro)); all_goals (try (intro (hg_ : _ = true); (try simp only [qg, inB, reduceCtorEq, cds] at hg_); (repeat' (first | exact True.intro | apply And.intro)))); all_goals (first | exact ob1 | exact q0v bs | skip)))))
  refine qi ?_
  refine qf5 hn (qi8 hn ?_)
  repeat' (refine qj ?_; first | refine st1 ?_ | (first | ((first | refine qc (id := 3) qf (inps := [.call (qjz bs k p ws o)]) rfl ?_ ?_ | refine qc qf (inps := []) rfl ?_ ?_); rotate_left; (try dsimp only [qjz]); (try refine nrm ?_); rotate_right) | refine ret3 ?_ | refine end3 ?_) | (refine ql rfl trivial ?_ ?_ <;> intro hc_ <;> (try simp only [qg, inB, reduceCtorEq, cds] at hc_) <;> (try (first | contradiction | (exfalso; omega)))) | refine qi (And.intro ?_ (wk3 ?_)) | fail)
  all_goals (first | refine qj ?_ | (try (focus ((try refine nrmO ?_); (repeat' (first | exact True.intro | apply And.intro)); all_goals (try (intro (hg_ : _ = true); (try simp only [qg, inB, reduceCtorEq, cds] at hg_); (repeat' (first | exact True.intro | apply And.intro)))); all_goals (first | exact ob1 | exact hdraw | skip)))))
  refine qi ?_
  refine qf5 hn (qi8 hn ?_)
  repeat' (refine qj ?_; first | refine st1 ?_ | (first | ((first | refine qc (id := 4) qf (inps := [.call (qtv p ⟨p, 0, 0⟩ true)]) rfl ?_ ?_ | refine qc qf (inps := []) rfl ?_ ?_); rotate_left; (try dsimp only [qtv]); (try refine nrm ?_); rotate_right) | refine ret3 ?_ | refine end3 ?_) | (refine ql rfl trivial ?_ ?_ <;> intro hc_ <;> (try simp only [qg, inB, reduceCtorEq, cds] at hc_) <;> (try (first | contradiction | (exfalso; omega)))) | refine qi (And.intro ?_ (wk3 ?_)) | fail)
  all_goals (first | refine qj ?_ | (try (focus ((try refine nrmO ?_); (repeat' (first | exact True.intro | apply And.intro)); all_goals (try (intro (hg_ : _ = true); (try simp only [qg, inB, reduceCtorEq, cds] at hg_); (repeat' (first | exact True.intro | apply And.intro)))); all_goals (first | exact ob1 | exact hN | skip)))))
  dsimp only [zKer, zPln, q6j]
  refine qi ?_
  refine qf5 hn ?_
  refine q4m (l1 := [_, _, _, _]) (l2 := [_, _, _, _, _, _, _, _, _]) (inps1 := []) (inps2 := []) hn rfl rfl rfl rfl hH_ hP_ hI Tryz.call11 (fun _ _ => by kernel_rfl) ?_
  generalize hQ_ : kont _ _ _ _ = Q_
  repeat' (first | (focus (refine zh qf ?_ ?_; (try refine nrm ?_); rotate_left)) | (subst hQ_; refine as_nil ?_))
  all_goals first | exact ⟨True.intro, True.intro⟩ | (dsimp only [app, gOb, All]; done) | (dsimp only [app, gOb, All]; exact True.intro) | skip
  refine qi ?_
  refine ⟨_, _, ⟨_, _, _, _, _⟩, rfl, rfl, ?_, rfl, rfl, ?_⟩
  ·dsimp only [okG]
   all_goals (try (focus ((try refine nrmO ?_); (repeat' (first | exact True.intro | apply And.intro)); all_goals (try (intro (hg_ : _ = true); (try simp only [qg, inB, reduceCtorEq, cds] at hg_); (repeat' (first | exact True.intro | apply And.intro)))); all_goals (first | exact ob1 | exact hgl_.1 | exact hgl_.2.1 | exact hgl_.2.2.1 | exact hgl_.2.2.2.1 | exact hgl_.2.2.2.2.1 | exact hgl_.2.2.2.2.2.1 | exact hgl_.2.2.2.2.2.2.1 | exact hgl_.2.2.2.2.2.2.2.1 | exact hgl_ | exact rfl | exact one1 rfl | skip))))
  dsimp only [qtu]
  refine nrm ?_
  generalize hQ_ : kont _ _ _ _ = Q_
  repeat' (first | (focus (refine zh qf ?_ ?_; (try refine nrm ?_); rotate_left)) | (subst hQ_; refine as_nil ?_))
  all_goals first | exact ⟨True.intro, True.intro⟩ | (dsimp only [app, gOb, All]; done) | (dsimp only [app, gOb, All]; exact True.intro) | skip
  repeat' (refine qj ?_; first | refine st1 ?_ | (first | ((first | refine qc qf (inps := []) rfl ?_ ?_); rotate_left; (try refine nrm ?_); rotate_right) | refine ret3 ?_ | refine end3 ?_) | (refine ql rfl trivial ?_ ?_ <;> intro hc_ <;> (try simp only [qg, inB, reduceCtorEq, cds] at hc_) <;> (try (first | contradiction | (exfalso; omega)))) | refine qi (And.intro ?_ (wk3 ?_)) | fail)
  all_goals (first | refine qj ?_ | (try (focus ((try refine nrmO ?_); (repeat' (first | exact True.intro | apply And.intro)); all_goals (try (intro (hg_ : _ = true); (try simp only [qg, inB, reduceCtorEq, cds] at hg_); (repeat' (first | exact True.intro | apply And.intro)))); all_goals (first | exact ob1 | skip)))))
  try dsimp only [zKer, zPln, q6j]
  refine qol [3, 4, 7, 9, 10, 20000, 20001, 20002, 20003, 20004, 20005, 20006, 27000, 35000, 35001, 35002, 35003, 35004, 35005] (by dsimp only [selB, hasN] <;> exact rfl) ?_
  refine qak 24317 (by dsimp only [qbb] <;> exact rfl) ?_
  refine qap (ws.length) (fun n => True) (fun n => [(12, (TV.sv (.one (.lit (.int .i64 (n))))))]) (fun n => []) ?_ ?_ ?_
  rotate_left
  ·first | trivial | simp
  (dsimp only [jk, zf, Int.toNat_natCast, ro, Nat.reduceAdd, Nat.reduceMul, Nat.zero_add, List.map, putT, app, jh, gOb, argT, keys, yj, dropped, gAnd, wB, rnT, rnS, rnC, rnCs, rnSs, rnM, rnB, rnN, rn, lk, St.over, ded, delL, ww, menT, qaa, menS, wz, menC, hasN, resT, SV.cells]; refine wk3 ?_; (focus ((try refine nrmO ?_); (repeat' (first | exact True.intro | apply And.intro)); all_goals (try (intro (hg_ : _ = true); (try simp only [qg, inB, reduceCtorEq, cds] at hg_); (repeat' (first | exact True.intro | apply And.intro)))); all_goals (first | exact ob1 | exact rfl | skip))))
  rotate_right
  intro n hn_ hnI_
  dsimp only [jk, zf, Int.toNat_natCast, ro, Nat.reduceAdd, Nat.reduceMul, Nat.zero_add, List.map, putT, app, jh, gOb, argT, keys, yj, dropped, gAnd, wB, rnT, rnS, rnC, rnCs, rnSs, rnM, rnB, rnN, rn, lk, St.over, ded, delL, ww, menT, qaa, menS, wz, menC, hasN, resT, SV.cells]
  by_cases hn : n < ws.length
  ·obtain ⟨u, hu⟩ : ∃ u, x1.ws.getD n noW = u := ⟨_, rfl⟩
   obtain ⟨v, hv⟩ : ∃ v, ws.getD n noW = v := ⟨_, rfl⟩
   obtain ⟨q1, q2, q3, q4⟩ := e4 n hn
   rw [hu] at q2 q3 q4
   rw [hv] at q1 q2 q3 q4
   have hel : (x1.ws.map qa5)[n]? = some (qa5 u) := by rw [← hu]; exact qc9 (by omega)
   have hel2 : (ws.map qa5)[n]? = some (qa5 v) := by rw [← hv]; exact qc9 (by omega)
   obtain ⟨⟨ku, wu⟩, hq⟩ : ∃ z, jv x1.k u = z := ⟨_, rfl⟩
   rw [hq] at q4
   have hS := hWr x1.k u ku wu y1 (by rw [q2]; exact ⟨by omega, by omega⟩) hq
   have hti : inK .i64 (v.Addr.tdiv 16) := by rw [Int.tdiv_eq_ediv_of_nonneg (by omega)]; exact qf1 (by omega) (by omega)
   have hle : (n : Int) < (x1.ws.map qa5).length := by rw [List.length_map]; omega
   clear hq
   repeat' (refine qj ?_; first | refine st1 ?_ | (refine yg (id := 9) qf (by kernel_rfl) [.elem (qa5 u), .elem (qa5 v)] ?_; refine qp ?_; intro K_ hK_; repeat' (first | ((first | refine yc ?_ | refine yf ?_ | refine x9 ?_); refine qp ?_; intro K_ hK_; (try dsimp only [qg3, qe7]); (try refine nrmE ?_)) | (refine zk ?_; (repeat subst hK_); dsimp only; refine Exists.intro _ (And.intro rfl (And.intro (by kernel_rfl) (And.intro ?_ ?_))); rotate_left; (try dsimp only [qg3, qe7]); (try refine nrm ?_); rotate_right))) | (refine yg (id := 12) qf (by kernel_rfl) [.elem (qa5 u), .call (qe7 G x1.k u ku wu)] ?_; refine qp ?_; intro K_ hK_; repeat' (first | ((first | refine yc ?_ | refine yf ?_ | refine x9 ?_); refine qp ?_; intro K_ hK_; (try dsimp only [qg3, qe7]); (try refine nrmE ?_)) | (refine zk ?_; (repeat subst hK_); dsimp only; refine Exists.intro _ (And.intro rfl (And.intro (by kernel_rfl) (And.intro ?_ ?_))); rotate_left; (try dsimp only [qg3, qe7]); (try refine nrm ?_); rotate_right))) | (refine yg (id := 13) qf (by kernel_rfl) [.call (qg3 G x1.j), .elem (qa5 v)] ?_; refine qp ?_; intro K_ hK_; repeat' (first | ((first | refine yc ?_ | refine yf ?_ | refine x9 ?_); refine qp ?_; intro K_ hK_; (try dsimp only [qg3, qe7]); (try refine nrmE ?_)) | (refine zk ?_; (repeat subst hK_); dsimp only; refine Exists.intro _ (And.intro rfl (And.intro (by kernel_rfl) (And.intro ?_ ?_))); rotate_left; (try dsimp only [qg3, qe7]); (try refine nrm ?_); rotate_right))) | (first | ((first | refine qc (id := 11) qf (inps := [.elem (qa5 u)]) rfl ?_ ?_ | refine qc qf (inps := []) rfl ?_ ?_); rotate_left; (try dsimp only [qg3, qe7]); (try refine nrm ?_); rotate_right) | refine ret3 ?_ | refine end3 ?_) | (refine ql rfl trivial ?_ ?_ <;> intro hc_ <;> (try simp only [qg, inB, reduceCtorEq, cds] at hc_) <;> (try (first | contradiction | (exfalso; omega) | (exfalso; grind)))) | refine qi (And.intro ?_ (wk3 ?_)) | fail)
   all_goals (first | refine qj ?_ | (try (focus ((try refine nrmO ?_); (repeat' (first | exact True.intro | apply And.intro)); all_goals (try (intro (hg_ : _ = true); (try simp only [qg, inB, reduceCtorEq, cds] at hg_); (repeat' (first | exact True.intro | apply And.intro)))); all_goals (first | exact ob1 | exact hel | exact hel2 | exact hti | exact hS | exact hA | exact hgl_.1 | exact hgl_.2.1 | exact hgl_.2.2.1 | exact hgl_.2.2.2.1 | exact hgl_.2.2.2.2.1 | exact hgl_.2.2.2.2.2.1 | exact hgl_.2.2.2.2.2.2.1 | exact hgl_.2.2.2.2.2.2.2.1 | exact hgl_ | exact rfl | exact one1 rfl | skip)))))
   all_goals trace_state
  ·skip
   repeat' (refine qj ?_; first | refine st1 ?_ | (first | ((first | refine qc (id := 15) qf (inps := [.call (qtw G x1.j)]) rfl ?_ ?_ | refine qc qf (inps := []) rfl ?_ ?_); rotate_left; (try dsimp only [qtw]); (try refine nrm ?_); rotate_right) | refine ret3 ?_ | refine end3 ?_) | (refine ql rfl trivial ?_ ?_ <;> intro hc_ <;> (try simp only [qg, inB, reduceCtorEq, cds] at hc_) <;> (try (first | contradiction | (exfalso; omega) | (exfalso; omega)))) | refine qi (And.intro ?_ (wk3 ?_)) | fail)
   all_goals (first | refine qj ?_ | (try (focus ((try refine nrmO ?_); (repeat' (first | exact True.intro | apply And.intro)); all_goals (try (intro (hg_ : _ = true); (try simp only [qg, inB, reduceCtorEq, cds] at hg_); (repeat' (first | exact True.intro | apply And.intro)))); all_goals (first | exact ob1 | exact hJ | exact hgl_.1 | exact hgl_.2.1 | exact hgl_.2.2.1 | exact hgl_.2.2.2.1 | exact hgl_.2.2.2.2.1 | exact hgl_.2.2.2.2.2.1 | exact hgl_.2.2.2.2.2.2.1 | exact hgl_.2.2.2.2.2.2.2.1 | exact hgl_ | exact rfl | exact one1 rfl | skip)))))
   all_goals (rw [List.length_map, List.length_map, e1, hj2]; simp)
theorem q4w {P : Program} {c : CFD} {xs : List Value} {w : World} (hf : FnGo P c) (hi : P.inits.idxOf? c.f = none) (hp : c.pre = []) (ha : qa9 (cxOf w) qre c.args xs) {Post : Value -> World -> Prop} (hPost : ∀ v ρ' w', TRel (cxOf w) ρ' c.res v -> MRel (cxOf w) ρ' w' c.post -> Below w.heap.size w w' -> Post v w') (hgl : qcz (GlX (cxOf w)) c.gl := by exact True.intro) :
  Co.Ends P Post (Go.Conc.solo (Go.Conc.G (Frame.enter P c.f xs.toArray .normal) []) w) #[] := by
 have post : ∀ v w', qjm (cxOf w) qre c (.returned v) w' -> Post v w' := by
  rintro v w' ⟨v', ρ', e, h1, _, _, h3, h4⟩
  cases e
  exact hPost _ ρ' _ h1 h3 (qtc h4)
 have hrun : Co.Run0 P Post (Go.Conc.G (Frame.enter P c.f xs.toArray .normal) []) w := hf (cxOf w) qre xs rfl (fun _ h => h) (fun _ h => h) hgl (by rw [hp]; exact qyp) (fun _ _ h => by cases h) ha Post []
  (fun fr w' hfr hl => Co.leave0 (by rw [hfr]; exact hi) hl post)
  (fun ch fr w' hfr hl => Co.q7q (by rw [hfr]; exact hi) hl post)
 exact hrun #[] (fun op hop => by simp at hop) (fun op hop => by simp at hop)
end Eng
end Go.Proofs.YtfiofmaknndpcaaGreatDoor
namespace Go.Proofs.YtfiofmaknndpcaaGreatDoor
open Go.RowKit Go.ChangeShapes
namespace LaidS
theorem vars {P : Program} {nm : String} {W : World} {ti tp te ts : TypeId} {ms : Array (String × TypeId)} {f : Field}
  (hi : P.underlying ti = some (.interface ms)) (hrow : ∀ u, P.typeName? 3 u = some nm -> u = tp)
  (hp : P.underlying tp = some (.pointer te)) (he : P.underlying te = some (.struct #[f])) (hft : f.type = ts) (hfo : f.offset = 0) (hs : P.underlying ts = some .string) (hc : P.cellsOf te = 1) (hcs : P.cellsOf ts = 1) :
  ∀ (L : List (String × List UInt8 × Nat)) (r : List (String × DataW Unit)) (ps : List MemPlace), DataW.LaidVars P W (L.map (fun x => (x.1, .iface nm (.ptr (.agg [.lit (.string x.2.1)])))) ++ r) ps -> ps.Nodup →
   (∀ b off, MemPlace.cell b off ∈ ps -> (∃ c t, W.heap[b]? = some (.cells c t (0, 0))) /\ ∀ u v, W.cell? ⟨b, off, none⟩ = some (.iface u v) -> Value.okWide P W .any 0 u v) →
   (∀ x ∈ L, P.globalNamed x.1 = some x.2.2 /\ (P.globals[x.2.2]?).map (·.type) = some ti) →
   ∃ as0 : List Addr, as0.length = L.length /\ as0.Nodup /\ (∀ a ∈ as0, MemPlace.cell a.block a.off ∈ ps) ∧
    ∀ (i : Nat) x a, L[i]? = some x -> as0[i]? = some a -> (∃ ty, W.heap[x.2.2]? = some (.cells #[.iface tp (.pointer (some a))] ty (0, 0))) /\ ∃ c t, W.heap[a.block]? = some (.cells c t (0, 0))
 | [], _, _, _, _, _, _ => ⟨[], rfl, List.nodup_nil, fun _ h => (by cases h), fun i x a h => by simp at h⟩
 | (n, text, g) :: L, r, ps, hv, hnd, hrows, hg => by
  obtain ⟨g0, t0, cs0, f0, p0, q0, hg0, ht0, hv0, hd0, hq0, e0⟩ := hv
  obtain ⟨hg1, ht1⟩ := hg (n, text, g) (by simp)
  obtain rfl := Option.some.inj (hg1.symm.trans hg0)
  obtain rfl := Option.some.inj (ht1.symm.trans ht0)
  subst e0
  obtain ⟨l0⟩ := cs0
  have ok0 : ∀ u v, l0 = [.iface u v] -> Value.okWide P W .any 0 u v := fun u v e => by
   subst e
   exact (hrows g 0 (by simp [MemPlace.row])).2 u v (by simpa using World.var?_cell hg0 hv0 0)
  obtain ⟨a0, s0, rfl, hc0, _, _, rfl⟩ := errorString_of_trod hi hrow hp he hft hfo hs hc hcs hd0 ok0
  have hr0 : MemPlace.row a0 1 = [MemPlace.cell a0.block a0.off] := by simp [MemPlace.row]
  rw [hr0] at hnd hrows
  rw [List.nodup_append] at hnd
  obtain ⟨_, hnd2, hnd3⟩ := hnd
  obtain ⟨as0, h1, h2, h3, h4⟩ := vars hi hrow hp he hft hfo hs hc hcs L r q0 hq0 hnd2 (fun b off hm => hrows b off (List.mem_append_right _ hm)) (fun x hx => hg x (by simp [hx]))
  refine ⟨a0 :: as0, by simp [h1], ?_, ?_, ?_⟩
  ·rw [List.nodup_cons]
   exact ⟨fun hm => hnd3 _ (by simp) _ (h3 a0 hm) rfl, h2⟩
  ·intro a ha
   rw [List.mem_cons] at ha
   rcases ha with rfl | ha
   ·rw [hr0]; simp
   ·exact List.mem_append_right _ (h3 a ha)
  ·intro i x a hx ha
   cases i with
   | zero =>
    simp at hx ha
    subst hx ha
    refine ⟨?_, (hrows a0.block a0.off (by simp)).1⟩
    obtain ⟨c, t, hb⟩ := (hrows g 0 (by simp [MemPlace.row])).1
    have : c = #[.iface tp (.pointer (some a0))] := by
     have hv1 := hv0
     unfold World.var? at hv1
     rw [hg0, Option.bind_some, hb] at hv1
     exact Option.some.inj hv1
    exact ⟨t, this ▸ hb⟩
   | succ i => exact h4 i x a (by simpa using hx) (by simpa using ha)
def At (tp : TypeId) (gs : List Nat) (w : World) : Prop :=
 ∃ as0 : List Addr, as0.length = gs.length /\ as0.Nodup /\ ∀ (i : Nat) g a, gs[i]? = some g -> as0[i]? = some a -> (∃ ty, w.heap[g]? = some (.cells #[.iface tp (.pointer (some a))] ty (0, 0))) /\ ∃ c t, w.heap[a.block]? = some (.cells c t (0, 0))
theorem lt_of {w : World} {g : Nat} {o : Obj} (h : w.heap[g]? = some o) : g < w.heap.size := by
 rcases Nat.lt_or_ge g w.heap.size with h1 | h1
 ·exact h1
 ·rw [Array.getElem?_eq_none h1] at h; cases h
theorem at_of {P : Program} {nm : String} {W : World} {ti tp te ts : TypeId} {ms : Array (String × TypeId)} {f : Field} {L : List (String × List UInt8 × Nat)} {r : List (String × DataW Unit)}
  (h : laidMet P (L.map (fun x => (x.1, .iface nm (.ptr (.agg [.lit (.string x.2.1)])))) ++ r) W)
  (hi : P.underlying ti = some (.interface ms)) (hrow : ∀ u, P.typeName? 3 u = some nm -> u = tp)
  (hp : P.underlying tp = some (.pointer te)) (he : P.underlying te = some (.struct #[f])) (hft : f.type = ts) (hfo : f.offset = 0) (hs : P.underlying ts = some .string) (hc : P.cellsOf te = 1) (hcs : P.cellsOf ts = 1)
  (hg : ∀ x ∈ L, P.globalNamed x.1 = some x.2.2 /\ (P.globals[x.2.2]?).map (·.type) = some ti) : At tp (L.map (·.2.2)) W := by
 obtain ⟨ps, hv, hnd, hrows⟩ := h
 obtain ⟨as0, h1, h2, _, h4⟩ := vars hi hrow hp he hft hfo hs hc hcs L r ps hv hnd hrows hg
 refine ⟨as0, by simpa using h1, h2, fun i g a hgi ha => ?_⟩
 rw [List.getElem?_map] at hgi
 obtain ⟨x, hx, rfl⟩ := Option.map_eq_some_iff.1 hgi
 exact h4 i x a hx ha
end LaidS
end Go.Proofs.YtfiofmaknndpcaaGreatDoor
namespace Go.Proofs.YtfiofmaknndpcaaGreatDoor
open Go.RowKit
namespace Eng
open Tr
theorem qvu {w : World} {g : Nat} {cs : List Value} {T : Nat} (h : w.heap[g]? = some (.cells cs.toArray T (0, 0))) : GlX (cxOf w) ⟨g, cs, T, (0, 0)⟩ := ⟨h, LaidS.lt_of h, fun h => h⟩
theorem qt3 {w : World} {g : Nat} {c : Array Value} {T : Nat} (h : w.heap[g]? = some (.cells c T (0, 0))) : GlX (cxOf w) ⟨g, c.toList, T, (0, 0)⟩ := qvu (by rw [Array.toArray_toList]; exact h)
theorem se3 {w : World} (h : LaidS.At 225 [2, 0, 1] w) : ∃ s : Se, qcz (GlX (cxOf w)) s.gl := by
 obtain ⟨xs, h1, h2, h3⟩ := h
 match xs, h1, h2 with
 | [a, b, c], _, h2 =>
  obtain ⟨⟨t1, k1⟩, c1, u1, l1⟩ := h3 0 _ a rfl rfl
  obtain ⟨⟨t2, k2⟩, c2, u2, l2⟩ := h3 1 _ b rfl rfl
  obtain ⟨⟨t3, k3⟩, c3, u3, l3⟩ := h3 2 _ c rfl rfl
  simp only [List.nodup_cons, List.mem_cons, List.not_mem_nil, or_false, not_or] at h2
  exact ⟨⟨a, b, c, c1.toList, c2.toList, c3.toList, u1, u2, u3, t1, t2, t3, h2.1.1, h2.1.2, h2.2.1⟩, qvu k1, qvu k2, qvu k3, qt3 l1, qt3 l2, qt3 l3, trivial⟩
theorem q1q {P : Program} {f : Nat} {a : List SV} {pre : ML} {res : TV} {post : ML} {nm : List Nat} (G : List Glb) (h : Fn P ⟨f, a, pre, res, post, nm, []⟩) : Fn P ⟨f, a, pre, res, post, nm, G⟩ :=
 ⟨fun X ρ xs h1 _ h3 h4 h5 => h.fn X ρ xs h1 True.intro h3 h4 h5, h.call, h.ev⟩
theorem qso : ¬ Co.Lone := fun h => h
theorem q7u (s : Se) (k : GKernel) (j : GJob) (ws : List GWriter) (o : List Int) (r : WSt) (h1 : szK8 k) (h2 : j.Plan.Cells.length <= 1048576) (h3 : ws.length <= 1048576) (h4 : o.length <= 1048576) (h5 : ∀ n, okI (ws.getD n noW).Addr) (h6 : qb7 k j ws o = r) : FnGo Tryz.prog (qtu s.gl k j ws o r) :=
 q4v qso s (fun k j k' j' h1 h2 h3 => qxh s k j k' j' h1 h2 h3) (fun k w k' w' h1 h2 h3 => qny s k w k' w' h1 h2 h3) k j ws o r h1 h2 h3 h4 h5 h6
theorem q1r (s : Se) (bs : List Int) (hb : ∀ x ∈ bs, 0 <= x /\ x <= 255) : FnGo Tryz.prog (qvl s.gl bs) :=
 q7t qso s.gl (fun k j ws o r h1 h2 h3 h4 h5 h6 => q7u s k j ws o r h1 h2 h3 h4 h5 h6) (fun k w k' w' h1 h2 h3 => qny s k w k' w' h1 h2 h3) (fun j h => q1q s.gl (q4p j h)) (fun j h => q1q s.gl (qk7 j h)) bs hb
end Eng
end Go.Proofs.YtfiofmaknndpcaaGreatDoor
namespace Go.Proofs.YtfiofmaknndpcaaGreatDoor
open Go.RowKit
namespace Laid
def put (h : Array Obj) (g : Nat) (cs : Array Value) : Array Obj := h.modify g fun
 | .cells _ t frozen => .cells cs t frozen
 | o => o
noncomputable def world (os : Os) : World :=
 let w0 := World.holding Tryz.prog os ⟨#[.cells #[.string ⟨#[110, 111, 32, 112, 97, 103, 101, 32, 105, 115, 32, 109, 97, 112, 112, 101, 100, 32, 97, 116, 32, 116, 104, 101, 32, 97, 100, 100, 114, 101, 115, 115]⟩] 251, .cells #[.string ⟨#[116, 104, 101, 32, 112, 97, 103, 101, 32, 105, 115, 32, 109, 97, 112, 112, 101, 100, 32, 102, 111, 114, 32, 114, 101, 97, 100, 105, 110, 103, 32, 111, 110, 108, 121]⟩] 251, .cells #[.string ⟨#[116, 104, 101, 32, 118, 97, 108, 117, 101, 32, 105, 115, 32, 111, 117, 116, 32, 111, 102, 32, 114, 97, 110, 103, 101]⟩] 251], #[], []⟩
 let h0 := put w0.heap 2 #[.iface 225 (.pointer (some ⟨(World.settled Tryz.prog os).heap.size + 0, 0, none⟩))]
 let h1 := put h0 0 #[.iface 225 (.pointer (some ⟨(World.settled Tryz.prog os).heap.size + 1, 0, none⟩))]
 let h2 := put h1 1 #[.iface 225 (.pointer (some ⟨(World.settled Tryz.prog os).heap.size + 2, 0, none⟩))]
 { w0 with heap := h2 }
theorem laidOut : laidOutB Tryz.prog = true := by kernel_rfl
theorem qsp {H : Type} {enc : TypeId × Value -> H} {P : Program} {w : World} {sp : Nat -> Bool} : ∀ {ns : List String} {gs : List (DataW H)} {ps : List MemPlace}, DataW.TrodVars enc P w sp ns gs ps -> gs.length = ns.length
 | [], [], _, _ => rfl
 | [], _ :: _, _, h => h.elim
 | _ :: _, [], _, h => h.elim
 | _ :: _, _ :: _, _, h => by obtain ⟨_, _, _, _, _, _, _, _, _, _, h2, _⟩ := h; exact congrArg Nat.succ (qsp h2)
theorem vars3 {H : Type} {enc : TypeId × Value -> H} {P : Program} {w : World} {sp : Nat -> Bool} {a b c : String} {gs : List (DataW H)} {ps : List MemPlace} (h : DataW.TrodVars enc P w sp [a, b, c] gs ps) : ∃ x y z, gs = [x, y, z] := by
 have e := qsp h
 match gs, e with
 | [x, y, z], _ => exact ⟨x, y, z, rfl⟩
theorem star : "*" ++ "errors.errorString" = "*errors.errorString" := by decide
theorem q4x (u : TypeId) (h : Tryz.prog.typeName? 3 u = some "*errors.errorString") : u = 225 :=
 typeName_ptr_named (nm := "errors.errorString") (by rw [star]; kernel_rfl) (by kernel_rfl) (by decide) u (by rw [star]; exact h)
structure LErrPageErrWriteErrValue (w : World) : Prop where
 sents : LaidS.At 225 [2, 0, 1] w
theorem has_0 {W : World} (h : laidMetH Tryz.prog [("loop.example/g00978/impl.errPage", Rows.laid_loop_example_g00978_impl_errPage), ("loop.example/g00978/impl.errWrite", Rows.laid_loop_example_g00978_impl_errWrite), ("loop.example/g00978/impl.errValue", Rows.laid_loop_example_g00978_impl_errValue)] W) : LErrPageErrWriteErrValue W := by
 have h' : laidMet Tryz.prog [("loop.example/g00978/impl.errPage", Rows.laid_loop_example_g00978_impl_errPage), ("loop.example/g00978/impl.errWrite", Rows.laid_loop_example_g00978_impl_errWrite), ("loop.example/g00978/impl.errValue", Rows.laid_loop_example_g00978_impl_errValue)] W := h
 have f_sents := LaidS.at_of (L := [("loop.example/g00978/impl.errPage", [110, 111, 32, 112, 97, 103, 101, 32, 105, 115, 32, 109, 97, 112, 112, 101, 100, 32, 97, 116, 32, 116, 104, 101, 32, 97, 100, 100, 114, 101, 115, 115], 2), ("loop.example/g00978/impl.errWrite", [116, 104, 101, 32, 112, 97, 103, 101, 32, 105, 115, 32, 109, 97, 112, 112, 101, 100, 32, 102, 111, 114, 32, 114, 101, 97, 100, 105, 110, 103, 32, 111, 110, 108, 121], 0), ("loop.example/g00978/impl.errValue", [116, 104, 101, 32, 118, 97, 108, 117, 101, 32, 105, 115, 32, 111, 117, 116, 32, 111, 102, 32, 114, 97, 110, 103, 101], 1)]) (r := []) h' Tryz.underlying146 q4x Tryz.underlying225 Tryz.underlying251 rfl rfl Tryz.underlying9 (by kernel_rfl) (by kernel_rfl) (by intro x hx; simp only [List.mem_cons, List.not_mem_nil, or_false] at hx; rcases hx with rfl | rfl | rfl <;> exact ⟨by kernel_rfl, by kernel_rfl⟩)
 exact { sents := f_sents }
end Laid
end Go.Proofs.YtfiofmaknndpcaaGreatDoor

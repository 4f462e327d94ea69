/- Lemmas for the proofs, part 6 of 6: a symbolic run of the program, and what it needs. -/
import Derived.KernelRfl
import Derived.Test.YtabnglcabpijfaaGreatDoorF5
namespace Go.Proofs.YtabnglcabpijfaaGreatDoor
open Go.RowKit
set_option linter.unusedVariables false
set_option linter.unusedSimpArgs false
set_option maxRecDepth 100000
namespace Eng
open Tr
def c_JRunS (k : GKernel) (j : GJob) (most : Int) (k' : GKernel) (j' : GJob) : CFD := ⟨76, [.agg [ro 33 1 eIntS k.Machine.Frames.Cells, ro 4 1 Tr.eB k.Machine.Frames.Used, ro 42 2 eEntry k.Machine.Table.Entries, (CV.lit (.int .i64 (k.Calls))), ro 3 1 Tr.eI k.Refuse], .agg [(CV.lit (.int .i64 (j.Plan.Keep))), (CV.lit (.int .i64 (j.Plan.Move))), ro 3 1 Tr.eI j.Plan.Cells, (CV.lit (.int .i64 (j.Phase))), (CV.lit (.int .i64 (j.Next)))], (SV.one (.lit (.int .i64 (most))))], [], .tup [.agg [.hd 0, .hd 1, .hd 2, (CV.lit (.int .i64 ((k').Calls))), .hd 3], .agg [(CV.lit (.int .i64 ((j').Plan.Keep))), (CV.lit (.int .i64 ((j').Plan.Move))), .hd 4, (CV.lit (.int .i64 ((j').Phase))), (CV.lit (.int .i64 ((j').Next)))]], [(0, some (.row 33 1 ((k').Machine.Frames.Cells.map eIntS))), (1, some (.row 4 1 ((k').Machine.Frames.Used.map Tr.eB))), (2, some (.row 42 2 ((k').Machine.Table.Entries.map eEntry))), (3, some (.row 3 1 ((k').Refuse.map Tr.eI))), (4, some (.row 3 1 ((j').Plan.Cells.map Tr.eI)))], [0, 1, 2, 3, 4], []⟩
set_option maxHeartbeats 8000000 in
theorem fn_JRunS (k : GKernel) (j : GJob) (most : Int) (k' : GKernel) (j' : GJob) (hs : szK8 k) (hl : j.Plan.Cells.length ≤ 1048576) (h : pJobRun k j most = (k', j')) : Fn Tryz.prog (c_JRunS k j most k' j') := by
  unfold pJobRun at h
  by_cases hm : 0 ≤ most ∧ most ≤ 200
  · rw [if_pos hm] at h
    obtain ⟨N, rfl⟩ := Int.eq_ofNat_of_zero_le hm.1
    rw [Int.toNat_natCast] at h
    have hz := sz_run k j
    have hsucc := fun n => runJ_succ n (k, j)
    have hstop := fun n (hn : n ≤ N) (hx : ¬ (¬ overJ (runJ n (k, j)).2 ∧ mayJ (runJ n (k, j)).1 (runJ n (k, j)).2)) => (show runJ N (k, j) = runJ n (k, j) by
      have := runJ_add n (N - n) (k, j)
      rw [show n + (N - n) = N by omega] at this
      rw [this, runJ_stop hx])
    have h0 : runJ 0 (k, j) = (k, j) := rfl
    generalize hS : (fun n => runJ n (k, j)) = S
    have hSn : ∀ n, runJ n (k, j) = S n := fun n => by rw [← hS]
    simp only [hSn] at hz hsucc hstop h0 h
    refine fn_intro tt_ok Tryz.func76 rfl Tryz.call76 Tryz.ntmps76 Tryz.results76 rfl rfl rfl rfl ?_
    intro X ρ0 hb_ hgl_
    dsimp only [c_JRunS]
    try refine nrm ?_
    repeat' (refine ar_id ?_; first | refine st1 ?_ | (first | ((first | refine ar_region (id := 1) tt_ok (inps := [.call (c_Copy8 k)]) rfl ?_ ?_ | refine ar_region (id := 2) tt_ok (inps := [.call (c_CopyJ j)]) rfl ?_ ?_ | refine ar_region tt_ok (inps := []) rfl ?_ ?_); rotate_left; (try dsimp only [c_Copy8, c_CopyJ]); (try refine nrm ?_); rotate_right) | refine ret3 ?_ | refine end3 ?_) | (refine ar_cond rfl trivial ?_ ?_ <;> intro hc_ <;> (try simp only [isNilI, inB, reduceCtorEq, cds] at hc_) <;> (try (first | contradiction | (exfalso; omega)))) | refine ar_until (And.intro ?_ (wk3 ?_)))
    all_goals (first | refine ar_id ?_ | (try (focus ((try refine nrmO ?_); (repeat' (first | exact True.intro | refine And.intro ?_ ?_)); all_goals (try (intro (hg_ : _ = true); (try simp only [isNilI, inB, reduceCtorEq, cds] at hg_); (repeat' (first | exact True.intro | refine And.intro ?_ ?_)))); all_goals (first | exact ob1 | exact fn_Copy8 k hs | exact fn_CopyJ j hl | skip)))))
    refine ar_keep 2015 (by dsimp only [keepS] <;> exact rfl) ?_
    refine ar_forM (N) (fun n => True) (fun n => [(10, (TV.sv (.one (.lit (.int .i64 (n))))))]) (fun n => [(8, some (.box 35 [.hd 13000, .hd 13001, .hd 13002, (CV.lit (.int .i64 (((S n).1).Calls))), .hd 13003])), (13000, some (.row 33 1 (((S n).1).Machine.Frames.Cells.map eIntS))), (13001, some (.row 4 1 (((S n).1).Machine.Frames.Used.map Tr.eB))), (13002, some (.row 42 2 (((S n).1).Machine.Table.Entries.map eEntry))), (13003, some (.row 3 1 (((S n).1).Refuse.map Tr.eI))), (9, some (.box 48 [(CV.lit (.int .i64 (((S n).2).Plan.Keep))), (CV.lit (.int .i64 (((S n).2).Plan.Move))), .hd 15000, (CV.lit (.int .i64 (((S n).2).Phase))), (CV.lit (.int .i64 (((S n).2).Next)))])), (15000, some (.row 3 1 (((S n).2).Plan.Cells.map Tr.eI)))]) ?_ ?_ ?_
    rotate_left
    · first | trivial | simp
    (dsimp only [rnCap, capSVs, Int.toNat_natCast, ro, Nat.reduceAdd, Nat.reduceMul, Nat.zero_add, List.map, putT, app, wrapG, gOb, argT, keys, slotOf, dropped, gAnd, wB, rnT, rnS, rnC, rnCs, rnSs, rnM, rnB, rnN, rn, lk, St.over, ded, delL, keepT, menT, menSs, menS, menCs, menC, hasN, resT, SV.cells]; refine wk3 ?_; (focus ((try refine nrmO ?_); (repeat' (first | exact True.intro | refine And.intro ?_ ?_)); all_goals (try (intro (hg_ : _ = true); (try simp only [isNilI, inB, reduceCtorEq, cds] at hg_); (repeat' (first | exact True.intro | refine And.intro ?_ ?_)))); all_goals (first | exact ob1 | exact rfl | skip))))
    rotate_right
    intro n hn_ hnI_
    dsimp only [rnCap, capSVs, Int.toNat_natCast, ro, Nat.reduceAdd, Nat.reduceMul, Nat.zero_add, List.map, putT, app, wrapG, gOb, argT, keys, slotOf, dropped, gAnd, wB, rnT, rnS, rnC, rnCs, rnSs, rnM, rnB, rnN, rn, lk, St.over, ded, delL, keepT, menT, menSs, menS, menCs, menC, hasN, resT, SV.cells]
    obtain ⟨z1, z2, z3⟩ := hz n
    have hfin : ((((N : Int) ≤ (n : Int) ∨ 200 < (N : Int)) ∨ overJ (S n).2) ∨ ¬ mayJ (S n).1 (S n).2) → S n = (k', j') := fun hc => by
      rw [← h]
      rcases hc with ((hc | hc) | hc) | hc
      · rw [show n = N by omega]
      · omega
      · exact (hstop n (by omega) (fun hh => hh.1 hc)).symm
      · exact (hstop n (by omega) (fun hh => hc hh.2)).symm
    have hsn := szK8_same hs z1 z2
    have hln : (S n).2.Plan.Cells.length ≤ 1048576 := by rw [z3]; exact hl
    by_cases hR : ¬ overJ (S n).2 ∧ mayJ (S n).1 (S n).2
    · have hst : stepJ (S n).1 (S n).2 = ((S (n + 1)).1, (S (n + 1)).2) := by rw [hsucc, if_pos hR]
      by_cases hB : (S n).2.Phase = 3 ∧ 0 < (S n).2.Next
      · skip
        repeat' (refine ar_id ?_; first | refine st1 ?_ | (refine ar_run (id := 6) [.call (c_StepB (S n).1 (S n).2 (S (n + 1)).1 (S (n + 1)).2)] ?_; generalize hQ_ : kont _ _ _ _ = Q_; repeat' (first | (focus ((first | refine as_call3 tt_ok ?_ ?_ | refine as_sure3 tt_ok ?_ ?_ | refine as_cons3 tt_ok ?_ ?_); (try dsimp only [c_MayS, c_OverS, c_StepB]); (try refine nrm ?_); rotate_left)) | (subst hQ_; refine as_nil ?_))) | (refine ar_drawS (id := 7) tt_ok (by kernel_rfl) [] ?_; refine ed_hide ?_; intro K_ hK_; repeat' (first | ((first | refine ed_call3 ?_ | refine ed_sure3 ?_ | refine ed_cons3 ?_); refine ed_hide ?_; intro K_ hK_; (try dsimp only [c_MayS, c_OverS, c_StepB]); (try refine nrmE ?_)) | (refine ed_nil ?_; (repeat subst hK_); dsimp only; refine Exists.intro _ (And.intro rfl (And.intro (by kernel_rfl) (And.intro ?_ ?_))); rotate_left; (try dsimp only [c_MayS, c_OverS, c_StepB]); (try refine nrm ?_); rotate_right))) | (first | ((first | refine ar_region (id := 4) tt_ok (inps := [.call (c_OverS (S n).2), .call (c_MayS (S n).1 (S n).2)]) rfl ?_ ?_ | refine ar_region tt_ok (inps := []) rfl ?_ ?_); rotate_left; (try dsimp only [c_MayS, c_OverS, c_StepB]); (try refine nrm ?_); rotate_right) | refine ret3 ?_ | refine end3 ?_) | (refine ar_cond rfl trivial ?_ ?_ <;> intro hc_ <;> (try simp only [isNilI, inB, reduceCtorEq, cds] at hc_) <;> (try (first | contradiction | (exfalso; omega)))) | refine ar_until (And.intro ?_ (wk3 ?_)))
        all_goals (first | refine ar_id ?_ | (try (focus ((try refine nrmO ?_); (repeat' (first | exact True.intro | refine And.intro ?_ ?_)); all_goals (try (intro (hg_ : _ = true); (try simp only [isNilI, inB, reduceCtorEq, cds] at hg_); (repeat' (first | exact True.intro | refine And.intro ?_ ?_)))); all_goals (first | exact ob1 | exact fn_OverS _ | exact fn_MayS _ _ hsn hln | exact fn_StepB _ _ _ _ hsn hln hR.2 hB hst | skip)))))
        all_goals (rw [hfin hc_])
      · skip
        repeat' (refine ar_id ?_; first | refine st1 ?_ | (refine ar_run (id := 6) [.call (c_StepA (S n).1 (S n).2 (S (n + 1)).1 (S (n + 1)).2)] ?_; generalize hQ_ : kont _ _ _ _ = Q_; repeat' (first | (focus ((first | refine as_call3 tt_ok ?_ ?_ | refine as_sure3 tt_ok ?_ ?_ | refine as_cons3 tt_ok ?_ ?_); (try dsimp only [c_MayS, c_OverS, c_StepA]); (try refine nrm ?_); rotate_left)) | (subst hQ_; refine as_nil ?_))) | (refine ar_drawS (id := 7) tt_ok (by kernel_rfl) [] ?_; refine ed_hide ?_; intro K_ hK_; repeat' (first | ((first | refine ed_call3 ?_ | refine ed_sure3 ?_ | refine ed_cons3 ?_); refine ed_hide ?_; intro K_ hK_; (try dsimp only [c_MayS, c_OverS, c_StepA]); (try refine nrmE ?_)) | (refine ed_nil ?_; (repeat subst hK_); dsimp only; refine Exists.intro _ (And.intro rfl (And.intro (by kernel_rfl) (And.intro ?_ ?_))); rotate_left; (try dsimp only [c_MayS, c_OverS, c_StepA]); (try refine nrm ?_); rotate_right))) | (first | ((first | refine ar_region (id := 4) tt_ok (inps := [.call (c_OverS (S n).2), .call (c_MayS (S n).1 (S n).2)]) rfl ?_ ?_ | refine ar_region tt_ok (inps := []) rfl ?_ ?_); rotate_left; (try dsimp only [c_MayS, c_OverS, c_StepA]); (try refine nrm ?_); rotate_right) | refine ret3 ?_ | refine end3 ?_) | (refine ar_cond rfl trivial ?_ ?_ <;> intro hc_ <;> (try simp only [isNilI, inB, reduceCtorEq, cds] at hc_) <;> (try (first | contradiction | (exfalso; omega)))) | refine ar_until (And.intro ?_ (wk3 ?_)))
        all_goals (first | refine ar_id ?_ | (try (focus ((try refine nrmO ?_); (repeat' (first | exact True.intro | refine And.intro ?_ ?_)); all_goals (try (intro (hg_ : _ = true); (try simp only [isNilI, inB, reduceCtorEq, cds] at hg_); (repeat' (first | exact True.intro | refine And.intro ?_ ?_)))); all_goals (first | exact ob1 | exact fn_OverS _ | exact fn_MayS _ _ hsn hln | exact fn_StepA _ _ _ _ hsn hln hR.2 hB hst | skip)))))
        all_goals (rw [hfin hc_])
    · skip
      repeat' (refine ar_id ?_; first | refine st1 ?_ | (refine ar_drawS (id := 7) tt_ok (by kernel_rfl) [] ?_; refine ed_hide ?_; intro K_ hK_; repeat' (first | ((first | refine ed_call3 ?_ | refine ed_sure3 ?_ | refine ed_cons3 ?_); refine ed_hide ?_; intro K_ hK_; (try dsimp only [c_MayS, c_OverS]); (try refine nrmE ?_)) | (refine ed_nil ?_; (repeat subst hK_); dsimp only; refine Exists.intro _ (And.intro rfl (And.intro (by kernel_rfl) (And.intro ?_ ?_))); rotate_left; (try dsimp only [c_MayS, c_OverS]); (try refine nrm ?_); rotate_right))) | (first | ((first | refine ar_region (id := 4) tt_ok (inps := [.call (c_OverS (S n).2), .call (c_MayS (S n).1 (S n).2)]) rfl ?_ ?_ | refine ar_region tt_ok (inps := []) rfl ?_ ?_); rotate_left; (try dsimp only [c_MayS, c_OverS]); (try refine nrm ?_); rotate_right) | refine ret3 ?_ | refine end3 ?_) | (refine ar_cond rfl trivial ?_ ?_ <;> intro hc_ <;> (try simp only [isNilI, inB, reduceCtorEq, cds] at hc_) <;> (try (first | contradiction | (exfalso; omega) | (exfalso; exact hR ⟨by grind, by grind⟩)))) | refine ar_until (And.intro ?_ (wk3 ?_)))
      all_goals (first | refine ar_id ?_ | (try (focus ((try refine nrmO ?_); (repeat' (first | exact True.intro | refine And.intro ?_ ?_)); all_goals (try (intro (hg_ : _ = true); (try simp only [isNilI, inB, reduceCtorEq, cds] at hg_); (repeat' (first | exact True.intro | refine And.intro ?_ ?_)))); all_goals (first | exact ob1 | exact fn_OverS _ | exact fn_MayS _ _ hsn hln | skip)))))
      all_goals (rw [hfin hc_])
    all_goals (rw [h0])
  · rw [if_neg hm] at h
    obtain ⟨rfl, rfl⟩ := Prod.mk.inj h
    refine fn_intro tt_ok Tryz.func76 rfl Tryz.call76 Tryz.ntmps76 Tryz.results76 rfl rfl rfl rfl ?_
    intro X ρ0 hb_ hgl_
    dsimp only [c_JRunS]
    try refine nrm ?_
    repeat' (refine ar_id ?_; first | refine st1 ?_ | (first | ((first | refine ar_region (id := 1) tt_ok (inps := [.call (c_Copy8 k)]) rfl ?_ ?_ | refine ar_region (id := 2) tt_ok (inps := [.call (c_CopyJ j)]) rfl ?_ ?_ | refine ar_region tt_ok (inps := []) rfl ?_ ?_); rotate_left; (try dsimp only [c_Copy8, c_CopyJ]); (try refine nrm ?_); rotate_right) | refine ret3 ?_ | refine end3 ?_) | (refine ar_cond rfl trivial ?_ ?_ <;> intro hc_ <;> (try simp only [isNilI, inB, reduceCtorEq, cds] at hc_) <;> (try (first | contradiction | (exfalso; omega)))) | refine ar_until (And.intro ?_ (wk3 ?_)))
    all_goals (first | refine ar_id ?_ | (try (focus ((try refine nrmO ?_); (repeat' (first | exact True.intro | refine And.intro ?_ ?_)); all_goals (try (intro (hg_ : _ = true); (try simp only [isNilI, inB, reduceCtorEq, cds] at hg_); (repeat' (first | exact True.intro | refine And.intro ?_ ?_)))); all_goals (first | exact ob1 | exact fn_Copy8 k hs | exact fn_CopyJ j hl | skip)))))
    refine ar_keep 2015 (by dsimp only [keepS] <;> exact rfl) ?_
    refine ar_forM (0) (fun n => True) (fun n => [(10, (TV.sv (.one (.lit (.int .i64 (n))))))]) (fun n => []) ?_ ?_ ?_
    rotate_left
    · first | trivial | simp
    (dsimp only [rnCap, capSVs, Int.toNat_natCast, ro, Nat.reduceAdd, Nat.reduceMul, Nat.zero_add, List.map, putT, app, wrapG, gOb, argT, keys, slotOf, dropped, gAnd, wB, rnT, rnS, rnC, rnCs, rnSs, rnM, rnB, rnN, rn, lk, St.over, ded, delL, keepT, menT, menSs, menS, menCs, menC, hasN, resT, SV.cells]; refine wk3 ?_; (focus ((try refine nrmO ?_); (repeat' (first | exact True.intro | refine And.intro ?_ ?_)); all_goals (try (intro (hg_ : _ = true); (try simp only [isNilI, inB, reduceCtorEq, cds] at hg_); (repeat' (first | exact True.intro | refine And.intro ?_ ?_)))); all_goals (first | exact ob1 | exact rfl | skip))))
    rotate_right
    intro n hn_ hnI_
    dsimp only [rnCap, capSVs, Int.toNat_natCast, ro, Nat.reduceAdd, Nat.reduceMul, Nat.zero_add, List.map, putT, app, wrapG, gOb, argT, keys, slotOf, dropped, gAnd, wB, rnT, rnS, rnC, rnCs, rnSs, rnM, rnB, rnN, rn, lk, St.over, ded, delL, keepT, menT, menSs, menS, menCs, menC, hasN, resT, SV.cells]
    repeat' (refine ar_id ?_; first | refine st1 ?_ | (refine ar_drawS (id := 7) tt_ok (by kernel_rfl) [] ?_; refine ed_hide ?_; intro K_ hK_; repeat' (first | ((first | refine ed_call3 ?_ | refine ed_sure3 ?_ | refine ed_cons3 ?_); refine ed_hide ?_; intro K_ hK_; (try dsimp only [c_MayS, c_OverS]); (try refine nrmE ?_)) | (refine ed_nil ?_; (repeat subst hK_); dsimp only; refine Exists.intro _ (And.intro rfl (And.intro (by kernel_rfl) (And.intro ?_ ?_))); rotate_left; (try dsimp only [c_MayS, c_OverS]); (try refine nrm ?_); rotate_right))) | (first | ((first | refine ar_region (id := 4) tt_ok (inps := [.call (c_OverS j), .call (c_MayS k j)]) rfl ?_ ?_ | refine ar_region tt_ok (inps := []) rfl ?_ ?_); rotate_left; (try dsimp only [c_MayS, c_OverS]); (try refine nrm ?_); rotate_right) | refine ret3 ?_ | refine end3 ?_) | (refine ar_cond rfl trivial ?_ ?_ <;> intro hc_ <;> (try simp only [isNilI, inB, reduceCtorEq, cds] at hc_) <;> (try (first | contradiction | (exfalso; omega) | (exfalso; exact hm ⟨by omega, by omega⟩)))) | refine ar_until (And.intro ?_ (wk3 ?_)))
    all_goals (first | refine ar_id ?_ | (try (focus ((try refine nrmO ?_); (repeat' (first | exact True.intro | refine And.intro ?_ ?_)); all_goals (try (intro (hg_ : _ = true); (try simp only [isNilI, inB, reduceCtorEq, cds] at hg_); (repeat' (first | exact True.intro | refine And.intro ?_ ?_)))); all_goals (first | exact ob1 | exact fn_OverS _ | exact fn_MayS _ _ hs hl | skip)))))
    all_goals trace_state
end Eng
end Go.Proofs.YtabnglcabpijfaaGreatDoor
namespace Go.Proofs.YtabnglcabpijfaaGreatDoor
open Go.RowKit
set_option linter.unusedVariables false
set_option linter.unusedSimpArgs false
set_option maxRecDepth 100000
namespace Tr
theorem set_sameW {α : Type} (l : List α) (q : Nat) (d : α) : l.set q (l.getD q d) = l := by
  by_cases h : q < l.length
  · rw [List.getD_eq_getElem?_getD, List.getElem?_eq_getElem h]; exact List.set_getElem_self h
  · exact List.set_eq_of_length_le (by omega)
theorem fin_stop {s : GKernel × List GWriter} {n : Nat} (h : ¬ okK (finW s n).1) : ∀ m, finW s (n + m) = finW s n
  | 0 => rfl
  | m + 1 => by
    show ((pWriterStep (finW s (n + m)).1 ((finW s (n + m)).2.getD (n + m) noW)).1, (finW s (n + m)).2.set (n + m) (pWriterStep (finW s (n + m)).1 ((finW s (n + m)).2.getD (n + m) noW)).2) = _
    rw [show finW s (n + m) = finW s n from fin_stop h m]
    unfold pWriterStep
    rw [if_neg h]
    dsimp only
    rw [set_sameW]
theorem sz_run200 (k : GKernel) (j : GJob) : sameSz k.Machine (pJobRun k j 200).1.Machine ∧ (pJobRun k j 200).1.Refuse = k.Refuse ∧ (pJobRun k j 200).2.Plan = j.Plan := sz_run k j 200
end Tr
namespace Eng
open Tr
theorem zKerF : List.map CV.lit ti35.z.cells.toList = [.lit (.slice none 0 0), .lit (.slice none 0 0), .lit (.slice none 0 0), (CV.lit (.int .i64 (0))), .lit (.slice none 0 0)] := rfl
theorem zJobF : List.map CV.lit ti48.z.cells.toList = [(CV.lit (.int .i64 (0))), (CV.lit (.int .i64 (0))), .lit (.slice none 0 0), (CV.lit (.int .i64 (0))), (CV.lit (.int .i64 (0)))] := rfl
def c_FinS (k : GKernel) (j : GJob) (ws : List GWriter) (s : WSt) : CFD := ⟨38, [.agg [ro 33 1 eIntS k.Machine.Frames.Cells, ro 4 1 Tr.eB k.Machine.Frames.Used, ro 42 2 eEntry k.Machine.Table.Entries, (CV.lit (.int .i64 (k.Calls))), ro 3 1 Tr.eI k.Refuse], .agg [(CV.lit (.int .i64 (j.Plan.Keep))), (CV.lit (.int .i64 (j.Plan.Move))), ro 3 1 Tr.eI j.Plan.Cells, (CV.lit (.int .i64 (j.Phase))), (CV.lit (.int .i64 (j.Next)))], .one (ro 46 4 eWriter ws)], [], .tup [.agg [.hd 0, .hd 1, .hd 2, (CV.lit (.int .i64 (s.k.Calls))), .hd 3], .agg [(CV.lit (.int .i64 (s.j.Plan.Keep))), (CV.lit (.int .i64 (s.j.Plan.Move))), .hd 4, (CV.lit (.int .i64 (s.j.Phase))), (CV.lit (.int .i64 (s.j.Next)))], .one (.hd 5)], [(0, some (.row 33 1 (s.k.Machine.Frames.Cells.map eIntS))), (1, some (.row 4 1 (s.k.Machine.Frames.Used.map Tr.eB))), (2, some (.row 42 2 (s.k.Machine.Table.Entries.map eEntry))), (3, some (.row 3 1 (s.k.Refuse.map Tr.eI))), (4, some (.row 3 1 (s.j.Plan.Cells.map Tr.eI))), (5, some (.row 46 4 (s.ws.map eWriter)))], [0, 1, 2, 3, 4, 5], []⟩
set_option maxHeartbeats 8000000 in
theorem fn_FinS (k : GKernel) (j : GJob) (ws : List GWriter) (s : WSt) (hs : szK8 k) (hl : j.Plan.Cells.length ≤ 1048576) (hw : ws.length ≤ 1048576) (ha : ∀ n, (ws.getD n noW).Addr ≤ 9223372036854775807) (h : pFinish k j ws = s) : Fn Tryz.prog (c_FinS k j ws s) := by
  obtain ⟨⟨k1, j1⟩, hr⟩ : ∃ r, pJobRun k j 200 = r := ⟨_, rfl⟩
  obtain ⟨g1, g2, g3⟩ := sz_run200 k j
  unfold pFinish at h
  rw [hr] at h g1 g2 g3
  have hs1 := szK8_same hs g1 g2
  have hz := sz_finW (k1, ws)
  have h0 : finW (k1, ws) 0 = (k1, ws) := rfl
  have hsucc : ∀ n, finW (k1, ws) (n + 1) = ((pWriterStep (finW (k1, ws) n).1 ((finW (k1, ws) n).2.getD n noW)).1, (finW (k1, ws) n).2.set n (pWriterStep (finW (k1, ws) n).1 ((finW (k1, ws) n).2.getD n noW)).2) := fun _ => rfl
  have hstop : ∀ n, n ≤ ws.length → ¬ okK (finW (k1, ws) n).1 → finW (k1, ws) ws.length = finW (k1, ws) n := fun n hn hh => by
    have := fin_stop hh (ws.length - n)
    rw [show n + (ws.length - n) = ws.length by omega] at this
    exact this
  dsimp only at h
  generalize finW (k1, ws) = T at h h0 hsucc hz hstop
  subst h
  refine fn_intro tt_ok Tryz.func38 rfl Tryz.call38 Tryz.ntmps38 Tryz.results38 rfl rfl rfl rfl ?_
  intro X ρ0 hb_ hgl_
  dsimp only [c_FinS]
  try refine nrm ?_
  repeat' (refine ar_id ?_; first | refine st1 ?_ | (first | ((first | refine ar_region (id := 1) tt_ok (inps := [.call (c_JRunS k j 200 k1 j1)]) rfl ?_ ?_ | refine ar_region (id := 2) tt_ok (inps := [.elems (ws.map eWriter)]) rfl ?_ ?_ | refine ar_region tt_ok (inps := []) rfl ?_ ?_); rotate_left; (try dsimp only [c_JRunS]); (try refine nrm ?_); rotate_right) | refine ret3 ?_ | refine end3 ?_) | (refine ar_cond rfl trivial ?_ ?_ <;> intro hc_ <;> (try simp only [isNilI, inB, reduceCtorEq, cds] at hc_) <;> (try (first | contradiction | (exfalso; omega)))) | refine ar_until (And.intro ?_ (wk3 ?_)))
  all_goals (first | refine ar_id ?_ | (try (focus ((try refine nrmO ?_); (repeat' (first | exact True.intro | refine And.intro ?_ ?_)); all_goals (try (intro (hg_ : _ = true); (try simp only [isNilI, inB, reduceCtorEq, cds] at hg_); (repeat' (first | exact True.intro | refine And.intro ?_ ?_)))); all_goals (first | exact ob1 | exact fn_JRunS k j 200 k1 j1 hs hl hr | exact flat_map' ws (fun x => ⟨rfl, rfl, rfl, rfl, rfl, trivial⟩) | skip)))))
  dsimp only [zKerF, zJobF]
  refine ar_blocks [3, 4, 6, 7, 9, 10, 17000, 17001, 17002, 17003, 17004, 21] (by dsimp only [selB, hasN] <;> exact rfl) ?_
  refine ar_keep 8159 (by dsimp only [keepS] <;> exact rfl) ?_
  refine ar_forM (ws.length) (fun n => True) (fun n => [(12, (TV.sv (.one (.lit (.int .i64 (n)))))), (11, (TV.sv (.one (.hd 21))))]) (fun n => [(9, some (.box 35 [.hd 17000, .hd 17001, .hd 17002, (CV.lit (.int .i64 (((T n).1).Calls))), .hd 17003])), (17000, some (.row 33 1 (((T n).1).Machine.Frames.Cells.map eIntS))), (17001, some (.row 4 1 (((T n).1).Machine.Frames.Used.map Tr.eB))), (17002, some (.row 42 2 (((T n).1).Machine.Table.Entries.map eEntry))), (17003, some (.row 3 1 (((T n).1).Refuse.map Tr.eI))), (21, some (.row 46 4 ((T n).2.map eWriter)))]) ?_ ?_ ?_
  rotate_left
  · first | trivial | simp
  (dsimp only [rnCap, capSVs, Int.toNat_natCast, ro, Nat.reduceAdd, Nat.reduceMul, Nat.zero_add, List.map, putT, app, wrapG, gOb, argT, keys, slotOf, dropped, gAnd, wB, rnT, rnS, rnC, rnCs, rnSs, rnM, rnB, rnN, rn, lk, St.over, ded, delL, keepT, menT, menSs, menS, menCs, menC, hasN, resT, SV.cells]; refine wk3 ?_; (focus ((try refine nrmO ?_); (repeat' (first | exact True.intro | refine And.intro ?_ ?_)); all_goals (try (intro (hg_ : _ = true); (try simp only [isNilI, inB, reduceCtorEq, cds] at hg_); (repeat' (first | exact True.intro | refine And.intro ?_ ?_)))); all_goals (first | exact ob1 | exact rfl | skip))))
  rotate_right
  intro n hn_ hnI_
  dsimp only [rnCap, capSVs, Int.toNat_natCast, ro, Nat.reduceAdd, Nat.reduceMul, Nat.zero_add, List.map, putT, app, wrapG, gOb, argT, keys, slotOf, dropped, gAnd, wB, rnT, rnS, rnC, rnCs, rnSs, rnM, rnB, rnN, rn, lk, St.over, ded, delL, keepT, menT, menSs, menS, menCs, menC, hasN, resT, SV.cells]
  obtain ⟨z1, z2, z3, z4⟩ := hz n
  have hsn := szK8_same hs1 z1 z2
  have han : ∀ q, ((T n).2.getD q noW).Addr ≤ 9223372036854775807 := fun q => by rw [z4]; exact ha q
  have hwn : (T n).2.length = ws.length := z3
  by_cases hlt : n < ws.length ∧ okK (T n).1
  · have hst := hsucc n
    unfold pWriterStep at hst
    have hk0 : pKernelOk (T n).1 = true := decide_eq_true hlt.2
    rw [if_pos hlt.2] at hst
    obtain ⟨⟨k2, w1⟩, hW⟩ : ∃ r, stepW (T n).1 ((T n).2.getD n noW) = r := ⟨_, rfl⟩
    rw [hW] at hst
    have hk1 : (T (n + 1)).1 = k2 := by rw [hst]
    have hw1 : (T (n + 1)).2 = (T n).2.set n w1 := by rw [hst]
    by_cases hA : ((T n).2.getD n noW).Done = true ∨ (pStore (T n).1.Machine ((T n).2.getD n noW).Addr ((T n).2.getD n noW).Value).2 = 2
    · have hk' : k2 = (T n).1 := by
        unfold stepW at hW
        by_cases hd : ((T n).2.getD n noW).Done = true
        · rw [if_pos hd] at hW; exact (Prod.mk.inj hW).1.symm
        · rw [if_neg hd, if_pos (hA.resolve_left hd)] at hW; exact (Prod.mk.inj hW).1.symm
      subst hk'
      repeat' (refine ar_id ?_; first | refine st1 ?_ | (first | ((first | refine ar_region (id := 4) tt_ok (inps := [.call (c_KOk (T n).1)]) rfl ?_ ?_ | refine ar_region (id := 6) tt_ok (inps := [.elem (eWriter ((T n).2.getD n noW)), .call (c_WStA (T n).1 ((T n).2.getD n noW) w1), .elem (eWriter ((T n).2.getD n noW))]) rfl ?_ ?_ | refine ar_region tt_ok (inps := []) rfl ?_ ?_); rotate_left; (try dsimp only [c_KOk, c_WStA]); (try refine nrm ?_); rotate_right) | refine ret3 ?_ | refine end3 ?_) | (refine ar_cond rfl trivial ?_ ?_ <;> intro hc_ <;> (try simp only [isNilI, inB, reduceCtorEq, cds] at hc_) <;> (try (first | contradiction | (exfalso; omega) | (exfalso; first | omega | (exact hc_.elim (fun h => by omega) (fun h => by rw [hk0] at h; cases h)))))) | refine ar_until (And.intro ?_ (wk3 ?_)))
      all_goals (first | refine ar_id ?_ | (try (focus ((try refine nrmO ?_); (repeat' (first | exact True.intro | refine And.intro ?_ ?_)); all_goals (try (intro (hg_ : _ = true); (try simp only [isNilI, inB, reduceCtorEq, cds] at hg_); (repeat' (first | exact True.intro | refine And.intro ?_ ?_)))); all_goals (first | exact ob1 | exact fn_KOk _ hsn | exact fn_WStA _ _ _ hsn (han _) hA hW | skip)))))
      all_goals first | (rw [hk1]; done) | (rw [hw1, List.map_set]; rfl) | trace_state
    · have hd : ¬ ((T n).2.getD n noW).Done = true := fun hh => hA (.inl hh)
      have hf : (pStore (T n).1.Machine ((T n).2.getD n noW).Addr ((T n).2.getD n noW).Value).2 ≠ 2 := fun hh => hA (.inr hh)
      repeat' (refine ar_id ?_; first | refine st1 ?_ | (first | ((first | refine ar_region (id := 4) tt_ok (inps := [.call (c_KOk (T n).1)]) rfl ?_ ?_ | refine ar_region (id := 6) tt_ok (inps := [.elem (eWriter ((T n).2.getD n noW)), .call (c_WStB (T n).1 ((T n).2.getD n noW) k2 w1), .elem (eWriter ((T n).2.getD n noW))]) rfl ?_ ?_ | refine ar_region tt_ok (inps := []) rfl ?_ ?_); rotate_left; (try dsimp only [c_KOk, c_WStB]); (try refine nrm ?_); rotate_right) | refine ret3 ?_ | refine end3 ?_) | (refine ar_cond rfl trivial ?_ ?_ <;> intro hc_ <;> (try simp only [isNilI, inB, reduceCtorEq, cds] at hc_) <;> (try (first | contradiction | (exfalso; omega) | (exfalso; first | omega | (exact hc_.elim (fun h => by omega) (fun h => by rw [hk0] at h; cases h)))))) | refine ar_until (And.intro ?_ (wk3 ?_)))
      all_goals (first | refine ar_id ?_ | (try (focus ((try refine nrmO ?_); (repeat' (first | exact True.intro | refine And.intro ?_ ?_)); all_goals (try (intro (hg_ : _ = true); (try simp only [isNilI, inB, reduceCtorEq, cds] at hg_); (repeat' (first | exact True.intro | refine And.intro ?_ ?_)))); all_goals (first | exact ob1 | exact fn_KOk _ hsn | exact fn_WStB _ _ _ _ hsn (han _) hd hf hW | skip)))))
      all_goals first | (rw [hk1]; done) | (rw [hw1, List.map_set]; rfl) | trace_state
  · have hT : T ws.length = T n := by
      by_cases hn : n < ws.length
      · exact hstop n (by omega) (fun hh => hlt ⟨hn, hh⟩)
      · rw [show n = ws.length by omega]
    repeat' (refine ar_id ?_; first | refine st1 ?_ | (refine ar_drawS (id := 7) tt_ok (by kernel_rfl) [] ?_; refine ed_hide ?_; intro K_ hK_; repeat' (first | ((first | refine ed_call3 ?_ | refine ed_sure3 ?_ | refine ed_cons3 ?_); refine ed_hide ?_; intro K_ hK_; (try dsimp only [c_KOk]); (try refine nrmE ?_)) | (refine ed_nil ?_; (repeat subst hK_); dsimp only; refine Exists.intro _ (And.intro rfl (And.intro (by kernel_rfl) (And.intro ?_ ?_))); rotate_left; (try dsimp only [c_KOk]); (try refine nrm ?_); rotate_right))) | (first | ((first | refine ar_region (id := 4) tt_ok (inps := [.call (c_KOk (T n).1)]) rfl ?_ ?_ | refine ar_region tt_ok (inps := []) rfl ?_ ?_); rotate_left; (try dsimp only [c_KOk]); (try refine nrm ?_); rotate_right) | refine ret3 ?_ | refine end3 ?_) | (refine ar_cond rfl trivial ?_ ?_ <;> intro hc_ <;> (try simp only [isNilI, inB, reduceCtorEq, cds] at hc_) <;> (try (first | contradiction | (exfalso; omega) | (exfalso; exact hlt ⟨by omega, of_decide_eq_true hc_.2⟩)))) | refine ar_until (And.intro ?_ (wk3 ?_)))
    all_goals (first | refine ar_id ?_ | (try (focus ((try refine nrmO ?_); (repeat' (first | exact True.intro | refine And.intro ?_ ?_)); all_goals (try (intro (hg_ : _ = true); (try simp only [isNilI, inB, reduceCtorEq, cds] at hg_); (repeat' (first | exact True.intro | refine And.intro ?_ ?_)))); all_goals (first | exact ob1 | exact fn_KOk _ hsn | exact rfl | skip)))))
    all_goals first | (rw [hT]; done) | trace_state
  all_goals (rw [h0])
end Eng
end Go.Proofs.YtabnglcabpijfaaGreatDoor
namespace Go.Proofs.YtabnglcabpijfaaGreatDoor
open Go.RowKit Go.ChangeShapes Go.WideShapes
namespace Tr
section
variable {H : Type} {enc : TypeId × Value → H} {w : World} {base : Nat} {spare : Nat → Bool} {held : Bool}
def okBoolS (l : List Bool) : Prop := ∀ x ∈ l, (fun _ => True) x
theorem opens_BoolS : Opens enc Tryz.prog w base spare held 25 eBoolS okBoolS := opens_slice Tryz.underlying25 (by kernel_rfl) (fun _ => rfl) (opens_bool Tryz.underlying4)
def okEntry (x : GEntry) : Prop := okI x.Mode ∧ okI x.Frame
theorem cells_Entry : Tryz.prog.cellsOf 201 = 2 := by kernel_rfl
set_option maxRecDepth 100000 in
theorem opens_Entry : Opens enc Tryz.prog w base spare held 201 eEntry okEntry := by
  intro fuel cs x h
  obtain ⟨ys, n, _, _, hl, hyl, hf⟩ := DataW.trod_struct Tryz.underlying201 h
  rw [cells_Entry] at hl
  match cs, hl, ys, hyl with
  | [c0, c1], _, [y0, y1], _ =>
  have h0 : DataW.trod enc Tryz.prog w base spare held n 3 ([c0, c1].drop 0 |>.take (Tryz.prog.cellsOf 3)) = some y0 := hf 0 _ rfl
  rw [show Tryz.prog.cellsOf 3 = 1 by kernel_rfl] at h0
  obtain ⟨a0, r0, k0⟩ := (opens_int Tryz.underlying3) _ _ _ h0
  have h1 : DataW.trod enc Tryz.prog w base spare held n 3 ([c0, c1].drop 1 |>.take (Tryz.prog.cellsOf 3)) = some y1 := hf 1 _ rfl
  rw [show Tryz.prog.cellsOf 3 = 1 by kernel_rfl] at h1
  obtain ⟨a1, r1, k1⟩ := (opens_int Tryz.underlying3) _ _ _ h1
  refine ⟨⟨a0, a1⟩, ?_, ⟨k0, k1⟩⟩
  exact (raw_app _ _).2 ⟨[c0], [c1], rfl, r0, r1⟩
def okEntryS (l : List GEntry) : Prop := ∀ x ∈ l, okEntry x
theorem opens_EntryS : Opens enc Tryz.prog w base spare held 61 eEntryS okEntryS := opens_slice Tryz.underlying61 (by kernel_rfl) (fun _ => rfl) opens_Entry
def okIntS (l : List Int) : Prop := ∀ x ∈ l, okI x
theorem opens_IntS : Opens enc Tryz.prog w base spare held 33 eIntS okIntS := opens_slice Tryz.underlying33 (by kernel_rfl) (fun _ => rfl) (opens_int Tryz.underlying3)
def okIntSS (l : List (List Int)) : Prop := ∀ x ∈ l, okIntS x
theorem opens_IntSS : Opens enc Tryz.prog w base spare held 24 eIntSS okIntSS := opens_slice Tryz.underlying24 (by kernel_rfl) (fun _ => rfl) opens_IntS
def okFrames (x : GFrames) : Prop := okIntSS x.Cells ∧ okBoolS x.Used
theorem cells_Frames : Tryz.prog.cellsOf 60 = 2 := by kernel_rfl
set_option maxRecDepth 100000 in
theorem opens_Frames : Opens enc Tryz.prog w base spare held 60 eFrames okFrames := by
  intro fuel cs x h
  obtain ⟨ys, n, _, _, hl, hyl, hf⟩ := DataW.trod_struct Tryz.underlying60 h
  rw [cells_Frames] at hl
  match cs, hl, ys, hyl with
  | [c0, c1], _, [y0, y1], _ =>
  have h0 : DataW.trod enc Tryz.prog w base spare held n 24 ([c0, c1].drop 0 |>.take (Tryz.prog.cellsOf 24)) = some y0 := hf 0 _ rfl
  rw [show Tryz.prog.cellsOf 24 = 1 by kernel_rfl] at h0
  obtain ⟨a0, r0, k0⟩ := opens_IntSS _ _ _ h0
  have h1 : DataW.trod enc Tryz.prog w base spare held n 25 ([c0, c1].drop 1 |>.take (Tryz.prog.cellsOf 25)) = some y1 := hf 1 _ rfl
  rw [show Tryz.prog.cellsOf 25 = 1 by kernel_rfl] at h1
  obtain ⟨a1, r1, k1⟩ := opens_BoolS _ _ _ h1
  refine ⟨⟨a0, a1⟩, ?_, ⟨k0, k1⟩⟩
  exact (raw_app _ _).2 ⟨[c0], [c1], rfl, r0, r1⟩
def okPlan (x : GPlan) : Prop := okI x.Keep ∧ okI x.Move ∧ okIntS x.Cells
theorem cells_Plan : Tryz.prog.cellsOf 68 = 3 := by kernel_rfl
set_option maxRecDepth 100000 in
theorem opens_Plan : Opens enc Tryz.prog w base spare held 68 ePlan okPlan := by
  intro fuel cs x h
  obtain ⟨ys, n, _, _, hl, hyl, hf⟩ := DataW.trod_struct Tryz.underlying68 h
  rw [cells_Plan] at hl
  match cs, hl, ys, hyl with
  | [c0, c1, c2], _, [y0, y1, y2], _ =>
  have h0 : DataW.trod enc Tryz.prog w base spare held n 3 ([c0, c1, c2].drop 0 |>.take (Tryz.prog.cellsOf 3)) = some y0 := hf 0 _ rfl
  rw [show Tryz.prog.cellsOf 3 = 1 by kernel_rfl] at h0
  obtain ⟨a0, r0, k0⟩ := (opens_int Tryz.underlying3) _ _ _ h0
  have h1 : DataW.trod enc Tryz.prog w base spare held n 3 ([c0, c1, c2].drop 1 |>.take (Tryz.prog.cellsOf 3)) = some y1 := hf 1 _ rfl
  rw [show Tryz.prog.cellsOf 3 = 1 by kernel_rfl] at h1
  obtain ⟨a1, r1, k1⟩ := (opens_int Tryz.underlying3) _ _ _ h1
  have h2 : DataW.trod enc Tryz.prog w base spare held n 33 ([c0, c1, c2].drop 2 |>.take (Tryz.prog.cellsOf 33)) = some y2 := hf 2 _ rfl
  rw [show Tryz.prog.cellsOf 33 = 1 by kernel_rfl] at h2
  obtain ⟨a2, r2, k2⟩ := opens_IntS _ _ _ h2
  refine ⟨⟨a0, a1, a2⟩, ?_, ⟨k0, k1, k2⟩⟩
  exact (raw_app _ _).2 ⟨[c0], [c1, c2], rfl, r0, (raw_app _ _).2 ⟨[c1], [c2], rfl, r1, r2⟩⟩
def okJob (x : GJob) : Prop := okPlan x.Plan ∧ okI x.Phase ∧ okI x.Next
theorem cells_Job : Tryz.prog.cellsOf 70 = 5 := by kernel_rfl
set_option maxRecDepth 100000 in
theorem opens_Job : Opens enc Tryz.prog w base spare held 70 eJob okJob := by
  intro fuel cs x h
  obtain ⟨ys, n, _, _, hl, hyl, hf⟩ := DataW.trod_struct Tryz.underlying70 h
  rw [cells_Job] at hl
  match cs, hl, ys, hyl with
  | [c0, c1, c2, c3, c4], _, [y0, y1, y2], _ =>
  have h0 : DataW.trod enc Tryz.prog w base spare held n 68 ([c0, c1, c2, c3, c4].drop 0 |>.take (Tryz.prog.cellsOf 68)) = some y0 := hf 0 _ rfl
  rw [show Tryz.prog.cellsOf 68 = 3 by kernel_rfl] at h0
  obtain ⟨a0, r0, k0⟩ := opens_Plan _ _ _ h0
  have h1 : DataW.trod enc Tryz.prog w base spare held n 3 ([c0, c1, c2, c3, c4].drop 3 |>.take (Tryz.prog.cellsOf 3)) = some y1 := hf 1 _ rfl
  rw [show Tryz.prog.cellsOf 3 = 1 by kernel_rfl] at h1
  obtain ⟨a1, r1, k1⟩ := (opens_int Tryz.underlying3) _ _ _ h1
  have h2 : DataW.trod enc Tryz.prog w base spare held n 3 ([c0, c1, c2, c3, c4].drop 4 |>.take (Tryz.prog.cellsOf 3)) = some y2 := hf 2 _ rfl
  rw [show Tryz.prog.cellsOf 3 = 1 by kernel_rfl] at h2
  obtain ⟨a2, r2, k2⟩ := (opens_int Tryz.underlying3) _ _ _ h2
  refine ⟨⟨a0, a1, a2⟩, ?_, ⟨k0, k1, k2⟩⟩
  exact (raw_app _ _).2 ⟨[c0, c1, c2], [c3, c4], rfl, r0, (raw_app _ _).2 ⟨[c3], [c4], rfl, r1, r2⟩⟩
def okTable (x : GTable) : Prop := okEntryS x.Entries
theorem cells_Table : Tryz.prog.cellsOf 63 = 1 := by kernel_rfl
set_option maxRecDepth 100000 in
theorem opens_Table : Opens enc Tryz.prog w base spare held 63 eTable okTable := by
  intro fuel cs x h
  obtain ⟨ys, n, _, _, hl, hyl, hf⟩ := DataW.trod_struct Tryz.underlying63 h
  rw [cells_Table] at hl
  match cs, hl, ys, hyl with
  | [c0], _, [y0], _ =>
  have h0 : DataW.trod enc Tryz.prog w base spare held n 61 ([c0].drop 0 |>.take (Tryz.prog.cellsOf 61)) = some y0 := hf 0 _ rfl
  rw [show Tryz.prog.cellsOf 61 = 1 by kernel_rfl] at h0
  obtain ⟨a0, r0, k0⟩ := opens_EntryS _ _ _ h0
  refine ⟨⟨a0⟩, ?_, k0⟩
  exact r0
def okMachine (x : GMachine) : Prop := okFrames x.Frames ∧ okTable x.Table
theorem cells_Machine : Tryz.prog.cellsOf 65 = 3 := by kernel_rfl
set_option maxRecDepth 100000 in
theorem opens_Machine : Opens enc Tryz.prog w base spare held 65 eMachine okMachine := by
  intro fuel cs x h
  obtain ⟨ys, n, _, _, hl, hyl, hf⟩ := DataW.trod_struct Tryz.underlying65 h
  rw [cells_Machine] at hl
  match cs, hl, ys, hyl with
  | [c0, c1, c2], _, [y0, y1], _ =>
  have h0 : DataW.trod enc Tryz.prog w base spare held n 60 ([c0, c1, c2].drop 0 |>.take (Tryz.prog.cellsOf 60)) = some y0 := hf 0 _ rfl
  rw [show Tryz.prog.cellsOf 60 = 2 by kernel_rfl] at h0
  obtain ⟨a0, r0, k0⟩ := opens_Frames _ _ _ h0
  have h1 : DataW.trod enc Tryz.prog w base spare held n 63 ([c0, c1, c2].drop 2 |>.take (Tryz.prog.cellsOf 63)) = some y1 := hf 1 _ rfl
  rw [show Tryz.prog.cellsOf 63 = 1 by kernel_rfl] at h1
  obtain ⟨a1, r1, k1⟩ := opens_Table _ _ _ h1
  refine ⟨⟨a0, a1⟩, ?_, ⟨k0, k1⟩⟩
  exact (raw_app _ _).2 ⟨[c0, c1], [c2], rfl, r0, r1⟩
def okKernel (x : GKernel) : Prop := okMachine x.Machine ∧ okI x.Calls ∧ okIntS x.Refuse
theorem cells_Kernel : Tryz.prog.cellsOf 67 = 5 := by kernel_rfl
set_option maxRecDepth 100000 in
theorem opens_Kernel : Opens enc Tryz.prog w base spare held 67 eKernel okKernel := by
  intro fuel cs x h
  obtain ⟨ys, n, _, _, hl, hyl, hf⟩ := DataW.trod_struct Tryz.underlying67 h
  rw [cells_Kernel] at hl
  match cs, hl, ys, hyl with
  | [c0, c1, c2, c3, c4], _, [y0, y1, y2], _ =>
  have h0 : DataW.trod enc Tryz.prog w base spare held n 65 ([c0, c1, c2, c3, c4].drop 0 |>.take (Tryz.prog.cellsOf 65)) = some y0 := hf 0 _ rfl
  rw [show Tryz.prog.cellsOf 65 = 3 by kernel_rfl] at h0
  obtain ⟨a0, r0, k0⟩ := opens_Machine _ _ _ h0
  have h1 : DataW.trod enc Tryz.prog w base spare held n 3 ([c0, c1, c2, c3, c4].drop 3 |>.take (Tryz.prog.cellsOf 3)) = some y1 := hf 1 _ rfl
  rw [show Tryz.prog.cellsOf 3 = 1 by kernel_rfl] at h1
  obtain ⟨a1, r1, k1⟩ := (opens_int Tryz.underlying3) _ _ _ h1
  have h2 : DataW.trod enc Tryz.prog w base spare held n 33 ([c0, c1, c2, c3, c4].drop 4 |>.take (Tryz.prog.cellsOf 33)) = some y2 := hf 2 _ rfl
  rw [show Tryz.prog.cellsOf 33 = 1 by kernel_rfl] at h2
  obtain ⟨a2, r2, k2⟩ := opens_IntS _ _ _ h2
  refine ⟨⟨a0, a1, a2⟩, ?_, ⟨k0, k1, k2⟩⟩
  exact (raw_app _ _).2 ⟨[c0, c1, c2], [c3, c4], rfl, r0, (raw_app _ _).2 ⟨[c3], [c4], rfl, r1, r2⟩⟩
def okWriter (x : GWriter) : Prop := okI x.Addr ∧ okI x.Value ∧ (fun _ => True) x.Done ∧ okI x.Waits
theorem cells_Writer : Tryz.prog.cellsOf 120 = 4 := by kernel_rfl
set_option maxRecDepth 100000 in
theorem opens_Writer : Opens enc Tryz.prog w base spare held 120 eWriter okWriter := by
  intro fuel cs x h
  obtain ⟨ys, n, _, _, hl, hyl, hf⟩ := DataW.trod_struct Tryz.underlying120 h
  rw [cells_Writer] at hl
  match cs, hl, ys, hyl with
  | [c0, c1, c2, c3], _, [y0, y1, y2, y3], _ =>
  have h0 : DataW.trod enc Tryz.prog w base spare held n 3 ([c0, c1, c2, c3].drop 0 |>.take (Tryz.prog.cellsOf 3)) = some y0 := hf 0 _ rfl
  rw [show Tryz.prog.cellsOf 3 = 1 by kernel_rfl] at h0
  obtain ⟨a0, r0, k0⟩ := (opens_int Tryz.underlying3) _ _ _ h0
  have h1 : DataW.trod enc Tryz.prog w base spare held n 3 ([c0, c1, c2, c3].drop 1 |>.take (Tryz.prog.cellsOf 3)) = some y1 := hf 1 _ rfl
  rw [show Tryz.prog.cellsOf 3 = 1 by kernel_rfl] at h1
  obtain ⟨a1, r1, k1⟩ := (opens_int Tryz.underlying3) _ _ _ h1
  have h2 : DataW.trod enc Tryz.prog w base spare held n 4 ([c0, c1, c2, c3].drop 2 |>.take (Tryz.prog.cellsOf 4)) = some y2 := hf 2 _ rfl
  rw [show Tryz.prog.cellsOf 4 = 1 by kernel_rfl] at h2
  obtain ⟨a2, r2, k2⟩ := (opens_bool Tryz.underlying4) _ _ _ h2
  have h3 : DataW.trod enc Tryz.prog w base spare held n 3 ([c0, c1, c2, c3].drop 3 |>.take (Tryz.prog.cellsOf 3)) = some y3 := hf 3 _ rfl
  rw [show Tryz.prog.cellsOf 3 = 1 by kernel_rfl] at h3
  obtain ⟨a3, r3, k3⟩ := (opens_int Tryz.underlying3) _ _ _ h3
  refine ⟨⟨a0, a1, a2, a3⟩, ?_, ⟨k0, k1, k2, k3⟩⟩
  exact (raw_app _ _).2 ⟨[c0], [c1, c2, c3], rfl, r0, (raw_app _ _).2 ⟨[c1], [c2, c3], rfl, r1, (raw_app _ _).2 ⟨[c2], [c3], rfl, r2, r3⟩⟩⟩
def okWriterS (l : List GWriter) : Prop := ∀ x ∈ l, okWriter x
theorem opens_WriterS : Opens enc Tryz.prog w base spare held 71 eWriterS okWriterS := opens_slice Tryz.underlying71 (by kernel_rfl) (fun _ => rfl) opens_Writer
end
end Tr
end Go.Proofs.YtabnglcabpijfaaGreatDoor
namespace Go.Proofs.YtabnglcabpijfaaGreatDoor
open Go.RowKit
set_option linter.unusedVariables false
set_option linter.unusedSimpArgs false
namespace Eng
open Tr
theorem ok_addr {l : List GWriter} (h : okWriterS l) (n : Nat) : (l.getD n noW).Addr ≤ 9223372036854775807 := by
  rw [List.getD_eq_getElem?_getD]
  by_cases hn : n < l.length
  · rw [List.getElem?_eq_getElem hn]; exact (h _ (List.getElem_mem hn)).1.2
  · rw [List.getElem?_eq_none (by omega)]; decide
theorem ok_addrI {l : List GWriter} (h : okWriterS l) (n : Nat) : okI (l.getD n noW).Addr := by
  rw [List.getD_eq_getElem?_getD]
  by_cases hn : n < l.length
  · rw [List.getElem?_eq_getElem hn]; exact (h _ (List.getElem_mem hn)).1
  · rw [List.getElem?_eq_none (by omega)]; exact ⟨by decide, by decide⟩
theorem fn_LFinish (G : List Glb) (hI : ∀ k j ws s, szK8 k → j.Plan.Cells.length ≤ 1048576 → ws.length ≤ 1048576 → (∀ n, okI (ws.getD n noW).Addr) → pFinish k j ws = s → Fn Tryz.prog (c_IFinish G k j ws s.k s.j s.ws))
    (x0 : GKernel) (x1 : GJob) (x2 : List GWriter) (hm0 : mxK x0) (hm1 : mxJ x1) (hm2 : x2.length ≤ 9223372036854775807) (hok : okWriterS x2) : Fn Tryz.prog (c_XFinish G x0 x1 x2) := by
  obtain ⟨s, hs⟩ : ∃ s, pFinish x0 x1 x2 = s := ⟨_, rfl⟩
  refine fn_XFinish G x0 x1 x2 s.k s.j s.ws hm0 hm1 hm2 (fun hn => ?_)
  have hs0 : smK x0 := K_sm (by omega)
  have hs1 : smJ x1 := J_sm (by omega)
  obtain ⟨zm, zr, zp, zn, zk⟩ := fin_facts hs
  have hk := n_resN (k := x0) (k' := s.k) (by omega) zm zr zk
  have hj : nJ s.j ≤ 1048576 := by unfold nJ; rw [zp]; show nJ x1 ≤ _; omega
  have c1 := K_cn s.k
  have c2 := J_cn s.j
  exact ⟨K_sm hk, J_sm hj, by omega, by omega, fn_FinS x0 x1 x2 s (szK8_smN hs0) hs1.hPlan.hCells (by omega) (ok_addr hok) hs, hI x0 x1 x2 s (szK8_smN hs0) hs1.hPlan.hCells (by omega) (ok_addrI hok) hs⟩
end Eng
end Go.Proofs.YtabnglcabpijfaaGreatDoor
namespace Go.Proofs.YtabnglcabpijfaaGreatDoor
open Go.RowKit
set_option linter.unusedVariables false
set_option linter.unusedSimpArgs false
namespace Eng
open Tr
theorem rarg_J {w : World} {x : GJob} {c2 : Value} (h : Raw w (eJob x) [.int .i64 x.Plan.Keep, .int .i64 x.Plan.Move, c2, .int .i64 x.Phase, .int .i64 x.Next]) : SRel (cxOf w) noEnv (.agg [(CV.lit (.int .i64 (x.Plan.Keep))), (CV.lit (.int .i64 (x.Plan.Move))), ro 3 1 Tr.eI x.Plan.Cells, (CV.lit (.int .i64 (x.Phase))), (CV.lit (.int .i64 (x.Next)))]) (.agg #[.int .i64 x.Plan.Keep, .int .i64 x.Plan.Move, c2, .int .i64 x.Phase, .int .i64 x.Next]) ∧ mxJ x := by
  have h := raw_tail h
  have h := raw_tail h
  have h2 := raw_head h
  exact ⟨⟨_, rfl, raw_lit rfl, raw_lit rfl, raw_ro (by decide) (fun _ => trivial) h2.1, raw_lit rfl, raw_lit rfl, trivial⟩, ⟨⟨raw_max h2.1⟩⟩⟩
end Eng
end Go.Proofs.YtabnglcabpijfaaGreatDoor
namespace Go.Proofs.YtabnglcabpijfaaGreatDoor
open Go.RowKit
set_option linter.unusedVariables false
set_option linter.unusedSimpArgs false
namespace Eng
open Tr
theorem rarg_K {w : World} {x : GKernel} {c0 c1 c2 c4 : Value} (h : Raw w (eKernel x) [c0, c1, c2, .int .i64 x.Calls, c4]) : SRel (cxOf w) noEnv (.agg [ro 33 1 eIntS x.Machine.Frames.Cells, ro 4 1 Tr.eB x.Machine.Frames.Used, ro 201 2 eEntry x.Machine.Table.Entries, (CV.lit (.int .i64 (x.Calls))), ro 3 1 Tr.eI x.Refuse]) (.agg #[c0, c1, c2, .int .i64 x.Calls, c4]) ∧ mxK x := by
  have h0 := raw_head h
  have h1 := raw_head h0.2
  have h2 := raw_head h1.2
  have h3 := raw_tail h2.2
  have h4 := raw_head h3
  exact ⟨⟨_, rfl, raw_ro (by decide) (fun _ => kpos_row (by decide) (fun _ => trivial)) h0.1, raw_ro (by decide) (fun _ => trivial) h1.1, raw_ro (by decide) (fun _ => trivial) h2.1, raw_lit rfl, raw_ro (by decide) (fun _ => trivial) h4.1, trivial⟩,
    ⟨⟨⟨⟨raw_max h0.1, raw_max2 h0.1⟩, raw_max h1.1⟩, ⟨raw_max h2.1⟩⟩, raw_max h4.1⟩⟩
end Eng
end Go.Proofs.YtabnglcabpijfaaGreatDoor
namespace Go.Proofs.YtabnglcabpijfaaGreatDoor
open Go.RowKit
set_option linter.unusedVariables false
set_option linter.unusedSimpArgs false
set_option maxRecDepth 100000
namespace Eng
open Tr
def c_cellX (x : Int) : CFD := ⟨140, [(SV.one (.lit (.int .i64 (x))))], [], (TV.sv (.one (.lit (.bool (decide (0 ≤ x ∧ x ≤ 15)))))), [], [], []⟩
theorem fn_cellX (x : Int) : Fn Tryz.prog (c_cellX x) := by
  refine fn_intro tt_ok Tryz.func140 rfl Tryz.call140 Tryz.ntmps140 Tryz.results140 rfl rfl rfl rfl ?_
  intro X ρ0 hb_ hgl_
  dsimp only [c_cellX]
  try refine nrm ?_
  repeat' (refine ar_id ?_; first | refine st1 ?_ | (first | ((first | refine ar_region tt_ok (inps := []) rfl ?_ ?_); rotate_left; (try refine nrm ?_); rotate_right) | refine ret3 ?_ | refine end3 ?_) | (refine ar_cond rfl trivial ?_ ?_ <;> intro hc_ <;> (try simp only [isNilI, inB, reduceCtorEq, cds] at hc_) <;> (try (first | contradiction | (exfalso; omega)))) | refine ar_until (And.intro ?_ (wk3 ?_)))
  all_goals (first | refine ar_id ?_ | (try (focus ((try refine nrmO ?_); (repeat' (first | exact True.intro | refine And.intro ?_ ?_)); all_goals (try (intro (hg_ : _ = true); (try simp only [isNilI, inB, reduceCtorEq, cds] at hg_); (repeat' (first | exact True.intro | refine And.intro ?_ ?_)))); all_goals (first | exact ob1 | skip)))))
  refine congrArg Value.bool ?_
  rw [Bool.cond_false_right, ← Bool.decide_and]
  exact decide_eq_decide.2 (by omega)
def c_ascI (l : List Int) : CFD := ⟨100, [.one (ro 3 1 Tr.eI l)], [], (TV.sv (.one (.lit (.bool (decide (asc l)))))), [], [], []⟩
theorem asc_no {l : List Int} {i : Nat} (hi : i < l.length) (h : ¬ okAt l i) : decide (asc l) = false := decide_eq_false fun hp => h (hp i hi)
theorem fn_ascI (l : List Int) (hl : l.length ≤ 1048576) : Fn Tryz.prog (c_ascI l) := by
  refine fn_intro tt_ok Tryz.func100 rfl Tryz.call100 Tryz.ntmps100 Tryz.results100 rfl rfl rfl rfl ?_
  intro X ρ0 hb_ hgl_
  dsimp only [c_ascI]
  try refine nrm ?_
  repeat' (refine ar_id ?_; first | refine st1 ?_ | (first | ((first | refine ar_region tt_ok (inps := []) rfl ?_ ?_); rotate_left; (try refine nrm ?_); rotate_right) | refine ret3 ?_ | refine end3 ?_) | (refine ar_cond rfl trivial ?_ ?_ <;> intro hc_ <;> (try simp only [isNilI, inB, reduceCtorEq, cds] at hc_) <;> (try (first | contradiction | (exfalso; omega)))) | refine ar_until (And.intro ?_ (wk3 ?_)))
  all_goals (first | refine ar_id ?_ | (try (focus ((try refine nrmO ?_); (repeat' (first | exact True.intro | refine And.intro ?_ ?_)); all_goals (try (intro (hg_ : _ = true); (try simp only [isNilI, inB, reduceCtorEq, cds] at hg_); (repeat' (first | exact True.intro | refine And.intro ?_ ?_)))); all_goals (first | exact ob1 | skip)))))
  refine ar_keep 493 (by dsimp only [keepS] <;> exact rfl) ?_
  refine ar_forM (l.length) (fun i => ∀ k, k < i → okAt l k) (fun i => [(8, (TV.sv (.one (.lit (.int .i64 (i)))))), (3, (TV.sv (.one (.lit (.int .i64 ((lastV l i)))))))]) (fun i => []) ?_ ?_ ?_
  rotate_left
  · first | trivial | simp
  (dsimp only [rnCap, capSVs, Int.toNat_natCast, ro, Nat.reduceAdd, Nat.reduceMul, Nat.zero_add, List.map, putT, app, wrapG, gOb, argT, keys, slotOf, dropped, gAnd, wB, rnT, rnS, rnC, rnCs, rnSs, rnM, rnB, rnN, rn, lk, St.over, ded, delL, keepT, menT, menSs, menS, menCs, menC, hasN, resT, SV.cells]; refine wk3 ?_; (focus ((try refine nrmO ?_); (repeat' (first | exact True.intro | refine And.intro ?_ ?_)); all_goals (try (intro (hg_ : _ = true); (try simp only [isNilI, inB, reduceCtorEq, cds] at hg_); (repeat' (first | exact True.intro | refine And.intro ?_ ?_)))); all_goals (first | exact ob1 | exact rfl | skip))))
  rotate_right
  intro i hi_ hiI_
  dsimp only [rnCap, capSVs, Int.toNat_natCast, ro, Nat.reduceAdd, Nat.reduceMul, Nat.zero_add, List.map, putT, app, wrapG, gOb, argT, keys, slotOf, dropped, gAnd, wB, rnT, rnS, rnC, rnCs, rnSs, rnM, rnB, rnN, rn, lk, St.over, ded, delL, keepT, menT, menSs, menS, menCs, menC, hasN, resT, SV.cells]
  repeat' (refine ar_id ?_; first | refine st1 ?_ | (first | ((first | refine ar_region (id := 4) tt_ok (inps := [.elem (Tr.eI (l.getD i 0))]) rfl ?_ ?_ | refine ar_region (id := 5) tt_ok (inps := [.call (c_cellX (l.getD i 0))]) rfl ?_ ?_ | refine ar_region tt_ok (inps := []) rfl ?_ ?_); rotate_left; (try dsimp only [c_cellX]); (try refine nrm ?_); rotate_right) | refine ret3 ?_ | refine end3 ?_) | (refine ar_cond rfl trivial ?_ ?_ <;> intro hc_ <;> (try simp only [isNilI, inB, reduceCtorEq, cds] at hc_) <;> (try (first | contradiction | (exfalso; omega)))) | refine ar_until (And.intro ?_ (wk3 ?_)))
  all_goals (first | refine ar_id ?_ | (try (focus ((try refine nrmO ?_); (repeat' (first | exact True.intro | refine And.intro ?_ ?_)); all_goals (try (intro (hg_ : _ = true); (try simp only [isNilI, inB, reduceCtorEq, cds] at hg_); (repeat' (first | exact True.intro | refine And.intro ?_ ?_)))); all_goals (first | exact ob1 | exact fn_cellX _ | skip)))))
  · rw [asc_no (i := i) (by omega) (by unfold okAt; omega)]
  · exact ok_next hiI_ hc_
  · rfl
  · rw [decide_eq_true (show asc l from fun k hk => hiI_ k (by omega))]
def c_PlanOkI (p : GPlan) : CFD := ⟨56, [.agg [(CV.lit (.int .i64 (p.Keep))), (CV.lit (.int .i64 (p.Move))), ro 3 1 Tr.eI p.Cells]], [], (TV.sv (.one (.lit (.bool (pPlanOk p))))), [], [], []⟩
theorem fn_PlanOkI (p : GPlan) (hl : p.Cells.length ≤ 1048576) : Fn Tryz.prog (c_PlanOkI p) := by
  refine fn_intro tt_ok Tryz.func56 rfl Tryz.call56 Tryz.ntmps56 Tryz.results56 rfl rfl rfl rfl ?_
  intro X ρ0 hb_ hgl_
  dsimp only [c_PlanOkI]
  try refine nrm ?_
  repeat' (refine ar_id ?_; first | refine st1 ?_ | (first | ((first | refine ar_region (id := 1) tt_ok (inps := [.call (c_ascI p.Cells)]) rfl ?_ ?_ | refine ar_region tt_ok (inps := []) rfl ?_ ?_); rotate_left; (try dsimp only [c_ascI]); (try refine nrm ?_); rotate_right) | refine ret3 ?_ | refine end3 ?_) | (refine ar_cond rfl trivial ?_ ?_ <;> intro hc_ <;> (try simp only [isNilI, inB, reduceCtorEq, cds] at hc_) <;> (try (first | contradiction | (exfalso; omega)))) | refine ar_until (And.intro ?_ (wk3 ?_)))
  all_goals (first | refine ar_id ?_ | (try (focus ((try refine nrmO ?_); (repeat' (first | exact True.intro | refine And.intro ?_ ?_)); all_goals (try (intro (hg_ : _ = true); (try simp only [isNilI, inB, reduceCtorEq, cds] at hg_); (repeat' (first | exact True.intro | refine And.intro ?_ ?_)))); all_goals (first | exact ob1 | exact fn_ascI _ hl | skip)))))
  refine congrArg Value.bool ?_
  rw [Bool.eq_iff_iff]
  unfold pPlanOk
  rw [decide_eq_true_eq]
  have h1 : 0 ≤ mmI true p.Keep p.Move ↔ 0 ≤ p.Keep ∧ 0 ≤ p.Move := by simp only [mmI]; split <;> omega
  have h2 : mmI false p.Keep p.Move < 32 ↔ p.Keep ≤ 31 ∧ p.Move ≤ 31 := by simp only [mmI]; split <;> omega
  simp only [Bool.cond_false_right, Bool.and_eq_true, decide_eq_true_eq, bne_iff_ne, ge_iff_le, h1, h2]
  unfold plOk
  exact ⟨fun h => ⟨h.1.1.1, ⟨h.1.1.2.1, h.1.2.1⟩, ⟨h.1.1.2.2, h.1.2.2⟩, h.2⟩, fun h => ⟨⟨⟨h.1, h.2.1.1, h.2.2.1.1⟩, h.2.1.2, h.2.2.1.2⟩, h.2.2.2⟩⟩
end Eng
end Go.Proofs.YtabnglcabpijfaaGreatDoor
namespace Go.Proofs.YtabnglcabpijfaaGreatDoor
open Go.RowKit
set_option linter.unusedVariables false
set_option linter.unusedSimpArgs false
set_option maxRecDepth 100000
namespace Eng
open Tr
def c_copyJI (j : GJob) : CFD := ⟨47, [.agg [(CV.lit (.int .i64 (j.Plan.Keep))), (CV.lit (.int .i64 (j.Plan.Move))), ro 3 1 Tr.eI j.Plan.Cells, (CV.lit (.int .i64 (j.Phase))), (CV.lit (.int .i64 (j.Next)))]], [], .sv (.agg [(CV.lit (.int .i64 (j.Plan.Keep))), (CV.lit (.int .i64 (j.Plan.Move))), .hd 0, (CV.lit (.int .i64 (j.Phase))), (CV.lit (.int .i64 (j.Next)))]), [(0, some (.row 3 1 (j.Plan.Cells.map Tr.eI)))], [0], []⟩
theorem fn_copyJI (j : GJob) (hl : j.Plan.Cells.length ≤ 1048576) : Fn Tryz.prog (c_copyJI j) := by
  refine fn_intro tt_ok Tryz.func47 rfl Tryz.call47 Tryz.ntmps47 Tryz.results47 rfl rfl rfl rfl ?_
  intro X ρ0 hb_ hgl_
  dsimp only [c_copyJI]
  try refine nrm ?_
  repeat' (refine ar_id ?_; first | refine st1 ?_ | (first | ((first | refine ar_region (id := 1) tt_ok (inps := [.call (c_CloneI j.Plan.Cells)]) rfl ?_ ?_ | refine ar_region tt_ok (inps := []) rfl ?_ ?_); rotate_left; (try dsimp only [c_CloneI]); (try refine nrm ?_); rotate_right) | refine ret3 ?_ | refine end3 ?_) | (refine ar_cond rfl trivial ?_ ?_ <;> intro hc_ <;> (try simp only [isNilI, inB, reduceCtorEq, cds] at hc_) <;> (try (first | contradiction | (exfalso; omega)))) | refine ar_until (And.intro ?_ (wk3 ?_)))
  all_goals (first | refine ar_id ?_ | (try (focus ((try refine nrmO ?_); (repeat' (first | exact True.intro | refine And.intro ?_ ?_)); all_goals (try (intro (hg_ : _ = true); (try simp only [isNilI, inB, reduceCtorEq, cds] at hg_); (repeat' (first | exact True.intro | refine And.intro ?_ ?_)))); all_goals (first | exact ob1 | exact fn_CloneI _ hl | skip)))))
  all_goals trace_state
def c_JobOkI (j : GJob) : CFD := ⟨18, [.agg [(CV.lit (.int .i64 (j.Plan.Keep))), (CV.lit (.int .i64 (j.Plan.Move))), ro 3 1 Tr.eI j.Plan.Cells, (CV.lit (.int .i64 (j.Phase))), (CV.lit (.int .i64 (j.Next)))]], [], (TV.sv (.one (.lit (.bool (pJobOk j))))), [], [], []⟩
theorem fn_JobOkI (j : GJob) (hl : j.Plan.Cells.length ≤ 1048576) : Fn Tryz.prog (c_JobOkI j) := by
  refine fn_intro tt_ok Tryz.func18 rfl Tryz.call18 Tryz.ntmps18 Tryz.results18 rfl rfl rfl rfl ?_
  intro X ρ0 hb_ hgl_
  dsimp only [c_JobOkI]
  try refine nrm ?_
  repeat' (refine ar_id ?_; first | refine st1 ?_ | (first | ((first | refine ar_region (id := 1) tt_ok (inps := [.call (c_PlanOkI j.Plan)]) rfl ?_ ?_ | refine ar_region tt_ok (inps := []) rfl ?_ ?_); rotate_left; (try dsimp only [c_PlanOkI]); (try refine nrm ?_); rotate_right) | refine ret3 ?_ | refine end3 ?_) | (refine ar_cond rfl trivial ?_ ?_ <;> intro hc_ <;> (try simp only [isNilI, inB, reduceCtorEq, cds] at hc_) <;> (try (first | contradiction | (exfalso; omega)))) | refine ar_until (And.intro ?_ (wk3 ?_)))
  all_goals (first | refine ar_id ?_ | (try (focus ((try refine nrmO ?_); (repeat' (first | exact True.intro | refine And.intro ?_ ?_)); all_goals (try (intro (hg_ : _ = true); (try simp only [isNilI, inB, reduceCtorEq, cds] at hg_); (repeat' (first | exact True.intro | refine And.intro ?_ ?_)))); all_goals (first | exact ob1 | exact fn_PlanOkI j.Plan hl | skip)))))
  refine congrArg Value.bool ?_
  rw [Bool.eq_iff_iff]
  unfold pJobOk
  rw [decide_eq_true_iff]
  simp only [pPlanOk, okJ, Bool.cond_false_right, Bool.and_eq_true, decide_eq_true_eq]
  exact ⟨fun h => ⟨h.1.1.1.1, ⟨h.1.1.1.2, h.1.1.2⟩, h.1.2, h.2⟩, fun h => ⟨⟨⟨⟨h.1, h.2.1.1⟩, h.2.1.2⟩, h.2.2.1⟩, h.2.2.2⟩⟩
def c_OverI (j : GJob) : CFD := ⟨90, [.agg [(CV.lit (.int .i64 (j.Plan.Keep))), (CV.lit (.int .i64 (j.Plan.Move))), ro 3 1 Tr.eI j.Plan.Cells, (CV.lit (.int .i64 (j.Phase))), (CV.lit (.int .i64 (j.Next)))]], [], (TV.sv (.one (.lit (.bool (decide (overJ j)))))), [], [], []⟩
theorem fn_OverI (j : GJob) : Fn Tryz.prog (c_OverI j) := by
  refine fn_intro tt_ok Tryz.func90 rfl Tryz.call90 Tryz.ntmps90 Tryz.results90 rfl rfl rfl rfl ?_
  intro X ρ0 hb_ hgl_
  dsimp only [c_OverI]
  try refine nrm ?_
  repeat' (refine ar_id ?_; first | refine st1 ?_ | (first | ((first | refine ar_region tt_ok (inps := []) rfl ?_ ?_); rotate_left; (try refine nrm ?_); rotate_right) | refine ret3 ?_ | refine end3 ?_) | (refine ar_cond rfl trivial ?_ ?_ <;> intro hc_ <;> (try simp only [isNilI, inB, reduceCtorEq, cds] at hc_) <;> (try (first | contradiction | (exfalso; omega)))) | refine ar_until (And.intro ?_ (wk3 ?_)))
  all_goals (first | refine ar_id ?_ | (try (focus ((try refine nrmO ?_); (repeat' (first | exact True.intro | refine And.intro ?_ ?_)); all_goals (try (intro (hg_ : _ = true); (try simp only [isNilI, inB, reduceCtorEq, cds] at hg_); (repeat' (first | exact True.intro | refine And.intro ?_ ?_)))); all_goals (first | exact ob1 | skip)))))
  refine congrArg Value.bool ?_
  rw [Bool.eq_iff_iff]
  rw [decide_eq_true_iff]
  simp only [overJ, Bool.cond_true_left, Bool.or_eq_true, beq_iff_eq]
end Eng
end Go.Proofs.YtabnglcabpijfaaGreatDoor
namespace Go.Proofs.YtabnglcabpijfaaGreatDoor
open Go.RowKit
set_option linter.unusedVariables false
set_option linter.unusedSimpArgs false
set_option maxRecDepth 100000
namespace Eng
open Tr
theorem modeI_in {k : GKernel} {page : Int} (h : modeOf k page ≠ 0) : (0 ≤ page ∧ page < k.Machine.Table.Entries.length) ∧ pPageEntry k.Machine.Table page = k.Machine.Table.Entries.getD page.toNat ⟨0, 0⟩ := by
  unfold modeOf pPageEntry at h
  by_cases hp : 0 ≤ page ∧ page < k.Machine.Table.Entries.length
  · exact ⟨hp, by unfold pPageEntry; rw [if_pos hp]⟩
  · rw [if_neg hp] at h; exact absurd rfl h
/-- the frame that a page leaves keeps a page -/
def c_remK (m : GMachine) (page : Int) (e : GEntry) : CFD := ⟨171, [.agg [.hd 0, .hd 1, .hd 2], (SV.one (.lit (.int .i64 (page)))), .agg [(CV.lit (.int .i64 (e.Mode))), (CV.lit (.int .i64 (e.Frame)))]], [(0, some (.row 33 1 (m.Frames.Cells.map eIntS))), (1, some (.row 4 1 (m.Frames.Used.map Tr.eB))), (2, some (.row 42 2 (m.Table.Entries.map eEntry)))], .sv (.agg [.hd 0, .hd 1, .hd 10]), [(0, some (.row 33 1 (m.Frames.Cells.map eIntS))), (1, some (.row 4 1 (m.Frames.Used.map Tr.eB))), (10, some (.row 42 2 (((pSetPage m.Table page e).1).Entries.map eEntry)))], [10], []⟩
set_option maxHeartbeats 2000000 in
theorem fn_remK (m : GMachine) (page : Int) (e : GEntry) (hs : szM m) (h : ¬ ((pPagesOn (pSetPage m.Table page e).1 (pPageEntry m.Table page).Frame).length : Int) = 0) : Fn Tryz.prog (c_remK m page e) := by
  have hse : (pSetPage m.Table page e).1.Entries.length ≤ 1048576 := by have := hs.e; unfold pSetPage; split <;> simp <;> omega
  refine fn_intro tt_ok Tryz.func171 rfl Tryz.call171 Tryz.ntmps171 Tryz.results171 rfl rfl rfl rfl ?_
  intro X ρ0 hb_ hgl_
  dsimp only [c_remK]
  try refine nrm ?_
  repeat' (refine ar_id ?_; first | refine st1 ?_ | (first | ((first | refine ar_region (id := 1) tt_ok (inps := [.call (c_PageEntryI m.Table page)]) rfl ?_ ?_ | refine ar_region (id := 2) tt_ok (inps := [.call (c_SetPageI m.Table page e)]) rfl ?_ ?_ | refine ar_region (id := 3) tt_ok (inps := [.call (c_PagesOnI (pSetPage m.Table page e).1 (pPageEntry m.Table page).Frame)]) rfl ?_ ?_ | refine ar_region tt_ok (inps := []) rfl ?_ ?_); rotate_left; (try dsimp only [c_PageEntryI, c_PagesOnI, c_SetPageI]); (try refine nrm ?_); rotate_right) | refine ret3 ?_ | refine end3 ?_) | (refine ar_cond rfl trivial ?_ ?_ <;> intro hc_ <;> (try simp only [isNilI, inB, reduceCtorEq, cds] at hc_) <;> (try (first | contradiction | (exfalso; omega)))) | refine ar_until (And.intro ?_ (wk3 ?_)))
  all_goals (first | refine ar_id ?_ | (try (focus ((try refine nrmO ?_); (repeat' (first | exact True.intro | refine And.intro ?_ ?_)); all_goals (try (intro (hg_ : _ = true); (try simp only [isNilI, inB, reduceCtorEq, cds] at hg_); (repeat' (first | exact True.intro | refine And.intro ?_ ?_)))); all_goals (first | exact ob1 | exact fn_PageEntryI _ _ hs.e | exact fn_SetPageI _ _ _ hs.e | exact fn_PagesOnI _ _ hse | skip)))))
/-- the frame that a page leaves is given back -/
def c_remD (m : GMachine) (page : Int) (e : GEntry) : CFD := ⟨171, [.agg [.hd 0, .hd 1, .hd 2], (SV.one (.lit (.int .i64 (page)))), .agg [(CV.lit (.int .i64 (e.Mode))), (CV.lit (.int .i64 (e.Frame)))]], [(0, some (.row 33 1 (m.Frames.Cells.map eIntS))), (1, some (.row 4 1 (m.Frames.Used.map Tr.eB))), (2, some (.row 42 2 (m.Table.Entries.map eEntry)))], .sv (.agg [.hd 10, .hd 11, .hd 12]), [(10, some (.row 33 1 (((pFrameGive m.Frames (pPageEntry m.Table page).Frame).1).Cells.map eIntS))), (11, some (.row 4 1 (((pFrameGive m.Frames (pPageEntry m.Table page).Frame).1).Used.map Tr.eB))), (12, some (.row 42 2 (((pSetPage m.Table page e).1).Entries.map eEntry)))], [10, 11, 12], []⟩
set_option maxHeartbeats 2000000 in
theorem fn_remD (m : GMachine) (page : Int) (e : GEntry) (hs : szM m) (h : ((pPagesOn (pSetPage m.Table page e).1 (pPageEntry m.Table page).Frame).length : Int) = 0) : Fn Tryz.prog (c_remD m page e) := by
  have hse : (pSetPage m.Table page e).1.Entries.length ≤ 1048576 := by have := hs.e; unfold pSetPage; split <;> simp <;> omega
  refine fn_intro tt_ok Tryz.func171 rfl Tryz.call171 Tryz.ntmps171 Tryz.results171 rfl rfl rfl rfl ?_
  intro X ρ0 hb_ hgl_
  dsimp only [c_remD]
  try refine nrm ?_
  repeat' (refine ar_id ?_; first | refine st1 ?_ | (first | ((first | refine ar_region (id := 1) tt_ok (inps := [.call (c_PageEntryI m.Table page)]) rfl ?_ ?_ | refine ar_region (id := 2) tt_ok (inps := [.call (c_SetPageI m.Table page e)]) rfl ?_ ?_ | refine ar_region (id := 3) tt_ok (inps := [.call (c_PagesOnI (pSetPage m.Table page e).1 (pPageEntry m.Table page).Frame)]) rfl ?_ ?_ | refine ar_region (id := 4) tt_ok (inps := [.call (c_GiveI m.Frames (pPageEntry m.Table page).Frame)]) rfl ?_ ?_ | refine ar_region tt_ok (inps := []) rfl ?_ ?_); rotate_left; (try dsimp only [c_GiveI, c_PageEntryI, c_PagesOnI, c_SetPageI]); (try refine nrm ?_); rotate_right) | refine ret3 ?_ | refine end3 ?_) | (refine ar_cond rfl trivial ?_ ?_ <;> intro hc_ <;> (try simp only [isNilI, inB, reduceCtorEq, cds] at hc_) <;> (try (first | contradiction | (exfalso; omega)))) | refine ar_until (And.intro ?_ (wk3 ?_)))
  all_goals (first | refine ar_id ?_ | (try (focus ((try refine nrmO ?_); (repeat' (first | exact True.intro | refine And.intro ?_ ?_)); all_goals (try (intro (hg_ : _ = true); (try simp only [isNilI, inB, reduceCtorEq, cds] at hg_); (repeat' (first | exact True.intro | refine And.intro ?_ ?_)))); all_goals (first | exact ob1 | exact fn_PageEntryI _ _ hs.e | exact fn_SetPageI _ _ _ hs.e | exact fn_PagesOnI _ _ hse | exact fn_GiveI _ _ hs.c hs.u hs.r | skip)))))
def c_CountR (k k' : GKernel) (b : Bool) : CFD := ⟨170, [.agg [ro 33 1 eIntS k.Machine.Frames.Cells, ro 4 1 Tr.eB k.Machine.Frames.Used, ro 42 2 eEntry k.Machine.Table.Entries, (CV.lit (.int .i64 (k.Calls))), ro 3 1 Tr.eI k.Refuse]], [], .tup [.agg [.hd 0, .hd 1, .hd 2, (CV.lit (.int .i64 ((k').Calls))), .hd 3], (SV.one (.lit (.bool (b))))], [(0, some (.row 33 1 ((k').Machine.Frames.Cells.map eIntS))), (1, some (.row 4 1 ((k').Machine.Frames.Used.map Tr.eB))), (2, some (.row 42 2 ((k').Machine.Table.Entries.map eEntry))), (3, some (.row 3 1 ((k').Refuse.map Tr.eI)))], [0, 1, 2, 3], []⟩
theorem fn_CountR (k k' : GKernel) (b : Bool) (hs : szK k) (h : pCount k = (k', b)) : Fn Tryz.prog (c_CountR k k' b) := by
  have := fn_Count k hs
  unfold c_Count at this
  rw [h] at this
  exact this
/-- what the calls' tests come to -/
theorem count_no {k : GKernel} (h : ¬ canCall k) : pCount k = (k, false) := by unfold pCount; rw [if_neg h]
theorem count_y {k : GKernel} (h : canCall k) (hg : granted k) : pCount k = (⟨k.Machine, k.Calls + 1, k.Refuse⟩, true) := by unfold pCount; rw [if_pos h, decide_eq_true hg]; rfl
theorem count_n {k : GKernel} (h : canCall k) (hg : ¬ granted k) : pCount k = (⟨k.Machine, k.Calls + 1, k.Refuse⟩, false) := by unfold pCount; rw [if_pos h, decide_eq_false hg]; rfl
end Eng
end Go.Proofs.YtabnglcabpijfaaGreatDoor
namespace Go.Proofs.YtabnglcabpijfaaGreatDoor
open Go.RowKit
set_option linter.unusedVariables false
set_option linter.unusedSimpArgs false
set_option maxRecDepth 100000
namespace Eng
open Tr
theorem used_of {m : GMachine} {page : Int} (hok : okM m) (hm : (pPageEntry m.Table page).Mode ≠ 0) : isUsed m.Frames (pPageEntry m.Table page).Frame := by
  obtain ⟨f, hf, h1, h2, _, _⟩ := okM_entry hok hm
  rw [hf]
  refine ⟨hok.1, ⟨by omega, by omega⟩, ?_⟩
  have h3 := hok.2.2 f h2
  rw [Int.toNat_natCast, h3]
  congr 1
  rw [decide_eq_true_eq]
  unfold pPagesOn
  rw [onFrame_pos]
  by_cases hp : 0 ≤ page ∧ page < m.Table.Entries.length
  · have e : pPageEntry m.Table page = m.Table.Entries.getD page.toNat ⟨0, 0⟩ := by unfold pPageEntry; rw [if_pos hp]
    rw [e] at hm hf
    exact ⟨_, getD_in (by omega), hm, hf⟩
  · unfold pPageEntry at hm; rw [if_neg hp] at hm; exact absurd rfl hm
theorem setP {t : GTable} {page : Int} {e : GEntry} (h : okSet t page e) : pSetPage t page e = (⟨t.Entries.set page.toNat e⟩, true) := by unfold pSetPage; rw [if_pos h]
theorem rem_keep {m : GMachine} {page : Int} {e : GEntry} (hok : okM m) (hm : (pPageEntry m.Table page).Mode ≠ 0) (hs : okSet m.Table page e) (hL : ¬ ((pPagesOn (pSetPage m.Table page e).1 (pPageEntry m.Table page).Frame).length : Int) = 0) :
    Tr.dropped (setEntry m page.toNat e) (pPageEntry m.Table page).Frame.toNat = ⟨m.Frames, ⟨m.Table.Entries.set page.toNat e⟩⟩ := by
  obtain ⟨f, hf, _⟩ := okM_entry hok hm
  rw [hf, setP hs] at hL
  unfold Tr.dropped
  rw [hf, Int.toNat_natCast, if_neg]
  · rfl
  · intro h; exact hL (by exact_mod_cast h)
theorem rem_drop {m : GMachine} {page : Int} {e : GEntry} (hok : okM m) (hm : (pPageEntry m.Table page).Mode ≠ 0) (hs : okSet m.Table page e) (hL : ((pPagesOn (pSetPage m.Table page e).1 (pPageEntry m.Table page).Frame).length : Int) = 0) :
    Tr.dropped (setEntry m page.toNat e) (pPageEntry m.Table page).Frame.toNat = ⟨(pFrameGive m.Frames (pPageEntry m.Table page).Frame).1, ⟨m.Table.Entries.set page.toNat e⟩⟩ := by
  have hG : pFrameGive m.Frames (pPageEntry m.Table page).Frame = (⟨m.Frames.Cells.set (pPageEntry m.Table page).Frame.toNat (List.replicate 16 0), m.Frames.Used.set (pPageEntry m.Table page).Frame.toNat false⟩, true) := by
    unfold pFrameGive; rw [if_pos (used_of hok hm)]
  obtain ⟨f, hf, _⟩ := okM_entry hok hm
  rw [hG]
  rw [hf, setP hs] at hL
  unfold Tr.dropped
  rw [hf, Int.toNat_natCast, if_pos]
  · rfl
  · show (pPagesOn ⟨m.Table.Entries.set page.toNat e⟩ (f : Int)).length = 0; exact_mod_cast hL
def c_KMapOnI (k : GKernel) (page other : Int) : CFD := ⟨165, [.agg [ro 33 1 eIntS k.Machine.Frames.Cells, ro 4 1 Tr.eB k.Machine.Frames.Used, ro 42 2 eEntry k.Machine.Table.Entries, (CV.lit (.int .i64 (k.Calls))), ro 3 1 Tr.eI k.Refuse], (SV.one (.lit (.int .i64 (page)))), (SV.one (.lit (.int .i64 (other))))], [], .tup [.agg [.hd 0, .hd 1, .hd 2, (CV.lit (.int .i64 (((pKMapOn k page other).1).Calls))), .hd 3], (SV.one (.lit (.bool ((pKMapOn k page other).2))))], [(0, some (.row 33 1 (((pKMapOn k page other).1).Machine.Frames.Cells.map eIntS))), (1, some (.row 4 1 (((pKMapOn k page other).1).Machine.Frames.Used.map Tr.eB))), (2, some (.row 42 2 (((pKMapOn k page other).1).Machine.Table.Entries.map eEntry))), (3, some (.row 3 1 (((pKMapOn k page other).1).Refuse.map Tr.eI)))], [0, 1, 2, 3], []⟩
set_option maxHeartbeats 4000000 in
theorem fn_KMapOnI (k : GKernel) (page other : Int) (hs : szK k) : Fn Tryz.prog (c_KMapOnI k page other) := by
  have hse := hs.m.e
  by_cases hC : canCall k
  · have hok : okM k.Machine := hC.1.1
    by_cases hg : granted k
    · have hcn := count_y hC hg
      by_cases hQ : modeOf k page ≠ 0 ∧ modeOf k other ≠ 0 ∧ page ≠ other
      · obtain ⟨h1, h2, h3⟩ := hQ
        have hp := (modeI_in h1).1
        obtain ⟨fo, hfo, _⟩ := okM_entry hok h2
        have hset : okSet k.Machine.Table page ⟨2, (pPageEntry k.Machine.Table other).Frame⟩ := ⟨hp, .inr ⟨.inr rfl, by show 0 ≤ (pPageEntry k.Machine.Table other).Frame; omega⟩⟩
        have hS := setP hset
        unfold modeOf at h1 h2
        by_cases hL : ((pPagesOn (pSetPage k.Machine.Table page ⟨2, (pPageEntry k.Machine.Table other).Frame⟩).1 (pPageEntry k.Machine.Table page).Frame).length : Int) = 0
        · have hV : pKMapOn k page other = (⟨⟨(pFrameGive k.Machine.Frames (pPageEntry k.Machine.Table page).Frame).1, ⟨k.Machine.Table.Entries.set page.toNat ⟨2, (pPageEntry k.Machine.Table other).Frame⟩⟩⟩, k.Calls + 1, k.Refuse⟩, true) := by
            unfold pKMapOn pOn modeOf
            rw [if_pos hC, if_pos ⟨hg, h1, h2, h3⟩, rem_drop hok h1 hset hL]
          refine fn_intro tt_ok Tryz.func165 rfl Tryz.call165 Tryz.ntmps165 Tryz.results165 rfl rfl rfl rfl ?_
          intro X ρ0 hb_ hgl_
          dsimp only [c_KMapOnI]
          try refine nrm ?_
          rw [hV]
          repeat' (refine ar_id ?_; first | refine st1 ?_ | (first | ((first | refine ar_region (id := 1) tt_ok (inps := [.call (c_CountR k ⟨k.Machine, k.Calls + 1, k.Refuse⟩ true)]) rfl ?_ ?_ | refine ar_region (id := 2) tt_ok (inps := [.call (c_PageEntryI k.Machine.Table other)]) rfl ?_ ?_ | refine ar_region (id := 3) tt_ok (inps := [.call (c_PageEntryI k.Machine.Table page), .call (c_isMapped (pPageEntry k.Machine.Table page).Mode (pPageEntry k.Machine.Table page).Frame), .call (c_isMapped (pPageEntry k.Machine.Table other).Mode (pPageEntry k.Machine.Table other).Frame)]) rfl ?_ ?_ | refine ar_region (id := 5) tt_ok (inps := [.call (c_remD k.Machine page ⟨2, (pPageEntry k.Machine.Table other).Frame⟩)]) rfl ?_ ?_ | refine ar_region tt_ok (inps := []) rfl ?_ ?_); rotate_left; (try dsimp only [c_CountR, c_PageEntryI, c_isMapped, c_remD]); (try refine nrm ?_); rotate_right) | refine ret3 ?_ | refine end3 ?_) | (refine ar_cond rfl trivial ?_ ?_ <;> intro hc_ <;> (try simp only [isNilI, inB, reduceCtorEq, cds] at hc_) <;> (try (first | contradiction | (exfalso; omega)))) | refine ar_until (And.intro ?_ (wk3 ?_)))
          all_goals (first | refine ar_id ?_ | (try (focus ((try refine nrmO ?_); (repeat' (first | exact True.intro | refine And.intro ?_ ?_)); all_goals (try (intro (hg_ : _ = true); (try simp only [isNilI, inB, reduceCtorEq, cds] at hg_); (repeat' (first | exact True.intro | refine And.intro ?_ ?_)))); all_goals (first | exact ob1 | exact fn_CountR _ _ _ hs hcn | exact fn_PageEntryI _ _ hse | exact fn_isMapped _ _ | exact fn_remD _ _ _ hs.m hL | skip)))))
          all_goals (try rw [hS])
          all_goals (first | rfl | (exfalso; grind))
        · have hV : pKMapOn k page other = (⟨⟨k.Machine.Frames, ⟨k.Machine.Table.Entries.set page.toNat ⟨2, (pPageEntry k.Machine.Table other).Frame⟩⟩⟩, k.Calls + 1, k.Refuse⟩, true) := by
            unfold pKMapOn pOn modeOf
            rw [if_pos hC, if_pos ⟨hg, h1, h2, h3⟩, rem_keep hok h1 hset hL]
          refine fn_intro tt_ok Tryz.func165 rfl Tryz.call165 Tryz.ntmps165 Tryz.results165 rfl rfl rfl rfl ?_
          intro X ρ0 hb_ hgl_
          dsimp only [c_KMapOnI]
          try refine nrm ?_
          rw [hV]
          repeat' (refine ar_id ?_; first | refine st1 ?_ | (first | ((first | refine ar_region (id := 1) tt_ok (inps := [.call (c_CountR k ⟨k.Machine, k.Calls + 1, k.Refuse⟩ true)]) rfl ?_ ?_ | refine ar_region (id := 2) tt_ok (inps := [.call (c_PageEntryI k.Machine.Table other)]) rfl ?_ ?_ | refine ar_region (id := 3) tt_ok (inps := [.call (c_PageEntryI k.Machine.Table page), .call (c_isMapped (pPageEntry k.Machine.Table page).Mode (pPageEntry k.Machine.Table page).Frame), .call (c_isMapped (pPageEntry k.Machine.Table other).Mode (pPageEntry k.Machine.Table other).Frame)]) rfl ?_ ?_ | refine ar_region (id := 5) tt_ok (inps := [.call (c_remK k.Machine page ⟨2, (pPageEntry k.Machine.Table other).Frame⟩)]) rfl ?_ ?_ | refine ar_region tt_ok (inps := []) rfl ?_ ?_); rotate_left; (try dsimp only [c_CountR, c_PageEntryI, c_isMapped, c_remK]); (try refine nrm ?_); rotate_right) | refine ret3 ?_ | refine end3 ?_) | (refine ar_cond rfl trivial ?_ ?_ <;> intro hc_ <;> (try simp only [isNilI, inB, reduceCtorEq, cds] at hc_) <;> (try (first | contradiction | (exfalso; omega)))) | refine ar_until (And.intro ?_ (wk3 ?_)))
          all_goals (first | refine ar_id ?_ | (try (focus ((try refine nrmO ?_); (repeat' (first | exact True.intro | refine And.intro ?_ ?_)); all_goals (try (intro (hg_ : _ = true); (try simp only [isNilI, inB, reduceCtorEq, cds] at hg_); (repeat' (first | exact True.intro | refine And.intro ?_ ?_)))); all_goals (first | exact ob1 | exact fn_CountR _ _ _ hs hcn | exact fn_PageEntryI _ _ hse | exact fn_isMapped _ _ | exact fn_remK _ _ _ hs.m hL | skip)))))
          all_goals (try rw [hS])
          all_goals (first | rfl | (exfalso; grind))
      · have hV : pKMapOn k page other = (⟨k.Machine, k.Calls + 1, k.Refuse⟩, false) := by unfold pKMapOn pOn; rw [if_pos hC, if_neg (fun h => hQ h.2)]; rfl
        unfold modeOf at hQ
        refine fn_intro tt_ok Tryz.func165 rfl Tryz.call165 Tryz.ntmps165 Tryz.results165 rfl rfl rfl rfl ?_
        intro X ρ0 hb_ hgl_
        dsimp only [c_KMapOnI]
        try refine nrm ?_
        rw [hV]
        repeat' (refine ar_id ?_; first | refine st1 ?_ | (first | ((first | refine ar_region (id := 1) tt_ok (inps := [.call (c_CountR k ⟨k.Machine, k.Calls + 1, k.Refuse⟩ true)]) rfl ?_ ?_ | refine ar_region (id := 2) tt_ok (inps := [.call (c_PageEntryI k.Machine.Table other)]) rfl ?_ ?_ | refine ar_region (id := 3) tt_ok (inps := [.call (c_PageEntryI k.Machine.Table page), .call (c_isMapped (pPageEntry k.Machine.Table page).Mode (pPageEntry k.Machine.Table page).Frame), .call (c_isMapped (pPageEntry k.Machine.Table other).Mode (pPageEntry k.Machine.Table other).Frame)]) rfl ?_ ?_ | refine ar_region tt_ok (inps := []) rfl ?_ ?_); rotate_left; (try dsimp only [c_CountR, c_PageEntryI, c_isMapped]); (try refine nrm ?_); rotate_right) | refine ret3 ?_ | refine end3 ?_) | (refine ar_cond rfl trivial ?_ ?_ <;> intro hc_ <;> (try simp only [isNilI, inB, reduceCtorEq, cds] at hc_) <;> (try (first | contradiction | (exfalso; omega)))) | refine ar_until (And.intro ?_ (wk3 ?_)))
        all_goals (first | refine ar_id ?_ | (try (focus ((try refine nrmO ?_); (repeat' (first | exact True.intro | refine And.intro ?_ ?_)); all_goals (try (intro (hg_ : _ = true); (try simp only [isNilI, inB, reduceCtorEq, cds] at hg_); (repeat' (first | exact True.intro | refine And.intro ?_ ?_)))); all_goals (first | exact ob1 | exact fn_CountR _ _ _ hs hcn | exact fn_PageEntryI _ _ hse | exact fn_isMapped _ _ | skip)))))
        all_goals (first | rfl | (exfalso; grind))
    · have hcn := count_n hC hg
      have hV : pKMapOn k page other = (⟨k.Machine, k.Calls + 1, k.Refuse⟩, false) := by unfold pKMapOn pOn; rw [if_pos hC, if_neg (fun h => hg h.1)]; rfl
      refine fn_intro tt_ok Tryz.func165 rfl Tryz.call165 Tryz.ntmps165 Tryz.results165 rfl rfl rfl rfl ?_
      intro X ρ0 hb_ hgl_
      dsimp only [c_KMapOnI]
      try refine nrm ?_
      rw [hV]
      repeat' (refine ar_id ?_; first | refine st1 ?_ | (first | ((first | refine ar_region (id := 1) tt_ok (inps := [.call (c_CountR k ⟨k.Machine, k.Calls + 1, k.Refuse⟩ false)]) rfl ?_ ?_ | refine ar_region (id := 2) tt_ok (inps := [.call (c_PageEntryI k.Machine.Table other)]) rfl ?_ ?_ | refine ar_region (id := 3) tt_ok (inps := [.skip (SV.one (.lit (.int .i64 (0)))), .skip (SV.one (.lit (.bool (true)))), .skip (SV.one (.lit (.bool (true))))]) rfl ?_ ?_ | refine ar_region tt_ok (inps := []) rfl ?_ ?_); rotate_left; (try dsimp only [c_CountR, c_PageEntryI]); (try refine nrm ?_); rotate_right) | refine ret3 ?_ | refine end3 ?_) | (refine ar_cond rfl trivial ?_ ?_ <;> intro hc_ <;> (try simp only [isNilI, inB, reduceCtorEq, cds] at hc_) <;> (try (first | contradiction | (exfalso; omega)))) | refine ar_until (And.intro ?_ (wk3 ?_)))
      all_goals (first | refine ar_id ?_ | (try (focus ((try refine nrmO ?_); (repeat' (first | exact True.intro | refine And.intro ?_ ?_)); all_goals (try (intro (hg_ : _ = true); (try simp only [isNilI, inB, reduceCtorEq, cds] at hg_); (repeat' (first | exact True.intro | refine And.intro ?_ ?_)))); all_goals (first | exact ob1 | exact fn_CountR _ _ _ hs hcn | exact fn_PageEntryI _ _ hse | skip)))))
      all_goals (first | rfl | (exfalso; grind))
  · have hcn := count_no hC
    have hV : pKMapOn k page other = (k, false) := by unfold pKMapOn; rw [if_neg hC]
    refine fn_intro tt_ok Tryz.func165 rfl Tryz.call165 Tryz.ntmps165 Tryz.results165 rfl rfl rfl rfl ?_
    intro X ρ0 hb_ hgl_
    dsimp only [c_KMapOnI]
    try refine nrm ?_
    rw [hV]
    repeat' (refine ar_id ?_; first | refine st1 ?_ | (first | ((first | refine ar_region (id := 1) tt_ok (inps := [.call (c_CountR k k false)]) rfl ?_ ?_ | refine ar_region (id := 2) tt_ok (inps := [.call (c_PageEntryI k.Machine.Table other)]) rfl ?_ ?_ | refine ar_region (id := 3) tt_ok (inps := [.skip (SV.one (.lit (.int .i64 (0)))), .skip (SV.one (.lit (.bool (true)))), .skip (SV.one (.lit (.bool (true))))]) rfl ?_ ?_ | refine ar_region tt_ok (inps := []) rfl ?_ ?_); rotate_left; (try dsimp only [c_CountR, c_PageEntryI]); (try refine nrm ?_); rotate_right) | refine ret3 ?_ | refine end3 ?_) | (refine ar_cond rfl trivial ?_ ?_ <;> intro hc_ <;> (try simp only [isNilI, inB, reduceCtorEq, cds] at hc_) <;> (try (first | contradiction | (exfalso; omega)))) | refine ar_until (And.intro ?_ (wk3 ?_)))
    all_goals (first | refine ar_id ?_ | (try (focus ((try refine nrmO ?_); (repeat' (first | exact True.intro | refine And.intro ?_ ?_)); all_goals (try (intro (hg_ : _ = true); (try simp only [isNilI, inB, reduceCtorEq, cds] at hg_); (repeat' (first | exact True.intro | refine And.intro ?_ ?_)))); all_goals (first | exact ob1 | exact fn_CountR _ _ _ hs hcn | exact fn_PageEntryI _ _ hse | skip)))))
    all_goals (first | rfl | (exfalso; grind))
theorem self_on {t : GTable} {page : Int} {e : GEntry} (hs : okSet t page e) (he : e.Mode ≠ 0) : ¬ ((pPagesOn (pSetPage t page e).1 e.Frame).length : Int) = 0 := by
  have h : 0 < (pPagesOn (pSetPage t page e).1 e.Frame).length := by
    rw [setP hs]
    unfold pPagesOn
    rw [onFrame_pos]
    exact ⟨e, List.mem_of_getElem? (set_at (by have := hs.1; omega)), he, rfl⟩
  omega
def c_KProtectI (k : GKernel) (page mode : Int) : CFD := ⟨163, [.agg [ro 33 1 eIntS k.Machine.Frames.Cells, ro 4 1 Tr.eB k.Machine.Frames.Used, ro 42 2 eEntry k.Machine.Table.Entries, (CV.lit (.int .i64 (k.Calls))), ro 3 1 Tr.eI k.Refuse], (SV.one (.lit (.int .i64 (page)))), (SV.one (.lit (.int .i64 (mode))))], [], .tup [.agg [.hd 0, .hd 1, .hd 2, (CV.lit (.int .i64 (((pKProtect k page mode).1).Calls))), .hd 3], (SV.one (.lit (.bool ((pKProtect k page mode).2))))], [(0, some (.row 33 1 (((pKProtect k page mode).1).Machine.Frames.Cells.map eIntS))), (1, some (.row 4 1 (((pKProtect k page mode).1).Machine.Frames.Used.map Tr.eB))), (2, some (.row 42 2 (((pKProtect k page mode).1).Machine.Table.Entries.map eEntry))), (3, some (.row 3 1 (((pKProtect k page mode).1).Refuse.map Tr.eI)))], [0, 1, 2, 3], []⟩
set_option maxHeartbeats 4000000 in
theorem fn_KProtectI (k : GKernel) (page mode : Int) (hs : szK k) : Fn Tryz.prog (c_KProtectI k page mode) := by
  have hse := hs.m.e
  by_cases hC : canCall k
  · have hok : okM k.Machine := hC.1.1
    by_cases hg : granted k
    · have hcn := count_y hC hg
      by_cases hQ : modeOf k page ≠ 0 ∧ (1 ≤ mode ∧ mode ≤ 2)
      · obtain ⟨h1, h2⟩ := hQ
        have hp := (modeI_in h1).1
        obtain ⟨fo, hfo, _⟩ := okM_entry hok h1
        have hset : okSet k.Machine.Table page ⟨mode, (pPageEntry k.Machine.Table page).Frame⟩ := ⟨hp, .inr ⟨by show mode = 1 ∨ mode = 2; omega, by show 0 ≤ (pPageEntry k.Machine.Table page).Frame; omega⟩⟩
        have hS := setP hset
        have hL := self_on hset (show mode ≠ 0 by omega)
        unfold modeOf at h1
        have hV : pKProtect k page mode = (⟨⟨k.Machine.Frames, ⟨k.Machine.Table.Entries.set page.toNat ⟨mode, (pPageEntry k.Machine.Table page).Frame⟩⟩⟩, k.Calls + 1, k.Refuse⟩, true) := by
          unfold pKProtect pProtect modeOf
          rw [if_pos hC, if_pos ⟨hg, h1, h2⟩]; rfl
        refine fn_intro tt_ok Tryz.func163 rfl Tryz.call163 Tryz.ntmps163 Tryz.results163 rfl rfl rfl rfl ?_
        intro X ρ0 hb_ hgl_
        dsimp only [c_KProtectI]
        try refine nrm ?_
        rw [hV]
        repeat' (refine ar_id ?_; first | refine st1 ?_ | (first | ((first | refine ar_region (id := 1) tt_ok (inps := [.call (c_CountR k ⟨k.Machine, k.Calls + 1, k.Refuse⟩ true)]) rfl ?_ ?_ | refine ar_region (id := 2) tt_ok (inps := [.call (c_PageEntryI k.Machine.Table page)]) rfl ?_ ?_ | refine ar_region (id := 3) tt_ok (inps := [.call (c_isMapped (pPageEntry k.Machine.Table page).Mode (pPageEntry k.Machine.Table page).Frame)]) rfl ?_ ?_ | refine ar_region (id := 5) tt_ok (inps := [.call (c_remK k.Machine page ⟨mode, (pPageEntry k.Machine.Table page).Frame⟩)]) rfl ?_ ?_ | refine ar_region tt_ok (inps := []) rfl ?_ ?_); rotate_left; (try dsimp only [c_CountR, c_PageEntryI, c_isMapped, c_remK]); (try refine nrm ?_); rotate_right) | refine ret3 ?_ | refine end3 ?_) | (refine ar_cond rfl trivial ?_ ?_ <;> intro hc_ <;> (try simp only [isNilI, inB, reduceCtorEq, cds] at hc_) <;> (try (first | contradiction | (exfalso; omega)))) | refine ar_until (And.intro ?_ (wk3 ?_)))
        all_goals (first | refine ar_id ?_ | (try (focus ((try refine nrmO ?_); (repeat' (first | exact True.intro | refine And.intro ?_ ?_)); all_goals (try (intro (hg_ : _ = true); (try simp only [isNilI, inB, reduceCtorEq, cds] at hg_); (repeat' (first | exact True.intro | refine And.intro ?_ ?_)))); all_goals (first | exact ob1 | exact fn_CountR _ _ _ hs hcn | exact fn_PageEntryI _ _ hse | exact fn_isMapped _ _ | exact fn_remK _ _ _ hs.m hL | skip)))))
        all_goals (try rw [hS])
        all_goals (first | rfl | (exfalso; grind))
      · have hV : pKProtect k page mode = (⟨k.Machine, k.Calls + 1, k.Refuse⟩, false) := by unfold pKProtect pProtect; rw [if_pos hC, if_neg (fun h => hQ h.2)]; rfl
        unfold modeOf at hQ
        refine fn_intro tt_ok Tryz.func163 rfl Tryz.call163 Tryz.ntmps163 Tryz.results163 rfl rfl rfl rfl ?_
        intro X ρ0 hb_ hgl_
        dsimp only [c_KProtectI]
        try refine nrm ?_
        rw [hV]
        repeat' (refine ar_id ?_; first | refine st1 ?_ | (first | ((first | refine ar_region (id := 1) tt_ok (inps := [.call (c_CountR k ⟨k.Machine, k.Calls + 1, k.Refuse⟩ true)]) rfl ?_ ?_ | refine ar_region (id := 2) tt_ok (inps := [.call (c_PageEntryI k.Machine.Table page)]) rfl ?_ ?_ | refine ar_region (id := 3) tt_ok (inps := [.call (c_isMapped (pPageEntry k.Machine.Table page).Mode (pPageEntry k.Machine.Table page).Frame)]) rfl ?_ ?_ | refine ar_region tt_ok (inps := []) rfl ?_ ?_); rotate_left; (try dsimp only [c_CountR, c_PageEntryI, c_isMapped]); (try refine nrm ?_); rotate_right) | refine ret3 ?_ | refine end3 ?_) | (refine ar_cond rfl trivial ?_ ?_ <;> intro hc_ <;> (try simp only [isNilI, inB, reduceCtorEq, cds] at hc_) <;> (try (first | contradiction | (exfalso; omega)))) | refine ar_until (And.intro ?_ (wk3 ?_)))
        all_goals (first | refine ar_id ?_ | (try (focus ((try refine nrmO ?_); (repeat' (first | exact True.intro | refine And.intro ?_ ?_)); all_goals (try (intro (hg_ : _ = true); (try simp only [isNilI, inB, reduceCtorEq, cds] at hg_); (repeat' (first | exact True.intro | refine And.intro ?_ ?_)))); all_goals (first | exact ob1 | exact fn_CountR _ _ _ hs hcn | exact fn_PageEntryI _ _ hse | exact fn_isMapped _ _ | skip)))))
        all_goals (first | rfl | (exfalso; grind))
    · have hcn := count_n hC hg
      have hV : pKProtect k page mode = (⟨k.Machine, k.Calls + 1, k.Refuse⟩, false) := by unfold pKProtect pProtect; rw [if_pos hC, if_neg (fun h => hg h.1)]; rfl
      refine fn_intro tt_ok Tryz.func163 rfl Tryz.call163 Tryz.ntmps163 Tryz.results163 rfl rfl rfl rfl ?_
      intro X ρ0 hb_ hgl_
      dsimp only [c_KProtectI]
      try refine nrm ?_
      rw [hV]
      repeat' (refine ar_id ?_; first | refine st1 ?_ | (first | ((first | refine ar_region (id := 1) tt_ok (inps := [.call (c_CountR k ⟨k.Machine, k.Calls + 1, k.Refuse⟩ false)]) rfl ?_ ?_ | refine ar_region (id := 2) tt_ok (inps := [.call (c_PageEntryI k.Machine.Table page)]) rfl ?_ ?_ | refine ar_region (id := 3) tt_ok (inps := [.skip (SV.one (.lit (.bool (true))))]) rfl ?_ ?_ | refine ar_region tt_ok (inps := []) rfl ?_ ?_); rotate_left; (try dsimp only [c_CountR, c_PageEntryI]); (try refine nrm ?_); rotate_right) | refine ret3 ?_ | refine end3 ?_) | (refine ar_cond rfl trivial ?_ ?_ <;> intro hc_ <;> (try simp only [isNilI, inB, reduceCtorEq, cds] at hc_) <;> (try (first | contradiction | (exfalso; omega)))) | refine ar_until (And.intro ?_ (wk3 ?_)))
      all_goals (first | refine ar_id ?_ | (try (focus ((try refine nrmO ?_); (repeat' (first | exact True.intro | refine And.intro ?_ ?_)); all_goals (try (intro (hg_ : _ = true); (try simp only [isNilI, inB, reduceCtorEq, cds] at hg_); (repeat' (first | exact True.intro | refine And.intro ?_ ?_)))); all_goals (first | exact ob1 | exact fn_CountR _ _ _ hs hcn | exact fn_PageEntryI _ _ hse | skip)))))
      all_goals (first | rfl | (exfalso; grind))
  · have hcn := count_no hC
    have hV : pKProtect k page mode = (k, false) := by unfold pKProtect; rw [if_neg hC]
    refine fn_intro tt_ok Tryz.func163 rfl Tryz.call163 Tryz.ntmps163 Tryz.results163 rfl rfl rfl rfl ?_
    intro X ρ0 hb_ hgl_
    dsimp only [c_KProtectI]
    try refine nrm ?_
    rw [hV]
    repeat' (refine ar_id ?_; first | refine st1 ?_ | (first | ((first | refine ar_region (id := 1) tt_ok (inps := [.call (c_CountR k k false)]) rfl ?_ ?_ | refine ar_region (id := 2) tt_ok (inps := [.call (c_PageEntryI k.Machine.Table page)]) rfl ?_ ?_ | refine ar_region (id := 3) tt_ok (inps := [.skip (SV.one (.lit (.bool (true))))]) rfl ?_ ?_ | refine ar_region tt_ok (inps := []) rfl ?_ ?_); rotate_left; (try dsimp only [c_CountR, c_PageEntryI]); (try refine nrm ?_); rotate_right) | refine ret3 ?_ | refine end3 ?_) | (refine ar_cond rfl trivial ?_ ?_ <;> intro hc_ <;> (try simp only [isNilI, inB, reduceCtorEq, cds] at hc_) <;> (try (first | contradiction | (exfalso; omega)))) | refine ar_until (And.intro ?_ (wk3 ?_)))
    all_goals (first | refine ar_id ?_ | (try (focus ((try refine nrmO ?_); (repeat' (first | exact True.intro | refine And.intro ?_ ?_)); all_goals (try (intro (hg_ : _ = true); (try simp only [isNilI, inB, reduceCtorEq, cds] at hg_); (repeat' (first | exact True.intro | refine And.intro ?_ ?_)))); all_goals (first | exact ob1 | exact fn_CountR _ _ _ hs hcn | exact fn_PageEntryI _ _ hse | skip)))))
    all_goals (first | rfl | (exfalso; grind))
end Eng
end Go.Proofs.YtabnglcabpijfaaGreatDoor
namespace Go.Proofs.YtabnglcabpijfaaGreatDoor
open Go.RowKit
set_option linter.unusedVariables false
set_option linter.unusedSimpArgs false
set_option maxRecDepth 100000
namespace Eng
open Tr
def c_cellEx (x : Int) : CFD := ⟨140, [(SV.one (.lit (.int .i64 (x))))], [], (TV.sv (.one (.lit (.bool (decide (0 ≤ x ∧ x ≤ 15)))))), [], [], []⟩
theorem fn_cellEx (x : Int) : Fn Tryz.prog (c_cellEx x) := by
  refine fn_intro tt_ok Tryz.func140 rfl Tryz.call140 Tryz.ntmps140 Tryz.results140 rfl rfl rfl rfl ?_
  intro X ρ0 hb_ hgl_
  dsimp only [c_cellEx]
  try refine nrm ?_
  repeat' (refine ar_id ?_; first | refine st1 ?_ | (first | ((first | refine ar_region tt_ok (inps := []) rfl ?_ ?_); rotate_left; (try refine nrm ?_); rotate_right) | refine ret3 ?_ | refine end3 ?_) | (refine ar_cond rfl trivial ?_ ?_ <;> intro hc_ <;> (try simp only [isNilI, inB, reduceCtorEq, cds] at hc_) <;> (try (first | contradiction | (exfalso; omega)))) | refine ar_until (And.intro ?_ (wk3 ?_)))
  all_goals (first | refine ar_id ?_ | (try (focus ((try refine nrmO ?_); (repeat' (first | exact True.intro | refine And.intro ?_ ?_)); all_goals (try (intro (hg_ : _ = true); (try simp only [isNilI, inB, reduceCtorEq, cds] at hg_); (repeat' (first | exact True.intro | refine And.intro ?_ ?_)))); all_goals (first | exact ob1 | skip)))))
  exact congrArg Value.bool (by rw [cond_ite, Bool.eq_iff_iff]; split <;> simp_all <;> omega)
def c_cellsEx (l : List Int) : CFD := ⟨172, [.one (ro 3 1 Tr.eI l)], [], (TV.sv (.one (.lit (.bool (decide (∀ c ∈ l, 0 ≤ c ∧ c ≤ 15)))))), [], [], []⟩
theorem fn_cellsEx (l : List Int) (hl : l.length ≤ 1048576) : Fn Tryz.prog (c_cellsEx l) := by
  refine fn_intro tt_ok Tryz.func172 rfl Tryz.call172 Tryz.ntmps172 Tryz.results172 rfl rfl rfl rfl ?_
  intro X ρ0 hb_ hgl_
  dsimp only [c_cellsEx]
  try refine nrm ?_
  repeat' (refine ar_id ?_; first | refine st1 ?_ | (first | ((first | refine ar_region tt_ok (inps := []) rfl ?_ ?_); rotate_left; (try refine nrm ?_); rotate_right) | refine ret3 ?_ | refine end3 ?_) | (refine ar_cond rfl trivial ?_ ?_ <;> intro hc_ <;> (try simp only [isNilI, inB, reduceCtorEq, cds] at hc_) <;> (try (first | contradiction | (exfalso; omega)))) | refine ar_until (And.intro ?_ (wk3 ?_)))
  all_goals (first | refine ar_id ?_ | (try (focus ((try refine nrmO ?_); (repeat' (first | exact True.intro | refine And.intro ?_ ?_)); all_goals (try (intro (hg_ : _ = true); (try simp only [isNilI, inB, reduceCtorEq, cds] at hg_); (repeat' (first | exact True.intro | refine And.intro ?_ ?_)))); all_goals (first | exact ob1 | skip)))))
  refine ar_keep 245 (by dsimp only [keepS] <;> exact rfl) ?_
  refine ar_forM (l.length) (fun i => ∀ c ∈ l.take i, 0 ≤ c ∧ c ≤ 15) (fun i => [(7, (TV.sv (.one (.lit (.int .i64 (i))))))]) (fun i => []) ?_ ?_ ?_
  rotate_left
  · first | trivial | simp
  (dsimp only [rnCap, capSVs, Int.toNat_natCast, ro, Nat.reduceAdd, Nat.reduceMul, Nat.zero_add, List.map, putT, app, wrapG, gOb, argT, keys, slotOf, dropped, gAnd, wB, rnT, rnS, rnC, rnCs, rnSs, rnM, rnB, rnN, rn, lk, St.over, ded, delL, keepT, menT, menSs, menS, menCs, menC, hasN, resT, SV.cells]; refine wk3 ?_; (focus ((try refine nrmO ?_); (repeat' (first | exact True.intro | refine And.intro ?_ ?_)); all_goals (try (intro (hg_ : _ = true); (try simp only [isNilI, inB, reduceCtorEq, cds] at hg_); (repeat' (first | exact True.intro | refine And.intro ?_ ?_)))); all_goals (first | exact ob1 | exact rfl | skip))))
  rotate_right
  intro i hi_ hiI_
  dsimp only [rnCap, capSVs, Int.toNat_natCast, ro, Nat.reduceAdd, Nat.reduceMul, Nat.zero_add, List.map, putT, app, wrapG, gOb, argT, keys, slotOf, dropped, gAnd, wB, rnT, rnS, rnC, rnCs, rnSs, rnM, rnB, rnN, rn, lk, St.over, ded, delL, keepT, menT, menSs, menS, menCs, menC, hasN, resT, SV.cells]
  repeat' (refine ar_id ?_; first | refine st1 ?_ | (first | ((first | refine ar_region (id := 3) tt_ok (inps := [.elem (Tr.eI (l.getD i 0))]) rfl ?_ ?_ | refine ar_region (id := 4) tt_ok (inps := [.call (c_cellEx (l.getD i 0))]) rfl ?_ ?_ | refine ar_region tt_ok (inps := []) rfl ?_ ?_); rotate_left; (try dsimp only [c_cellEx]); (try refine nrm ?_); rotate_right) | refine ret3 ?_ | refine end3 ?_) | (refine ar_cond rfl trivial ?_ ?_ <;> intro hc_ <;> (try simp only [isNilI, inB, reduceCtorEq, cds] at hc_) <;> (try (first | contradiction | (exfalso; omega)))) | refine ar_until (And.intro ?_ (wk3 ?_)))
  all_goals (first | refine ar_id ?_ | (try (focus ((try refine nrmO ?_); (repeat' (first | exact True.intro | refine And.intro ?_ ?_)); all_goals (try (intro (hg_ : _ = true); (try simp only [isNilI, inB, reduceCtorEq, cds] at hg_); (repeat' (first | exact True.intro | refine And.intro ?_ ?_)))); all_goals (first | exact ob1 | exact fn_cellEx _ | skip)))))
  · exact bf fun h => hc_ (h _ (getD_in (by omega)))
  · exact all_take (p := fun c => 0 ≤ c ∧ c ≤ 15) (d := 0) hiI_ (by omega) hc_
  · exact bt (all_full (p := fun c => 0 ≤ c ∧ c ≤ 15) hiI_ (by omega))
/-- some cells of a row copied into another -/
def cpRow (src row : List Int) (l : List Int) : List Int := l.foldl (fun r c => r.set c.toNat (src.getD c.toNat 0)) row
theorem cpRow_snoc (src row l : List Int) (c : Int) : cpRow src row (l ++ [c]) = (cpRow src row l).set c.toNat (src.getD c.toNat 0) := by unfold cpRow; rw [List.foldl_append]; rfl
theorem cpRow_len (src : List Int) : ∀ (l row : List Int), (cpRow src row l).length = row.length
  | [], _ => rfl
  | c :: l, row => (cpRow_len src l _).trans List.length_set
theorem set_same (row : List Int) (n : Nat) : row.set n (row.getD n 0) = row := by
  refine List.ext_getElem? fun j => ?_
  rw [List.getElem?_set]
  split
  · rename_i h
    subst h
    split
    · rename_i h; exact (getD_at h).symm
    · rename_i h; rw [List.getElem?_eq_none (by omega)]
  · rfl
theorem cpRow_self (row : List Int) : ∀ (l : List Int), cpRow row row l = row
  | [] => rfl
  | c :: l => by
    show cpRow row (row.set c.toNat (row.getD c.toNat 0)) l = row
    rw [set_same]; exact cpRow_self row l
theorem copied_snocI (a b : Int) (c : Int) : ∀ (l : List Int) (m : GMachine), copied m a b (l ++ [c]) = setCellOf (copied m a b l) b c (cellOf (copied m a b l) a c)
  | [], m => rfl
  | x :: l, m => copied_snocI a b c l _
theorem list_rev {α : Type} {p : List α → Prop} (h0 : p []) (h1 : ∀ l x, p l → p (l ++ [x])) (l : List α) : p l := by
  have : ∀ n (l : List α), l.length = n → p l := by
    intro n
    induction n with
    | zero => intro l hl; rw [List.length_eq_zero_iff.1 hl]; exact h0
    | succ n ih =>
      intro l hl
      have hne : l ≠ [] := fun e => by rw [e] at hl; cases hl
      rw [← List.dropLast_concat_getLast hne]
      exact h1 _ _ (ih _ (by rw [List.length_dropLast]; omega))
  exact this _ l rfl
theorem copied_row (m : GMachine) (f g : Nat) (hg : g < m.Frames.Cells.length) (l : List Int) : copied m f g l = ⟨⟨m.Frames.Cells.set g (cpRow (m.Frames.Cells.getD f []) (m.Frames.Cells.getD g []) l), m.Frames.Used⟩, m.Table⟩ := by
  induction l using list_rev with
  | h0 =>
    have e : m.Frames.Cells.set g (m.Frames.Cells.getD g []) = m.Frames.Cells := by
      refine List.ext_getElem? fun j => ?_
      rw [List.getElem?_set]
      split
      · rename_i h; subst h; first | exact (getD_at hg).symm | (rw [if_pos hg]; exact (getD_at hg).symm)
      · rfl
    show m = _
    unfold cpRow
    rw [List.foldl_nil, e]
  | h1 l c ih =>
    rw [copied_snocI, ih, cpRow_snoc]
    have e1 : (m.Frames.Cells.set g (cpRow (m.Frames.Cells.getD f []) (m.Frames.Cells.getD g []) l)).getD g [] = cpRow (m.Frames.Cells.getD f []) (m.Frames.Cells.getD g []) l := by
      rw [List.getD_eq_getElem?_getD, List.getElem?_set_self hg]; rfl
    have e2 : ((m.Frames.Cells.set g (cpRow (m.Frames.Cells.getD f []) (m.Frames.Cells.getD g []) l)).getD f []).getD c.toNat 0 = (m.Frames.Cells.getD f []).getD c.toNat 0 := by
      by_cases h : f = g
      · subst h; rw [e1, cpRow_self]
      · have e3 : (m.Frames.Cells.set g (cpRow (m.Frames.Cells.getD f []) (m.Frames.Cells.getD g []) l)).getD f [] = m.Frames.Cells.getD f [] := by
          rw [List.getD_eq_getElem?_getD (l := m.Frames.Cells.set g _), List.getElem?_set_ne (Ne.symm h), ← List.getD_eq_getElem?_getD]
        rw [e3]
    unfold setCellOf cellOf
    simp only [Int.toNat_natCast, e1, e2, List.set_set]
def c_PEntR (t : GTable) (page md fr : Int) : CFD := ⟨126, [.agg [ro 42 2 eEntry t.Entries], (SV.one (.lit (.int .i64 (page))))], [], .sv (.agg [(CV.lit (.int .i64 (md))), (CV.lit (.int .i64 (fr)))]), [], [], []⟩
theorem fn_PEntR (t : GTable) (page md fr : Int) (hl : t.Entries.length ≤ 1048576) (h1 : (pPageEntry t page).Mode = md) (h2 : (pPageEntry t page).Frame = fr) : Fn Tryz.prog (c_PEntR t page md fr) := by
  subst h1 h2; exact fn_PageEntryI t page hl
theorem cp_at {src row l : List Int} {c : Int} (h : 0 ≤ c ∧ c ≤ 15) (hr : row.length = 16) : c.toNat < (cpRow src row l).length := by rw [cpRow_len]; omega
def c_KCopyI (k : GKernel) (a b : Int) (cells : List Int) : CFD := ⟨164, [.agg [ro 33 1 eIntS k.Machine.Frames.Cells, ro 4 1 Tr.eB k.Machine.Frames.Used, ro 42 2 eEntry k.Machine.Table.Entries, (CV.lit (.int .i64 (k.Calls))), ro 3 1 Tr.eI k.Refuse], (SV.one (.lit (.int .i64 (a)))), (SV.one (.lit (.int .i64 (b)))), .one (ro 3 1 Tr.eI cells)], [], .tup [.agg [.hd 0, .hd 1, .hd 2, (CV.lit (.int .i64 (((pKCopy k a b cells).1).Calls))), .hd 3], (SV.one (.lit (.bool ((pKCopy k a b cells).2))))], [(0, some (.row 33 1 (((pKCopy k a b cells).1).Machine.Frames.Cells.map eIntS))), (1, some (.row 4 1 (((pKCopy k a b cells).1).Machine.Frames.Used.map Tr.eB))), (2, some (.row 42 2 (((pKCopy k a b cells).1).Machine.Table.Entries.map eEntry))), (3, some (.row 3 1 (((pKCopy k a b cells).1).Refuse.map Tr.eI)))], [0, 1, 2, 3], []⟩
set_option maxHeartbeats 4000000 in
theorem fn_KCopyI (k : GKernel) (a b : Int) (cells : List Int) (hs : szK k) (hl : cells.length ≤ 1048576) : Fn Tryz.prog (c_KCopyI k a b cells) := by
  have hse := hs.m.e
  by_cases hQ : canCall k ∧ (modeOf k a ≠ 0 ∧ modeOf k b ≠ 0) ∧ (∀ c ∈ cells, 0 ≤ c ∧ c ≤ 15)
  · obtain ⟨hC, ⟨h1, h2⟩, h3⟩ := hQ
    have hok : okM k.Machine := hC.1.1
    obtain ⟨f, hf, hf1, _, hf3, _⟩ := okM_entry hok h1
    obtain ⟨g, hg, hg1, _, hg3, _⟩ := okM_entry hok h2
    unfold modeOf at h1 h2
    have hV : pKCopy k a b cells = (⟨⟨⟨k.Machine.Frames.Cells.set g (cpRow (k.Machine.Frames.Cells.getD f []) (k.Machine.Frames.Cells.getD g []) cells), k.Machine.Frames.Used⟩, k.Machine.Table⟩, k.Calls, k.Refuse⟩, true) := by
      unfold pKCopy pCells modeOf
      rw [if_pos hC, if_pos ⟨⟨h1, h2⟩, h3⟩, hf, hg, copied_row _ _ _ hg1]
    refine fn_intro tt_ok Tryz.func164 rfl Tryz.call164 Tryz.ntmps164 Tryz.results164 rfl rfl rfl rfl ?_
    intro X ρ0 hb_ hgl_
    dsimp only [c_KCopyI]
    try refine nrm ?_
    rw [hV]
    repeat' (refine ar_id ?_; first | refine st1 ?_ | (first | ((first | refine ar_region (id := 1) tt_ok (inps := [.call (c_CopyKI k)]) rfl ?_ ?_ | refine ar_draw (id := 2) (inps := [.call (c_PEntR k.Machine.Table a (pPageEntry k.Machine.Table a).Mode f), .call (c_PEntR k.Machine.Table b (pPageEntry k.Machine.Table b).Mode g)]) tt_ok (by kernel_rfl) rfl rfl (by kernel_rfl) rfl rfl rfl rfl ?_ ?_ | refine ar_region (id := 3) tt_ok (inps := [.call (c_takes k), .call (c_isMapped (pPageEntry k.Machine.Table a).Mode f), .call (c_isMapped (pPageEntry k.Machine.Table b).Mode g), .call (c_cellsEx cells)]) rfl ?_ ?_ | refine ar_region tt_ok (inps := []) rfl ?_ ?_); rotate_left; (try dsimp only [c_CopyKI, c_PEntR, c_cellsEx, c_isMapped, c_takes]); (try refine nrm ?_); rotate_right) | refine ret3 ?_ | refine end3 ?_) | (refine ar_cond rfl trivial ?_ ?_ <;> intro hc_ <;> (try simp only [isNilI, inB, reduceCtorEq, cds] at hc_) <;> (try (first | contradiction | (exfalso; omega)))) | refine ar_until (And.intro ?_ (wk3 ?_)))
    all_goals (first | refine ar_id ?_ | (try (focus ((try refine nrmO ?_); (repeat' (first | exact True.intro | refine And.intro ?_ ?_)); all_goals (try (intro (hg_ : _ = true); (try simp only [isNilI, inB, reduceCtorEq, cds] at hg_); (repeat' (first | exact True.intro | refine And.intro ?_ ?_)))); all_goals (first | exact ob1 | exact fn_CopyKI _ hs | exact fn_takes _ hs | exact fn_PEntR _ _ _ _ hse rfl hf | exact fn_PEntR _ _ _ _ hse rfl hg | exact fn_isMapped _ _ | exact fn_cellsEx _ hl | skip)))))
    · exfalso; grind
    · exfalso; grind
    refine ar_keep 492581209267999 (by dsimp only [keepS] <;> exact rfl) ?_
    refine ar_forM (cells.length) (fun i => True) (fun i => [(48, (TV.sv (.one (.lit (.int .i64 (i))))))]) (fun i => [(17000, some (.row 33 1 ((k.Machine.Frames.Cells.map eIntS).set g (eIntS (cpRow (k.Machine.Frames.Cells.getD f []) (k.Machine.Frames.Cells.getD g []) (cells.take i))))))]) ?_ ?_ ?_
    rotate_left
    · first | trivial | simp
    (dsimp only [rnCap, capSVs, Int.toNat_natCast, ro, Nat.reduceAdd, Nat.reduceMul, Nat.zero_add, List.map, putT, app, wrapG, gOb, argT, keys, slotOf, dropped, gAnd, wB, rnT, rnS, rnC, rnCs, rnSs, rnM, rnB, rnN, rn, lk, St.over, ded, delL, keepT, menT, menSs, menS, menCs, menC, hasN, resT, SV.cells]; refine wk3 ?_; (focus ((try refine nrmO ?_); (repeat' (first | exact True.intro | refine And.intro ?_ ?_)); all_goals (try (intro (hg_ : _ = true); (try simp only [isNilI, inB, reduceCtorEq, cds] at hg_); (repeat' (first | exact True.intro | refine And.intro ?_ ?_)))); all_goals (first | exact ob1 | exact rfl | skip))))
    rotate_right
    intro i hi_ hiI_
    dsimp only [rnCap, capSVs, Int.toNat_natCast, ro, Nat.reduceAdd, Nat.reduceMul, Nat.zero_add, List.map, putT, app, wrapG, gOb, argT, keys, slotOf, dropped, gAnd, wB, rnT, rnS, rnC, rnCs, rnSs, rnM, rnB, rnN, rn, lk, St.over, ded, delL, keepT, menT, menSs, menS, menCs, menC, hasN, resT, SV.cells]
    repeat' (refine ar_id ?_; first | refine st1 ?_ | (first | ((first | refine ar_region (id := 7) tt_ok (inps := [.elem (Tr.eI (cells.getD i 0))]) rfl ?_ ?_ | refine ar_region tt_ok (inps := []) rfl ?_ ?_); rotate_left; (try refine nrm ?_); rotate_right) | refine ret3 ?_ | refine end3 ?_) | (refine ar_cond rfl trivial ?_ ?_ <;> intro hc_ <;> (try simp only [isNilI, inB, reduceCtorEq, cds] at hc_) <;> (try (first | contradiction | (exfalso; omega)))) | refine ar_until (And.intro ?_ (wk3 ?_)))
    all_goals (first | refine ar_id ?_ | (try (focus ((try refine nrmO ?_); (repeat' (first | exact True.intro | refine And.intro ?_ ?_)); all_goals (try (intro (hg_ : _ = true); (try simp only [isNilI, inB, reduceCtorEq, cds] at hg_); (repeat' (first | exact True.intro | refine And.intro ?_ ?_)))); all_goals (first | exact ob1 | skip)))))
    · have hc := h3 _ (getD_in (l := cells) (i := i) (d := 0) (by omega))
      have hcl := cp_at (src := k.Machine.Frames.Cells.getD f []) (l := cells.take i) hc hg3
      refine ar_open 17000 g 0 90001 90002 (d := eIntS (cpRow (k.Machine.Frames.Cells.getD f []) (k.Machine.Frames.Cells.getD g []) (cells.take i))) ((cpRow (k.Machine.Frames.Cells.getD f []) (k.Machine.Frames.Cells.getD g []) (cells.take i)).map eI) rfl ?_ rfl ?_ rfl rfl rfl ?_
      · first | exact map_at (by omega) | assumption | exact set_at (by (try simp only [List.length_map, List.length_set]); omega) | (rw [List.getElem?_set_ne (by omega)]; exact map_at (by omega))
      · exact ⟨rfl, rfl, by intro e he; simp only [List.mem_map] at he; obtain ⟨_, _, rfl⟩ := he; rfl⟩
      intro A_90001 n_90001 c_90001
      try refine nrm ?_
      refine ar_draw (id := 8) (inps := [ .nest (.lit (Value.slice A_90001 n_90001 c_90001) .nil) [(0, 90002)], .elem (eIntS (k.Machine.Frames.Cells.getD f [])), .elem (eI ((k.Machine.Frames.Cells.getD f []).getD (cells.getD i 0).toNat 0)), .elem (eI ((cpRow (k.Machine.Frames.Cells.getD f []) (k.Machine.Frames.Cells.getD g []) (cells.take i)).getD (cells.getD i 0).toNat 0))]) tt_ok (by kernel_rfl) rfl rfl (by kernel_rfl) rfl rfl rfl rfl ?_ ?_
      rotate_left
      (try refine nrm ?_)
      refine ar_close 17000 g 0 90001 90002 rfl rfl rfl (set_at ?_) rfl rfl rfl ?_
      · (simp only [List.length_map, List.length_set]; omega)
      try refine nrm ?_
      repeat' (refine ar_id ?_; first | refine st1 ?_ | (first | ((first | refine ar_region tt_ok (inps := []) rfl ?_ ?_); rotate_left; (try refine nrm ?_); rotate_right) | refine ret3 ?_ | refine end3 ?_) | (refine ar_cond rfl trivial ?_ ?_ <;> intro hc_ <;> (try simp only [isNilI, inB, reduceCtorEq, cds] at hc_) <;> (try (first | contradiction | (exfalso; omega)))) | refine ar_until (And.intro ?_ (wk3 ?_)))
      all_goals (first | refine ar_id ?_ | (try (focus ((try refine nrmO ?_); (repeat' (first | exact True.intro | refine And.intro ?_ ?_)); all_goals (try (intro (hg_ : _ = true); (try simp only [isNilI, inB, reduceCtorEq, cds] at hg_); (repeat' (first | exact True.intro | refine And.intro ?_ ?_)))); all_goals (first | exact ob1 | skip)))))
      all_goals (try (focus ((try refine nrmO ?_); (repeat' (first | exact True.intro | refine And.intro ?_ ?_)); all_goals (try (intro (hg_ : _ = true); (try simp only [isNilI, inB, reduceCtorEq, cds] at hg_); (repeat' (first | exact True.intro | refine And.intro ?_ ?_)))); all_goals (first | exact ob1 | skip))))
      have hset : ∀ (R : List Int) (n : Nat) (o v : Int), (R.map eI).set n (dPut (eI o) 0 (D.lit (.int .i64 v) .nil)) = (R.set n v).map eI := fun R n o v => List.map_set.symm
      rw [hset, List.set_set, List.set_set, take_getD cells 0 (by omega), cpRow_snoc]
      rfl
    · rw [List.take_of_length_le (by omega)]; exact List.map_set.symm
    · rw [List.take_zero]
      show k.Machine.Frames.Cells.map eIntS = (k.Machine.Frames.Cells.map eIntS).set g (eIntS (k.Machine.Frames.Cells.getD g []))
      rw [← List.map_set]
      congr 1
      refine List.ext_getElem? fun j => ?_
      rw [List.getElem?_set]
      split
      · rename_i h; subst h; first | exact getD_at hg1 | (rw [if_pos hg1]; exact getD_at hg1)
      · rfl
  · have hV : pKCopy k a b cells = (k, false) := by
      unfold pKCopy pCells
      by_cases hC : canCall k
      · rw [if_pos hC, if_neg (fun h => hQ ⟨hC, h⟩)]
      · rw [if_neg hC]
    unfold modeOf at hQ
    refine fn_intro tt_ok Tryz.func164 rfl Tryz.call164 Tryz.ntmps164 Tryz.results164 rfl rfl rfl rfl ?_
    intro X ρ0 hb_ hgl_
    dsimp only [c_KCopyI]
    try refine nrm ?_
    rw [hV]
    repeat' (refine ar_id ?_; first | refine st1 ?_ | (first | ((first | refine ar_region (id := 1) tt_ok (inps := [.call (c_CopyKI k)]) rfl ?_ ?_ | refine ar_draw (id := 2) (inps := [.call (c_PageEntryI k.Machine.Table a), .call (c_PageEntryI k.Machine.Table b)]) tt_ok (by kernel_rfl) rfl rfl (by kernel_rfl) rfl rfl rfl rfl ?_ ?_ | refine ar_region (id := 3) tt_ok (inps := [.call (c_takes k), .call (c_isMapped (pPageEntry k.Machine.Table a).Mode (pPageEntry k.Machine.Table a).Frame), .call (c_isMapped (pPageEntry k.Machine.Table b).Mode (pPageEntry k.Machine.Table b).Frame), .call (c_cellsEx cells)]) rfl ?_ ?_ | refine ar_region tt_ok (inps := []) rfl ?_ ?_); rotate_left; (try dsimp only [c_CopyKI, c_PageEntryI, c_cellsEx, c_isMapped, c_takes]); (try refine nrm ?_); rotate_right) | refine ret3 ?_ | refine end3 ?_) | (refine ar_cond rfl trivial ?_ ?_ <;> intro hc_ <;> (try simp only [isNilI, inB, reduceCtorEq, cds] at hc_) <;> (try (first | contradiction | (exfalso; omega)))) | refine ar_until (And.intro ?_ (wk3 ?_)))
    all_goals (first | refine ar_id ?_ | (try (focus ((try refine nrmO ?_); (repeat' (first | exact True.intro | refine And.intro ?_ ?_)); all_goals (try (intro (hg_ : _ = true); (try simp only [isNilI, inB, reduceCtorEq, cds] at hg_); (repeat' (first | exact True.intro | refine And.intro ?_ ?_)))); all_goals (first | exact ob1 | exact fn_CopyKI _ hs | exact fn_takes _ hs | exact fn_PageEntryI _ _ hse | exact fn_isMapped _ _ | exact fn_cellsEx _ hl | skip)))))
    all_goals (first | rfl | (exfalso; grind))
end Eng
end Go.Proofs.YtabnglcabpijfaaGreatDoor
namespace Go.Proofs.YtabnglcabpijfaaGreatDoor
open Go.RowKit
set_option linter.unusedVariables false
set_option linter.unusedSimpArgs false
set_option maxRecDepth 100000
namespace Eng
open Tr
theorem szM_from {m : GMachine} (h : szM7 m) : szM m := ⟨h.c, h.u, h.r, h.e⟩
theorem szK_from {k : GKernel} (h : szK8 k) : szK k := ⟨szM_from h.m, h.r⟩
def c_KProR (k : GKernel) (page mode : Int) (k' : GKernel) (b : Bool) : CFD := ⟨163, [.agg [ro 33 1 eIntS k.Machine.Frames.Cells, ro 4 1 Tr.eB k.Machine.Frames.Used, ro 42 2 eEntry k.Machine.Table.Entries, (CV.lit (.int .i64 (k.Calls))), ro 3 1 Tr.eI k.Refuse], (SV.one (.lit (.int .i64 (page)))), (SV.one (.lit (.int .i64 (mode))))], [], .tup [.agg [.hd 0, .hd 1, .hd 2, (CV.lit (.int .i64 ((k').Calls))), .hd 3], (SV.one (.lit (.bool (b))))], [(0, some (.row 33 1 ((k').Machine.Frames.Cells.map eIntS))), (1, some (.row 4 1 ((k').Machine.Frames.Used.map Tr.eB))), (2, some (.row 42 2 ((k').Machine.Table.Entries.map eEntry))), (3, some (.row 3 1 ((k').Refuse.map Tr.eI)))], [0, 1, 2, 3], []⟩
theorem fn_KProR (k : GKernel) (page mode : Int) (k' : GKernel) (b : Bool) (hs : szK8 k) (hc : canCall k) (h : pProtect k page mode = (k', b)) : Fn Tryz.prog (c_KProR k page mode k' b) := by
  have := fn_KProtectI k page mode (szK_from hs)
  unfold c_KProtectI pKProtect at this
  rw [if_pos hc, h] at this
  exact this
def c_KOnR (k : GKernel) (page other : Int) (k' : GKernel) (b : Bool) : CFD := ⟨165, [.agg [ro 33 1 eIntS k.Machine.Frames.Cells, ro 4 1 Tr.eB k.Machine.Frames.Used, ro 42 2 eEntry k.Machine.Table.Entries, (CV.lit (.int .i64 (k.Calls))), ro 3 1 Tr.eI k.Refuse], (SV.one (.lit (.int .i64 (page)))), (SV.one (.lit (.int .i64 (other))))], [], .tup [.agg [.hd 0, .hd 1, .hd 2, (CV.lit (.int .i64 ((k').Calls))), .hd 3], (SV.one (.lit (.bool (b))))], [(0, some (.row 33 1 ((k').Machine.Frames.Cells.map eIntS))), (1, some (.row 4 1 ((k').Machine.Frames.Used.map Tr.eB))), (2, some (.row 42 2 ((k').Machine.Table.Entries.map eEntry))), (3, some (.row 3 1 ((k').Refuse.map Tr.eI)))], [0, 1, 2, 3], []⟩
theorem fn_KOnR (k : GKernel) (page other : Int) (k' : GKernel) (b : Bool) (hs : szK8 k) (hc : canCall k) (h : pOn k page other = (k', b)) : Fn Tryz.prog (c_KOnR k page other k' b) := by
  have := fn_KMapOnI k page other (szK_from hs)
  unfold c_KMapOnI pKMapOn at this
  rw [if_pos hc, h] at this
  exact this
def c_KCopR (k : GKernel) (a b : Int) (cells : List Int) (k' : GKernel) (r : Bool) : CFD := ⟨164, [.agg [ro 33 1 eIntS k.Machine.Frames.Cells, ro 4 1 Tr.eB k.Machine.Frames.Used, ro 42 2 eEntry k.Machine.Table.Entries, (CV.lit (.int .i64 (k.Calls))), ro 3 1 Tr.eI k.Refuse], (SV.one (.lit (.int .i64 (a)))), (SV.one (.lit (.int .i64 (b)))), .one (ro 3 1 Tr.eI cells)], [], .tup [.agg [.hd 0, .hd 1, .hd 2, (CV.lit (.int .i64 ((k').Calls))), .hd 3], (SV.one (.lit (.bool (r))))], [(0, some (.row 33 1 ((k').Machine.Frames.Cells.map eIntS))), (1, some (.row 4 1 ((k').Machine.Frames.Used.map Tr.eB))), (2, some (.row 42 2 ((k').Machine.Table.Entries.map eEntry))), (3, some (.row 3 1 ((k').Refuse.map Tr.eI)))], [0, 1, 2, 3], []⟩
theorem fn_KCopR (k : GKernel) (a b : Int) (cells : List Int) (k' : GKernel) (r : Bool) (hs : szK8 k) (hl : cells.length ≤ 1048576) (hc : canCall k) (h : pCells k a b cells = (k', r)) : Fn Tryz.prog (c_KCopR k a b cells k' r) := by
  have := fn_KCopyI k a b cells (szK_from hs) hl
  unfold c_KCopyI pKCopy at this
  rw [if_pos hc, h] at this
  exact this
def c_StoR (s : Se) (m : GMachine) (addr v : Int) (m' : GMachine) (x : Int) : CFD := ⟨55, [.agg [ro 33 1 eIntS m.Frames.Cells, ro 4 1 Tr.eB m.Frames.Used, ro 42 2 eEntry m.Table.Entries], (SV.one (.lit (.int .i64 (addr)))), (SV.one (.lit (.int .i64 (v))))], [], .tup [.agg [.hd 0, .hd 1, .hd 2], (SV.one (.lit (.int .i64 (x))))], [(0, some (.row 33 1 ((m').Frames.Cells.map eIntS))), (1, some (.row 4 1 ((m').Frames.Used.map Tr.eB))), (2, some (.row 42 2 ((m').Table.Entries.map eEntry)))], [0, 1, 2], s.gl⟩
theorem fn_StoR (s : Se) (m : GMachine) (addr v : Int) (m' : GMachine) (x : Int) (hs : szM7 m) (ha : okI addr) (h : pStore m addr v = (m', x)) : Fn Tryz.prog (c_StoR s m addr v m' x) := by
  have := fn_StoreI s m addr v (szM_from hs) ha
  unfold c_StoreI at this
  rw [h] at this
  exact this
def c_can (k : GKernel) (j : GJob) : CFD := ⟨88, [.agg [ro 33 1 eIntS k.Machine.Frames.Cells, ro 4 1 Tr.eB k.Machine.Frames.Used, ro 42 2 eEntry k.Machine.Table.Entries, (CV.lit (.int .i64 (k.Calls))), ro 3 1 Tr.eI k.Refuse], .agg [(CV.lit (.int .i64 (j.Plan.Keep))), (CV.lit (.int .i64 (j.Plan.Move))), ro 3 1 Tr.eI j.Plan.Cells, (CV.lit (.int .i64 (j.Phase))), (CV.lit (.int .i64 (j.Next)))]], [], (TV.sv (.one (.lit (.bool (decide (mayJ k j)))))), [], [], []⟩
theorem fn_can (k : GKernel) (j : GJob) (hs : szK8 k) (hl : j.Plan.Cells.length ≤ 1048576) : Fn Tryz.prog (c_can k j) := by
  have hF := hs.m.e
  refine fn_intro tt_ok Tryz.func88 rfl Tryz.call88 Tryz.ntmps88 Tryz.results88 rfl rfl rfl rfl ?_
  intro X ρ0 hb_ hgl_
  dsimp only [c_can]
  try refine nrm ?_
  repeat' (refine ar_id ?_; first | refine st1 ?_ | (refine ar_drawS (id := 1) tt_ok (by kernel_rfl) [.call (c_PageEntryI k.Machine.Table j.Plan.Keep), .call (c_PageEntryI k.Machine.Table j.Plan.Move)] ?_; refine ed_hide ?_; intro K_ hK_; repeat' (first | ((first | refine ed_call3 ?_ | refine ed_sure3 ?_ | refine ed_cons3 ?_); refine ed_hide ?_; intro K_ hK_; (try dsimp only [c_JobOkI, c_PageEntryI, c_isMapped, c_takes]); (try refine nrmE ?_)) | (refine ed_nil ?_; (repeat subst hK_); dsimp only; refine Exists.intro _ (And.intro rfl (And.intro (by kernel_rfl) (And.intro ?_ ?_))); rotate_left; (try dsimp only [c_JobOkI, c_PageEntryI, c_isMapped, c_takes]); (try refine nrm ?_); rotate_right))) | (first | ((first | refine ar_region (id := 2) tt_ok (inps := [.call (c_takes k), .call (c_JobOkI j), .call (c_isMapped (pPageEntry k.Machine.Table j.Plan.Keep).Mode (pPageEntry k.Machine.Table j.Plan.Keep).Frame), .call (c_isMapped (pPageEntry k.Machine.Table j.Plan.Move).Mode (pPageEntry k.Machine.Table j.Plan.Move).Frame)]) rfl ?_ ?_ | refine ar_region tt_ok (inps := []) rfl ?_ ?_); rotate_left; (try dsimp only [c_JobOkI, c_PageEntryI, c_isMapped, c_takes]); (try refine nrm ?_); rotate_right) | refine ret3 ?_ | refine end3 ?_) | (refine ar_cond rfl trivial ?_ ?_ <;> intro hc_ <;> (try simp only [isNilI, inB, reduceCtorEq, cds] at hc_) <;> (try (first | contradiction | (exfalso; omega)))) | refine ar_until (And.intro ?_ (wk3 ?_)))
  all_goals (first | refine ar_id ?_ | (try (focus ((try refine nrmO ?_); (repeat' (first | exact True.intro | refine And.intro ?_ ?_)); all_goals (try (intro (hg_ : _ = true); (try simp only [isNilI, inB, reduceCtorEq, cds] at hg_); (repeat' (first | exact True.intro | refine And.intro ?_ ?_)))); all_goals (first | exact ob1 | exact fn_PageEntryI _ _ hF | exact fn_takes k (szK_from hs) | exact fn_JobOkI j hl | exact fn_isMapped _ _ | skip)))))
  refine congrArg Value.bool ?_
  rw [Bool.eq_iff_iff, decide_eq_true_iff]
  simp only [Bool.cond_false_right, Bool.and_eq_true, decide_eq_true_eq, bne_iff_ne, pJobOk]
  exact ⟨fun h => ⟨h.1.1.1.1, h.1.1.1.2, h.1.1.2, h.1.2, h.2⟩, fun h => ⟨⟨⟨⟨h.1, h.2.1⟩, h.2.2.1⟩, h.2.2.2.1⟩, h.2.2.2.2⟩⟩
def c_phases : CFD := ⟨89, [], [], .sv (.agg [.lit (.func (.func 129) #[] #[]), .lit (.func (.func 130) #[] #[]), .lit (.func (.func 131) #[] #[]), .lit (.func (.func 132) #[] #[]), .lit (.func (.func 133) #[] #[]), .lit (.func (.func 133) #[] #[])]), [], [], []⟩
theorem fn_phases : Fn Tryz.prog c_phases := by
  refine fn_intro tt_ok Tryz.func89 rfl Tryz.call89 Tryz.ntmps89 Tryz.results89 rfl rfl rfl rfl ?_
  intro X ρ0 hb_ hgl_
  dsimp only [c_phases]
  try refine nrm ?_
  repeat' (refine ar_id ?_; first | refine st1 ?_ | (first | ((first | refine ar_region tt_ok (inps := []) rfl ?_ ?_); rotate_left; (try refine nrm ?_); rotate_right) | refine ret3 ?_ | refine end3 ?_) | (refine ar_cond rfl trivial ?_ ?_ <;> intro hc_ <;> (try simp only [isNilI, inB, reduceCtorEq, cds] at hc_) <;> (try (first | contradiction | (exfalso; omega)))) | refine ar_until (And.intro ?_ (wk3 ?_)))
  all_goals (first | refine ar_id ?_ | (try (focus ((try refine nrmO ?_); (repeat' (first | exact True.intro | refine And.intro ?_ ?_)); all_goals (try (intro (hg_ : _ = true); (try simp only [isNilI, inB, reduceCtorEq, cds] at hg_); (repeat' (first | exact True.intro | refine And.intro ?_ ?_)))); all_goals (first | exact ob1 | skip)))))
  all_goals trace_state
def c_protM (k : GKernel) (j : GJob) (k' : GKernel) (j' : GJob) : CFD := ⟨129, [.agg [.hd 901, .hd 902, .hd 903, (CV.lit (.int .i64 (k.Calls))), .hd 904], .agg [(CV.lit (.int .i64 (j.Plan.Keep))), (CV.lit (.int .i64 (j.Plan.Move))), .hd 906, (CV.lit (.int .i64 (j.Phase))), (CV.lit (.int .i64 (j.Next)))]], [(901, some (.row 33 1 (k.Machine.Frames.Cells.map eIntS))), (902, some (.row 4 1 (k.Machine.Frames.Used.map Tr.eB))), (903, some (.row 42 2 (k.Machine.Table.Entries.map eEntry))), (904, some (.row 3 1 (k.Refuse.map Tr.eI))), (906, some (.row 3 1 (j.Plan.Cells.map Tr.eI)))], .tup [.agg [.hd 911, .hd 912, .hd 913, (CV.lit (.int .i64 ((k').Calls))), .hd 914], .agg [(CV.lit (.int .i64 ((j').Plan.Keep))), (CV.lit (.int .i64 ((j').Plan.Move))), .hd 906, (CV.lit (.int .i64 ((j').Phase))), (CV.lit (.int .i64 ((j').Next)))]], [(911, some (.row 33 1 ((k').Machine.Frames.Cells.map eIntS))), (912, some (.row 4 1 ((k').Machine.Frames.Used.map Tr.eB))), (913, some (.row 42 2 ((k').Machine.Table.Entries.map eEntry))), (914, some (.row 3 1 ((k').Refuse.map Tr.eI))), (906, some (.row 3 1 ((j').Plan.Cells.map Tr.eI)))], [911, 912, 913, 914], []⟩
theorem fn_protM (k : GKernel) (j : GJob) (k' : GKernel) (j' : GJob) (hs : szK8 k) (hc : canCall k) (h : ((pProtect k j.Plan.Move 1).1, (⟨j.Plan, if (pProtect k j.Plan.Move 1).2 = true then 1 else 5, j.Next⟩ : GJob)) = (k', j')) : Fn Tryz.prog (c_protM k j k' j') := by
  obtain ⟨r, hr⟩ : ∃ r, pProtect k j.Plan.Move 1 = r := ⟨_, rfl⟩
  obtain ⟨k1, b⟩ := r
  rw [hr] at h
  obtain ⟨rfl, rfl⟩ := Prod.mk.inj h
  cases b with
  | true =>
    refine fn_intro tt_ok Tryz.func129 rfl Tryz.call129 Tryz.ntmps129 Tryz.results129 rfl rfl rfl rfl ?_
    intro X ρ0 hb_ hgl_
    dsimp only [c_protM]
    try refine nrm ?_
    repeat' (refine ar_id ?_; first | refine st1 ?_ | (refine ar_drawS (id := 5) tt_ok (by kernel_rfl) [] ?_; refine ed_hide ?_; intro K_ hK_; repeat' (first | ((first | refine ed_call3 ?_ | refine ed_sure3 ?_ | refine ed_cons3 ?_); refine ed_hide ?_; intro K_ hK_; (try dsimp only [c_KProR]); (try refine nrmE ?_)) | (refine ed_nil ?_; (repeat subst hK_); dsimp only; refine Exists.intro _ (And.intro rfl (And.intro (by kernel_rfl) (And.intro ?_ ?_))); rotate_left; (try dsimp only [c_KProR]); (try refine nrm ?_); rotate_right))) | (first | ((first | refine ar_region (id := 1) tt_ok (inps := [.call (c_KProR k j.Plan.Move 1 k1 true)]) rfl ?_ ?_ | refine ar_region tt_ok (inps := []) rfl ?_ ?_); rotate_left; (try dsimp only [c_KProR]); (try refine nrm ?_); rotate_right) | refine ret3 ?_ | refine end3 ?_) | (refine ar_cond rfl trivial ?_ ?_ <;> intro hc_ <;> (try simp only [isNilI, inB, reduceCtorEq, cds] at hc_) <;> (try (first | contradiction | (exfalso; omega)))) | refine ar_until (And.intro ?_ (wk3 ?_)))
    all_goals (first | refine ar_id ?_ | (try (focus ((try refine nrmO ?_); (repeat' (first | exact True.intro | refine And.intro ?_ ?_)); all_goals (try (intro (hg_ : _ = true); (try simp only [isNilI, inB, reduceCtorEq, cds] at hg_); (repeat' (first | exact True.intro | refine And.intro ?_ ?_)))); all_goals (first | exact ob1 | exact fn_KProR _ _ _ _ _ hs hc hr | skip)))))
    all_goals first | rfl | trace_state
  | false =>
    refine fn_intro tt_ok Tryz.func129 rfl Tryz.call129 Tryz.ntmps129 Tryz.results129 rfl rfl rfl rfl ?_
    intro X ρ0 hb_ hgl_
    dsimp only [c_protM]
    try refine nrm ?_
    repeat' (refine ar_id ?_; first | refine st1 ?_ | (refine ar_drawS (id := 5) tt_ok (by kernel_rfl) [] ?_; refine ed_hide ?_; intro K_ hK_; repeat' (first | ((first | refine ed_call3 ?_ | refine ed_sure3 ?_ | refine ed_cons3 ?_); refine ed_hide ?_; intro K_ hK_; (try dsimp only [c_KProR]); (try refine nrmE ?_)) | (refine ed_nil ?_; (repeat subst hK_); dsimp only; refine Exists.intro _ (And.intro rfl (And.intro (by kernel_rfl) (And.intro ?_ ?_))); rotate_left; (try dsimp only [c_KProR]); (try refine nrm ?_); rotate_right))) | (first | ((first | refine ar_region (id := 1) tt_ok (inps := [.call (c_KProR k j.Plan.Move 1 k1 false)]) rfl ?_ ?_ | refine ar_region tt_ok (inps := []) rfl ?_ ?_); rotate_left; (try dsimp only [c_KProR]); (try refine nrm ?_); rotate_right) | refine ret3 ?_ | refine end3 ?_) | (refine ar_cond rfl trivial ?_ ?_ <;> intro hc_ <;> (try simp only [isNilI, inB, reduceCtorEq, cds] at hc_) <;> (try (first | contradiction | (exfalso; omega)))) | refine ar_until (And.intro ?_ (wk3 ?_)))
    all_goals (first | refine ar_id ?_ | (try (focus ((try refine nrmO ?_); (repeat' (first | exact True.intro | refine And.intro ?_ ?_)); all_goals (try (intro (hg_ : _ = true); (try simp only [isNilI, inB, reduceCtorEq, cds] at hg_); (repeat' (first | exact True.intro | refine And.intro ?_ ?_)))); all_goals (first | exact ob1 | exact fn_KProR _ _ _ _ _ hs hc hr | skip)))))
    all_goals first | rfl | trace_state
def c_copyE (k : GKernel) (j : GJob) (j' : GJob) : CFD := ⟨130, [.agg [.hd 901, .hd 902, .hd 903, (CV.lit (.int .i64 (k.Calls))), .hd 904], .agg [(CV.lit (.int .i64 (j.Plan.Keep))), (CV.lit (.int .i64 (j.Plan.Move))), .hd 906, (CV.lit (.int .i64 (j.Phase))), (CV.lit (.int .i64 (j.Next)))]], [(901, some (.row 33 1 (k.Machine.Frames.Cells.map eIntS))), (902, some (.row 4 1 (k.Machine.Frames.Used.map Tr.eB))), (903, some (.row 42 2 (k.Machine.Table.Entries.map eEntry))), (904, some (.row 3 1 (k.Refuse.map Tr.eI))), (906, some (.row 3 1 (j.Plan.Cells.map Tr.eI)))], .tup [.agg [.hd 901, .hd 902, .hd 903, (CV.lit (.int .i64 (k.Calls))), .hd 904], .agg [(CV.lit (.int .i64 ((j').Plan.Keep))), (CV.lit (.int .i64 ((j').Plan.Move))), .hd 906, (CV.lit (.int .i64 ((j').Phase))), (CV.lit (.int .i64 ((j').Next)))]], [(901, some (.row 33 1 (k.Machine.Frames.Cells.map eIntS))), (902, some (.row 4 1 (k.Machine.Frames.Used.map Tr.eB))), (903, some (.row 42 2 (k.Machine.Table.Entries.map eEntry))), (904, some (.row 3 1 (k.Refuse.map Tr.eI))), (906, some (.row 3 1 ((j').Plan.Cells.map Tr.eI)))], [], []⟩
theorem fn_copyE (k : GKernel) (j : GJob) (hn : j.Next = (j.Plan.Cells.length : Int)) : Fn Tryz.prog (c_copyE k j ⟨j.Plan, 2, j.Next⟩) := by
  refine fn_intro tt_ok Tryz.func130 rfl Tryz.call130 Tryz.ntmps130 Tryz.results130 rfl rfl rfl rfl ?_
  intro X ρ0 hb_ hgl_
  dsimp only [c_copyE]
  try refine nrm ?_
  repeat' (refine ar_id ?_; first | refine st1 ?_ | (refine ar_drawS (id := 3) tt_ok (by kernel_rfl) [] ?_; refine ed_hide ?_; intro K_ hK_; repeat' (first | ((first | refine ed_call3 ?_ | refine ed_sure3 ?_ | refine ed_cons3 ?_); refine ed_hide ?_; intro K_ hK_; (try refine nrmE ?_)) | (refine ed_nil ?_; (repeat subst hK_); dsimp only; refine Exists.intro _ (And.intro rfl (And.intro (by kernel_rfl) (And.intro ?_ ?_))); rotate_left; (try refine nrm ?_); rotate_right))) | (first | ((first | refine ar_region tt_ok (inps := []) rfl ?_ ?_); rotate_left; (try refine nrm ?_); rotate_right) | refine ret3 ?_ | refine end3 ?_) | (refine ar_cond rfl trivial ?_ ?_ <;> intro hc_ <;> (try simp only [isNilI, inB, reduceCtorEq, cds] at hc_) <;> (try (first | contradiction | (exfalso; omega) | (exfalso; (rw [List.length_map] at hc_; omega))))) | refine ar_until (And.intro ?_ (wk3 ?_)))
  all_goals (first | refine ar_id ?_ | (try (focus ((try refine nrmO ?_); (repeat' (first | exact True.intro | refine And.intro ?_ ?_)); all_goals (try (intro (hg_ : _ = true); (try simp only [isNilI, inB, reduceCtorEq, cds] at hg_); (repeat' (first | exact True.intro | refine And.intro ?_ ?_)))); all_goals (first | exact ob1 | exact rfl | skip)))))
  all_goals first | rfl | trace_state
def c_copyN (k : GKernel) (j : GJob) (k' : GKernel) (j' : GJob) : CFD := ⟨130, [.agg [.hd 901, .hd 902, .hd 903, (CV.lit (.int .i64 (k.Calls))), .hd 904], .agg [(CV.lit (.int .i64 (j.Plan.Keep))), (CV.lit (.int .i64 (j.Plan.Move))), .hd 906, (CV.lit (.int .i64 (j.Phase))), (CV.lit (.int .i64 (j.Next)))]], [(901, some (.row 33 1 (k.Machine.Frames.Cells.map eIntS))), (902, some (.row 4 1 (k.Machine.Frames.Used.map Tr.eB))), (903, some (.row 42 2 (k.Machine.Table.Entries.map eEntry))), (904, some (.row 3 1 (k.Refuse.map Tr.eI))), (906, some (.row 3 1 (j.Plan.Cells.map Tr.eI)))], .tup [.agg [.hd 911, .hd 912, .hd 913, (CV.lit (.int .i64 ((k').Calls))), .hd 914], .agg [(CV.lit (.int .i64 ((j').Plan.Keep))), (CV.lit (.int .i64 ((j').Plan.Move))), .hd 906, (CV.lit (.int .i64 ((j').Phase))), (CV.lit (.int .i64 ((j').Next)))]], [(911, some (.row 33 1 ((k').Machine.Frames.Cells.map eIntS))), (912, some (.row 4 1 ((k').Machine.Frames.Used.map Tr.eB))), (913, some (.row 42 2 ((k').Machine.Table.Entries.map eEntry))), (914, some (.row 3 1 ((k').Refuse.map Tr.eI))), (906, some (.row 3 1 ((j').Plan.Cells.map Tr.eI)))], [911, 912, 913, 914], []⟩
theorem take_oneI {l : List Int} {n : Int} (h0 : 0 ≤ n) (h : n < (l.length : Int)) : ((l.map Tr.eI).take (n + 1).toNat).drop n.toNat = [l.getD n.toNat 0].map Tr.eI := by
  obtain ⟨i, rfl⟩ := Int.eq_ofNat_of_zero_le h0
  rw [show ((i : Int) + 1).toNat = i + 1 by omega, Int.toNat_natCast, ← List.map_take, take_getD l 0 (by omega), List.map_append, List.drop_append_of_le_length (by rw [List.length_map, List.length_take]; omega), List.drop_of_length_le (by rw [List.length_map, List.length_take]; omega)]
  rfl
theorem fn_copyN (k : GKernel) (j : GJob) (k1 : GKernel) (b : Bool) (hs : szK8 k) (hc : canCall k) (h0 : 0 ≤ j.Next) (hn : j.Next < (j.Plan.Cells.length : Int)) (hl : j.Plan.Cells.length ≤ 1048576) (hr : pCells k j.Plan.Move j.Plan.Keep [cellJ j j.Next] = (k1, b)) : Fn Tryz.prog (c_copyN k j k1 ⟨j.Plan, j.Phase, j.Next + 1⟩) := by
  have ht := take_oneI h0 hn
  rw [show (j.Next + 1).toNat = j.Next.toNat + ((j.Next + 1).toNat - j.Next.toNat) by omega] at ht
  have ht2 := congrArg D.cat ht
  have hF := fn_KCopR k j.Plan.Move j.Plan.Keep [cellJ j j.Next] k1 b hs (by show 1 ≤ 1048576; decide) hc hr
  refine fn_intro tt_ok Tryz.func130 rfl Tryz.call130 Tryz.ntmps130 Tryz.results130 rfl rfl rfl rfl ?_
  intro X ρ0 hb_ hgl_
  dsimp only [c_copyN]
  try refine nrm ?_
  repeat' (refine ar_id ?_; first | refine st1 ?_ | (refine ar_drawS (id := 4) tt_ok (by kernel_rfl) [.keep, .call (c_KCopR k j.Plan.Move j.Plan.Keep [cellJ j j.Next] k1 b)] ?_; refine ed_hide ?_; intro K_ hK_; repeat' (first | ((first | refine ed_call3 ?_ | refine ed_sure3 ?_ | refine ed_cons3 ?_); refine ed_hide ?_; intro K_ hK_; (try dsimp only [c_KCopR]); (try refine nrmE ?_)) | (refine ed_nil ?_; (repeat subst hK_); dsimp only; refine Exists.intro _ (And.intro rfl (And.intro (by kernel_rfl) (And.intro ?_ ?_))); rotate_left; (try dsimp only [c_KCopR]); (try refine nrm ?_); rotate_right))) | (refine ar_drawS (id := 6) tt_ok (by kernel_rfl) [] ?_; refine ed_hide ?_; intro K_ hK_; repeat' (first | ((first | refine ed_call3 ?_ | refine ed_sure3 ?_ | refine ed_cons3 ?_); refine ed_hide ?_; intro K_ hK_; (try dsimp only [c_KCopR]); (try refine nrmE ?_)) | (refine ed_nil ?_; (repeat subst hK_); dsimp only; refine Exists.intro _ (And.intro rfl (And.intro (by kernel_rfl) (And.intro ?_ ?_))); rotate_left; (try dsimp only [c_KCopR]); (try refine nrm ?_); rotate_right))) | (first | ((first | refine ar_region tt_ok (inps := []) rfl ?_ ?_); rotate_left; (try dsimp only [c_KCopR]); (try refine nrm ?_); rotate_right) | refine ret3 ?_ | refine end3 ?_) | (refine ar_cond rfl trivial ?_ ?_ <;> intro hc_ <;> (try simp only [isNilI, inB, reduceCtorEq, cds] at hc_) <;> (try (first | contradiction | (exfalso; omega) | (exfalso; (rw [List.length_map] at hc_; omega))))) | refine ar_until (And.intro ?_ (wk3 ?_)))
  all_goals (first | refine ar_id ?_ | (try (focus ((try refine nrmO ?_); (repeat' (first | exact True.intro | refine And.intro ?_ ?_)); all_goals (try (intro (hg_ : _ = true); (try simp only [isNilI, inB, reduceCtorEq, cds] at hg_); (repeat' (first | exact True.intro | refine And.intro ?_ ?_)))); all_goals (first | exact ob1 | exact hF | exact ht2 | skip)))))
  all_goals first | rfl | trace_state
def c_remap (k : GKernel) (j : GJob) (k' : GKernel) (j' : GJob) : CFD := ⟨131, [.agg [.hd 901, .hd 902, .hd 903, (CV.lit (.int .i64 (k.Calls))), .hd 904], .agg [(CV.lit (.int .i64 (j.Plan.Keep))), (CV.lit (.int .i64 (j.Plan.Move))), .hd 906, (CV.lit (.int .i64 (j.Phase))), (CV.lit (.int .i64 (j.Next)))]], [(901, some (.row 33 1 (k.Machine.Frames.Cells.map eIntS))), (902, some (.row 4 1 (k.Machine.Frames.Used.map Tr.eB))), (903, some (.row 42 2 (k.Machine.Table.Entries.map eEntry))), (904, some (.row 3 1 (k.Refuse.map Tr.eI))), (906, some (.row 3 1 (j.Plan.Cells.map Tr.eI)))], .tup [.agg [.hd 911, .hd 912, .hd 913, (CV.lit (.int .i64 ((k').Calls))), .hd 914], .agg [(CV.lit (.int .i64 ((j').Plan.Keep))), (CV.lit (.int .i64 ((j').Plan.Move))), .hd 906, (CV.lit (.int .i64 ((j').Phase))), (CV.lit (.int .i64 ((j').Next)))]], [(911, some (.row 33 1 ((k').Machine.Frames.Cells.map eIntS))), (912, some (.row 4 1 ((k').Machine.Frames.Used.map Tr.eB))), (913, some (.row 42 2 ((k').Machine.Table.Entries.map eEntry))), (914, some (.row 3 1 ((k').Refuse.map Tr.eI))), (906, some (.row 3 1 ((j').Plan.Cells.map Tr.eI)))], [911, 912, 913, 914], []⟩
theorem fn_remap (k : GKernel) (j : GJob) (k' : GKernel) (j' : GJob) (hs : szK8 k) (hc : canCall k) (h : ((pOn k j.Plan.Move j.Plan.Keep).1, (⟨j.Plan, if (pOn k j.Plan.Move j.Plan.Keep).2 = true then 4 else 3, j.Next⟩ : GJob)) = (k', j')) : Fn Tryz.prog (c_remap k j k' j') := by
  obtain ⟨r, hr⟩ : ∃ r, pOn k j.Plan.Move j.Plan.Keep = r := ⟨_, rfl⟩
  obtain ⟨k1, b⟩ := r
  rw [hr] at h
  obtain ⟨rfl, rfl⟩ := Prod.mk.inj h
  cases b with
  | true =>
    refine fn_intro tt_ok Tryz.func131 rfl Tryz.call131 Tryz.ntmps131 Tryz.results131 rfl rfl rfl rfl ?_
    intro X ρ0 hb_ hgl_
    dsimp only [c_remap]
    try refine nrm ?_
    repeat' (refine ar_id ?_; first | refine st1 ?_ | (refine ar_drawS (id := 5) tt_ok (by kernel_rfl) [] ?_; refine ed_hide ?_; intro K_ hK_; repeat' (first | ((first | refine ed_call3 ?_ | refine ed_sure3 ?_ | refine ed_cons3 ?_); refine ed_hide ?_; intro K_ hK_; (try dsimp only [c_KOnR]); (try refine nrmE ?_)) | (refine ed_nil ?_; (repeat subst hK_); dsimp only; refine Exists.intro _ (And.intro rfl (And.intro (by kernel_rfl) (And.intro ?_ ?_))); rotate_left; (try dsimp only [c_KOnR]); (try refine nrm ?_); rotate_right))) | (first | ((first | refine ar_region (id := 1) tt_ok (inps := [.call (c_KOnR k j.Plan.Move j.Plan.Keep k1 true)]) rfl ?_ ?_ | refine ar_region tt_ok (inps := []) rfl ?_ ?_); rotate_left; (try dsimp only [c_KOnR]); (try refine nrm ?_); rotate_right) | refine ret3 ?_ | refine end3 ?_) | (refine ar_cond rfl trivial ?_ ?_ <;> intro hc_ <;> (try simp only [isNilI, inB, reduceCtorEq, cds] at hc_) <;> (try (first | contradiction | (exfalso; omega)))) | refine ar_until (And.intro ?_ (wk3 ?_)))
    all_goals (first | refine ar_id ?_ | (try (focus ((try refine nrmO ?_); (repeat' (first | exact True.intro | refine And.intro ?_ ?_)); all_goals (try (intro (hg_ : _ = true); (try simp only [isNilI, inB, reduceCtorEq, cds] at hg_); (repeat' (first | exact True.intro | refine And.intro ?_ ?_)))); all_goals (first | exact ob1 | exact fn_KOnR _ _ _ _ _ hs hc hr | skip)))))
    all_goals first | rfl | trace_state
  | false =>
    refine fn_intro tt_ok Tryz.func131 rfl Tryz.call131 Tryz.ntmps131 Tryz.results131 rfl rfl rfl rfl ?_
    intro X ρ0 hb_ hgl_
    dsimp only [c_remap]
    try refine nrm ?_
    repeat' (refine ar_id ?_; first | refine st1 ?_ | (refine ar_drawS (id := 5) tt_ok (by kernel_rfl) [] ?_; refine ed_hide ?_; intro K_ hK_; repeat' (first | ((first | refine ed_call3 ?_ | refine ed_sure3 ?_ | refine ed_cons3 ?_); refine ed_hide ?_; intro K_ hK_; (try dsimp only [c_KOnR]); (try refine nrmE ?_)) | (refine ed_nil ?_; (repeat subst hK_); dsimp only; refine Exists.intro _ (And.intro rfl (And.intro (by kernel_rfl) (And.intro ?_ ?_))); rotate_left; (try dsimp only [c_KOnR]); (try refine nrm ?_); rotate_right))) | (first | ((first | refine ar_region (id := 1) tt_ok (inps := [.call (c_KOnR k j.Plan.Move j.Plan.Keep k1 false)]) rfl ?_ ?_ | refine ar_region tt_ok (inps := []) rfl ?_ ?_); rotate_left; (try dsimp only [c_KOnR]); (try refine nrm ?_); rotate_right) | refine ret3 ?_ | refine end3 ?_) | (refine ar_cond rfl trivial ?_ ?_ <;> intro hc_ <;> (try simp only [isNilI, inB, reduceCtorEq, cds] at hc_) <;> (try (first | contradiction | (exfalso; omega)))) | refine ar_until (And.intro ?_ (wk3 ?_)))
    all_goals (first | refine ar_id ?_ | (try (focus ((try refine nrmO ?_); (repeat' (first | exact True.intro | refine And.intro ?_ ?_)); all_goals (try (intro (hg_ : _ = true); (try simp only [isNilI, inB, reduceCtorEq, cds] at hg_); (repeat' (first | exact True.intro | refine And.intro ?_ ?_)))); all_goals (first | exact ob1 | exact fn_KOnR _ _ _ _ _ hs hc hr | skip)))))
    all_goals first | rfl | trace_state
def c_backN (k : GKernel) (j : GJob) (k' : GKernel) (j' : GJob) : CFD := ⟨132, [.agg [.hd 901, .hd 902, .hd 903, (CV.lit (.int .i64 (k.Calls))), .hd 904], .agg [(CV.lit (.int .i64 (j.Plan.Keep))), (CV.lit (.int .i64 (j.Plan.Move))), .hd 906, (CV.lit (.int .i64 (j.Phase))), (CV.lit (.int .i64 (j.Next)))]], [(901, some (.row 33 1 (k.Machine.Frames.Cells.map eIntS))), (902, some (.row 4 1 (k.Machine.Frames.Used.map Tr.eB))), (903, some (.row 42 2 (k.Machine.Table.Entries.map eEntry))), (904, some (.row 3 1 (k.Refuse.map Tr.eI))), (906, some (.row 3 1 (j.Plan.Cells.map Tr.eI)))], .tup [.agg [.hd 911, .hd 912, .hd 913, (CV.lit (.int .i64 ((k').Calls))), .hd 914], .agg [(CV.lit (.int .i64 ((j').Plan.Keep))), (CV.lit (.int .i64 ((j').Plan.Move))), .hd 906, (CV.lit (.int .i64 ((j').Phase))), (CV.lit (.int .i64 ((j').Next)))]], [(911, some (.row 33 1 ((k').Machine.Frames.Cells.map eIntS))), (912, some (.row 4 1 ((k').Machine.Frames.Used.map Tr.eB))), (913, some (.row 42 2 ((k').Machine.Table.Entries.map eEntry))), (914, some (.row 3 1 ((k').Refuse.map Tr.eI))), (906, some (.row 3 1 ((j').Plan.Cells.map Tr.eI)))], [911, 912, 913, 914], []⟩
theorem fn_backN (k : GKernel) (j : GJob) (k' : GKernel) (j' : GJob) (hs : szK8 k) (hc : canCall k) (hn : ¬ 0 < j.Next) (h : ((pProtect k j.Plan.Move 2).1, (⟨j.Plan, if (pProtect k j.Plan.Move 2).2 = true then 5 else j.Phase, j.Next⟩ : GJob)) = (k', j')) : Fn Tryz.prog (c_backN k j k' j') := by
  obtain ⟨r, hr⟩ : ∃ r, pProtect k j.Plan.Move 2 = r := ⟨_, rfl⟩
  obtain ⟨k1, b⟩ := r
  rw [hr] at h
  obtain ⟨rfl, rfl⟩ := Prod.mk.inj h
  cases b with
  | true =>
    refine fn_intro tt_ok Tryz.func132 rfl Tryz.call132 Tryz.ntmps132 Tryz.results132 rfl rfl rfl rfl ?_
    intro X ρ0 hb_ hgl_
    dsimp only [c_backN]
    try refine nrm ?_
    repeat' (refine ar_id ?_; first | refine st1 ?_ | (refine ar_drawS (id := 8) tt_ok (by kernel_rfl) [] ?_; refine ed_hide ?_; intro K_ hK_; repeat' (first | ((first | refine ed_call3 ?_ | refine ed_sure3 ?_ | refine ed_cons3 ?_); refine ed_hide ?_; intro K_ hK_; (try dsimp only [c_KProR]); (try refine nrmE ?_)) | (refine ed_nil ?_; (repeat subst hK_); dsimp only; refine Exists.intro _ (And.intro rfl (And.intro (by kernel_rfl) (And.intro ?_ ?_))); rotate_left; (try dsimp only [c_KProR]); (try refine nrm ?_); rotate_right))) | (first | ((first | refine ar_region (id := 5) tt_ok (inps := [.call (c_KProR k j.Plan.Move 2 k1 true)]) rfl ?_ ?_ | refine ar_region tt_ok (inps := []) rfl ?_ ?_); rotate_left; (try dsimp only [c_KProR]); (try refine nrm ?_); rotate_right) | refine ret3 ?_ | refine end3 ?_) | (refine ar_cond rfl trivial ?_ ?_ <;> intro hc_ <;> (try simp only [isNilI, inB, reduceCtorEq, cds] at hc_) <;> (try (first | contradiction | (exfalso; omega)))) | refine ar_until (And.intro ?_ (wk3 ?_)))
    all_goals (first | refine ar_id ?_ | (try (focus ((try refine nrmO ?_); (repeat' (first | exact True.intro | refine And.intro ?_ ?_)); all_goals (try (intro (hg_ : _ = true); (try simp only [isNilI, inB, reduceCtorEq, cds] at hg_); (repeat' (first | exact True.intro | refine And.intro ?_ ?_)))); all_goals (first | exact ob1 | exact fn_KProR _ _ _ _ _ hs hc hr | skip)))))
    all_goals first | rfl | trace_state
  | false =>
    refine fn_intro tt_ok Tryz.func132 rfl Tryz.call132 Tryz.ntmps132 Tryz.results132 rfl rfl rfl rfl ?_
    intro X ρ0 hb_ hgl_
    dsimp only [c_backN]
    try refine nrm ?_
    repeat' (refine ar_id ?_; first | refine st1 ?_ | (refine ar_drawS (id := 8) tt_ok (by kernel_rfl) [] ?_; refine ed_hide ?_; intro K_ hK_; repeat' (first | ((first | refine ed_call3 ?_ | refine ed_sure3 ?_ | refine ed_cons3 ?_); refine ed_hide ?_; intro K_ hK_; (try dsimp only [c_KProR]); (try refine nrmE ?_)) | (refine ed_nil ?_; (repeat subst hK_); dsimp only; refine Exists.intro _ (And.intro rfl (And.intro (by kernel_rfl) (And.intro ?_ ?_))); rotate_left; (try dsimp only [c_KProR]); (try refine nrm ?_); rotate_right))) | (first | ((first | refine ar_region (id := 5) tt_ok (inps := [.call (c_KProR k j.Plan.Move 2 k1 false)]) rfl ?_ ?_ | refine ar_region tt_ok (inps := []) rfl ?_ ?_); rotate_left; (try dsimp only [c_KProR]); (try refine nrm ?_); rotate_right) | refine ret3 ?_ | refine end3 ?_) | (refine ar_cond rfl trivial ?_ ?_ <;> intro hc_ <;> (try simp only [isNilI, inB, reduceCtorEq, cds] at hc_) <;> (try (first | contradiction | (exfalso; omega)))) | refine ar_until (And.intro ?_ (wk3 ?_)))
    all_goals (first | refine ar_id ?_ | (try (focus ((try refine nrmO ?_); (repeat' (first | exact True.intro | refine And.intro ?_ ?_)); all_goals (try (intro (hg_ : _ = true); (try simp only [isNilI, inB, reduceCtorEq, cds] at hg_); (repeat' (first | exact True.intro | refine And.intro ?_ ?_)))); all_goals (first | exact ob1 | exact fn_KProR _ _ _ _ _ hs hc hr | skip)))))
    all_goals first | rfl | trace_state
def c_backS (s : Se) (k : GKernel) (j : GJob) (k' : GKernel) (j' : GJob) : CFD := ⟨132, [.agg [.hd 901, .hd 902, .hd 903, (CV.lit (.int .i64 (k.Calls))), .hd 904], .agg [(CV.lit (.int .i64 (j.Plan.Keep))), (CV.lit (.int .i64 (j.Plan.Move))), .hd 906, (CV.lit (.int .i64 (j.Phase))), (CV.lit (.int .i64 (j.Next)))]], [(901, some (.row 33 1 (k.Machine.Frames.Cells.map eIntS))), (902, some (.row 4 1 (k.Machine.Frames.Used.map Tr.eB))), (903, some (.row 42 2 (k.Machine.Table.Entries.map eEntry))), (904, some (.row 3 1 (k.Refuse.map Tr.eI))), (906, some (.row 3 1 (j.Plan.Cells.map Tr.eI)))], .tup [.agg [.hd 911, .hd 912, .hd 913, (CV.lit (.int .i64 (k'.Calls))), .hd 904], .agg [(CV.lit (.int .i64 ((j').Plan.Keep))), (CV.lit (.int .i64 ((j').Plan.Move))), .hd 906, (CV.lit (.int .i64 ((j').Phase))), (CV.lit (.int .i64 ((j').Next)))]], [(911, some (.row 33 1 ((k'.Machine).Frames.Cells.map eIntS))), (912, some (.row 4 1 ((k'.Machine).Frames.Used.map Tr.eB))), (913, some (.row 42 2 ((k'.Machine).Table.Entries.map eEntry))), (904, some (.row 3 1 (k'.Refuse.map Tr.eI))), (906, some (.row 3 1 ((j').Plan.Cells.map Tr.eI)))], [911, 912, 913], s.gl⟩
theorem fn_backS (s : Se) (k : GKernel) (j : GJob) (k' : GKernel) (j' : GJob) (hs : szK8 k) (hl : j.Plan.Cells.length ≤ 1048576) (hj : okJ j) (hn : 0 < j.Next) (hk : ((⟨(pStore k.Machine (j.Plan.Keep * 16 + cellJ j (j.Next - 1)) 0).1, k.Calls, k.Refuse⟩ : GKernel), (⟨j.Plan, j.Phase, j.Next - 1⟩ : GJob)) = (k', j')) : Fn Tryz.prog (c_backS s k j k' j') := by
  obtain ⟨hp, hph, hn0, hn1⟩ := hj
  obtain ⟨r, hr⟩ : ∃ r, pStore k.Machine (j.Plan.Keep * 16 + cellJ j (j.Next - 1)) 0 = r := ⟨_, rfl⟩
  obtain ⟨m1, x⟩ := r
  rw [hr] at hk
  obtain ⟨rfl, rfl⟩ := Prod.mk.inj hk
  have hlt : (j.Next - 1).toNat < j.Plan.Cells.length := by omega
  have hc := asc_at hp.2.2.2 hlt
  have hel : (j.Plan.Cells.map Tr.eI)[(j.Next - 1).toNat]? = some (Tr.eI (cellJ j (j.Next - 1))) := map_at hlt
  unfold cellJ at hr hel
  generalize j.Plan.Cells.getD (j.Next - 1).toNat 0 = c at hr hel hc
  have hkp := hp.2.1
  refine fn_intro tt_ok Tryz.func132 rfl Tryz.call132 Tryz.ntmps132 Tryz.results132 rfl rfl rfl rfl ?_
  intro X ρ0 hb_ hgl_
  dsimp only [c_backS]
  try refine nrm ?_
  repeat' (refine ar_id ?_; first | refine st1 ?_ | (refine ar_drawS (id := 3) tt_ok (by kernel_rfl) [.elem (Tr.eI c), .call (c_StoR s k.Machine (j.Plan.Keep * 16 + c) 0 m1 x)] ?_; refine ed_hide ?_; intro K_ hK_; repeat' (first | ((first | refine ed_call3 ?_ | refine ed_sure3 ?_ | refine ed_cons3 ?_); refine ed_hide ?_; intro K_ hK_; (try dsimp only [c_StoR]); (try refine nrmE ?_)) | (refine ed_nil ?_; (repeat subst hK_); dsimp only; refine Exists.intro _ (And.intro rfl (And.intro (by kernel_rfl) (And.intro ?_ ?_))); rotate_left; (try dsimp only [c_StoR]); (try refine nrm ?_); rotate_right))) | (refine ar_drawS (id := 4) tt_ok (by kernel_rfl) [] ?_; refine ed_hide ?_; intro K_ hK_; repeat' (first | ((first | refine ed_call3 ?_ | refine ed_sure3 ?_ | refine ed_cons3 ?_); refine ed_hide ?_; intro K_ hK_; (try dsimp only [c_StoR]); (try refine nrmE ?_)) | (refine ed_nil ?_; (repeat subst hK_); dsimp only; refine Exists.intro _ (And.intro rfl (And.intro (by kernel_rfl) (And.intro ?_ ?_))); rotate_left; (try dsimp only [c_StoR]); (try refine nrm ?_); rotate_right))) | (first | ((first | refine ar_region tt_ok (inps := []) rfl ?_ ?_); rotate_left; (try dsimp only [c_StoR]); (try refine nrm ?_); rotate_right) | refine ret3 ?_ | refine end3 ?_) | (refine ar_cond rfl trivial ?_ ?_ <;> intro hc_ <;> (try simp only [isNilI, inB, reduceCtorEq, cds] at hc_) <;> (try (first | contradiction | (exfalso; omega)))) | refine ar_until (And.intro ?_ (wk3 ?_)))
  all_goals (first | refine ar_id ?_ | (try (focus ((try refine nrmO ?_); (repeat' (first | exact True.intro | refine And.intro ?_ ?_)); all_goals (try (intro (hg_ : _ = true); (try simp only [isNilI, inB, reduceCtorEq, cds] at hg_); (repeat' (first | exact True.intro | refine And.intro ?_ ?_)))); all_goals (first | exact ob1 | exact fn_StoR _ _ _ _ _ _ hs.m ⟨by omega, by omega⟩ hr | exact hel | exact hgl_.1 | exact hgl_.2.1 | exact hgl_.2.2.1 | exact hgl_.2.2.2.1 | exact hgl_.2.2.2.2.1 | exact hgl_.2.2.2.2.2.1 | exact hgl_.2.2.2.2.2.2.1 | exact hgl_.2.2.2.2.2.2.2.1 | exact hgl_ | exact rfl | exact one1 rfl | skip)))))
  all_goals first | rfl | trace_state
def c_stay (k : GKernel) (j : GJob) (j' : GJob) : CFD := ⟨133, [.agg [.hd 901, .hd 902, .hd 903, (CV.lit (.int .i64 (k.Calls))), .hd 904], .agg [(CV.lit (.int .i64 (j.Plan.Keep))), (CV.lit (.int .i64 (j.Plan.Move))), .hd 906, (CV.lit (.int .i64 (j.Phase))), (CV.lit (.int .i64 (j.Next)))]], [(901, some (.row 33 1 (k.Machine.Frames.Cells.map eIntS))), (902, some (.row 4 1 (k.Machine.Frames.Used.map Tr.eB))), (903, some (.row 42 2 (k.Machine.Table.Entries.map eEntry))), (904, some (.row 3 1 (k.Refuse.map Tr.eI))), (906, some (.row 3 1 (j.Plan.Cells.map Tr.eI)))], .tup [.agg [.hd 901, .hd 902, .hd 903, (CV.lit (.int .i64 (k.Calls))), .hd 904], .agg [(CV.lit (.int .i64 ((j').Plan.Keep))), (CV.lit (.int .i64 ((j').Plan.Move))), .hd 906, (CV.lit (.int .i64 ((j').Phase))), (CV.lit (.int .i64 ((j').Next)))]], [(901, some (.row 33 1 (k.Machine.Frames.Cells.map eIntS))), (902, some (.row 4 1 (k.Machine.Frames.Used.map Tr.eB))), (903, some (.row 42 2 (k.Machine.Table.Entries.map eEntry))), (904, some (.row 3 1 (k.Refuse.map Tr.eI))), (906, some (.row 3 1 ((j').Plan.Cells.map Tr.eI)))], [], []⟩
theorem fn_stay (k : GKernel) (j : GJob) : Fn Tryz.prog (c_stay k j j) := by
  refine fn_intro tt_ok Tryz.func133 rfl Tryz.call133 Tryz.ntmps133 Tryz.results133 rfl rfl rfl rfl ?_
  intro X ρ0 hb_ hgl_
  dsimp only [c_stay]
  try refine nrm ?_
  repeat' (refine ar_id ?_; first | refine st1 ?_ | (refine ar_drawS (id := 1) tt_ok (by kernel_rfl) [] ?_; refine ed_hide ?_; intro K_ hK_; repeat' (first | ((first | refine ed_call3 ?_ | refine ed_sure3 ?_ | refine ed_cons3 ?_); refine ed_hide ?_; intro K_ hK_; (try refine nrmE ?_)) | (refine ed_nil ?_; (repeat subst hK_); dsimp only; refine Exists.intro _ (And.intro rfl (And.intro (by kernel_rfl) (And.intro ?_ ?_))); rotate_left; (try refine nrm ?_); rotate_right))) | (first | ((first | refine ar_region tt_ok (inps := []) rfl ?_ ?_); rotate_left; (try refine nrm ?_); rotate_right) | refine ret3 ?_ | refine end3 ?_) | (refine ar_cond rfl trivial ?_ ?_ <;> intro hc_ <;> (try simp only [isNilI, inB, reduceCtorEq, cds] at hc_) <;> (try (first | contradiction | (exfalso; omega)))) | refine ar_until (And.intro ?_ (wk3 ?_)))
  all_goals (first | refine ar_id ?_ | (try (focus ((try refine nrmO ?_); (repeat' (first | exact True.intro | refine And.intro ?_ ?_)); all_goals (try (intro (hg_ : _ = true); (try simp only [isNilI, inB, reduceCtorEq, cds] at hg_); (repeat' (first | exact True.intro | refine And.intro ?_ ?_)))); all_goals (first | exact ob1 | skip)))))
  all_goals first | rfl | trace_state
end Eng
end Go.Proofs.YtabnglcabpijfaaGreatDoor
namespace Go.Proofs.YtabnglcabpijfaaGreatDoor
open Go.RowKit
set_option linter.unusedVariables false
set_option linter.unusedSimpArgs false
set_option maxRecDepth 100000
namespace Eng
open Tr
def c_WriterI (s : Se) (k : GKernel) (w : GWriter) (k' : GKernel) (w' : GWriter) : CFD := ⟨16, [.agg [ro 33 1 eIntS k.Machine.Frames.Cells, ro 4 1 Tr.eB k.Machine.Frames.Used, ro 42 2 eEntry k.Machine.Table.Entries, (CV.lit (.int .i64 (k.Calls))), ro 3 1 Tr.eI k.Refuse], .agg [(CV.lit (.int .i64 (w.Addr))), (CV.lit (.int .i64 (w.Value))), (CV.lit (.bool (w.Done))), (CV.lit (.int .i64 (w.Waits)))]], [], .tup [.agg [.hd 0, .hd 1, .hd 2, (CV.lit (.int .i64 ((k').Calls))), .hd 3], .agg [(CV.lit (.int .i64 ((w').Addr))), (CV.lit (.int .i64 ((w').Value))), (CV.lit (.bool ((w').Done))), (CV.lit (.int .i64 ((w').Waits)))]], [(0, some (.row 33 1 ((k').Machine.Frames.Cells.map eIntS))), (1, some (.row 4 1 ((k').Machine.Frames.Used.map Tr.eB))), (2, some (.row 42 2 ((k').Machine.Table.Entries.map eEntry))), (3, some (.row 3 1 ((k').Refuse.map Tr.eI)))], [0, 1, 2, 3], s.gl⟩
set_option maxHeartbeats 8000000 in
theorem fn_WriterI (s : Se) (k : GKernel) (w : GWriter) (k' : GKernel) (w' : GWriter) (hs : szK8 k) (ha : okI w.Addr) (h : pWriterStep k w = (k', w')) : Fn Tryz.prog (c_WriterI s k w k' w') := by
  have hcp := fn_CopyKI k (szK_from hs)
  have hko := fn_KOkI k (szK_from hs)
  unfold pWriterStep at h
  by_cases hok : okK k
  · have hk : pKernelOk k = true := decide_eq_true hok
    rw [if_pos hok] at h
    unfold stepW at h
    by_cases hd : w.Done = true
    · rw [if_pos hd] at h
      obtain ⟨rfl, rfl⟩ := Prod.mk.inj h
      refine fn_intro tt_ok Tryz.func16 rfl Tryz.call16 Tryz.ntmps16 Tryz.results16 rfl rfl rfl rfl ?_
      intro X ρ0 hb_ hgl_
      dsimp only [c_WriterI]
      try refine nrm ?_
      repeat' (refine ar_id ?_; first | refine st1 ?_ | (refine ar_drawS (id := 3) tt_ok (by kernel_rfl) [] ?_; refine ed_hide ?_; intro K_ hK_; repeat' (first | ((first | refine ed_call3 ?_ | refine ed_sure3 ?_ | refine ed_cons3 ?_); refine ed_hide ?_; intro K_ hK_; (try dsimp only [c_CopyKI, c_KOkI]); (try refine nrmE ?_)) | (refine ed_nil ?_; (repeat subst hK_); dsimp only; refine Exists.intro _ (And.intro rfl (And.intro (by kernel_rfl) (And.intro ?_ ?_))); rotate_left; (try dsimp only [c_CopyKI, c_KOkI]); (try refine nrm ?_); rotate_right))) | (first | ((first | refine ar_region (id := 1) tt_ok (inps := [.call (c_CopyKI k)]) rfl ?_ ?_ | refine ar_region (id := 2) tt_ok (inps := [.call (c_KOkI k)]) rfl ?_ ?_ | refine ar_region tt_ok (inps := []) rfl ?_ ?_); rotate_left; (try dsimp only [c_CopyKI, c_KOkI]); (try refine nrm ?_); rotate_right) | refine ret3 ?_ | refine end3 ?_) | (refine ar_cond rfl trivial ?_ ?_ <;> intro hc_ <;> (try simp only [isNilI, inB, reduceCtorEq, cds] at hc_) <;> (try (first | contradiction | (exfalso; omega) | (exfalso; grind)))) | refine ar_until (And.intro ?_ (wk3 ?_)))
      all_goals (first | refine ar_id ?_ | (try (focus ((try refine nrmO ?_); (repeat' (first | exact True.intro | refine And.intro ?_ ?_)); all_goals (try (intro (hg_ : _ = true); (try simp only [isNilI, inB, reduceCtorEq, cds] at hg_); (repeat' (first | exact True.intro | refine And.intro ?_ ?_)))); all_goals (first | exact ob1 | exact hcp | exact hko | skip)))))
      all_goals trace_state
    · rw [if_neg hd] at h
      obtain ⟨⟨m1, c⟩, hst⟩ : ∃ r, pStore k.Machine w.Addr w.Value = r := ⟨_, rfl⟩
      rw [hst] at h
      have hsto := fn_StoR s k.Machine w.Addr w.Value m1 c hs.m ha hst
      by_cases hc : c = 2
      · rw [if_pos (show (m1, c).2 = 2 from hc)] at h
        have hm : m1 = k.Machine := by
          unfold pStore at hst
          split at hst
          · split at hst
            · exact (Prod.mk.inj hst).1.symm
            · split at hst
              · have := (Prod.mk.inj hst).2; omega
              · exact (Prod.mk.inj hst).1.symm
          · exact (Prod.mk.inj hst).1.symm
        subst hm
        subst hc
        obtain ⟨rfl, rfl⟩ := Prod.mk.inj h
        refine fn_intro tt_ok Tryz.func16 rfl Tryz.call16 Tryz.ntmps16 Tryz.results16 rfl rfl rfl rfl ?_
        intro X ρ0 hb_ hgl_
        dsimp only [c_WriterI]
        try refine nrm ?_
        repeat' (refine ar_id ?_; first | refine st1 ?_ | (refine ar_run (id := 7) [] ?_; generalize hQ_ : kont _ _ _ _ = Q_; repeat' (first | (focus ((first | refine as_call3 tt_ok ?_ ?_ | refine as_sure3 tt_ok ?_ ?_ | refine as_wrap3 ?_ ?_ | refine as_cons3 tt_ok ?_ ?_); (try dsimp only [c_CopyKI, c_KOkI, c_StoR]); (try refine nrm ?_); rotate_left)) | (subst hQ_; refine as_nil ?_))) | (refine ar_drawS (id := 8) tt_ok (by kernel_rfl) [] ?_; refine ed_hide ?_; intro K_ hK_; repeat' (first | ((first | refine ed_call3 ?_ | refine ed_sure3 ?_ | refine ed_cons3 ?_); refine ed_hide ?_; intro K_ hK_; (try dsimp only [c_CopyKI, c_KOkI, c_StoR]); (try refine nrmE ?_)) | (refine ed_nil ?_; (repeat subst hK_); dsimp only; refine Exists.intro _ (And.intro rfl (And.intro (by kernel_rfl) (And.intro ?_ ?_))); rotate_left; (try dsimp only [c_CopyKI, c_KOkI, c_StoR]); (try refine nrm ?_); rotate_right))) | (first | ((first | refine ar_region (id := 1) tt_ok (inps := [.call (c_CopyKI k)]) rfl ?_ ?_ | refine ar_region (id := 2) tt_ok (inps := [.call (c_KOkI k)]) rfl ?_ ?_ | refine ar_region (id := 4) tt_ok (inps := [.call (c_StoR s k.Machine w.Addr w.Value k.Machine 2)]) rfl ?_ ?_ | refine ar_region tt_ok (inps := []) rfl ?_ ?_); rotate_left; (try dsimp only [c_CopyKI, c_KOkI, c_StoR]); (try refine nrm ?_); rotate_right) | refine ret3 ?_ | refine end3 ?_) | (refine ar_cond rfl trivial ?_ ?_ <;> intro hc_ <;> (try simp only [isNilI, inB, reduceCtorEq, cds] at hc_) <;> (try (first | contradiction | (exfalso; omega) | (exfalso; grind)))) | refine ar_until (And.intro ?_ (wk3 ?_)))
        all_goals (first | refine ar_id ?_ | (try (focus ((try refine nrmO ?_); (repeat' (first | exact True.intro | refine And.intro ?_ ?_)); all_goals (try (intro (hg_ : _ = true); (try simp only [isNilI, inB, reduceCtorEq, cds] at hg_); (repeat' (first | exact True.intro | refine And.intro ?_ ?_)))); all_goals (first | exact ob1 | exact hcp | exact hko | exact hsto | exact hgl_.1 | exact hgl_.2.1 | exact hgl_.2.2.1 | exact hgl_.2.2.2.1 | exact hgl_.2.2.2.2.1 | exact hgl_.2.2.2.2.2.1 | exact hgl_.2.2.2.2.2.2.1 | exact hgl_.2.2.2.2.2.2.2.1 | exact hgl_ | exact rfl | exact one1 rfl | skip)))))
        all_goals trace_state
      · rw [if_neg (show ¬ (m1, c).2 = 2 from hc)] at h
        obtain ⟨rfl, rfl⟩ := Prod.mk.inj h
        refine fn_intro tt_ok Tryz.func16 rfl Tryz.call16 Tryz.ntmps16 Tryz.results16 rfl rfl rfl rfl ?_
        intro X ρ0 hb_ hgl_
        dsimp only [c_WriterI]
        try refine nrm ?_
        repeat' (refine ar_id ?_; first | refine st1 ?_ | (refine ar_drawS (id := 10) tt_ok (by kernel_rfl) [] ?_; refine ed_hide ?_; intro K_ hK_; repeat' (first | ((first | refine ed_call3 ?_ | refine ed_sure3 ?_ | refine ed_cons3 ?_); refine ed_hide ?_; intro K_ hK_; (try dsimp only [c_CopyKI, c_KOkI, c_StoR]); (try refine nrmE ?_)) | (refine ed_nil ?_; (repeat subst hK_); dsimp only; refine Exists.intro _ (And.intro rfl (And.intro (by kernel_rfl) (And.intro ?_ ?_))); rotate_left; (try dsimp only [c_CopyKI, c_KOkI, c_StoR]); (try refine nrm ?_); rotate_right))) | (first | ((first | refine ar_region (id := 1) tt_ok (inps := [.call (c_CopyKI k)]) rfl ?_ ?_ | refine ar_region (id := 2) tt_ok (inps := [.call (c_KOkI k)]) rfl ?_ ?_ | refine ar_region (id := 4) tt_ok (inps := [.call (c_StoR s k.Machine w.Addr w.Value m1 c)]) rfl ?_ ?_ | refine ar_region tt_ok (inps := []) rfl ?_ ?_); rotate_left; (try dsimp only [c_CopyKI, c_KOkI, c_StoR]); (try refine nrm ?_); rotate_right) | refine ret3 ?_ | refine end3 ?_) | (refine ar_cond rfl trivial ?_ ?_ <;> intro hc_ <;> (try simp only [isNilI, inB, reduceCtorEq, cds] at hc_) <;> (try (first | contradiction | (exfalso; omega) | (exfalso; grind)))) | refine ar_until (And.intro ?_ (wk3 ?_)))
        all_goals (first | refine ar_id ?_ | (try (focus ((try refine nrmO ?_); (repeat' (first | exact True.intro | refine And.intro ?_ ?_)); all_goals (try (intro (hg_ : _ = true); (try simp only [isNilI, inB, reduceCtorEq, cds] at hg_); (repeat' (first | exact True.intro | refine And.intro ?_ ?_)))); all_goals (first | exact ob1 | exact hcp | exact hko | exact hsto | exact hgl_.1 | exact hgl_.2.1 | exact hgl_.2.2.1 | exact hgl_.2.2.2.1 | exact hgl_.2.2.2.2.1 | exact hgl_.2.2.2.2.2.1 | exact hgl_.2.2.2.2.2.2.1 | exact hgl_.2.2.2.2.2.2.2.1 | exact hgl_ | exact rfl | exact one1 rfl | skip)))))
        all_goals trace_state
  · have hk : pKernelOk k = false := decide_eq_false hok
    rw [if_neg hok] at h
    obtain ⟨rfl, rfl⟩ := Prod.mk.inj h
    refine fn_intro tt_ok Tryz.func16 rfl Tryz.call16 Tryz.ntmps16 Tryz.results16 rfl rfl rfl rfl ?_
    intro X ρ0 hb_ hgl_
    dsimp only [c_WriterI]
    try refine nrm ?_
    repeat' (refine ar_id ?_; first | refine st1 ?_ | (refine ar_drawS (id := 3) tt_ok (by kernel_rfl) [] ?_; refine ed_hide ?_; intro K_ hK_; repeat' (first | ((first | refine ed_call3 ?_ | refine ed_sure3 ?_ | refine ed_cons3 ?_); refine ed_hide ?_; intro K_ hK_; (try dsimp only [c_CopyKI, c_KOkI]); (try refine nrmE ?_)) | (refine ed_nil ?_; (repeat subst hK_); dsimp only; refine Exists.intro _ (And.intro rfl (And.intro (by kernel_rfl) (And.intro ?_ ?_))); rotate_left; (try dsimp only [c_CopyKI, c_KOkI]); (try refine nrm ?_); rotate_right))) | (first | ((first | refine ar_region (id := 1) tt_ok (inps := [.call (c_CopyKI k)]) rfl ?_ ?_ | refine ar_region (id := 2) tt_ok (inps := [.call (c_KOkI k)]) rfl ?_ ?_ | refine ar_region tt_ok (inps := []) rfl ?_ ?_); rotate_left; (try dsimp only [c_CopyKI, c_KOkI]); (try refine nrm ?_); rotate_right) | refine ret3 ?_ | refine end3 ?_) | (refine ar_cond rfl trivial ?_ ?_ <;> intro hc_ <;> (try simp only [isNilI, inB, reduceCtorEq, cds] at hc_) <;> (try (first | contradiction | (exfalso; omega) | (exfalso; grind)))) | refine ar_until (And.intro ?_ (wk3 ?_)))
    all_goals (first | refine ar_id ?_ | (try (focus ((try refine nrmO ?_); (repeat' (first | exact True.intro | refine And.intro ?_ ?_)); all_goals (try (intro (hg_ : _ = true); (try simp only [isNilI, inB, reduceCtorEq, cds] at hg_); (repeat' (first | exact True.intro | refine And.intro ?_ ?_)))); all_goals (first | exact ob1 | exact hcp | exact hko | skip)))))
    all_goals trace_state
end Eng
end Go.Proofs.YtabnglcabpijfaaGreatDoor
namespace Go.Proofs.YtabnglcabpijfaaGreatDoor
open Go.RowKit
set_option linter.unusedVariables false
set_option linter.unusedSimpArgs false
set_option maxRecDepth 100000
namespace Eng
open Tr
def c_JStepI (s : Se) (k : GKernel) (j : GJob) (k' : GKernel) (j' : GJob) : CFD := ⟨50, [.agg [ro 33 1 eIntS k.Machine.Frames.Cells, ro 4 1 Tr.eB k.Machine.Frames.Used, ro 42 2 eEntry k.Machine.Table.Entries, (CV.lit (.int .i64 (k.Calls))), ro 3 1 Tr.eI k.Refuse], .agg [(CV.lit (.int .i64 (j.Plan.Keep))), (CV.lit (.int .i64 (j.Plan.Move))), ro 3 1 Tr.eI j.Plan.Cells, (CV.lit (.int .i64 (j.Phase))), (CV.lit (.int .i64 (j.Next)))]], [], .tup [.agg [.hd 0, .hd 1, .hd 2, (CV.lit (.int .i64 ((k').Calls))), .hd 3], .agg [(CV.lit (.int .i64 ((j').Plan.Keep))), (CV.lit (.int .i64 ((j').Plan.Move))), .hd 4, (CV.lit (.int .i64 ((j').Phase))), (CV.lit (.int .i64 ((j').Next)))]], [(0, some (.row 33 1 ((k').Machine.Frames.Cells.map eIntS))), (1, some (.row 4 1 ((k').Machine.Frames.Used.map Tr.eB))), (2, some (.row 42 2 ((k').Machine.Table.Entries.map eEntry))), (3, some (.row 3 1 ((k').Refuse.map Tr.eI))), (4, some (.row 3 1 ((j').Plan.Cells.map Tr.eI)))], [0, 1, 2, 3, 4], s.gl⟩
set_option maxHeartbeats 8000000 in
theorem fn_JStepI (s : Se) (k : GKernel) (j : GJob) (k' : GKernel) (j' : GJob) (hs : szK8 k) (hl : j.Plan.Cells.length ≤ 1048576) (h : pJobStep k j = (k', j')) : Fn Tryz.prog (c_JStepI s k j k' j') := by
  have hcp := fn_CopyKI k (szK_from hs)
  unfold pJobStep at h
  by_cases hm : mayJ k j
  · rw [if_pos hm] at h
    have hd : decide (mayJ k j) = true := decide_eq_true hm
    have hcj := fn_copyJI j hl
    have hcan := fn_can k j hs hl
    have hc : canCall k := hm.1
    have hj := hm.2.1
    obtain ⟨pl, ph, nx⟩ := j
    have hph := hj.2.1
    unfold stepJ at h
    by_cases p0 : ph = 0
    · subst p0
      rw [if_pos rfl] at h
      refine fn_intro tt_ok Tryz.func50 rfl Tryz.call50 Tryz.ntmps50 Tryz.results50 rfl rfl rfl rfl ?_
      intro X ρ0 hb_ hgl_
      dsimp only [c_JStepI]
      try refine nrm ?_
      repeat' (refine ar_id ?_; first | refine st1 ?_ | (refine ar_drawS (id := 1) tt_ok (by kernel_rfl) [.call (c_CopyKI k), .call (c_copyJI ⟨pl, 0, nx⟩)] ?_; refine ed_hide ?_; intro K_ hK_; repeat' (first | ((first | refine ed_call3 ?_ | refine ed_sure3 ?_ | refine ed_cons3 ?_); refine ed_hide ?_; intro K_ hK_; (try dsimp only [c_CopyKI, c_can, c_copyJI, c_phases, c_protM]); (try refine nrmE ?_)) | (refine ed_nil ?_; (repeat subst hK_); dsimp only; refine Exists.intro _ (And.intro rfl (And.intro (by kernel_rfl) (And.intro ?_ ?_))); rotate_left; (try dsimp only [c_CopyKI, c_can, c_copyJI, c_phases, c_protM]); (try refine nrm ?_); rotate_right))) | (refine ar_drawS (id := 3) tt_ok (by kernel_rfl) [] ?_; refine ed_hide ?_; intro K_ hK_; repeat' (first | ((first | refine ed_call3 ?_ | refine ed_sure3 ?_ | refine ed_cons3 ?_); refine ed_hide ?_; intro K_ hK_; (try dsimp only [c_CopyKI, c_can, c_copyJI, c_phases, c_protM]); (try refine nrmE ?_)) | (refine ed_nil ?_; (repeat subst hK_); dsimp only; refine Exists.intro _ (And.intro rfl (And.intro (by kernel_rfl) (And.intro ?_ ?_))); rotate_left; (try dsimp only [c_CopyKI, c_can, c_copyJI, c_phases, c_protM]); (try refine nrm ?_); rotate_right))) | (refine ar_drawS (id := 4) tt_ok (by kernel_rfl) [.call (c_phases), .call (c_protM k ⟨pl, 0, nx⟩ k' j')] ?_; refine ed_hide ?_; intro K_ hK_; repeat' (first | ((first | refine ed_call3 ?_ | refine ed_sure3 ?_ | refine ed_cons3 ?_); refine ed_hide ?_; intro K_ hK_; (try dsimp only [c_CopyKI, c_can, c_copyJI, c_phases, c_protM]); (try refine nrmE ?_)) | (refine ed_nil ?_; (repeat subst hK_); dsimp only; refine Exists.intro _ (And.intro rfl (And.intro (by kernel_rfl) (And.intro ?_ ?_))); rotate_left; (try dsimp only [c_CopyKI, c_can, c_copyJI, c_phases, c_protM]); (try refine nrm ?_); rotate_right))) | (first | ((first | refine ar_region (id := 2) tt_ok (inps := [.call (c_can k ⟨pl, 0, nx⟩)]) rfl ?_ ?_ | refine ar_region tt_ok (inps := []) rfl ?_ ?_); rotate_left; (try dsimp only [c_CopyKI, c_can, c_copyJI, c_phases, c_protM]); (try refine nrm ?_); rotate_right) | refine ret3 ?_ | refine end3 ?_) | (refine ar_cond rfl trivial ?_ ?_ <;> intro hc_ <;> (try simp only [isNilI, inB, reduceCtorEq, cds] at hc_) <;> (try (first | contradiction | (exfalso; omega) | (exfalso; grind)))) | refine ar_until (And.intro ?_ (wk3 ?_)))
      all_goals (first | refine ar_id ?_ | (try (focus ((try refine nrmO ?_); (repeat' (first | exact True.intro | refine And.intro ?_ ?_)); all_goals (try (intro (hg_ : _ = true); (try simp only [isNilI, inB, reduceCtorEq, cds] at hg_); (repeat' (first | exact True.intro | refine And.intro ?_ ?_)))); all_goals (first | exact ob1 | exact hcp | exact hcj | exact hcan | exact fn_phases | exact fn_protM _ _ _ _ hs hc h | skip)))))
      all_goals trace_state
    rw [if_neg (show ¬ (⟨pl, ph, nx⟩ : GJob).Phase = 0 from p0)] at h
    by_cases p1 : ph = 1
    · subst p1
      rw [if_pos rfl] at h
      by_cases hl2 : nx = (pl.Cells.length : Int)
      · rw [if_pos (show (⟨pl, 1, nx⟩ : GJob).Next = ((⟨pl, 1, nx⟩ : GJob).Plan.Cells.length : Int) from hl2)] at h
        obtain ⟨rfl, rfl⟩ := Prod.mk.inj h
        refine fn_intro tt_ok Tryz.func50 rfl Tryz.call50 Tryz.ntmps50 Tryz.results50 rfl rfl rfl rfl ?_
        intro X ρ0 hb_ hgl_
        dsimp only [c_JStepI]
        try refine nrm ?_
        repeat' (refine ar_id ?_; first | refine st1 ?_ | (refine ar_drawS (id := 1) tt_ok (by kernel_rfl) [.call (c_CopyKI k), .call (c_copyJI ⟨pl, 1, nx⟩)] ?_; refine ed_hide ?_; intro K_ hK_; repeat' (first | ((first | refine ed_call3 ?_ | refine ed_sure3 ?_ | refine ed_cons3 ?_); refine ed_hide ?_; intro K_ hK_; (try dsimp only [c_CopyKI, c_can, c_copyE, c_copyJI, c_phases]); (try refine nrmE ?_)) | (refine ed_nil ?_; (repeat subst hK_); dsimp only; refine Exists.intro _ (And.intro rfl (And.intro (by kernel_rfl) (And.intro ?_ ?_))); rotate_left; (try dsimp only [c_CopyKI, c_can, c_copyE, c_copyJI, c_phases]); (try refine nrm ?_); rotate_right))) | (refine ar_drawS (id := 3) tt_ok (by kernel_rfl) [] ?_; refine ed_hide ?_; intro K_ hK_; repeat' (first | ((first | refine ed_call3 ?_ | refine ed_sure3 ?_ | refine ed_cons3 ?_); refine ed_hide ?_; intro K_ hK_; (try dsimp only [c_CopyKI, c_can, c_copyE, c_copyJI, c_phases]); (try refine nrmE ?_)) | (refine ed_nil ?_; (repeat subst hK_); dsimp only; refine Exists.intro _ (And.intro rfl (And.intro (by kernel_rfl) (And.intro ?_ ?_))); rotate_left; (try dsimp only [c_CopyKI, c_can, c_copyE, c_copyJI, c_phases]); (try refine nrm ?_); rotate_right))) | (refine ar_drawS (id := 4) tt_ok (by kernel_rfl) [.call (c_phases), .call (c_copyE k ⟨pl, 1, nx⟩ ⟨pl, 2, nx⟩)] ?_; refine ed_hide ?_; intro K_ hK_; repeat' (first | ((first | refine ed_call3 ?_ | refine ed_sure3 ?_ | refine ed_cons3 ?_); refine ed_hide ?_; intro K_ hK_; (try dsimp only [c_CopyKI, c_can, c_copyE, c_copyJI, c_phases]); (try refine nrmE ?_)) | (refine ed_nil ?_; (repeat subst hK_); dsimp only; refine Exists.intro _ (And.intro rfl (And.intro (by kernel_rfl) (And.intro ?_ ?_))); rotate_left; (try dsimp only [c_CopyKI, c_can, c_copyE, c_copyJI, c_phases]); (try refine nrm ?_); rotate_right))) | (first | ((first | refine ar_region (id := 2) tt_ok (inps := [.call (c_can k ⟨pl, 1, nx⟩)]) rfl ?_ ?_ | refine ar_region tt_ok (inps := []) rfl ?_ ?_); rotate_left; (try dsimp only [c_CopyKI, c_can, c_copyE, c_copyJI, c_phases]); (try refine nrm ?_); rotate_right) | refine ret3 ?_ | refine end3 ?_) | (refine ar_cond rfl trivial ?_ ?_ <;> intro hc_ <;> (try simp only [isNilI, inB, reduceCtorEq, cds] at hc_) <;> (try (first | contradiction | (exfalso; omega) | (exfalso; grind)))) | refine ar_until (And.intro ?_ (wk3 ?_)))
        all_goals (first | refine ar_id ?_ | (try (focus ((try refine nrmO ?_); (repeat' (first | exact True.intro | refine And.intro ?_ ?_)); all_goals (try (intro (hg_ : _ = true); (try simp only [isNilI, inB, reduceCtorEq, cds] at hg_); (repeat' (first | exact True.intro | refine And.intro ?_ ?_)))); all_goals (first | exact ob1 | exact hcp | exact hcj | exact hcan | exact fn_phases | exact fn_copyE k ⟨pl, 1, nx⟩ hl2 | skip)))))
        all_goals trace_state
      · rw [if_neg (show ¬ (⟨pl, 1, nx⟩ : GJob).Next = ((⟨pl, 1, nx⟩ : GJob).Plan.Cells.length : Int) from hl2)] at h
        obtain ⟨r, hr⟩ : ∃ r, pCells k pl.Move pl.Keep [cellJ ⟨pl, 1, nx⟩ nx] = r := ⟨_, rfl⟩
        obtain ⟨k1, b⟩ := r
        dsimp only at h
        rw [hr] at h
        obtain ⟨rfl, rfl⟩ := Prod.mk.inj h
        have hn0 : 0 ≤ nx := hj.2.2.1
        have hn1 : nx ≤ (pl.Cells.length : Int) := hj.2.2.2
        refine fn_intro tt_ok Tryz.func50 rfl Tryz.call50 Tryz.ntmps50 Tryz.results50 rfl rfl rfl rfl ?_
        intro X ρ0 hb_ hgl_
        dsimp only [c_JStepI]
        try refine nrm ?_
        repeat' (refine ar_id ?_; first | refine st1 ?_ | (refine ar_drawS (id := 1) tt_ok (by kernel_rfl) [.call (c_CopyKI k), .call (c_copyJI ⟨pl, 1, nx⟩)] ?_; refine ed_hide ?_; intro K_ hK_; repeat' (first | ((first | refine ed_call3 ?_ | refine ed_sure3 ?_ | refine ed_cons3 ?_); refine ed_hide ?_; intro K_ hK_; (try dsimp only [c_CopyKI, c_can, c_copyJI, c_copyN, c_phases]); (try refine nrmE ?_)) | (refine ed_nil ?_; (repeat subst hK_); dsimp only; refine Exists.intro _ (And.intro rfl (And.intro (by kernel_rfl) (And.intro ?_ ?_))); rotate_left; (try dsimp only [c_CopyKI, c_can, c_copyJI, c_copyN, c_phases]); (try refine nrm ?_); rotate_right))) | (refine ar_drawS (id := 3) tt_ok (by kernel_rfl) [] ?_; refine ed_hide ?_; intro K_ hK_; repeat' (first | ((first | refine ed_call3 ?_ | refine ed_sure3 ?_ | refine ed_cons3 ?_); refine ed_hide ?_; intro K_ hK_; (try dsimp only [c_CopyKI, c_can, c_copyJI, c_copyN, c_phases]); (try refine nrmE ?_)) | (refine ed_nil ?_; (repeat subst hK_); dsimp only; refine Exists.intro _ (And.intro rfl (And.intro (by kernel_rfl) (And.intro ?_ ?_))); rotate_left; (try dsimp only [c_CopyKI, c_can, c_copyJI, c_copyN, c_phases]); (try refine nrm ?_); rotate_right))) | (refine ar_drawS (id := 4) tt_ok (by kernel_rfl) [.call (c_phases), .call (c_copyN k ⟨pl, 1, nx⟩ k1 ⟨pl, 1, nx + 1⟩)] ?_; refine ed_hide ?_; intro K_ hK_; repeat' (first | ((first | refine ed_call3 ?_ | refine ed_sure3 ?_ | refine ed_cons3 ?_); refine ed_hide ?_; intro K_ hK_; (try dsimp only [c_CopyKI, c_can, c_copyJI, c_copyN, c_phases]); (try refine nrmE ?_)) | (refine ed_nil ?_; (repeat subst hK_); dsimp only; refine Exists.intro _ (And.intro rfl (And.intro (by kernel_rfl) (And.intro ?_ ?_))); rotate_left; (try dsimp only [c_CopyKI, c_can, c_copyJI, c_copyN, c_phases]); (try refine nrm ?_); rotate_right))) | (first | ((first | refine ar_region (id := 2) tt_ok (inps := [.call (c_can k ⟨pl, 1, nx⟩)]) rfl ?_ ?_ | refine ar_region tt_ok (inps := []) rfl ?_ ?_); rotate_left; (try dsimp only [c_CopyKI, c_can, c_copyJI, c_copyN, c_phases]); (try refine nrm ?_); rotate_right) | refine ret3 ?_ | refine end3 ?_) | (refine ar_cond rfl trivial ?_ ?_ <;> intro hc_ <;> (try simp only [isNilI, inB, reduceCtorEq, cds] at hc_) <;> (try (first | contradiction | (exfalso; omega) | (exfalso; grind)))) | refine ar_until (And.intro ?_ (wk3 ?_)))
        all_goals (first | refine ar_id ?_ | (try (focus ((try refine nrmO ?_); (repeat' (first | exact True.intro | refine And.intro ?_ ?_)); all_goals (try (intro (hg_ : _ = true); (try simp only [isNilI, inB, reduceCtorEq, cds] at hg_); (repeat' (first | exact True.intro | refine And.intro ?_ ?_)))); all_goals (first | exact ob1 | exact hcp | exact hcj | exact hcan | exact fn_phases | exact fn_copyN k ⟨pl, 1, nx⟩ k1 b hs hc hn0 (by dsimp only; omega) hl hr | skip)))))
        all_goals trace_state
    rw [if_neg (show ¬ (⟨pl, ph, nx⟩ : GJob).Phase = 1 from p1)] at h
    by_cases p2 : ph = 2
    · subst p2
      rw [if_pos rfl] at h
      refine fn_intro tt_ok Tryz.func50 rfl Tryz.call50 Tryz.ntmps50 Tryz.results50 rfl rfl rfl rfl ?_
      intro X ρ0 hb_ hgl_
      dsimp only [c_JStepI]
      try refine nrm ?_
      repeat' (refine ar_id ?_; first | refine st1 ?_ | (refine ar_drawS (id := 1) tt_ok (by kernel_rfl) [.call (c_CopyKI k), .call (c_copyJI ⟨pl, 2, nx⟩)] ?_; refine ed_hide ?_; intro K_ hK_; repeat' (first | ((first | refine ed_call3 ?_ | refine ed_sure3 ?_ | refine ed_cons3 ?_); refine ed_hide ?_; intro K_ hK_; (try dsimp only [c_CopyKI, c_can, c_copyJI, c_phases, c_remap]); (try refine nrmE ?_)) | (refine ed_nil ?_; (repeat subst hK_); dsimp only; refine Exists.intro _ (And.intro rfl (And.intro (by kernel_rfl) (And.intro ?_ ?_))); rotate_left; (try dsimp only [c_CopyKI, c_can, c_copyJI, c_phases, c_remap]); (try refine nrm ?_); rotate_right))) | (refine ar_drawS (id := 3) tt_ok (by kernel_rfl) [] ?_; refine ed_hide ?_; intro K_ hK_; repeat' (first | ((first | refine ed_call3 ?_ | refine ed_sure3 ?_ | refine ed_cons3 ?_); refine ed_hide ?_; intro K_ hK_; (try dsimp only [c_CopyKI, c_can, c_copyJI, c_phases, c_remap]); (try refine nrmE ?_)) | (refine ed_nil ?_; (repeat subst hK_); dsimp only; refine Exists.intro _ (And.intro rfl (And.intro (by kernel_rfl) (And.intro ?_ ?_))); rotate_left; (try dsimp only [c_CopyKI, c_can, c_copyJI, c_phases, c_remap]); (try refine nrm ?_); rotate_right))) | (refine ar_drawS (id := 4) tt_ok (by kernel_rfl) [.call (c_phases), .call (c_remap k ⟨pl, 2, nx⟩ k' j')] ?_; refine ed_hide ?_; intro K_ hK_; repeat' (first | ((first | refine ed_call3 ?_ | refine ed_sure3 ?_ | refine ed_cons3 ?_); refine ed_hide ?_; intro K_ hK_; (try dsimp only [c_CopyKI, c_can, c_copyJI, c_phases, c_remap]); (try refine nrmE ?_)) | (refine ed_nil ?_; (repeat subst hK_); dsimp only; refine Exists.intro _ (And.intro rfl (And.intro (by kernel_rfl) (And.intro ?_ ?_))); rotate_left; (try dsimp only [c_CopyKI, c_can, c_copyJI, c_phases, c_remap]); (try refine nrm ?_); rotate_right))) | (first | ((first | refine ar_region (id := 2) tt_ok (inps := [.call (c_can k ⟨pl, 2, nx⟩)]) rfl ?_ ?_ | refine ar_region tt_ok (inps := []) rfl ?_ ?_); rotate_left; (try dsimp only [c_CopyKI, c_can, c_copyJI, c_phases, c_remap]); (try refine nrm ?_); rotate_right) | refine ret3 ?_ | refine end3 ?_) | (refine ar_cond rfl trivial ?_ ?_ <;> intro hc_ <;> (try simp only [isNilI, inB, reduceCtorEq, cds] at hc_) <;> (try (first | contradiction | (exfalso; omega) | (exfalso; grind)))) | refine ar_until (And.intro ?_ (wk3 ?_)))
      all_goals (first | refine ar_id ?_ | (try (focus ((try refine nrmO ?_); (repeat' (first | exact True.intro | refine And.intro ?_ ?_)); all_goals (try (intro (hg_ : _ = true); (try simp only [isNilI, inB, reduceCtorEq, cds] at hg_); (repeat' (first | exact True.intro | refine And.intro ?_ ?_)))); all_goals (first | exact ob1 | exact hcp | exact hcj | exact hcan | exact fn_phases | exact fn_remap _ _ _ _ hs hc h | skip)))))
      all_goals trace_state
    rw [if_neg (show ¬ (⟨pl, ph, nx⟩ : GJob).Phase = 2 from p2)] at h
    by_cases p3 : ph = 3
    · subst p3
      rw [if_pos rfl] at h
      by_cases hB : 0 < nx
      · rw [if_pos (show 0 < (⟨pl, 3, nx⟩ : GJob).Next from hB)] at h
        refine fn_intro tt_ok Tryz.func50 rfl Tryz.call50 Tryz.ntmps50 Tryz.results50 rfl rfl rfl rfl ?_
        intro X ρ0 hb_ hgl_
        dsimp only [c_JStepI]
        try refine nrm ?_
        repeat' (refine ar_id ?_; first | refine st1 ?_ | (refine ar_drawS (id := 1) tt_ok (by kernel_rfl) [.call (c_CopyKI k), .call (c_copyJI ⟨pl, 3, nx⟩)] ?_; refine ed_hide ?_; intro K_ hK_; repeat' (first | ((first | refine ed_call3 ?_ | refine ed_sure3 ?_ | refine ed_cons3 ?_); refine ed_hide ?_; intro K_ hK_; (try dsimp only [c_CopyKI, c_backS, c_can, c_copyJI, c_phases]); (try refine nrmE ?_)) | (refine ed_nil ?_; (repeat subst hK_); dsimp only; refine Exists.intro _ (And.intro rfl (And.intro (by kernel_rfl) (And.intro ?_ ?_))); rotate_left; (try dsimp only [c_CopyKI, c_backS, c_can, c_copyJI, c_phases]); (try refine nrm ?_); rotate_right))) | (refine ar_drawS (id := 3) tt_ok (by kernel_rfl) [] ?_; refine ed_hide ?_; intro K_ hK_; repeat' (first | ((first | refine ed_call3 ?_ | refine ed_sure3 ?_ | refine ed_cons3 ?_); refine ed_hide ?_; intro K_ hK_; (try dsimp only [c_CopyKI, c_backS, c_can, c_copyJI, c_phases]); (try refine nrmE ?_)) | (refine ed_nil ?_; (repeat subst hK_); dsimp only; refine Exists.intro _ (And.intro rfl (And.intro (by kernel_rfl) (And.intro ?_ ?_))); rotate_left; (try dsimp only [c_CopyKI, c_backS, c_can, c_copyJI, c_phases]); (try refine nrm ?_); rotate_right))) | (refine ar_drawS (id := 4) tt_ok (by kernel_rfl) [.call (c_phases), .call (c_backS s k ⟨pl, 3, nx⟩ k' j')] ?_; refine ed_hide ?_; intro K_ hK_; repeat' (first | ((first | refine ed_call3 ?_ | refine ed_sure3 ?_ | refine ed_cons3 ?_); refine ed_hide ?_; intro K_ hK_; (try dsimp only [c_CopyKI, c_backS, c_can, c_copyJI, c_phases]); (try refine nrmE ?_)) | (refine ed_nil ?_; (repeat subst hK_); dsimp only; refine Exists.intro _ (And.intro rfl (And.intro (by kernel_rfl) (And.intro ?_ ?_))); rotate_left; (try dsimp only [c_CopyKI, c_backS, c_can, c_copyJI, c_phases]); (try refine nrm ?_); rotate_right))) | (first | ((first | refine ar_region (id := 2) tt_ok (inps := [.call (c_can k ⟨pl, 3, nx⟩)]) rfl ?_ ?_ | refine ar_region tt_ok (inps := []) rfl ?_ ?_); rotate_left; (try dsimp only [c_CopyKI, c_backS, c_can, c_copyJI, c_phases]); (try refine nrm ?_); rotate_right) | refine ret3 ?_ | refine end3 ?_) | (refine ar_cond rfl trivial ?_ ?_ <;> intro hc_ <;> (try simp only [isNilI, inB, reduceCtorEq, cds] at hc_) <;> (try (first | contradiction | (exfalso; omega) | (exfalso; grind)))) | refine ar_until (And.intro ?_ (wk3 ?_)))
        all_goals (first | refine ar_id ?_ | (try (focus ((try refine nrmO ?_); (repeat' (first | exact True.intro | refine And.intro ?_ ?_)); all_goals (try (intro (hg_ : _ = true); (try simp only [isNilI, inB, reduceCtorEq, cds] at hg_); (repeat' (first | exact True.intro | refine And.intro ?_ ?_)))); all_goals (first | exact ob1 | exact hcp | exact hcj | exact hcan | exact fn_phases | exact fn_backS s k ⟨pl, 3, nx⟩ k' j' hs hl hj hB h | exact hgl_.1 | exact hgl_.2.1 | exact hgl_.2.2.1 | exact hgl_.2.2.2.1 | exact hgl_.2.2.2.2.1 | exact hgl_.2.2.2.2.2.1 | exact hgl_.2.2.2.2.2.2.1 | exact hgl_.2.2.2.2.2.2.2.1 | exact hgl_ | exact rfl | exact one1 rfl | skip)))))
        all_goals trace_state
      · rw [if_neg (show ¬ 0 < (⟨pl, 3, nx⟩ : GJob).Next from hB)] at h
        refine fn_intro tt_ok Tryz.func50 rfl Tryz.call50 Tryz.ntmps50 Tryz.results50 rfl rfl rfl rfl ?_
        intro X ρ0 hb_ hgl_
        dsimp only [c_JStepI]
        try refine nrm ?_
        repeat' (refine ar_id ?_; first | refine st1 ?_ | (refine ar_drawS (id := 1) tt_ok (by kernel_rfl) [.call (c_CopyKI k), .call (c_copyJI ⟨pl, 3, nx⟩)] ?_; refine ed_hide ?_; intro K_ hK_; repeat' (first | ((first | refine ed_call3 ?_ | refine ed_sure3 ?_ | refine ed_cons3 ?_); refine ed_hide ?_; intro K_ hK_; (try dsimp only [c_CopyKI, c_backN, c_can, c_copyJI, c_phases]); (try refine nrmE ?_)) | (refine ed_nil ?_; (repeat subst hK_); dsimp only; refine Exists.intro _ (And.intro rfl (And.intro (by kernel_rfl) (And.intro ?_ ?_))); rotate_left; (try dsimp only [c_CopyKI, c_backN, c_can, c_copyJI, c_phases]); (try refine nrm ?_); rotate_right))) | (refine ar_drawS (id := 3) tt_ok (by kernel_rfl) [] ?_; refine ed_hide ?_; intro K_ hK_; repeat' (first | ((first | refine ed_call3 ?_ | refine ed_sure3 ?_ | refine ed_cons3 ?_); refine ed_hide ?_; intro K_ hK_; (try dsimp only [c_CopyKI, c_backN, c_can, c_copyJI, c_phases]); (try refine nrmE ?_)) | (refine ed_nil ?_; (repeat subst hK_); dsimp only; refine Exists.intro _ (And.intro rfl (And.intro (by kernel_rfl) (And.intro ?_ ?_))); rotate_left; (try dsimp only [c_CopyKI, c_backN, c_can, c_copyJI, c_phases]); (try refine nrm ?_); rotate_right))) | (refine ar_drawS (id := 4) tt_ok (by kernel_rfl) [.call (c_phases), .call (c_backN k ⟨pl, 3, nx⟩ k' j')] ?_; refine ed_hide ?_; intro K_ hK_; repeat' (first | ((first | refine ed_call3 ?_ | refine ed_sure3 ?_ | refine ed_cons3 ?_); refine ed_hide ?_; intro K_ hK_; (try dsimp only [c_CopyKI, c_backN, c_can, c_copyJI, c_phases]); (try refine nrmE ?_)) | (refine ed_nil ?_; (repeat subst hK_); dsimp only; refine Exists.intro _ (And.intro rfl (And.intro (by kernel_rfl) (And.intro ?_ ?_))); rotate_left; (try dsimp only [c_CopyKI, c_backN, c_can, c_copyJI, c_phases]); (try refine nrm ?_); rotate_right))) | (first | ((first | refine ar_region (id := 2) tt_ok (inps := [.call (c_can k ⟨pl, 3, nx⟩)]) rfl ?_ ?_ | refine ar_region tt_ok (inps := []) rfl ?_ ?_); rotate_left; (try dsimp only [c_CopyKI, c_backN, c_can, c_copyJI, c_phases]); (try refine nrm ?_); rotate_right) | refine ret3 ?_ | refine end3 ?_) | (refine ar_cond rfl trivial ?_ ?_ <;> intro hc_ <;> (try simp only [isNilI, inB, reduceCtorEq, cds] at hc_) <;> (try (first | contradiction | (exfalso; omega) | (exfalso; grind)))) | refine ar_until (And.intro ?_ (wk3 ?_)))
        all_goals (first | refine ar_id ?_ | (try (focus ((try refine nrmO ?_); (repeat' (first | exact True.intro | refine And.intro ?_ ?_)); all_goals (try (intro (hg_ : _ = true); (try simp only [isNilI, inB, reduceCtorEq, cds] at hg_); (repeat' (first | exact True.intro | refine And.intro ?_ ?_)))); all_goals (first | exact ob1 | exact hcp | exact hcj | exact hcan | exact fn_phases | exact fn_backN k ⟨pl, 3, nx⟩ k' j' hs hc hB h | skip)))))
        all_goals trace_state
    rw [if_neg (show ¬ (⟨pl, ph, nx⟩ : GJob).Phase = 3 from p3)] at h
    obtain ⟨rfl, rfl⟩ := Prod.mk.inj h
    by_cases p4 : ph = 4
    · subst p4
      refine fn_intro tt_ok Tryz.func50 rfl Tryz.call50 Tryz.ntmps50 Tryz.results50 rfl rfl rfl rfl ?_
      intro X ρ0 hb_ hgl_
      dsimp only [c_JStepI]
      try refine nrm ?_
      repeat' (refine ar_id ?_; first | refine st1 ?_ | (refine ar_drawS (id := 1) tt_ok (by kernel_rfl) [.call (c_CopyKI k), .call (c_copyJI ⟨pl, 4, nx⟩)] ?_; refine ed_hide ?_; intro K_ hK_; repeat' (first | ((first | refine ed_call3 ?_ | refine ed_sure3 ?_ | refine ed_cons3 ?_); refine ed_hide ?_; intro K_ hK_; (try dsimp only [c_CopyKI, c_can, c_copyJI, c_phases, c_stay]); (try refine nrmE ?_)) | (refine ed_nil ?_; (repeat subst hK_); dsimp only; refine Exists.intro _ (And.intro rfl (And.intro (by kernel_rfl) (And.intro ?_ ?_))); rotate_left; (try dsimp only [c_CopyKI, c_can, c_copyJI, c_phases, c_stay]); (try refine nrm ?_); rotate_right))) | (refine ar_drawS (id := 3) tt_ok (by kernel_rfl) [] ?_; refine ed_hide ?_; intro K_ hK_; repeat' (first | ((first | refine ed_call3 ?_ | refine ed_sure3 ?_ | refine ed_cons3 ?_); refine ed_hide ?_; intro K_ hK_; (try dsimp only [c_CopyKI, c_can, c_copyJI, c_phases, c_stay]); (try refine nrmE ?_)) | (refine ed_nil ?_; (repeat subst hK_); dsimp only; refine Exists.intro _ (And.intro rfl (And.intro (by kernel_rfl) (And.intro ?_ ?_))); rotate_left; (try dsimp only [c_CopyKI, c_can, c_copyJI, c_phases, c_stay]); (try refine nrm ?_); rotate_right))) | (refine ar_drawS (id := 4) tt_ok (by kernel_rfl) [.call (c_phases), .call (c_stay k ⟨pl, 4, nx⟩ ⟨pl, 4, nx⟩)] ?_; refine ed_hide ?_; intro K_ hK_; repeat' (first | ((first | refine ed_call3 ?_ | refine ed_sure3 ?_ | refine ed_cons3 ?_); refine ed_hide ?_; intro K_ hK_; (try dsimp only [c_CopyKI, c_can, c_copyJI, c_phases, c_stay]); (try refine nrmE ?_)) | (refine ed_nil ?_; (repeat subst hK_); dsimp only; refine Exists.intro _ (And.intro rfl (And.intro (by kernel_rfl) (And.intro ?_ ?_))); rotate_left; (try dsimp only [c_CopyKI, c_can, c_copyJI, c_phases, c_stay]); (try refine nrm ?_); rotate_right))) | (first | ((first | refine ar_region (id := 2) tt_ok (inps := [.call (c_can k ⟨pl, 4, nx⟩)]) rfl ?_ ?_ | refine ar_region tt_ok (inps := []) rfl ?_ ?_); rotate_left; (try dsimp only [c_CopyKI, c_can, c_copyJI, c_phases, c_stay]); (try refine nrm ?_); rotate_right) | refine ret3 ?_ | refine end3 ?_) | (refine ar_cond rfl trivial ?_ ?_ <;> intro hc_ <;> (try simp only [isNilI, inB, reduceCtorEq, cds] at hc_) <;> (try (first | contradiction | (exfalso; omega) | (exfalso; grind)))) | refine ar_until (And.intro ?_ (wk3 ?_)))
      all_goals (first | refine ar_id ?_ | (try (focus ((try refine nrmO ?_); (repeat' (first | exact True.intro | refine And.intro ?_ ?_)); all_goals (try (intro (hg_ : _ = true); (try simp only [isNilI, inB, reduceCtorEq, cds] at hg_); (repeat' (first | exact True.intro | refine And.intro ?_ ?_)))); all_goals (first | exact ob1 | exact hcp | exact hcj | exact hcan | exact fn_phases | exact fn_stay k ⟨pl, 4, nx⟩ | skip)))))
      all_goals trace_state
    · obtain rfl : ph = 5 := by have h1 : 0 ≤ ph := hph.1; have h2 : ph ≤ 5 := hph.2; omega
      refine fn_intro tt_ok Tryz.func50 rfl Tryz.call50 Tryz.ntmps50 Tryz.results50 rfl rfl rfl rfl ?_
      intro X ρ0 hb_ hgl_
      dsimp only [c_JStepI]
      try refine nrm ?_
      repeat' (refine ar_id ?_; first | refine st1 ?_ | (refine ar_drawS (id := 1) tt_ok (by kernel_rfl) [.call (c_CopyKI k), .call (c_copyJI ⟨pl, 5, nx⟩)] ?_; refine ed_hide ?_; intro K_ hK_; repeat' (first | ((first | refine ed_call3 ?_ | refine ed_sure3 ?_ | refine ed_cons3 ?_); refine ed_hide ?_; intro K_ hK_; (try dsimp only [c_CopyKI, c_can, c_copyJI, c_phases, c_stay]); (try refine nrmE ?_)) | (refine ed_nil ?_; (repeat subst hK_); dsimp only; refine Exists.intro _ (And.intro rfl (And.intro (by kernel_rfl) (And.intro ?_ ?_))); rotate_left; (try dsimp only [c_CopyKI, c_can, c_copyJI, c_phases, c_stay]); (try refine nrm ?_); rotate_right))) | (refine ar_drawS (id := 3) tt_ok (by kernel_rfl) [] ?_; refine ed_hide ?_; intro K_ hK_; repeat' (first | ((first | refine ed_call3 ?_ | refine ed_sure3 ?_ | refine ed_cons3 ?_); refine ed_hide ?_; intro K_ hK_; (try dsimp only [c_CopyKI, c_can, c_copyJI, c_phases, c_stay]); (try refine nrmE ?_)) | (refine ed_nil ?_; (repeat subst hK_); dsimp only; refine Exists.intro _ (And.intro rfl (And.intro (by kernel_rfl) (And.intro ?_ ?_))); rotate_left; (try dsimp only [c_CopyKI, c_can, c_copyJI, c_phases, c_stay]); (try refine nrm ?_); rotate_right))) | (refine ar_drawS (id := 4) tt_ok (by kernel_rfl) [.call (c_phases), .call (c_stay k ⟨pl, 5, nx⟩ ⟨pl, 5, nx⟩)] ?_; refine ed_hide ?_; intro K_ hK_; repeat' (first | ((first | refine ed_call3 ?_ | refine ed_sure3 ?_ | refine ed_cons3 ?_); refine ed_hide ?_; intro K_ hK_; (try dsimp only [c_CopyKI, c_can, c_copyJI, c_phases, c_stay]); (try refine nrmE ?_)) | (refine ed_nil ?_; (repeat subst hK_); dsimp only; refine Exists.intro _ (And.intro rfl (And.intro (by kernel_rfl) (And.intro ?_ ?_))); rotate_left; (try dsimp only [c_CopyKI, c_can, c_copyJI, c_phases, c_stay]); (try refine nrm ?_); rotate_right))) | (first | ((first | refine ar_region (id := 2) tt_ok (inps := [.call (c_can k ⟨pl, 5, nx⟩)]) rfl ?_ ?_ | refine ar_region tt_ok (inps := []) rfl ?_ ?_); rotate_left; (try dsimp only [c_CopyKI, c_can, c_copyJI, c_phases, c_stay]); (try refine nrm ?_); rotate_right) | refine ret3 ?_ | refine end3 ?_) | (refine ar_cond rfl trivial ?_ ?_ <;> intro hc_ <;> (try simp only [isNilI, inB, reduceCtorEq, cds] at hc_) <;> (try (first | contradiction | (exfalso; omega) | (exfalso; grind)))) | refine ar_until (And.intro ?_ (wk3 ?_)))
      all_goals (first | refine ar_id ?_ | (try (focus ((try refine nrmO ?_); (repeat' (first | exact True.intro | refine And.intro ?_ ?_)); all_goals (try (intro (hg_ : _ = true); (try simp only [isNilI, inB, reduceCtorEq, cds] at hg_); (repeat' (first | exact True.intro | refine And.intro ?_ ?_)))); all_goals (first | exact ob1 | exact hcp | exact hcj | exact hcan | exact fn_phases | exact fn_stay k ⟨pl, 5, nx⟩ | skip)))))
      all_goals trace_state
  · rw [if_neg hm] at h
    obtain ⟨rfl, rfl⟩ := Prod.mk.inj h
    have hd : decide (mayJ k j) = false := decide_eq_false hm
    refine fn_intro tt_ok Tryz.func50 rfl Tryz.call50 Tryz.ntmps50 Tryz.results50 rfl rfl rfl rfl ?_
    intro X ρ0 hb_ hgl_
    dsimp only [c_JStepI]
    try refine nrm ?_
    repeat' (refine ar_id ?_; first | refine st1 ?_ | (refine ar_drawS (id := 1) tt_ok (by kernel_rfl) [.call (c_CopyKI k), .call (c_copyJI j)] ?_; refine ed_hide ?_; intro K_ hK_; repeat' (first | ((first | refine ed_call3 ?_ | refine ed_sure3 ?_ | refine ed_cons3 ?_); refine ed_hide ?_; intro K_ hK_; (try dsimp only [c_CopyKI, c_can, c_copyJI]); (try refine nrmE ?_)) | (refine ed_nil ?_; (repeat subst hK_); dsimp only; refine Exists.intro _ (And.intro rfl (And.intro (by kernel_rfl) (And.intro ?_ ?_))); rotate_left; (try dsimp only [c_CopyKI, c_can, c_copyJI]); (try refine nrm ?_); rotate_right))) | (refine ar_drawS (id := 3) tt_ok (by kernel_rfl) [] ?_; refine ed_hide ?_; intro K_ hK_; repeat' (first | ((first | refine ed_call3 ?_ | refine ed_sure3 ?_ | refine ed_cons3 ?_); refine ed_hide ?_; intro K_ hK_; (try dsimp only [c_CopyKI, c_can, c_copyJI]); (try refine nrmE ?_)) | (refine ed_nil ?_; (repeat subst hK_); dsimp only; refine Exists.intro _ (And.intro rfl (And.intro (by kernel_rfl) (And.intro ?_ ?_))); rotate_left; (try dsimp only [c_CopyKI, c_can, c_copyJI]); (try refine nrm ?_); rotate_right))) | (first | ((first | refine ar_region (id := 2) tt_ok (inps := [.call (c_can k j)]) rfl ?_ ?_ | refine ar_region tt_ok (inps := []) rfl ?_ ?_); rotate_left; (try dsimp only [c_CopyKI, c_can, c_copyJI]); (try refine nrm ?_); rotate_right) | refine ret3 ?_ | refine end3 ?_) | (refine ar_cond rfl trivial ?_ ?_ <;> intro hc_ <;> (try simp only [isNilI, inB, reduceCtorEq, cds] at hc_) <;> (try (first | contradiction | (exfalso; omega) | (exfalso; grind)))) | refine ar_until (And.intro ?_ (wk3 ?_)))
    all_goals (first | refine ar_id ?_ | (try (focus ((try refine nrmO ?_); (repeat' (first | exact True.intro | refine And.intro ?_ ?_)); all_goals (try (intro (hg_ : _ = true); (try simp only [isNilI, inB, reduceCtorEq, cds] at hg_); (repeat' (first | exact True.intro | refine And.intro ?_ ?_)))); all_goals (first | exact ob1 | exact hcp | exact fn_copyJI j hl | exact fn_can k j hs hl | skip)))))
    all_goals trace_state
end Eng
end Go.Proofs.YtabnglcabpijfaaGreatDoor
namespace Go.Proofs.YtabnglcabpijfaaGreatDoor
open Go.RowKit
set_option linter.unusedVariables false
set_option linter.unusedSimpArgs false
set_option maxRecDepth 100000
namespace Eng
open Tr
theorem zKerI : List.map CV.lit ti35.z.cells.toList = [.lit (.slice none 0 0), .lit (.slice none 0 0), .lit (.slice none 0 0), (CV.lit (.int .i64 (0))), .lit (.slice none 0 0)] := rfl
theorem zJobI : List.map CV.lit ti48.z.cells.toList = [(CV.lit (.int .i64 (0))), (CV.lit (.int .i64 (0))), .lit (.slice none 0 0), (CV.lit (.int .i64 (0))), (CV.lit (.int .i64 (0)))] := rfl
def c_JRunI (s : Se) (k : GKernel) (j : GJob) (most : Int) (k' : GKernel) (j' : GJob) : CFD := ⟨51, [.agg [ro 33 1 eIntS k.Machine.Frames.Cells, ro 4 1 Tr.eB k.Machine.Frames.Used, ro 42 2 eEntry k.Machine.Table.Entries, (CV.lit (.int .i64 (k.Calls))), ro 3 1 Tr.eI k.Refuse], .agg [(CV.lit (.int .i64 (j.Plan.Keep))), (CV.lit (.int .i64 (j.Plan.Move))), ro 3 1 Tr.eI j.Plan.Cells, (CV.lit (.int .i64 (j.Phase))), (CV.lit (.int .i64 (j.Next)))], (SV.one (.lit (.int .i64 (most))))], [], .tup [.agg [.hd 0, .hd 1, .hd 2, (CV.lit (.int .i64 ((k').Calls))), .hd 3], .agg [(CV.lit (.int .i64 ((j').Plan.Keep))), (CV.lit (.int .i64 ((j').Plan.Move))), .hd 4, (CV.lit (.int .i64 ((j').Phase))), (CV.lit (.int .i64 ((j').Next)))]], [(0, some (.row 33 1 ((k').Machine.Frames.Cells.map eIntS))), (1, some (.row 4 1 ((k').Machine.Frames.Used.map Tr.eB))), (2, some (.row 42 2 ((k').Machine.Table.Entries.map eEntry))), (3, some (.row 3 1 ((k').Refuse.map Tr.eI))), (4, some (.row 3 1 ((j').Plan.Cells.map Tr.eI)))], [0, 1, 2, 3, 4], s.gl⟩
set_option maxHeartbeats 8000000 in
theorem fn_JRunI (s : Se) (k : GKernel) (j : GJob) (most : Int) (k' : GKernel) (j' : GJob) (hs : szK8 k) (hl : j.Plan.Cells.length ≤ 1048576) (h : pJobRun k j most = (k', j')) : Fn Tryz.prog (c_JRunI s k j most k' j') := by
  have hcp := fn_CopyKI k (szK_from hs)
  unfold pJobRun at h
  by_cases hm : 0 ≤ most ∧ most ≤ 200
  · rw [if_pos hm] at h
    obtain ⟨N, rfl⟩ := Int.eq_ofNat_of_zero_le hm.1
    rw [Int.toNat_natCast] at h
    have hz := sz_run k j
    have hsucc : ∀ n, ¬ overJ (runJ n (k, j)).2 → pJobStep (runJ n (k, j)).1 (runJ n (k, j)).2 = ((runJ (n + 1) (k, j)).1, (runJ (n + 1) (k, j)).2) := fun n ho => by
      rw [runJ_succ]
      unfold pJobStep
      by_cases hx : mayJ (runJ n (k, j)).1 (runJ n (k, j)).2
      · rw [if_pos hx, if_pos ⟨ho, hx⟩]
      · rw [if_neg hx, if_neg (fun hh => hx hh.2)]
    have hstop := fun n (hn : n ≤ N) (hx : overJ (runJ n (k, j)).2) => (show runJ N (k, j) = runJ n (k, j) by
      have := runJ_add n (N - n) (k, j)
      rw [show n + (N - n) = N by omega] at this
      rw [this, runJ_stop (fun hh => hh.1 hx)])
    have h0 : runJ 0 (k, j) = (k, j) := rfl
    generalize hS : (fun n => runJ n (k, j)) = S
    have hSn : ∀ n, runJ n (k, j) = S n := fun n => by rw [← hS]
    simp only [hSn] at hz hsucc hstop h0 h
    refine fn_intro tt_ok Tryz.func51 rfl Tryz.call51 Tryz.ntmps51 Tryz.results51 rfl rfl rfl rfl ?_
    intro X ρ0 hb_ hgl_
    dsimp only [c_JRunI]
    try refine nrm ?_
    repeat' (refine ar_id ?_; first | refine st1 ?_ | (refine ar_drawS (id := 1) tt_ok (by kernel_rfl) [.call (c_CopyKI k), .call (c_copyJI j)] ?_; refine ed_hide ?_; intro K_ hK_; repeat' (first | ((first | refine ed_call3 ?_ | refine ed_sure3 ?_ | refine ed_cons3 ?_); refine ed_hide ?_; intro K_ hK_; (try dsimp only [c_CopyKI, c_copyJI]); (try refine nrmE ?_)) | (refine ed_nil ?_; (repeat subst hK_); dsimp only; refine Exists.intro _ (And.intro rfl (And.intro (by kernel_rfl) (And.intro ?_ ?_))); rotate_left; (try dsimp only [c_CopyKI, c_copyJI]); (try refine nrm ?_); rotate_right))) | (first | ((first | refine ar_region tt_ok (inps := []) rfl ?_ ?_); rotate_left; (try dsimp only [c_CopyKI, c_copyJI]); (try refine nrm ?_); rotate_right) | refine ret3 ?_ | refine end3 ?_) | (refine ar_cond rfl trivial ?_ ?_ <;> intro hc_ <;> (try simp only [isNilI, inB, reduceCtorEq, cds] at hc_) <;> (try (first | contradiction | (exfalso; omega)))) | refine ar_until (And.intro ?_ (wk3 ?_)))
    all_goals (first | refine ar_id ?_ | (try (focus ((try refine nrmO ?_); (repeat' (first | exact True.intro | refine And.intro ?_ ?_)); all_goals (try (intro (hg_ : _ = true); (try simp only [isNilI, inB, reduceCtorEq, cds] at hg_); (repeat' (first | exact True.intro | refine And.intro ?_ ?_)))); all_goals (first | exact ob1 | exact hcp | exact fn_copyJI j hl | skip)))))
    dsimp only [zKerI, zJobI]
    refine ar_keep 12583903 (by dsimp only [keepS] <;> exact rfl) ?_
    refine ar_forM (N) (fun n => True) (fun n => [(23, (TV.sv (.one (.lit (.int .i64 (n))))))]) (fun n => [(8, some (.box 35 [.hd 12000, .hd 12001, .hd 12002, (CV.lit (.int .i64 (((S n).1).Calls))), .hd 12003])), (12000, some (.row 33 1 (((S n).1).Machine.Frames.Cells.map eIntS))), (12001, some (.row 4 1 (((S n).1).Machine.Frames.Used.map Tr.eB))), (12002, some (.row 42 2 (((S n).1).Machine.Table.Entries.map eEntry))), (12003, some (.row 3 1 (((S n).1).Refuse.map Tr.eI))), (9, some (.box 48 [(CV.lit (.int .i64 (((S n).2).Plan.Keep))), (CV.lit (.int .i64 (((S n).2).Plan.Move))), .hd 14000, (CV.lit (.int .i64 (((S n).2).Phase))), (CV.lit (.int .i64 (((S n).2).Next)))])), (14000, some (.row 3 1 (((S n).2).Plan.Cells.map Tr.eI)))]) ?_ ?_ ?_
    rotate_left
    · first | trivial | simp
    (dsimp only [rnCap, capSVs, Int.toNat_natCast, ro, Nat.reduceAdd, Nat.reduceMul, Nat.zero_add, List.map, putT, app, wrapG, gOb, argT, keys, slotOf, dropped, gAnd, wB, rnT, rnS, rnC, rnCs, rnSs, rnM, rnB, rnN, rn, lk, St.over, ded, delL, keepT, menT, menSs, menS, menCs, menC, hasN, resT, SV.cells]; refine wk3 ?_; (focus ((try refine nrmO ?_); (repeat' (first | exact True.intro | refine And.intro ?_ ?_)); all_goals (try (intro (hg_ : _ = true); (try simp only [isNilI, inB, reduceCtorEq, cds] at hg_); (repeat' (first | exact True.intro | refine And.intro ?_ ?_)))); all_goals (first | exact ob1 | exact rfl | skip))))
    rotate_right
    intro n hn_ hnI_
    dsimp only [rnCap, capSVs, Int.toNat_natCast, ro, Nat.reduceAdd, Nat.reduceMul, Nat.zero_add, List.map, putT, app, wrapG, gOb, argT, keys, slotOf, dropped, gAnd, wB, rnT, rnS, rnC, rnCs, rnSs, rnM, rnB, rnN, rn, lk, St.over, ded, delL, keepT, menT, menSs, menS, menCs, menC, hasN, resT, SV.cells]
    obtain ⟨z1, z2, z3⟩ := hz n
    have hfin : ((N : Int) ≤ (n : Int)) → S n = (k', j') := fun hc => by rw [← h, show n = N by omega]
    have hfin2 : overJ (S n).2 → S n = (k', j') := fun hc => by rw [← h, hstop n (by omega) hc]
    have hsn := szK8_same hs z1 z2
    have hln : (S n).2.Plan.Cells.length ≤ 1048576 := by rw [z3]; exact hl
    by_cases hR : overJ (S n).2
    · have hd : decide (overJ (S n).2) = true := decide_eq_true hR
      repeat' (refine ar_id ?_; first | refine st1 ?_ | (refine ar_drawS (id := 9) tt_ok (by kernel_rfl) [] ?_; refine ed_hide ?_; intro K_ hK_; repeat' (first | ((first | refine ed_call3 ?_ | refine ed_sure3 ?_ | refine ed_cons3 ?_); refine ed_hide ?_; intro K_ hK_; (try dsimp only [c_OverI]); (try refine nrmE ?_)) | (refine ed_nil ?_; (repeat subst hK_); dsimp only; refine Exists.intro _ (And.intro rfl (And.intro (by kernel_rfl) (And.intro ?_ ?_))); rotate_left; (try dsimp only [c_OverI]); (try refine nrm ?_); rotate_right))) | (first | ((first | refine ar_region (id := 6) tt_ok (inps := [.call (c_OverI (S n).2)]) rfl ?_ ?_ | refine ar_region tt_ok (inps := []) rfl ?_ ?_); rotate_left; (try dsimp only [c_OverI]); (try refine nrm ?_); rotate_right) | refine ret3 ?_ | refine end3 ?_) | (refine ar_cond rfl trivial ?_ ?_ <;> intro hc_ <;> (try simp only [isNilI, inB, reduceCtorEq, cds] at hc_) <;> (try (first | contradiction | (exfalso; omega) | (exfalso; grind)))) | refine ar_until (And.intro ?_ (wk3 ?_)))
      all_goals (first | refine ar_id ?_ | (try (focus ((try refine nrmO ?_); (repeat' (first | exact True.intro | refine And.intro ?_ ?_)); all_goals (try (intro (hg_ : _ = true); (try simp only [isNilI, inB, reduceCtorEq, cds] at hg_); (repeat' (first | exact True.intro | refine And.intro ?_ ?_)))); all_goals (first | exact ob1 | exact fn_OverI _ | skip)))))
      all_goals first | (rw [hfin hc_]; done) | (rw [hfin2 hc_]; done)
    · have hd : decide (overJ (S n).2) = false := decide_eq_false hR
      repeat' (refine ar_id ?_; first | refine st1 ?_ | (refine ar_drawS (id := 9) tt_ok (by kernel_rfl) [] ?_; refine ed_hide ?_; intro K_ hK_; repeat' (first | ((first | refine ed_call3 ?_ | refine ed_sure3 ?_ | refine ed_cons3 ?_); refine ed_hide ?_; intro K_ hK_; (try dsimp only [c_JStepI, c_OverI]); (try refine nrmE ?_)) | (refine ed_nil ?_; (repeat subst hK_); dsimp only; refine Exists.intro _ (And.intro rfl (And.intro (by kernel_rfl) (And.intro ?_ ?_))); rotate_left; (try dsimp only [c_JStepI, c_OverI]); (try refine nrm ?_); rotate_right))) | (first | ((first | refine ar_region (id := 6) tt_ok (inps := [.call (c_OverI (S n).2)]) rfl ?_ ?_ | refine ar_region (id := 7) tt_ok (inps := [.call (c_JStepI s (S n).1 (S n).2 (S (n + 1)).1 (S (n + 1)).2)]) rfl ?_ ?_ | refine ar_region tt_ok (inps := []) rfl ?_ ?_); rotate_left; (try dsimp only [c_JStepI, c_OverI]); (try refine nrm ?_); rotate_right) | refine ret3 ?_ | refine end3 ?_) | (refine ar_cond rfl trivial ?_ ?_ <;> intro hc_ <;> (try simp only [isNilI, inB, reduceCtorEq, cds] at hc_) <;> (try (first | contradiction | (exfalso; omega) | (exfalso; grind)))) | refine ar_until (And.intro ?_ (wk3 ?_)))
      all_goals (first | refine ar_id ?_ | (try (focus ((try refine nrmO ?_); (repeat' (first | exact True.intro | refine And.intro ?_ ?_)); all_goals (try (intro (hg_ : _ = true); (try simp only [isNilI, inB, reduceCtorEq, cds] at hg_); (repeat' (first | exact True.intro | refine And.intro ?_ ?_)))); all_goals (first | exact ob1 | exact fn_OverI _ | exact fn_JStepI s _ _ _ _ hsn hln (hsucc n hR) | exact hgl_.1 | exact hgl_.2.1 | exact hgl_.2.2.1 | exact hgl_.2.2.2.1 | exact hgl_.2.2.2.2.1 | exact hgl_.2.2.2.2.2.1 | exact hgl_.2.2.2.2.2.2.1 | exact hgl_.2.2.2.2.2.2.2.1 | exact hgl_ | exact rfl | exact one1 rfl | skip)))))
      all_goals first | (rw [hfin hc_]; done) | (rw [hfin2 hc_]; done)
    all_goals (rw [h0])
  · rw [if_neg hm] at h
    obtain ⟨rfl, rfl⟩ := Prod.mk.inj h
    refine fn_intro tt_ok Tryz.func51 rfl Tryz.call51 Tryz.ntmps51 Tryz.results51 rfl rfl rfl rfl ?_
    intro X ρ0 hb_ hgl_
    dsimp only [c_JRunI]
    try refine nrm ?_
    repeat' (refine ar_id ?_; first | refine st1 ?_ | (refine ar_drawS (id := 1) tt_ok (by kernel_rfl) [.call (c_CopyKI k), .call (c_copyJI j)] ?_; refine ed_hide ?_; intro K_ hK_; repeat' (first | ((first | refine ed_call3 ?_ | refine ed_sure3 ?_ | refine ed_cons3 ?_); refine ed_hide ?_; intro K_ hK_; (try dsimp only [c_CopyKI, c_copyJI]); (try refine nrmE ?_)) | (refine ed_nil ?_; (repeat subst hK_); dsimp only; refine Exists.intro _ (And.intro rfl (And.intro (by kernel_rfl) (And.intro ?_ ?_))); rotate_left; (try dsimp only [c_CopyKI, c_copyJI]); (try refine nrm ?_); rotate_right))) | (refine ar_drawS (id := 3) tt_ok (by kernel_rfl) [] ?_; refine ed_hide ?_; intro K_ hK_; repeat' (first | ((first | refine ed_call3 ?_ | refine ed_sure3 ?_ | refine ed_cons3 ?_); refine ed_hide ?_; intro K_ hK_; (try dsimp only [c_CopyKI, c_copyJI]); (try refine nrmE ?_)) | (refine ed_nil ?_; (repeat subst hK_); dsimp only; refine Exists.intro _ (And.intro rfl (And.intro (by kernel_rfl) (And.intro ?_ ?_))); rotate_left; (try dsimp only [c_CopyKI, c_copyJI]); (try refine nrm ?_); rotate_right))) | (first | ((first | refine ar_region tt_ok (inps := []) rfl ?_ ?_); rotate_left; (try dsimp only [c_CopyKI, c_copyJI]); (try refine nrm ?_); rotate_right) | refine ret3 ?_ | refine end3 ?_) | (refine ar_cond rfl trivial ?_ ?_ <;> intro hc_ <;> (try simp only [isNilI, inB, reduceCtorEq, cds] at hc_) <;> (try (first | contradiction | (exfalso; omega) | (exfalso; exact hm ⟨by omega, by omega⟩)))) | refine ar_until (And.intro ?_ (wk3 ?_)))
    all_goals (first | refine ar_id ?_ | (try (focus ((try refine nrmO ?_); (repeat' (first | exact True.intro | refine And.intro ?_ ?_)); all_goals (try (intro (hg_ : _ = true); (try simp only [isNilI, inB, reduceCtorEq, cds] at hg_); (repeat' (first | exact True.intro | refine And.intro ?_ ?_)))); all_goals (first | exact ob1 | exact hcp | exact fn_copyJI j hl | skip)))))
    all_goals trace_state
end Eng
end Go.Proofs.YtabnglcabpijfaaGreatDoor
namespace Go.Proofs.YtabnglcabpijfaaGreatDoor
open Go.RowKit
set_option linter.unusedVariables false
set_option linter.unusedSimpArgs false
set_option maxRecDepth 100000
namespace Tr
theorem sz_run200I (k : GKernel) (j : GJob) : sameSz k.Machine (pJobRun k j 200).1.Machine ∧ (pJobRun k j 200).1.Refuse = k.Refuse ∧ (pJobRun k j 200).2.Plan = j.Plan := sz_run k j 200
end Tr
namespace Eng
open Tr
def c_CloneW (l : List GWriter) : CFD := ⟨48, [.one (ro 46 4 eWriter l)], [], .sv (.one (.hd 0)), [(0, some (.row 46 4 (l.map eWriter)))], [0], []⟩
theorem fn_CloneW (l : List GWriter) (hl : l.length ≤ 1048576) : Fn Tryz.prog (c_CloneW l) := by
  refine fn_intro tt_ok Tryz.func48 rfl Tryz.call48 Tryz.ntmps48 Tryz.results48 rfl rfl rfl rfl ?_
  intro X ρ0 hb_ hgl_
  dsimp only [c_CloneW]
  try refine nrm ?_
  repeat' (refine ar_id ?_; first | refine st1 ?_ | (first | ((first | refine ar_region tt_ok (inps := []) rfl ?_ ?_); rotate_left; (try refine nrm ?_); rotate_right) | refine ret3 ?_ | refine end3 ?_) | (refine ar_cond rfl trivial ?_ ?_ <;> intro hc_ <;> (try simp only [isNilI, inB, reduceCtorEq, cds] at hc_) <;> (try (first | contradiction | (exfalso; omega)))) | refine ar_until (And.intro ?_ (wk3 ?_)))
  all_goals (first | refine ar_id ?_ | (try (focus ((try refine nrmO ?_); (repeat' (first | exact True.intro | refine And.intro ?_ ?_)); all_goals (try (intro (hg_ : _ = true); (try simp only [isNilI, inB, reduceCtorEq, cds] at hg_); (repeat' (first | exact True.intro | refine And.intro ?_ ?_)))); all_goals (first | exact ob1 | skip)))))
  refine ar_split (s := 0) rfl ?_ ?_
  · intro hn hc
    repeat' (refine ar_id ?_; first | refine st1 ?_ | (first | ((first | refine ar_region tt_ok (inps := []) rfl ?_ ?_); rotate_left; (try refine nrm ?_); rotate_right) | refine ret3 ?_ | refine end3 ?_) | (refine ar_cond rfl trivial ?_ ?_ <;> intro hc_ <;> (try simp only [isNilI, inB, reduceCtorEq, cds] at hc_) <;> (try (first | contradiction | (exfalso; omega)))) | refine ar_until (And.intro ?_ (wk3 ?_)))
    all_goals (first | refine ar_id ?_ | (try (focus ((try refine nrmO ?_); (repeat' (first | exact True.intro | refine And.intro ?_ ?_)); all_goals (try (intro (hg_ : _ = true); (try simp only [isNilI, inB, reduceCtorEq, cds] at hg_); (repeat' (first | exact True.intro | refine And.intro ?_ ?_)))); all_goals (first | exact ob1 | skip)))))
    refine ar_nil (s := 2) (T := 46) (q := 4) (r := 90000) rfl rfl ?_
    repeat' (refine ar_id ?_; first | refine st1 ?_ | (first | ((first | refine ar_region tt_ok (inps := []) rfl ?_ ?_); rotate_left; (try refine nrm ?_); rotate_right) | refine ret3 ?_ | refine end3 ?_) | (refine ar_cond rfl trivial ?_ ?_ <;> intro hc_ <;> (try simp only [isNilI, inB, reduceCtorEq, cds] at hc_) <;> (try (first | contradiction | (exfalso; omega)))) | refine ar_until (And.intro ?_ (wk3 ?_)))
    all_goals (first | refine ar_id ?_ | (try (focus ((try refine nrmO ?_); (repeat' (first | exact True.intro | refine And.intro ?_ ?_)); all_goals (try (intro (hg_ : _ = true); (try simp only [isNilI, inB, reduceCtorEq, cds] at hg_); (repeat' (first | exact True.intro | refine And.intro ?_ ?_)))); all_goals (first | exact ob1 | skip)))))
    rw [List.length_eq_zero_iff.1 hn]; rfl
  · intro ad cap hr
    repeat' (refine ar_id ?_; first | refine st1 ?_ | (first | ((first | refine ar_region tt_ok (inps := []) rfl ?_ ?_); rotate_left; (try refine nrm ?_); rotate_right) | refine ret3 ?_ | refine end3 ?_) | (refine ar_cond rfl trivial ?_ ?_ <;> intro hc_ <;> (try simp only [isNilI, inB, reduceCtorEq, cds] at hc_) <;> (try (first | contradiction | (exfalso; omega)))) | refine ar_until (And.intro ?_ (wk3 ?_)))
    all_goals (first | refine ar_id ?_ | (try (focus ((try refine nrmO ?_); (repeat' (first | exact True.intro | refine And.intro ?_ ?_)); all_goals (try (intro (hg_ : _ = true); (try simp only [isNilI, inB, reduceCtorEq, cds] at hg_); (repeat' (first | exact True.intro | refine And.intro ?_ ?_)))); all_goals (first | exact ob1 | skip)))))
    refine ar_read (s := 0) hr rfl ?_
    repeat' (refine ar_id ?_; first | refine st1 ?_ | (first | ((first | refine ar_region (id := 3) tt_ok (inps := [.elems (l.map eWriter)]) rfl ?_ ?_ | refine ar_region tt_ok (inps := []) rfl ?_ ?_); rotate_left; (try refine nrm ?_); rotate_right) | refine ret3 ?_ | refine end3 ?_) | (refine ar_cond rfl trivial ?_ ?_ <;> intro hc_ <;> (try simp only [isNilI, inB, reduceCtorEq, cds] at hc_) <;> (try (first | contradiction | (exfalso; omega)))) | refine ar_until (And.intro ?_ (wk3 ?_)))
    all_goals (first | refine ar_id ?_ | (try (focus ((try refine nrmO ?_); (repeat' (first | exact True.intro | refine And.intro ?_ ?_)); all_goals (try (intro (hg_ : _ = true); (try simp only [isNilI, inB, reduceCtorEq, cds] at hg_); (repeat' (first | exact True.intro | refine And.intro ?_ ?_)))); all_goals (first | exact ob1 | exact flat_map' l (fun x => ⟨rfl, rfl, rfl, rfl, rfl, trivial⟩) | exact (by simp only [lns]; omega) | exact (by simp) | skip)))))
def c_FinI (s : Se) (k : GKernel) (j : GJob) (ws : List GWriter) (r : WSt) : CFD := ⟨13, [.agg [ro 33 1 eIntS k.Machine.Frames.Cells, ro 4 1 Tr.eB k.Machine.Frames.Used, ro 42 2 eEntry k.Machine.Table.Entries, (CV.lit (.int .i64 (k.Calls))), ro 3 1 Tr.eI k.Refuse], .agg [(CV.lit (.int .i64 (j.Plan.Keep))), (CV.lit (.int .i64 (j.Plan.Move))), ro 3 1 Tr.eI j.Plan.Cells, (CV.lit (.int .i64 (j.Phase))), (CV.lit (.int .i64 (j.Next)))], .one (ro 46 4 eWriter ws)], [], .tup [.agg [.hd 0, .hd 1, .hd 2, (CV.lit (.int .i64 (r.k.Calls))), .hd 3], .agg [(CV.lit (.int .i64 (r.j.Plan.Keep))), (CV.lit (.int .i64 (r.j.Plan.Move))), .hd 4, (CV.lit (.int .i64 (r.j.Phase))), (CV.lit (.int .i64 (r.j.Next)))], .one (.hd 5)], [(0, some (.row 33 1 (r.k.Machine.Frames.Cells.map eIntS))), (1, some (.row 4 1 (r.k.Machine.Frames.Used.map Tr.eB))), (2, some (.row 42 2 (r.k.Machine.Table.Entries.map eEntry))), (3, some (.row 3 1 (r.k.Refuse.map Tr.eI))), (4, some (.row 3 1 (r.j.Plan.Cells.map Tr.eI))), (5, some (.row 46 4 (r.ws.map eWriter)))], [0, 1, 2, 3, 4, 5], s.gl⟩
set_option maxHeartbeats 8000000 in
theorem fn_FinI (s : Se) (k : GKernel) (j : GJob) (ws : List GWriter) (r : WSt) (hs : szK8 k) (hl : j.Plan.Cells.length ≤ 1048576) (hw : ws.length ≤ 1048576) (ha : ∀ n, okI (ws.getD n noW).Addr) (h : pFinish k j ws = r) : Fn Tryz.prog (c_FinI s k j ws r) := by
  obtain ⟨⟨k1, j1⟩, hr⟩ : ∃ r, pJobRun k j 200 = r := ⟨_, rfl⟩
  obtain ⟨g1, g2, g3⟩ := sz_run200I k j
  unfold pFinish at h
  rw [hr] at h g1 g2 g3
  have hs1 := szK8_same hs g1 g2
  have hz := sz_finW (k1, ws)
  have h0 : finW (k1, ws) 0 = (k1, ws) := rfl
  have hsucc : ∀ n, finW (k1, ws) (n + 1) = ((pWriterStep (finW (k1, ws) n).1 ((finW (k1, ws) n).2.getD n noW)).1, (finW (k1, ws) n).2.set n (pWriterStep (finW (k1, ws) n).1 ((finW (k1, ws) n).2.getD n noW)).2) := fun _ => rfl
  dsimp only at h
  generalize finW (k1, ws) = T at h h0 hsucc hz
  subst h
  refine fn_intro tt_ok Tryz.func13 rfl Tryz.call13 Tryz.ntmps13 Tryz.results13 rfl rfl rfl rfl ?_
  intro X ρ0 hb_ hgl_
  dsimp only [c_FinI]
  try refine nrm ?_
  repeat' (refine ar_id ?_; first | refine st1 ?_ | (first | ((first | refine ar_region (id := 1) tt_ok (inps := [.call (c_JRunI s k j 200 k1 j1)]) rfl ?_ ?_ | refine ar_region (id := 2) tt_ok (inps := [.call (c_CloneW ws)]) rfl ?_ ?_ | refine ar_region tt_ok (inps := []) rfl ?_ ?_); rotate_left; (try dsimp only [c_CloneW, c_JRunI]); (try refine nrm ?_); rotate_right) | refine ret3 ?_ | refine end3 ?_) | (refine ar_cond rfl trivial ?_ ?_ <;> intro hc_ <;> (try simp only [isNilI, inB, reduceCtorEq, cds] at hc_) <;> (try (first | contradiction | (exfalso; omega)))) | refine ar_until (And.intro ?_ (wk3 ?_)))
  all_goals (first | refine ar_id ?_ | (try (focus ((try refine nrmO ?_); (repeat' (first | exact True.intro | refine And.intro ?_ ?_)); all_goals (try (intro (hg_ : _ = true); (try simp only [isNilI, inB, reduceCtorEq, cds] at hg_); (repeat' (first | exact True.intro | refine And.intro ?_ ?_)))); all_goals (first | exact ob1 | exact fn_JRunI s k j 200 k1 j1 hs hl hr | exact fn_CloneW ws hw | exact hgl_.1 | exact hgl_.2.1 | exact hgl_.2.2.1 | exact hgl_.2.2.2.1 | exact hgl_.2.2.2.2.1 | exact hgl_.2.2.2.2.2.1 | exact hgl_.2.2.2.2.2.2.1 | exact hgl_.2.2.2.2.2.2.2.1 | exact hgl_ | exact rfl | exact one1 rfl | skip)))))
  dsimp only [zKerI, zJobI]
  refine ar_blocks [3, 4, 6, 7, 9, 10, 18000, 18001, 18002, 18003, 18004, 22000] (by dsimp only [selB, hasN] <;> exact rfl) ?_
  refine ar_keep 29376479 (by dsimp only [keepS] <;> exact rfl) ?_
  refine ar_forM (ws.length) (fun n => True) (fun n => [(24, (TV.sv (.one (.lit (.int .i64 (n)))))), (11, (TV.sv (.one (.hd 22000)))), (22, (TV.sv (.one (.hd 22000))))]) (fun n => [(9, some (.box 35 [.hd 18000, .hd 18001, .hd 18002, (CV.lit (.int .i64 (((T n).1).Calls))), .hd 18003])), (18000, some (.row 33 1 (((T n).1).Machine.Frames.Cells.map eIntS))), (18001, some (.row 4 1 (((T n).1).Machine.Frames.Used.map Tr.eB))), (18002, some (.row 42 2 (((T n).1).Machine.Table.Entries.map eEntry))), (18003, some (.row 3 1 (((T n).1).Refuse.map Tr.eI))), (22000, some (.row 46 4 ((T n).2.map eWriter)))]) ?_ ?_ ?_
  rotate_left
  · first | trivial | simp
  (dsimp only [rnCap, capSVs, Int.toNat_natCast, ro, Nat.reduceAdd, Nat.reduceMul, Nat.zero_add, List.map, putT, app, wrapG, gOb, argT, keys, slotOf, dropped, gAnd, wB, rnT, rnS, rnC, rnCs, rnSs, rnM, rnB, rnN, rn, lk, St.over, ded, delL, keepT, menT, menSs, menS, menCs, menC, hasN, resT, SV.cells]; refine wk3 ?_; (focus ((try refine nrmO ?_); (repeat' (first | exact True.intro | refine And.intro ?_ ?_)); all_goals (try (intro (hg_ : _ = true); (try simp only [isNilI, inB, reduceCtorEq, cds] at hg_); (repeat' (first | exact True.intro | refine And.intro ?_ ?_)))); all_goals (first | exact ob1 | exact rfl | skip))))
  rotate_right
  intro n hn_ hnI_
  dsimp only [rnCap, capSVs, Int.toNat_natCast, ro, Nat.reduceAdd, Nat.reduceMul, Nat.zero_add, List.map, putT, app, wrapG, gOb, argT, keys, slotOf, dropped, gAnd, wB, rnT, rnS, rnC, rnCs, rnSs, rnM, rnB, rnN, rn, lk, St.over, ded, delL, keepT, menT, menSs, menS, menCs, menC, hasN, resT, SV.cells]
  obtain ⟨z1, z2, z3, z4⟩ := hz n
  have hsn := szK8_same hs1 z1 z2
  have han : okI ((T n).2.getD n noW).Addr := by rw [z4]; exact ha n
  have hwn : (T n).2.length = ws.length := z3
  have hst := hsucc n
  obtain ⟨⟨k2, w1⟩, hW⟩ : ∃ r, pWriterStep (T n).1 ((T n).2.getD n noW) = r := ⟨_, rfl⟩
  rw [hW] at hst
  have hk1 : (T (n + 1)).1 = k2 := by rw [hst]
  have hw1 : (T (n + 1)).2 = (T n).2.set n w1 := by rw [hst]
  have hWr := fn_WriterI s _ _ _ _ hsn han hW
  repeat' (refine ar_id ?_; first | refine st1 ?_ | (refine ar_drawS (id := 8) tt_ok (by kernel_rfl) [] ?_; refine ed_hide ?_; intro K_ hK_; repeat' (first | ((first | refine ed_call3 ?_ | refine ed_sure3 ?_ | refine ed_cons3 ?_); refine ed_hide ?_; intro K_ hK_; (try dsimp only [c_WriterI]); (try refine nrmE ?_)) | (refine ed_nil ?_; (repeat subst hK_); dsimp only; refine Exists.intro _ (And.intro rfl (And.intro (by kernel_rfl) (And.intro ?_ ?_))); rotate_left; (try dsimp only [c_WriterI]); (try refine nrm ?_); rotate_right))) | (first | ((first | refine ar_region (id := 5) tt_ok (inps := [.elem (eWriter ((T n).2.getD n noW))]) rfl ?_ ?_ | refine ar_region (id := 6) tt_ok (inps := [.call (c_WriterI s (T n).1 ((T n).2.getD n noW) k2 w1), .elem (eWriter ((T n).2.getD n noW))]) rfl ?_ ?_ | refine ar_region tt_ok (inps := []) rfl ?_ ?_); rotate_left; (try dsimp only [c_WriterI]); (try refine nrm ?_); rotate_right) | refine ret3 ?_ | refine end3 ?_) | (refine ar_cond rfl trivial ?_ ?_ <;> intro hc_ <;> (try simp only [isNilI, inB, reduceCtorEq, cds] at hc_) <;> (try (first | contradiction | (exfalso; omega)))) | refine ar_until (And.intro ?_ (wk3 ?_)))
  all_goals (first | refine ar_id ?_ | (try (focus ((try refine nrmO ?_); (repeat' (first | exact True.intro | refine And.intro ?_ ?_)); all_goals (try (intro (hg_ : _ = true); (try simp only [isNilI, inB, reduceCtorEq, cds] at hg_); (repeat' (first | exact True.intro | refine And.intro ?_ ?_)))); all_goals (first | exact ob1 | exact hWr | exact hgl_.1 | exact hgl_.2.1 | exact hgl_.2.2.1 | exact hgl_.2.2.2.1 | exact hgl_.2.2.2.2.1 | exact hgl_.2.2.2.2.2.1 | exact hgl_.2.2.2.2.2.2.1 | exact hgl_.2.2.2.2.2.2.2.1 | exact hgl_ | exact rfl | exact one1 rfl | skip)))))
  all_goals first | (rw [hk1]; done) | (rw [hw1, List.map_set]; rfl) | (rw [show n = ws.length by omega]; done) | (rw [h0]; done)
end Eng
end Go.Proofs.YtabnglcabpijfaaGreatDoor
namespace Go.Proofs.YtabnglcabpijfaaGreatDoor
open Go.RowKit
set_option linter.unusedVariables false
set_option maxRecDepth 100000
namespace Eng
open Tr
theorem gl_at {w : World} {g : Nat} {cs : List Value} {T : Nat} (h : w.heap[g]? = some (.cells cs.toArray T (0, 0))) : GlX (cxOf w) ⟨g, cs, T, (0, 0)⟩ := ⟨h, LaidS.lt_of h⟩
theorem gl_arr {w : World} {g : Nat} {c : Array Value} {T : Nat} (h : w.heap[g]? = some (.cells c T (0, 0))) : GlX (cxOf w) ⟨g, c.toList, T, (0, 0)⟩ := gl_at (by rw [Array.toArray_toList]; exact h)
theorem se3 {w : World} (h : LaidS.At 226 [2, 0, 1] w) : ∃ s : Se, GlAll (GlX (cxOf w)) s.gl := by
  obtain ⟨xs, h1, h2, h3⟩ := h
  match xs, h1, h2 with
  | [a, b, c], _, h2 =>
    obtain ⟨⟨t1, k1⟩, c1, u1, l1⟩ := h3 0 _ a rfl rfl
    obtain ⟨⟨t2, k2⟩, c2, u2, l2⟩ := h3 1 _ b rfl rfl
    obtain ⟨⟨t3, k3⟩, c3, u3, l3⟩ := h3 2 _ c rfl rfl
    simp only [List.nodup_cons, List.mem_cons, List.not_mem_nil, or_false, not_or] at h2
    exact ⟨⟨a, b, c, c1.toList, c2.toList, c3.toList, u1, u2, u3, t1, t2, t3, h2.1.1, h2.1.2, h2.2.1⟩, gl_at k1, gl_at k2, gl_at k3, gl_arr l1, gl_arr l2, gl_arr l3, trivial⟩
end Eng
end Go.Proofs.YtabnglcabpijfaaGreatDoor

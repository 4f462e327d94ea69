/- Lemmas for the proofs, part 5 of 6: a symbolic run of the program, and what it needs. -/
import Derived.WalkKit
import Derived.LaidEql
import Derived.Stop.Asserts
import Derived.RowKitTokens
import Derived.Test.YtabnglcabpijfaaGreatDoorF4
namespace Go.Proofs.YtabnglcabpijfaaGreatDoor
open Go.RowKit
set_option linter.unusedVariables false
set_option linter.unusedSimpArgs false
set_option maxRecDepth 100000
namespace Eng
open Tr
def c_vir (v : Int) : CFD := ⟨138, [(SV.one (.lit (.int .i64 (v))))], [], (TV.sv (.one (.lit (.bool (inB v 0 999))))), [], [], []⟩
theorem fn_vir (v : Int) : Fn Tryz.prog (c_vir v) := by
  refine fn_intro tt_ok Tryz.func138 rfl Tryz.call138 Tryz.ntmps138 Tryz.results138 rfl rfl rfl rfl ?_
  intro X ρ0 hb_ hgl_
  dsimp only [c_vir]
  try refine nrm ?_
  repeat' (refine ar_id ?_; first | refine st1 ?_ | (first | ((first | refine ar_region tt_ok (inps := []) rfl ?_ ?_); rotate_left; (try refine nrm ?_); rotate_right) | refine ret3 ?_ | refine end3 ?_) | (refine ar_cond rfl trivial ?_ ?_ <;> intro hc_ <;> (try simp only [isNilI, inB, reduceCtorEq, cds] at hc_) <;> (try (first | contradiction | (exfalso; omega)))) | refine ar_until (And.intro ?_ (wk3 ?_)))
  all_goals (first | refine ar_id ?_ | (try (focus ((try refine nrmO ?_); (repeat' (first | exact True.intro | refine And.intro ?_ ?_)); all_goals (try (intro (hg_ : _ = true); (try simp only [isNilI, inB, reduceCtorEq, cds] at hg_); (repeat' (first | exact True.intro | refine And.intro ?_ ?_)))); all_goals (first | exact ob1 | skip)))))
  exact congrArg Value.bool (by unfold inB; cases h : decide (v ≥ 0) <;> simp_all)
def c_frameOk (r : List Int) (u : Bool) : CFD := ⟨134, [.one (ro 3 1 Tr.eI r), (SV.one (.lit (.bool (u))))], [], (TV.sv (.one (.lit (.bool (decide (okRow u r)))))), [], [], []⟩
theorem fn_frameOk (r : List Int) (u : Bool) (hl : r.length ≤ 1048576) : Fn Tryz.prog (c_frameOk r u) := by
  refine fn_intro tt_ok Tryz.func134 rfl Tryz.call134 Tryz.ntmps134 Tryz.results134 rfl rfl rfl rfl ?_
  intro X ρ0 hb_ hgl_
  dsimp only [c_frameOk]
  try refine nrm ?_
  repeat' (refine ar_id ?_; first | refine st1 ?_ | (first | ((first | refine ar_region tt_ok (inps := []) rfl ?_ ?_); rotate_left; (try refine nrm ?_); rotate_right) | refine ret3 ?_ | refine end3 ?_) | (refine ar_cond rfl trivial ?_ ?_ <;> intro hc_ <;> (try simp only [isNilI, inB, reduceCtorEq, cds] at hc_) <;> (try (first | contradiction | (exfalso; omega)))) | refine ar_until (And.intro ?_ (wk3 ?_)))
  all_goals (first | refine ar_id ?_ | (try (focus ((try refine nrmO ?_); (repeat' (first | exact True.intro | refine And.intro ?_ ?_)); all_goals (try (intro (hg_ : _ = true); (try simp only [isNilI, inB, reduceCtorEq, cds] at hg_); (repeat' (first | exact True.intro | refine And.intro ?_ ?_)))); all_goals (first | exact ob1 | skip)))))
  · exact bf fun h => hc_ (by rw [h.1]; rfl)
  have hlen := hc_
  refine ar_keep 7251 (by dsimp only [keepS] <;> exact rfl) ?_
  refine ar_forM (r.length) (fun i => ∀ v ∈ r.take i, okV u v) (fun i => [(12, (TV.sv (.one (.lit (.int .i64 (i))))))]) (fun i => []) ?_ ?_ ?_
  rotate_left
  · first | trivial | simp
  (dsimp only [rnCap, capSVs, Int.toNat_natCast, ro, Nat.reduceAdd, Nat.reduceMul, Nat.zero_add, List.map, putT, app, wrapG, gOb, argT, keys, slotOf, dropped, gAnd, wB, rnT, rnS, rnC, rnCs, rnSs, rnM, rnB, rnN, rn, lk, St.over, ded, delL, keepT, menT, menSs, menS, menCs, menC, hasN, resT, SV.cells]; refine wk3 ?_; (focus ((try refine nrmO ?_); (repeat' (first | exact True.intro | refine And.intro ?_ ?_)); all_goals (try (intro (hg_ : _ = true); (try simp only [isNilI, inB, reduceCtorEq, cds] at hg_); (repeat' (first | exact True.intro | refine And.intro ?_ ?_)))); all_goals (first | exact ob1 | exact rfl | skip))))
  rotate_right
  intro i hi_ hiI_
  dsimp only [rnCap, capSVs, Int.toNat_natCast, ro, Nat.reduceAdd, Nat.reduceMul, Nat.zero_add, List.map, putT, app, wrapG, gOb, argT, keys, slotOf, dropped, gAnd, wB, rnT, rnS, rnC, rnCs, rnSs, rnM, rnB, rnN, rn, lk, St.over, ded, delL, keepT, menT, menSs, menS, menCs, menC, hasN, resT, SV.cells]
  repeat' (refine ar_id ?_; first | refine st1 ?_ | (first | ((first | refine ar_region (id := 5) tt_ok (inps := [.elem (Tr.eI (r.getD i 0))]) rfl ?_ ?_ | refine ar_region (id := 6) tt_ok (inps := [.call (c_vir (r.getD i 0))]) rfl ?_ ?_ | refine ar_region tt_ok (inps := []) rfl ?_ ?_); rotate_left; (try dsimp only [c_vir]); (try refine nrm ?_); rotate_right) | refine ret3 ?_ | refine end3 ?_) | (refine ar_cond rfl trivial ?_ ?_ <;> intro hc_ <;> (try simp only [isNilI, inB, reduceCtorEq, cds] at hc_) <;> (try (first | contradiction | (exfalso; omega)))) | refine ar_until (And.intro ?_ (wk3 ?_)))
  all_goals (first | refine ar_id ?_ | (try (focus ((try refine nrmO ?_); (repeat' (first | exact True.intro | refine And.intro ?_ ?_)); all_goals (try (intro (hg_ : _ = true); (try simp only [isNilI, inB, reduceCtorEq, cds] at hg_); (repeat' (first | exact True.intro | refine And.intro ?_ ?_)))); all_goals (first | exact ob1 | exact fn_vir _ | skip)))))
  · refine bf fun h => ?_
    have := h.2 _ (getD_in (l := r) (i := i) (d := 0) (by omega))
    rcases hc_ with hc_ | ⟨h1, h2⟩
    · have := this.1; omega
    · rcases this.2 with h3 | h3
      · rw [h1] at h3; cases h3
      · exact h2 h3
  · exact all_take hiI_ (by omega) hc_
  · exact bt ⟨by omega, all_full hiI_ (by omega)⟩
theorem zip_getD {α β : Type} {l : List α} {m : List β} {i : Nat} {a : α} {b : β} (h1 : i < l.length) (h2 : i < m.length) : (l.zip m).getD i (a, b) = (l.getD i a, m.getD i b) := by
  have := zip_at (getD_at (x := a) h1) (getD_at (x := b) h2)
  rw [List.getD_eq_getElem?_getD, this]
  rfl
def c_FramesOkI (f : GFrames) : CFD := ⟨94, [.agg [ro 33 1 eIntS f.Cells, ro 4 1 Tr.eB f.Used]], [], (TV.sv (.one (.lit (.bool (pFramesOk f))))), [], [], []⟩
theorem fn_FramesOkI (f : GFrames) (hl : f.Cells.length ≤ 1048576) (hu : f.Used.length ≤ 1048576) (hc : ∀ r ∈ f.Cells, r.length ≤ 1048576) : Fn Tryz.prog (c_FramesOkI f) := by
  refine fn_intro tt_ok Tryz.func94 rfl Tryz.call94 Tryz.ntmps94 Tryz.results94 rfl rfl rfl rfl ?_
  intro X ρ0 hb_ hgl_
  dsimp only [c_FramesOkI]
  try refine nrm ?_
  repeat' (refine ar_id ?_; first | refine st1 ?_ | (first | ((first | refine ar_region tt_ok (inps := []) rfl ?_ ?_); rotate_left; (try refine nrm ?_); rotate_right) | refine ret3 ?_ | refine end3 ?_) | (refine ar_cond rfl trivial ?_ ?_ <;> intro hc_ <;> (try simp only [isNilI, inB, reduceCtorEq, cds] at hc_) <;> (try (first | contradiction | (exfalso; omega)))) | refine ar_until (And.intro ?_ (wk3 ?_)))
  all_goals (first | refine ar_id ?_ | (try (focus ((try refine nrmO ?_); (repeat' (first | exact True.intro | refine And.intro ?_ ?_)); all_goals (try (intro (hg_ : _ = true); (try simp only [isNilI, inB, reduceCtorEq, cds] at hg_); (repeat' (first | exact True.intro | refine And.intro ?_ ?_)))); all_goals (first | exact ob1 | skip)))))
  · exact bf fun h => by have := h.1; have := h.2.1; omega
  have hlen := hc_
  refine ar_keep 234881055 (by dsimp only [keepS] <;> exact rfl) ?_
  refine ar_forM (f.Cells.length) (fun i => ∀ p ∈ (f.Cells.zip f.Used).take i, okRow p.2 p.1) (fun i => [(27, (TV.sv (.one (.lit (.int .i64 (i))))))]) (fun i => []) ?_ ?_ ?_
  rotate_left
  · first | trivial | simp
  (dsimp only [rnCap, capSVs, Int.toNat_natCast, ro, Nat.reduceAdd, Nat.reduceMul, Nat.zero_add, List.map, putT, app, wrapG, gOb, argT, keys, slotOf, dropped, gAnd, wB, rnT, rnS, rnC, rnCs, rnSs, rnM, rnB, rnN, rn, lk, St.over, ded, delL, keepT, menT, menSs, menS, menCs, menC, hasN, resT, SV.cells]; refine wk3 ?_; (focus ((try refine nrmO ?_); (repeat' (first | exact True.intro | refine And.intro ?_ ?_)); all_goals (try (intro (hg_ : _ = true); (try simp only [isNilI, inB, reduceCtorEq, cds] at hg_); (repeat' (first | exact True.intro | refine And.intro ?_ ?_)))); all_goals (first | exact ob1 | exact rfl | skip))))
  rotate_right
  intro i hi_ hiI_
  dsimp only [rnCap, capSVs, Int.toNat_natCast, ro, Nat.reduceAdd, Nat.reduceMul, Nat.zero_add, List.map, putT, app, wrapG, gOb, argT, keys, slotOf, dropped, gAnd, wB, rnT, rnS, rnC, rnCs, rnSs, rnM, rnB, rnN, rn, lk, St.over, ded, delL, keepT, menT, menSs, menS, menCs, menC, hasN, resT, SV.cells]
  repeat' (refine ar_id ?_; first | refine st1 ?_ | (first | ((first | refine ar_region (id := 5) tt_ok (inps := [.elem (eIntS (f.Cells.getD i []))]) rfl ?_ ?_ | refine ar_region (id := 6) tt_ok (inps := [.elem (Tr.eB (f.Used.getD i false)), .call (c_frameOk (f.Cells.getD i []) (f.Used.getD i false))]) rfl ?_ ?_ | refine ar_region tt_ok (inps := []) rfl ?_ ?_); rotate_left; (try dsimp only [c_frameOk]); (try refine nrm ?_); rotate_right) | refine ret3 ?_ | refine end3 ?_) | (refine ar_cond rfl trivial ?_ ?_ <;> intro hc_ <;> (try simp only [isNilI, inB, reduceCtorEq, cds] at hc_) <;> (try (first | contradiction | (exfalso; omega)))) | refine ar_until (And.intro ?_ (wk3 ?_)))
  all_goals (first | refine ar_id ?_ | (try (focus ((try refine nrmO ?_); (repeat' (first | exact True.intro | refine And.intro ?_ ?_)); all_goals (try (intro (hg_ : _ = true); (try simp only [isNilI, inB, reduceCtorEq, cds] at hg_); (repeat' (first | exact True.intro | refine And.intro ?_ ?_)))); all_goals (first | exact ob1 | exact fn_frameOk _ _ (hc _ (getD_in (by omega))) | skip)))))
  · refine bf fun h => hc_ ?_
    have := h.2.2 _ (getD_in (l := f.Cells.zip f.Used) (i := i) (d := ([], false)) (by rw [List.length_zip]; omega))
    rwa [zip_getD (by omega) (by omega)] at this
  · exact all_take (d := ([], false)) hiI_ (by rw [List.length_zip]; omega) (by rw [zip_getD (by omega) (by omega)]; exact hc_)
  · exact bt ⟨by omega, by omega, all_full hiI_ (by rw [List.length_zip]; omega)⟩
def c_Copy5I (f : GFrames) : CFD := ⟨124, [.agg [ro 33 1 eIntS f.Cells, ro 4 1 Tr.eB f.Used]], [], .sv (.agg [.hd 0, .hd 1]),
  [(0, some (.row 33 1 (f.Cells.map eIntS))), (1, some (.row 4 1 (f.Used.map Tr.eB)))], [0, 1], []⟩
theorem fn_Copy5I (f : GFrames) (hl : f.Cells.length ≤ 1048576) (hu : f.Used.length ≤ 1048576) (hc : ∀ r ∈ f.Cells, r.length ≤ 1048576) : Fn Tryz.prog (c_Copy5I f) := by
  refine fn_intro tt_ok Tryz.func124 rfl Tryz.call124 Tryz.ntmps124 Tryz.results124 rfl rfl rfl rfl ?_
  intro X ρ0 hb_ hgl_
  dsimp only [c_Copy5I]
  try refine nrm ?_
  repeat' (refine ar_id ?_; first | refine st1 ?_ | (first | ((first | refine ar_region tt_ok (inps := []) rfl ?_ ?_); rotate_left; (try refine nrm ?_); rotate_right) | refine ret3 ?_ | refine end3 ?_) | (refine ar_cond rfl trivial ?_ ?_ <;> intro hc_ <;> (try simp only [isNilI, inB, reduceCtorEq, cds] at hc_) <;> (try (first | contradiction | (exfalso; omega)))) | refine ar_until (And.intro ?_ (wk3 ?_)))
  all_goals (first | refine ar_id ?_ | (try (focus ((try refine nrmO ?_); (repeat' (first | exact True.intro | refine And.intro ?_ ?_)); all_goals (try (intro (hg_ : _ = true); (try simp only [isNilI, inB, reduceCtorEq, cds] at hg_); (repeat' (first | exact True.intro | refine And.intro ?_ ?_)))); all_goals (first | exact ob1 | skip)))))
  refine ar_keep 3103 (by dsimp only [keepS] <;> exact rfl) ?_
  refine ar_forM (f.Cells.length) (fun i => True) (fun i => [(11, (TV.sv (.one (.lit (.int .i64 (i)))))), (3, (TV.sv (.one (.hd 8))))]) (fun i => [(8, some (.row 33 1 ((f.Cells.take i).map eIntS ++ List.replicate (f.Cells.length - i) (dOf [.slice none 0 0]))))]) ?_ ?_ ?_
  rotate_left
  · first | trivial | simp
  (dsimp only [rnCap, capSVs, Int.toNat_natCast, ro, Nat.reduceAdd, Nat.reduceMul, Nat.zero_add, List.map, putT, app, wrapG, gOb, argT, keys, slotOf, dropped, gAnd, wB, rnT, rnS, rnC, rnCs, rnSs, rnM, rnB, rnN, rn, lk, St.over, ded, delL, keepT, menT, menSs, menS, menCs, menC, hasN, resT, SV.cells]; refine wk3 ?_; (focus ((try refine nrmO ?_); (repeat' (first | exact True.intro | refine And.intro ?_ ?_)); all_goals (try (intro (hg_ : _ = true); (try simp only [isNilI, inB, reduceCtorEq, cds] at hg_); (repeat' (first | exact True.intro | refine And.intro ?_ ?_)))); all_goals (first | exact ob1 | exact rfl | skip))))
  rotate_right
  intro i hi_ hiI_
  dsimp only [rnCap, capSVs, Int.toNat_natCast, ro, Nat.reduceAdd, Nat.reduceMul, Nat.zero_add, List.map, putT, app, wrapG, gOb, argT, keys, slotOf, dropped, gAnd, wB, rnT, rnS, rnC, rnCs, rnSs, rnM, rnB, rnN, rn, lk, St.over, ded, delL, keepT, menT, menSs, menS, menCs, menC, hasN, resT, SV.cells]
  repeat' (refine ar_id ?_; first | refine st1 ?_ | (first | ((first | refine ar_region (id := 5) tt_ok (inps := [.elem (eIntS (f.Cells.getD i [])), .elem (dOf [.slice none 0 0])]) rfl ?_ ?_ | refine ar_region tt_ok (inps := []) rfl ?_ ?_); rotate_left; (try refine nrm ?_); rotate_right) | refine ret3 ?_ | refine end3 ?_) | (refine ar_cond rfl trivial ?_ ?_ <;> intro hc_ <;> (try simp only [isNilI, inB, reduceCtorEq, cds] at hc_) <;> (try (first | contradiction | (exfalso; omega)))) | refine ar_until (And.intro ?_ (wk3 ?_)))
  all_goals (first | refine ar_id ?_ | (try (focus ((try refine nrmO ?_); (repeat' (first | exact True.intro | refine And.intro ?_ ?_)); all_goals (try (intro (hg_ : _ = true); (try simp only [isNilI, inB, reduceCtorEq, cds] at hg_); (repeat' (first | exact True.intro | refine And.intro ?_ ?_)))); all_goals (first | exact ob1 | skip)))))
  · have := hc _ (getD_in (l := f.Cells) (i := i) (d := []) (by omega)); simp only [List.length_map]; omega
  · rw [Int.toNat_natCast]; exact fill_at _ _ _ (by omega)
  · have hlen : i < ((f.Cells.take i).map eIntS ++ List.replicate (f.Cells.length - i) (dOf [.slice none 0 0])).length := by rw [fill_len _ _ _ (by omega)]; omega
    refine ar_row 8 (((f.Cells.take i).map eIntS ++ List.replicate (f.Cells.length - i) (dOf [.slice none 0 0])).set i (eIntS (List.replicate (f.Cells.getD i []).length 0))) rfl ((congrArg (List.set _ i) (by show D.row _ _ _ _ _ = D.row _ _ _ _ _; rw [List.map_replicate, List.length_map]; rfl))) ?_
    refine ar_open 8 i 0 90001 90002 (d := eIntS (List.replicate (f.Cells.getD i []).length 0)) ((List.replicate (f.Cells.getD i []).length 0).map eI) rfl ?_ rfl ?_ rfl rfl rfl ?_
    · first | exact map_at (by omega) | assumption | exact set_at (by (try simp only [List.length_map, List.length_set]); omega) | (rw [List.getElem?_set_ne (by omega)]; exact map_at (by omega))
    · exact ⟨rfl, rfl, by intro e he; simp only [List.mem_map] at he; obtain ⟨_, _, rfl⟩ := he; rfl⟩
    intro A_90001 n_90001 c_90001
    try refine nrm ?_
    refine ar_draw (id := 6) (inps := [ .nest (.lit (Value.slice A_90001 n_90001 c_90001) .nil) [(0, 90002)], .elem (eIntS (f.Cells.getD i [])), .elems ((f.Cells.getD i []).map eI)]) tt_ok (by kernel_rfl) rfl rfl (by kernel_rfl) rfl rfl rfl rfl ?_ ?_
    rotate_left
    (try refine nrm ?_)
    refine ar_close 8 i 0 90001 90002 rfl rfl rfl (set_at ?_) rfl rfl rfl ?_
    · (simp only [List.length_map, List.length_set]; omega)
    try refine nrm ?_
    repeat' (refine ar_id ?_; first | refine st1 ?_ | (first | ((first | refine ar_region tt_ok (inps := []) rfl ?_ ?_); rotate_left; (try refine nrm ?_); rotate_right) | refine ret3 ?_ | refine end3 ?_) | (refine ar_cond rfl trivial ?_ ?_ <;> intro hc_ <;> (try simp only [isNilI, inB, reduceCtorEq, cds] at hc_) <;> (try (first | contradiction | (exfalso; omega)))) | refine ar_until (And.intro ?_ (wk3 ?_)))
    all_goals (first | refine ar_id ?_ | (try (focus ((try refine nrmO ?_); (repeat' (first | exact True.intro | refine And.intro ?_ ?_)); all_goals (try (intro (hg_ : _ = true); (try simp only [isNilI, inB, reduceCtorEq, cds] at hg_); (repeat' (first | exact True.intro | refine And.intro ?_ ?_)))); all_goals (first | exact ob1 | skip)))))
    all_goals (try (focus ((try refine nrmO ?_); (repeat' (first | exact True.intro | refine And.intro ?_ ?_)); all_goals (try (intro (hg_ : _ = true); (try simp only [isNilI, inB, reduceCtorEq, cds] at hg_); (repeat' (first | exact True.intro | refine And.intro ?_ ?_)))); all_goals (first | exact ob1 | exact flat_map' (f.Cells.getD i []) (fun x => ⟨rfl, rfl, trivial⟩) | exact (fun d hd => by obtain ⟨_, _, rfl⟩ := List.mem_map.1 hd; exact ⟨rfl, trivial⟩) | skip))))
    · rw [List.set_set, List.set_set]; exact fill_step eIntS f.Cells _ [] (by omega)
    · rw [List.length_map, List.length_map, List.length_replicate]
  · skip
    repeat' (refine ar_id ?_; first | refine st1 ?_ | (first | ((first | refine ar_region (id := 8) tt_ok (inps := [.call (c_CloneB f.Used)]) rfl ?_ ?_ | refine ar_region tt_ok (inps := []) rfl ?_ ?_); rotate_left; (try dsimp only [c_CloneB]); (try refine nrm ?_); rotate_right) | refine ret3 ?_ | refine end3 ?_) | (refine ar_cond rfl trivial ?_ ?_ <;> intro hc_ <;> (try simp only [isNilI, inB, reduceCtorEq, cds] at hc_) <;> (try (first | contradiction | (exfalso; omega)))) | refine ar_until (And.intro ?_ (wk3 ?_)))
    all_goals (first | refine ar_id ?_ | (try (focus ((try refine nrmO ?_); (repeat' (first | exact True.intro | refine And.intro ?_ ?_)); all_goals (try (intro (hg_ : _ = true); (try simp only [isNilI, inB, reduceCtorEq, cds] at hg_); (repeat' (first | exact True.intro | refine And.intro ?_ ?_)))); all_goals (first | exact ob1 | exact fn_CloneB _ hu | skip)))))
    exact fill_end eIntS f.Cells _ (by omega)
end Eng
end Go.Proofs.YtabnglcabpijfaaGreatDoor
namespace Go.Proofs.YtabnglcabpijfaaGreatDoor
open Go.RowKit
set_option linter.unusedVariables false
set_option linter.unusedSimpArgs false
set_option maxRecDepth 100000
namespace Eng
open Tr
def c_isMapped (md fr : Int) : CFD := ⟨128, [.agg [(CV.lit (.int .i64 (md))), (CV.lit (.int .i64 (fr)))]], [], (TV.sv (.one (.lit (.bool (md != 0))))), [], [], []⟩
theorem fn_isMapped (md fr : Int) : Fn Tryz.prog (c_isMapped md fr) := by
  refine fn_intro tt_ok Tryz.func128 rfl Tryz.call128 Tryz.ntmps128 Tryz.results128 rfl rfl rfl rfl ?_
  intro X ρ0 hb_ hgl_
  dsimp only [c_isMapped]
  try refine nrm ?_
  repeat' (refine ar_id ?_; first | refine st1 ?_ | (first | ((first | refine ar_region tt_ok (inps := []) rfl ?_ ?_); rotate_left; (try refine nrm ?_); rotate_right) | refine ret3 ?_ | refine end3 ?_) | (refine ar_cond rfl trivial ?_ ?_ <;> intro hc_ <;> (try simp only [isNilI, inB, reduceCtorEq, cds] at hc_) <;> (try (first | contradiction | (exfalso; omega)))) | refine ar_until (And.intro ?_ (wk3 ?_)))
  all_goals (first | refine ar_id ?_ | (try (focus ((try refine nrmO ?_); (repeat' (first | exact True.intro | refine And.intro ?_ ?_)); all_goals (try (intro (hg_ : _ = true); (try simp only [isNilI, inB, reduceCtorEq, cds] at hg_); (repeat' (first | exact True.intro | refine And.intro ?_ ?_)))); all_goals (first | exact ob1 | skip)))))
def okA (md fr : Int) : Prop := (md = 0 ∧ fr = 0) ∨ ((md = 1 ∨ md = 2) ∧ 0 ≤ fr)
instance (md fr : Int) : Decidable (okA md fr) := by unfold okA; infer_instance
def c_entryOk (md fr : Int) : CFD := ⟨135, [.agg [(CV.lit (.int .i64 (md))), (CV.lit (.int .i64 (fr)))]], [], (TV.sv (.one (.lit (.bool (decide (okA md fr)))))), [], [], []⟩
theorem fn_entryOk (md fr : Int) : Fn Tryz.prog (c_entryOk md fr) := by
  refine fn_intro tt_ok Tryz.func135 rfl Tryz.call135 Tryz.ntmps135 Tryz.results135 rfl rfl rfl rfl ?_
  intro X ρ0 hb_ hgl_
  dsimp only [c_entryOk]
  try refine nrm ?_
  repeat' (refine ar_id ?_; first | refine st1 ?_ | (first | ((first | refine ar_region (id := 1) tt_ok (inps := [.call (c_isMapped md fr)]) rfl ?_ ?_ | refine ar_region tt_ok (inps := []) rfl ?_ ?_); rotate_left; (try dsimp only [c_isMapped]); (try refine nrm ?_); rotate_right) | refine ret3 ?_ | refine end3 ?_) | (refine ar_cond rfl trivial ?_ ?_ <;> intro hc_ <;> (try simp only [isNilI, inB, reduceCtorEq, cds] at hc_) <;> (try (first | contradiction | (exfalso; omega)))) | refine ar_until (And.intro ?_ (wk3 ?_)))
  all_goals (first | refine ar_id ?_ | (try (focus ((try refine nrmO ?_); (repeat' (first | exact True.intro | refine And.intro ?_ ?_)); all_goals (try (intro (hg_ : _ = true); (try simp only [isNilI, inB, reduceCtorEq, cds] at hg_); (repeat' (first | exact True.intro | refine And.intro ?_ ?_)))); all_goals (first | exact ob1 | exact fn_isMapped _ _ | skip)))))
  · refine congrArg Value.bool ?_
    subst hc_
    by_cases h : fr = 0
    · subst h; rfl
    · simp [okA, h]
  · refine congrArg Value.bool ?_
    simp only [okA, cond_ite]
    rw [Bool.eq_iff_iff]
    split <;> split <;> simp_all <;> omega
def c_TableOkI (t : GTable) (frames : Int) : CFD := ⟨95, [.agg [ro 42 2 eEntry t.Entries], (SV.one (.lit (.int .i64 (frames))))], [], (TV.sv (.one (.lit (.bool (pTableOk t frames))))), [], [], []⟩
theorem fn_TableOkI (t : GTable) (frames : Int) (hl : t.Entries.length ≤ 1048576) : Fn Tryz.prog (c_TableOkI t frames) := by
  refine fn_intro tt_ok Tryz.func95 rfl Tryz.call95 Tryz.ntmps95 Tryz.results95 rfl rfl rfl rfl ?_
  intro X ρ0 hb_ hgl_
  dsimp only [c_TableOkI]
  try refine nrm ?_
  repeat' (refine ar_id ?_; first | refine st1 ?_ | (first | ((first | refine ar_region tt_ok (inps := []) rfl ?_ ?_); rotate_left; (try refine nrm ?_); rotate_right) | refine ret3 ?_ | refine end3 ?_) | (refine ar_cond rfl trivial ?_ ?_ <;> intro hc_ <;> (try simp only [isNilI, inB, reduceCtorEq, cds] at hc_) <;> (try (first | contradiction | (exfalso; omega)))) | refine ar_until (And.intro ?_ (wk3 ?_)))
  all_goals (first | refine ar_id ?_ | (try (focus ((try refine nrmO ?_); (repeat' (first | exact True.intro | refine And.intro ?_ ?_)); all_goals (try (intro (hg_ : _ = true); (try simp only [isNilI, inB, reduceCtorEq, cds] at hg_); (repeat' (first | exact True.intro | refine And.intro ?_ ?_)))); all_goals (first | exact ob1 | skip)))))
  · exact bf fun h => by have := h.2; omega
  have hlen := hc_
  refine ar_keep 1835095 (by dsimp only [keepS] <;> exact rfl) ?_
  refine ar_forM (t.Entries.length) (fun i => ∀ e ∈ t.Entries.take i, okE frames e) (fun i => [(20, (TV.sv (.one (.lit (.int .i64 (i))))))]) (fun i => []) ?_ ?_ ?_
  rotate_left
  · first | trivial | simp
  (dsimp only [rnCap, capSVs, Int.toNat_natCast, ro, Nat.reduceAdd, Nat.reduceMul, Nat.zero_add, List.map, putT, app, wrapG, gOb, argT, keys, slotOf, dropped, gAnd, wB, rnT, rnS, rnC, rnCs, rnSs, rnM, rnB, rnN, rn, lk, St.over, ded, delL, keepT, menT, menSs, menS, menCs, menC, hasN, resT, SV.cells]; refine wk3 ?_; (focus ((try refine nrmO ?_); (repeat' (first | exact True.intro | refine And.intro ?_ ?_)); all_goals (try (intro (hg_ : _ = true); (try simp only [isNilI, inB, reduceCtorEq, cds] at hg_); (repeat' (first | exact True.intro | refine And.intro ?_ ?_)))); all_goals (first | exact ob1 | exact rfl | skip))))
  rotate_right
  intro i hi_ hiI_
  dsimp only [rnCap, capSVs, Int.toNat_natCast, ro, Nat.reduceAdd, Nat.reduceMul, Nat.zero_add, List.map, putT, app, wrapG, gOb, argT, keys, slotOf, dropped, gAnd, wB, rnT, rnS, rnC, rnCs, rnSs, rnM, rnB, rnN, rn, lk, St.over, ded, delL, keepT, menT, menSs, menS, menCs, menC, hasN, resT, SV.cells]
  repeat' (refine ar_id ?_; first | refine st1 ?_ | (first | ((first | refine ar_region (id := 5) tt_ok (inps := [.elem (eEntry (t.Entries.getD i ⟨0, 0⟩))]) rfl ?_ ?_ | refine ar_region (id := 6) tt_ok (inps := [.call (c_entryOk (t.Entries.getD i ⟨0, 0⟩).Mode (t.Entries.getD i ⟨0, 0⟩).Frame), .call (c_isMapped (t.Entries.getD i ⟨0, 0⟩).Mode (t.Entries.getD i ⟨0, 0⟩).Frame)]) rfl ?_ ?_ | refine ar_region tt_ok (inps := []) rfl ?_ ?_); rotate_left; (try dsimp only [c_entryOk, c_isMapped]); (try refine nrm ?_); rotate_right) | refine ret3 ?_ | refine end3 ?_) | (refine ar_cond rfl trivial ?_ ?_ <;> intro hc_ <;> (try simp only [isNilI, inB, reduceCtorEq, cds] at hc_) <;> (try (first | contradiction | (exfalso; omega)))) | refine ar_until (And.intro ?_ (wk3 ?_)))
  all_goals (first | refine ar_id ?_ | (try (focus ((try refine nrmO ?_); (repeat' (first | exact True.intro | refine And.intro ?_ ?_)); all_goals (try (intro (hg_ : _ = true); (try simp only [isNilI, inB, reduceCtorEq, cds] at hg_); (repeat' (first | exact True.intro | refine And.intro ?_ ?_)))); all_goals (first | exact ob1 | exact fn_entryOk _ _ | exact fn_isMapped _ _ | skip)))))
  · refine bf fun h => ?_
    have := h.1 _ (getD_in (l := t.Entries) (i := i) (d := ⟨0, 0⟩) (by omega))
    unfold okE at this
    unfold okA at hc_
    omega
  · refine all_take (d := ⟨0, 0⟩) hiI_ (by omega) ?_
    unfold okE
    unfold okA at hc_
    omega
  · exact bt ⟨all_full hiI_ (by omega), by omega, by omega⟩
def c_pageExists (t : GTable) (page : Int) : CFD := ⟨162, [.agg [ro 42 2 eEntry t.Entries], (SV.one (.lit (.int .i64 (page))))], [], (TV.sv (.one (.lit (.bool (decide (0 ≤ page ∧ page < (t.Entries.length : Int))))))), [], [], []⟩
theorem fn_pageExists (t : GTable) (page : Int) (hl : t.Entries.length ≤ 1048576) : Fn Tryz.prog (c_pageExists t page) := by
  refine fn_intro tt_ok Tryz.func162 rfl Tryz.call162 Tryz.ntmps162 Tryz.results162 rfl rfl rfl rfl ?_
  intro X ρ0 hb_ hgl_
  dsimp only [c_pageExists]
  try refine nrm ?_
  repeat' (refine ar_id ?_; first | refine st1 ?_ | (first | ((first | refine ar_region tt_ok (inps := []) rfl ?_ ?_); rotate_left; (try refine nrm ?_); rotate_right) | refine ret3 ?_ | refine end3 ?_) | (refine ar_cond rfl trivial ?_ ?_ <;> intro hc_ <;> (try simp only [isNilI, inB, reduceCtorEq, cds] at hc_) <;> (try (first | contradiction | (exfalso; omega)))) | refine ar_until (And.intro ?_ (wk3 ?_)))
  all_goals (first | refine ar_id ?_ | (try (focus ((try refine nrmO ?_); (repeat' (first | exact True.intro | refine And.intro ?_ ?_)); all_goals (try (intro (hg_ : _ = true); (try simp only [isNilI, inB, reduceCtorEq, cds] at hg_); (repeat' (first | exact True.intro | refine And.intro ?_ ?_)))); all_goals (first | exact ob1 | skip)))))
  refine congrArg Value.bool ?_
  rw [cond_ite, Bool.eq_iff_iff]
  split <;> simp_all <;> omega
def c_PageEntryI (t : GTable) (page : Int) : CFD := ⟨126, [.agg [ro 42 2 eEntry t.Entries], (SV.one (.lit (.int .i64 (page))))], [], .sv (.agg [(CV.lit (.int .i64 ((pPageEntry t page).Mode))), (CV.lit (.int .i64 ((pPageEntry t page).Frame)))]), [], [], []⟩
theorem fn_PageEntryI (t : GTable) (page : Int) (hl : t.Entries.length ≤ 1048576) : Fn Tryz.prog (c_PageEntryI t page) := by
  refine fn_intro tt_ok Tryz.func126 rfl Tryz.call126 Tryz.ntmps126 Tryz.results126 rfl rfl rfl rfl ?_
  intro X ρ0 hb_ hgl_
  dsimp only [c_PageEntryI]
  try refine nrm ?_
  repeat' (refine ar_id ?_; first | refine st1 ?_ | (first | ((first | refine ar_region (id := 1) tt_ok (inps := [.call (c_pageExists t page)]) rfl ?_ ?_ | refine ar_region (id := 3) tt_ok (inps := [.elem (eEntry (t.Entries.getD page.toNat ⟨0, 0⟩))]) rfl ?_ ?_ | refine ar_region tt_ok (inps := []) rfl ?_ ?_); rotate_left; (try dsimp only [c_pageExists]); (try refine nrm ?_); rotate_right) | refine ret3 ?_ | refine end3 ?_) | (refine ar_cond rfl trivial ?_ ?_ <;> intro hc_ <;> (try simp only [isNilI, inB, reduceCtorEq, cds] at hc_) <;> (try (first | contradiction | (exfalso; omega)))) | refine ar_until (And.intro ?_ (wk3 ?_)))
  all_goals (first | refine ar_id ?_ | (try (focus ((try refine nrmO ?_); (repeat' (first | exact True.intro | refine And.intro ?_ ?_)); all_goals (try (intro (hg_ : _ = true); (try simp only [isNilI, inB, reduceCtorEq, cds] at hg_); (repeat' (first | exact True.intro | refine And.intro ?_ ?_)))); all_goals (first | exact ob1 | exact fn_pageExists _ _ hl | skip)))))
  all_goals unfold pPageEntry
  · rw [if_neg hc_]
  · rw [if_neg hc_]
  · rw [if_pos hc_]
  · rw [if_pos hc_]
end Eng
end Go.Proofs.YtabnglcabpijfaaGreatDoor
namespace Go.Proofs.YtabnglcabpijfaaGreatDoor
open Go.RowKit Go.Extern.Stop Go.Stop Go.Extern
set_option linter.unusedVariables false
namespace Is
theorem typeOf (v : Value) (w : World) : (Extern.ReflectliteType.typeOf #[.iface 226 v]).run Tryz.prog w = .ok (.iface 206 (.agg #[.pointer (some ⟨3, 226, none⟩)])) w := by kernel_rfl
theorem comparable (w : World) : (callFunc 196 #[.agg #[.pointer (some ⟨3, 226, none⟩)]]).run Tryz.prog w = .ok (.value (.bool true)) w := by kernel_rfl
theorem methodComparable (v : Value) (w : World) : (Go.method 364 206 v "Comparable").run Tryz.prog w = .ok (196, v) w := by kernel_rfl
theorem comp : (Tryz.prog.info? 226).map (·.comparable) = some true := by kernel_rfl
theorem size : (Tryz.prog.info? 252).map (·.size) = some 1 := by kernel_rfl
theorem noIs (v : Value) (xT : TypeId) (w : World) : (Instr.typeAssert (.iface 226 v) xT 208 true).run Tryz.prog w = .ok (.tuple #[.nilIface, .bool false]) w := run_typeAssert_lacksB Tryz.underlying208 (by kernel_rfl) (by kernel_rfl) v xT w
theorem noUnwrap (v : Value) (xT : TypeId) (w : World) : (Instr.typeAssert (.iface 226 v) xT 211 true).run Tryz.prog w = .ok (.tuple #[.nilIface, .bool false]) w := run_typeAssert_lacksB Tryz.underlying211 (by kernel_rfl) (by kernel_rfl) v xT w
theorem noUnwraps (v : Value) (xT : TypeId) (w : World) : (Instr.typeAssert (.iface 226 v) xT 213 true).run Tryz.prog w = .ok (.tuple #[.nilIface, .bool false]) w := run_typeAssert_lacksB Tryz.underlying213 (by kernel_rfl) (by kernel_rfl) v xT w
theorem same (a : Addr) (w : World) :
    Calls Tryz.prog 139 #[.iface 226 (.pointer (some a)), .iface 226 (.pointer (some a))] w fun e w' => e = .returned (.bool true) ∧ w' = w := by
  obtain ⟨i, hi, hcmp⟩ := Option.map_eq_some_iff.1 comp
  obtain ⟨j, hj, hjs⟩ := Option.map_eq_some_iff.1 size
  have h8 := @run_callFunc_extern Tryz.prog 166 _ Extern.ReflectliteType.typeOf Tryz.func166 (by kernel_rfl) (by kernel_rfl) (by kernel_rfl) (by kernel_rfl)
  have tT := typeOf
  have cT := comparable
  have mR := methodComparable
  have heq := run_eql_iface_ptr_same (P := Tryz.prog) w a Tryz.underlying147 Tryz.underlying226 hi hcmp hj
  go_enter Tryz.func139, Tryz.ntmps139
  go_wp2
  refine wp_loop_rounds 1 ?_
  rw [rounds_succ]
  go_wp2
  go_ret
  exact ⟨rfl, rfl⟩
theorem other (a b : Addr) (ca cb : Array Value) (ta tb : TypeId) (w : World) (hne : a ≠ b) (ha : w.heap[a.block]? = some (.cells ca ta (0, 0))) (hb : w.heap[b.block]? = some (.cells cb tb (0, 0))) :
    Calls Tryz.prog 139 #[.iface 226 (.pointer (some a)), .iface 226 (.pointer (some b))] w fun e w' => e = .returned (.bool false) ∧ w' = w := by
  obtain ⟨i, hi, hcmp⟩ := Option.map_eq_some_iff.1 comp
  obtain ⟨j, hj, hjs⟩ := Option.map_eq_some_iff.1 size
  have h8 := @run_callFunc_extern Tryz.prog 166 _ Extern.ReflectliteType.typeOf Tryz.func166 (by kernel_rfl) (by kernel_rfl) (by kernel_rfl) (by kernel_rfl)
  have tT := typeOf
  have cT := comparable
  have mR := methodComparable
  have nE := noIs
  have uE := noUnwrap
  have vE := noUnwraps
  have heq := run_eql_iface_ptr_other (P := Tryz.prog) w Tryz.underlying147 Tryz.underlying226 hi hcmp hj (by rw [hjs]; decide) hne ha hb
  go_enter Tryz.func139, Tryz.ntmps139
  go_wp2
  refine wp_loop_rounds 1 ?_
  rw [rounds_succ]
  go_wp2
  go_ret
  exact ⟨rfl, rfl⟩
end Is
end Go.Proofs.YtabnglcabpijfaaGreatDoor
namespace Go.Proofs.YtabnglcabpijfaaGreatDoor
open Go.RowKit
set_option linter.unusedVariables false
set_option linter.unusedSimpArgs false
set_option maxRecDepth 100000
namespace Eng
open Tr
/-- for each of n frames: a page is mapped to it -/
def fwL (l : List GEntry) (n : Nat) : List Bool := (List.range n).map fun i : Nat => decide (∃ e ∈ l, e.Mode ≠ 0 ∧ e.Frame = (i : Int))
theorem fwL_nil (n : Nat) : fwL [] n = List.replicate n false := by
  unfold fwL
  rw [List.eq_replicate_iff]
  simp
theorem fwL_len (l : List GEntry) (n : Nat) : (fwL l n).length = n := by simp [fwL]
theorem fwL_snoc (l : List GEntry) (e : GEntry) (n : Nat) : fwL (l ++ [e]) n = if e.Mode ≠ 0 ∧ 0 ≤ e.Frame then (fwL l n).set e.Frame.toNat true else fwL l n := by
  refine List.ext_getElem? fun i => ?_
  have h0 : ∀ (l : List GEntry), (fwL l n)[i]? = if i < n then some (decide (∃ e ∈ l, e.Mode ≠ 0 ∧ e.Frame = (i : Int))) else none := by
    intro l
    unfold fwL
    rw [List.getElem?_map]
    split
    · rw [List.getElem?_range (by assumption)]; rfl
    · rw [List.getElem?_eq_none (by simp; omega)]; rfl
  rw [h0]
  by_cases hi : i < n
  · rw [if_pos hi]
    by_cases he : e.Mode ≠ 0 ∧ 0 ≤ e.Frame
    · rw [if_pos he, List.getElem?_set, fwL_len]
      by_cases hf : e.Frame.toNat = i
      · rw [if_pos hf, if_pos (by omega), decide_eq_true ⟨e, by simp, he.1, by omega⟩]
      · rw [if_neg hf, h0, if_pos hi]
        congr 1
        rw [decide_eq_decide]
        constructor
        · rintro ⟨x, hx, h1, h2⟩
          rw [List.mem_append, List.mem_singleton] at hx
          rcases hx with hx | rfl
          · exact ⟨x, hx, h1, h2⟩
          · omega
        · rintro ⟨x, hx, h1, h2⟩; exact ⟨x, by simp [hx], h1, h2⟩
    · rw [if_neg he, h0, if_pos hi]
      congr 1
      rw [decide_eq_decide]
      constructor
      · rintro ⟨x, hx, h1, h2⟩
        rw [List.mem_append, List.mem_singleton] at hx
        rcases hx with hx | rfl
        · exact ⟨x, hx, h1, h2⟩
        · exact absurd ⟨h1, by omega⟩ he
      · rintro ⟨x, hx, h1, h2⟩; exact ⟨x, by simp [hx], h1, h2⟩
  · rw [if_neg hi]
    split
    · rw [List.getElem?_set, fwL_len, h0]
      split <;> (try split) <;> first | rfl | omega
    · rw [h0, if_neg hi]
def c_fwp (t : GTable) (n : Nat) : CFD := ⟨97, [.agg [ro 42 2 eEntry t.Entries], (SV.one (.lit (.int .i64 ((n : Int)))))], [], .sv (.one (.hd 0)), [(0, some (.row 4 1 ((fwL t.Entries n).map Tr.eB)))], [0], []⟩
theorem fn_fwp (t : GTable) (n : Nat) (hl : t.Entries.length ≤ 1048576) (hn : n ≤ 1048576) (hok : ∀ e ∈ t.Entries, okE n e) : Fn Tryz.prog (c_fwp t n) := by
  refine fn_intro tt_ok Tryz.func97 rfl Tryz.call97 Tryz.ntmps97 Tryz.results97 rfl rfl rfl rfl ?_
  intro X ρ0 hb_ hgl_
  dsimp only [c_fwp]
  try refine nrm ?_
  repeat' (refine ar_id ?_; first | refine st1 ?_ | (first | ((first | refine ar_region tt_ok (inps := []) rfl ?_ ?_); rotate_left; (try refine nrm ?_); rotate_right) | refine ret3 ?_ | refine end3 ?_) | (refine ar_cond rfl trivial ?_ ?_ <;> intro hc_ <;> (try simp only [isNilI, inB, reduceCtorEq, cds] at hc_) <;> (try (first | contradiction | (exfalso; omega)))) | refine ar_until (And.intro ?_ (wk3 ?_)))
  all_goals (first | refine ar_id ?_ | (try (focus ((try refine nrmO ?_); (repeat' (first | exact True.intro | refine And.intro ?_ ?_)); all_goals (try (intro (hg_ : _ = true); (try simp only [isNilI, inB, reduceCtorEq, cds] at hg_); (repeat' (first | exact True.intro | refine And.intro ?_ ?_)))); all_goals (first | exact ob1 | skip)))))
  refine ar_keep 14519 (by dsimp only [keepS] <;> exact rfl) ?_
  refine ar_forM (t.Entries.length) (fun i => True) (fun i => [(13, (TV.sv (.one (.lit (.int .i64 (i)))))), (5, (TV.sv (.one (.hd 9))))]) (fun i => [(9, some (.row 4 1 ((fwL (t.Entries.take i) n).map Tr.eB)))]) ?_ ?_ ?_
  rotate_left
  · first | trivial | simp
  (dsimp only [rnCap, capSVs, Int.toNat_natCast, ro, Nat.reduceAdd, Nat.reduceMul, Nat.zero_add, List.map, putT, app, wrapG, gOb, argT, keys, slotOf, dropped, gAnd, wB, rnT, rnS, rnC, rnCs, rnSs, rnM, rnB, rnN, rn, lk, St.over, ded, delL, keepT, menT, menSs, menS, menCs, menC, hasN, resT, SV.cells]; refine wk3 ?_; (focus ((try refine nrmO ?_); (repeat' (first | exact True.intro | refine And.intro ?_ ?_)); all_goals (try (intro (hg_ : _ = true); (try simp only [isNilI, inB, reduceCtorEq, cds] at hg_); (repeat' (first | exact True.intro | refine And.intro ?_ ?_)))); all_goals (first | exact ob1 | exact rfl | skip))))
  rotate_right
  intro i hi_ hiI_
  dsimp only [rnCap, capSVs, Int.toNat_natCast, ro, Nat.reduceAdd, Nat.reduceMul, Nat.zero_add, List.map, putT, app, wrapG, gOb, argT, keys, slotOf, dropped, gAnd, wB, rnT, rnS, rnC, rnCs, rnSs, rnM, rnB, rnN, rn, lk, St.over, ded, delL, keepT, menT, menSs, menS, menCs, menC, hasN, resT, SV.cells]
  repeat' (refine ar_id ?_; first | refine st1 ?_ | (first | ((first | refine ar_region (id := 4) tt_ok (inps := [.elem (eEntry (t.Entries.getD i ⟨0, 0⟩))]) rfl ?_ ?_ | refine ar_region (id := 5) tt_ok (inps := [.call (c_isMapped (t.Entries.getD i ⟨0, 0⟩).Mode (t.Entries.getD i ⟨0, 0⟩).Frame)]) rfl ?_ ?_ | refine ar_region (id := 6) tt_ok (inps := [.elem (Tr.eB ((fwL (t.Entries.take i) n).getD (t.Entries.getD i ⟨0, 0⟩).Frame.toNat false))]) rfl ?_ ?_ | refine ar_region tt_ok (inps := []) rfl ?_ ?_); rotate_left; (try dsimp only [c_isMapped]); (try refine nrm ?_); rotate_right) | refine ret3 ?_ | refine end3 ?_) | (refine ar_cond rfl trivial ?_ ?_ <;> intro hc_ <;> (try simp only [isNilI, inB, reduceCtorEq, cds] at hc_) <;> (try (first | contradiction | (exfalso; omega)))) | refine ar_until (And.intro ?_ (wk3 ?_)))
  all_goals (first | refine ar_id ?_ | (try (focus ((try refine nrmO ?_); (repeat' (first | exact True.intro | refine And.intro ?_ ?_)); all_goals (try (intro (hg_ : _ = true); (try simp only [isNilI, inB, reduceCtorEq, cds] at hg_); (repeat' (first | exact True.intro | refine And.intro ?_ ?_)))); all_goals (first | exact ob1 | exact fn_isMapped _ _ | skip)))))
  · have := hok _ (getD_in (l := t.Entries) (i := i) (d := ⟨0, 0⟩) (by omega)); unfold okE at this; omega
  · have := hok _ (getD_in (l := t.Entries) (i := i) (d := ⟨0, 0⟩) (by omega)); unfold okE at this; rw [List.length_map, fwL_len]; omega
  · have := hok _ (getD_in (l := t.Entries) (i := i) (d := ⟨0, 0⟩) (by omega)); unfold okE at this; exact map_at (by rw [fwL_len]; omega)
  · have := hok _ (getD_in (l := t.Entries) (i := i) (d := ⟨0, 0⟩) (by omega)); unfold okE at this
    rw [take_getD _ ⟨0, 0⟩ (by omega), fwL_snoc, if_pos ⟨hc_, by omega⟩]
    exact List.map_set.symm
  · rw [take_getD _ ⟨0, 0⟩ (by omega), fwL_snoc, if_neg (fun h => h.1 hc_)]
  · rw [List.take_of_length_le (by omega)]
  · rw [List.take_zero, fwL_nil, List.map_replicate]; rfl
def c_EqualB (a b : List Bool) : CFD := ⟨96, [.one (ro 4 1 Tr.eB a), .one (ro 4 1 Tr.eB b)], [], (TV.sv (.one (.lit (.bool (decide (a = b)))))), [], [], []⟩
theorem fn_EqualB (a b : List Bool) (hl : a.length ≤ 1048576) (hb : b.length ≤ 1048576) : Fn Tryz.prog (c_EqualB a b) := by
  refine fn_intro tt_ok Tryz.func96 rfl Tryz.call96 Tryz.ntmps96 Tryz.results96 rfl rfl rfl rfl ?_
  intro X ρ0 hb_ hgl_
  dsimp only [c_EqualB]
  try refine nrm ?_
  repeat' (refine ar_id ?_; first | refine st1 ?_ | (first | ((first | refine ar_region tt_ok (inps := []) rfl ?_ ?_); rotate_left; (try refine nrm ?_); rotate_right) | refine ret3 ?_ | refine end3 ?_) | (refine ar_cond rfl trivial ?_ ?_ <;> intro hc_ <;> (try simp only [isNilI, inB, reduceCtorEq, cds] at hc_) <;> (try (first | contradiction | (exfalso; omega)))) | refine ar_until (And.intro ?_ (wk3 ?_)))
  all_goals (first | refine ar_id ?_ | (try (focus ((try refine nrmO ?_); (repeat' (first | exact True.intro | refine And.intro ?_ ?_)); all_goals (try (intro (hg_ : _ = true); (try simp only [isNilI, inB, reduceCtorEq, cds] at hg_); (repeat' (first | exact True.intro | refine And.intro ?_ ?_)))); all_goals (first | exact ob1 | skip)))))
  · exact bf fun h => hc_ (by rw [h])
  have hlen := hc_
  refine ar_keep 12339 (by dsimp only [keepS] <;> exact rfl) ?_
  refine ar_forM (a.length) (fun i => a.take i = b.take i) (fun i => [(13, (TV.sv (.one (.lit (.int .i64 (i))))))]) (fun i => []) ?_ ?_ ?_
  rotate_left
  · first | trivial | simp
  (dsimp only [rnCap, capSVs, Int.toNat_natCast, ro, Nat.reduceAdd, Nat.reduceMul, Nat.zero_add, List.map, putT, app, wrapG, gOb, argT, keys, slotOf, dropped, gAnd, wB, rnT, rnS, rnC, rnCs, rnSs, rnM, rnB, rnN, rn, lk, St.over, ded, delL, keepT, menT, menSs, menS, menCs, menC, hasN, resT, SV.cells]; refine wk3 ?_; (focus ((try refine nrmO ?_); (repeat' (first | exact True.intro | refine And.intro ?_ ?_)); all_goals (try (intro (hg_ : _ = true); (try simp only [isNilI, inB, reduceCtorEq, cds] at hg_); (repeat' (first | exact True.intro | refine And.intro ?_ ?_)))); all_goals (first | exact ob1 | exact rfl | skip))))
  rotate_right
  intro i hi_ hiI_
  dsimp only [rnCap, capSVs, Int.toNat_natCast, ro, Nat.reduceAdd, Nat.reduceMul, Nat.zero_add, List.map, putT, app, wrapG, gOb, argT, keys, slotOf, dropped, gAnd, wB, rnT, rnS, rnC, rnCs, rnSs, rnM, rnB, rnN, rn, lk, St.over, ded, delL, keepT, menT, menSs, menS, menCs, menC, hasN, resT, SV.cells]
  repeat' (refine ar_id ?_; first | refine st1 ?_ | (first | ((first | refine ar_draw (id := 6) (inps := [.elem (Tr.eB (a.getD i false)), .elem (Tr.eB (b.getD i false))]) tt_ok (by kernel_rfl) rfl rfl (by kernel_rfl) rfl rfl rfl rfl ?_ ?_ | refine ar_region tt_ok (inps := []) rfl ?_ ?_); rotate_left; (try refine nrm ?_); rotate_right) | refine ret3 ?_ | refine end3 ?_) | (refine ar_cond rfl trivial ?_ ?_ <;> intro hc_ <;> (try simp only [isNilI, inB, reduceCtorEq, cds] at hc_) <;> (try (first | contradiction | (exfalso; omega)))) | refine ar_until (And.intro ?_ (wk3 ?_)))
  all_goals (first | refine ar_id ?_ | (try (focus ((try refine nrmO ?_); (repeat' (first | exact True.intro | refine And.intro ?_ ?_)); all_goals (try (intro (hg_ : _ = true); (try simp only [isNilI, inB, reduceCtorEq, cds] at hg_); (repeat' (first | exact True.intro | refine And.intro ?_ ?_)))); all_goals (first | exact ob1 | skip)))))
  · refine bf fun h => ?_
    subst h
    simp at hc_
  · rw [take_getD a false (by omega), take_getD b false (by omega), hiI_]
    simpa using hc_
  · refine bt ?_
    rw [List.take_of_length_le (by omega), List.take_of_length_le (by omega)] at hiI_
    exact hiI_
theorem onFrame_pos (f : Int) : ∀ (i : Nat) (l : List GEntry), 0 < (onFrame f i l).length ↔ ∃ e ∈ l, e.Mode ≠ 0 ∧ e.Frame = f
  | _, [] => by simp [onFrame]
  | i, e :: l => by
    have ih := onFrame_pos f (i + 1) l
    show 0 < (_ ++ onFrame f (i + 1) l).length ↔ _
    rw [List.length_append]
    by_cases h : e.Mode ≠ 0 ∧ e.Frame = f
    · rw [if_pos h]
      exact ⟨fun _ => ⟨e, by simp, h⟩, fun _ => by simp; omega⟩
    · rw [if_neg h]
      simp only [List.length_nil, Nat.zero_add, ih]
      constructor
      · rintro ⟨x, hx, h1⟩; exact ⟨x, by simp [hx], h1⟩
      · rintro ⟨x, hx, h1⟩
        rw [List.mem_cons] at hx
        rcases hx with rfl | hx
        · exact absurd h1 h
        · exact ⟨x, hx, h1⟩
theorem used_iff (m : GMachine) : usedAre m ↔ m.Frames.Used = fwL m.Table.Entries m.Frames.Used.length := by
  have h0 : ∀ i, i < m.Frames.Used.length → (fwL m.Table.Entries m.Frames.Used.length)[i]? = some (decide (0 < (pPagesOn m.Table (i : Int)).length)) := by
    intro i hi
    unfold fwL pPagesOn
    rw [List.getElem?_map, List.getElem?_range hi, Option.map_some]
    congr 1
    rw [decide_eq_decide, onFrame_pos]
  constructor
  · intro h
    refine List.ext_getElem? fun i => ?_
    rcases Nat.lt_or_ge i m.Frames.Used.length with hi | hi
    · rw [h i hi, h0 i hi]
    · rw [List.getElem?_eq_none hi, List.getElem?_eq_none (by rw [fwL_len]; exact hi)]
  · intro h i hi
    rw [← h0 i hi, ← h]
/-- a machine that can be read: its slices are not too long -/
structure szM (m : GMachine) : Prop where
  c : m.Frames.Cells.length ≤ 1048576
  u : m.Frames.Used.length ≤ 1048576
  r : ∀ r ∈ m.Frames.Cells, r.length ≤ 1048576
  e : m.Table.Entries.length ≤ 1048576
def c_MOkI (m : GMachine) : CFD := ⟨54, [.agg [ro 33 1 eIntS m.Frames.Cells, ro 4 1 Tr.eB m.Frames.Used, ro 42 2 eEntry m.Table.Entries]], [], (TV.sv (.one (.lit (.bool (pMachineOk m))))), [], [], []⟩
theorem fn_MOkI (m : GMachine) (hs : szM m) : Fn Tryz.prog (c_MOkI m) := by
  refine fn_intro tt_ok Tryz.func54 rfl Tryz.call54 Tryz.ntmps54 Tryz.results54 rfl rfl rfl rfl ?_
  intro X ρ0 hb_ hgl_
  dsimp only [c_MOkI]
  try refine nrm ?_
  repeat' (refine ar_id ?_; first | refine st1 ?_ | (first | ((first | refine ar_region (id := 1) tt_ok (inps := [.call (c_FramesOkI m.Frames), .call (c_TableOkI m.Table m.Frames.Used.length)]) rfl ?_ ?_ | refine ar_region tt_ok (inps := []) rfl ?_ ?_); rotate_left; (try dsimp only [c_FramesOkI, c_TableOkI]); (try refine nrm ?_); rotate_right) | refine ret3 ?_ | refine end3 ?_) | (refine ar_cond rfl trivial ?_ ?_ <;> intro hc_ <;> (try simp only [isNilI, inB, reduceCtorEq, cds] at hc_) <;> (try (first | contradiction | (exfalso; omega)))) | refine ar_until (And.intro ?_ (wk3 ?_)))
  all_goals (first | refine ar_id ?_ | (try (focus ((try refine nrmO ?_); (repeat' (first | exact True.intro | refine And.intro ?_ ?_)); all_goals (try (intro (hg_ : _ = true); (try simp only [isNilI, inB, reduceCtorEq, cds] at hg_); (repeat' (first | exact True.intro | refine And.intro ?_ ?_)))); all_goals (first | exact ob1 | exact fn_FramesOkI _ hs.c hs.u hs.r | exact fn_TableOkI _ _ hs.e | skip)))))
  · refine bf fun h => ?_
    rcases hc_ with hc_ | hc_
    · rw [show pFramesOk m.Frames = true from decide_eq_true h.1] at hc_; cases hc_
    · rw [h.1.2.1, h.2.1] at hc_; cases hc_
  have hok := of_decide_eq_true hc_.1
  repeat' (refine ar_id ?_; first | refine st1 ?_ | (first | ((first | refine ar_draw (id := 3) (inps := [.call (c_fwp m.Table m.Frames.Used.length), .call (c_EqualB m.Frames.Used (fwL m.Table.Entries m.Frames.Used.length))]) tt_ok (by kernel_rfl) rfl rfl (by kernel_rfl) rfl rfl rfl rfl ?_ ?_ | refine ar_region tt_ok (inps := []) rfl ?_ ?_); rotate_left; (try dsimp only [c_EqualB, c_fwp]); (try refine nrm ?_); rotate_right) | refine ret3 ?_ | refine end3 ?_) | (refine ar_cond rfl trivial ?_ ?_ <;> intro hc_ <;> (try simp only [isNilI, inB, reduceCtorEq, cds] at hc_) <;> (try (first | contradiction | (exfalso; omega)))) | refine ar_until (And.intro ?_ (wk3 ?_)))
  all_goals (first | refine ar_id ?_ | (try (focus ((try refine nrmO ?_); (repeat' (first | exact True.intro | refine And.intro ?_ ?_)); all_goals (try (intro (hg_ : _ = true); (try simp only [isNilI, inB, reduceCtorEq, cds] at hg_); (repeat' (first | exact True.intro | refine And.intro ?_ ?_)))); all_goals (first | exact ob1 | exact fn_EqualB _ _ hs.u (by rw [fwL_len]; exact hs.u) | exact fn_fwp _ _ hs.e hs.u (of_decide_eq_true hc_.2).1 | skip)))))
  refine congrArg Value.bool ?_
  show _ = decide (okM m)
  rw [decide_eq_decide]
  exact ⟨fun h => ⟨hok, by rw [← hok.2.1]; exact hc_.2, (used_iff m).2 h⟩, fun h => (used_iff m).1 h.2.2⟩
def c_CopyMI (m : GMachine) : CFD := ⟨85, [.agg [ro 33 1 eIntS m.Frames.Cells, ro 4 1 Tr.eB m.Frames.Used, ro 42 2 eEntry m.Table.Entries]], [], .sv (.agg [.hd 0, .hd 1, .hd 2]),
  [(0, some (.row 33 1 (m.Frames.Cells.map eIntS))), (1, some (.row 4 1 (m.Frames.Used.map Tr.eB))), (2, some (.row 42 2 (m.Table.Entries.map eEntry)))], [0, 1, 2], []⟩
theorem fn_CopyMI (m : GMachine) (hs : szM m) : Fn Tryz.prog (c_CopyMI m) := by
  refine fn_intro tt_ok Tryz.func85 rfl Tryz.call85 Tryz.ntmps85 Tryz.results85 rfl rfl rfl rfl ?_
  intro X ρ0 hb_ hgl_
  dsimp only [c_CopyMI]
  try refine nrm ?_
  repeat' (refine ar_id ?_; first | refine st1 ?_ | (first | ((first | refine ar_draw (id := 1) (inps := [.call (c_Copy5I m.Frames), .call (c_CloneE m.Table.Entries)]) tt_ok (by kernel_rfl) rfl rfl (by kernel_rfl) rfl rfl rfl rfl ?_ ?_ | refine ar_region tt_ok (inps := []) rfl ?_ ?_); rotate_left; (try dsimp only [c_CloneE, c_Copy5I]); (try refine nrm ?_); rotate_right) | refine ret3 ?_ | refine end3 ?_) | (refine ar_cond rfl trivial ?_ ?_ <;> intro hc_ <;> (try simp only [isNilI, inB, reduceCtorEq, cds] at hc_) <;> (try (first | contradiction | (exfalso; omega)))) | refine ar_until (And.intro ?_ (wk3 ?_)))
  all_goals (first | refine ar_id ?_ | (try (focus ((try refine nrmO ?_); (repeat' (first | exact True.intro | refine And.intro ?_ ?_)); all_goals (try (intro (hg_ : _ = true); (try simp only [isNilI, inB, reduceCtorEq, cds] at hg_); (repeat' (first | exact True.intro | refine And.intro ?_ ?_)))); all_goals (first | exact ob1 | exact fn_Copy5I _ hs.c hs.u hs.r | exact fn_CloneE _ hs.e | skip)))))
/-- the sentinel of a page that is not mapped -/
def eP (a : Addr) : Value := .iface 226 (.pointer (some a))
def gP (a : Addr) (ty : Nat) : Glb := ⟨2, [eP a], ty, (0, 0)⟩
def canMap (m : GMachine) (page : Int) : Prop := okM m ∧ (pPageEntry m.Table page).Mode ≠ 0
instance (m : GMachine) (page : Int) : Decidable (canMap m page) := by unfold canMap; infer_instance
def mapE (m : GMachine) (page : Int) : GEntry := if canMap m page then pPageEntry m.Table page else ⟨0, 0⟩
def errP (a : Addr) (m : GMachine) (page : Int) : Value := if canMap m page then .nilIface else eP a
def c_mapped (a : Addr) (ty : Nat) (m : GMachine) (page : Int) : CFD := ⟨136, [.agg [ro 33 1 eIntS m.Frames.Cells, ro 4 1 Tr.eB m.Frames.Used, ro 42 2 eEntry m.Table.Entries], (SV.one (.lit (.int .i64 (page))))], [],
  .tup [.agg [(CV.lit (.int .i64 ((mapE m page).Mode))), (CV.lit (.int .i64 ((mapE m page).Frame)))], .one (.lit (errP a m page))], [], [], [gP a ty]⟩
theorem fn_mapped (a : Addr) (ty : Nat) (m : GMachine) (page : Int) (hs : szM m) : Fn Tryz.prog (c_mapped a ty m page) := by
  refine fn_intro tt_ok Tryz.func136 rfl Tryz.call136 Tryz.ntmps136 Tryz.results136 rfl rfl rfl rfl ?_
  intro X ρ0 hb_ hgl_
  dsimp only [c_mapped]
  try refine nrm ?_
  repeat' (refine ar_id ?_; first | refine st1 ?_ | (first | ((first | refine ar_region (id := 1) tt_ok (inps := [.call (c_PageEntryI m.Table page)]) rfl ?_ ?_ | refine ar_region (id := 2) tt_ok (inps := [.call (c_MOkI m), .call (c_isMapped (pPageEntry m.Table page).Mode (pPageEntry m.Table page).Frame)]) rfl ?_ ?_ | refine ar_draw (id := 3) (inps := [.glob (gP a ty) [eP a]]) tt_ok (by kernel_rfl) rfl rfl (by kernel_rfl) rfl rfl rfl rfl ?_ ?_ | refine ar_region tt_ok (inps := []) rfl ?_ ?_); rotate_left; (try dsimp only [c_MOkI, c_PageEntryI, c_isMapped]); (try refine nrm ?_); rotate_right) | refine ret3 ?_ | refine end3 ?_) | (refine ar_cond rfl trivial ?_ ?_ <;> intro hc_ <;> (try simp only [isNilI, inB, reduceCtorEq, cds] at hc_) <;> (try (first | contradiction | (exfalso; omega)))) | refine ar_until (And.intro ?_ (wk3 ?_)))
  all_goals (first | refine ar_id ?_ | (try (focus ((try refine nrmO ?_); (repeat' (first | exact True.intro | refine And.intro ?_ ?_)); all_goals (try (intro (hg_ : _ = true); (try simp only [isNilI, inB, reduceCtorEq, cds] at hg_); (repeat' (first | exact True.intro | refine And.intro ?_ ?_)))); all_goals (first | exact ob1 | exact fn_PageEntryI _ _ hs.e | exact fn_MOkI _ hs | exact fn_isMapped _ _ | exact hgl_.1 | exact rfl | exact one1 rfl | skip)))))
  all_goals (try (
    have hcm : ¬ canMap m page := fun h => by
      rcases hc_ with hc_ | hc_
      · rw [show pMachineOk m = true from decide_eq_true h.1] at hc_; cases hc_
      · exact h.2 hc_
    unfold mapE
    rw [if_neg hcm]; done))
  · exact (if_neg (fun h => by
      rcases hc_ with hc_ | hc_
      · rw [show pMachineOk m = true from decide_eq_true h.1] at hc_; cases hc_
      · exact h.2 hc_)).symm
  all_goals have hcm : canMap m page := ⟨of_decide_eq_true hc_.1, hc_.2⟩
  · unfold mapE; rw [if_pos hcm]
  · unfold mapE; rw [if_pos hcm]
  · exact (if_pos hcm).symm
def pgOf (addr : Int) : Int := if addr < 0 then -1 else addr.tdiv 16
def c_pageOf (addr : Int) : CFD := ⟨137, [(SV.one (.lit (.int .i64 (addr))))], [], (TV.sv (.one (.lit (.int .i64 (pgOf addr))))), [], [], []⟩
theorem fn_pageOf (addr : Int) (h : okI addr) : Fn Tryz.prog (c_pageOf addr) := by
  refine fn_intro tt_ok Tryz.func137 rfl Tryz.call137 Tryz.ntmps137 Tryz.results137 rfl rfl rfl rfl ?_
  intro X ρ0 hb_ hgl_
  dsimp only [c_pageOf]
  try refine nrm ?_
  repeat' (refine ar_id ?_; first | refine st1 ?_ | (first | ((first | refine ar_region tt_ok (inps := []) rfl ?_ ?_); rotate_left; (try refine nrm ?_); rotate_right) | refine ret3 ?_ | refine end3 ?_) | (refine ar_cond rfl trivial ?_ ?_ <;> intro hc_ <;> (try simp only [isNilI, inB, reduceCtorEq, cds] at hc_) <;> (try (first | contradiction | (exfalso; omega)))) | refine ar_until (And.intro ?_ (wk3 ?_)))
  all_goals (first | refine ar_id ?_ | (try (focus ((try refine nrmO ?_); (repeat' (first | exact True.intro | refine And.intro ?_ ?_)); all_goals (try (intro (hg_ : _ = true); (try simp only [isNilI, inB, reduceCtorEq, cds] at hg_); (repeat' (first | exact True.intro | refine And.intro ?_ ?_)))); all_goals (first | exact ob1 | skip)))))
  · unfold pgOf; rw [if_pos hc_]
  · have h1 := h.1; have h2 := h.2; rw [Int.tdiv_eq_ediv_of_nonneg hc_]; exact i64_ok (by omega) (by omega)
  · unfold pgOf; rw [if_neg (by omega)]
/-- the page is mapped; it is not -/
def c_mapY (a : Addr) (ty : Nat) (m : GMachine) (page : Int) : CFD := ⟨136, [.agg [ro 33 1 eIntS m.Frames.Cells, ro 4 1 Tr.eB m.Frames.Used, ro 42 2 eEntry m.Table.Entries], (SV.one (.lit (.int .i64 (page))))], [],
  .tup [.agg [(CV.lit (.int .i64 ((pPageEntry m.Table page).Mode))), (CV.lit (.int .i64 ((pPageEntry m.Table page).Frame)))], .one (.lit .nilIface)], [], [], [gP a ty]⟩
def c_mapN (a : Addr) (ty : Nat) (m : GMachine) (page : Int) : CFD := ⟨136, [.agg [ro 33 1 eIntS m.Frames.Cells, ro 4 1 Tr.eB m.Frames.Used, ro 42 2 eEntry m.Table.Entries], (SV.one (.lit (.int .i64 (page))))], [],
  .tup [.agg [(CV.lit (.int .i64 (0))), (CV.lit (.int .i64 (0)))], .one (.lit (.iface 226 (.pointer (some a))))], [], [], [gP a ty]⟩
theorem fn_mapY (a : Addr) (ty : Nat) (m : GMachine) (page : Int) (hs : szM m) (h : canMap m page) : Fn Tryz.prog (c_mapY a ty m page) := by
  have := fn_mapped a ty m page hs
  unfold c_mapped mapE errP at this
  rw [if_pos h, if_pos h] at this
  exact this
theorem fn_mapN (a : Addr) (ty : Nat) (m : GMachine) (page : Int) (hs : szM m) (h : ¬ canMap m page) : Fn Tryz.prog (c_mapN a ty m page) := by
  have := fn_mapped a ty m page hs
  unfold c_mapped mapE errP at this
  rw [if_neg h, if_neg h] at this
  exact this
theorem canMap_frame {m : GMachine} {page : Int} (h : canMap m page) : 0 ≤ (pPageEntry m.Table page).Frame ∧ (pPageEntry m.Table page).Frame < (m.Frames.Cells.length : Int) ∧ (m.Frames.Cells.getD (pPageEntry m.Table page).Frame.toNat []).length = 16 ∧ m.Frames.Cells[(pPageEntry m.Table page).Frame.toNat]? = some (m.Frames.Cells.getD (pPageEntry m.Table page).Frame.toNat []) := by
  obtain ⟨f, hf, h1, h2, h3, h4⟩ := okM_entry h.1 h.2
  rw [hf, Int.toNat_natCast]
  exact ⟨by omega, by omega, h3, h4⟩
/-- the three sentinels -/
structure Se where
  (aP aW aV : Addr)
  (cP cW cV : List Value)
  (tP tW tV uP uW uV : Nat)
  n1 : aP ≠ aW
  n2 : aP ≠ aV
  n3 : aW ≠ aV
def gW (a : Addr) (ty : Nat) : Glb := ⟨0, [eP a], ty, (0, 0)⟩
def gV (a : Addr) (ty : Nat) : Glb := ⟨1, [eP a], ty, (0, 0)⟩
def Se.gl (s : Se) : List Glb := [gP s.aP s.uP, gW s.aW s.uW, gV s.aV s.uV, ⟨s.aP.block, s.cP, s.tP, (0, 0)⟩, ⟨s.aW.block, s.cW, s.tW, (0, 0)⟩, ⟨s.aV.block, s.cV, s.tV, (0, 0)⟩]
def c_Is (s : Se) (x y : Addr) (b : Bool) : CFD := ⟨139, [.one (.lit (.iface 226 (.pointer (some x)))), .one (.lit (.iface 226 (.pointer (some y))))], [], (TV.sv (.one (.lit (.bool (b))))), [], [], s.gl⟩
theorem fn_IsT (s : Se) (x : Addr) : Fn Tryz.prog (c_Is s x x true) :=
  fn_still (vs := [.iface 226 (.pointer (some x)), .iface 226 (.pointer (some x))]) rfl (fun w _ => Is.same x w) Tryz.call139
theorem fn_IsF (s : Se) (x y : Addr) {cx cy : List Value} {tx ty : Nat} (hne : x ≠ y) (hx : (⟨x.block, cx, tx, (0, 0)⟩ : Glb) ∈ s.gl) (hy : (⟨y.block, cy, ty, (0, 0)⟩ : Glb) ∈ s.gl) : Fn Tryz.prog (c_Is s x y false) :=
  fn_still (vs := [.iface 226 (.pointer (some x)), .iface 226 (.pointer (some y))]) rfl (fun w h => Is.other x y _ _ _ _ w hne (h _ hx) (h _ hy)) Tryz.call139
theorem Se.mP (s : Se) : (⟨s.aP.block, s.cP, s.tP, (0, 0)⟩ : Glb) ∈ s.gl := by simp [Se.gl]
theorem Se.mW (s : Se) : (⟨s.aW.block, s.cW, s.tW, (0, 0)⟩ : Glb) ∈ s.gl := by simp [Se.gl]
theorem Se.mV (s : Se) : (⟨s.aV.block, s.cV, s.tV, (0, 0)⟩ : Glb) ∈ s.gl := by simp [Se.gl]
def c_fault (s : Se) (x : Addr) (k : Int) : CFD := ⟨99, [.one (.lit (.iface 226 (.pointer (some x))))], [], (TV.sv (.one (.lit (.int .i64 (k))))), [], [], s.gl⟩
theorem fn_faultP (s : Se) : Fn Tryz.prog (c_fault s s.aP 1) := by
  refine fn_intro tt_ok Tryz.func99 rfl Tryz.call99 Tryz.ntmps99 Tryz.results99 rfl rfl rfl rfl ?_
  intro X ρ0 hb_ hgl_
  dsimp only [c_fault]
  try refine nrm ?_
  repeat' (refine ar_id ?_; first | refine st1 ?_ | (first | ((first | refine ar_region (id := 1) tt_ok (inps := [.glob (gP s.aP s.uP) [.iface 226 (.pointer (some s.aP))], .call (c_Is s s.aP s.aP true)]) rfl ?_ ?_ | refine ar_region tt_ok (inps := []) rfl ?_ ?_); rotate_left; (try dsimp only [c_Is]); (try refine nrm ?_); rotate_right) | refine ret3 ?_ | refine end3 ?_) | (refine ar_cond rfl trivial ?_ ?_ <;> intro hc_ <;> (try simp only [isNilI, inB, reduceCtorEq, cds] at hc_) <;> (try (first | contradiction | (exfalso; omega)))) | refine ar_until (And.intro ?_ (wk3 ?_)))
  all_goals (first | refine ar_id ?_ | (try (focus ((try refine nrmO ?_); (repeat' (first | exact True.intro | refine And.intro ?_ ?_)); all_goals (try (intro (hg_ : _ = true); (try simp only [isNilI, inB, reduceCtorEq, cds] at hg_); (repeat' (first | exact True.intro | refine And.intro ?_ ?_)))); all_goals (first | exact ob1 | exact hgl_.1 | exact hgl_.2.1 | exact hgl_.2.2.1 | exact hgl_.2.2.2.1 | exact hgl_.2.2.2.2.1 | exact hgl_.2.2.2.2.2.1 | exact hgl_.2.2.2.2.2.2.1 | exact hgl_.2.2.2.2.2.2.2.1 | exact hgl_ | exact rfl | exact one1 rfl | exact fn_IsT _ _ | skip)))))
theorem fn_faultW (s : Se) : Fn Tryz.prog (c_fault s s.aW 2) := by
  refine fn_intro tt_ok Tryz.func99 rfl Tryz.call99 Tryz.ntmps99 Tryz.results99 rfl rfl rfl rfl ?_
  intro X ρ0 hb_ hgl_
  dsimp only [c_fault]
  try refine nrm ?_
  repeat' (refine ar_id ?_; first | refine st1 ?_ | (first | ((first | refine ar_region (id := 1) tt_ok (inps := [.glob (gP s.aP s.uP) [.iface 226 (.pointer (some s.aP))], .call (c_Is s s.aW s.aP false)]) rfl ?_ ?_ | refine ar_region (id := 3) tt_ok (inps := [.glob (gW s.aW s.uW) [.iface 226 (.pointer (some s.aW))], .call (c_Is s s.aW s.aW true)]) rfl ?_ ?_ | refine ar_region tt_ok (inps := []) rfl ?_ ?_); rotate_left; (try dsimp only [c_Is]); (try refine nrm ?_); rotate_right) | refine ret3 ?_ | refine end3 ?_) | (refine ar_cond rfl trivial ?_ ?_ <;> intro hc_ <;> (try simp only [isNilI, inB, reduceCtorEq, cds] at hc_) <;> (try (first | contradiction | (exfalso; omega)))) | refine ar_until (And.intro ?_ (wk3 ?_)))
  all_goals (first | refine ar_id ?_ | (try (focus ((try refine nrmO ?_); (repeat' (first | exact True.intro | refine And.intro ?_ ?_)); all_goals (try (intro (hg_ : _ = true); (try simp only [isNilI, inB, reduceCtorEq, cds] at hg_); (repeat' (first | exact True.intro | refine And.intro ?_ ?_)))); all_goals (first | exact ob1 | exact hgl_.1 | exact hgl_.2.1 | exact hgl_.2.2.1 | exact hgl_.2.2.2.1 | exact hgl_.2.2.2.2.1 | exact hgl_.2.2.2.2.2.1 | exact hgl_.2.2.2.2.2.2.1 | exact hgl_.2.2.2.2.2.2.2.1 | exact hgl_ | exact rfl | exact one1 rfl | exact fn_IsT _ _ | exact fn_IsF _ _ _ (Ne.symm s.n1) s.mW s.mP | skip)))))
theorem fn_faultV (s : Se) : Fn Tryz.prog (c_fault s s.aV 3) := by
  refine fn_intro tt_ok Tryz.func99 rfl Tryz.call99 Tryz.ntmps99 Tryz.results99 rfl rfl rfl rfl ?_
  intro X ρ0 hb_ hgl_
  dsimp only [c_fault]
  try refine nrm ?_
  repeat' (refine ar_id ?_; first | refine st1 ?_ | (first | ((first | refine ar_region (id := 1) tt_ok (inps := [.glob (gP s.aP s.uP) [.iface 226 (.pointer (some s.aP))], .call (c_Is s s.aV s.aP false)]) rfl ?_ ?_ | refine ar_region (id := 3) tt_ok (inps := [.glob (gW s.aW s.uW) [.iface 226 (.pointer (some s.aW))], .call (c_Is s s.aV s.aW false)]) rfl ?_ ?_ | refine ar_region (id := 5) tt_ok (inps := [.glob (gV s.aV s.uV) [.iface 226 (.pointer (some s.aV))], .call (c_Is s s.aV s.aV true)]) rfl ?_ ?_ | refine ar_region tt_ok (inps := []) rfl ?_ ?_); rotate_left; (try dsimp only [c_Is]); (try refine nrm ?_); rotate_right) | refine ret3 ?_ | refine end3 ?_) | (refine ar_cond rfl trivial ?_ ?_ <;> intro hc_ <;> (try simp only [isNilI, inB, reduceCtorEq, cds] at hc_) <;> (try (first | contradiction | (exfalso; omega)))) | refine ar_until (And.intro ?_ (wk3 ?_)))
  all_goals (first | refine ar_id ?_ | (try (focus ((try refine nrmO ?_); (repeat' (first | exact True.intro | refine And.intro ?_ ?_)); all_goals (try (intro (hg_ : _ = true); (try simp only [isNilI, inB, reduceCtorEq, cds] at hg_); (repeat' (first | exact True.intro | refine And.intro ?_ ?_)))); all_goals (first | exact ob1 | exact hgl_.1 | exact hgl_.2.1 | exact hgl_.2.2.1 | exact hgl_.2.2.2.1 | exact hgl_.2.2.2.2.1 | exact hgl_.2.2.2.2.2.1 | exact hgl_.2.2.2.2.2.2.1 | exact hgl_.2.2.2.2.2.2.2.1 | exact hgl_ | exact rfl | exact one1 rfl | exact fn_IsT _ _ | exact fn_IsF _ _ _ (Ne.symm s.n2) s.mV s.mP | exact fn_IsF _ _ _ (Ne.symm s.n3) s.mV s.mW | skip)))))
theorem pgOf_eq {addr : Int} (h : ¬ addr < 0) : pgOf addr = addr / 16 := by unfold pgOf; rw [if_neg h, Int.tdiv_eq_ediv_of_nonneg (by omega)]
theorem entry_eq (m : GMachine) (addr : Int) : (pEntry m addr).1 = pPageEntry m.Table (pgOf addr) := by
  unfold pEntry
  by_cases h : addr < 0
  · rw [if_pos h]
    unfold pgOf pPageEntry
    rw [if_pos h, if_neg (by omega)]
  · rw [if_neg h, pgOf_eq h]
theorem canLoad_iff (m : GMachine) (addr : Int) : canLoad m addr ↔ canMap m (pgOf addr) := by unfold canLoad canMap; rw [entry_eq]
theorem canMap_nonneg {m : GMachine} {addr : Int} (h : canMap m (pgOf addr)) : ¬ addr < 0 := fun hn => by
  have := h.2
  unfold pgOf pPageEntry at this
  rw [if_pos hn, if_neg (by omega)] at this
  exact this rfl
/-- what stands in the way of a store -/
def c_writ (s : Se) (m : GMachine) (addr v md fr : Int) (e : Value) : CFD := ⟨98, [.agg [ro 33 1 eIntS m.Frames.Cells, ro 4 1 Tr.eB m.Frames.Used, ro 42 2 eEntry m.Table.Entries], (SV.one (.lit (.int .i64 (addr)))), (SV.one (.lit (.int .i64 (v))))], [],
  .tup [.agg [(CV.lit (.int .i64 (md))), (CV.lit (.int .i64 (fr)))], .one (.lit e)], [], [], s.gl⟩
theorem fn_writP (s : Se) (m : GMachine) (addr v : Int) (hs : szM m) (ha : okI addr) (hcm : ¬ canMap m (pgOf addr)) : Fn Tryz.prog (c_writ s m addr v 0 0 (.iface 226 (.pointer (some s.aP)))) := by
  refine fn_intro tt_ok Tryz.func98 rfl Tryz.call98 Tryz.ntmps98 Tryz.results98 rfl rfl rfl rfl ?_
  intro X ρ0 hb_ hgl_
  dsimp only [c_writ]
  try refine nrm ?_
  repeat' (refine ar_id ?_; first | refine st1 ?_ | (first | ((first | refine ar_draw (id := 1) (inps := [.call (c_pageOf addr), .call (c_mapN s.aP s.uP m (pgOf addr))]) tt_ok (by kernel_rfl) rfl rfl (by kernel_rfl) rfl rfl rfl rfl ?_ ?_ | refine ar_region tt_ok (inps := []) rfl ?_ ?_); rotate_left; (try dsimp only [c_mapN, c_pageOf]); (try refine nrm ?_); rotate_right) | refine ret3 ?_ | refine end3 ?_) | (refine ar_cond rfl trivial ?_ ?_ <;> intro hc_ <;> (try simp only [isNilI, inB, reduceCtorEq, cds] at hc_) <;> (try (first | contradiction | (exfalso; omega)))) | refine ar_until (And.intro ?_ (wk3 ?_)))
  all_goals (first | refine ar_id ?_ | (try (focus ((try refine nrmO ?_); (repeat' (first | exact True.intro | refine And.intro ?_ ?_)); all_goals (try (intro (hg_ : _ = true); (try simp only [isNilI, inB, reduceCtorEq, cds] at hg_); (repeat' (first | exact True.intro | refine And.intro ?_ ?_)))); all_goals (first | exact ob1 | exact fn_pageOf _ ha | exact fn_mapN _ _ _ _ hs hcm | exact hgl_.1 | exact hgl_.2.1 | exact hgl_.2.2.1 | exact hgl_.2.2.2.1 | exact hgl_.2.2.2.2.1 | exact hgl_.2.2.2.2.2.1 | exact hgl_.2.2.2.2.2.2.1 | exact hgl_.2.2.2.2.2.2.2.1 | exact hgl_ | exact rfl | exact one1 rfl | exact trivial | skip)))))
theorem fn_writW (s : Se) (m : GMachine) (addr v : Int) (hs : szM m) (ha : okI addr) (hcm : canMap m (pgOf addr)) (h1 : (pPageEntry m.Table (pgOf addr)).Mode = 1) : Fn Tryz.prog (c_writ s m addr v 0 0 (.iface 226 (.pointer (some s.aW)))) := by
  refine fn_intro tt_ok Tryz.func98 rfl Tryz.call98 Tryz.ntmps98 Tryz.results98 rfl rfl rfl rfl ?_
  intro X ρ0 hb_ hgl_
  dsimp only [c_writ]
  try refine nrm ?_
  repeat' (refine ar_id ?_; first | refine st1 ?_ | (first | ((first | refine ar_draw (id := 1) (inps := [.call (c_pageOf addr), .call (c_mapY s.aP s.uP m (pgOf addr))]) tt_ok (by kernel_rfl) rfl rfl (by kernel_rfl) rfl rfl rfl rfl ?_ ?_ | refine ar_draw (id := 5) (inps := [.glob (gW s.aW s.uW) [.iface 226 (.pointer (some s.aW))]]) tt_ok (by kernel_rfl) rfl rfl (by kernel_rfl) rfl rfl rfl rfl ?_ ?_ | refine ar_region tt_ok (inps := []) rfl ?_ ?_); rotate_left; (try dsimp only [c_mapY, c_pageOf]); (try refine nrm ?_); rotate_right) | refine ret3 ?_ | refine end3 ?_) | (refine ar_cond rfl trivial ?_ ?_ <;> intro hc_ <;> (try simp only [isNilI, inB, reduceCtorEq, cds] at hc_) <;> (try (first | contradiction | (exfalso; omega)))) | refine ar_until (And.intro ?_ (wk3 ?_)))
  all_goals (first | refine ar_id ?_ | (try (focus ((try refine nrmO ?_); (repeat' (first | exact True.intro | refine And.intro ?_ ?_)); all_goals (try (intro (hg_ : _ = true); (try simp only [isNilI, inB, reduceCtorEq, cds] at hg_); (repeat' (first | exact True.intro | refine And.intro ?_ ?_)))); all_goals (first | exact ob1 | exact fn_pageOf _ ha | exact fn_mapY _ _ _ _ hs hcm | exact hgl_.1 | exact hgl_.2.1 | exact hgl_.2.2.1 | exact hgl_.2.2.2.1 | exact hgl_.2.2.2.2.1 | exact hgl_.2.2.2.2.2.1 | exact hgl_.2.2.2.2.2.2.1 | exact hgl_.2.2.2.2.2.2.2.1 | exact hgl_ | exact rfl | exact one1 rfl | exact trivial | skip)))))
theorem fn_writV (s : Se) (m : GMachine) (addr v : Int) (hs : szM m) (ha : okI addr) (hcm : canMap m (pgOf addr)) (h1 : (pPageEntry m.Table (pgOf addr)).Mode ≠ 1) (hv : ¬ (0 ≤ v ∧ v ≤ 999)) : Fn Tryz.prog (c_writ s m addr v 0 0 (.iface 226 (.pointer (some s.aV)))) := by
  refine fn_intro tt_ok Tryz.func98 rfl Tryz.call98 Tryz.ntmps98 Tryz.results98 rfl rfl rfl rfl ?_
  intro X ρ0 hb_ hgl_
  dsimp only [c_writ]
  try refine nrm ?_
  repeat' (refine ar_id ?_; first | refine st1 ?_ | (first | ((first | refine ar_draw (id := 1) (inps := [.call (c_pageOf addr), .call (c_mapY s.aP s.uP m (pgOf addr))]) tt_ok (by kernel_rfl) rfl rfl (by kernel_rfl) rfl rfl rfl rfl ?_ ?_ | refine ar_region (id := 6) tt_ok (inps := [.call (c_vir v)]) rfl ?_ ?_ | refine ar_draw (id := 7) (inps := [.glob (gV s.aV s.uV) [.iface 226 (.pointer (some s.aV))]]) tt_ok (by kernel_rfl) rfl rfl (by kernel_rfl) rfl rfl rfl rfl ?_ ?_ | refine ar_region tt_ok (inps := []) rfl ?_ ?_); rotate_left; (try dsimp only [c_mapY, c_pageOf, c_vir]); (try refine nrm ?_); rotate_right) | refine ret3 ?_ | refine end3 ?_) | (refine ar_cond rfl trivial ?_ ?_ <;> intro hc_ <;> (try simp only [isNilI, inB, reduceCtorEq, cds] at hc_) <;> (try (first | contradiction | (exfalso; omega)))) | refine ar_until (And.intro ?_ (wk3 ?_)))
  all_goals (first | refine ar_id ?_ | (try (focus ((try refine nrmO ?_); (repeat' (first | exact True.intro | refine And.intro ?_ ?_)); all_goals (try (intro (hg_ : _ = true); (try simp only [isNilI, inB, reduceCtorEq, cds] at hg_); (repeat' (first | exact True.intro | refine And.intro ?_ ?_)))); all_goals (first | exact ob1 | exact fn_pageOf _ ha | exact fn_mapY _ _ _ _ hs hcm | exact hgl_.1 | exact hgl_.2.1 | exact hgl_.2.2.1 | exact hgl_.2.2.2.1 | exact hgl_.2.2.2.2.1 | exact hgl_.2.2.2.2.2.1 | exact hgl_.2.2.2.2.2.2.1 | exact hgl_.2.2.2.2.2.2.2.1 | exact hgl_ | exact rfl | exact one1 rfl | exact trivial | exact fn_vir _ | skip)))))
theorem fn_writN (s : Se) (m : GMachine) (addr v : Int) (hs : szM m) (ha : okI addr) (hcm : canMap m (pgOf addr)) (h1 : (pPageEntry m.Table (pgOf addr)).Mode ≠ 1) (hv : 0 ≤ v ∧ v ≤ 999) : Fn Tryz.prog (c_writ s m addr v (pPageEntry m.Table (pgOf addr)).Mode (pPageEntry m.Table (pgOf addr)).Frame .nilIface) := by
  refine fn_intro tt_ok Tryz.func98 rfl Tryz.call98 Tryz.ntmps98 Tryz.results98 rfl rfl rfl rfl ?_
  intro X ρ0 hb_ hgl_
  dsimp only [c_writ]
  try refine nrm ?_
  repeat' (refine ar_id ?_; first | refine st1 ?_ | (first | ((first | refine ar_draw (id := 1) (inps := [.call (c_pageOf addr), .call (c_mapY s.aP s.uP m (pgOf addr))]) tt_ok (by kernel_rfl) rfl rfl (by kernel_rfl) rfl rfl rfl rfl ?_ ?_ | refine ar_region (id := 6) tt_ok (inps := [.call (c_vir v)]) rfl ?_ ?_ | refine ar_region tt_ok (inps := []) rfl ?_ ?_); rotate_left; (try dsimp only [c_mapY, c_pageOf, c_vir]); (try refine nrm ?_); rotate_right) | refine ret3 ?_ | refine end3 ?_) | (refine ar_cond rfl trivial ?_ ?_ <;> intro hc_ <;> (try simp only [isNilI, inB, reduceCtorEq, cds] at hc_) <;> (try (first | contradiction | (exfalso; omega)))) | refine ar_until (And.intro ?_ (wk3 ?_)))
  all_goals (first | refine ar_id ?_ | (try (focus ((try refine nrmO ?_); (repeat' (first | exact True.intro | refine And.intro ?_ ?_)); all_goals (try (intro (hg_ : _ = true); (try simp only [isNilI, inB, reduceCtorEq, cds] at hg_); (repeat' (first | exact True.intro | refine And.intro ?_ ?_)))); all_goals (first | exact ob1 | exact fn_pageOf _ ha | exact fn_mapY _ _ _ _ hs hcm | exact hgl_.1 | exact hgl_.2.1 | exact hgl_.2.2.1 | exact hgl_.2.2.2.1 | exact hgl_.2.2.2.2.1 | exact hgl_.2.2.2.2.2.1 | exact hgl_.2.2.2.2.2.2.1 | exact hgl_.2.2.2.2.2.2.2.1 | exact hgl_ | exact rfl | exact one1 rfl | exact trivial | exact fn_vir _ | skip)))))
def c_StoreI (s : Se) (m : GMachine) (addr v : Int) : CFD := ⟨55, [.agg [ro 33 1 eIntS m.Frames.Cells, ro 4 1 Tr.eB m.Frames.Used, ro 42 2 eEntry m.Table.Entries], (SV.one (.lit (.int .i64 (addr)))), (SV.one (.lit (.int .i64 (v))))], [],
  .tup [.agg [.hd 0, .hd 1, .hd 2], (SV.one (.lit (.int .i64 ((pStore m addr v).2))))],
  [(0, some (.row 33 1 ((pStore m addr v).1.Frames.Cells.map eIntS))), (1, some (.row 4 1 ((pStore m addr v).1.Frames.Used.map Tr.eB))), (2, some (.row 42 2 ((pStore m addr v).1.Table.Entries.map eEntry)))], [0, 1, 2], s.gl⟩
theorem fn_StoreI (s : Se) (m : GMachine) (addr v : Int) (hs : szM m) (ha : okI addr) : Fn Tryz.prog (c_StoreI s m addr v) := by
  by_cases hcm : canMap m (pgOf addr)
  · have hcl := (canLoad_iff m addr).2 hcm
    by_cases h1 : (pPageEntry m.Table (pgOf addr)).Mode = 1
    · have hV : pStore m addr v = (m, 2) := by unfold pStore; rw [if_pos hcl, if_pos (by rw [entry_eq]; exact h1)]
      refine fn_intro tt_ok Tryz.func55 rfl Tryz.call55 Tryz.ntmps55 Tryz.results55 rfl rfl rfl rfl ?_
      intro X ρ0 hb_ hgl_
      dsimp only [c_StoreI]
      try refine nrm ?_
      repeat' (refine ar_id ?_; first | refine st1 ?_ | (first | ((first | refine ar_region (id := 1) tt_ok (inps := [.call (c_CopyMI m)]) rfl ?_ ?_ | refine ar_region (id := 2) tt_ok (inps := [.call (c_writ s m addr v 0 0 (.iface 226 (.pointer (some s.aW))))]) rfl ?_ ?_ | refine ar_draw (id := 4) (inps := [.call (c_fault s s.aW 2)]) tt_ok (by kernel_rfl) rfl rfl (by kernel_rfl) rfl rfl rfl rfl ?_ ?_ | refine ar_region tt_ok (inps := []) rfl ?_ ?_); rotate_left; (try dsimp only [c_CopyMI, c_fault, c_writ]); (try refine nrm ?_); rotate_right) | refine ret3 ?_ | refine end3 ?_) | (refine ar_cond rfl trivial ?_ ?_ <;> intro hc_ <;> (try simp only [isNilI, inB, reduceCtorEq, cds] at hc_) <;> (try (first | contradiction | (exfalso; omega)))) | refine ar_until (And.intro ?_ (wk3 ?_)))
      all_goals (first | refine ar_id ?_ | (try (focus ((try refine nrmO ?_); (repeat' (first | exact True.intro | refine And.intro ?_ ?_)); all_goals (try (intro (hg_ : _ = true); (try simp only [isNilI, inB, reduceCtorEq, cds] at hg_); (repeat' (first | exact True.intro | refine And.intro ?_ ?_)))); all_goals (first | exact ob1 | exact fn_CopyMI _ hs | exact fn_writW _ _ _ _ hs ha hcm h1 | exact fn_faultW _ | exact hgl_.1 | exact hgl_.2.1 | exact hgl_.2.2.1 | exact hgl_.2.2.2.1 | exact hgl_.2.2.2.2.1 | exact hgl_.2.2.2.2.2.1 | exact hgl_.2.2.2.2.2.2.1 | exact hgl_.2.2.2.2.2.2.2.1 | exact hgl_ | exact rfl | exact one1 rfl | exact trivial | skip)))))
      all_goals rw [hV]
    · by_cases hv : 0 ≤ v ∧ v ≤ 999
      · have hV : pStore m addr v = (setCellOf m (pEntry m addr).1.Frame (pEntry m addr).2 v, 0) := by unfold pStore; rw [if_pos hcl, if_neg (by rw [entry_eq]; exact h1), if_pos hv]
        obtain ⟨f0, f1, f2, f3⟩ := canMap_frame hcm
        have hn := canMap_nonneg hcm
        have ht : addr.tmod 16 = addr % 16 := Int.tmod_eq_emod_of_nonneg (by omega)
        refine fn_intro tt_ok Tryz.func55 rfl Tryz.call55 Tryz.ntmps55 Tryz.results55 rfl rfl rfl rfl ?_
        intro X ρ0 hb_ hgl_
        dsimp only [c_StoreI]
        try refine nrm ?_
        repeat' (refine ar_id ?_; first | refine st1 ?_ | (first | ((first | refine ar_region (id := 1) tt_ok (inps := [.call (c_CopyMI m)]) rfl ?_ ?_ | refine ar_region (id := 2) tt_ok (inps := [.call (c_writ s m addr v (pPageEntry m.Table (pgOf addr)).Mode (pPageEntry m.Table (pgOf addr)).Frame .nilIface)]) rfl ?_ ?_ | refine ar_region tt_ok (inps := []) rfl ?_ ?_); rotate_left; (try dsimp only [c_CopyMI, c_writ]); (try refine nrm ?_); rotate_right) | refine ret3 ?_ | refine end3 ?_) | (refine ar_cond rfl trivial ?_ ?_ <;> intro hc_ <;> (try simp only [isNilI, inB, reduceCtorEq, cds] at hc_) <;> (try (first | contradiction | (exfalso; omega)))) | refine ar_until (And.intro ?_ (wk3 ?_)))
        all_goals (first | refine ar_id ?_ | (try (focus ((try refine nrmO ?_); (repeat' (first | exact True.intro | refine And.intro ?_ ?_)); all_goals (try (intro (hg_ : _ = true); (try simp only [isNilI, inB, reduceCtorEq, cds] at hg_); (repeat' (first | exact True.intro | refine And.intro ?_ ?_)))); all_goals (first | exact ob1 | exact fn_CopyMI _ hs | exact fn_writN _ _ _ _ hs ha hcm h1 hv | exact hgl_.1 | exact hgl_.2.1 | exact hgl_.2.2.1 | exact hgl_.2.2.2.1 | exact hgl_.2.2.2.2.1 | exact hgl_.2.2.2.2.2.1 | exact hgl_.2.2.2.2.2.2.1 | exact hgl_.2.2.2.2.2.2.2.1 | exact hgl_ | exact rfl | exact one1 rfl | exact trivial | skip)))))
        have h2 : (pEntry m addr).1.Frame = (pPageEntry m.Table (pgOf addr)).Frame := by rw [entry_eq]
        have h3 : (pEntry m addr).2 = addr % 16 := by unfold pEntry; rw [if_neg hn]
        have hset : ∀ (o w : Int), ((m.Frames.Cells.getD (pPageEntry m.Table (pgOf addr)).Frame.toNat []).map eI).set (addr.tmod 16).toNat (dPut (eI o) 0 (D.lit (.int .i64 w) .nil)) = ((m.Frames.Cells.getD (pPageEntry m.Table (pgOf addr)).Frame.toNat []).set (addr.tmod 16).toNat w).map eI := fun o w => List.map_set.symm
        refine ar_open 13000 ((pPageEntry m.Table (pgOf addr)).Frame.toNat) 0 90001 90002 (d := eIntS (m.Frames.Cells.getD (pPageEntry m.Table (pgOf addr)).Frame.toNat [])) ((m.Frames.Cells.getD (pPageEntry m.Table (pgOf addr)).Frame.toNat []).map eI) rfl ?_ rfl ?_ rfl rfl rfl ?_
        · first | exact map_at (by omega) | assumption | exact set_at (by (try simp only [List.length_map, List.length_set]); omega) | (rw [List.getElem?_set_ne (by omega)]; exact map_at (by omega))
        · exact ⟨rfl, rfl, by intro e he; simp only [List.mem_map] at he; obtain ⟨_, _, rfl⟩ := he; rfl⟩
        intro A_90001 n_90001 c_90001
        try refine nrm ?_
        refine ar_region (id := 5) tt_ok (inps := [.nest (.lit (Value.slice A_90001 n_90001 c_90001) .nil) [(0, 90002)], .elem (eI ((m.Frames.Cells.getD (pPageEntry m.Table (pgOf addr)).Frame.toNat []).getD (addr.tmod 16).toNat 0))]) rfl ?_ ?_
        rotate_left
        (try refine nrm ?_)
        refine ar_close 13000 ((pPageEntry m.Table (pgOf addr)).Frame.toNat) 0 90001 90002 rfl rfl rfl (set_at ?_) rfl rfl rfl ?_
        · (simp only [List.length_map, List.length_set]; omega)
        try refine nrm ?_
        repeat' (refine ar_id ?_; first | refine st1 ?_ | (first | ((first | refine ar_region tt_ok (inps := []) rfl ?_ ?_); rotate_left; (try refine nrm ?_); rotate_right) | refine ret3 ?_ | refine end3 ?_) | (refine ar_cond rfl trivial ?_ ?_ <;> intro hc_ <;> (try simp only [isNilI, inB, reduceCtorEq, cds] at hc_) <;> (try (first | contradiction | (exfalso; omega)))) | refine ar_until (And.intro ?_ (wk3 ?_)))
        all_goals (first | refine ar_id ?_ | (try (focus ((try refine nrmO ?_); (repeat' (first | exact True.intro | refine And.intro ?_ ?_)); all_goals (try (intro (hg_ : _ = true); (try simp only [isNilI, inB, reduceCtorEq, cds] at hg_); (repeat' (first | exact True.intro | refine And.intro ?_ ?_)))); all_goals (first | exact ob1 | skip)))))
        all_goals (try (focus ((try refine nrmO ?_); (repeat' (first | exact True.intro | refine And.intro ?_ ?_)); all_goals (try (intro (hg_ : _ = true); (try simp only [isNilI, inB, reduceCtorEq, cds] at hg_); (repeat' (first | exact True.intro | refine And.intro ?_ ?_)))); all_goals (first | exact ob1 | skip))))
        · rw [hV]
        · rw [hV, List.set_set, hset, ht]
          unfold setCellOf
          rw [h2, h3]
          exact List.map_set.symm
        · rw [hV]; rfl
        · rw [hV]; rfl
        all_goals (rw [ht]; simp only [List.length_map]; omega)
      · have hV : pStore m addr v = (m, 3) := by unfold pStore; rw [if_pos hcl, if_neg (by rw [entry_eq]; exact h1), if_neg hv]
        refine fn_intro tt_ok Tryz.func55 rfl Tryz.call55 Tryz.ntmps55 Tryz.results55 rfl rfl rfl rfl ?_
        intro X ρ0 hb_ hgl_
        dsimp only [c_StoreI]
        try refine nrm ?_
        repeat' (refine ar_id ?_; first | refine st1 ?_ | (first | ((first | refine ar_region (id := 1) tt_ok (inps := [.call (c_CopyMI m)]) rfl ?_ ?_ | refine ar_region (id := 2) tt_ok (inps := [.call (c_writ s m addr v 0 0 (.iface 226 (.pointer (some s.aV))))]) rfl ?_ ?_ | refine ar_draw (id := 4) (inps := [.call (c_fault s s.aV 3)]) tt_ok (by kernel_rfl) rfl rfl (by kernel_rfl) rfl rfl rfl rfl ?_ ?_ | refine ar_region tt_ok (inps := []) rfl ?_ ?_); rotate_left; (try dsimp only [c_CopyMI, c_fault, c_writ]); (try refine nrm ?_); rotate_right) | refine ret3 ?_ | refine end3 ?_) | (refine ar_cond rfl trivial ?_ ?_ <;> intro hc_ <;> (try simp only [isNilI, inB, reduceCtorEq, cds] at hc_) <;> (try (first | contradiction | (exfalso; omega)))) | refine ar_until (And.intro ?_ (wk3 ?_)))
        all_goals (first | refine ar_id ?_ | (try (focus ((try refine nrmO ?_); (repeat' (first | exact True.intro | refine And.intro ?_ ?_)); all_goals (try (intro (hg_ : _ = true); (try simp only [isNilI, inB, reduceCtorEq, cds] at hg_); (repeat' (first | exact True.intro | refine And.intro ?_ ?_)))); all_goals (first | exact ob1 | exact fn_CopyMI _ hs | exact fn_writV _ _ _ _ hs ha hcm h1 hv | exact fn_faultV _ | exact hgl_.1 | exact hgl_.2.1 | exact hgl_.2.2.1 | exact hgl_.2.2.2.1 | exact hgl_.2.2.2.2.1 | exact hgl_.2.2.2.2.2.1 | exact hgl_.2.2.2.2.2.2.1 | exact hgl_.2.2.2.2.2.2.2.1 | exact hgl_ | exact rfl | exact one1 rfl | exact trivial | skip)))))
        all_goals rw [hV]
  · have hV : pStore m addr v = (m, 1) := by unfold pStore; rw [if_neg (fun h => hcm ((canLoad_iff m addr).1 h))]
    refine fn_intro tt_ok Tryz.func55 rfl Tryz.call55 Tryz.ntmps55 Tryz.results55 rfl rfl rfl rfl ?_
    intro X ρ0 hb_ hgl_
    dsimp only [c_StoreI]
    try refine nrm ?_
    repeat' (refine ar_id ?_; first | refine st1 ?_ | (first | ((first | refine ar_region (id := 1) tt_ok (inps := [.call (c_CopyMI m)]) rfl ?_ ?_ | refine ar_region (id := 2) tt_ok (inps := [.call (c_writ s m addr v 0 0 (.iface 226 (.pointer (some s.aP))))]) rfl ?_ ?_ | refine ar_draw (id := 4) (inps := [.call (c_fault s s.aP 1)]) tt_ok (by kernel_rfl) rfl rfl (by kernel_rfl) rfl rfl rfl rfl ?_ ?_ | refine ar_region tt_ok (inps := []) rfl ?_ ?_); rotate_left; (try dsimp only [c_CopyMI, c_fault, c_writ]); (try refine nrm ?_); rotate_right) | refine ret3 ?_ | refine end3 ?_) | (refine ar_cond rfl trivial ?_ ?_ <;> intro hc_ <;> (try simp only [isNilI, inB, reduceCtorEq, cds] at hc_) <;> (try (first | contradiction | (exfalso; omega)))) | refine ar_until (And.intro ?_ (wk3 ?_)))
    all_goals (first | refine ar_id ?_ | (try (focus ((try refine nrmO ?_); (repeat' (first | exact True.intro | refine And.intro ?_ ?_)); all_goals (try (intro (hg_ : _ = true); (try simp only [isNilI, inB, reduceCtorEq, cds] at hg_); (repeat' (first | exact True.intro | refine And.intro ?_ ?_)))); all_goals (first | exact ob1 | exact fn_CopyMI _ hs | exact fn_writP _ _ _ _ hs ha hcm | exact fn_faultP _ | exact hgl_.1 | exact hgl_.2.1 | exact hgl_.2.2.1 | exact hgl_.2.2.2.1 | exact hgl_.2.2.2.2.1 | exact hgl_.2.2.2.2.2.1 | exact hgl_.2.2.2.2.2.2.1 | exact hgl_.2.2.2.2.2.2.2.1 | exact hgl_ | exact rfl | exact one1 rfl | exact trivial | skip)))))
    all_goals rw [hV]
end Eng
end Go.Proofs.YtabnglcabpijfaaGreatDoor
namespace Go.Proofs.YtabnglcabpijfaaGreatDoor
open Go.RowKit
set_option linter.unusedVariables false
set_option linter.unusedSimpArgs false
set_option maxRecDepth 100000
namespace Eng
open Tr
def c_frameUsed (f : GFrames) (i : Int) : CFD := ⟨177, [.agg [ro 33 1 eIntS f.Cells, ro 4 1 Tr.eB f.Used], (SV.one (.lit (.int .i64 (i))))], [], (TV.sv (.one (.lit (.bool (decide (isUsed f i)))))), [], [], []⟩
theorem fn_frameUsed (f : GFrames) (i : Int) (hl : f.Cells.length ≤ 1048576) (hu : f.Used.length ≤ 1048576) (hc : ∀ r ∈ f.Cells, r.length ≤ 1048576) : Fn Tryz.prog (c_frameUsed f i) := by
  refine fn_intro tt_ok Tryz.func177 rfl Tryz.call177 Tryz.ntmps177 Tryz.results177 rfl rfl rfl rfl ?_
  intro X ρ0 hb_ hgl_
  dsimp only [c_frameUsed]
  try refine nrm ?_
  repeat' (refine ar_id ?_; first | refine st1 ?_ | (first | ((first | refine ar_region (id := 1) tt_ok (inps := [.call (c_FramesOkI f), .elem (Tr.eB (f.Used.getD i.toNat false))]) rfl ?_ ?_ | refine ar_region tt_ok (inps := []) rfl ?_ ?_); rotate_left; (try dsimp only [c_FramesOkI]); (try refine nrm ?_); rotate_right) | refine ret3 ?_ | refine end3 ?_) | (refine ar_cond rfl trivial ?_ ?_ <;> intro hc_ <;> (try simp only [isNilI, inB, reduceCtorEq, cds] at hc_) <;> (try (first | contradiction | (exfalso; omega)))) | refine ar_until (And.intro ?_ (wk3 ?_)))
  all_goals (first | refine ar_id ?_ | (try (focus ((try refine nrmO ?_); (repeat' (first | exact True.intro | refine And.intro ?_ ?_)); all_goals (try (intro (hg_ : _ = true); (try simp only [isNilI, inB, reduceCtorEq, cds] at hg_); (repeat' (first | exact True.intro | refine And.intro ?_ ?_)))); all_goals (first | exact ob1 | exact fn_FramesOkI _ hl hu hc | skip)))))
  refine congrArg Value.bool ?_
  by_cases h1 : okF f
  · by_cases h2 : 0 ≤ i ∧ i < f.Used.length
    · have e : f.Used[i.toNat]? = some (f.Used.getD i.toNat false) := getD_at (by omega)
      simp only [pFramesOk, isUsed, h1, h2, ge_iff_le, e, Option.some.injEq, decide_true, cond_true, true_and, and_self, Bool.decide_eq_true]
    · have e : (bif bif pFramesOk f then decide (i ≥ 0) else false then decide (i < ↑f.Used.length) else false) = false := by
        cases h3 : (bif bif pFramesOk f then decide (i ≥ 0) else false then decide (i < ↑f.Used.length) else false)
        · rfl
        · exfalso
          simp only [Bool.cond_false_right, Bool.and_eq_true, decide_eq_true_eq] at h3
          omega
      rw [e]
      simp only [isUsed, h2, false_and, and_false, decide_false, cond_false]
  · simp only [pFramesOk, isUsed, h1, false_and, decide_false, cond_false]
def c_GiveI (f : GFrames) (i : Int) : CFD := ⟨176, [.agg [ro 33 1 eIntS f.Cells, ro 4 1 Tr.eB f.Used], (SV.one (.lit (.int .i64 (i))))], [], .tup [.agg [.hd 0, .hd 1], (SV.one (.lit (.bool ((pFrameGive f i).2))))], [(0, some (.row 33 1 (((pFrameGive f i).1).Cells.map eIntS))), (1, some (.row 4 1 (((pFrameGive f i).1).Used.map Tr.eB)))], [0, 1], []⟩
theorem fn_GiveI (f : GFrames) (i : Int) (hl : f.Cells.length ≤ 1048576) (hu : f.Used.length ≤ 1048576) (hc : ∀ r ∈ f.Cells, r.length ≤ 1048576) : Fn Tryz.prog (c_GiveI f i) := by
  by_cases hU : isUsed f i
  · have hV : pFrameGive f i = (⟨f.Cells.set i.toNat (List.replicate 16 0), f.Used.set i.toNat false⟩, true) := by unfold pFrameGive; rw [if_pos hU]
    obtain ⟨hok, ⟨h5, h6⟩, h7⟩ := id hU
    have hr : i.toNat < f.Cells.length := by have := hok.2.1; omega
    have hl16 : (f.Cells.getD i.toNat []).length = 16 := by
      have e1 : f.Cells[i.toNat]? = some (f.Cells.getD i.toNat []) := getD_at hr
      exact (hok.2.2 _ (List.mem_of_getElem? (zip_at e1 h7))).1
    refine fn_intro tt_ok Tryz.func176 rfl Tryz.call176 Tryz.ntmps176 Tryz.results176 rfl rfl rfl rfl ?_
    intro X ρ0 hb_ hgl_
    dsimp only [c_GiveI]
    try refine nrm ?_
    rw [hV]
    repeat' (refine ar_id ?_; first | refine st1 ?_ | (first | ((first | refine ar_region (id := 1) tt_ok (inps := [.call (c_Copy5I f)]) rfl ?_ ?_ | refine ar_region (id := 2) tt_ok (inps := [.call (c_frameUsed f i)]) rfl ?_ ?_ | refine ar_region (id := 4) tt_ok (inps := [.elem (Tr.eB (f.Used.getD i.toNat false))]) rfl ?_ ?_ | refine ar_region tt_ok (inps := []) rfl ?_ ?_); rotate_left; (try dsimp only [c_Copy5I, c_frameUsed]); (try refine nrm ?_); rotate_right) | refine ret3 ?_ | refine end3 ?_) | (refine ar_cond rfl trivial ?_ ?_ <;> intro hc_ <;> (try simp only [isNilI, inB, reduceCtorEq, cds] at hc_) <;> (try (first | contradiction | (exfalso; omega)))) | refine ar_until (And.intro ?_ (wk3 ?_)))
    all_goals (first | refine ar_id ?_ | (try (focus ((try refine nrmO ?_); (repeat' (first | exact True.intro | refine And.intro ?_ ?_)); all_goals (try (intro (hg_ : _ = true); (try simp only [isNilI, inB, reduceCtorEq, cds] at hg_); (repeat' (first | exact True.intro | refine And.intro ?_ ?_)))); all_goals (first | exact ob1 | exact fn_Copy5I _ hl hu hc | exact fn_frameUsed _ _ hl hu hc | skip)))))
    rotate_left
    refine ar_open 9000 i.toNat 0 90001 90002 (d := eIntS (f.Cells.getD i.toNat [])) ((f.Cells.getD i.toNat []).map eI) rfl ?_ rfl ?_ rfl rfl rfl ?_
    · first | exact map_at (by omega) | assumption | exact set_at (by (try simp only [List.length_map, List.length_set]); omega) | (rw [List.getElem?_set_ne (by omega)]; exact map_at (by omega))
    · exact ⟨rfl, rfl, by intro e he; simp only [List.mem_map] at he; obtain ⟨_, _, rfl⟩ := he; rfl⟩
    intro A_90001 n_90001 c_90001
    try refine nrm ?_
    refine ar_region (id := 5) tt_ok (inps := [.nest (.lit (Value.slice A_90001 n_90001 c_90001) .nil) [(0, 90002)]]) rfl ?_ ?_
    rotate_left
    (try refine nrm ?_)
    refine ar_close 9000 i.toNat 0 90001 90002 rfl rfl rfl (set_at ?_) rfl rfl rfl ?_
    · (simp only [List.length_map, List.length_set]; omega)
    try refine nrm ?_
    repeat' (refine ar_id ?_; first | refine st1 ?_ | (first | ((first | refine ar_region tt_ok (inps := []) rfl ?_ ?_); rotate_left; (try refine nrm ?_); rotate_right) | refine ret3 ?_ | refine end3 ?_) | (refine ar_cond rfl trivial ?_ ?_ <;> intro hc_ <;> (try simp only [isNilI, inB, reduceCtorEq, cds] at hc_) <;> (try (first | contradiction | (exfalso; omega)))) | refine ar_until (And.intro ?_ (wk3 ?_)))
    all_goals (first | refine ar_id ?_ | (try (focus ((try refine nrmO ?_); (repeat' (first | exact True.intro | refine And.intro ?_ ?_)); all_goals (try (intro (hg_ : _ = true); (try simp only [isNilI, inB, reduceCtorEq, cds] at hg_); (repeat' (first | exact True.intro | refine And.intro ?_ ?_)))); all_goals (first | exact ob1 | skip)))))
    all_goals (try (focus ((try refine nrmO ?_); (repeat' (first | exact True.intro | refine And.intro ?_ ?_)); all_goals (try (intro (hg_ : _ = true); (try simp only [isNilI, inB, reduceCtorEq, cds] at hg_); (repeat' (first | exact True.intro | refine And.intro ?_ ?_)))); all_goals (first | exact ob1 | skip))))
    · rw [List.set_set, List.length_map, hl16]; exact (congrArg (List.set (f.Cells.map eIntS) i.toNat) (show _ = eIntS (List.replicate 16 0) from rfl)).trans List.map_set.symm
    · exact List.map_set.symm
    · intro d hd; obtain ⟨_, _, rfl⟩ := List.mem_map.1 hd; exact ⟨rfl, trivial⟩
  · have hV : pFrameGive f i = (f, false) := by unfold pFrameGive; rw [if_neg hU]
    refine fn_intro tt_ok Tryz.func176 rfl Tryz.call176 Tryz.ntmps176 Tryz.results176 rfl rfl rfl rfl ?_
    intro X ρ0 hb_ hgl_
    dsimp only [c_GiveI]
    try refine nrm ?_
    rw [hV]
    repeat' (refine ar_id ?_; first | refine st1 ?_ | (first | ((first | refine ar_region (id := 1) tt_ok (inps := [.call (c_Copy5I f)]) rfl ?_ ?_ | refine ar_region (id := 2) tt_ok (inps := [.call (c_frameUsed f i)]) rfl ?_ ?_ | refine ar_region tt_ok (inps := []) rfl ?_ ?_); rotate_left; (try dsimp only [c_Copy5I, c_frameUsed]); (try refine nrm ?_); rotate_right) | refine ret3 ?_ | refine end3 ?_) | (refine ar_cond rfl trivial ?_ ?_ <;> intro hc_ <;> (try simp only [isNilI, inB, reduceCtorEq, cds] at hc_) <;> (try (first | contradiction | (exfalso; omega)))) | refine ar_until (And.intro ?_ (wk3 ?_)))
    all_goals (first | refine ar_id ?_ | (try (focus ((try refine nrmO ?_); (repeat' (first | exact True.intro | refine And.intro ?_ ?_)); all_goals (try (intro (hg_ : _ = true); (try simp only [isNilI, inB, reduceCtorEq, cds] at hg_); (repeat' (first | exact True.intro | refine And.intro ?_ ?_)))); all_goals (first | exact ob1 | exact fn_Copy5I _ hl hu hc | exact fn_frameUsed _ _ hl hu hc | skip)))))
end Eng
end Go.Proofs.YtabnglcabpijfaaGreatDoor
namespace Go.Proofs.YtabnglcabpijfaaGreatDoor
open Go.RowKit
set_option linter.unusedVariables false
set_option linter.unusedSimpArgs false
set_option maxRecDepth 100000
namespace Eng
open Tr
def c_SetPageI (t : GTable) (page : Int) (e : GEntry) : CFD := ⟨174, [.agg [ro 42 2 eEntry t.Entries], (SV.one (.lit (.int .i64 (page)))), .agg [(CV.lit (.int .i64 (e.Mode))), (CV.lit (.int .i64 (e.Frame)))]], [],
  .tup [.agg [.hd 0], (SV.one (.lit (.bool ((pSetPage t page e).2))))], [(0, some (.row 42 2 (((pSetPage t page e).1).Entries.map eEntry)))], [0], []⟩
theorem fn_SetPageI (t : GTable) (page : Int) (e : GEntry) (hl : t.Entries.length ≤ 1048576) : Fn Tryz.prog (c_SetPageI t page e) := by
  refine fn_intro tt_ok Tryz.func174 rfl Tryz.call174 Tryz.ntmps174 Tryz.results174 rfl rfl rfl rfl ?_
  intro X ρ0 hb_ hgl_
  dsimp only [c_SetPageI]
  try refine nrm ?_
  repeat' (refine ar_id ?_; first | refine st1 ?_ | (first | ((first | refine ar_region (id := 1) tt_ok (inps := [.call (c_CloneE t.Entries)]) rfl ?_ ?_ | refine ar_region (id := 2) tt_ok (inps := [.call (c_pageExists t page), .call (c_entryOk e.Mode e.Frame)]) rfl ?_ ?_ | refine ar_region (id := 4) tt_ok (inps := [.elem (eEntry (t.Entries.getD page.toNat ⟨0, 0⟩))]) rfl ?_ ?_ | refine ar_region tt_ok (inps := []) rfl ?_ ?_); rotate_left; (try dsimp only [c_CloneE, c_entryOk, c_pageExists]); (try refine nrm ?_); rotate_right) | refine ret3 ?_ | refine end3 ?_) | (refine ar_cond rfl trivial ?_ ?_ <;> intro hc_ <;> (try simp only [isNilI, inB, reduceCtorEq, cds] at hc_) <;> (try (first | contradiction | (exfalso; omega)))) | refine ar_until (And.intro ?_ (wk3 ?_)))
  all_goals (first | refine ar_id ?_ | (try (focus ((try refine nrmO ?_); (repeat' (first | exact True.intro | refine And.intro ?_ ?_)); all_goals (try (intro (hg_ : _ = true); (try simp only [isNilI, inB, reduceCtorEq, cds] at hg_); (repeat' (first | exact True.intro | refine And.intro ?_ ?_)))); all_goals (first | exact ob1 | exact fn_CloneE _ hl | exact fn_pageExists _ _ hl | exact fn_entryOk _ _ | skip)))))
  all_goals unfold okA at hc_
  all_goals unfold pSetPage
  · rw [if_neg (by unfold okSet; omega)]
  · rw [if_neg (by unfold okSet; omega)]
  · rw [if_pos (by unfold okSet; omega)]
  · rw [if_pos (by unfold okSet; omega)]; exact List.map_set.symm
def c_PagesOnI (t : GTable) (frame : Int) : CFD := ⟨175, [.agg [ro 42 2 eEntry t.Entries], (SV.one (.lit (.int .i64 (frame))))], [], .sv (.one (.hd 0)), [(0, some (.row 3 1 ((pPagesOn t frame).map eI)))], [0], []⟩
theorem fn_PagesOnI (t : GTable) (frame : Int) (hl : t.Entries.length ≤ 1048576) : Fn Tryz.prog (c_PagesOnI t frame) := by
  refine fn_intro tt_ok Tryz.func175 rfl Tryz.call175 Tryz.ntmps175 Tryz.results175 rfl rfl rfl rfl ?_
  intro X ρ0 hb_ hgl_
  dsimp only [c_PagesOnI]
  try refine nrm ?_
  repeat' (refine ar_id ?_; first | refine st1 ?_ | (first | ((first | refine ar_region tt_ok (inps := []) rfl ?_ ?_); rotate_left; (try refine nrm ?_); rotate_right) | refine ret3 ?_ | refine end3 ?_) | (refine ar_cond rfl trivial ?_ ?_ <;> intro hc_ <;> (try simp only [isNilI, inB, reduceCtorEq, cds] at hc_) <;> (try (first | contradiction | (exfalso; omega)))) | refine ar_until (And.intro ?_ (wk3 ?_)))
  all_goals (first | refine ar_id ?_ | (try (focus ((try refine nrmO ?_); (repeat' (first | exact True.intro | refine And.intro ?_ ?_)); all_goals (try (intro (hg_ : _ = true); (try simp only [isNilI, inB, reduceCtorEq, cds] at hg_); (repeat' (first | exact True.intro | refine And.intro ?_ ?_)))); all_goals (first | exact ob1 | skip)))))
  refine ar_nil (s := 5) (T := 3) (q := 1) (r := 90000) rfl rfl ?_
  refine ar_keep 3831 (by dsimp only [keepS] <;> exact rfl) ?_
  refine ar_forM (t.Entries.length) (fun i => True) (fun i => [(11, (TV.sv (.one (.lit (.int .i64 (i)))))), (5, (TV.sv (.one (.hd 90000))))]) (fun i => [(90000, some (.row 3 1 ((onFrame frame 0 (t.Entries.take i)).map eI)))]) ?_ ?_ ?_
  rotate_left
  · first | trivial | simp
  (dsimp only [rnCap, capSVs, Int.toNat_natCast, ro, Nat.reduceAdd, Nat.reduceMul, Nat.zero_add, List.map, putT, app, wrapG, gOb, argT, keys, slotOf, dropped, gAnd, wB, rnT, rnS, rnC, rnCs, rnSs, rnM, rnB, rnN, rn, lk, St.over, ded, delL, keepT, menT, menSs, menS, menCs, menC, hasN, resT, SV.cells]; refine wk3 ?_; (focus ((try refine nrmO ?_); (repeat' (first | exact True.intro | refine And.intro ?_ ?_)); all_goals (try (intro (hg_ : _ = true); (try simp only [isNilI, inB, reduceCtorEq, cds] at hg_); (repeat' (first | exact True.intro | refine And.intro ?_ ?_)))); all_goals (first | exact ob1 | exact rfl | skip))))
  rotate_right
  intro i hi_ hiI_
  dsimp only [rnCap, capSVs, Int.toNat_natCast, ro, Nat.reduceAdd, Nat.reduceMul, Nat.zero_add, List.map, putT, app, wrapG, gOb, argT, keys, slotOf, dropped, gAnd, wB, rnT, rnS, rnC, rnCs, rnSs, rnM, rnB, rnN, rn, lk, St.over, ded, delL, keepT, menT, menSs, menS, menCs, menC, hasN, resT, SV.cells]
  repeat' (refine ar_id ?_; first | refine st1 ?_ | (first | ((first | refine ar_region (id := 4) tt_ok (inps := [.elem (eEntry (t.Entries.getD i ⟨0, 0⟩))]) rfl ?_ ?_ | refine ar_region (id := 5) tt_ok (inps := [.call (c_isMapped (t.Entries.getD i ⟨0, 0⟩).Mode (t.Entries.getD i ⟨0, 0⟩).Frame)]) rfl ?_ ?_ | refine ar_region tt_ok (inps := []) rfl ?_ ?_); rotate_left; (try dsimp only [c_isMapped]); (try refine nrm ?_); rotate_right) | refine ret3 ?_ | refine end3 ?_) | (refine ar_cond rfl trivial ?_ ?_ <;> intro hc_ <;> (try simp only [isNilI, inB, reduceCtorEq, cds] at hc_) <;> (try (first | contradiction | (exfalso; omega)))) | refine ar_until (And.intro ?_ (wk3 ?_)))
  all_goals (first | refine ar_id ?_ | (try (focus ((try refine nrmO ?_); (repeat' (first | exact True.intro | refine And.intro ?_ ?_)); all_goals (try (intro (hg_ : _ = true); (try simp only [isNilI, inB, reduceCtorEq, cds] at hg_); (repeat' (first | exact True.intro | refine And.intro ?_ ?_)))); all_goals (first | exact ob1 | exact fn_isMapped _ _ | skip)))))
  · have := onFrame_len frame 0 (t.Entries.take i)
    simp only [List.length_map, List.length_take, List.length_cons, List.length_nil] at *
    omega
  · rw [onFrame_take _ _ _ _ (getD_at (x := ⟨0, 0⟩) (by omega)), if_pos hc_, List.map_append, app_eq]; rfl
  · rw [onFrame_take _ _ _ _ (getD_at (x := ⟨0, 0⟩) (by omega)), if_neg (by omega), List.append_nil]
  · rw [List.take_of_length_le (by omega)]; rfl
end Eng
end Go.Proofs.YtabnglcabpijfaaGreatDoor
namespace Go.Proofs.YtabnglcabpijfaaGreatDoor
open Go.RowKit
set_option linter.unusedVariables false
namespace Tr
def okK (k : GKernel) : Prop := okM k.Machine ∧ (0 ≤ k.Calls ∧ k.Calls ≤ 100000) ∧ (∀ x ∈ k.Refuse, 0 ≤ x) ∧ k.Refuse.length ≤ 40
instance (k : GKernel) : Decidable (okK k) := by unfold okK; infer_instance
def pKernelOk (k : GKernel) : Bool := decide (okK k)
def canCall (k : GKernel) : Prop := okK k ∧ k.Calls < 100000
instance (k : GKernel) : Decidable (canCall k) := by unfold canCall; infer_instance
/-- the kernel behind one call more, and whether that call is granted -/
def called (k : GKernel) : GKernel := ⟨k.Machine, k.Calls + 1, k.Refuse⟩
def granted (k : GKernel) : Prop := k.Calls ∉ k.Refuse
instance (k : GKernel) : Decidable (granted k) := by unfold granted; infer_instance
def modeOf (k : GKernel) (page : Int) : Int := (pPageEntry k.Machine.Table page).Mode
/-- a frame given back if no page is mapped to it -/
def dropped (m : GMachine) (f : Nat) : GMachine := if (pPagesOn m.Table (f : Int)).length = 0 then ⟨⟨m.Frames.Cells.set f (List.replicate 16 0), m.Frames.Used.set f false⟩, m.Table⟩ else m
def setEntry (m : GMachine) (page : Nat) (e : GEntry) : GMachine := ⟨m.Frames, ⟨m.Table.Entries.set page e⟩⟩
def pOn (k : GKernel) (page other : Int) : GKernel × Bool :=
  if granted k ∧ modeOf k page ≠ 0 ∧ modeOf k other ≠ 0 ∧ page ≠ other then
    (⟨dropped (setEntry k.Machine page.toNat ⟨2, (pPageEntry k.Machine.Table other).Frame⟩) (pPageEntry k.Machine.Table page).Frame.toNat, k.Calls + 1, k.Refuse⟩, true)
  else (called k, false)
def pKMapOn (k : GKernel) (page other : Int) : GKernel × Bool := if canCall k then pOn k page other else (k, false)
def pProtect (k : GKernel) (page mode : Int) : GKernel × Bool :=
  if granted k ∧ modeOf k page ≠ 0 ∧ (1 ≤ mode ∧ mode ≤ 2) then (⟨setEntry k.Machine page.toNat ⟨mode, (pPageEntry k.Machine.Table page).Frame⟩, k.Calls + 1, k.Refuse⟩, true) else (called k, false)
def pKProtect (k : GKernel) (page mode : Int) : GKernel × Bool := if canCall k then pProtect k page mode else (k, false)
/-- the cells of one frame copied into another, one behind the other -/
def copied (m : GMachine) (a b : Int) : List Int → GMachine
  | [] => m
  | c :: l => copied (setCellOf m b c (cellOf m a c)) a b l
def pCells (k : GKernel) (a b : Int) (cells : List Int) : GKernel × Bool :=
  if (modeOf k a ≠ 0 ∧ modeOf k b ≠ 0) ∧ (∀ c ∈ cells, 0 ≤ c ∧ c ≤ 15) then (⟨copied k.Machine (pPageEntry k.Machine.Table a).Frame (pPageEntry k.Machine.Table b).Frame cells, k.Calls, k.Refuse⟩, true) else (k, false)
def pKCopy (k : GKernel) (a b : Int) (cells : List Int) : GKernel × Bool := if canCall k then pCells k a b cells else (k, false)
end Tr
end Go.Proofs.YtabnglcabpijfaaGreatDoor
namespace Go.Proofs.YtabnglcabpijfaaGreatDoor
open Go.RowKit
set_option linter.unusedVariables false
set_option linter.unusedSimpArgs false
set_option maxRecDepth 100000
namespace Eng
open Tr
/-- a kernel that can be read -/
structure szK (k : GKernel) : Prop where
  m : szM k.Machine
  r : k.Refuse.length ≤ 1048576
/-- where a number stands first -/
def idxI (x : Int) : Nat → List Int → Int
  | _, [] => -1
  | i, y :: l => if y = x then (i : Int) else idxI x (i + 1) l
theorem idxI_skip (x : Int) : ∀ (i : Nat) (a b : List Int), (∀ u ∈ a, u ≠ x) → idxI x i (a ++ b) = idxI x (i + a.length) b
  | _, [], _, _ => rfl
  | i, u :: a, b, h => by
    show (if u = x then _ else idxI x (i + 1) (a ++ b)) = _
    rw [if_neg (h u (by simp)), idxI_skip x (i + 1) a b (fun v hv => h v (by simp [hv])), List.length_cons, show i + 1 + a.length = i + (a.length + 1) by omega]
theorem idxI_hit (x : Int) (l : List Int) (i : Nat) (h : l[i]? = some x) (ha : ∀ u ∈ l.take i, u ≠ x) : idxI x 0 l = (i : Int) := by
  have hi : i < l.length := (List.getElem?_eq_some_iff.1 h).1
  have e : l = l.take i ++ (x :: l.drop (i + 1)) := by
    have h1 : l.drop i = x :: l.drop (i + 1) := by
      rw [List.drop_eq_getElem_cons hi]
      rw [List.getElem?_eq_getElem hi] at h
      rw [Option.some.inj h]
    rw [← h1, List.take_append_drop]
  rw [e, idxI_skip x 0 _ _ ha, List.length_take, Nat.min_eq_left (by omega), Nat.zero_add]
  exact if_pos rfl
theorem idxI_none (x : Int) (l : List Int) (ha : ∀ u ∈ l, u ≠ x) : idxI x 0 l = -1 := by
  have := idxI_skip x 0 l [] ha
  rw [List.append_nil] at this
  rw [this]; rfl
theorem idxI_lt (x : Int) : ∀ (i : Nat) (l : List Int), (idxI x i l = -1 ∧ x ∉ l) ∨ ∃ j : Nat, j < l.length ∧ idxI x i l = ((i + j : Nat) : Int) ∧ x ∈ l
  | _, [] => .inl ⟨rfl, by simp⟩
  | i, u :: l => by
    unfold idxI
    by_cases hu : u = x
    · exact .inr ⟨0, by simp, by rw [if_pos hu]; rfl, by simp [hu]⟩
    · rw [if_neg hu]
      rcases idxI_lt x (i + 1) l with ⟨h1, h2⟩ | ⟨j, h1, h2, h3⟩
      · exact .inl ⟨h1, by simp [h2, Ne.symm hu]⟩
      · exact .inr ⟨j + 1, by simp; omega, by rw [h2]; congr 1; omega, by simp [h3]⟩
def c_IndexI (l : List Int) (x : Int) : CFD := ⟨208, [.one (ro 3 1 Tr.eI l), (SV.one (.lit (.int .i64 (x))))], [], (TV.sv (.one (.lit (.int .i64 (idxI x 0 l))))), [], [], []⟩
theorem fn_IndexI (l : List Int) (x : Int) (hl : l.length ≤ 1048576) : Fn Tryz.prog (c_IndexI l x) := by
  refine fn_intro tt_ok Tryz.func208 rfl Tryz.call208 Tryz.ntmps208 Tryz.results208 rfl rfl rfl rfl ?_
  intro X ρ0 hb_ hgl_
  dsimp only [c_IndexI]
  try refine nrm ?_
  repeat' (refine ar_id ?_; first | refine st1 ?_ | (first | ((first | refine ar_region tt_ok (inps := []) rfl ?_ ?_); rotate_left; (try refine nrm ?_); rotate_right) | refine ret3 ?_ | refine end3 ?_) | (refine ar_cond rfl trivial ?_ ?_ <;> intro hc_ <;> (try simp only [isNilI, inB, reduceCtorEq, cds] at hc_) <;> (try (first | contradiction | (exfalso; omega)))) | refine ar_until (And.intro ?_ (wk3 ?_)))
  all_goals (first | refine ar_id ?_ | (try (focus ((try refine nrmO ?_); (repeat' (first | exact True.intro | refine And.intro ?_ ?_)); all_goals (try (intro (hg_ : _ = true); (try simp only [isNilI, inB, reduceCtorEq, cds] at hg_); (repeat' (first | exact True.intro | refine And.intro ?_ ?_)))); all_goals (first | exact ob1 | skip)))))
  refine ar_keep 435 (by dsimp only [keepS] <;> exact rfl) ?_
  refine ar_forM (l.length) (fun i => ∀ u ∈ l.take i, u ≠ x) (fun i => [(8, (TV.sv (.one (.lit (.int .i64 (i))))))]) (fun i => []) ?_ ?_ ?_
  rotate_left
  · first | trivial | simp
  (dsimp only [rnCap, capSVs, Int.toNat_natCast, ro, Nat.reduceAdd, Nat.reduceMul, Nat.zero_add, List.map, putT, app, wrapG, gOb, argT, keys, slotOf, dropped, gAnd, wB, rnT, rnS, rnC, rnCs, rnSs, rnM, rnB, rnN, rn, lk, St.over, ded, delL, keepT, menT, menSs, menS, menCs, menC, hasN, resT, SV.cells]; refine wk3 ?_; (focus ((try refine nrmO ?_); (repeat' (first | exact True.intro | refine And.intro ?_ ?_)); all_goals (try (intro (hg_ : _ = true); (try simp only [isNilI, inB, reduceCtorEq, cds] at hg_); (repeat' (first | exact True.intro | refine And.intro ?_ ?_)))); all_goals (first | exact ob1 | exact rfl | skip))))
  rotate_right
  intro i hi_ hiI_
  dsimp only [rnCap, capSVs, Int.toNat_natCast, ro, Nat.reduceAdd, Nat.reduceMul, Nat.zero_add, List.map, putT, app, wrapG, gOb, argT, keys, slotOf, dropped, gAnd, wB, rnT, rnS, rnC, rnCs, rnSs, rnM, rnB, rnN, rn, lk, St.over, ded, delL, keepT, menT, menSs, menS, menCs, menC, hasN, resT, SV.cells]
  repeat' (refine ar_id ?_; first | refine st1 ?_ | (first | ((first | refine ar_region (id := 4) tt_ok (inps := [.elem (Tr.eI (l.getD i 0))]) rfl ?_ ?_ | refine ar_region tt_ok (inps := []) rfl ?_ ?_); rotate_left; (try refine nrm ?_); rotate_right) | refine ret3 ?_ | refine end3 ?_) | (refine ar_cond rfl trivial ?_ ?_ <;> intro hc_ <;> (try simp only [isNilI, inB, reduceCtorEq, cds] at hc_) <;> (try (first | contradiction | (exfalso; omega)))) | refine ar_until (And.intro ?_ (wk3 ?_)))
  all_goals (first | refine ar_id ?_ | (try (focus ((try refine nrmO ?_); (repeat' (first | exact True.intro | refine And.intro ?_ ?_)); all_goals (try (intro (hg_ : _ = true); (try simp only [isNilI, inB, reduceCtorEq, cds] at hg_); (repeat' (first | exact True.intro | refine And.intro ?_ ?_)))); all_goals (first | exact ob1 | skip)))))
  · exact congrArg (Value.int .i64) (idxI_hit x l i (by rw [getD_at (x := 0) (by omega)]; exact congrArg some (by omega)) hiI_).symm
  · exact all_take (p := fun u => u ≠ x) (d := 0) hiI_ (by omega) (by omega)
  · exact congrArg (Value.int .i64) (idxI_none x l (all_full (p := fun u => u ≠ x) hiI_ (by omega))).symm
def c_Contains (l : List Int) (x : Int) : CFD := ⟨207, [.one (ro 3 1 Tr.eI l), (SV.one (.lit (.int .i64 (x))))], [], (TV.sv (.one (.lit (.bool (decide (x ∈ l)))))), [], [], []⟩
theorem fn_Contains (l : List Int) (x : Int) (hl : l.length ≤ 1048576) : Fn Tryz.prog (c_Contains l x) := by
  refine fn_intro tt_ok Tryz.func207 rfl Tryz.call207 Tryz.ntmps207 Tryz.results207 rfl rfl rfl rfl ?_
  intro X ρ0 hb_ hgl_
  dsimp only [c_Contains]
  try refine nrm ?_
  repeat' (refine ar_id ?_; first | refine st1 ?_ | (first | ((first | refine ar_region (id := 1) tt_ok (inps := [.call (c_IndexI l x)]) rfl ?_ ?_ | refine ar_region tt_ok (inps := []) rfl ?_ ?_); rotate_left; (try dsimp only [c_IndexI]); (try refine nrm ?_); rotate_right) | refine ret3 ?_ | refine end3 ?_) | (refine ar_cond rfl trivial ?_ ?_ <;> intro hc_ <;> (try simp only [isNilI, inB, reduceCtorEq, cds] at hc_) <;> (try (first | contradiction | (exfalso; omega)))) | refine ar_until (And.intro ?_ (wk3 ?_)))
  all_goals (first | refine ar_id ?_ | (try (focus ((try refine nrmO ?_); (repeat' (first | exact True.intro | refine And.intro ?_ ?_)); all_goals (try (intro (hg_ : _ = true); (try simp only [isNilI, inB, reduceCtorEq, cds] at hg_); (repeat' (first | exact True.intro | refine And.intro ?_ ?_)))); all_goals (first | exact ob1 | exact fn_IndexI _ _ hl | skip)))))
  refine congrArg Value.bool ?_
  rw [decide_eq_decide]
  rcases idxI_lt x 0 l with ⟨h1, h2⟩ | ⟨j, h1, h2, h3⟩
  · exact ⟨fun h => absurd h (by omega), fun h => absurd h h2⟩
  · exact ⟨fun _ => h3, fun _ => by omega⟩
def c_willing (n : Int) : CFD := ⟨205, [.agg [], (SV.one (.lit (.int .i64 (n))))], [], (TV.sv (.one (.lit (.bool (true))))), [], [], []⟩
theorem fn_willing (n : Int) : Fn Tryz.prog (c_willing n) := by
  refine fn_intro tt_ok Tryz.func205 rfl Tryz.call205 Tryz.ntmps205 Tryz.results205 rfl rfl rfl rfl ?_
  intro X ρ0 hb_ hgl_
  dsimp only [c_willing]
  try refine nrm ?_
  repeat' (refine ar_id ?_; first | refine st1 ?_ | (first | ((first | refine ar_region tt_ok (inps := []) rfl ?_ ?_); rotate_left; (try refine nrm ?_); rotate_right) | refine ret3 ?_ | refine end3 ?_) | (refine ar_cond rfl trivial ?_ ?_ <;> intro hc_ <;> (try simp only [isNilI, inB, reduceCtorEq, cds] at hc_) <;> (try (first | contradiction | (exfalso; omega)))) | refine ar_until (And.intro ?_ (wk3 ?_)))
  all_goals (first | refine ar_id ?_ | (try (focus ((try refine nrmO ?_); (repeat' (first | exact True.intro | refine And.intro ?_ ?_)); all_goals (try (intro (hg_ : _ = true); (try simp only [isNilI, inB, reduceCtorEq, cds] at hg_); (repeat' (first | exact True.intro | refine And.intro ?_ ?_)))); all_goals (first | exact ob1 | skip)))))
def c_refusing (l : List Int) (n : Int) : CFD := ⟨206, [.agg [ro 3 1 Tr.eI l], (SV.one (.lit (.int .i64 (n))))], [], (TV.sv (.one (.lit (.bool (decide (n ∉ l)))))), [], [], []⟩
theorem fn_refusing (l : List Int) (n : Int) (hl : l.length ≤ 1048576) : Fn Tryz.prog (c_refusing l n) := by
  refine fn_intro tt_ok Tryz.func206 rfl Tryz.call206 Tryz.ntmps206 Tryz.results206 rfl rfl rfl rfl ?_
  intro X ρ0 hb_ hgl_
  dsimp only [c_refusing]
  try refine nrm ?_
  repeat' (refine ar_id ?_; first | refine st1 ?_ | (first | ((first | refine ar_region (id := 1) tt_ok (inps := [.call (c_Contains l n)]) rfl ?_ ?_ | refine ar_region tt_ok (inps := []) rfl ?_ ?_); rotate_left; (try dsimp only [c_Contains]); (try refine nrm ?_); rotate_right) | refine ret3 ?_ | refine end3 ?_) | (refine ar_cond rfl trivial ?_ ?_ <;> intro hc_ <;> (try simp only [isNilI, inB, reduceCtorEq, cds] at hc_) <;> (try (first | contradiction | (exfalso; omega)))) | refine ar_until (And.intro ?_ (wk3 ?_)))
  all_goals (first | refine ar_id ?_ | (try (focus ((try refine nrmO ?_); (repeat' (first | exact True.intro | refine And.intro ?_ ?_)); all_goals (try (intro (hg_ : _ = true); (try simp only [isNilI, inB, reduceCtorEq, cds] at hg_); (repeat' (first | exact True.intro | refine And.intro ?_ ?_)))); all_goals (first | exact ob1 | exact fn_Contains _ _ hl | skip)))))
  exact congrArg Value.bool (by by_cases h : n ∈ l <;> simp [h])
def c_granterW (k : GKernel) : CFD := ⟨173, [.agg [ro 33 1 eIntS k.Machine.Frames.Cells, ro 4 1 Tr.eB k.Machine.Frames.Used, ro 42 2 eEntry k.Machine.Table.Entries, (CV.lit (.int .i64 (k.Calls))), ro 3 1 Tr.eI k.Refuse]], [], .sv (.one (.ifro 222 .nil)), [], [], []⟩
theorem fn_granterW (k : GKernel) (h : k.Refuse = []) : Fn Tryz.prog (c_granterW k) := by
  have hr : k.Refuse.length = 0 := by rw [h]; rfl
  refine fn_intro tt_ok Tryz.func173 rfl Tryz.call173 Tryz.ntmps173 Tryz.results173 rfl rfl rfl rfl ?_
  intro X ρ0 hb_ hgl_
  dsimp only [c_granterW]
  try refine nrm ?_
  repeat' (refine ar_id ?_; first | refine st1 ?_ | (first | ((first | refine ar_region tt_ok (inps := []) rfl ?_ ?_); rotate_left; (try refine nrm ?_); rotate_right) | refine ret3 ?_ | refine end3 ?_) | (refine ar_cond rfl trivial ?_ ?_ <;> intro hc_ <;> (try simp only [isNilI, inB, reduceCtorEq, cds] at hc_) <;> (try (first | contradiction | (exfalso; omega)))) | refine ar_until (And.intro ?_ (wk3 ?_)))
  all_goals (first | refine ar_id ?_ | (try (focus ((try refine nrmO ?_); (repeat' (first | exact True.intro | refine And.intro ?_ ?_)); all_goals (try (intro (hg_ : _ = true); (try simp only [isNilI, inB, reduceCtorEq, cds] at hg_); (repeat' (first | exact True.intro | refine And.intro ?_ ?_)))); all_goals (first | exact ob1 | skip)))))
def c_granterR (k : GKernel) : CFD := ⟨173, [.agg [ro 33 1 eIntS k.Machine.Frames.Cells, ro 4 1 Tr.eB k.Machine.Frames.Used, ro 42 2 eEntry k.Machine.Table.Entries, (CV.lit (.int .i64 (k.Calls))), ro 3 1 Tr.eI k.Refuse]], [], .sv (.one (.ifro 224 (.row 3 1 k.Refuse.length (D.cat (k.Refuse.map Tr.eI)) .nil))), [], [], []⟩
theorem fn_granterR (k : GKernel) (h : k.Refuse ≠ []) : Fn Tryz.prog (c_granterR k) := by
  have hr : k.Refuse.length ≠ 0 := fun e => h (List.length_eq_zero_iff.1 e)
  refine fn_intro tt_ok Tryz.func173 rfl Tryz.call173 Tryz.ntmps173 Tryz.results173 rfl rfl rfl rfl ?_
  intro X ρ0 hb_ hgl_
  dsimp only [c_granterR]
  try refine nrm ?_
  repeat' (refine ar_id ?_; first | refine st1 ?_ | (first | ((first | refine ar_region tt_ok (inps := []) rfl ?_ ?_); rotate_left; (try refine nrm ?_); rotate_right) | refine ret3 ?_ | refine end3 ?_) | (refine ar_cond rfl trivial ?_ ?_ <;> intro hc_ <;> (try simp only [isNilI, inB, reduceCtorEq, cds] at hc_) <;> (try (first | contradiction | (exfalso; omega)))) | refine ar_until (And.intro ?_ (wk3 ?_)))
  all_goals (first | refine ar_id ?_ | (try (focus ((try refine nrmO ?_); (repeat' (first | exact True.intro | refine And.intro ?_ ?_)); all_goals (try (intro (hg_ : _ = true); (try simp only [isNilI, inB, reduceCtorEq, cds] at hg_); (repeat' (first | exact True.intro | refine And.intro ?_ ?_)))); all_goals (first | exact ob1 | skip)))))
theorem mt_willing : Mt Tryz.prog 222 "loop.example/g00978/impl.grants" 205 := fun v w => by kernel_rfl
theorem mt_refusing : Mt Tryz.prog 224 "loop.example/g00978/impl.grants" 206 := fun v w => by kernel_rfl
def c_KOkI (k : GKernel) : CFD := ⟨15, [.agg [ro 33 1 eIntS k.Machine.Frames.Cells, ro 4 1 Tr.eB k.Machine.Frames.Used, ro 42 2 eEntry k.Machine.Table.Entries, (CV.lit (.int .i64 (k.Calls))), ro 3 1 Tr.eI k.Refuse]], [], (TV.sv (.one (.lit (.bool (pKernelOk k))))), [], [], []⟩
theorem fn_KOkI (k : GKernel) (hs : szK k) : Fn Tryz.prog (c_KOkI k) := by
  have hr := hs.r
  refine fn_intro tt_ok Tryz.func15 rfl Tryz.call15 Tryz.ntmps15 Tryz.results15 rfl rfl rfl rfl ?_
  intro X ρ0 hb_ hgl_
  dsimp only [c_KOkI]
  try refine nrm ?_
  repeat' (refine ar_id ?_; first | refine st1 ?_ | (first | ((first | refine ar_region (id := 1) tt_ok (inps := [.call (c_MOkI k.Machine)]) rfl ?_ ?_ | refine ar_region tt_ok (inps := []) rfl ?_ ?_); rotate_left; (try dsimp only [c_MOkI]); (try refine nrm ?_); rotate_right) | refine ret3 ?_ | refine end3 ?_) | (refine ar_cond rfl trivial ?_ ?_ <;> intro hc_ <;> (try simp only [isNilI, inB, reduceCtorEq, cds] at hc_) <;> (try (first | contradiction | (exfalso; omega)))) | refine ar_until (And.intro ?_ (wk3 ?_)))
  all_goals (first | refine ar_id ?_ | (try (focus ((try refine nrmO ?_); (repeat' (first | exact True.intro | refine And.intro ?_ ?_)); all_goals (try (intro (hg_ : _ = true); (try simp only [isNilI, inB, reduceCtorEq, cds] at hg_); (repeat' (first | exact True.intro | refine And.intro ?_ ?_)))); all_goals (first | exact ob1 | exact fn_MOkI _ hs.m | skip)))))
  · refine bf fun h => ?_
    rcases hc_ with ((hc_ | hc_) | hc_) | hc_
    · exact of_decide_eq_false hc_ h.1
    · have := h.2.1.1; omega
    · have := h.2.1.2; omega
    · have := h.2.2.2; omega
  have hc1 := hc_
  refine ar_keep 469762071 (by dsimp only [keepS] <;> exact rfl) ?_
  refine ar_forM (k.Refuse.length) (fun i => ∀ y ∈ k.Refuse.take i, 0 ≤ y) (fun i => [(28, (TV.sv (.one (.lit (.int .i64 (i))))))]) (fun i => []) ?_ ?_ ?_
  rotate_left
  · first | trivial | simp
  (dsimp only [rnCap, capSVs, Int.toNat_natCast, ro, Nat.reduceAdd, Nat.reduceMul, Nat.zero_add, List.map, putT, app, wrapG, gOb, argT, keys, slotOf, dropped, gAnd, wB, rnT, rnS, rnC, rnCs, rnSs, rnM, rnB, rnN, rn, lk, St.over, ded, delL, keepT, menT, menSs, menS, menCs, menC, hasN, resT, SV.cells]; refine wk3 ?_; (focus ((try refine nrmO ?_); (repeat' (first | exact True.intro | refine And.intro ?_ ?_)); all_goals (try (intro (hg_ : _ = true); (try simp only [isNilI, inB, reduceCtorEq, cds] at hg_); (repeat' (first | exact True.intro | refine And.intro ?_ ?_)))); all_goals (first | exact ob1 | exact rfl | skip))))
  rotate_right
  intro i hi_ hiI_
  dsimp only [rnCap, capSVs, Int.toNat_natCast, ro, Nat.reduceAdd, Nat.reduceMul, Nat.zero_add, List.map, putT, app, wrapG, gOb, argT, keys, slotOf, dropped, gAnd, wB, rnT, rnS, rnC, rnCs, rnSs, rnM, rnB, rnN, rn, lk, St.over, ded, delL, keepT, menT, menSs, menS, menCs, menC, hasN, resT, SV.cells]
  repeat' (refine ar_id ?_; first | refine st1 ?_ | (first | ((first | refine ar_region (id := 5) tt_ok (inps := [.elem (Tr.eI (k.Refuse.getD i 0))]) rfl ?_ ?_ | refine ar_region tt_ok (inps := []) rfl ?_ ?_); rotate_left; (try refine nrm ?_); rotate_right) | refine ret3 ?_ | refine end3 ?_) | (refine ar_cond rfl trivial ?_ ?_ <;> intro hc_ <;> (try simp only [isNilI, inB, reduceCtorEq, cds] at hc_) <;> (try (first | contradiction | (exfalso; omega)))) | refine ar_until (And.intro ?_ (wk3 ?_)))
  all_goals (first | refine ar_id ?_ | (try (focus ((try refine nrmO ?_); (repeat' (first | exact True.intro | refine And.intro ?_ ?_)); all_goals (try (intro (hg_ : _ = true); (try simp only [isNilI, inB, reduceCtorEq, cds] at hg_); (repeat' (first | exact True.intro | refine And.intro ?_ ?_)))); all_goals (first | exact ob1 | skip)))))
  · exact bf fun h => by have := h.2.2.1 _ (getD_in (l := k.Refuse) (i := i) (d := 0) (by omega)); omega
  · exact all_take (d := 0) hiI_ (by omega) hc_
  · exact bt ⟨of_decide_eq_true hc1.1.1.1, ⟨hc1.1.1.2, hc1.1.2⟩, all_full hiI_ (by omega), by omega⟩
def c_takes (k : GKernel) : CFD := ⟨127, [.agg [ro 33 1 eIntS k.Machine.Frames.Cells, ro 4 1 Tr.eB k.Machine.Frames.Used, ro 42 2 eEntry k.Machine.Table.Entries, (CV.lit (.int .i64 (k.Calls))), ro 3 1 Tr.eI k.Refuse]], [], (TV.sv (.one (.lit (.bool (decide (canCall k)))))), [], [], []⟩
theorem fn_takes (k : GKernel) (hs : szK k) : Fn Tryz.prog (c_takes k) := by
  refine fn_intro tt_ok Tryz.func127 rfl Tryz.call127 Tryz.ntmps127 Tryz.results127 rfl rfl rfl rfl ?_
  intro X ρ0 hb_ hgl_
  dsimp only [c_takes]
  try refine nrm ?_
  repeat' (refine ar_id ?_; first | refine st1 ?_ | (first | ((first | refine ar_region (id := 1) tt_ok (inps := [.call (c_KOkI k)]) rfl ?_ ?_ | refine ar_region tt_ok (inps := []) rfl ?_ ?_); rotate_left; (try dsimp only [c_KOkI]); (try refine nrm ?_); rotate_right) | refine ret3 ?_ | refine end3 ?_) | (refine ar_cond rfl trivial ?_ ?_ <;> intro hc_ <;> (try simp only [isNilI, inB, reduceCtorEq, cds] at hc_) <;> (try (first | contradiction | (exfalso; omega)))) | refine ar_until (And.intro ?_ (wk3 ?_)))
  all_goals (first | refine ar_id ?_ | (try (focus ((try refine nrmO ?_); (repeat' (first | exact True.intro | refine And.intro ?_ ?_)); all_goals (try (intro (hg_ : _ = true); (try simp only [isNilI, inB, reduceCtorEq, cds] at hg_); (repeat' (first | exact True.intro | refine And.intro ?_ ?_)))); all_goals (first | exact ob1 | exact fn_KOkI _ hs | skip)))))
  refine congrArg Value.bool (Bool.eq_iff_iff.2 (Iff.trans ?_ (decide_eq_true_iff (p := canCall k)).symm))
  simp only [decide_eq_true_eq, Bool.cond_false_right, Bool.and_eq_true, pKernelOk]
  exact Iff.rfl
def c_CopyKI (k : GKernel) : CFD := ⟨46, [.agg [ro 33 1 eIntS k.Machine.Frames.Cells, ro 4 1 Tr.eB k.Machine.Frames.Used, ro 42 2 eEntry k.Machine.Table.Entries, (CV.lit (.int .i64 (k.Calls))), ro 3 1 Tr.eI k.Refuse]], [], .sv (.agg [.hd 0, .hd 1, .hd 2, (CV.lit (.int .i64 (k.Calls))), .hd 3]), [(0, some (.row 33 1 (k.Machine.Frames.Cells.map eIntS))), (1, some (.row 4 1 (k.Machine.Frames.Used.map Tr.eB))), (2, some (.row 42 2 (k.Machine.Table.Entries.map eEntry))), (3, some (.row 3 1 (k.Refuse.map Tr.eI)))], [0, 1, 2, 3], []⟩
theorem fn_CopyKI (k : GKernel) (hs : szK k) : Fn Tryz.prog (c_CopyKI k) := by
  have hr := hs.r
  refine fn_intro tt_ok Tryz.func46 rfl Tryz.call46 Tryz.ntmps46 Tryz.results46 rfl rfl rfl rfl ?_
  intro X ρ0 hb_ hgl_
  dsimp only [c_CopyKI]
  try refine nrm ?_
  repeat' (refine ar_id ?_; first | refine st1 ?_ | (first | ((first | refine ar_draw (id := 1) (inps := [.call (c_CopyMI k.Machine), .call (c_CloneI k.Refuse)]) tt_ok (by kernel_rfl) rfl rfl (by kernel_rfl) rfl rfl rfl rfl ?_ ?_ | refine ar_region tt_ok (inps := []) rfl ?_ ?_); rotate_left; (try dsimp only [c_CloneI, c_CopyMI]); (try refine nrm ?_); rotate_right) | refine ret3 ?_ | refine end3 ?_) | (refine ar_cond rfl trivial ?_ ?_ <;> intro hc_ <;> (try simp only [isNilI, inB, reduceCtorEq, cds] at hc_) <;> (try (first | contradiction | (exfalso; omega)))) | refine ar_until (And.intro ?_ (wk3 ?_)))
  all_goals (first | refine ar_id ?_ | (try (focus ((try refine nrmO ?_); (repeat' (first | exact True.intro | refine And.intro ?_ ?_)); all_goals (try (intro (hg_ : _ = true); (try simp only [isNilI, inB, reduceCtorEq, cds] at hg_); (repeat' (first | exact True.intro | refine And.intro ?_ ?_)))); all_goals (first | exact ob1 | exact fn_CopyMI _ hs.m | exact fn_CloneI _ hs.r | skip)))))
def pCount (k : GKernel) : GKernel × Bool := if canCall k then (called k, decide (granted k)) else (k, false)
def c_Count (k : GKernel) : CFD := ⟨170, [.agg [ro 33 1 eIntS k.Machine.Frames.Cells, ro 4 1 Tr.eB k.Machine.Frames.Used, ro 42 2 eEntry k.Machine.Table.Entries, (CV.lit (.int .i64 (k.Calls))), ro 3 1 Tr.eI k.Refuse]], [], .tup [.agg [.hd 0, .hd 1, .hd 2, (CV.lit (.int .i64 (((pCount k).1).Calls))), .hd 3], (SV.one (.lit (.bool ((pCount k).2))))], [(0, some (.row 33 1 (((pCount k).1).Machine.Frames.Cells.map eIntS))), (1, some (.row 4 1 (((pCount k).1).Machine.Frames.Used.map Tr.eB))), (2, some (.row 42 2 (((pCount k).1).Machine.Table.Entries.map eEntry))), (3, some (.row 3 1 (((pCount k).1).Refuse.map Tr.eI)))], [0, 1, 2, 3], []⟩
theorem fn_Count (k : GKernel) (hs : szK k) : Fn Tryz.prog (c_Count k) := by
  by_cases hC : canCall k
  · have h0 : 0 ≤ k.Calls := hC.1.2.1.1
    have h1 : k.Calls < 100000 := hC.2
    by_cases hE : k.Refuse = []
    · have hV : pCount k = (⟨k.Machine, k.Calls + 1, k.Refuse⟩, true) := by unfold pCount; rw [if_pos hC, decide_eq_true (show granted k by unfold granted; rw [hE]; simp)]; rfl
      refine fn_intro tt_ok Tryz.func170 rfl Tryz.call170 Tryz.ntmps170 Tryz.results170 rfl rfl rfl rfl ?_
      intro X ρ0 hb_ hgl_
      dsimp only [c_Count]
      try refine nrm ?_
      rw [hV]
      repeat' (refine ar_id ?_; first | refine st1 ?_ | (first | ((first | refine ar_region (id := 1) tt_ok (inps := [.call (c_CopyKI k)]) rfl ?_ ?_ | refine ar_region (id := 2) tt_ok (inps := [.call (c_takes k)]) rfl ?_ ?_ | refine ar_draw (id := 5) (inps := [.call (c_granterW k), .call (c_willing k.Calls)]) tt_ok (by kernel_rfl) rfl rfl (by kernel_rfl) rfl rfl rfl rfl ?_ ?_ | refine ar_region tt_ok (inps := []) rfl ?_ ?_); rotate_left; (try dsimp only [c_CopyKI, c_granterW, c_takes, c_willing]); (try refine nrm ?_); rotate_right) | refine ret3 ?_ | refine end3 ?_) | (refine ar_cond rfl trivial ?_ ?_ <;> intro hc_ <;> (try simp only [isNilI, inB, reduceCtorEq, cds] at hc_) <;> (try (first | contradiction | (exfalso; omega)))) | refine ar_until (And.intro ?_ (wk3 ?_)))
      all_goals (first | refine ar_id ?_ | (try (focus ((try refine nrmO ?_); (repeat' (first | exact True.intro | refine And.intro ?_ ?_)); all_goals (try (intro (hg_ : _ = true); (try simp only [isNilI, inB, reduceCtorEq, cds] at hg_); (repeat' (first | exact True.intro | refine And.intro ?_ ?_)))); all_goals (first | exact ob1 | exact fn_CopyKI _ hs | exact fn_takes _ hs | exact fn_granterW _ hE | exact fn_willing _ | exact mt_willing | skip)))))
    · have hV : pCount k = (⟨k.Machine, k.Calls + 1, k.Refuse⟩, decide (k.Calls ∉ k.Refuse)) := by unfold pCount; rw [if_pos hC]; rfl
      refine fn_intro tt_ok Tryz.func170 rfl Tryz.call170 Tryz.ntmps170 Tryz.results170 rfl rfl rfl rfl ?_
      intro X ρ0 hb_ hgl_
      dsimp only [c_Count]
      try refine nrm ?_
      rw [hV]
      repeat' (refine ar_id ?_; first | refine st1 ?_ | (first | ((first | refine ar_region (id := 1) tt_ok (inps := [.call (c_CopyKI k)]) rfl ?_ ?_ | refine ar_region (id := 2) tt_ok (inps := [.call (c_takes k)]) rfl ?_ ?_ | refine ar_draw (id := 5) (inps := [.call (c_granterR k), .call (c_refusing k.Refuse k.Calls)]) tt_ok (by kernel_rfl) rfl rfl (by kernel_rfl) rfl rfl rfl rfl ?_ ?_ | refine ar_region tt_ok (inps := []) rfl ?_ ?_); rotate_left; (try dsimp only [c_CopyKI, c_granterR, c_refusing, c_takes]); (try refine nrm ?_); rotate_right) | refine ret3 ?_ | refine end3 ?_) | (refine ar_cond rfl trivial ?_ ?_ <;> intro hc_ <;> (try simp only [isNilI, inB, reduceCtorEq, cds] at hc_) <;> (try (first | contradiction | (exfalso; omega)))) | refine ar_until (And.intro ?_ (wk3 ?_)))
      all_goals (first | refine ar_id ?_ | (try (focus ((try refine nrmO ?_); (repeat' (first | exact True.intro | refine And.intro ?_ ?_)); all_goals (try (intro (hg_ : _ = true); (try simp only [isNilI, inB, reduceCtorEq, cds] at hg_); (repeat' (first | exact True.intro | refine And.intro ?_ ?_)))); all_goals (first | exact ob1 | exact fn_CopyKI _ hs | exact fn_takes _ hs | exact fn_granterR _ hE | exact fn_refusing _ _ hs.r | exact mt_refusing | skip)))))
  · have hV : pCount k = (k, false) := by unfold pCount; rw [if_neg hC]
    refine fn_intro tt_ok Tryz.func170 rfl Tryz.call170 Tryz.ntmps170 Tryz.results170 rfl rfl rfl rfl ?_
    intro X ρ0 hb_ hgl_
    dsimp only [c_Count]
    try refine nrm ?_
    rw [hV]
    repeat' (refine ar_id ?_; first | refine st1 ?_ | (first | ((first | refine ar_region (id := 1) tt_ok (inps := [.call (c_CopyKI k)]) rfl ?_ ?_ | refine ar_region (id := 2) tt_ok (inps := [.call (c_takes k)]) rfl ?_ ?_ | refine ar_region tt_ok (inps := []) rfl ?_ ?_); rotate_left; (try dsimp only [c_CopyKI, c_takes]); (try refine nrm ?_); rotate_right) | refine ret3 ?_ | refine end3 ?_) | (refine ar_cond rfl trivial ?_ ?_ <;> intro hc_ <;> (try simp only [isNilI, inB, reduceCtorEq, cds] at hc_) <;> (try (first | contradiction | (exfalso; omega)))) | refine ar_until (And.intro ?_ (wk3 ?_)))
    all_goals (first | refine ar_id ?_ | (try (focus ((try refine nrmO ?_); (repeat' (first | exact True.intro | refine And.intro ?_ ?_)); all_goals (try (intro (hg_ : _ = true); (try simp only [isNilI, inB, reduceCtorEq, cds] at hg_); (repeat' (first | exact True.intro | refine And.intro ?_ ?_)))); all_goals (first | exact ob1 | exact fn_CopyKI _ hs | exact fn_takes _ hs | skip)))))
end Eng
end Go.Proofs.YtabnglcabpijfaaGreatDoor
namespace Go.Proofs.YtabnglcabpijfaaGreatDoor
open Go.RowKit
set_option linter.unusedVariables false
namespace Eng
open Tr
theorem okF_sz {f : GFrames} (h : okF f) : f.Cells.length ≤ 32 ∧ f.Used.length ≤ 32 ∧ ∀ r ∈ f.Cells, r.length ≤ 16 := by
  refine ⟨h.1.2, by have := h.1.2; have := h.2.1; omega, fun r hr => ?_⟩
  obtain ⟨i, hi⟩ := List.getElem?_of_mem hr
  have hl := (List.getElem?_eq_some_iff.1 hi).1
  have hu : f.Used[i]? = some (f.Used.getD i false) := getD_at (by have := h.2.1; omega)
  have := h.2.2 _ (List.mem_of_getElem? (zip_at hi hu))
  have := this.1
  show r.length ≤ 16
  simp only at this
  omega
end Eng
end Go.Proofs.YtabnglcabpijfaaGreatDoor
namespace Go.Proofs.YtabnglcabpijfaaGreatDoor
open Go.RowKit
set_option linter.unusedVariables false
namespace Tr
theorem okF_at {f : GFrames} : okF f ↔ (1 ≤ f.Cells.length ∧ f.Cells.length ≤ 32) ∧ f.Used.length = f.Cells.length ∧ ∀ (i : Nat) (r : List Int) (u : Bool), f.Cells[i]? = some r → f.Used[i]? = some u → okRow u r := by
  unfold okF
  constructor
  · rintro ⟨h1, h2, h3⟩
    exact ⟨h1, h2, fun i r u hr hu => h3 (r, u) (List.mem_of_getElem? (zip_at hr hu))⟩
  · rintro ⟨h1, h2, h3⟩
    refine ⟨h1, h2, fun p hp => ?_⟩
    obtain ⟨i, hi⟩ := List.mem_iff_getElem?.1 hp
    obtain ⟨r, u⟩ := p
    obtain ⟨hr, hu⟩ := List.getElem?_zip_eq_some.1 hi
    exact h3 i r u hr hu
theorem ok_cell {f : GFrames} {i k : Nat} {r : List Int} {v : Int} (h : okF f) (hu : f.Used[i]? = some true) (hr : f.Cells[i]? = some r) (h0 : 0 ≤ v) (h1 : v ≤ 999) : okF ⟨f.Cells.set i (r.set k v), f.Used⟩ := by
  rw [okF_at] at h ⊢
  obtain ⟨g1, g2, g3⟩ := h
  refine ⟨by show 1 ≤ (f.Cells.set i _).length ∧ (f.Cells.set i _).length ≤ 32; rw [List.length_set]; exact g1, by show _ = (f.Cells.set i _).length; rw [List.length_set]; exact g2, fun j r' u hr' hu' => ?_⟩
  have hr2 : (f.Cells.set i (r.set k v))[j]? = some r' := hr'
  by_cases hj : i = j
  · subst hj
    have hil : i < f.Cells.length := (List.getElem?_eq_some_iff.1 hr).1
    rw [List.getElem?_set_self hil] at hr2
    obtain rfl := Option.some.inj hr2
    have hu2 : f.Used[i]? = some u := hu'
    rw [hu] at hu2
    obtain rfl := Option.some.inj hu2
    obtain ⟨q1, q2⟩ := g3 i r true hr hu
    refine ⟨by rw [List.length_set]; exact q1, fun x hx => ?_⟩
    rcases List.mem_or_eq_of_mem_set hx with hx | rfl
    · exact q2 x hx
    · exact ⟨⟨h0, h1⟩, .inl rfl⟩
  · rw [List.getElem?_set_ne hj] at hr2
    exact g3 j r' u hr2 hu'
end Tr
end Go.Proofs.YtabnglcabpijfaaGreatDoor
namespace Go.Proofs.YtabnglcabpijfaaGreatDoor
open Go.RowKit
set_option linter.unusedVariables false
namespace Tr
theorem okRow_mono {u : Bool} {r : List Int} (h : okRow u r) : okRow true r := ⟨h.1, fun v hv => ⟨(h.2 v hv).1, .inl rfl⟩⟩
theorem okRow_none {r : List Int} (h : okRow false r) : r = List.replicate 16 0 := by
  refine List.eq_replicate_iff.2 ⟨h.1, fun v hv => ?_⟩
  rcases (h.2 v hv).2 with h2 | h2
  · cases h2
  · exact h2
/-- frames of which frame i is taken -/
structure Taken (f : GFrames) (i : Nat) : Prop where
  ok : okF f
  free : f.Used[i]? = some false
def took (f : GFrames) (i : Nat) : GFrames := ⟨f.Cells, f.Used.set i true⟩
def wrote (f : GFrames) (i : Nat) (k v : Int) : GFrames := ⟨f.Cells.set i ((List.replicate 16 0).set k.toNat v), f.Used.set i true⟩
section
variable {f : GFrames} {i : Nat} (t : Taken f i)
include t
theorem Taken.lt : i < f.Used.length := (List.getElem?_eq_some_iff.1 t.free).1
theorem Taken.ltc : i < f.Cells.length := by have := t.lt; have := t.ok.2.1; omega
theorem Taken.row : f.Cells[i]? = some (List.replicate 16 0) := by
  have hl := t.ltc
  have hr := List.getElem?_eq_getElem hl
  have h1 := (okF_at.1 t.ok).2.2 i _ false hr t.free
  rw [hr, okRow_none h1]
theorem Taken.ok1 : okF (took f i) := by
  have h := okF_at.1 t.ok
  refine okF_at.2 ⟨h.1, by show (f.Used.set i true).length = _; rw [List.length_set]; exact h.2.1, fun j r u hr hu => ?_⟩
  by_cases hj : i = j
  · subst hj
    have hu' : (f.Used.set i true)[i]? = some u := hu
    rw [List.getElem?_set_self t.lt] at hu'
    obtain rfl := Option.some.inj hu'
    exact okRow_mono (h.2.2 i r false hr t.free)
  · have hu' : (f.Used.set i true)[j]? = some u := hu
    rw [List.getElem?_set_ne hj] at hu'
    exact h.2.2 j r u hr hu'
theorem Taken.used : isUsed (took f i) (i : Int) := by
  refine ⟨t.ok1, ⟨by omega, ?_⟩, ?_⟩
  · show (i : Int) < ((f.Used.set i true).length : Int)
    rw [List.length_set]; have := t.lt; omega
  · show (f.Used.set i true)[(i : Int).toNat]? = some true
    rw [Int.toNat_natCast, List.getElem?_set_self t.lt]
theorem Taken.ok2 {k v : Int} (h2 : 0 ≤ v) (h3 : v ≤ 999) : okF (wrote f i k v) := by
  have hu : (took f i).Used[i]? = some true := by have := t.used.2.2; rwa [Int.toNat_natCast] at this
  exact ok_cell t.ok1 hu t.row h2 h3
end
end Tr
end Go.Proofs.YtabnglcabpijfaaGreatDoor
namespace Go.Proofs.YtabnglcabpijfaaGreatDoor
open Go.RowKit
set_option linter.unusedVariables false
namespace Tr
theorem onFrame_pos (f : Int) : ∀ (k : Nat) (l : List GEntry) (i : Nat) (e : GEntry), l[i]? = some e → e.Mode ≠ 0 → e.Frame = f → 0 < (onFrame f k l).length
  | _, [], _, _, h, _, _ => by simp at h
  | k, x :: l, 0, e, h, hm, hf => by
    obtain rfl : x = e := by simpa using h
    show 0 < (_ ++ onFrame f (k + 1) l).length
    rw [if_pos ⟨hm, hf⟩, List.length_append]
    simp; omega
  | k, x :: l, i + 1, e, h, hm, hf => by
    show 0 < (_ ++ onFrame f (k + 1) l).length
    rw [List.length_append]
    have := onFrame_pos f (k + 1) l i e (by simpa using h) hm hf
    omega
end Tr
end Go.Proofs.YtabnglcabpijfaaGreatDoor
namespace Go.Proofs.YtabnglcabpijfaaGreatDoor
open Go.RowKit
set_option linter.unusedVariables false
set_option linter.unusedSimpArgs false
namespace Tr
/-- a page is mapped to the frame f -/
def onF (f : Int) (l : List GEntry) : Prop := ∃ (j : Nat) (e : GEntry), l[j]? = some e ∧ e.Mode ≠ 0 ∧ e.Frame = f
theorem onFrame_iff (f : Int) : ∀ (l : List GEntry) (k : Nat), 0 < (onFrame f k l).length ↔ onF f l
  | [], k => by constructor
                · intro h; exact absurd h (by simp [onFrame])
                · rintro ⟨j, e, h, _⟩; simp at h
  | a :: l, k => by
    unfold onFrame
    have ih := onFrame_iff f l (k + 1)
    by_cases h : a.Mode ≠ 0 ∧ a.Frame = f
    · rw [if_pos h]
      exact ⟨fun _ => ⟨0, a, rfl, h⟩, fun _ => by simp⟩
    · rw [if_neg h]
      refine Iff.trans ih ⟨?_, ?_⟩
      · rintro ⟨j, e, h1, h2⟩; exact ⟨j + 1, e, by simpa using h1, h2⟩
      · rintro ⟨j, e, h1, h2⟩
        cases j with
        | zero => obtain rfl := Option.some.inj (show some a = some e from h1); exact absurd h2 h
        | succ j => exact ⟨j, e, by simpa using h1, h2⟩
theorem pages_iff (t : GTable) (f : Int) : 0 < (pPagesOn t f).length ↔ onF f t.Entries := onFrame_iff f _ 0
theorem used_iff {m : GMachine} : usedAre m ↔ ∀ i, i < m.Frames.Used.length → (m.Frames.Used[i]? = some true ∧ onF (i : Int) m.Table.Entries) ∨ (m.Frames.Used[i]? = some false ∧ ¬ onF (i : Int) m.Table.Entries) := by
  unfold usedAre
  refine forall_congr' fun i => forall_congr' fun hi => ?_
  rw [← pages_iff]
  by_cases h : 0 < (pPagesOn m.Table (i : Int)).length
  · rw [decide_eq_true h]; simp [h]
  · rw [decide_eq_false h]; simp [h]
end Tr
end Go.Proofs.YtabnglcabpijfaaGreatDoor
namespace Go.Proofs.YtabnglcabpijfaaGreatDoor
open Go.RowKit
set_option linter.unusedVariables false
set_option linter.unusedSimpArgs false
namespace Tr
def mayJ (k : GKernel) (j : GJob) : Prop := canCall k ∧ okJ j ∧ modeOf k j.Plan.Keep ≠ 0 ∧ modeOf k j.Plan.Move ≠ 0 ∧ (pPageEntry k.Machine.Table j.Plan.Keep).Frame ≠ (pPageEntry k.Machine.Table j.Plan.Move).Frame
instance (k : GKernel) (j : GJob) : Decidable (mayJ k j) := by unfold mayJ; infer_instance
/-- the cell of number n -/
def cellJ (j : GJob) (n : Int) : Int := j.Plan.Cells.getD n.toNat 0
/-- one step, where one may be performed -/
def stepJ (k : GKernel) (j : GJob) : GKernel × GJob :=
  if j.Phase = 0 then ((pProtect k j.Plan.Move 1).1, ⟨j.Plan, if (pProtect k j.Plan.Move 1).2 = true then 1 else 5, j.Next⟩)
  else if j.Phase = 1 then
    if j.Next = (j.Plan.Cells.length : Int) then (k, ⟨j.Plan, 2, j.Next⟩) else ((pCells k j.Plan.Move j.Plan.Keep [cellJ j j.Next]).1, ⟨j.Plan, j.Phase, j.Next + 1⟩)
  else if j.Phase = 2 then ((pOn k j.Plan.Move j.Plan.Keep).1, ⟨j.Plan, if (pOn k j.Plan.Move j.Plan.Keep).2 = true then 4 else 3, j.Next⟩)
  else if j.Phase = 3 then
    if 0 < j.Next then (⟨(pStore k.Machine (j.Plan.Keep * 16 + cellJ j (j.Next - 1)) 0).1, k.Calls, k.Refuse⟩, ⟨j.Plan, j.Phase, j.Next - 1⟩)
    else ((pProtect k j.Plan.Move 2).1, ⟨j.Plan, if (pProtect k j.Plan.Move 2).2 = true then 5 else j.Phase, j.Next⟩)
  else (k, j)
def pJobStep (k : GKernel) (j : GJob) : GKernel × GJob := if mayJ k j then stepJ k j else (k, j)
/-- at most n steps -/
def runJ : Nat → GKernel × GJob → GKernel × GJob
  | 0, s => s
  | n + 1, s => if ¬ overJ s.2 ∧ mayJ s.1 s.2 then runJ n (stepJ s.1 s.2) else s
def pJobRun (k : GKernel) (j : GJob) (most : Int) : GKernel × GJob := if 0 ≤ most ∧ most ≤ 200 then runJ most.toNat (k, j) else (k, j)
theorem runJ_stop {s : GKernel × GJob} (h : ¬ (¬ overJ s.2 ∧ mayJ s.1 s.2)) : ∀ n, runJ n s = s
  | 0 => rfl
  | n + 1 => if_neg h
theorem runJ_add : ∀ (a b : Nat) (s : GKernel × GJob), runJ (a + b) s = runJ b (runJ a s)
  | 0, b, s => by rw [Nat.zero_add]; rfl
  | a + 1, b, s => by
    rw [Nat.add_right_comm]
    by_cases h : ¬ overJ s.2 ∧ mayJ s.1 s.2
    · show (if _ then _ else _) = runJ b (if _ then _ else _)
      rw [if_pos h, if_pos h]
      exact runJ_add a b _
    · rw [runJ_stop h, runJ_stop h, runJ_stop h]
theorem runJ_succ (n : Nat) (s : GKernel × GJob) : runJ (n + 1) s = (if ¬ overJ (runJ n s).2 ∧ mayJ (runJ n s).1 (runJ n s).2 then stepJ (runJ n s).1 (runJ n s).2 else runJ n s) := by
  rw [runJ_add n 1 s]; rfl
end Tr
end Go.Proofs.YtabnglcabpijfaaGreatDoor
namespace Go.Proofs.YtabnglcabpijfaaGreatDoor
open Go.RowKit
set_option linter.unusedVariables false
set_option linter.unusedSimpArgs false
set_option maxRecDepth 100000
namespace Tr
/-- as0 large as0 before -/
structure sameSz (m m' : GMachine) : Prop where
  c : m'.Frames.Cells.length = m.Frames.Cells.length
  u : m'.Frames.Used.length = m.Frames.Used.length
  e : m'.Table.Entries.length = m.Table.Entries.length
  r : ∀ n, 16 ≤ n → (∀ r ∈ m.Frames.Cells, r.length ≤ n) → ∀ r ∈ m'.Frames.Cells, r.length ≤ n
theorem sameSz.refl (m : GMachine) : sameSz m m := ⟨rfl, rfl, rfl, fun _ _ h => h⟩
theorem sameSz.trans {a b c : GMachine} (h : sameSz a b) (h' : sameSz b c) : sameSz a c := ⟨h'.c.trans h.c, h'.u.trans h.u, h'.e.trans h.e, fun n hn hr => h'.r n hn (h.r n hn hr)⟩
theorem sz_entry (m : GMachine) (p : Nat) (e : GEntry) : sameSz m (setEntry m p e) := ⟨rfl, rfl, List.length_set, fun _ _ h => h⟩
theorem sz_cell (m : GMachine) (f k v : Int) : sameSz m (setCellOf m f k v) := by
  refine ⟨List.length_set, rfl, rfl, fun n hn h r hr => ?_⟩
  rcases List.mem_or_eq_of_mem_set hr with h1 | h1
  · exact h r h1
  · rw [h1, List.length_set]
    by_cases hf : f.toNat < m.Frames.Cells.length
    · refine h _ ?_
      rw [List.getD_eq_getElem?_getD, List.getElem?_eq_getElem hf]
      exact List.getElem_mem _
    · rw [List.getD_eq_getElem?_getD, List.getElem?_eq_none (by omega)]
      exact Nat.zero_le _
theorem sz_drop (m : GMachine) (f : Nat) : sameSz m (dropped m f) := by
  unfold dropped
  split
  · refine ⟨List.length_set, List.length_set, rfl, fun n hn h r hr => ?_⟩
    rcases List.mem_or_eq_of_mem_set hr with h1 | h1
    · exact h r h1
    · rw [h1, List.length_replicate]; exact hn
  · exact sameSz.refl m
theorem sz_step (k : GKernel) (j : GJob) : sameSz k.Machine (stepJ k j).1.Machine ∧ (stepJ k j).1.Refuse = k.Refuse ∧ (stepJ k j).2.Plan = j.Plan := by
  have hP : ∀ page mode, sameSz k.Machine (pProtect k page mode).1.Machine ∧ (pProtect k page mode).1.Refuse = k.Refuse := fun page mode => by
    unfold pProtect
    split
    · exact ⟨sz_entry _ _ _, rfl⟩
    · exact ⟨sameSz.refl _, rfl⟩
  have hO : ∀ page other, sameSz k.Machine (pOn k page other).1.Machine ∧ (pOn k page other).1.Refuse = k.Refuse := fun page other => by
    unfold pOn
    split
    · exact ⟨(sz_entry _ _ _).trans (sz_drop _ _), rfl⟩
    · exact ⟨sameSz.refl _, rfl⟩
  have hC : ∀ a b c, sameSz k.Machine (pCells k a b [c]).1.Machine ∧ (pCells k a b [c]).1.Refuse = k.Refuse := fun a b c => by
    unfold pCells
    split
    · exact ⟨sz_cell _ _ _ _, rfl⟩
    · exact ⟨sameSz.refl _, rfl⟩
  have hS : ∀ addr v, sameSz k.Machine (pStore k.Machine addr v).1 := fun addr v => by
    unfold pStore
    split
    · split
      · exact sameSz.refl _
      · split
        · exact sz_cell _ _ _ _
        · exact sameSz.refl _
    · exact sameSz.refl _
  unfold stepJ
  split
  · exact ⟨(hP _ _).1, (hP _ _).2, rfl⟩
  · split
    · split
      · exact ⟨sameSz.refl _, rfl, rfl⟩
      · exact ⟨(hC _ _ _).1, (hC _ _ _).2, rfl⟩
    · split
      · exact ⟨(hO _ _).1, (hO _ _).2, rfl⟩
      · split
        · split
          · exact ⟨hS _ _, rfl, rfl⟩
          · exact ⟨(hP _ _).1, (hP _ _).2, rfl⟩
        · exact ⟨sameSz.refl _, rfl, rfl⟩
theorem sz_run (k : GKernel) (j : GJob) : ∀ n, sameSz k.Machine (runJ n (k, j)).1.Machine ∧ (runJ n (k, j)).1.Refuse = k.Refuse ∧ (runJ n (k, j)).2.Plan = j.Plan
  | 0 => ⟨sameSz.refl _, rfl, rfl⟩
  | n + 1 => by
    obtain ⟨h1, h2, h3⟩ := sz_run k j n
    rw [runJ_succ]
    split
    · obtain ⟨a1, a2, a3⟩ := sz_step (runJ n (k, j)).1 (runJ n (k, j)).2
      exact ⟨h1.trans a1, a2.trans h2, a3.trans h3⟩
    · exact ⟨h1, h2, h3⟩
end Tr
end Go.Proofs.YtabnglcabpijfaaGreatDoor
namespace Go.Proofs.YtabnglcabpijfaaGreatDoor
open Go.RowKit
set_option linter.unusedVariables false
set_option linter.unusedSimpArgs false
set_option maxRecDepth 100000
namespace Eng
open Tr
/-- a kernel that can be read -/
structure szK8 (k : GKernel) : Prop where
  m : szM7 k.Machine
  r : k.Refuse.length ≤ 1048576
def c_Has (l : List Int) (x : Int) : CFD := ⟨81, [.one (ro 3 1 Tr.eI l), (SV.one (.lit (.int .i64 (x))))], [], (TV.sv (.one (.lit (.bool (decide (x ∈ l)))))), [], [], []⟩
theorem fn_Has (l : List Int) (x : Int) (hl : l.length ≤ 1048576) : Fn Tryz.prog (c_Has l x) := by
  refine fn_intro tt_ok Tryz.func81 rfl Tryz.call81 Tryz.ntmps81 Tryz.results81 rfl rfl rfl rfl ?_
  intro X ρ0 hb_ hgl_
  dsimp only [c_Has]
  try refine nrm ?_
  repeat' (refine ar_id ?_; first | refine st1 ?_ | (first | ((first | refine ar_region tt_ok (inps := []) rfl ?_ ?_); rotate_left; (try refine nrm ?_); rotate_right) | refine ret3 ?_ | refine end3 ?_) | (refine ar_cond rfl trivial ?_ ?_ <;> intro hc_ <;> (try simp only [isNilI, inB, reduceCtorEq, cds] at hc_) <;> (try (first | contradiction | (exfalso; omega)))) | refine ar_until (And.intro ?_ (wk3 ?_)))
  all_goals (first | refine ar_id ?_ | (try (focus ((try refine nrmO ?_); (repeat' (first | exact True.intro | refine And.intro ?_ ?_)); all_goals (try (intro (hg_ : _ = true); (try simp only [isNilI, inB, reduceCtorEq, cds] at hg_); (repeat' (first | exact True.intro | refine And.intro ?_ ?_)))); all_goals (first | exact ob1 | skip)))))
  refine ar_keep 51 (by dsimp only [keepS] <;> exact rfl) ?_
  refine ar_forM (l.length) (fun i => ∀ y ∈ l.take i, y ≠ x) (fun i => [(5, (TV.sv (.one (.lit (.int .i64 (i))))))]) (fun i => []) ?_ ?_ ?_
  rotate_left
  · first | trivial | simp
  (dsimp only [rnCap, capSVs, Int.toNat_natCast, ro, Nat.reduceAdd, Nat.reduceMul, Nat.zero_add, List.map, putT, app, wrapG, gOb, argT, keys, slotOf, dropped, gAnd, wB, rnT, rnS, rnC, rnCs, rnSs, rnM, rnB, rnN, rn, lk, St.over, ded, delL, keepT, menT, menSs, menS, menCs, menC, hasN, resT, SV.cells]; refine wk3 ?_; (focus ((try refine nrmO ?_); (repeat' (first | exact True.intro | refine And.intro ?_ ?_)); all_goals (try (intro (hg_ : _ = true); (try simp only [isNilI, inB, reduceCtorEq, cds] at hg_); (repeat' (first | exact True.intro | refine And.intro ?_ ?_)))); all_goals (first | exact ob1 | exact rfl | skip))))
  rotate_right
  intro i hi_ hiI_
  dsimp only [rnCap, capSVs, Int.toNat_natCast, ro, Nat.reduceAdd, Nat.reduceMul, Nat.zero_add, List.map, putT, app, wrapG, gOb, argT, keys, slotOf, dropped, gAnd, wB, rnT, rnS, rnC, rnCs, rnSs, rnM, rnB, rnN, rn, lk, St.over, ded, delL, keepT, menT, menSs, menS, menCs, menC, hasN, resT, SV.cells]
  repeat' (refine ar_id ?_; first | refine st1 ?_ | (first | ((first | refine ar_region (id := 4) tt_ok (inps := [.elem (Tr.eI (l.getD i 0))]) rfl ?_ ?_ | refine ar_region tt_ok (inps := []) rfl ?_ ?_); rotate_left; (try refine nrm ?_); rotate_right) | refine ret3 ?_ | refine end3 ?_) | (refine ar_cond rfl trivial ?_ ?_ <;> intro hc_ <;> (try simp only [isNilI, inB, reduceCtorEq, cds] at hc_) <;> (try (first | contradiction | (exfalso; omega)))) | refine ar_until (And.intro ?_ (wk3 ?_)))
  all_goals (first | refine ar_id ?_ | (try (focus ((try refine nrmO ?_); (repeat' (first | exact True.intro | refine And.intro ?_ ?_)); all_goals (try (intro (hg_ : _ = true); (try simp only [isNilI, inB, reduceCtorEq, cds] at hg_); (repeat' (first | exact True.intro | refine And.intro ?_ ?_)))); all_goals (first | exact ob1 | skip)))))
  · exact bt (hc_ ▸ getD_in (by omega))
  · exact all_take (d := 0) hiI_ (by omega) hc_
  · exact bf fun h => all_full hiI_ (by omega) _ h rfl
def c_KOk (k : GKernel) : CFD := ⟨63, [.agg [ro 33 1 eIntS k.Machine.Frames.Cells, ro 4 1 Tr.eB k.Machine.Frames.Used, ro 42 2 eEntry k.Machine.Table.Entries, (CV.lit (.int .i64 (k.Calls))), ro 3 1 Tr.eI k.Refuse]], [], (TV.sv (.one (.lit (.bool (pKernelOk k))))), [], [], []⟩
theorem fn_KOk (k : GKernel) (hs : szK8 k) : Fn Tryz.prog (c_KOk k) := by
  have hr := hs.r
  refine fn_intro tt_ok Tryz.func63 rfl Tryz.call63 Tryz.ntmps63 Tryz.results63 rfl rfl rfl rfl ?_
  intro X ρ0 hb_ hgl_
  dsimp only [c_KOk]
  try refine nrm ?_
  repeat' (refine ar_id ?_; first | refine st1 ?_ | (first | ((first | refine ar_region tt_ok (inps := []) rfl ?_ ?_); rotate_left; (try refine nrm ?_); rotate_right) | refine ret3 ?_ | refine end3 ?_) | (refine ar_cond rfl trivial ?_ ?_ <;> intro hc_ <;> (try simp only [isNilI, inB, reduceCtorEq, cds] at hc_) <;> (try (first | contradiction | (exfalso; omega)))) | refine ar_until (And.intro ?_ (wk3 ?_)))
  all_goals (first | refine ar_id ?_ | (try (focus ((try refine nrmO ?_); (repeat' (first | exact True.intro | refine And.intro ?_ ?_)); all_goals (try (intro (hg_ : _ = true); (try simp only [isNilI, inB, reduceCtorEq, cds] at hg_); (repeat' (first | exact True.intro | refine And.intro ?_ ?_)))); all_goals (first | exact ob1 | skip)))))
  refine ar_keep 15 (by dsimp only [keepS] <;> exact rfl) ?_
  refine ar_forM (k.Refuse.length) (fun i => ∀ y ∈ k.Refuse.take i, 0 ≤ y) (fun i => [(3, (TV.sv (.one (.lit (.int .i64 (i))))))]) (fun i => []) ?_ ?_ ?_
  rotate_left
  · first | trivial | simp
  (dsimp only [rnCap, capSVs, Int.toNat_natCast, ro, Nat.reduceAdd, Nat.reduceMul, Nat.zero_add, List.map, putT, app, wrapG, gOb, argT, keys, slotOf, dropped, gAnd, wB, rnT, rnS, rnC, rnCs, rnSs, rnM, rnB, rnN, rn, lk, St.over, ded, delL, keepT, menT, menSs, menS, menCs, menC, hasN, resT, SV.cells]; refine wk3 ?_; (focus ((try refine nrmO ?_); (repeat' (first | exact True.intro | refine And.intro ?_ ?_)); all_goals (try (intro (hg_ : _ = true); (try simp only [isNilI, inB, reduceCtorEq, cds] at hg_); (repeat' (first | exact True.intro | refine And.intro ?_ ?_)))); all_goals (first | exact ob1 | exact rfl | skip))))
  rotate_right
  intro i hi_ hiI_
  dsimp only [rnCap, capSVs, Int.toNat_natCast, ro, Nat.reduceAdd, Nat.reduceMul, Nat.zero_add, List.map, putT, app, wrapG, gOb, argT, keys, slotOf, dropped, gAnd, wB, rnT, rnS, rnC, rnCs, rnSs, rnM, rnB, rnN, rn, lk, St.over, ded, delL, keepT, menT, menSs, menS, menCs, menC, hasN, resT, SV.cells]
  repeat' (refine ar_id ?_; first | refine st1 ?_ | (first | ((first | refine ar_region (id := 4) tt_ok (inps := [.elem (Tr.eI (k.Refuse.getD i 0))]) rfl ?_ ?_ | refine ar_region (id := 6) tt_ok (inps := [.call (c_MOk k.Machine), .call (c_In k.Calls 0 100000)]) rfl ?_ ?_ | refine ar_region tt_ok (inps := []) rfl ?_ ?_); rotate_left; (try dsimp only [c_In, c_MOk]); (try refine nrm ?_); rotate_right) | refine ret3 ?_ | refine end3 ?_) | (refine ar_cond rfl trivial ?_ ?_ <;> intro hc_ <;> (try simp only [isNilI, inB, reduceCtorEq, cds] at hc_) <;> (try (first | contradiction | (exfalso; omega)))) | refine ar_until (And.intro ?_ (wk3 ?_)))
  all_goals (first | refine ar_id ?_ | (try (focus ((try refine nrmO ?_); (repeat' (first | exact True.intro | refine And.intro ?_ ?_)); all_goals (try (intro (hg_ : _ = true); (try simp only [isNilI, inB, reduceCtorEq, cds] at hg_); (repeat' (first | exact True.intro | refine And.intro ?_ ?_)))); all_goals (first | exact ob1 | exact fn_MOk _ hs.m | exact fn_In _ _ _ | skip)))))
  · exact bf fun h => by have := h.2.2.1 _ (getD_in (l := k.Refuse) (i := i) (d := 0) (by omega)); omega
  · exact all_take (d := 0) hiI_ (by omega) hc_
  · have hre := all_full hiI_ (by omega)
    refine congrArg Value.bool (Bool.eq_iff_iff.2 (Iff.trans ?_ (decide_eq_true_iff (p := okK k)).symm))
    simp only [decide_eq_true_eq, Bool.cond_false_right, Bool.and_eq_true, inB_iff, pMachineOk]
    exact ⟨fun h => ⟨h.1.1, h.1.2, hre, by omega⟩, fun h => ⟨⟨h.1, h.2.1⟩, by have := h.2.2.2; omega⟩⟩
def c_May (k : GKernel) : CFD := ⟨104, [.agg [ro 33 1 eIntS k.Machine.Frames.Cells, ro 4 1 Tr.eB k.Machine.Frames.Used, ro 42 2 eEntry k.Machine.Table.Entries, (CV.lit (.int .i64 (k.Calls))), ro 3 1 Tr.eI k.Refuse]], [], (TV.sv (.one (.lit (.bool (decide (canCall k)))))), [], [], []⟩
theorem fn_May (k : GKernel) (hs : szK8 k) : Fn Tryz.prog (c_May k) := by
  refine fn_intro tt_ok Tryz.func104 rfl Tryz.call104 Tryz.ntmps104 Tryz.results104 rfl rfl rfl rfl ?_
  intro X ρ0 hb_ hgl_
  dsimp only [c_May]
  try refine nrm ?_
  repeat' (refine ar_id ?_; first | refine st1 ?_ | (first | ((first | refine ar_region (id := 1) tt_ok (inps := [.call (c_KOk k)]) rfl ?_ ?_ | refine ar_region tt_ok (inps := []) rfl ?_ ?_); rotate_left; (try dsimp only [c_KOk]); (try refine nrm ?_); rotate_right) | refine ret3 ?_ | refine end3 ?_) | (refine ar_cond rfl trivial ?_ ?_ <;> intro hc_ <;> (try simp only [isNilI, inB, reduceCtorEq, cds] at hc_) <;> (try (first | contradiction | (exfalso; omega)))) | refine ar_until (And.intro ?_ (wk3 ?_)))
  all_goals (first | refine ar_id ?_ | (try (focus ((try refine nrmO ?_); (repeat' (first | exact True.intro | refine And.intro ?_ ?_)); all_goals (try (intro (hg_ : _ = true); (try simp only [isNilI, inB, reduceCtorEq, cds] at hg_); (repeat' (first | exact True.intro | refine And.intro ?_ ?_)))); all_goals (first | exact ob1 | exact fn_KOk _ hs | skip)))))
  refine congrArg Value.bool (Bool.eq_iff_iff.2 (Iff.trans ?_ (decide_eq_true_iff (p := canCall k)).symm))
  simp only [decide_eq_true_eq, Bool.cond_false_right, Bool.and_eq_true, pKernelOk]
  exact Iff.rfl
def c_Copy8 (k : GKernel) : CFD := ⟨60, [.agg [ro 33 1 eIntS k.Machine.Frames.Cells, ro 4 1 Tr.eB k.Machine.Frames.Used, ro 42 2 eEntry k.Machine.Table.Entries, (CV.lit (.int .i64 (k.Calls))), ro 3 1 Tr.eI k.Refuse]], [], .sv (.agg [.hd 0, .hd 1, .hd 2, (CV.lit (.int .i64 (k.Calls))), .hd 3]), [(0, some (.row 33 1 (k.Machine.Frames.Cells.map eIntS))), (1, some (.row 4 1 (k.Machine.Frames.Used.map Tr.eB))), (2, some (.row 42 2 (k.Machine.Table.Entries.map eEntry))), (3, some (.row 3 1 (k.Refuse.map Tr.eI)))], [0, 1, 2, 3], []⟩
theorem fn_Copy8 (k : GKernel) (hs : szK8 k) : Fn Tryz.prog (c_Copy8 k) := by
  have hr := hs.r
  refine fn_intro tt_ok Tryz.func60 rfl Tryz.call60 Tryz.ntmps60 Tryz.results60 rfl rfl rfl rfl ?_
  intro X ρ0 hb_ hgl_
  dsimp only [c_Copy8]
  try refine nrm ?_
  repeat' (refine ar_id ?_; first | refine st1 ?_ | (first | ((first | refine ar_draw (id := 1) (inps := [.call (c_Copy7 k.Machine), .elems (k.Refuse.map Tr.eI)]) tt_ok (by kernel_rfl) rfl rfl (by kernel_rfl) rfl rfl rfl rfl ?_ ?_ | refine ar_region tt_ok (inps := []) rfl ?_ ?_); rotate_left; (try dsimp only [c_Copy7]); (try refine nrm ?_); rotate_right) | refine ret3 ?_ | refine end3 ?_) | (refine ar_cond rfl trivial ?_ ?_ <;> intro hc_ <;> (try simp only [isNilI, inB, reduceCtorEq, cds] at hc_) <;> (try (first | contradiction | (exfalso; omega)))) | refine ar_until (And.intro ?_ (wk3 ?_)))
  all_goals (first | refine ar_id ?_ | (try (focus ((try refine nrmO ?_); (repeat' (first | exact True.intro | refine And.intro ?_ ?_)); all_goals (try (intro (hg_ : _ = true); (try simp only [isNilI, inB, reduceCtorEq, cds] at hg_); (repeat' (first | exact True.intro | refine And.intro ?_ ?_)))); all_goals (first | exact ob1 | exact fn_Copy7 _ hs.m | exact flat_map' k.Refuse (fun x => ⟨rfl, rfl, trivial⟩) | exact (by simp only [lns]; omega) | skip)))))
def c_Call (k : GKernel) : CFD := ⟨122, [.one (.box 0 0)], [(0, some (.box 35 [.hd 1, .hd 2, .hd 3, (CV.lit (.int .i64 (k.Calls))), .hd 4])), (1, some (.row 33 1 (k.Machine.Frames.Cells.map eIntS))), (2, some (.row 4 1 (k.Machine.Frames.Used.map Tr.eB))), (3, some (.row 42 2 (k.Machine.Table.Entries.map eEntry))), (4, some (.row 3 1 (k.Refuse.map Tr.eI)))], (TV.sv (.one (.lit (.bool (decide (granted k)))))), [(0, some (.box 35 [.hd 1, .hd 2, .hd 3, (CV.lit (.int .i64 ((⟨k.Machine, k.Calls + 1, k.Refuse⟩ : GKernel).Calls))), .hd 4])), (1, some (.row 33 1 ((⟨k.Machine, k.Calls + 1, k.Refuse⟩ : GKernel).Machine.Frames.Cells.map eIntS))), (2, some (.row 4 1 ((⟨k.Machine, k.Calls + 1, k.Refuse⟩ : GKernel).Machine.Frames.Used.map Tr.eB))), (3, some (.row 42 2 ((⟨k.Machine, k.Calls + 1, k.Refuse⟩ : GKernel).Machine.Table.Entries.map eEntry))), (4, some (.row 3 1 ((⟨k.Machine, k.Calls + 1, k.Refuse⟩ : GKernel).Refuse.map Tr.eI)))], [], []⟩
theorem fn_Call (k : GKernel) (hs : szK8 k) (h0 : 0 ≤ k.Calls) (h1 : k.Calls < 100000) : Fn Tryz.prog (c_Call k) := by
  have hr := hs.r
  refine fn_intro tt_ok Tryz.func122 rfl Tryz.call122 Tryz.ntmps122 Tryz.results122 rfl rfl rfl rfl ?_
  intro X ρ0 hb_ hgl_
  dsimp only [c_Call]
  try refine nrm ?_
  repeat' (refine ar_id ?_; first | refine st1 ?_ | (first | ((first | refine ar_draw (id := 2) (inps := [.call (c_Has k.Refuse k.Calls)]) tt_ok (by kernel_rfl) rfl rfl (by kernel_rfl) rfl rfl rfl rfl ?_ ?_ | refine ar_region tt_ok (inps := []) rfl ?_ ?_); rotate_left; (try dsimp only [c_Has]); (try refine nrm ?_); rotate_right) | refine ret3 ?_ | refine end3 ?_) | (refine ar_cond rfl trivial ?_ ?_ <;> intro hc_ <;> (try simp only [isNilI, inB, reduceCtorEq, cds] at hc_) <;> (try (first | contradiction | (exfalso; omega)))) | refine ar_until (And.intro ?_ (wk3 ?_)))
  all_goals (first | refine ar_id ?_ | (try (focus ((try refine nrmO ?_); (repeat' (first | exact True.intro | refine And.intro ?_ ?_)); all_goals (try (intro (hg_ : _ = true); (try simp only [isNilI, inB, reduceCtorEq, cds] at hg_); (repeat' (first | exact True.intro | refine And.intro ?_ ?_)))); all_goals (first | exact ob1 | exact fn_Has _ _ hs.r | skip)))))
  · refine congrArg Value.bool ?_
    unfold granted
    by_cases h : k.Calls ∈ k.Refuse <;> simp [h]
  all_goals rfl
def c_Mode (k : GKernel) (page v : Int) : CFD := ⟨106, [.one (.box 0 0), (SV.one (.lit (.int .i64 (page))))], [(0, some (.box 35 [.hd 1, .hd 2, .hd 3, (CV.lit (.int .i64 (k.Calls))), .hd 4])), (1, some (.row 33 1 (k.Machine.Frames.Cells.map eIntS))), (2, some (.row 4 1 (k.Machine.Frames.Used.map Tr.eB))), (3, some (.row 42 2 (k.Machine.Table.Entries.map eEntry))), (4, some (.row 3 1 (k.Refuse.map Tr.eI)))], (TV.sv (.one (.lit (.int .i64 (v))))), [(0, some (.box 35 [.hd 1, .hd 2, .hd 3, (CV.lit (.int .i64 (k.Calls))), .hd 4])), (1, some (.row 33 1 (k.Machine.Frames.Cells.map eIntS))), (2, some (.row 4 1 (k.Machine.Frames.Used.map Tr.eB))), (3, some (.row 42 2 (k.Machine.Table.Entries.map eEntry))), (4, some (.row 3 1 (k.Refuse.map Tr.eI)))], [], []⟩
theorem fn_Mode (k : GKernel) (page v : Int) (hs : szK8 k) (hv : modeOf k page = v) : Fn Tryz.prog (c_Mode k page v) := by
  refine fn_intro tt_ok Tryz.func106 rfl Tryz.call106 Tryz.ntmps106 Tryz.results106 rfl rfl rfl rfl ?_
  intro X ρ0 hb_ hgl_
  dsimp only [c_Mode]
  try refine nrm ?_
  repeat' (refine ar_id ?_; first | refine st1 ?_ | (first | ((first | refine ar_region (id := 1) tt_ok (inps := [.call (c_PageEntry k.Machine.Table page)]) rfl ?_ ?_ | refine ar_region tt_ok (inps := []) rfl ?_ ?_); rotate_left; (try dsimp only [c_PageEntry]); (try refine nrm ?_); rotate_right) | refine ret3 ?_ | refine end3 ?_) | (refine ar_cond rfl trivial ?_ ?_ <;> intro hc_ <;> (try simp only [isNilI, inB, reduceCtorEq, cds] at hc_) <;> (try (first | contradiction | (exfalso; omega)))) | refine ar_until (And.intro ?_ (wk3 ?_)))
  all_goals (first | refine ar_id ?_ | (try (focus ((try refine nrmO ?_); (repeat' (first | exact True.intro | refine And.intro ?_ ?_)); all_goals (try (intro (hg_ : _ = true); (try simp only [isNilI, inB, reduceCtorEq, cds] at hg_); (repeat' (first | exact True.intro | refine And.intro ?_ ?_)))); all_goals (first | exact ob1 | exact fn_PageEntry _ _ hs.m.e | exact congrArg (Value.int .i64) hv | skip)))))
def c_Drop (k : GKernel) (f : Nat) : CFD := ⟨146, [.one (.box 0 0), (SV.one (.lit (.int .i64 ((f : Int)))))], [(0, some (.box 35 [.hd 1, .hd 2, .hd 3, (CV.lit (.int .i64 (k.Calls))), .hd 4])), (1, some (.row 33 1 (k.Machine.Frames.Cells.map eIntS))), (2, some (.row 4 1 (k.Machine.Frames.Used.map Tr.eB))), (3, some (.row 42 2 (k.Machine.Table.Entries.map eEntry))), (4, some (.row 3 1 (k.Refuse.map Tr.eI)))], .tup [], [(0, some (.box 35 [.hd 1, .hd 2, .hd 3, (CV.lit (.int .i64 ((⟨Tr.dropped k.Machine f, k.Calls, k.Refuse⟩ : GKernel).Calls))), .hd 4])), (1, some (.row 33 1 ((⟨Tr.dropped k.Machine f, k.Calls, k.Refuse⟩ : GKernel).Machine.Frames.Cells.map eIntS))), (2, some (.row 4 1 ((⟨Tr.dropped k.Machine f, k.Calls, k.Refuse⟩ : GKernel).Machine.Frames.Used.map Tr.eB))), (3, some (.row 42 2 ((⟨Tr.dropped k.Machine f, k.Calls, k.Refuse⟩ : GKernel).Machine.Table.Entries.map eEntry))), (4, some (.row 3 1 ((⟨Tr.dropped k.Machine f, k.Calls, k.Refuse⟩ : GKernel).Refuse.map Tr.eI)))], [], []⟩
set_option maxHeartbeats 2000000 in
theorem fn_Drop (k : GKernel) (f : Nat) (hs : szK8 k) (h1 : f < k.Machine.Frames.Cells.length) (h2 : f < k.Machine.Frames.Used.length) : Fn Tryz.prog (c_Drop k f) := by
  refine fn_intro tt_ok Tryz.func146 rfl Tryz.call146 Tryz.ntmps146 Tryz.results146 rfl rfl rfl rfl ?_
  intro X ρ0 hb_ hgl_
  dsimp only [c_Drop]
  try refine nrm ?_
  repeat' (refine ar_id ?_; first | refine st1 ?_ | (first | ((first | refine ar_region (id := 0) tt_ok (inps := [.call (c_PagesOn k.Machine.Table f)]) rfl ?_ ?_ | refine ar_region (id := 1) tt_ok (inps := [.elem (Tr.eB (k.Machine.Frames.Used.getD f false))]) rfl ?_ ?_ | refine ar_draw (id := 2) (inps := [.elem (eIntS (k.Machine.Frames.Cells.getD f []))]) tt_ok (by kernel_rfl) rfl rfl (by kernel_rfl) rfl rfl rfl rfl ?_ ?_ | refine ar_region tt_ok (inps := []) rfl ?_ ?_); rotate_left; (try dsimp only [c_PagesOn]); (try refine nrm ?_); rotate_right) | refine ret3 ?_ | refine end3 ?_) | (refine ar_cond rfl trivial ?_ ?_ <;> intro hc_ <;> (try simp only [isNilI, inB, reduceCtorEq, cds] at hc_) <;> (try (first | contradiction | (exfalso; omega)))) | refine ar_until (And.intro ?_ (wk3 ?_)))
  all_goals (first | refine ar_id ?_ | (try (focus ((try refine nrmO ?_); (repeat' (first | exact True.intro | refine And.intro ?_ ?_)); all_goals (try (intro (hg_ : _ = true); (try simp only [isNilI, inB, reduceCtorEq, cds] at hg_); (repeat' (first | exact True.intro | refine And.intro ?_ ?_)))); all_goals (first | exact ob1 | exact fn_PagesOn _ _ hs.m.e | skip)))))
  all_goals first
    | have hD : Tr.dropped k.Machine f = ⟨⟨k.Machine.Frames.Cells.set f (List.replicate 16 0), k.Machine.Frames.Used.set f false⟩, k.Machine.Table⟩ := by unfold Tr.dropped; rw [if_pos (by omega)]
    | have hD : Tr.dropped k.Machine f = k.Machine := by unfold Tr.dropped; rw [if_neg (by omega)]
  all_goals rw [hD]
  · show _ = (k.Machine.Frames.Cells.set f (List.replicate 16 0)).map eIntS
    rw [List.map_set]; rfl
  · exact List.map_set.symm
end Eng
end Go.Proofs.YtabnglcabpijfaaGreatDoor
namespace Go.Proofs.YtabnglcabpijfaaGreatDoor
open Go.RowKit
set_option linter.unusedVariables false
set_option linter.unusedSimpArgs false
namespace Eng
open Tr
theorem cnt_leN {n : Nat} : ∀ {l : List (List Int)}, (∀ r ∈ l, r.length ≤ n) → cntII l ≤ l.length * n
  | [], _ => Nat.zero_le _
  | r :: l, h => by
    have h1 := h r (List.mem_cons_self ..)
    have h2 := cnt_leN (l := l) fun x hx => h x (List.mem_cons_of_mem _ hx)
    show r.length + cntII l ≤ (l.length + 1) * n
    rw [Nat.succ_mul]
    omega
theorem n_resN {k k' : GKernel} (hn : nK k ≤ 1048576) (hs : sameSz k.Machine k'.Machine) (hr : k'.Refuse = k.Refuse) (h : k' = k ∨ okK k) : nK k' ≤ 1048576 := by
  rcases h with rfl | h
  · exact hn
  · obtain ⟨h1, h2, h3⟩ := okF_sz h.1.1
    have h4 := h.2.2.2
    have h5 := h.1.2.1
    unfold pTableOk at h5
    have h6 := (of_decide_eq_true h5).2.2
    have h7 := cnt_leN (hs.r 16 (Nat.le_refl _) h3)
    have c1 := hs.c
    have c2 := hs.u
    have c3 := hs.e
    unfold nK nM nF nT
    rw [hr]
    omega
theorem szK8_smN {k : GKernel} (h : smK k) : szK8 k := ⟨⟨h.hMachine.hFrames.hCells.1, h.hMachine.hFrames.hUsed, h.hMachine.hFrames.hCells.2, h.hMachine.hTable.hEntries⟩, h.hRefuse⟩
end Eng
end Go.Proofs.YtabnglcabpijfaaGreatDoor
namespace Go.Proofs.YtabnglcabpijfaaGreatDoor
open Go.RowKit
set_option linter.unusedVariables false
set_option linter.unusedSimpArgs false
namespace Tr
/-- one step of a writer, in a valid kernel -/
def stepW (k : GKernel) (w : GWriter) : GKernel × GWriter :=
  if w.Done = true then (k, w)
  else if (pStore k.Machine w.Addr w.Value).2 = 2 then (k, ⟨w.Addr, w.Value, w.Done, IntKind.i64.wrap (w.Waits + 1)⟩)
  else (⟨(pStore k.Machine w.Addr w.Value).1, k.Calls, k.Refuse⟩, ⟨w.Addr, w.Value, true, w.Waits⟩)
def pWriterStep (k : GKernel) (w : GWriter) : GKernel × GWriter := if okK k then stepW k w else (k, w)
/-- kernel, job, writers -/
structure WSt where
  k : GKernel
  j : GJob
  ws : List GWriter
/-- a step of each of the first n writers -/
def finW (s : GKernel × List GWriter) : Nat → GKernel × List GWriter
  | 0 => s
  | n + 1 => ((pWriterStep (finW s n).1 ((finW s n).2.getD n noW)).1, (finW s n).2.set n (pWriterStep (finW s n).1 ((finW s n).2.getD n noW)).2)
def pFinish (k : GKernel) (j : GJob) (ws : List GWriter) : WSt := ⟨(finW ((pJobRun k j 200).1, ws) ws.length).1, (pJobRun k j 200).2, (finW ((pJobRun k j 200).1, ws) ws.length).2⟩
end Tr
end Go.Proofs.YtabnglcabpijfaaGreatDoor
namespace Go.Proofs.YtabnglcabpijfaaGreatDoor
open Go.RowKit
set_option linter.unusedVariables false
set_option linter.unusedSimpArgs false
namespace Tr
theorem sz_storeM (m : GMachine) (addr v : Int) : sameSz m (pStore m addr v).1 := by
  unfold pStore
  split
  · split
    · exact sameSz.refl _
    · split
      · exact sz_cell _ _ _ _
      · exact sameSz.refl _
  · exact sameSz.refl _
theorem sz_writer (k : GKernel) (w : GWriter) : sameSz k.Machine (pWriterStep k w).1.Machine ∧ (pWriterStep k w).1.Refuse = k.Refuse ∧ (pWriterStep k w).2.Addr = w.Addr := by
  unfold pWriterStep
  split
  · unfold stepW
    split
    · exact ⟨sameSz.refl _, rfl, rfl⟩
    · split
      · exact ⟨sameSz.refl _, rfl, rfl⟩
      · exact ⟨sz_storeM _ _ _, rfl, rfl⟩
  · exact ⟨sameSz.refl _, rfl, rfl⟩
/-- as0 large as0 before -/
structure sameS (a b : WSt) : Prop where
  m : sameSz a.k.Machine b.k.Machine
  r : b.k.Refuse = a.k.Refuse
  p : b.j.Plan = a.j.Plan
  n : b.ws.length = a.ws.length
  w : ∀ n, (b.ws.getD n noW).Addr = (a.ws.getD n noW).Addr
theorem sameS.refl (a : WSt) : sameS a a := ⟨sameSz.refl _, rfl, rfl, rfl, fun _ => rfl⟩
theorem sameS.trans {a b c : WSt} (h : sameS a b) (h' : sameS b c) : sameS a c := ⟨h.m.trans h'.m, h'.r.trans h.r, h'.p.trans h.p, h'.n.trans h.n, fun n => (h'.w n).trans (h.w n)⟩
theorem getD_set0 (l : List GWriter) (i j : Nat) (v : GWriter) : (l.set i v).getD j noW = if j = i ∧ i < l.length then v else l.getD j noW := by
  rw [List.getD_eq_getElem?_getD, List.getElem?_set]
  by_cases e : i = j
  · subst e
    rw [if_pos rfl]
    by_cases h : i < l.length
    · rw [if_pos h, if_pos ⟨rfl, h⟩]; rfl
    · rw [if_neg h, if_neg (fun hh => h hh.2), List.getD_eq_getElem?_getD, List.getElem?_eq_none (by omega)]
  · rw [if_neg e, if_neg (fun h => e h.1.symm), List.getD_eq_getElem?_getD]
theorem sz_finW (s : GKernel × List GWriter) : ∀ n, sameSz s.1.Machine (finW s n).1.Machine ∧ (finW s n).1.Refuse = s.1.Refuse ∧ (finW s n).2.length = s.2.length ∧ ∀ i, ((finW s n).2.getD i noW).Addr = (s.2.getD i noW).Addr
  | 0 => ⟨sameSz.refl _, rfl, rfl, fun _ => rfl⟩
  | n + 1 => by
    obtain ⟨h1, h2, h3, h4⟩ := sz_finW s n
    obtain ⟨g1, g2, g3⟩ := sz_writer (finW s n).1 ((finW s n).2.getD n noW)
    refine ⟨h1.trans g1, g2.trans h2, (List.length_set).trans h3, fun i => ?_⟩
    show (((finW s n).2.set n _).getD i noW).Addr = _
    rw [getD_set0]
    split
    · rename_i e; rw [g3, h4, e.1]
    · exact h4 i
/-- a kernel that is not valid stays -/
theorem keepW {k : GKernel} (h : ¬ okK k) (w : GWriter) : (pWriterStep k w).1 = k := by unfold pWriterStep; rw [if_neg h]
theorem keepF {s : GKernel × List GWriter} (h : ¬ okK s.1) : ∀ n, (finW s n).1 = s.1
  | 0 => rfl
  | n + 1 => by
    have ih := keepF h n
    show (pWriterStep (finW s n).1 _).1 = s.1
    rw [keepW (by rw [ih]; exact h), ih]
theorem fin_facts {k : GKernel} {j : GJob} {ws : List GWriter} {s : WSt} (h : pFinish k j ws = s) : sameSz k.Machine s.k.Machine ∧ s.k.Refuse = k.Refuse ∧ s.j.Plan = j.Plan ∧ s.ws.length = ws.length ∧ (s.k = k ∨ okK k) := by
  unfold pFinish at h
  have hj : sameSz k.Machine (pJobRun k j 200).1.Machine ∧ (pJobRun k j 200).1.Refuse = k.Refuse ∧ (pJobRun k j 200).2.Plan = j.Plan := sz_run k j 200
  have hf := sz_finW ((pJobRun k j 200).1, ws) ws.length
  subst h
  dsimp only
  refine ⟨hj.1.trans hf.1, hf.2.1.trans hj.2.1, hj.2.2, hf.2.2.1, ?_⟩
  by_cases hk : okK k
  · exact .inr hk
  · left
    have hr : (pJobRun k j 200).1 = k := by
      have : pJobRun k j 200 = runJ 200 (k, j) := rfl
      rw [this, runJ_stop (fun hh => hk hh.2.1.1)]
    rw [keepF (s := ((pJobRun k j 200).1, ws)) (by rw [hr]; exact hk), hr]
end Tr
end Go.Proofs.YtabnglcabpijfaaGreatDoor
namespace Go.Proofs.YtabnglcabpijfaaGreatDoor
open Go.RowKit
set_option linter.unusedVariables false
set_option linter.unusedSimpArgs false
set_option maxRecDepth 100000
namespace Eng
open Tr
theorem ok_next {l : List Int} {i : Nat} (hi : ∀ k, k < i → okAt l k) (h : okAt l i) : ∀ k, k < i + 1 → okAt l k := fun k hk => by
  by_cases e : k = i
  · exact e ▸ h
  · exact hi k (by omega)
theorem plan_no {p : GPlan} {i : Nat} (hi : i < p.Cells.length) (h : ¬ okAt p.Cells i) : pPlanOk p = false := decide_eq_false fun hp => h (hp.2.2.2 i hi)
theorem okAt_iff {l : List Int} {i : Nat} : okAt l i ↔ (0 ≤ l.getD i 0 ∧ l.getD i 0 ≤ 15) ∧ ((i : Int) ≤ 0 ∨ l.getD (i - 1) 0 < l.getD i 0) := by
  cases i with
  | zero =>
    show (-1 < _ ∧ _) ↔ _
    omega
  | succ i =>
    show (l.getD i 0 < _ ∧ _) ↔ _
    rw [Nat.add_sub_cancel]
    omega
theorem plan_yes {p : GPlan} {i : Nat} (h : ∀ k, k < i → okAt p.Cells k) (hi : p.Cells.length ≤ i) : pPlanOk p = (bif bif inB p.Keep 0 31 then inB p.Move 0 31 else false then p.Keep != p.Move else false) := by
  have ha : asc p.Cells := fun k hk => h k (by omega)
  rw [Bool.eq_iff_iff]
  unfold pPlanOk
  rw [decide_eq_true_eq]
  simp only [inB, Bool.cond_false_right, Bool.and_eq_true, decide_eq_true_eq, bne_iff_ne]
  unfold plOk
  exact ⟨fun h => ⟨⟨h.2.1, h.2.2.1⟩, h.1⟩, fun h => ⟨h.2, h.1.1, h.1.2, ha⟩⟩
def c_PlanOkS (p : GPlan) : CFD := ⟨44, [.agg [(CV.lit (.int .i64 (p.Keep))), (CV.lit (.int .i64 (p.Move))), ro 3 1 Tr.eI p.Cells]], [], (TV.sv (.one (.lit (.bool (pPlanOk p))))), [], [], []⟩
theorem fn_PlanOkS (p : GPlan) (hl : p.Cells.length ≤ 1048576) : Fn Tryz.prog (c_PlanOkS p) := by
  refine fn_intro tt_ok Tryz.func44 rfl Tryz.call44 Tryz.ntmps44 Tryz.results44 rfl rfl rfl rfl ?_
  intro X ρ0 hb_ hgl_
  dsimp only [c_PlanOkS]
  try refine nrm ?_
  repeat' (refine ar_id ?_; first | refine st1 ?_ | (first | ((first | refine ar_region tt_ok (inps := []) rfl ?_ ?_); rotate_left; (try refine nrm ?_); rotate_right) | refine ret3 ?_ | refine end3 ?_) | (refine ar_cond rfl trivial ?_ ?_ <;> intro hc_ <;> (try simp only [isNilI, inB, reduceCtorEq, cds] at hc_) <;> (try (first | contradiction | (exfalso; omega)))) | refine ar_until (And.intro ?_ (wk3 ?_)))
  all_goals (first | refine ar_id ?_ | (try (focus ((try refine nrmO ?_); (repeat' (first | exact True.intro | refine And.intro ?_ ?_)); all_goals (try (intro (hg_ : _ = true); (try simp only [isNilI, inB, reduceCtorEq, cds] at hg_); (repeat' (first | exact True.intro | refine And.intro ?_ ?_)))); all_goals (first | exact ob1 | skip)))))
  refine ar_keep 15 (by dsimp only [keepS] <;> exact rfl) ?_
  refine ar_forM (p.Cells.length) (fun i => ∀ k, k < i → okAt p.Cells k) (fun i => [(3, (TV.sv (.one (.lit (.int .i64 (i))))))]) (fun i => []) ?_ ?_ ?_
  rotate_left
  · first | trivial | simp
  (dsimp only [rnCap, capSVs, Int.toNat_natCast, ro, Nat.reduceAdd, Nat.reduceMul, Nat.zero_add, List.map, putT, app, wrapG, gOb, argT, keys, slotOf, dropped, gAnd, wB, rnT, rnS, rnC, rnCs, rnSs, rnM, rnB, rnN, rn, lk, St.over, ded, delL, keepT, menT, menSs, menS, menCs, menC, hasN, resT, SV.cells]; refine wk3 ?_; (focus ((try refine nrmO ?_); (repeat' (first | exact True.intro | refine And.intro ?_ ?_)); all_goals (try (intro (hg_ : _ = true); (try simp only [isNilI, inB, reduceCtorEq, cds] at hg_); (repeat' (first | exact True.intro | refine And.intro ?_ ?_)))); all_goals (first | exact ob1 | exact rfl | skip))))
  rotate_right
  intro i hi_ hiI_
  dsimp only [rnCap, capSVs, Int.toNat_natCast, ro, Nat.reduceAdd, Nat.reduceMul, Nat.zero_add, List.map, putT, app, wrapG, gOb, argT, keys, slotOf, dropped, gAnd, wB, rnT, rnS, rnC, rnCs, rnSs, rnM, rnB, rnN, rn, lk, St.over, ded, delL, keepT, menT, menSs, menS, menCs, menC, hasN, resT, SV.cells]
  repeat' (refine ar_id ?_; first | refine st1 ?_ | (refine ar_drawS (id := 4) tt_ok (by kernel_rfl) [.elem (Tr.eI (p.Cells.getD i 0)), .call (c_In (p.Cells.getD i 0) 0 15), .elem (Tr.eI (p.Cells.getD (i - 1) 0)), .elem (Tr.eI (p.Cells.getD i 0))] ?_; refine ed_hide ?_; intro K_ hK_; repeat' (first | ((first | refine ed_call3 ?_ | refine ed_sure3 ?_ | refine ed_cons3 ?_); refine ed_hide ?_; intro K_ hK_; (try dsimp only [c_In]); (try refine nrmE ?_)) | (refine ed_nil ?_; (repeat subst hK_); dsimp only; refine Exists.intro _ (And.intro rfl (And.intro (by kernel_rfl) (And.intro ?_ ?_))); rotate_left; (try dsimp only [c_In]); (try refine nrm ?_); rotate_right))) | (first | ((first | refine ar_region (id := 6) tt_ok (inps := [.call (c_In p.Keep 0 31), .call (c_In p.Move 0 31)]) rfl ?_ ?_ | refine ar_region tt_ok (inps := []) rfl ?_ ?_); rotate_left; (try dsimp only [c_In]); (try refine nrm ?_); rotate_right) | refine ret3 ?_ | refine end3 ?_) | (refine ar_cond rfl trivial ?_ ?_ <;> intro hc_ <;> (try simp only [isNilI, inB, reduceCtorEq, cds] at hc_) <;> (try (first | contradiction | (exfalso; omega)))) | refine ar_until (And.intro ?_ (wk3 ?_)))
  all_goals (first | refine ar_id ?_ | (try (focus ((try refine nrmO ?_); (repeat' (first | exact True.intro | refine And.intro ?_ ?_)); all_goals (try (intro (hg_ : _ = true); (try simp only [isNilI, inB, reduceCtorEq, cds] at hg_); (repeat' (first | exact True.intro | refine And.intro ?_ ?_)))); all_goals (first | exact ob1 | exact fn_In _ _ _ | skip)))))
  · rw [plan_no (i := i) (by omega) (by rw [okAt_iff]; omega)]
  · exact ok_next hiI_ (okAt_iff.2 hc_)
  · rw [show ((i : Int) - 1).toNat = i - 1 by omega]
    exact elem_map (fun _ => rfl) (getD_at (by omega))
  · rw [plan_yes hiI_ (by omega)]
end Eng
end Go.Proofs.YtabnglcabpijfaaGreatDoor
namespace Go.Proofs.YtabnglcabpijfaaGreatDoor
open Go.RowKit
set_option linter.unusedVariables false
set_option linter.unusedSimpArgs false
set_option maxRecDepth 100000
namespace Eng
open Tr
def c_CopyJ (j : GJob) : CFD := ⟨45, [.agg [(CV.lit (.int .i64 (j.Plan.Keep))), (CV.lit (.int .i64 (j.Plan.Move))), ro 3 1 Tr.eI j.Plan.Cells, (CV.lit (.int .i64 (j.Phase))), (CV.lit (.int .i64 (j.Next)))]], [], .sv (.agg [(CV.lit (.int .i64 (j.Plan.Keep))), (CV.lit (.int .i64 (j.Plan.Move))), .hd 0, (CV.lit (.int .i64 (j.Phase))), (CV.lit (.int .i64 (j.Next)))]), [(0, some (.row 3 1 (j.Plan.Cells.map Tr.eI)))], [0], []⟩
theorem fn_CopyJ (j : GJob) (hl : j.Plan.Cells.length ≤ 1048576) : Fn Tryz.prog (c_CopyJ j) := by
  refine fn_intro tt_ok Tryz.func45 rfl Tryz.call45 Tryz.ntmps45 Tryz.results45 rfl rfl rfl rfl ?_
  intro X ρ0 hb_ hgl_
  dsimp only [c_CopyJ]
  try refine nrm ?_
  repeat' (refine ar_id ?_; first | refine st1 ?_ | (first | ((first | refine ar_region (id := 1) tt_ok (inps := [.elems (j.Plan.Cells.map Tr.eI)]) rfl ?_ ?_ | refine ar_region tt_ok (inps := []) rfl ?_ ?_); rotate_left; (try refine nrm ?_); rotate_right) | refine ret3 ?_ | refine end3 ?_) | (refine ar_cond rfl trivial ?_ ?_ <;> intro hc_ <;> (try simp only [isNilI, inB, reduceCtorEq, cds] at hc_) <;> (try (first | contradiction | (exfalso; omega)))) | refine ar_until (And.intro ?_ (wk3 ?_)))
  all_goals (first | refine ar_id ?_ | (try (focus ((try refine nrmO ?_); (repeat' (first | exact True.intro | refine And.intro ?_ ?_)); all_goals (try (intro (hg_ : _ = true); (try simp only [isNilI, inB, reduceCtorEq, cds] at hg_); (repeat' (first | exact True.intro | refine And.intro ?_ ?_)))); all_goals (first | exact ob1 | exact flat_map' j.Plan.Cells (fun x => ⟨rfl, rfl, trivial⟩) | skip)))))
def c_JobOkS (j : GJob) : CFD := ⟨105, [.agg [(CV.lit (.int .i64 (j.Plan.Keep))), (CV.lit (.int .i64 (j.Plan.Move))), ro 3 1 Tr.eI j.Plan.Cells, (CV.lit (.int .i64 (j.Phase))), (CV.lit (.int .i64 (j.Next)))]], [], (TV.sv (.one (.lit (.bool (pJobOk j))))), [], [], []⟩
theorem fn_JobOkS (j : GJob) (hl : j.Plan.Cells.length ≤ 1048576) : Fn Tryz.prog (c_JobOkS j) := by
  refine fn_intro tt_ok Tryz.func105 rfl Tryz.call105 Tryz.ntmps105 Tryz.results105 rfl rfl rfl rfl ?_
  intro X ρ0 hb_ hgl_
  dsimp only [c_JobOkS]
  try refine nrm ?_
  repeat' (refine ar_id ?_; first | refine st1 ?_ | (first | ((first | refine ar_draw (id := 1) (inps := [.call (c_PlanOkS j.Plan), .call (c_In j.Phase 0 5), .call (c_In j.Next 0 j.Plan.Cells.length)]) tt_ok (by kernel_rfl) rfl rfl (by kernel_rfl) rfl rfl rfl rfl ?_ ?_ | refine ar_region (id := 1) tt_ok (inps := [.call (c_PlanOkS j.Plan), .call (c_In j.Phase 0 5), .call (c_In j.Next 0 j.Plan.Cells.length)]) rfl ?_ ?_ | refine ar_region tt_ok (inps := []) rfl ?_ ?_); rotate_left; (try dsimp only [c_In, c_PlanOkS]); (try refine nrm ?_); rotate_right) | refine ret3 ?_ | refine end3 ?_) | (refine ar_cond rfl trivial ?_ ?_ <;> intro hc_ <;> (try simp only [isNilI, inB, reduceCtorEq, cds] at hc_) <;> (try (first | contradiction | (exfalso; omega)))) | refine ar_until (And.intro ?_ (wk3 ?_)))
  all_goals (first | refine ar_id ?_ | (try (focus ((try refine nrmO ?_); (repeat' (first | exact True.intro | refine And.intro ?_ ?_)); all_goals (try (intro (hg_ : _ = true); (try simp only [isNilI, inB, reduceCtorEq, cds] at hg_); (repeat' (first | exact True.intro | refine And.intro ?_ ?_)))); all_goals (first | exact ob1 | exact fn_PlanOkS j.Plan hl | exact fn_In _ _ _ | skip)))))
  refine congrArg Value.bool ?_
  rw [Bool.eq_iff_iff]
  unfold pJobOk
  rw [decide_eq_true_iff]
  simp only [pPlanOk, inB, okJ, Bool.cond_false_right, Bool.and_eq_true, decide_eq_true_eq]
  exact ⟨fun h => ⟨h.1.1, h.1.2, h.2⟩, fun h => ⟨⟨h.1, h.2.1⟩, h.2.2⟩⟩
def c_OverS (j : GJob) : CFD := ⟨119, [.agg [(CV.lit (.int .i64 (j.Plan.Keep))), (CV.lit (.int .i64 (j.Plan.Move))), ro 3 1 Tr.eI j.Plan.Cells, (CV.lit (.int .i64 (j.Phase))), (CV.lit (.int .i64 (j.Next)))]], [], (TV.sv (.one (.lit (.bool (decide (overJ j)))))), [], [], []⟩
theorem fn_OverS (j : GJob) : Fn Tryz.prog (c_OverS j) := by
  refine fn_intro tt_ok Tryz.func119 rfl Tryz.call119 Tryz.ntmps119 Tryz.results119 rfl rfl rfl rfl ?_
  intro X ρ0 hb_ hgl_
  dsimp only [c_OverS]
  try refine nrm ?_
  repeat' (refine ar_id ?_; first | refine st1 ?_ | (first | ((first | refine ar_region tt_ok (inps := []) rfl ?_ ?_); rotate_left; (try refine nrm ?_); rotate_right) | refine ret3 ?_ | refine end3 ?_) | (refine ar_cond rfl trivial ?_ ?_ <;> intro hc_ <;> (try simp only [isNilI, inB, reduceCtorEq, cds] at hc_) <;> (try (first | contradiction | (exfalso; omega)))) | refine ar_until (And.intro ?_ (wk3 ?_)))
  all_goals (first | refine ar_id ?_ | (try (focus ((try refine nrmO ?_); (repeat' (first | exact True.intro | refine And.intro ?_ ?_)); all_goals (try (intro (hg_ : _ = true); (try simp only [isNilI, inB, reduceCtorEq, cds] at hg_); (repeat' (first | exact True.intro | refine And.intro ?_ ?_)))); all_goals (first | exact ob1 | skip)))))
  refine congrArg Value.bool ?_
  rw [Bool.eq_iff_iff]
  rw [decide_eq_true_iff]
  simp only [overJ, Bool.cond_true_left, Bool.or_eq_true, beq_iff_eq]
end Eng
end Go.Proofs.YtabnglcabpijfaaGreatDoor
namespace Go.Proofs.YtabnglcabpijfaaGreatDoor
open Go.RowKit
set_option linter.unusedVariables false
set_option linter.unusedSimpArgs false
set_option maxRecDepth 100000
namespace Eng
open Tr
def c_Protect (k : GKernel) (page mode : Int) : CFD := ⟨107, [.one (.box 0 0), (SV.one (.lit (.int .i64 (page)))), (SV.one (.lit (.int .i64 (mode))))], [(0, some (.box 35 [.hd 1, .hd 2, .hd 3, (CV.lit (.int .i64 (k.Calls))), .hd 4])), (1, some (.row 33 1 (k.Machine.Frames.Cells.map eIntS))), (2, some (.row 4 1 (k.Machine.Frames.Used.map Tr.eB))), (3, some (.row 42 2 (k.Machine.Table.Entries.map eEntry))), (4, some (.row 3 1 (k.Refuse.map Tr.eI)))], (TV.sv (.one (.lit (.bool ((pProtect k page mode).2))))), [(0, some (.box 35 [.hd 1, .hd 2, .hd 3, (CV.lit (.int .i64 ((pProtect k page mode).1.Calls))), .hd 4])), (1, some (.row 33 1 ((pProtect k page mode).1.Machine.Frames.Cells.map eIntS))), (2, some (.row 4 1 ((pProtect k page mode).1.Machine.Frames.Used.map Tr.eB))), (3, some (.row 42 2 ((pProtect k page mode).1.Machine.Table.Entries.map eEntry))), (4, some (.row 3 1 ((pProtect k page mode).1.Refuse.map Tr.eI)))], [], []⟩
theorem mode_in {k : GKernel} {page : Int} (h : modeOf k page ≠ 0) : (0 ≤ page ∧ page < k.Machine.Table.Entries.length) ∧ pPageEntry k.Machine.Table page = k.Machine.Table.Entries.getD page.toNat ⟨0, 0⟩ := by
  unfold modeOf at h
  unfold pPageEntry at h ⊢
  by_cases h2 : 0 ≤ page ∧ page < k.Machine.Table.Entries.length
  · exact ⟨h2, by rw [if_pos h2]⟩
  · rw [if_neg h2] at h; exact absurd rfl h
set_option maxHeartbeats 2000000 in
theorem fn_Protect (k : GKernel) (page mode : Int) (hs : szK8 k) (h0 : 0 ≤ k.Calls) (h1 : k.Calls < 100000) : Fn Tryz.prog (c_Protect k page mode) := by
  by_cases hP : granted k
  · have hg := decide_eq_true hP
    have hG : (!(!decide (granted k))) = true := by rw [hg]; rfl
    by_cases hQ : modeOf k page ≠ 0 ∧ (1 ≤ mode ∧ mode ≤ 2)
    · have hV : pProtect k page mode = (⟨setEntry k.Machine page.toNat ⟨mode, (pPageEntry k.Machine.Table page).Frame⟩, k.Calls + 1, k.Refuse⟩, true) := by unfold pProtect; rw [if_pos ⟨hP, hQ⟩]
      obtain ⟨hp1, hp2⟩ := mode_in hQ.1
      refine fn_intro tt_ok Tryz.func107 rfl Tryz.call107 Tryz.ntmps107 Tryz.results107 rfl rfl rfl rfl ?_
      intro X ρ0 hb_ hgl_
      dsimp only [c_Protect]
      try refine nrm ?_
      rw [hV, hp2]
      repeat' (refine ar_id ?_; first | refine st1 ?_ | (first | ((first | refine ar_region (id := 1) tt_ok (inps := [.call (c_Call k), .sure (c_Mode ⟨k.Machine, k.Calls + 1, k.Refuse⟩ page (modeOf k page)), .call (c_In mode 1 2)]) rfl ?_ ?_ | refine ar_region (id := 3) tt_ok (inps := [.elem (eEntry (k.Machine.Table.Entries.getD page.toNat ⟨0, 0⟩))]) rfl ?_ ?_ | refine ar_region tt_ok (inps := []) rfl ?_ ?_); rotate_left; (try dsimp only [c_Call, c_In, c_Mode]); (try refine nrm ?_); rotate_right) | refine ret3 ?_ | refine end3 ?_) | (refine ar_cond rfl trivial ?_ ?_ <;> intro hc_ <;> (try simp only [isNilI, inB, reduceCtorEq, cds] at hc_) <;> (try (first | contradiction | (exfalso; omega)))) | refine ar_until (And.intro ?_ (wk3 ?_)))
      all_goals (first | refine ar_id ?_ | (try (focus ((try refine nrmO ?_); (repeat' (first | exact True.intro | refine And.intro ?_ ?_)); all_goals (try (intro (hg_ : _ = true); (try simp only [isNilI, inB, reduceCtorEq, cds] at hg_); (repeat' (first | exact True.intro | refine And.intro ?_ ?_)))); all_goals (first | exact ob1 | exact fn_Call _ hs h0 h1 | exact fn_In _ _ _ | exact fn_Mode _ _ _ ⟨hs.m, hs.r⟩ rfl | exact hG | skip)))))
      all_goals first | rfl | (exfalso; grind) | (show _ = (k.Machine.Table.Entries.set page.toNat ⟨mode, (k.Machine.Table.Entries.getD page.toNat ⟨0, 0⟩).Frame⟩).map eEntry; rw [List.map_set]; rfl) | exact Nat.le_of_ble_eq_true rfl
    · have hV : pProtect k page mode = (called k, false) := by unfold pProtect; rw [if_neg (fun h => hQ h.2)]
      refine fn_intro tt_ok Tryz.func107 rfl Tryz.call107 Tryz.ntmps107 Tryz.results107 rfl rfl rfl rfl ?_
      intro X ρ0 hb_ hgl_
      dsimp only [c_Protect]
      try refine nrm ?_
      rw [hV]
      repeat' (refine ar_id ?_; first | refine st1 ?_ | (first | ((first | refine ar_region (id := 1) tt_ok (inps := [.call (c_Call k), .sure (c_Mode ⟨k.Machine, k.Calls + 1, k.Refuse⟩ page (modeOf k page)), .call (c_In mode 1 2)]) rfl ?_ ?_ | refine ar_region tt_ok (inps := []) rfl ?_ ?_); rotate_left; (try dsimp only [c_Call, c_In, c_Mode]); (try refine nrm ?_); rotate_right) | refine ret3 ?_ | refine end3 ?_) | (refine ar_cond rfl trivial ?_ ?_ <;> intro hc_ <;> (try simp only [isNilI, inB, reduceCtorEq, cds] at hc_) <;> (try (first | contradiction | (exfalso; omega)))) | refine ar_until (And.intro ?_ (wk3 ?_)))
      all_goals (first | refine ar_id ?_ | (try (focus ((try refine nrmO ?_); (repeat' (first | exact True.intro | refine And.intro ?_ ?_)); all_goals (try (intro (hg_ : _ = true); (try simp only [isNilI, inB, reduceCtorEq, cds] at hg_); (repeat' (first | exact True.intro | refine And.intro ?_ ?_)))); all_goals (first | exact ob1 | exact fn_Call _ hs h0 h1 | exact fn_In _ _ _ | exact fn_Mode _ _ _ ⟨hs.m, hs.r⟩ rfl | exact hG | skip)))))
      all_goals first | rfl | (exfalso; grind) | exact Nat.le_of_ble_eq_true rfl
  · have hG : (!(!decide (granted k))) = false := by rw [decide_eq_false hP]; rfl
    have hV : pProtect k page mode = (called k, false) := by unfold pProtect; rw [if_neg (fun h => hP h.1)]
    refine fn_intro tt_ok Tryz.func107 rfl Tryz.call107 Tryz.ntmps107 Tryz.results107 rfl rfl rfl rfl ?_
    intro X ρ0 hb_ hgl_
    dsimp only [c_Protect]
    try refine nrm ?_
    rw [hV]
    repeat' (refine ar_id ?_; first | refine st1 ?_ | (first | ((first | refine ar_region (id := 1) tt_ok (inps := [.call (c_Call k), .skip (SV.one (.lit (.int .i64 (0)))), .call (c_In mode 1 2)]) rfl ?_ ?_ | refine ar_region tt_ok (inps := []) rfl ?_ ?_); rotate_left; (try dsimp only [c_Call, c_In]); (try refine nrm ?_); rotate_right) | refine ret3 ?_ | refine end3 ?_) | (refine ar_cond rfl trivial ?_ ?_ <;> intro hc_ <;> (try simp only [isNilI, inB, reduceCtorEq, cds] at hc_) <;> (try (first | contradiction | (exfalso; omega)))) | refine ar_until (And.intro ?_ (wk3 ?_)))
    all_goals (first | refine ar_id ?_ | (try (focus ((try refine nrmO ?_); (repeat' (first | exact True.intro | refine And.intro ?_ ?_)); all_goals (try (intro (hg_ : _ = true); (try simp only [isNilI, inB, reduceCtorEq, cds] at hg_); (repeat' (first | exact True.intro | refine And.intro ?_ ?_)))); all_goals (first | exact ob1 | exact fn_Call _ hs h0 h1 | exact fn_In _ _ _ | exact hG | exact hG.symm | skip)))))
    all_goals first | rfl | (exfalso; grind) | exact Nat.le_of_ble_eq_true rfl
end Eng
end Go.Proofs.YtabnglcabpijfaaGreatDoor
namespace Go.Proofs.YtabnglcabpijfaaGreatDoor
open Go.RowKit
set_option linter.unusedVariables false
set_option linter.unusedSimpArgs false
set_option maxRecDepth 100000
namespace Eng
open Tr
theorem copied_snoc (a b : Int) (c : Int) : ∀ (l : List Int) (m : GMachine), copied m a b (l ++ [c]) = setCellOf (copied m a b l) b c (cellOf (copied m a b l) a c)
  | [], m => rfl
  | x :: l, m => copied_snoc a b c l _
theorem setCell_row (m : GMachine) (f k v : Int) (g : Nat) : ((setCellOf m f k v).Frames.Cells.getD g []).length = (m.Frames.Cells.getD g []).length := by
  unfold setCellOf
  simp only [List.getD_eq_getElem?_getD, List.getElem?_set]
  split
  · rename_i h
    subst h
    split
    · simp
    · rename_i h2
      rw [List.getElem?_eq_none (by omega)]
  · rfl
structure Keeps (m n : GMachine) : Prop where
  u : n.Frames.Used = m.Frames.Used
  t : n.Table = m.Table
  l : n.Frames.Cells.length = m.Frames.Cells.length
  r : ∀ g, (n.Frames.Cells.getD g []).length = (m.Frames.Cells.getD g []).length
theorem copied_keeps (a b : Int) : ∀ (l : List Int) (m : GMachine), Keeps m (copied m a b l)
  | [], m => ⟨rfl, rfl, rfl, fun _ => rfl⟩
  | x :: l, m => by
    obtain ⟨h1, h2, h3, h4⟩ := copied_keeps a b l (setCellOf m b x (cellOf m a x))
    exact ⟨h1, h2, h3.trans (by unfold setCellOf; simp), fun g => (h4 g).trans (setCell_row m b x _ g)⟩
theorem row_one (m : GMachine) (f : Nat) (c : Int) (z z' : D) : ((m.Frames.Cells.map eIntS).set f z).set f (eIntS ((m.Frames.Cells.getD f []).set c.toNat ((m.Frames.Cells.getD f []).getD c.toNat 0))) = (setCellOf m f c (cellOf m f c)).Frames.Cells.map eIntS := by
  unfold setCellOf cellOf
  rw [List.set_set, Int.toNat_natCast]
  exact List.map_set.symm
theorem row_two (m : GMachine) (f g : Nat) (c : Int) (z z' : D) (h : f < m.Frames.Cells.length) (hfg : f ≠ g) : ((((m.Frames.Cells.map eIntS).set f z).set g z').set g (eIntS ((m.Frames.Cells.getD g []).set c.toNat ((m.Frames.Cells.getD f []).getD c.toNat 0)))).set f (eIntS (m.Frames.Cells.getD f [])) = (setCellOf m g c (cellOf m f c)).Frames.Cells.map eIntS := by
  unfold setCellOf cellOf
  rw [List.set_set, List.set_comm _ _ (Ne.symm hfg), List.set_set, Int.toNat_natCast, Int.toNat_natCast]
  have e : (m.Frames.Cells.map eIntS).set f (eIntS (m.Frames.Cells.getD f [])) = m.Frames.Cells.map eIntS := by
    rw [← List.map_set]
    congr 1
    apply List.ext_getElem?
    intro j
    rw [List.getElem?_set]
    split
    · rename_i h2; subst h2; first | exact (getD_at h).symm | (rw [if_pos h]; exact (getD_at h).symm)
    · rfl
  rw [e]
  exact List.map_set.symm
def c_Cells (k : GKernel) (a b : Int) (cells : List Int) : CFD := ⟨108, [.one (.box 0 0), (SV.one (.lit (.int .i64 (a)))), (SV.one (.lit (.int .i64 (b)))), .one (ro 3 1 Tr.eI cells)], [(0, some (.box 35 [.hd 1, .hd 2, .hd 3, (CV.lit (.int .i64 (k.Calls))), .hd 4])), (1, some (.row 33 1 (k.Machine.Frames.Cells.map eIntS))), (2, some (.row 4 1 (k.Machine.Frames.Used.map Tr.eB))), (3, some (.row 42 2 (k.Machine.Table.Entries.map eEntry))), (4, some (.row 3 1 (k.Refuse.map Tr.eI)))], (TV.sv (.one (.lit (.bool ((pCells k a b cells).2))))), [(0, some (.box 35 [.hd 1, .hd 2, .hd 3, (CV.lit (.int .i64 ((pCells k a b cells).1.Calls))), .hd 4])), (1, some (.row 33 1 ((pCells k a b cells).1.Machine.Frames.Cells.map eIntS))), (2, some (.row 4 1 ((pCells k a b cells).1.Machine.Frames.Used.map Tr.eB))), (3, some (.row 42 2 ((pCells k a b cells).1.Machine.Table.Entries.map eEntry))), (4, some (.row 3 1 ((pCells k a b cells).1.Refuse.map Tr.eI)))], [], []⟩
set_option maxHeartbeats 4000000 in
theorem fn_Cells (k : GKernel) (a b : Int) (cells : List Int) (hs : szK8 k) (hok : okM k.Machine) (hl : cells.length ≤ 1048576) : Fn Tryz.prog (c_Cells k a b cells) := by
  by_cases hA : modeOf k a = 0
  · have hG : (!decide ((0 : Int) = 0)) = false := rfl
    have hV : pCells k a b cells = (k, false) := by unfold pCells; rw [if_neg (fun h => h.1.1 hA)]
    refine fn_intro tt_ok Tryz.func108 rfl Tryz.call108 Tryz.ntmps108 Tryz.results108 rfl rfl rfl rfl ?_
    intro X ρ0 hb_ hgl_
    dsimp only [c_Cells]
    try refine nrm ?_
    rw [hV]
    repeat' (refine ar_id ?_; first | refine st1 ?_ | (first | ((first | refine ar_region (id := 1) tt_ok (inps := [.call (c_Mode k a 0), .skip (SV.one (.lit (.int .i64 (0))))]) rfl ?_ ?_ | refine ar_region tt_ok (inps := []) rfl ?_ ?_); rotate_left; (try dsimp only [c_Mode]); (try refine nrm ?_); rotate_right) | refine ret3 ?_ | refine end3 ?_) | (refine ar_cond rfl trivial ?_ ?_ <;> intro hc_ <;> (try simp only [isNilI, inB, reduceCtorEq, cds] at hc_) <;> (try (first | contradiction | (exfalso; omega)))) | refine ar_until (And.intro ?_ (wk3 ?_)))
    all_goals (first | refine ar_id ?_ | (try (focus ((try refine nrmO ?_); (repeat' (first | exact True.intro | refine And.intro ?_ ?_)); all_goals (try (intro (hg_ : _ = true); (try simp only [isNilI, inB, reduceCtorEq, cds] at hg_); (repeat' (first | exact True.intro | refine And.intro ?_ ?_)))); all_goals (first | exact ob1 | exact fn_Mode _ _ _ hs hA | exact hG | exact hG.symm | skip)))))
  · have hG : (!decide (modeOf k a = 0)) = true := by rw [decide_eq_false hA]; rfl
    by_cases hB : modeOf k b = 0
    · have hV : pCells k a b cells = (k, false) := by unfold pCells; rw [if_neg (fun h => h.1.2 hB)]
      refine fn_intro tt_ok Tryz.func108 rfl Tryz.call108 Tryz.ntmps108 Tryz.results108 rfl rfl rfl rfl ?_
      intro X ρ0 hb_ hgl_
      dsimp only [c_Cells]
      try refine nrm ?_
      rw [hV]
      repeat' (refine ar_id ?_; first | refine st1 ?_ | (first | ((first | refine ar_region (id := 1) tt_ok (inps := [.call (c_Mode k a (modeOf k a)), .sure (c_Mode k b 0)]) rfl ?_ ?_ | refine ar_region tt_ok (inps := []) rfl ?_ ?_); rotate_left; (try dsimp only [c_Mode]); (try refine nrm ?_); rotate_right) | refine ret3 ?_ | refine end3 ?_) | (refine ar_cond rfl trivial ?_ ?_ <;> intro hc_ <;> (try simp only [isNilI, inB, reduceCtorEq, cds] at hc_) <;> (try (first | contradiction | (exfalso; omega)))) | refine ar_until (And.intro ?_ (wk3 ?_)))
      all_goals (first | refine ar_id ?_ | (try (focus ((try refine nrmO ?_); (repeat' (first | exact True.intro | refine And.intro ?_ ?_)); all_goals (try (intro (hg_ : _ = true); (try simp only [isNilI, inB, reduceCtorEq, cds] at hg_); (repeat' (first | exact True.intro | refine And.intro ?_ ?_)))); all_goals (first | exact ob1 | exact fn_Mode _ _ _ hs rfl | exact fn_Mode _ _ _ hs hB | exact hG | skip)))))
      exact absurd trivial hc_.2
    · obtain ⟨hp1, hp2⟩ := mode_in hA
      obtain ⟨hq1, hq2⟩ := mode_in hB
      obtain ⟨f, hf, hf1, _, hf2, _⟩ := okM_entry hok hA
      obtain ⟨g, hg, hg1, _, hg2, _⟩ := okM_entry hok hB
      by_cases hC : ∀ c ∈ cells, 0 ≤ c ∧ c ≤ 15
      · have hV : pCells k a b cells = (⟨copied k.Machine f g cells, k.Calls, k.Refuse⟩, true) := by unfold pCells; rw [if_pos ⟨⟨hA, hB⟩, hC⟩, hf, hg]
        rw [hp2] at hf
        rw [hq2] at hg
        refine fn_intro tt_ok Tryz.func108 rfl Tryz.call108 Tryz.ntmps108 Tryz.results108 rfl rfl rfl rfl ?_
        intro X ρ0 hb_ hgl_
        dsimp only [c_Cells]
        try refine nrm ?_
        rw [hV, (copied_keeps f g cells k.Machine).u, (copied_keeps f g cells k.Machine).t]
        repeat' (refine ar_id ?_; first | refine st1 ?_ | (first | ((first | refine ar_region (id := 1) tt_ok (inps := [.call (c_Mode k a (modeOf k a)), .sure (c_Mode k b (modeOf k b))]) rfl ?_ ?_ | refine ar_region tt_ok (inps := []) rfl ?_ ?_); rotate_left; (try dsimp only [c_Mode]); (try refine nrm ?_); rotate_right) | refine ret3 ?_ | refine end3 ?_) | (refine ar_cond rfl trivial ?_ ?_ <;> intro hc_ <;> (try simp only [isNilI, inB, reduceCtorEq, cds] at hc_) <;> (try (first | contradiction | (exfalso; omega)))) | refine ar_until (And.intro ?_ (wk3 ?_)))
        all_goals (first | refine ar_id ?_ | (try (focus ((try refine nrmO ?_); (repeat' (first | exact True.intro | refine And.intro ?_ ?_)); all_goals (try (intro (hg_ : _ = true); (try simp only [isNilI, inB, reduceCtorEq, cds] at hg_); (repeat' (first | exact True.intro | refine And.intro ?_ ?_)))); all_goals (first | exact ob1 | exact fn_Mode _ _ _ hs rfl | exact hG | skip)))))
        refine ar_keep 7951 (by dsimp only [keepS] <;> exact rfl) ?_
        refine ar_forM (cells.length) (fun i => True) (fun i => [(9, (TV.sv (.one (.lit (.int .i64 (i))))))]) (fun i => []) ?_ ?_ ?_
        rotate_left
        · first | trivial | simp
        (dsimp only [rnCap, capSVs, Int.toNat_natCast, ro, Nat.reduceAdd, Nat.reduceMul, Nat.zero_add, List.map, putT, app, wrapG, gOb, argT, keys, slotOf, dropped, gAnd, wB, rnT, rnS, rnC, rnCs, rnSs, rnM, rnB, rnN, rn, lk, St.over, ded, delL, keepT, menT, menSs, menS, menCs, menC, hasN, resT, SV.cells]; refine wk3 ?_; (focus ((try refine nrmO ?_); (repeat' (first | exact True.intro | refine And.intro ?_ ?_)); all_goals (try (intro (hg_ : _ = true); (try simp only [isNilI, inB, reduceCtorEq, cds] at hg_); (repeat' (first | exact True.intro | refine And.intro ?_ ?_)))); all_goals (first | exact ob1 | exact rfl | skip))))
        rotate_right
        intro i hi_ hiI_
        dsimp only [rnCap, capSVs, Int.toNat_natCast, ro, Nat.reduceAdd, Nat.reduceMul, Nat.zero_add, List.map, putT, app, wrapG, gOb, argT, keys, slotOf, dropped, gAnd, wB, rnT, rnS, rnC, rnCs, rnSs, rnM, rnB, rnN, rn, lk, St.over, ded, delL, keepT, menT, menSs, menS, menCs, menC, hasN, resT, SV.cells]
        repeat' (refine ar_id ?_; first | refine st1 ?_ | (first | ((first | refine ar_region (id := 6) tt_ok (inps := [.elem (Tr.eI (cells.getD i 0)), .call (c_In (cells.getD i 0) 0 15)]) rfl ?_ ?_ | refine ar_region (id := 8) tt_ok (inps := [.elem (eEntry (k.Machine.Table.Entries.getD a.toNat ⟨0, 0⟩))]) rfl ?_ ?_ | refine ar_region (id := 9) tt_ok (inps := [.elem (eEntry (k.Machine.Table.Entries.getD b.toNat ⟨0, 0⟩))]) rfl ?_ ?_ | refine ar_region tt_ok (inps := []) rfl ?_ ?_); rotate_left; (try dsimp only [c_In]); (try refine nrm ?_); rotate_right) | refine ret3 ?_ | refine end3 ?_) | (refine ar_cond rfl trivial ?_ ?_ <;> intro hc_ <;> (try simp only [isNilI, inB, reduceCtorEq, cds] at hc_) <;> (try (first | contradiction | (exfalso; omega)))) | refine ar_until (And.intro ?_ (wk3 ?_)))
        all_goals (first | refine ar_id ?_ | (try (focus ((try refine nrmO ?_); (repeat' (first | exact True.intro | refine And.intro ?_ ?_)); all_goals (try (intro (hg_ : _ = true); (try simp only [isNilI, inB, reduceCtorEq, cds] at hg_); (repeat' (first | exact True.intro | refine And.intro ?_ ?_)))); all_goals (first | exact ob1 | exact fn_In _ _ _ | exact Nat.le_of_ble_eq_true rfl | skip)))))
        · exfalso; have := hC _ (getD_in (l := cells) (i := i) (d := 0) (by omega)); omega
        · exfalso; have := hC _ (getD_in (l := cells) (i := i) (d := 0) (by omega)); omega
        by_cases hfg : f = g
        · subst hfg
          refine ar_keep 7951 (by dsimp only [keepS] <;> exact rfl) ?_
          refine ar_forM (cells.length) (fun i => True) (fun i => [(10, (TV.sv (.one (.lit (.int .i64 ((f : Int))))))), (11, (TV.sv (.one (.lit (.int .i64 ((f : Int))))))), (12, (TV.sv (.one (.lit (.int .i64 (i))))))]) (fun i => [(1, some (.row 33 1 ((copied k.Machine f f (cells.take i)).Frames.Cells.map eIntS)))]) ?_ ?_ ?_
          rotate_left
          · first | trivial | simp
          (dsimp only [rnCap, capSVs, Int.toNat_natCast, ro, Nat.reduceAdd, Nat.reduceMul, Nat.zero_add, List.map, putT, app, wrapG, gOb, argT, keys, slotOf, dropped, gAnd, wB, rnT, rnS, rnC, rnCs, rnSs, rnM, rnB, rnN, rn, lk, St.over, ded, delL, keepT, menT, menSs, menS, menCs, menC, hasN, resT, SV.cells]; refine wk3 ?_; (focus ((try refine nrmO ?_); (repeat' (first | exact True.intro | refine And.intro ?_ ?_)); all_goals (try (intro (hg_ : _ = true); (try simp only [isNilI, inB, reduceCtorEq, cds] at hg_); (repeat' (first | exact True.intro | refine And.intro ?_ ?_)))); all_goals (first | exact ob1 | exact rfl | skip))))
          rotate_right
          intro i hi_ hiI_
          dsimp only [rnCap, capSVs, Int.toNat_natCast, ro, Nat.reduceAdd, Nat.reduceMul, Nat.zero_add, List.map, putT, app, wrapG, gOb, argT, keys, slotOf, dropped, gAnd, wB, rnT, rnS, rnC, rnCs, rnSs, rnM, rnB, rnN, rn, lk, St.over, ded, delL, keepT, menT, menSs, menS, menCs, menC, hasN, resT, SV.cells]
          have hK := copied_keeps f f (cells.take i) k.Machine
          repeat' (refine ar_id ?_; first | refine st1 ?_ | (first | ((first | refine ar_region tt_ok (inps := []) rfl ?_ ?_); rotate_left; (try refine nrm ?_); rotate_right) | refine ret3 ?_ | refine end3 ?_) | (refine ar_cond rfl trivial ?_ ?_ <;> intro hc_ <;> (try simp only [isNilI, inB, reduceCtorEq, cds] at hc_) <;> (try (first | contradiction | (exfalso; omega)))) | refine ar_until (And.intro ?_ (wk3 ?_)))
          all_goals (first | refine ar_id ?_ | (try (focus ((try refine nrmO ?_); (repeat' (first | exact True.intro | refine And.intro ?_ ?_)); all_goals (try (intro (hg_ : _ = true); (try simp only [isNilI, inB, reduceCtorEq, cds] at hg_); (repeat' (first | exact True.intro | refine And.intro ?_ ?_)))); all_goals (first | exact ob1 | skip)))))
          · have hci := hC _ (getD_in (l := cells) (i := i) (d := 0) (by omega))
            have hKl := hK.l
            have hKf := hK.r f
            refine ar_open 1 f 0 90001 90002 (d := eIntS ((copied k.Machine f f (cells.take i)).Frames.Cells.getD f [])) (((copied k.Machine f f (cells.take i)).Frames.Cells.getD f []).map eI) rfl ?_ rfl ?_ rfl rfl rfl ?_
            · first | exact map_at (by omega) | assumption | exact set_at (by (try simp only [List.length_map, List.length_set]); omega) | (rw [List.getElem?_set_ne (by omega)]; exact map_at (by omega))
            · exact ⟨rfl, rfl, by intro e he; simp only [List.mem_map] at he; obtain ⟨_, _, rfl⟩ := he; rfl⟩
            intro A_90001 n_90001 c_90001
            try refine nrm ?_
            refine ar_draw (id := 13) (inps := [ .nest (.lit (Value.slice A_90001 n_90001 c_90001) .nil) [(0, 90002)], .elem (Tr.eI (cells.getD i 0)), .nest (.lit (Value.slice A_90001 n_90001 c_90001) .nil) [(0, 90002)], .elem (Tr.eI (cells.getD i 0)), .elem (eI (((copied k.Machine f f (cells.take i)).Frames.Cells.getD f []).getD (cells.getD i 0).toNat 0)), .elem (eI (((copied k.Machine f f (cells.take i)).Frames.Cells.getD f []).getD (cells.getD i 0).toNat 0))]) tt_ok (by kernel_rfl) rfl rfl (by kernel_rfl) rfl rfl rfl rfl ?_ ?_
            rotate_left
            (try refine nrm ?_)
            refine ar_close 1 f 0 90001 90002 rfl rfl rfl (set_at ?_) rfl rfl rfl ?_
            · (simp only [List.length_map, List.length_set]; omega)
            try refine nrm ?_
            repeat' (refine ar_id ?_; first | refine st1 ?_ | (first | ((first | refine ar_region tt_ok (inps := []) rfl ?_ ?_); rotate_left; (try refine nrm ?_); rotate_right) | refine ret3 ?_ | refine end3 ?_) | (refine ar_cond rfl trivial ?_ ?_ <;> intro hc_ <;> (try simp only [isNilI, inB, reduceCtorEq, cds] at hc_) <;> (try (first | contradiction | (exfalso; omega)))) | refine ar_until (And.intro ?_ (wk3 ?_)))
            all_goals (first | refine ar_id ?_ | (try (focus ((try refine nrmO ?_); (repeat' (first | exact True.intro | refine And.intro ?_ ?_)); all_goals (try (intro (hg_ : _ = true); (try simp only [isNilI, inB, reduceCtorEq, cds] at hg_); (repeat' (first | exact True.intro | refine And.intro ?_ ?_)))); all_goals (first | exact ob1 | skip)))))
            all_goals (try (focus ((try refine nrmO ?_); (repeat' (first | exact True.intro | refine And.intro ?_ ?_)); all_goals (try (intro (hg_ : _ = true); (try simp only [isNilI, inB, reduceCtorEq, cds] at hg_); (repeat' (first | exact True.intro | refine And.intro ?_ ?_)))); all_goals (first | exact ob1 | skip))))
            have hset : ∀ (o w : Int), (((copied k.Machine f f (cells.take i)).Frames.Cells.getD f []).map eI).set (cells.getD i 0).toNat (dPut (eI o) 0 (D.lit (.int .i64 w) .nil)) = (((copied k.Machine f f (cells.take i)).Frames.Cells.getD f []).set (cells.getD i 0).toNat w).map eI := fun o w => List.map_set.symm
            rw [take_getD cells 0 (by omega), copied_snoc, hset]
            exact row_one (copied k.Machine f f (cells.take i)) f (cells.getD i 0) _ (D.lit .nilIface .nil)
          · rw [List.take_of_length_le (by omega)]
        · skip
          refine ar_keep 7951 (by dsimp only [keepS] <;> exact rfl) ?_
          refine ar_forM (cells.length) (fun i => True) (fun i => [(10, (TV.sv (.one (.lit (.int .i64 ((f : Int))))))), (11, (TV.sv (.one (.lit (.int .i64 ((g : Int))))))), (12, (TV.sv (.one (.lit (.int .i64 (i))))))]) (fun i => [(1, some (.row 33 1 ((copied k.Machine f g (cells.take i)).Frames.Cells.map eIntS)))]) ?_ ?_ ?_
          rotate_left
          · first | trivial | simp
          (dsimp only [rnCap, capSVs, Int.toNat_natCast, ro, Nat.reduceAdd, Nat.reduceMul, Nat.zero_add, List.map, putT, app, wrapG, gOb, argT, keys, slotOf, dropped, gAnd, wB, rnT, rnS, rnC, rnCs, rnSs, rnM, rnB, rnN, rn, lk, St.over, ded, delL, keepT, menT, menSs, menS, menCs, menC, hasN, resT, SV.cells]; refine wk3 ?_; (focus ((try refine nrmO ?_); (repeat' (first | exact True.intro | refine And.intro ?_ ?_)); all_goals (try (intro (hg_ : _ = true); (try simp only [isNilI, inB, reduceCtorEq, cds] at hg_); (repeat' (first | exact True.intro | refine And.intro ?_ ?_)))); all_goals (first | exact ob1 | exact rfl | skip))))
          rotate_right
          intro i hi_ hiI_
          dsimp only [rnCap, capSVs, Int.toNat_natCast, ro, Nat.reduceAdd, Nat.reduceMul, Nat.zero_add, List.map, putT, app, wrapG, gOb, argT, keys, slotOf, dropped, gAnd, wB, rnT, rnS, rnC, rnCs, rnSs, rnM, rnB, rnN, rn, lk, St.over, ded, delL, keepT, menT, menSs, menS, menCs, menC, hasN, resT, SV.cells]
          have hK := copied_keeps f g (cells.take i) k.Machine
          repeat' (refine ar_id ?_; first | refine st1 ?_ | (first | ((first | refine ar_region tt_ok (inps := []) rfl ?_ ?_); rotate_left; (try refine nrm ?_); rotate_right) | refine ret3 ?_ | refine end3 ?_) | (refine ar_cond rfl trivial ?_ ?_ <;> intro hc_ <;> (try simp only [isNilI, inB, reduceCtorEq, cds] at hc_) <;> (try (first | contradiction | (exfalso; omega)))) | refine ar_until (And.intro ?_ (wk3 ?_)))
          all_goals (first | refine ar_id ?_ | (try (focus ((try refine nrmO ?_); (repeat' (first | exact True.intro | refine And.intro ?_ ?_)); all_goals (try (intro (hg_ : _ = true); (try simp only [isNilI, inB, reduceCtorEq, cds] at hg_); (repeat' (first | exact True.intro | refine And.intro ?_ ?_)))); all_goals (first | exact ob1 | skip)))))
          · have hci := hC _ (getD_in (l := cells) (i := i) (d := 0) (by omega))
            have hKl := hK.l
            have hKf := hK.r f
            have hKg := hK.r g
            refine ar_open 1 f 0 90001 90002 (d := eIntS ((copied k.Machine f g (cells.take i)).Frames.Cells.getD f [])) (((copied k.Machine f g (cells.take i)).Frames.Cells.getD f []).map eI) rfl ?_ rfl ?_ rfl rfl rfl ?_
            · first | exact map_at (by omega) | assumption | exact set_at (by (try simp only [List.length_map, List.length_set]); omega) | (rw [List.getElem?_set_ne (by omega)]; exact map_at (by omega))
            · exact ⟨rfl, rfl, by intro e he; simp only [List.mem_map] at he; obtain ⟨_, _, rfl⟩ := he; rfl⟩
            intro A_90001 n_90001 c_90001
            try refine nrm ?_
            refine ar_open 1 g 0 90003 90004 (d := eIntS ((copied k.Machine f g (cells.take i)).Frames.Cells.getD g [])) (((copied k.Machine f g (cells.take i)).Frames.Cells.getD g []).map eI) rfl ?_ rfl ?_ rfl rfl rfl ?_
            · first | exact map_at (by omega) | assumption | exact set_at (by (try simp only [List.length_map, List.length_set]); omega) | (rw [List.getElem?_set_ne (by omega)]; exact map_at (by omega))
            · exact ⟨rfl, rfl, by intro e he; simp only [List.mem_map] at he; obtain ⟨_, _, rfl⟩ := he; rfl⟩
            intro A_90003 n_90003 c_90003
            try refine nrm ?_
            refine ar_draw (id := 13) (inps := [ .nest (.lit (Value.slice A_90003 n_90003 c_90003) .nil) [(0, 90004)], .elem (Tr.eI (cells.getD i 0)), .nest (.lit (Value.slice A_90001 n_90001 c_90001) .nil) [(0, 90002)], .elem (Tr.eI (cells.getD i 0)), .elem (eI (((copied k.Machine f g (cells.take i)).Frames.Cells.getD f []).getD (cells.getD i 0).toNat 0)), .elem (eI (((copied k.Machine f g (cells.take i)).Frames.Cells.getD g []).getD (cells.getD i 0).toNat 0))]) tt_ok (by kernel_rfl) rfl rfl (by kernel_rfl) rfl rfl rfl rfl ?_ ?_
            rotate_left
            (try refine nrm ?_)
            refine ar_close 1 g 0 90003 90004 rfl rfl rfl (set_at ?_) rfl rfl rfl ?_
            · (simp only [List.length_map, List.length_set]; omega)
            try refine nrm ?_
            refine ar_close 1 f 0 90001 90002 rfl rfl rfl (by rw [List.getElem?_set_ne (by omega), List.getElem?_set_ne (by omega)]; exact set_at (by (try simp only [List.length_map, List.length_set]); omega)) rfl rfl rfl ?_
            try refine nrm ?_
            repeat' (refine ar_id ?_; first | refine st1 ?_ | (first | ((first | refine ar_region tt_ok (inps := []) rfl ?_ ?_); rotate_left; (try refine nrm ?_); rotate_right) | refine ret3 ?_ | refine end3 ?_) | (refine ar_cond rfl trivial ?_ ?_ <;> intro hc_ <;> (try simp only [isNilI, inB, reduceCtorEq, cds] at hc_) <;> (try (first | contradiction | (exfalso; omega)))) | refine ar_until (And.intro ?_ (wk3 ?_)))
            all_goals (first | refine ar_id ?_ | (try (focus ((try refine nrmO ?_); (repeat' (first | exact True.intro | refine And.intro ?_ ?_)); all_goals (try (intro (hg_ : _ = true); (try simp only [isNilI, inB, reduceCtorEq, cds] at hg_); (repeat' (first | exact True.intro | refine And.intro ?_ ?_)))); all_goals (first | exact ob1 | skip)))))
            all_goals (try (focus ((try refine nrmO ?_); (repeat' (first | exact True.intro | refine And.intro ?_ ?_)); all_goals (try (intro (hg_ : _ = true); (try simp only [isNilI, inB, reduceCtorEq, cds] at hg_); (repeat' (first | exact True.intro | refine And.intro ?_ ?_)))); all_goals (first | exact ob1 | skip))))
            · have hset : ∀ (o w : Int), (((copied k.Machine f g (cells.take i)).Frames.Cells.getD g []).map eI).set (cells.getD i 0).toNat (dPut (eI o) 0 (D.lit (.int .i64 w) .nil)) = (((copied k.Machine f g (cells.take i)).Frames.Cells.getD g []).set (cells.getD i 0).toNat w).map eI := fun o w => List.map_set.symm
              rw [take_getD cells 0 (by omega), copied_snoc, hset]
              exact row_two (copied k.Machine f g (cells.take i)) f g (cells.getD i 0) _ _ (by omega) hfg
            · rw [Int.toNat_natCast, List.getElem?_set_ne (by omega)]
              exact set_at (by simp only [List.length_map]; omega)
          · rw [List.take_of_length_le (by omega)]
      · have hV : pCells k a b cells = (k, false) := by unfold pCells; rw [if_neg (fun h => hC h.2)]
        refine fn_intro tt_ok Tryz.func108 rfl Tryz.call108 Tryz.ntmps108 Tryz.results108 rfl rfl rfl rfl ?_
        intro X ρ0 hb_ hgl_
        dsimp only [c_Cells]
        try refine nrm ?_
        rw [hV]
        repeat' (refine ar_id ?_; first | refine st1 ?_ | (first | ((first | refine ar_region (id := 1) tt_ok (inps := [.call (c_Mode k a (modeOf k a)), .sure (c_Mode k b (modeOf k b))]) rfl ?_ ?_ | refine ar_region tt_ok (inps := []) rfl ?_ ?_); rotate_left; (try dsimp only [c_Mode]); (try refine nrm ?_); rotate_right) | refine ret3 ?_ | refine end3 ?_) | (refine ar_cond rfl trivial ?_ ?_ <;> intro hc_ <;> (try simp only [isNilI, inB, reduceCtorEq, cds] at hc_) <;> (try (first | contradiction | (exfalso; omega)))) | refine ar_until (And.intro ?_ (wk3 ?_)))
        all_goals (first | refine ar_id ?_ | (try (focus ((try refine nrmO ?_); (repeat' (first | exact True.intro | refine And.intro ?_ ?_)); all_goals (try (intro (hg_ : _ = true); (try simp only [isNilI, inB, reduceCtorEq, cds] at hg_); (repeat' (first | exact True.intro | refine And.intro ?_ ?_)))); all_goals (first | exact ob1 | exact fn_Mode _ _ _ hs rfl | exact hG | skip)))))
        refine ar_keep 7951 (by dsimp only [keepS] <;> exact rfl) ?_
        refine ar_forM (cells.length) (fun i => ∀ c ∈ cells.take i, 0 ≤ c ∧ c ≤ 15) (fun i => [(9, (TV.sv (.one (.lit (.int .i64 (i))))))]) (fun i => []) ?_ ?_ ?_
        rotate_left
        · first | trivial | simp
        (dsimp only [rnCap, capSVs, Int.toNat_natCast, ro, Nat.reduceAdd, Nat.reduceMul, Nat.zero_add, List.map, putT, app, wrapG, gOb, argT, keys, slotOf, dropped, gAnd, wB, rnT, rnS, rnC, rnCs, rnSs, rnM, rnB, rnN, rn, lk, St.over, ded, delL, keepT, menT, menSs, menS, menCs, menC, hasN, resT, SV.cells]; refine wk3 ?_; (focus ((try refine nrmO ?_); (repeat' (first | exact True.intro | refine And.intro ?_ ?_)); all_goals (try (intro (hg_ : _ = true); (try simp only [isNilI, inB, reduceCtorEq, cds] at hg_); (repeat' (first | exact True.intro | refine And.intro ?_ ?_)))); all_goals (first | exact ob1 | exact rfl | skip))))
        rotate_right
        intro i hi_ hiI_
        dsimp only [rnCap, capSVs, Int.toNat_natCast, ro, Nat.reduceAdd, Nat.reduceMul, Nat.zero_add, List.map, putT, app, wrapG, gOb, argT, keys, slotOf, dropped, gAnd, wB, rnT, rnS, rnC, rnCs, rnSs, rnM, rnB, rnN, rn, lk, St.over, ded, delL, keepT, menT, menSs, menS, menCs, menC, hasN, resT, SV.cells]
        repeat' (refine ar_id ?_; first | refine st1 ?_ | (first | ((first | refine ar_region (id := 6) tt_ok (inps := [.elem (Tr.eI (cells.getD i 0)), .call (c_In (cells.getD i 0) 0 15)]) rfl ?_ ?_ | refine ar_region tt_ok (inps := []) rfl ?_ ?_); rotate_left; (try dsimp only [c_In]); (try refine nrm ?_); rotate_right) | refine ret3 ?_ | refine end3 ?_) | (refine ar_cond rfl trivial ?_ ?_ <;> intro hc_ <;> (try simp only [isNilI, inB, reduceCtorEq, cds] at hc_) <;> (try (first | contradiction | (exfalso; omega)))) | refine ar_until (And.intro ?_ (wk3 ?_)))
        all_goals (first | refine ar_id ?_ | (try (focus ((try refine nrmO ?_); (repeat' (first | exact True.intro | refine And.intro ?_ ?_)); all_goals (try (intro (hg_ : _ = true); (try simp only [isNilI, inB, reduceCtorEq, cds] at hg_); (repeat' (first | exact True.intro | refine And.intro ?_ ?_)))); all_goals (first | exact ob1 | exact fn_In _ _ _ | skip)))))
        all_goals first | exact all_take (d := 0) hiI_ (by omega) (by omega) | exact absurd (all_full hiI_ (by omega)) hC
end Eng
end Go.Proofs.YtabnglcabpijfaaGreatDoor
namespace Go.Proofs.YtabnglcabpijfaaGreatDoor
open Go.RowKit
set_option linter.unusedVariables false
set_option linter.unusedSimpArgs false
set_option maxRecDepth 100000
namespace Eng
open Tr
def c_On (k : GKernel) (page other : Int) : CFD := ⟨109, [.one (.box 0 0), (SV.one (.lit (.int .i64 (page)))), (SV.one (.lit (.int .i64 (other))))], [(0, some (.box 35 [.hd 1, .hd 2, .hd 3, (CV.lit (.int .i64 (k.Calls))), .hd 4])), (1, some (.row 33 1 (k.Machine.Frames.Cells.map eIntS))), (2, some (.row 4 1 (k.Machine.Frames.Used.map Tr.eB))), (3, some (.row 42 2 (k.Machine.Table.Entries.map eEntry))), (4, some (.row 3 1 (k.Refuse.map Tr.eI)))], (TV.sv (.one (.lit (.bool ((pOn k page other).2))))), [(0, some (.box 35 [.hd 1, .hd 2, .hd 3, (CV.lit (.int .i64 (((pOn k page other).1).Calls))), .hd 4])), (1, some (.row 33 1 (((pOn k page other).1).Machine.Frames.Cells.map eIntS))), (2, some (.row 4 1 (((pOn k page other).1).Machine.Frames.Used.map Tr.eB))), (3, some (.row 42 2 (((pOn k page other).1).Machine.Table.Entries.map eEntry))), (4, some (.row 3 1 (((pOn k page other).1).Refuse.map Tr.eI)))], [], []⟩
def c_DropR (k : GKernel) (f : Nat) (n : GMachine) : CFD := ⟨146, [.one (.box 0 0), (SV.one (.lit (.int .i64 ((f : Int)))))], [(0, some (.box 35 [.hd 1, .hd 2, .hd 3, (CV.lit (.int .i64 (k.Calls))), .hd 4])), (1, some (.row 33 1 (k.Machine.Frames.Cells.map eIntS))), (2, some (.row 4 1 (k.Machine.Frames.Used.map Tr.eB))), (3, some (.row 42 2 (k.Machine.Table.Entries.map eEntry))), (4, some (.row 3 1 (k.Refuse.map Tr.eI)))], .tup [], [(0, some (.box 35 [.hd 1, .hd 2, .hd 3, (CV.lit (.int .i64 ((⟨n, k.Calls, k.Refuse⟩ : GKernel).Calls))), .hd 4])), (1, some (.row 33 1 ((⟨n, k.Calls, k.Refuse⟩ : GKernel).Machine.Frames.Cells.map eIntS))), (2, some (.row 4 1 ((⟨n, k.Calls, k.Refuse⟩ : GKernel).Machine.Frames.Used.map Tr.eB))), (3, some (.row 42 2 ((⟨n, k.Calls, k.Refuse⟩ : GKernel).Machine.Table.Entries.map eEntry))), (4, some (.row 3 1 ((⟨n, k.Calls, k.Refuse⟩ : GKernel).Refuse.map Tr.eI)))], [], []⟩
theorem fn_DropR (k : GKernel) (f : Nat) (n : GMachine) (hs : szK8 k) (h1 : f < k.Machine.Frames.Cells.length) (h2 : f < k.Machine.Frames.Used.length) (hn : Tr.dropped k.Machine f = n) : Fn Tryz.prog (c_DropR k f n) := by
  subst hn; exact fn_Drop k f hs h1 h2
set_option maxHeartbeats 4000000 in
theorem fn_On (k : GKernel) (page other : Int) (hs : szK8 k) (hok : okM k.Machine) (h0 : 0 ≤ k.Calls) (h1 : k.Calls < 100000) : Fn Tryz.prog (c_On k page other) := by
  have hse := hs.m.e
  by_cases hP : granted k
  · have hg := decide_eq_true hP
    have hG : (!(!decide (granted k))) = true := by rw [hg]; rfl
    by_cases hM : modeOf k page = 0
    · have hG2 : (!(bif !decide (granted k) then true else decide ((0 : Int) = 0))) = false := by rw [hg]; rfl
      have hV : pOn k page other = (⟨k.Machine, k.Calls + 1, k.Refuse⟩, false) := by unfold pOn; rw [if_neg (fun h => h.2.1 hM)]; rfl
      refine fn_intro tt_ok Tryz.func109 rfl Tryz.call109 Tryz.ntmps109 Tryz.results109 rfl rfl rfl rfl ?_
      intro X ρ0 hb_ hgl_
      dsimp only [c_On]
      try refine nrm ?_
      rw [hV]
      repeat' (refine ar_id ?_; first | refine st1 ?_ | (refine ar_steps (id := 1) tt_ok [.call (c_Call k), .sure (c_Mode ⟨k.Machine, k.Calls + 1, k.Refuse⟩ page 0), .skip (SV.one (.lit (.int .i64 (0))))] ?_; generalize hK_ : (fun t' m' u' => AR _ _ _ _ (St.mk t' m' u')) = K_; repeat' (first | (focus ((first | refine evk_call3 ?_ ?_ | refine evk_sure3 ?_ ?_ | refine evk_cons3 ?_ ?_); (try dsimp only [c_Call, c_Mode]); (try refine nrm ?_); rotate_left)) | (refine evk_nil ?_; subst hK_; (try dsimp only [c_Call, c_Mode]); (try refine nrm ?_)))) | (first | ((first | refine ar_region tt_ok (inps := []) rfl ?_ ?_); rotate_left; (try dsimp only [c_Call, c_Mode]); (try refine nrm ?_); rotate_right) | refine ret3 ?_ | refine end3 ?_) | (refine ar_cond rfl trivial ?_ ?_ <;> intro hc_ <;> (try simp only [isNilI, inB, reduceCtorEq, cds] at hc_) <;> (try (first | contradiction | (exfalso; omega) | (exfalso; grind)))) | refine ar_until (And.intro ?_ (wk3 ?_)))
      all_goals (first | refine ar_id ?_ | (try (focus ((try refine nrmO ?_); (repeat' (first | exact True.intro | refine And.intro ?_ ?_)); all_goals (try (intro (hg_ : _ = true); (try simp only [isNilI, inB, reduceCtorEq, cds] at hg_); (repeat' (first | exact True.intro | refine And.intro ?_ ?_)))); all_goals (first | exact ob1 | exact fn_Call _ hs h0 h1 | exact fn_Mode ⟨k.Machine, k.Calls + 1, k.Refuse⟩ page _ ⟨hs.m, hs.r⟩ hM | exact hG | exact hG2 | exact hG2.symm | skip)))))
      all_goals first | rfl | (exfalso; grind)
    · have hG2 : (!(bif !decide (granted k) then true else decide (modeOf k page = 0))) = true := by rw [hg, decide_eq_false hM]; rfl
      by_cases hQ : modeOf k other ≠ 0 ∧ page ≠ other
      · obtain ⟨hp1, hp2⟩ := mode_in hM
        obtain ⟨hq1, hq2⟩ := mode_in hQ.1
        obtain ⟨f, hf, hl1, hl2, _, _⟩ := okM_entry hok hM
        obtain ⟨n, hn⟩ : ∃ n, Tr.dropped (setEntry k.Machine page.toNat ⟨2, (k.Machine.Table.Entries.getD other.toNat ⟨0, 0⟩).Frame⟩) f = n := ⟨_, rfl⟩
        have hV : pOn k page other = (⟨n, k.Calls + 1, k.Refuse⟩, true) := by unfold pOn; rw [if_pos ⟨hP, hM, hQ⟩, hf, hq2, ← hn]; rfl
        rw [hp2] at hf
        have hset : (k.Machine.Table.Entries.map eEntry).set page.toNat (eEntry ⟨2, (k.Machine.Table.Entries.getD other.toNat ⟨0, 0⟩).Frame⟩) = (k.Machine.Table.Entries.set page.toNat ⟨2, (k.Machine.Table.Entries.getD other.toNat ⟨0, 0⟩).Frame⟩).map eEntry := List.map_set.symm
        refine fn_intro tt_ok Tryz.func109 rfl Tryz.call109 Tryz.ntmps109 Tryz.results109 rfl rfl rfl rfl ?_
        intro X ρ0 hb_ hgl_
        dsimp only [c_On]
        try refine nrm ?_
        rw [hV]
        repeat' (refine ar_id ?_; first | refine st1 ?_ | (refine ar_steps (id := 1) tt_ok [.call (c_Call k), .sure (c_Mode ⟨k.Machine, k.Calls + 1, k.Refuse⟩ page (modeOf k page)), .sure (c_Mode ⟨k.Machine, k.Calls + 1, k.Refuse⟩ other (modeOf k other))] ?_; generalize hK_ : (fun t' m' u' => AR _ _ _ _ (St.mk t' m' u')) = K_; repeat' (first | (focus ((first | refine evk_call3 ?_ ?_ | refine evk_sure3 ?_ ?_ | refine evk_cons3 ?_ ?_); (try dsimp only [c_Call, c_Mode]); (try refine nrm ?_); rotate_left)) | (refine evk_nil ?_; subst hK_; (try dsimp only [c_Call, c_Mode]); (try refine nrm ?_)))) | (first | ((first | refine ar_region (id := 3) tt_ok (inps := [.elem (eEntry (k.Machine.Table.Entries.getD page.toNat ⟨0, 0⟩))]) rfl ?_ ?_ | refine ar_region tt_ok (inps := []) rfl ?_ ?_); rotate_left; (try dsimp only [c_Call, c_Mode]); (try refine nrm ?_); rotate_right) | refine ret3 ?_ | refine end3 ?_) | (refine ar_cond rfl trivial ?_ ?_ <;> intro hc_ <;> (try simp only [isNilI, inB, reduceCtorEq, cds] at hc_) <;> (try (first | contradiction | (exfalso; omega) | (exfalso; grind)))) | refine ar_until (And.intro ?_ (wk3 ?_)))
        all_goals (first | refine ar_id ?_ | (try (focus ((try refine nrmO ?_); (repeat' (first | exact True.intro | refine And.intro ?_ ?_)); all_goals (try (intro (hg_ : _ = true); (try simp only [isNilI, inB, reduceCtorEq, cds] at hg_); (repeat' (first | exact True.intro | refine And.intro ?_ ?_)))); all_goals (first | exact ob1 | exact fn_Call _ hs h0 h1 | exact fn_Mode ⟨k.Machine, k.Calls + 1, k.Refuse⟩ page _ ⟨hs.m, hs.r⟩ rfl | exact fn_Mode ⟨k.Machine, k.Calls + 1, k.Refuse⟩ other _ ⟨hs.m, hs.r⟩ rfl | exact hG | exact hG2 | skip)))))
        refine ar_keep 199 (by dsimp only [keepS] <;> exact rfl) ?_
        repeat' (refine ar_id ?_; first | refine st1 ?_ | (first | ((first | refine ar_draw (id := 4) (inps := [.elem (eEntry (k.Machine.Table.Entries.getD other.toNat ⟨0, 0⟩)), .elem (eEntry (k.Machine.Table.Entries.getD page.toNat ⟨0, 0⟩))]) tt_ok (by kernel_rfl) rfl rfl (by kernel_rfl) rfl rfl rfl rfl ?_ ?_ | refine ar_region tt_ok (inps := []) rfl ?_ ?_); rotate_left; (try refine nrm ?_); rotate_right) | refine ret3 ?_ | refine end3 ?_) | (refine ar_cond rfl trivial ?_ ?_ <;> intro hc_ <;> (try simp only [isNilI, inB, reduceCtorEq, cds] at hc_) <;> (try (first | contradiction | (exfalso; omega)))) | refine ar_until (And.intro ?_ (wk3 ?_)))
        all_goals (first | refine ar_id ?_ | (try (focus ((try refine nrmO ?_); (repeat' (first | exact True.intro | refine And.intro ?_ ?_)); all_goals (try (intro (hg_ : _ = true); (try simp only [isNilI, inB, reduceCtorEq, cds] at hg_); (repeat' (first | exact True.intro | refine And.intro ?_ ?_)))); all_goals (first | exact ob1 | skip)))))
        repeat' (refine ar_id ?_; first | refine st1 ?_ | (refine ar_steps (id := 5) tt_ok [.call (c_DropR ⟨setEntry k.Machine page.toNat ⟨2, (k.Machine.Table.Entries.getD other.toNat ⟨0, 0⟩).Frame⟩, k.Calls + 1, k.Refuse⟩ f n)] ?_; generalize hK_ : (fun t' m' u' => AR _ _ _ _ (St.mk t' m' u')) = K_; repeat' (first | (focus ((first | refine evk_call3 ?_ ?_ | refine evk_sure3 ?_ ?_ | refine evk_cons3 ?_ ?_); (try dsimp only [c_DropR]); (try refine nrm ?_); rotate_left)) | (refine evk_nil ?_; subst hK_; (try dsimp only [c_DropR]); (try refine nrm ?_)))) | (first | ((first | refine ar_region tt_ok (inps := []) rfl ?_ ?_); rotate_left; (try dsimp only [c_DropR]); (try refine nrm ?_); rotate_right) | refine ret3 ?_ | refine end3 ?_) | (refine ar_cond rfl trivial ?_ ?_ <;> intro hc_ <;> (try simp only [isNilI, inB, reduceCtorEq, cds] at hc_) <;> (try (first | contradiction | (exfalso; omega)))) | refine ar_until (And.intro ?_ (wk3 ?_)))
        all_goals (first | refine ar_id ?_ | (try (focus ((try refine nrmO ?_); (repeat' (first | exact True.intro | refine And.intro ?_ ?_)); all_goals (try (intro (hg_ : _ = true); (try simp only [isNilI, inB, reduceCtorEq, cds] at hg_); (repeat' (first | exact True.intro | refine And.intro ?_ ?_)))); all_goals (first | exact ob1 | exact fn_DropR ⟨setEntry k.Machine page.toNat ⟨2, (k.Machine.Table.Entries.getD other.toNat ⟨0, 0⟩).Frame⟩, k.Calls + 1, k.Refuse⟩ f n ⟨⟨hs.m.c, hs.m.u, hs.m.r, (by show (List.set _ _ _).length ≤ _; rw [List.length_set]; exact hs.m.e)⟩, hs.r⟩ hl1 hl2 hn | exact congrArg (Value.int .i64) hf | exact congrArg (Value.int .i64) hf.symm | exact hset | exact hset.symm | skip)))))
        all_goals first | rfl | (exfalso; grind)
      · have hV : pOn k page other = (⟨k.Machine, k.Calls + 1, k.Refuse⟩, false) := by unfold pOn; rw [if_neg (fun h => hQ h.2.2)]; rfl
        refine fn_intro tt_ok Tryz.func109 rfl Tryz.call109 Tryz.ntmps109 Tryz.results109 rfl rfl rfl rfl ?_
        intro X ρ0 hb_ hgl_
        dsimp only [c_On]
        try refine nrm ?_
        rw [hV]
        repeat' (refine ar_id ?_; first | refine st1 ?_ | (refine ar_steps (id := 1) tt_ok [.call (c_Call k), .sure (c_Mode ⟨k.Machine, k.Calls + 1, k.Refuse⟩ page (modeOf k page)), .sure (c_Mode ⟨k.Machine, k.Calls + 1, k.Refuse⟩ other (modeOf k other))] ?_; generalize hK_ : (fun t' m' u' => AR _ _ _ _ (St.mk t' m' u')) = K_; repeat' (first | (focus ((first | refine evk_call3 ?_ ?_ | refine evk_sure3 ?_ ?_ | refine evk_cons3 ?_ ?_); (try dsimp only [c_Call, c_Mode]); (try refine nrm ?_); rotate_left)) | (refine evk_nil ?_; subst hK_; (try dsimp only [c_Call, c_Mode]); (try refine nrm ?_)))) | (first | ((first | refine ar_region tt_ok (inps := []) rfl ?_ ?_); rotate_left; (try dsimp only [c_Call, c_Mode]); (try refine nrm ?_); rotate_right) | refine ret3 ?_ | refine end3 ?_) | (refine ar_cond rfl trivial ?_ ?_ <;> intro hc_ <;> (try simp only [isNilI, inB, reduceCtorEq, cds] at hc_) <;> (try (first | contradiction | (exfalso; omega) | (exfalso; grind)))) | refine ar_until (And.intro ?_ (wk3 ?_)))
        all_goals (first | refine ar_id ?_ | (try (focus ((try refine nrmO ?_); (repeat' (first | exact True.intro | refine And.intro ?_ ?_)); all_goals (try (intro (hg_ : _ = true); (try simp only [isNilI, inB, reduceCtorEq, cds] at hg_); (repeat' (first | exact True.intro | refine And.intro ?_ ?_)))); all_goals (first | exact ob1 | exact fn_Call _ hs h0 h1 | exact fn_Mode ⟨k.Machine, k.Calls + 1, k.Refuse⟩ page _ ⟨hs.m, hs.r⟩ rfl | exact fn_Mode ⟨k.Machine, k.Calls + 1, k.Refuse⟩ other _ ⟨hs.m, hs.r⟩ rfl | exact hG | exact hG2 | skip)))))
        all_goals first | rfl | (exfalso; grind)
  · have hG : (!(!decide (granted k))) = false := by rw [decide_eq_false hP]; rfl
    have hG2 : ∀ x, (!(bif !decide (granted k) then true else x)) = false := fun x => by rw [decide_eq_false hP]; rfl
    have hV : pOn k page other = (⟨k.Machine, k.Calls + 1, k.Refuse⟩, false) := by unfold pOn; rw [if_neg (fun h => hP h.1)]; rfl
    refine fn_intro tt_ok Tryz.func109 rfl Tryz.call109 Tryz.ntmps109 Tryz.results109 rfl rfl rfl rfl ?_
    intro X ρ0 hb_ hgl_
    dsimp only [c_On]
    try refine nrm ?_
    rw [hV]
    repeat' (refine ar_id ?_; first | refine st1 ?_ | (refine ar_steps (id := 1) tt_ok [.call (c_Call k), .skip (SV.one (.lit (.int .i64 (0)))), .skip (SV.one (.lit (.int .i64 (0))))] ?_; generalize hK_ : (fun t' m' u' => AR _ _ _ _ (St.mk t' m' u')) = K_; repeat' (first | (focus ((first | refine evk_call3 ?_ ?_ | refine evk_sure3 ?_ ?_ | refine evk_cons3 ?_ ?_); (try dsimp only [c_Call]); (try refine nrm ?_); rotate_left)) | (refine evk_nil ?_; subst hK_; (try dsimp only [c_Call]); (try refine nrm ?_)))) | (first | ((first | refine ar_region tt_ok (inps := []) rfl ?_ ?_); rotate_left; (try dsimp only [c_Call]); (try refine nrm ?_); rotate_right) | refine ret3 ?_ | refine end3 ?_) | (refine ar_cond rfl trivial ?_ ?_ <;> intro hc_ <;> (try simp only [isNilI, inB, reduceCtorEq, cds] at hc_) <;> (try (first | contradiction | (exfalso; omega) | (exfalso; grind)))) | refine ar_until (And.intro ?_ (wk3 ?_)))
    all_goals (first | refine ar_id ?_ | (try (focus ((try refine nrmO ?_); (repeat' (first | exact True.intro | refine And.intro ?_ ?_)); all_goals (try (intro (hg_ : _ = true); (try simp only [isNilI, inB, reduceCtorEq, cds] at hg_); (repeat' (first | exact True.intro | refine And.intro ?_ ?_)))); all_goals (first | exact ob1 | exact fn_Call _ hs h0 h1 | exact hG | exact hG.symm | exact hG2 _ | exact (hG2 _).symm | skip)))))
    all_goals first | rfl | (exfalso; grind)
end Eng
end Go.Proofs.YtabnglcabpijfaaGreatDoor
namespace Go.Proofs.YtabnglcabpijfaaGreatDoor
open Go.RowKit
set_option linter.unusedVariables false
set_option linter.unusedSimpArgs false
set_option maxRecDepth 100000
namespace Eng
open Tr
def c_StoreS (m : GMachine) (addr v : Int) (m' : GMachine) (x : Int) : CFD := ⟨83, [.agg [ro 33 1 eIntS m.Frames.Cells, ro 4 1 Tr.eB m.Frames.Used, ro 42 2 eEntry m.Table.Entries], (SV.one (.lit (.int .i64 (addr)))), (SV.one (.lit (.int .i64 (v))))], [], .tup [.agg [.hd 0, .hd 1, .hd 2], (SV.one (.lit (.int .i64 (x))))], [(0, some (.row 33 1 ((m').Frames.Cells.map eIntS))), (1, some (.row 4 1 ((m').Frames.Used.map Tr.eB))), (2, some (.row 42 2 ((m').Table.Entries.map eEntry)))], [0, 1, 2], []⟩
theorem fn_StoreS (m : GMachine) (addr v : Int) (m' : GMachine) (x : Int) (hs : szM7 m) (ha : addr ≤ 9223372036854775807) (hx : pStore m addr v = (m', x)) : Fn Tryz.prog (c_StoreS m addr v m' x) := by
  unfold pStore at hx
  by_cases hC : canLoad m addr
  · have hok : pMachineOk m = true := decide_eq_true hC.1
    have hne := hC.2
    rw [if_pos hC] at hx
    by_cases h1 : (pEntry m addr).1.Mode = 1
    · rw [if_pos h1] at hx
      obtain ⟨rfl, rfl⟩ := Prod.mk.inj hx
      refine fn_intro tt_ok Tryz.func83 rfl Tryz.call83 Tryz.ntmps83 Tryz.results83 rfl rfl rfl rfl ?_
      intro X ρ0 hb_ hgl_
      dsimp only [c_StoreS]
      try refine nrm ?_
      repeat' (refine ar_id ?_; first | refine st1 ?_ | (first | ((first | refine ar_region (id := 1) tt_ok (inps := [.call (c_Copy7 m)]) rfl ?_ ?_ | refine ar_region (id := 2) tt_ok (inps := [.call (c_EntR m addr 1 (pEntry m addr).1.Frame (pEntry m addr).2)]) rfl ?_ ?_ | refine ar_region (id := 3) tt_ok (inps := [.call (c_MOk m)]) rfl ?_ ?_ | refine ar_region tt_ok (inps := []) rfl ?_ ?_); rotate_left; (try dsimp only [c_Copy7, c_EntR, c_MOk]); (try refine nrm ?_); rotate_right) | refine ret3 ?_ | refine end3 ?_) | (refine ar_cond rfl trivial ?_ ?_ <;> intro hc_ <;> (try simp only [isNilI, inB, reduceCtorEq, cds] at hc_) <;> (try (first | contradiction | (exfalso; omega) | (exfalso; grind)))) | refine ar_until (And.intro ?_ (wk3 ?_)))
      all_goals (first | refine ar_id ?_ | (try (focus ((try refine nrmO ?_); (repeat' (first | exact True.intro | refine And.intro ?_ ?_)); all_goals (try (intro (hg_ : _ = true); (try simp only [isNilI, inB, reduceCtorEq, cds] at hg_); (repeat' (first | exact True.intro | refine And.intro ?_ ?_)))); all_goals (first | exact ob1 | exact fn_Copy7 m hs | exact fn_EntR m addr _ _ _ hs ha h1 rfl rfl | exact fn_MOk m hs | skip)))))
    · rw [if_neg h1] at hx
      obtain ⟨_, f, k, r, hf, hk, k1, k2, _, k3, k4⟩ := load_at hC
      by_cases hv : 0 ≤ v ∧ v ≤ 999
      · rw [if_pos hv] at hx
        obtain ⟨rfl, rfl⟩ := Prod.mk.inj hx
        have h2 : (pEntry m addr).1.Mode = 2 := by
          have he : (pEntry m addr).1 ∈ m.Table.Entries ∨ (pEntry m addr).1 = ⟨0, 0⟩ := by
            unfold pEntry pPageEntry
            split
            · exact .inr rfl
            · dsimp only
              split
              · left
                rw [List.getD_eq_getElem?_getD, List.getElem?_eq_getElem (by omega)]
                exact List.getElem_mem _
              · exact .inr rfl
          rcases he with he | he
          · have h2 := hC.1.2.1
            unfold pTableOk at h2
            rcases (of_decide_eq_true h2).1 _ he with ⟨h0, _⟩ | ⟨h0, _⟩
            · exact absurd h0 hne
            · rcases h0 with h0 | h0
              · exact absurd h0 h1
              · exact h0
          · rw [he] at hne; exact absurd rfl hne
        exact fn_Store7 m addr v hs ha hC h2 hv
      · rw [if_neg hv] at hx
        obtain ⟨rfl, rfl⟩ := Prod.mk.inj hx
        have hb : inB v 0 999 = false := by cases hb : inB v 0 999 with | false => rfl | true => exact absurd (inB_iff.1 hb) hv
        refine fn_intro tt_ok Tryz.func83 rfl Tryz.call83 Tryz.ntmps83 Tryz.results83 rfl rfl rfl rfl ?_
        intro X ρ0 hb_ hgl_
        dsimp only [c_StoreS]
        try refine nrm ?_
        repeat' (refine ar_id ?_; first | refine st1 ?_ | (first | ((first | refine ar_region (id := 1) tt_ok (inps := [.call (c_Copy7 m)]) rfl ?_ ?_ | refine ar_region (id := 2) tt_ok (inps := [.call (c_EntR m addr (pEntry m addr).1.Mode (pEntry m addr).1.Frame (pEntry m addr).2)]) rfl ?_ ?_ | refine ar_region (id := 3) tt_ok (inps := [.call (c_MOk m)]) rfl ?_ ?_ | refine ar_region (id := 7) tt_ok (inps := [.call (c_In v 0 999)]) rfl ?_ ?_ | refine ar_region tt_ok (inps := []) rfl ?_ ?_); rotate_left; (try dsimp only [c_Copy7, c_EntR, c_In, c_MOk]); (try refine nrm ?_); rotate_right) | refine ret3 ?_ | refine end3 ?_) | (refine ar_cond rfl trivial ?_ ?_ <;> intro hc_ <;> (try simp only [isNilI, inB, reduceCtorEq, cds] at hc_) <;> (try (first | contradiction | (exfalso; omega) | (exfalso; grind)))) | refine ar_until (And.intro ?_ (wk3 ?_)))
        all_goals (first | refine ar_id ?_ | (try (focus ((try refine nrmO ?_); (repeat' (first | exact True.intro | refine And.intro ?_ ?_)); all_goals (try (intro (hg_ : _ = true); (try simp only [isNilI, inB, reduceCtorEq, cds] at hg_); (repeat' (first | exact True.intro | refine And.intro ?_ ?_)))); all_goals (first | exact ob1 | exact fn_Copy7 m hs | exact fn_EntR m addr _ _ _ hs ha rfl rfl rfl | exact fn_MOk m hs | exact fn_In _ _ _ | skip)))))
  · rw [if_neg hC] at hx
    obtain ⟨rfl, rfl⟩ := Prod.mk.inj hx
    have hC' : ¬ (pMachineOk m = true ∧ (pEntry m addr).1.Mode ≠ 0) := fun hh => hC ⟨of_decide_eq_true hh.1, hh.2⟩
    refine fn_intro tt_ok Tryz.func83 rfl Tryz.call83 Tryz.ntmps83 Tryz.results83 rfl rfl rfl rfl ?_
    intro X ρ0 hb_ hgl_
    dsimp only [c_StoreS]
    try refine nrm ?_
    repeat' (refine ar_id ?_; first | refine st1 ?_ | (first | ((first | refine ar_region (id := 1) tt_ok (inps := [.call (c_Copy7 m)]) rfl ?_ ?_ | refine ar_region (id := 2) tt_ok (inps := [.call (c_EntR m addr (pEntry m addr).1.Mode (pEntry m addr).1.Frame (pEntry m addr).2)]) rfl ?_ ?_ | refine ar_region (id := 3) tt_ok (inps := [.call (c_MOk m)]) rfl ?_ ?_ | refine ar_region tt_ok (inps := []) rfl ?_ ?_); rotate_left; (try dsimp only [c_Copy7, c_EntR, c_MOk]); (try refine nrm ?_); rotate_right) | refine ret3 ?_ | refine end3 ?_) | (refine ar_cond rfl trivial ?_ ?_ <;> intro hc_ <;> (try simp only [isNilI, inB, reduceCtorEq, cds] at hc_) <;> (try (first | contradiction | (exfalso; omega) | (exfalso; exact hC' ⟨by grind, by grind⟩)))) | refine ar_until (And.intro ?_ (wk3 ?_)))
    all_goals (first | refine ar_id ?_ | (try (focus ((try refine nrmO ?_); (repeat' (first | exact True.intro | refine And.intro ?_ ?_)); all_goals (try (intro (hg_ : _ = true); (try simp only [isNilI, inB, reduceCtorEq, cds] at hg_); (repeat' (first | exact True.intro | refine And.intro ?_ ?_)))); all_goals (first | exact ob1 | exact fn_Copy7 m hs | exact fn_EntR m addr _ _ _ hs ha rfl rfl rfl | exact fn_MOk m hs | skip)))))
end Eng
end Go.Proofs.YtabnglcabpijfaaGreatDoor
namespace Go.Proofs.YtabnglcabpijfaaGreatDoor
open Go.RowKit
set_option linter.unusedVariables false
set_option linter.unusedSimpArgs false
set_option maxRecDepth 100000
namespace Eng
open Tr
/-- the kernel stays -/
def c_WStA (k : GKernel) (w w' : GWriter) : CFD := ⟨64, [.one (.box 900 0), .agg [(CV.lit (.int .i64 (w.Addr))), (CV.lit (.int .i64 (w.Value))), (CV.lit (.bool (w.Done))), (CV.lit (.int .i64 (w.Waits)))]], [(900, some (.box 35 [.hd 901, .hd 902, .hd 903, (CV.lit (.int .i64 (k.Calls))), .hd 904])), (901, some (.row 33 1 (k.Machine.Frames.Cells.map eIntS))), (902, some (.row 4 1 (k.Machine.Frames.Used.map Tr.eB))), (903, some (.row 42 2 (k.Machine.Table.Entries.map eEntry))), (904, some (.row 3 1 (k.Refuse.map Tr.eI)))], .sv (.agg [(CV.lit (.int .i64 ((w').Addr))), (CV.lit (.int .i64 ((w').Value))), (CV.lit (.bool ((w').Done))), (CV.lit (.int .i64 ((w').Waits)))]), [(900, some (.box 35 [.hd 901, .hd 902, .hd 903, (CV.lit (.int .i64 (k.Calls))), .hd 904])), (901, some (.row 33 1 (k.Machine.Frames.Cells.map eIntS))), (902, some (.row 4 1 (k.Machine.Frames.Used.map Tr.eB))), (903, some (.row 42 2 (k.Machine.Table.Entries.map eEntry))), (904, some (.row 3 1 (k.Refuse.map Tr.eI)))], [], []⟩
theorem fn_WStA (k : GKernel) (w w' : GWriter) (hs : szK8 k) (ha : w.Addr ≤ 9223372036854775807) (hn : w.Done = true ∨ (pStore k.Machine w.Addr w.Value).2 = 2) (h : stepW k w = (k, w')) : Fn Tryz.prog (c_WStA k w w') := by
  unfold stepW at h
  by_cases hd : w.Done = true
  · rw [if_pos hd] at h
    obtain ⟨_, rfl⟩ := Prod.mk.inj h
    refine fn_intro tt_ok Tryz.func64 rfl Tryz.call64 Tryz.ntmps64 Tryz.results64 rfl rfl rfl rfl ?_
    intro X ρ0 hb_ hgl_
    dsimp only [c_WStA]
    try refine nrm ?_
    repeat' (refine ar_id ?_; first | refine st1 ?_ | (first | ((first | refine ar_region tt_ok (inps := []) rfl ?_ ?_); rotate_left; (try refine nrm ?_); rotate_right) | refine ret3 ?_ | refine end3 ?_) | (refine ar_cond rfl trivial ?_ ?_ <;> intro hc_ <;> (try simp only [isNilI, inB, reduceCtorEq, cds] at hc_) <;> (try (first | contradiction | (exfalso; omega)))) | refine ar_until (And.intro ?_ (wk3 ?_)))
    all_goals (first | refine ar_id ?_ | (try (focus ((try refine nrmO ?_); (repeat' (first | exact True.intro | refine And.intro ?_ ?_)); all_goals (try (intro (hg_ : _ = true); (try simp only [isNilI, inB, reduceCtorEq, cds] at hg_); (repeat' (first | exact True.intro | refine And.intro ?_ ?_)))); all_goals (first | exact ob1 | skip)))))
    all_goals exact absurd (hd.symm.trans hc_) (by decide)
  · have hf := hn.resolve_left hd
    rw [if_neg hd, if_pos hf] at h
    obtain ⟨_, rfl⟩ := Prod.mk.inj h
    obtain ⟨⟨m1, c⟩, hst⟩ : ∃ r, pStore k.Machine w.Addr w.Value = r := ⟨_, rfl⟩
    rw [hst] at hf
    have hf : c = 2 := hf
    subst hf
    refine fn_intro tt_ok Tryz.func64 rfl Tryz.call64 Tryz.ntmps64 Tryz.results64 rfl rfl rfl rfl ?_
    intro X ρ0 hb_ hgl_
    dsimp only [c_WStA]
    try refine nrm ?_
    repeat' (refine ar_id ?_; first | refine st1 ?_ | (refine ar_run (id := 5) [] ?_; generalize hQ_ : kont _ _ _ _ = Q_; repeat' (first | (focus ((first | refine as_call3 tt_ok ?_ ?_ | refine as_sure3 tt_ok ?_ ?_ | refine as_wrap3 ?_ ?_ | refine as_cons3 tt_ok ?_ ?_); (try dsimp only [c_StoreS]); (try refine nrm ?_); rotate_left)) | (subst hQ_; refine as_nil ?_))) | (refine ar_drawS (id := 3) tt_ok (by kernel_rfl) [.call (c_StoreS k.Machine w.Addr w.Value m1 2)] ?_; refine ed_hide ?_; intro K_ hK_; repeat' (first | ((first | refine ed_call3 ?_ | refine ed_sure3 ?_ | refine ed_cons3 ?_); refine ed_hide ?_; intro K_ hK_; (try dsimp only [c_StoreS]); (try refine nrmE ?_)) | (refine ed_nil ?_; (repeat subst hK_); dsimp only; refine Exists.intro _ (And.intro rfl (And.intro (by kernel_rfl) (And.intro ?_ ?_))); rotate_left; (try dsimp only [c_StoreS]); (try refine nrm ?_); rotate_right))) | (first | ((first | refine ar_region tt_ok (inps := []) rfl ?_ ?_); rotate_left; (try dsimp only [c_StoreS]); (try refine nrm ?_); rotate_right) | refine ret3 ?_ | refine end3 ?_) | (refine ar_cond rfl trivial ?_ ?_ <;> intro hc_ <;> (try simp only [isNilI, inB, reduceCtorEq, cds] at hc_) <;> (try (first | contradiction | (exfalso; omega) | (exfalso; grind)))) | refine ar_until (And.intro ?_ (wk3 ?_)))
    all_goals (first | refine ar_id ?_ | (try (focus ((try refine nrmO ?_); (repeat' (first | exact True.intro | refine And.intro ?_ ?_)); all_goals (try (intro (hg_ : _ = true); (try simp only [isNilI, inB, reduceCtorEq, cds] at hg_); (repeat' (first | exact True.intro | refine And.intro ?_ ?_)))); all_goals (first | exact ob1 | exact fn_StoreS _ _ _ _ _ hs.m ha hst | skip)))))
    all_goals trace_state
/-- the write is made (or has no effect) -/
def c_WStB (k : GKernel) (w : GWriter) (k' : GKernel) (w' : GWriter) : CFD := ⟨64, [.one (.box 900 0), .agg [(CV.lit (.int .i64 (w.Addr))), (CV.lit (.int .i64 (w.Value))), (CV.lit (.bool (w.Done))), (CV.lit (.int .i64 (w.Waits)))]], [(900, some (.box 35 [.hd 901, .hd 902, .hd 903, (CV.lit (.int .i64 (k.Calls))), .hd 904])), (901, some (.row 33 1 (k.Machine.Frames.Cells.map eIntS))), (902, some (.row 4 1 (k.Machine.Frames.Used.map Tr.eB))), (903, some (.row 42 2 (k.Machine.Table.Entries.map eEntry))), (904, some (.row 3 1 (k.Refuse.map Tr.eI)))], .sv (.agg [(CV.lit (.int .i64 ((w').Addr))), (CV.lit (.int .i64 ((w').Value))), (CV.lit (.bool ((w').Done))), (CV.lit (.int .i64 ((w').Waits)))]), [(900, some (.box 35 [.hd 911, .hd 912, .hd 913, (CV.lit (.int .i64 (k'.Calls))), .hd 904])), (911, some (.row 33 1 ((k'.Machine).Frames.Cells.map eIntS))), (912, some (.row 4 1 ((k'.Machine).Frames.Used.map Tr.eB))), (913, some (.row 42 2 ((k'.Machine).Table.Entries.map eEntry))), (904, some (.row 3 1 (k'.Refuse.map Tr.eI)))], [911, 912, 913], []⟩
theorem fn_WStB (k : GKernel) (w : GWriter) (k' : GKernel) (w' : GWriter) (hs : szK8 k) (ha : w.Addr ≤ 9223372036854775807) (hd : ¬ w.Done = true) (hf : (pStore k.Machine w.Addr w.Value).2 ≠ 2) (h : stepW k w = (k', w')) : Fn Tryz.prog (c_WStB k w k' w') := by
  unfold stepW at h
  rw [if_neg hd, if_neg hf] at h
  obtain ⟨⟨m1, c⟩, hst⟩ : ∃ r, pStore k.Machine w.Addr w.Value = r := ⟨_, rfl⟩
  rw [hst] at h hf
  obtain ⟨rfl, rfl⟩ := Prod.mk.inj h
  have hf : c ≠ 2 := hf
  refine fn_intro tt_ok Tryz.func64 rfl Tryz.call64 Tryz.ntmps64 Tryz.results64 rfl rfl rfl rfl ?_
  intro X ρ0 hb_ hgl_
  dsimp only [c_WStB]
  try refine nrm ?_
  repeat' (refine ar_id ?_; first | refine st1 ?_ | (refine ar_drawS (id := 3) tt_ok (by kernel_rfl) [.call (c_StoreS k.Machine w.Addr w.Value m1 c)] ?_; refine ed_hide ?_; intro K_ hK_; repeat' (first | ((first | refine ed_call3 ?_ | refine ed_sure3 ?_ | refine ed_cons3 ?_); refine ed_hide ?_; intro K_ hK_; (try dsimp only [c_StoreS]); (try refine nrmE ?_)) | (refine ed_nil ?_; (repeat subst hK_); dsimp only; refine Exists.intro _ (And.intro rfl (And.intro (by kernel_rfl) (And.intro ?_ ?_))); rotate_left; (try dsimp only [c_StoreS]); (try refine nrm ?_); rotate_right))) | (first | ((first | refine ar_region tt_ok (inps := []) rfl ?_ ?_); rotate_left; (try dsimp only [c_StoreS]); (try refine nrm ?_); rotate_right) | refine ret3 ?_ | refine end3 ?_) | (refine ar_cond rfl trivial ?_ ?_ <;> intro hc_ <;> (try simp only [isNilI, inB, reduceCtorEq, cds] at hc_) <;> (try (first | contradiction | (exfalso; omega) | (exfalso; grind)))) | refine ar_until (And.intro ?_ (wk3 ?_)))
  all_goals (first | refine ar_id ?_ | (try (focus ((try refine nrmO ?_); (repeat' (first | exact True.intro | refine And.intro ?_ ?_)); all_goals (try (intro (hg_ : _ = true); (try simp only [isNilI, inB, reduceCtorEq, cds] at hg_); (repeat' (first | exact True.intro | refine And.intro ?_ ?_)))); all_goals (first | exact ob1 | exact fn_StoreS _ _ _ _ _ hs.m ha hst | skip)))))
  all_goals trace_state
end Eng
end Go.Proofs.YtabnglcabpijfaaGreatDoor
namespace Go.Proofs.YtabnglcabpijfaaGreatDoor
open Go.RowKit
set_option linter.unusedVariables false
set_option linter.unusedSimpArgs false
set_option maxRecDepth 100000
namespace Eng
open Tr
def c_ModeV (k : GKernel) (page v : Int) : CFD := ⟨106, [.one (.box 0 0), (SV.one (.lit (.int .i64 (page))))], [(0, some (.box 35 [ro 33 1 eIntS k.Machine.Frames.Cells, ro 4 1 Tr.eB k.Machine.Frames.Used, ro 42 2 eEntry k.Machine.Table.Entries, (CV.lit (.int .i64 (k.Calls))), ro 3 1 Tr.eI k.Refuse]))], (TV.sv (.one (.lit (.int .i64 (v))))), [(0, some (.box 35 [ro 33 1 eIntS k.Machine.Frames.Cells, ro 4 1 Tr.eB k.Machine.Frames.Used, ro 42 2 eEntry k.Machine.Table.Entries, (CV.lit (.int .i64 (k.Calls))), ro 3 1 Tr.eI k.Refuse]))], [], []⟩
theorem fn_ModeV (k : GKernel) (page v : Int) (hs : szK8 k) (hv : modeOf k page = v) : Fn Tryz.prog (c_ModeV k page v) := by
  refine fn_intro tt_ok Tryz.func106 rfl Tryz.call106 Tryz.ntmps106 Tryz.results106 rfl rfl rfl rfl ?_
  intro X ρ0 hb_ hgl_
  dsimp only [c_ModeV]
  try refine nrm ?_
  repeat' (refine ar_id ?_; first | refine st1 ?_ | (first | ((first | refine ar_region (id := 1) tt_ok (inps := [.call (c_PageEntry k.Machine.Table page)]) rfl ?_ ?_ | refine ar_region (id := 0) tt_ok (inps := [.call (c_PageEntry k.Machine.Table page)]) rfl ?_ ?_ | refine ar_region tt_ok (inps := []) rfl ?_ ?_); rotate_left; (try dsimp only [c_PageEntry]); (try refine nrm ?_); rotate_right) | refine ret3 ?_ | refine end3 ?_) | (refine ar_cond rfl trivial ?_ ?_ <;> intro hc_ <;> (try simp only [isNilI, inB, reduceCtorEq, cds] at hc_) <;> (try (first | contradiction | (exfalso; omega)))) | refine ar_until (And.intro ?_ (wk3 ?_)))
  all_goals (first | refine ar_id ?_ | (try (focus ((try refine nrmO ?_); (repeat' (first | exact True.intro | refine And.intro ?_ ?_)); all_goals (try (intro (hg_ : _ = true); (try simp only [isNilI, inB, reduceCtorEq, cds] at hg_); (repeat' (first | exact True.intro | refine And.intro ?_ ?_)))); all_goals (first | exact ob1 | exact fn_PageEntry _ _ hs.m.e | skip)))))
  exact congrArg _ hv
def c_MayS (k : GKernel) (j : GJob) : CFD := ⟨61, [.agg [ro 33 1 eIntS k.Machine.Frames.Cells, ro 4 1 Tr.eB k.Machine.Frames.Used, ro 42 2 eEntry k.Machine.Table.Entries, (CV.lit (.int .i64 (k.Calls))), ro 3 1 Tr.eI k.Refuse], .agg [(CV.lit (.int .i64 (j.Plan.Keep))), (CV.lit (.int .i64 (j.Plan.Move))), ro 3 1 Tr.eI j.Plan.Cells, (CV.lit (.int .i64 (j.Phase))), (CV.lit (.int .i64 (j.Next)))]], [], (TV.sv (.one (.lit (.bool (decide (mayJ k j)))))), [], [], []⟩
theorem fn_MayS (k : GKernel) (j : GJob) (hs : szK8 k) (hl : j.Plan.Cells.length ≤ 1048576) : Fn Tryz.prog (c_MayS k j) := by
  have hF := hs.m.e
  by_cases h1 : canCall k ∧ okJ j
  · have g1 : decide (canCall k) = true := decide_eq_true h1.1
    have g2 : pJobOk j = true := decide_eq_true h1.2
    have G1 : (bif !decide (canCall k) then true else !pJobOk j) = false := by rw [g1, g2]; rfl
    have F1 : (!(bif !decide (canCall k) then true else !pJobOk j)) = true := by rw [G1]; rfl
    by_cases h2 : modeOf k j.Plan.Keep = 0
    · have hV : decide (mayJ k j) = false := decide_eq_false fun h => h.2.2.1 h2
      have e2 : (modeOf k j.Plan.Keep == 0) = true := by rw [h2]; rfl
      have G2 : (bif (bif !decide (canCall k) then true else !pJobOk j) then true else modeOf k j.Plan.Keep == 0) = true := by rw [G1, e2]; rfl
      have F2 : (!(bif (bif !decide (canCall k) then true else !pJobOk j) then true else modeOf k j.Plan.Keep == 0)) = false := by rw [G2]; rfl
      refine fn_intro tt_ok Tryz.func61 rfl Tryz.call61 Tryz.ntmps61 Tryz.results61 rfl rfl rfl rfl ?_
      intro X ρ0 hb_ hgl_
      dsimp only [c_MayS]
      try refine nrm ?_
      rw [hV]
      repeat' (refine ar_id ?_; first | refine st1 ?_ | (refine ar_run (id := 1) [.call (c_May k), .call (c_JobOkS j), .sure (c_ModeV k j.Plan.Keep (modeOf k j.Plan.Keep)), .skip (SV.one (.lit (.int .i64 (0))))] ?_; generalize hQ_ : kont _ _ _ _ = Q_; repeat' (first | (focus ((first | refine as_call3 tt_ok ?_ ?_ | refine as_sure3 tt_ok ?_ ?_ | refine as_cons3 tt_ok ?_ ?_); (try dsimp only [c_JobOkS, c_May, c_ModeV]); (try refine nrm ?_); rotate_left)) | (subst hQ_; refine as_nil ?_))) | (first | ((first | refine ar_region tt_ok (inps := []) rfl ?_ ?_); rotate_left; (try dsimp only [c_JobOkS, c_May, c_ModeV]); (try refine nrm ?_); rotate_right) | refine ret3 ?_ | refine end3 ?_) | (refine ar_cond rfl trivial ?_ ?_ <;> intro hc_ <;> (try simp only [isNilI, inB, reduceCtorEq, cds] at hc_) <;> (try (first | contradiction | (exfalso; omega) | (exfalso; grind)))) | refine ar_until (And.intro ?_ (wk3 ?_)))
      all_goals (first | refine ar_id ?_ | (try (focus ((try refine nrmO ?_); (repeat' (first | exact True.intro | refine And.intro ?_ ?_)); all_goals (try (intro (hg_ : _ = true); (try simp only [isNilI, inB, reduceCtorEq, cds] at hg_); (repeat' (first | exact True.intro | refine And.intro ?_ ?_)))); all_goals (first | exact ob1 | exact fn_May k hs | exact fn_JobOkS j hl | exact fn_ModeV k _ _ hs rfl | exact F1 | exact F2 | exact F2.symm | skip)))))
    · have e2 : (modeOf k j.Plan.Keep == 0) = false := by simpa using h2
      have G2 : (bif (bif !decide (canCall k) then true else !pJobOk j) then true else modeOf k j.Plan.Keep == 0) = false := by rw [G1, e2]; rfl
      have F2 : (!(bif (bif !decide (canCall k) then true else !pJobOk j) then true else modeOf k j.Plan.Keep == 0)) = true := by rw [G2]; rfl
      refine fn_intro tt_ok Tryz.func61 rfl Tryz.call61 Tryz.ntmps61 Tryz.results61 rfl rfl rfl rfl ?_
      intro X ρ0 hb_ hgl_
      dsimp only [c_MayS]
      try refine nrm ?_
      repeat' (refine ar_id ?_; first | refine st1 ?_ | (refine ar_run (id := 1) [.call (c_May k), .call (c_JobOkS j), .sure (c_ModeV k j.Plan.Keep (modeOf k j.Plan.Keep)), .sure (c_ModeV k j.Plan.Move (modeOf k j.Plan.Move))] ?_; generalize hQ_ : kont _ _ _ _ = Q_; repeat' (first | (focus ((first | refine as_call3 tt_ok ?_ ?_ | refine as_sure3 tt_ok ?_ ?_ | refine as_cons3 tt_ok ?_ ?_); (try dsimp only [c_JobOkS, c_May, c_ModeV, c_PageEntry]); (try refine nrm ?_); rotate_left)) | (subst hQ_; refine as_nil ?_))) | (first | ((first | refine ar_draw (id := 3) (inps := [.call (c_PageEntry k.Machine.Table j.Plan.Keep), .call (c_PageEntry k.Machine.Table j.Plan.Move)]) tt_ok (by kernel_rfl) rfl rfl (by kernel_rfl) rfl rfl rfl rfl ?_ ?_ | refine ar_region tt_ok (inps := []) rfl ?_ ?_); rotate_left; (try dsimp only [c_JobOkS, c_May, c_ModeV, c_PageEntry]); (try refine nrm ?_); rotate_right) | refine ret3 ?_ | refine end3 ?_) | (refine ar_cond rfl trivial ?_ ?_ <;> intro hc_ <;> (try simp only [isNilI, inB, reduceCtorEq, cds] at hc_) <;> (try (first | contradiction | (exfalso; omega) | (exfalso; grind)))) | refine ar_until (And.intro ?_ (wk3 ?_)))
      all_goals (first | refine ar_id ?_ | (try (focus ((try refine nrmO ?_); (repeat' (first | exact True.intro | refine And.intro ?_ ?_)); all_goals (try (intro (hg_ : _ = true); (try simp only [isNilI, inB, reduceCtorEq, cds] at hg_); (repeat' (first | exact True.intro | refine And.intro ?_ ?_)))); all_goals (first | exact ob1 | exact fn_May k hs | exact fn_JobOkS j hl | exact fn_ModeV k _ _ hs rfl | exact F1 | exact F2 | exact fn_PageEntry _ _ hF | skip)))))
      · rw [decide_eq_false]
        rintro ⟨a1, a2, a3, a4, _⟩
        rcases hc_ with ((h | h) | h) | h
        · exact h a1
        · rw [g2] at h; cases h
        · exact a3 h
        · exact a4 h
      · refine congrArg Value.bool ?_
        rw [Bool.eq_iff_iff, bne_iff_ne, decide_eq_true_iff]
        exact ⟨fun h => ⟨hc_.1.1.1, h1.2, hc_.1.2, hc_.2, h⟩, fun h => h.2.2.2.2⟩
  · have G1 : (bif !decide (canCall k) then true else !pJobOk j) = true := by
      unfold pJobOk
      by_cases g1 : canCall k
      · rw [decide_eq_true g1, decide_eq_false (fun g2 => h1 ⟨g1, g2⟩)]; rfl
      · rw [decide_eq_false g1]; rfl
    have hV : decide (mayJ k j) = false := decide_eq_false fun h => h1 ⟨h.1, h.2.1⟩
    refine fn_intro tt_ok Tryz.func61 rfl Tryz.call61 Tryz.ntmps61 Tryz.results61 rfl rfl rfl rfl ?_
    intro X ρ0 hb_ hgl_
    dsimp only [c_MayS]
    try refine nrm ?_
    rw [hV]
    repeat' (refine ar_id ?_; first | refine st1 ?_ | (refine ar_run (id := 1) [.call (c_May k), .call (c_JobOkS j), .skip (SV.one (.lit (.int .i64 (0)))), .skip (SV.one (.lit (.int .i64 (0))))] ?_; generalize hQ_ : kont _ _ _ _ = Q_; repeat' (first | (focus ((first | refine as_call3 tt_ok ?_ ?_ | refine as_sure3 tt_ok ?_ ?_ | refine as_cons3 tt_ok ?_ ?_); (try dsimp only [c_JobOkS, c_May]); (try refine nrm ?_); rotate_left)) | (subst hQ_; refine as_nil ?_))) | (first | ((first | refine ar_region tt_ok (inps := []) rfl ?_ ?_); rotate_left; (try dsimp only [c_JobOkS, c_May]); (try refine nrm ?_); rotate_right) | refine ret3 ?_ | refine end3 ?_) | (refine ar_cond rfl trivial ?_ ?_ <;> intro hc_ <;> (try simp only [isNilI, inB, reduceCtorEq, cds] at hc_) <;> (try (first | contradiction | (exfalso; omega) | (exfalso; grind)))) | refine ar_until (And.intro ?_ (wk3 ?_)))
    all_goals (first | refine ar_id ?_ | (try (focus ((try refine nrmO ?_); (repeat' (first | exact True.intro | refine And.intro ?_ ?_)); all_goals (try (intro (hg_ : _ = true); (try simp only [isNilI, inB, reduceCtorEq, cds] at hg_); (repeat' (first | exact True.intro | refine And.intro ?_ ?_)))); all_goals (first | exact ob1 | exact fn_May k hs | exact fn_JobOkS j hl | exact (by rw [G1] <;> rfl) | skip)))))
end Eng
end Go.Proofs.YtabnglcabpijfaaGreatDoor
namespace Go.Proofs.YtabnglcabpijfaaGreatDoor
open Go.RowKit
set_option linter.unusedVariables false
set_option linter.unusedSimpArgs false
set_option maxRecDepth 100000
namespace Eng
open Tr
def c_ProtR (k : GKernel) (page mode : Int) (k' : GKernel) (b : Bool) : CFD := ⟨107, [.one (.box 0 0), (SV.one (.lit (.int .i64 (page)))), (SV.one (.lit (.int .i64 (mode))))], [(0, some (.box 35 [.hd 1, .hd 2, .hd 3, (CV.lit (.int .i64 (k.Calls))), .hd 4])), (1, some (.row 33 1 (k.Machine.Frames.Cells.map eIntS))), (2, some (.row 4 1 (k.Machine.Frames.Used.map Tr.eB))), (3, some (.row 42 2 (k.Machine.Table.Entries.map eEntry))), (4, some (.row 3 1 (k.Refuse.map Tr.eI)))], (TV.sv (.one (.lit (.bool (b))))), [(0, some (.box 35 [.hd 1, .hd 2, .hd 3, (CV.lit (.int .i64 ((k').Calls))), .hd 4])), (1, some (.row 33 1 ((k').Machine.Frames.Cells.map eIntS))), (2, some (.row 4 1 ((k').Machine.Frames.Used.map Tr.eB))), (3, some (.row 42 2 ((k').Machine.Table.Entries.map eEntry))), (4, some (.row 3 1 ((k').Refuse.map Tr.eI)))], [], []⟩
theorem fn_ProtR (k : GKernel) (page mode : Int) (k' : GKernel) (b : Bool) (hs : szK8 k) (h0 : 0 ≤ k.Calls) (h1 : k.Calls < 100000) (h : pProtect k page mode = (k', b)) : Fn Tryz.prog (c_ProtR k page mode k' b) := by
  have h' := fn_Protect k page mode hs h0 h1
  unfold c_Protect at h'
  rw [h] at h'
  exact h'
def c_OnR (k : GKernel) (page other : Int) (k' : GKernel) (b : Bool) : CFD := ⟨109, [.one (.box 0 0), (SV.one (.lit (.int .i64 (page)))), (SV.one (.lit (.int .i64 (other))))], [(0, some (.box 35 [.hd 1, .hd 2, .hd 3, (CV.lit (.int .i64 (k.Calls))), .hd 4])), (1, some (.row 33 1 (k.Machine.Frames.Cells.map eIntS))), (2, some (.row 4 1 (k.Machine.Frames.Used.map Tr.eB))), (3, some (.row 42 2 (k.Machine.Table.Entries.map eEntry))), (4, some (.row 3 1 (k.Refuse.map Tr.eI)))], (TV.sv (.one (.lit (.bool (b))))), [(0, some (.box 35 [.hd 1, .hd 2, .hd 3, (CV.lit (.int .i64 ((k').Calls))), .hd 4])), (1, some (.row 33 1 ((k').Machine.Frames.Cells.map eIntS))), (2, some (.row 4 1 ((k').Machine.Frames.Used.map Tr.eB))), (3, some (.row 42 2 ((k').Machine.Table.Entries.map eEntry))), (4, some (.row 3 1 ((k').Refuse.map Tr.eI)))], [], []⟩
theorem fn_OnR (k : GKernel) (page other : Int) (k' : GKernel) (b : Bool) (hs : szK8 k) (hok : okM k.Machine) (h0 : 0 ≤ k.Calls) (h1 : k.Calls < 100000) (h : pOn k page other = (k', b)) : Fn Tryz.prog (c_OnR k page other k' b) := by
  have h' := fn_On k page other hs hok h0 h1
  unfold c_On at h'
  rw [h] at h'
  exact h'
def c_CellsR (k : GKernel) (a b : Int) (cells : List Int) (k' : GKernel) (r : Bool) : CFD := ⟨108, [.one (.box 0 0), (SV.one (.lit (.int .i64 (a)))), (SV.one (.lit (.int .i64 (b)))), .one (ro 3 1 Tr.eI cells)], [(0, some (.box 35 [.hd 1, .hd 2, .hd 3, (CV.lit (.int .i64 (k.Calls))), .hd 4])), (1, some (.row 33 1 (k.Machine.Frames.Cells.map eIntS))), (2, some (.row 4 1 (k.Machine.Frames.Used.map Tr.eB))), (3, some (.row 42 2 (k.Machine.Table.Entries.map eEntry))), (4, some (.row 3 1 (k.Refuse.map Tr.eI)))], (TV.sv (.one (.lit (.bool (r))))), [(0, some (.box 35 [.hd 1, .hd 2, .hd 3, (CV.lit (.int .i64 ((k').Calls))), .hd 4])), (1, some (.row 33 1 ((k').Machine.Frames.Cells.map eIntS))), (2, some (.row 4 1 ((k').Machine.Frames.Used.map Tr.eB))), (3, some (.row 42 2 ((k').Machine.Table.Entries.map eEntry))), (4, some (.row 3 1 ((k').Refuse.map Tr.eI)))], [], []⟩
theorem fn_CellsR (k : GKernel) (a b : Int) (cells : List Int) (k' : GKernel) (r : Bool) (hs : szK8 k) (hok : okM k.Machine) (hl : cells.length ≤ 1048576) (h : pCells k a b cells = (k', r)) : Fn Tryz.prog (c_CellsR k a b cells k' r) := by
  have h' := fn_Cells k a b cells hs hok hl
  unfold c_Cells at h'
  rw [h] at h'
  exact h'
def c_BackA (k : GKernel) (j : GJob) (k' : GKernel) (j' : GJob) : CFD := ⟨110, [.one (.box 900 0), .one (.box 905 0)], [(900, some (.box 35 [.hd 901, .hd 902, .hd 903, (CV.lit (.int .i64 (k.Calls))), .hd 904])), (901, some (.row 33 1 (k.Machine.Frames.Cells.map eIntS))), (902, some (.row 4 1 (k.Machine.Frames.Used.map Tr.eB))), (903, some (.row 42 2 (k.Machine.Table.Entries.map eEntry))), (904, some (.row 3 1 (k.Refuse.map Tr.eI))), (905, some (.box 48 [(CV.lit (.int .i64 (j.Plan.Keep))), (CV.lit (.int .i64 (j.Plan.Move))), .hd 906, (CV.lit (.int .i64 (j.Phase))), (CV.lit (.int .i64 (j.Next)))])), (906, some (.row 3 1 (j.Plan.Cells.map Tr.eI)))], .tup [], [(900, some (.box 35 [.hd 901, .hd 902, .hd 903, (CV.lit (.int .i64 ((k').Calls))), .hd 904])), (901, some (.row 33 1 ((k').Machine.Frames.Cells.map eIntS))), (902, some (.row 4 1 ((k').Machine.Frames.Used.map Tr.eB))), (903, some (.row 42 2 ((k').Machine.Table.Entries.map eEntry))), (904, some (.row 3 1 ((k').Refuse.map Tr.eI))), (905, some (.box 48 [(CV.lit (.int .i64 ((j').Plan.Keep))), (CV.lit (.int .i64 ((j').Plan.Move))), .hd 906, (CV.lit (.int .i64 ((j').Phase))), (CV.lit (.int .i64 ((j').Next)))])), (906, some (.row 3 1 ((j').Plan.Cells.map Tr.eI)))], [], []⟩
theorem fn_BackA (k : GKernel) (j : GJob) (k' : GKernel) (j' : GJob) (hs : szK8 k) (h0 : 0 ≤ k.Calls) (h1 : k.Calls < 100000) (hn : ¬ 0 < j.Next) (hk : ((pProtect k j.Plan.Move 2).1, (⟨j.Plan, if (pProtect k j.Plan.Move 2).2 = true then 5 else j.Phase, j.Next⟩ : GJob)) = (k', j')) : Fn Tryz.prog (c_BackA k j k' j') := by
  obtain ⟨r, hr⟩ : ∃ r, pProtect k j.Plan.Move 2 = r := ⟨_, rfl⟩
  obtain ⟨k1, b⟩ := r
  rw [hr] at hk
  obtain ⟨rfl, rfl⟩ := Prod.mk.inj hk
  cases b with
  | true =>
    refine fn_intro tt_ok Tryz.func110 rfl Tryz.call110 Tryz.ntmps110 Tryz.results110 rfl rfl rfl rfl ?_
    intro X ρ0 hb_ hgl_
    dsimp only [c_BackA]
    try refine nrm ?_
    repeat' (refine ar_id ?_; first | refine st1 ?_ | (refine ar_run (id := 4) [.call (c_ProtR k j.Plan.Move 2 k1 true)] ?_; generalize hQ_ : kont _ _ _ _ = Q_; repeat' (first | (focus ((first | refine as_call3 tt_ok ?_ ?_ | refine as_sure3 tt_ok ?_ ?_ | refine as_cons3 tt_ok ?_ ?_); (try dsimp only [c_ProtR]); (try refine nrm ?_); rotate_left)) | (subst hQ_; refine as_nil ?_))) | (first | ((first | refine ar_region tt_ok (inps := []) rfl ?_ ?_); rotate_left; (try dsimp only [c_ProtR]); (try refine nrm ?_); rotate_right) | refine ret3 ?_ | refine end3 ?_) | (refine ar_cond rfl trivial ?_ ?_ <;> intro hc_ <;> (try simp only [isNilI, inB, reduceCtorEq, cds] at hc_) <;> (try (first | contradiction | (exfalso; omega)))) | refine ar_until (And.intro ?_ (wk3 ?_)))
    all_goals (first | refine ar_id ?_ | (try (focus ((try refine nrmO ?_); (repeat' (first | exact True.intro | refine And.intro ?_ ?_)); all_goals (try (intro (hg_ : _ = true); (try simp only [isNilI, inB, reduceCtorEq, cds] at hg_); (repeat' (first | exact True.intro | refine And.intro ?_ ?_)))); all_goals (first | exact ob1 | exact fn_ProtR _ _ _ _ _ hs h0 h1 hr | skip)))))
    all_goals first | rfl | trace_state
  | false =>
    refine fn_intro tt_ok Tryz.func110 rfl Tryz.call110 Tryz.ntmps110 Tryz.results110 rfl rfl rfl rfl ?_
    intro X ρ0 hb_ hgl_
    dsimp only [c_BackA]
    try refine nrm ?_
    repeat' (refine ar_id ?_; first | refine st1 ?_ | (refine ar_run (id := 4) [.call (c_ProtR k j.Plan.Move 2 k1 false)] ?_; generalize hQ_ : kont _ _ _ _ = Q_; repeat' (first | (focus ((first | refine as_call3 tt_ok ?_ ?_ | refine as_sure3 tt_ok ?_ ?_ | refine as_cons3 tt_ok ?_ ?_); (try dsimp only [c_ProtR]); (try refine nrm ?_); rotate_left)) | (subst hQ_; refine as_nil ?_))) | (first | ((first | refine ar_region tt_ok (inps := []) rfl ?_ ?_); rotate_left; (try dsimp only [c_ProtR]); (try refine nrm ?_); rotate_right) | refine ret3 ?_ | refine end3 ?_) | (refine ar_cond rfl trivial ?_ ?_ <;> intro hc_ <;> (try simp only [isNilI, inB, reduceCtorEq, cds] at hc_) <;> (try (first | contradiction | (exfalso; omega)))) | refine ar_until (And.intro ?_ (wk3 ?_)))
    all_goals (first | refine ar_id ?_ | (try (focus ((try refine nrmO ?_); (repeat' (first | exact True.intro | refine And.intro ?_ ?_)); all_goals (try (intro (hg_ : _ = true); (try simp only [isNilI, inB, reduceCtorEq, cds] at hg_); (repeat' (first | exact True.intro | refine And.intro ?_ ?_)))); all_goals (first | exact ob1 | exact fn_ProtR _ _ _ _ _ hs h0 h1 hr | skip)))))
    all_goals first | rfl | trace_state
def c_BackB (k : GKernel) (j : GJob) (k' : GKernel) (j' : GJob) : CFD := ⟨110, [.one (.box 900 0), .one (.box 905 0)], [(900, some (.box 35 [.hd 901, .hd 902, .hd 903, (CV.lit (.int .i64 (k.Calls))), .hd 904])), (901, some (.row 33 1 (k.Machine.Frames.Cells.map eIntS))), (902, some (.row 4 1 (k.Machine.Frames.Used.map Tr.eB))), (903, some (.row 42 2 (k.Machine.Table.Entries.map eEntry))), (904, some (.row 3 1 (k.Refuse.map Tr.eI))), (905, some (.box 48 [(CV.lit (.int .i64 (j.Plan.Keep))), (CV.lit (.int .i64 (j.Plan.Move))), .hd 906, (CV.lit (.int .i64 (j.Phase))), (CV.lit (.int .i64 (j.Next)))])), (906, some (.row 3 1 (j.Plan.Cells.map Tr.eI)))], .tup [], [(900, some (.box 35 [.hd 911, .hd 912, .hd 913, (CV.lit (.int .i64 (k'.Calls))), .hd 904])), (911, some (.row 33 1 ((k'.Machine).Frames.Cells.map eIntS))), (912, some (.row 4 1 ((k'.Machine).Frames.Used.map Tr.eB))), (913, some (.row 42 2 ((k'.Machine).Table.Entries.map eEntry))), (904, some (.row 3 1 (k'.Refuse.map Tr.eI))), (905, some (.box 48 [(CV.lit (.int .i64 ((j').Plan.Keep))), (CV.lit (.int .i64 ((j').Plan.Move))), .hd 906, (CV.lit (.int .i64 ((j').Phase))), (CV.lit (.int .i64 ((j').Next)))])), (906, some (.row 3 1 ((j').Plan.Cells.map Tr.eI)))], [911, 912, 913], []⟩
theorem fn_BackB (k : GKernel) (j : GJob) (k' : GKernel) (j' : GJob) (hs : szK8 k) (hl : j.Plan.Cells.length ≤ 1048576) (hj : okJ j) (hn : 0 < j.Next) (hk : ((⟨(pStore k.Machine (j.Plan.Keep * 16 + cellJ j (j.Next - 1)) 0).1, k.Calls, k.Refuse⟩ : GKernel), (⟨j.Plan, j.Phase, j.Next - 1⟩ : GJob)) = (k', j')) : Fn Tryz.prog (c_BackB k j k' j') := by
  obtain ⟨hp, hph, hn0, hn1⟩ := hj
  obtain ⟨r, hr⟩ : ∃ r, pStore k.Machine (j.Plan.Keep * 16 + cellJ j (j.Next - 1)) 0 = r := ⟨_, rfl⟩
  obtain ⟨m1, x⟩ := r
  rw [hr] at hk
  obtain ⟨rfl, rfl⟩ := Prod.mk.inj hk
  have hlt : (j.Next - 1).toNat < j.Plan.Cells.length := by omega
  have hc := asc_at hp.2.2.2 hlt
  have hel : (j.Plan.Cells.map Tr.eI)[(j.Next - 1).toNat]? = some (Tr.eI (cellJ j (j.Next - 1))) := map_at hlt
  unfold cellJ at hr hel
  generalize j.Plan.Cells.getD (j.Next - 1).toNat 0 = c at hr hel hc
  have hkp := hp.2.1
  refine fn_intro tt_ok Tryz.func110 rfl Tryz.call110 Tryz.ntmps110 Tryz.results110 rfl rfl rfl rfl ?_
  intro X ρ0 hb_ hgl_
  dsimp only [c_BackB]
  try refine nrm ?_
  repeat' (refine ar_id ?_; first | refine st1 ?_ | (refine ar_drawS (id := 2) tt_ok (by kernel_rfl) [.elem (Tr.eI c), .call (c_StoreS k.Machine (j.Plan.Keep * 16 + c) 0 m1 x)] ?_; refine ed_hide ?_; intro K_ hK_; repeat' (first | ((first | refine ed_call3 ?_ | refine ed_sure3 ?_ | refine ed_cons3 ?_); refine ed_hide ?_; intro K_ hK_; (try dsimp only [c_StoreS]); (try refine nrmE ?_)) | (refine ed_nil ?_; (repeat subst hK_); dsimp only; refine Exists.intro _ (And.intro rfl (And.intro (by kernel_rfl) (And.intro ?_ ?_))); rotate_left; (try dsimp only [c_StoreS]); (try refine nrm ?_); rotate_right))) | (first | ((first | refine ar_region tt_ok (inps := []) rfl ?_ ?_); rotate_left; (try dsimp only [c_StoreS]); (try refine nrm ?_); rotate_right) | refine ret3 ?_ | refine end3 ?_) | (refine ar_cond rfl trivial ?_ ?_ <;> intro hc_ <;> (try simp only [isNilI, inB, reduceCtorEq, cds] at hc_) <;> (try (first | contradiction | (exfalso; omega)))) | refine ar_until (And.intro ?_ (wk3 ?_)))
  all_goals (first | refine ar_id ?_ | (try (focus ((try refine nrmO ?_); (repeat' (first | exact True.intro | refine And.intro ?_ ?_)); all_goals (try (intro (hg_ : _ = true); (try simp only [isNilI, inB, reduceCtorEq, cds] at hg_); (repeat' (first | exact True.intro | refine And.intro ?_ ?_)))); all_goals (first | exact ob1 | exact fn_StoreS _ _ _ _ _ hs.m (by omega) hr | exact hel | skip)))))
  all_goals first | rfl | trace_state
def c_StepA (k : GKernel) (j : GJob) (k' : GKernel) (j' : GJob) : CFD := ⟨62, [.one (.box 900 0), .one (.box 905 0)], [(900, some (.box 35 [.hd 901, .hd 902, .hd 903, (CV.lit (.int .i64 (k.Calls))), .hd 904])), (901, some (.row 33 1 (k.Machine.Frames.Cells.map eIntS))), (902, some (.row 4 1 (k.Machine.Frames.Used.map Tr.eB))), (903, some (.row 42 2 (k.Machine.Table.Entries.map eEntry))), (904, some (.row 3 1 (k.Refuse.map Tr.eI))), (905, some (.box 48 [(CV.lit (.int .i64 (j.Plan.Keep))), (CV.lit (.int .i64 (j.Plan.Move))), .hd 906, (CV.lit (.int .i64 (j.Phase))), (CV.lit (.int .i64 (j.Next)))])), (906, some (.row 3 1 (j.Plan.Cells.map Tr.eI)))], .tup [], [(900, some (.box 35 [.hd 901, .hd 902, .hd 903, (CV.lit (.int .i64 ((k').Calls))), .hd 904])), (901, some (.row 33 1 ((k').Machine.Frames.Cells.map eIntS))), (902, some (.row 4 1 ((k').Machine.Frames.Used.map Tr.eB))), (903, some (.row 42 2 ((k').Machine.Table.Entries.map eEntry))), (904, some (.row 3 1 ((k').Refuse.map Tr.eI))), (905, some (.box 48 [(CV.lit (.int .i64 ((j').Plan.Keep))), (CV.lit (.int .i64 ((j').Plan.Move))), .hd 906, (CV.lit (.int .i64 ((j').Phase))), (CV.lit (.int .i64 ((j').Next)))])), (906, some (.row 3 1 ((j').Plan.Cells.map Tr.eI)))], [], []⟩
set_option maxHeartbeats 8000000 in
theorem fn_StepA (k : GKernel) (j : GJob) (k' : GKernel) (j' : GJob) (hs : szK8 k) (hl : j.Plan.Cells.length ≤ 1048576) (hm : mayJ k j) (hn : ¬ (j.Phase = 3 ∧ 0 < j.Next)) (h : stepJ k j = (k', j')) : Fn Tryz.prog (c_StepA k j k' j') := by
  obtain ⟨⟨hK, hc1⟩, hj, _⟩ := hm
  have hc0 := hK.2.1.1
  obtain ⟨hp, hph, hn0, hn1⟩ := hj
  have hok := hK.1
  unfold stepJ at h
  by_cases p0 : j.Phase = 0
  · rw [if_pos p0] at h
    obtain ⟨r, hr⟩ : ∃ r, pProtect k j.Plan.Move 1 = r := ⟨_, rfl⟩
    obtain ⟨k1, b⟩ := r
    rw [hr] at h
    obtain ⟨rfl, rfl⟩ := Prod.mk.inj h
    cases b with
    | true =>
      refine fn_intro tt_ok Tryz.func62 rfl Tryz.call62 Tryz.ntmps62 Tryz.results62 rfl rfl rfl rfl ?_
      intro X ρ0 hb_ hgl_
      dsimp only [c_StepA]
      try refine nrm ?_
      repeat' (refine ar_id ?_; first | refine st1 ?_ | (refine ar_run (id := 4) [.call (c_ProtR k j.Plan.Move 1 k1 true)] ?_; generalize hQ_ : kont _ _ _ _ = Q_; repeat' (first | (focus ((first | refine as_call3 tt_ok ?_ ?_ | refine as_sure3 tt_ok ?_ ?_ | refine as_cons3 tt_ok ?_ ?_); (try dsimp only [c_ProtR]); (try refine nrm ?_); rotate_left)) | (subst hQ_; refine as_nil ?_))) | (first | ((first | refine ar_region tt_ok (inps := []) rfl ?_ ?_); rotate_left; (try dsimp only [c_ProtR]); (try refine nrm ?_); rotate_right) | refine ret3 ?_ | refine end3 ?_) | (refine ar_cond rfl trivial ?_ ?_ <;> intro hc_ <;> (try simp only [isNilI, inB, reduceCtorEq, cds] at hc_) <;> (try (first | contradiction | (exfalso; omega)))) | refine ar_until (And.intro ?_ (wk3 ?_)))
      all_goals (first | refine ar_id ?_ | (try (focus ((try refine nrmO ?_); (repeat' (first | exact True.intro | refine And.intro ?_ ?_)); all_goals (try (intro (hg_ : _ = true); (try simp only [isNilI, inB, reduceCtorEq, cds] at hg_); (repeat' (first | exact True.intro | refine And.intro ?_ ?_)))); all_goals (first | exact ob1 | exact fn_ProtR _ _ _ _ _ hs hc0 hc1 hr | skip)))))
      all_goals first | rfl | trace_state
    | false =>
      refine fn_intro tt_ok Tryz.func62 rfl Tryz.call62 Tryz.ntmps62 Tryz.results62 rfl rfl rfl rfl ?_
      intro X ρ0 hb_ hgl_
      dsimp only [c_StepA]
      try refine nrm ?_
      repeat' (refine ar_id ?_; first | refine st1 ?_ | (refine ar_run (id := 4) [.call (c_ProtR k j.Plan.Move 1 k1 false)] ?_; generalize hQ_ : kont _ _ _ _ = Q_; repeat' (first | (focus ((first | refine as_call3 tt_ok ?_ ?_ | refine as_sure3 tt_ok ?_ ?_ | refine as_cons3 tt_ok ?_ ?_); (try dsimp only [c_ProtR]); (try refine nrm ?_); rotate_left)) | (subst hQ_; refine as_nil ?_))) | (first | ((first | refine ar_region tt_ok (inps := []) rfl ?_ ?_); rotate_left; (try dsimp only [c_ProtR]); (try refine nrm ?_); rotate_right) | refine ret3 ?_ | refine end3 ?_) | (refine ar_cond rfl trivial ?_ ?_ <;> intro hc_ <;> (try simp only [isNilI, inB, reduceCtorEq, cds] at hc_) <;> (try (first | contradiction | (exfalso; omega)))) | refine ar_until (And.intro ?_ (wk3 ?_)))
      all_goals (first | refine ar_id ?_ | (try (focus ((try refine nrmO ?_); (repeat' (first | exact True.intro | refine And.intro ?_ ?_)); all_goals (try (intro (hg_ : _ = true); (try simp only [isNilI, inB, reduceCtorEq, cds] at hg_); (repeat' (first | exact True.intro | refine And.intro ?_ ?_)))); all_goals (first | exact ob1 | exact fn_ProtR _ _ _ _ _ hs hc0 hc1 hr | skip)))))
      all_goals first | rfl | trace_state
  rw [if_neg p0] at h
  by_cases p1 : j.Phase = 1
  · rw [if_pos p1] at h
    by_cases hl2 : j.Next = (j.Plan.Cells.length : Int)
    · rw [if_pos hl2] at h
      obtain ⟨rfl, rfl⟩ := Prod.mk.inj h
      refine fn_intro tt_ok Tryz.func62 rfl Tryz.call62 Tryz.ntmps62 Tryz.results62 rfl rfl rfl rfl ?_
      intro X ρ0 hb_ hgl_
      dsimp only [c_StepA]
      try refine nrm ?_
      repeat' (refine ar_id ?_; first | refine st1 ?_ | (refine ar_drawS (id := 7) tt_ok (by kernel_rfl) [] ?_; refine ed_hide ?_; intro K_ hK_; repeat' (first | ((first | refine ed_call3 ?_ | refine ed_sure3 ?_ | refine ed_cons3 ?_); refine ed_hide ?_; intro K_ hK_; (try refine nrmE ?_)) | (refine ed_nil ?_; (repeat subst hK_); dsimp only; refine Exists.intro _ (And.intro rfl (And.intro (by kernel_rfl) (And.intro ?_ ?_))); rotate_left; (try refine nrm ?_); rotate_right))) | (first | ((first | refine ar_region tt_ok (inps := []) rfl ?_ ?_); rotate_left; (try refine nrm ?_); rotate_right) | refine ret3 ?_ | refine end3 ?_) | (refine ar_cond rfl trivial ?_ ?_ <;> intro hc_ <;> (try simp only [isNilI, inB, reduceCtorEq, cds] at hc_) <;> (try (first | contradiction | (exfalso; omega) | (exfalso; (rw [List.length_map] at hc_; omega))))) | refine ar_until (And.intro ?_ (wk3 ?_)))
      all_goals (first | refine ar_id ?_ | (try (focus ((try refine nrmO ?_); (repeat' (first | exact True.intro | refine And.intro ?_ ?_)); all_goals (try (intro (hg_ : _ = true); (try simp only [isNilI, inB, reduceCtorEq, cds] at hg_); (repeat' (first | exact True.intro | refine And.intro ?_ ?_)))); all_goals (first | exact ob1 | exact rfl | skip)))))
      all_goals first | rfl | trace_state
    · rw [if_neg hl2] at h
      obtain ⟨r, hr⟩ : ∃ r, pCells k j.Plan.Move j.Plan.Keep [cellJ j j.Next] = r := ⟨_, rfl⟩
      obtain ⟨k1, b⟩ := r
      rw [hr] at h
      obtain ⟨rfl, rfl⟩ := Prod.mk.inj h
      have hel : (j.Plan.Cells.map Tr.eI)[j.Next.toNat]? = some (Tr.eI (cellJ j j.Next)) := map_at (by omega)
      refine fn_intro tt_ok Tryz.func62 rfl Tryz.call62 Tryz.ntmps62 Tryz.results62 rfl rfl rfl rfl ?_
      intro X ρ0 hb_ hgl_
      dsimp only [c_StepA]
      try refine nrm ?_
      repeat' (refine ar_id ?_; first | refine st1 ?_ | (refine ar_drawS (id := 7) tt_ok (by kernel_rfl) [] ?_; refine ed_hide ?_; intro K_ hK_; repeat' (first | ((first | refine ed_call3 ?_ | refine ed_sure3 ?_ | refine ed_cons3 ?_); refine ed_hide ?_; intro K_ hK_; (try dsimp only [c_CellsR]); (try refine nrmE ?_)) | (refine ed_nil ?_; (repeat subst hK_); dsimp only; refine Exists.intro _ (And.intro rfl (And.intro (by kernel_rfl) (And.intro ?_ ?_))); rotate_left; (try dsimp only [c_CellsR]); (try refine nrm ?_); rotate_right))) | (refine ar_drawS (id := 9) tt_ok (by kernel_rfl) [.elem (Tr.eI (cellJ j j.Next)), .call (c_CellsR k j.Plan.Move j.Plan.Keep [cellJ j j.Next] k1 b)] ?_; refine ed_hide ?_; intro K_ hK_; repeat' (first | ((first | refine ed_call3 ?_ | refine ed_sure3 ?_ | refine ed_cons3 ?_); refine ed_hide ?_; intro K_ hK_; (try dsimp only [c_CellsR]); (try refine nrmE ?_)) | (refine ed_nil ?_; (repeat subst hK_); dsimp only; refine Exists.intro _ (And.intro rfl (And.intro (by kernel_rfl) (And.intro ?_ ?_))); rotate_left; (try dsimp only [c_CellsR]); (try refine nrm ?_); rotate_right))) | (first | ((first | refine ar_region tt_ok (inps := []) rfl ?_ ?_); rotate_left; (try dsimp only [c_CellsR]); (try refine nrm ?_); rotate_right) | refine ret3 ?_ | refine end3 ?_) | (refine ar_cond rfl trivial ?_ ?_ <;> intro hc_ <;> (try simp only [isNilI, inB, reduceCtorEq, cds] at hc_) <;> (try (first | contradiction | (exfalso; omega) | (exfalso; (rw [List.length_map] at hc_; omega))))) | refine ar_until (And.intro ?_ (wk3 ?_)))
      all_goals (first | refine ar_id ?_ | (try (focus ((try refine nrmO ?_); (repeat' (first | exact True.intro | refine And.intro ?_ ?_)); all_goals (try (intro (hg_ : _ = true); (try simp only [isNilI, inB, reduceCtorEq, cds] at hg_); (repeat' (first | exact True.intro | refine And.intro ?_ ?_)))); all_goals (first | exact ob1 | exact fn_CellsR _ _ _ _ _ _ hs hok (by decide) hr | exact hel | skip)))))
      all_goals first | rfl | exact fn_CellsR k j.Plan.Move j.Plan.Keep [cellJ j j.Next] k1 b hs hok (by simp) hr
  rw [if_neg p1] at h
  by_cases p2 : j.Phase = 2
  · rw [if_pos p2] at h
    obtain ⟨r, hr⟩ : ∃ r, pOn k j.Plan.Move j.Plan.Keep = r := ⟨_, rfl⟩
    obtain ⟨k1, b⟩ := r
    rw [hr] at h
    obtain ⟨rfl, rfl⟩ := Prod.mk.inj h
    cases b with
    | true =>
      refine fn_intro tt_ok Tryz.func62 rfl Tryz.call62 Tryz.ntmps62 Tryz.results62 rfl rfl rfl rfl ?_
      intro X ρ0 hb_ hgl_
      dsimp only [c_StepA]
      try refine nrm ?_
      repeat' (refine ar_id ?_; first | refine st1 ?_ | (refine ar_run (id := 13) [.call (c_OnR k j.Plan.Move j.Plan.Keep k1 true)] ?_; generalize hQ_ : kont _ _ _ _ = Q_; repeat' (first | (focus ((first | refine as_call3 tt_ok ?_ ?_ | refine as_sure3 tt_ok ?_ ?_ | refine as_cons3 tt_ok ?_ ?_); (try dsimp only [c_OnR]); (try refine nrm ?_); rotate_left)) | (subst hQ_; refine as_nil ?_))) | (first | ((first | refine ar_region tt_ok (inps := []) rfl ?_ ?_); rotate_left; (try dsimp only [c_OnR]); (try refine nrm ?_); rotate_right) | refine ret3 ?_ | refine end3 ?_) | (refine ar_cond rfl trivial ?_ ?_ <;> intro hc_ <;> (try simp only [isNilI, inB, reduceCtorEq, cds] at hc_) <;> (try (first | contradiction | (exfalso; omega)))) | refine ar_until (And.intro ?_ (wk3 ?_)))
      all_goals (first | refine ar_id ?_ | (try (focus ((try refine nrmO ?_); (repeat' (first | exact True.intro | refine And.intro ?_ ?_)); all_goals (try (intro (hg_ : _ = true); (try simp only [isNilI, inB, reduceCtorEq, cds] at hg_); (repeat' (first | exact True.intro | refine And.intro ?_ ?_)))); all_goals (first | exact ob1 | exact fn_OnR _ _ _ _ _ hs hok hc0 hc1 hr | skip)))))
      all_goals first | rfl | trace_state
    | false =>
      refine fn_intro tt_ok Tryz.func62 rfl Tryz.call62 Tryz.ntmps62 Tryz.results62 rfl rfl rfl rfl ?_
      intro X ρ0 hb_ hgl_
      dsimp only [c_StepA]
      try refine nrm ?_
      repeat' (refine ar_id ?_; first | refine st1 ?_ | (refine ar_run (id := 13) [.call (c_OnR k j.Plan.Move j.Plan.Keep k1 false)] ?_; generalize hQ_ : kont _ _ _ _ = Q_; repeat' (first | (focus ((first | refine as_call3 tt_ok ?_ ?_ | refine as_sure3 tt_ok ?_ ?_ | refine as_cons3 tt_ok ?_ ?_); (try dsimp only [c_OnR]); (try refine nrm ?_); rotate_left)) | (subst hQ_; refine as_nil ?_))) | (first | ((first | refine ar_region tt_ok (inps := []) rfl ?_ ?_); rotate_left; (try dsimp only [c_OnR]); (try refine nrm ?_); rotate_right) | refine ret3 ?_ | refine end3 ?_) | (refine ar_cond rfl trivial ?_ ?_ <;> intro hc_ <;> (try simp only [isNilI, inB, reduceCtorEq, cds] at hc_) <;> (try (first | contradiction | (exfalso; omega)))) | refine ar_until (And.intro ?_ (wk3 ?_)))
      all_goals (first | refine ar_id ?_ | (try (focus ((try refine nrmO ?_); (repeat' (first | exact True.intro | refine And.intro ?_ ?_)); all_goals (try (intro (hg_ : _ = true); (try simp only [isNilI, inB, reduceCtorEq, cds] at hg_); (repeat' (first | exact True.intro | refine And.intro ?_ ?_)))); all_goals (first | exact ob1 | exact fn_OnR _ _ _ _ _ hs hok hc0 hc1 hr | skip)))))
      all_goals first | rfl | trace_state
  rw [if_neg p2] at h
  by_cases p3 : j.Phase = 3
  · rw [if_pos p3, if_neg (fun hh => hn ⟨p3, hh⟩)] at h
    refine fn_intro tt_ok Tryz.func62 rfl Tryz.call62 Tryz.ntmps62 Tryz.results62 rfl rfl rfl rfl ?_
    intro X ρ0 hb_ hgl_
    dsimp only [c_StepA]
    try refine nrm ?_
    repeat' (refine ar_id ?_; first | refine st1 ?_ | (refine ar_run (id := 16) [.call (c_BackA k j k' j')] ?_; generalize hQ_ : kont _ _ _ _ = Q_; repeat' (first | (focus ((first | refine as_call3 tt_ok ?_ ?_ | refine as_sure3 tt_ok ?_ ?_ | refine as_cons3 tt_ok ?_ ?_); (try dsimp only [c_BackA]); (try refine nrm ?_); rotate_left)) | (subst hQ_; refine as_nil ?_))) | (first | ((first | refine ar_region tt_ok (inps := []) rfl ?_ ?_); rotate_left; (try dsimp only [c_BackA]); (try refine nrm ?_); rotate_right) | refine ret3 ?_ | refine end3 ?_) | (refine ar_cond rfl trivial ?_ ?_ <;> intro hc_ <;> (try simp only [isNilI, inB, reduceCtorEq, cds] at hc_) <;> (try (first | contradiction | (exfalso; omega)))) | refine ar_until (And.intro ?_ (wk3 ?_)))
    all_goals (first | refine ar_id ?_ | (try (focus ((try refine nrmO ?_); (repeat' (first | exact True.intro | refine And.intro ?_ ?_)); all_goals (try (intro (hg_ : _ = true); (try simp only [isNilI, inB, reduceCtorEq, cds] at hg_); (repeat' (first | exact True.intro | refine And.intro ?_ ?_)))); all_goals (first | exact ob1 | exact fn_BackA _ _ _ _ hs hc0 hc1 (fun hh => hn ⟨p3, hh⟩) h | skip)))))
    all_goals first | rfl | trace_state
  · rw [if_neg p3] at h
    obtain ⟨rfl, rfl⟩ := Prod.mk.inj h
    refine fn_intro tt_ok Tryz.func62 rfl Tryz.call62 Tryz.ntmps62 Tryz.results62 rfl rfl rfl rfl ?_
    intro X ρ0 hb_ hgl_
    dsimp only [c_StepA]
    try refine nrm ?_
    repeat' (refine ar_id ?_; first | refine st1 ?_ | (first | ((first | refine ar_region tt_ok (inps := []) rfl ?_ ?_); rotate_left; (try refine nrm ?_); rotate_right) | refine ret3 ?_ | refine end3 ?_) | (refine ar_cond rfl trivial ?_ ?_ <;> intro hc_ <;> (try simp only [isNilI, inB, reduceCtorEq, cds] at hc_) <;> (try (first | contradiction | (exfalso; omega)))) | refine ar_until (And.intro ?_ (wk3 ?_)))
    all_goals (first | refine ar_id ?_ | (try (focus ((try refine nrmO ?_); (repeat' (first | exact True.intro | refine And.intro ?_ ?_)); all_goals (try (intro (hg_ : _ = true); (try simp only [isNilI, inB, reduceCtorEq, cds] at hg_); (repeat' (first | exact True.intro | refine And.intro ?_ ?_)))); all_goals (first | exact ob1 | skip)))))
    all_goals first | rfl | trace_state
def c_StepB (k : GKernel) (j : GJob) (k' : GKernel) (j' : GJob) : CFD := ⟨62, [.one (.box 900 0), .one (.box 905 0)], [(900, some (.box 35 [.hd 901, .hd 902, .hd 903, (CV.lit (.int .i64 (k.Calls))), .hd 904])), (901, some (.row 33 1 (k.Machine.Frames.Cells.map eIntS))), (902, some (.row 4 1 (k.Machine.Frames.Used.map Tr.eB))), (903, some (.row 42 2 (k.Machine.Table.Entries.map eEntry))), (904, some (.row 3 1 (k.Refuse.map Tr.eI))), (905, some (.box 48 [(CV.lit (.int .i64 (j.Plan.Keep))), (CV.lit (.int .i64 (j.Plan.Move))), .hd 906, (CV.lit (.int .i64 (j.Phase))), (CV.lit (.int .i64 (j.Next)))])), (906, some (.row 3 1 (j.Plan.Cells.map Tr.eI)))], .tup [], [(900, some (.box 35 [.hd 911, .hd 912, .hd 913, (CV.lit (.int .i64 (k'.Calls))), .hd 904])), (911, some (.row 33 1 ((k'.Machine).Frames.Cells.map eIntS))), (912, some (.row 4 1 ((k'.Machine).Frames.Used.map Tr.eB))), (913, some (.row 42 2 ((k'.Machine).Table.Entries.map eEntry))), (904, some (.row 3 1 (k'.Refuse.map Tr.eI))), (905, some (.box 48 [(CV.lit (.int .i64 ((j').Plan.Keep))), (CV.lit (.int .i64 ((j').Plan.Move))), .hd 906, (CV.lit (.int .i64 ((j').Phase))), (CV.lit (.int .i64 ((j').Next)))])), (906, some (.row 3 1 ((j').Plan.Cells.map Tr.eI)))], [911, 912, 913], []⟩
theorem fn_StepB (k : GKernel) (j : GJob) (k' : GKernel) (j' : GJob) (hs : szK8 k) (hl : j.Plan.Cells.length ≤ 1048576) (hm : mayJ k j) (hn : j.Phase = 3 ∧ 0 < j.Next) (h : stepJ k j = (k', j')) : Fn Tryz.prog (c_StepB k j k' j') := by
  obtain ⟨_, hj, _⟩ := hm
  obtain ⟨p3, hn⟩ := hn
  unfold stepJ at h
  rw [if_neg (by omega), if_neg (by omega), if_neg (by omega), if_pos p3, if_pos hn] at h
  refine fn_intro tt_ok Tryz.func62 rfl Tryz.call62 Tryz.ntmps62 Tryz.results62 rfl rfl rfl rfl ?_
  intro X ρ0 hb_ hgl_
  dsimp only [c_StepB]
  try refine nrm ?_
  repeat' (refine ar_id ?_; first | refine st1 ?_ | (refine ar_run (id := 16) [.call (c_BackB k j k' j')] ?_; generalize hQ_ : kont _ _ _ _ = Q_; repeat' (first | (focus ((first | refine as_call3 tt_ok ?_ ?_ | refine as_sure3 tt_ok ?_ ?_ | refine as_cons3 tt_ok ?_ ?_); (try dsimp only [c_BackB]); (try refine nrm ?_); rotate_left)) | (subst hQ_; refine as_nil ?_))) | (first | ((first | refine ar_region tt_ok (inps := []) rfl ?_ ?_); rotate_left; (try dsimp only [c_BackB]); (try refine nrm ?_); rotate_right) | refine ret3 ?_ | refine end3 ?_) | (refine ar_cond rfl trivial ?_ ?_ <;> intro hc_ <;> (try simp only [isNilI, inB, reduceCtorEq, cds] at hc_) <;> (try (first | contradiction | (exfalso; omega)))) | refine ar_until (And.intro ?_ (wk3 ?_)))
  all_goals (first | refine ar_id ?_ | (try (focus ((try refine nrmO ?_); (repeat' (first | exact True.intro | refine And.intro ?_ ?_)); all_goals (try (intro (hg_ : _ = true); (try simp only [isNilI, inB, reduceCtorEq, cds] at hg_); (repeat' (first | exact True.intro | refine And.intro ?_ ?_)))); all_goals (first | exact ob1 | exact fn_BackB _ _ _ _ hs hl hj hn h | skip)))))
  all_goals first | rfl | trace_state
end Eng
end Go.Proofs.YtabnglcabpijfaaGreatDoor
namespace Go.Proofs.YtabnglcabpijfaaGreatDoor
open Go.RowKit
set_option linter.unusedVariables false
set_option linter.unusedSimpArgs false
namespace Eng
open Tr
theorem szK8_same {k k' : GKernel} (hs : szK8 k) (h : sameSz k.Machine k'.Machine) (hr : k'.Refuse = k.Refuse) : szK8 k' :=
  ⟨⟨by rw [h.c]; exact hs.m.c, by rw [h.u]; exact hs.m.u, h.r 1048576 (by decide) hs.m.r, by rw [h.e]; exact hs.m.e⟩, by rw [hr]; exact hs.r⟩
end Eng
end Go.Proofs.YtabnglcabpijfaaGreatDoor

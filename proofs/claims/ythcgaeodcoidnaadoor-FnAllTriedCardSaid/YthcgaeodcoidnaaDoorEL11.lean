/- Searching pairs: the laws over drawn lists, by the symbolic run. -/
import Derived.Test.YthcgaeodcoidnaaDoorEI11
import Derived.Test.YthcgaeodcoidnaaDoorEI11c
import Derived.Test.YthcgaeodcoidnaaDoorEDr10b
import Derived.Test.YthcgaeodcoidnaaDoorELa
namespace Go.Proofs.YthcgaeodcoidnaaDoor
open Go.RowKit
set_option linter.unusedVariables false
set_option linter.unusedSimpArgs false
set_option maxRecDepth 100000
namespace Tr
theorem cnt_pos {l : List GSpan} {i : Nat} : ∀ {k : Nat}, 0 < cntTo l i k ↔ ∃ j, j < k ∧ meshAt l j i = true
  | 0 => ⟨fun h => (nomatch h), fun ⟨_, h, _⟩ => by omega⟩
  | k + 1 => by
    have ih := cnt_pos (l := l) (i := i) (k := k)
    show 0 < cntTo l i k + (if meshAt l k i = true then 1 else 0) ↔ _
    constructor
    · intro h
      by_cases hm : meshAt l k i = true
      · exact ⟨k, by omega, hm⟩
      · rw [if_neg hm] at h
        obtain ⟨j, h1, h2⟩ := ih.1 (by omega)
        exact ⟨j, by omega, h2⟩
    · rintro ⟨j, h1, h2⟩
      by_cases e : j = k
      · rw [if_pos (e ▸ h2)]; omega
      · have := ih.2 ⟨j, by omega, h2⟩
        omega
theorem edg_pos {l : List GSpan} : ∀ {n : Nat}, 0 < edgTo l n ↔ ∃ j i, j < i ∧ i < n ∧ meshAt l j i = true
  | 0 => ⟨fun h => (nomatch h), fun ⟨_, _, _, h, _⟩ => by omega⟩
  | n + 1 => by
    have ih := edg_pos (l := l) (n := n)
    have ic := cnt_pos (l := l) (i := n) (k := n)
    show 0 < edgTo l n + cntTo l n n ↔ _
    constructor
    · intro h
      by_cases hc : 0 < cntTo l n n
      · obtain ⟨j, h1, h2⟩ := ic.1 hc
        exact ⟨j, n, h1, by omega, h2⟩
      · obtain ⟨j, i, h1, h2, h3⟩ := ih.1 (by omega)
        exact ⟨j, i, h1, by omega, h3⟩
    · rintro ⟨j, i, h1, h2, h3⟩
      by_cases e : i = n
      · subst e
        have := ic.2 ⟨j, h1, h3⟩
        omega
      · have := ih.2 ⟨j, i, h1, by omega, h3⟩
        omega
/-- a pair is found if and only if two spans are meshable -/
theorem edges_best (l : List GSpan) : 0 < edgTo l l.length ↔ 0 < most pMesh l := by
  have h1 := run_le l (allP l)
  have h2 := greedy_half l
  have h3 := run_any l (allP l)
  constructor
  · intro h
    obtain ⟨j, i, a1, a2, a3⟩ := edg_pos.1 h
    have := h3.2 ⟨⟨(j : Int), (i : Int)⟩, mem_gTo (by omega) a1 a2, inN_of ⟨by show (j : Int) ≠ i; omega, by show (0 : Int) ≤ j; omega, by show (0 : Int) ≤ i; omega, by show (j : Int) < _; omega, by show (i : Int) < _; omega⟩, a3⟩
    omega
  · intro h
    obtain ⟨p, a1, a2, a3⟩ := h3.1 (by omega)
    obtain ⟨b1, b2, b3, b4, b5⟩ := inN_at a2
    rcases Nat.lt_or_ge p.A.toNat p.B.toNat with e | e
    · exact edg_pos.2 ⟨_, _, e, by omega, a3⟩
    · exact edg_pos.2 ⟨p.B.toNat, p.A.toNat, by omega, by omega, (mesh_comm _ _).trans a3⟩
end Tr
namespace Eng
open Tr
theorem pl_at (bs : List Int) {i : Nat} (h : i < 12) : ((places bs).map Tr.eI)[i]? = some (Tr.eI (plV bs i)) := by
  unfold places
  rw [List.getElem?_map, List.getElem?_map, List.getElem?_range h]
  rfl
def c_Pairs (t : Tb) (bs : List Int) : CFD := ⟨3, [.one (ro 5 1 eU bs)], [], (TV.sv (.one (.lit (.bool (true))))), [], [], t.both⟩
theorem fn_Pairs (t : Tb) (bs : List Int) (hb : ∀ x ∈ bs, 0 ≤ x ∧ x ≤ 255) : Fn Tryd.prog (c_Pairs t bs) := by
  by_cases hl : (1048576 : Int) < (bs.length : Int)
  · have hd := decide_eq_true hl
    refine fn_intro tt_ok Tryd.func3 rfl Tryd.call3 Tryd.ntmps3 Tryd.results3 rfl rfl rfl rfl ?_
    intro X ρ0 hb_ hgl_
    dsimp only [c_Pairs, rnCap, capSVs, Int.toNat_natCast, ro, Nat.reduceAdd, Nat.reduceMul, Nat.zero_add, List.map, putT, app, wrapG, gOb, argT, keys, slotOf, dropped, gAnd, wB, rnT, rnS, rnC, rnCs, rnSs, rnM, rnB, rnN, rn, lk, St.over, ded, delL, keepT, menT, menSs, menS, menCs, menC, hasN, resT, SV.cells]
    repeat' (refine ar_id ?_; first | refine ar_seq ?_ | refine ar_block ?_ | refine ar_blk ?_ | refine ar_skip ?_ | refine ar_label ?_ | refine ar_exit rfl ?_ | refine ar_scope ?_ | refine ar_scp ?_ | (first | ((first | refine ar_region (id := 1) tt_ok (inps := [.call (c_big bs)]) rfl ?_ ?_ | refine ar_region tt_ok (inps := []) rfl ?_ ?_); rotate_left; (try dsimp only [rnCap, capSVs, Int.toNat_natCast, ro, Nat.reduceAdd, Nat.reduceMul, Nat.zero_add, List.map, putT, app, wrapG, gOb, argT, keys, slotOf, dropped, gAnd, wB, rnT, rnS, rnC, rnCs, rnSs, rnM, rnB, rnN, rn, lk, St.over, ded, delL, keepT, menT, menSs, menS, menCs, menC, hasN, resT, SV.cells, c_big, mpM, mpTL, mpT, mpSs, mpS, mpCs, mpC, mpN]); rotate_right) | ((first | refine ar_ret ?_ | refine ar_end ?_); refine fin_auto2 rfl (by dsimp only [mpCap, Nat.reduceAdd, Nat.reduceMul, Nat.zero_add, List.map, mpM, mpTL, mpT, mpSs, mpS, mpCs, mpC, mpN, lk, idN, keys, resT, ro] <;> exact rfl) (by dsimp only [xCap, okCap, rnCap, Nat.reduceAdd, Nat.reduceMul, Nat.zero_add, List.map, wkOb, finOb, xTL, xM, xT, xSs, xS, xCs, xC, xB, okTL, okML, okT, okSs, okS, okCs, okC, okB, nodupN, rnN, allIn, fixed, rn, lk, hasN, app, SV.cells, ro, keys, resT] <;> exact rfl) ?_)) | (refine ar_cond rfl trivial ?_ ?_ <;> intro hc_ <;> (try simp only [isNilI, inB, reduceCtorEq, cds] at hc_) <;> (try (first | contradiction | (exfalso; omega)))) | refine ar_until (And.intro ?_ (wk_auto2 (by dsimp only [mpCap, Nat.reduceAdd, Nat.reduceMul, Nat.zero_add, List.map, mpM, mpTL, mpT, mpSs, mpS, mpCs, mpC, mpN, lk, idN, keys, resT, ro] <;> exact rfl) (by dsimp only [xCap, okCap, rnCap, Nat.reduceAdd, Nat.reduceMul, Nat.zero_add, List.map, wkOb, finOb, xTL, xM, xT, xSs, xS, xCs, xC, xB, okTL, okML, okT, okSs, okS, okCs, okC, okB, nodupN, rnN, allIn, fixed, rn, lk, hasN, app, SV.cells, ro, keys, resT] <;> exact rfl) ?_)))
    all_goals (first | refine ar_id ?_ | (try (focus ((try dsimp only [okX, GlAll, app, gOb, All, gAnd, wB, rnT, rnS, rnC, rnCs, rnSs, rnB, rn, lk, obD]); (repeat' (first | exact True.intro | refine And.intro ?_ ?_)); all_goals (try (intro (hg_ : _ = true); (try simp only [isNilI, inB, reduceCtorEq, cds] at hg_); (repeat' (first | exact True.intro | refine And.intro ?_ ?_)))); all_goals (first | first | with_reducible rfl | omega | exact Nat.le_refl _ | exact congrArg (Value.int .i64) (by omega) | (simp only [List.length_map]; first | done | omega) | (simp only [lns]; omega) | exact i64_ok (by omega) (by omega) | exact elem_map (fun _ => rfl) (by assumption) | exact elem_map (fun _ => rfl) (getD_at (by omega)) | exact elem_map' (fun _ => rfl) (by omega) | exact map_at (by omega) | exact set_at (by simp only [lns]; omega) | (rw [List.length_replicate, Int.toNat_natCast] at *; omega) | assumption | decide | exact fn_big bs | skip)))))
  · have hl' : bs.length ≤ 2097152 := by omega
    have h8 := (dList_facts (bs := bs) (c := dNew bs) 8 (by decide) (dNew_ok hl' hb)).2.1
    have hd := fn_DrawSps bs _ hl' hb rfl
    have hpl := fn_Places bs hl' hb
    have hpa := pl_at bs (i := 0) (by decide)
    have hpb := pl_at bs (i := 1) (by decide)
    have hp0 := plV_lt bs 0
    have hp1 := plV_lt bs 1
    have hlp : ((places bs).map Tr.eI).length = 12 := by unfold places; simp
    generalize (dList bs (dNew bs) 8).1 = l at h8 hd
    have hq : 0 ≤ (plV bs 1).tmod 5 ∧ (plV bs 1).tmod 5 ≤ 16 := by rw [Int.tmod_eq_emod_of_nonneg hp1.1]; omega
    have hok : splitOk l.length (plV bs 0) ((plV bs 1).tmod 5) := ⟨by omega, hq, by omega, by omega⟩
    have hA : pSplit l (plV bs 0) ((plV bs 1).tmod 5) = _ := if_pos hok
    have hG : pGreedy l = (runP l (allP l)).2 := if_pos (by omega)
    have f1 : pPairsOk l (pSplit l (plV bs 0) ((plV bs 1).tmod 5)) = true := by rw [hA]; exact taken_ok _ _
    have f2 : pPairsOk l (pGreedy l) = true := by rw [hG]; exact taken_ok _ _
    have hB : pBest l = ((most pMesh l : Nat) : Int) := if_pos (by omega)
    have g1 := ok_le f1
    have g2 := ok_le f2
    have g3 : most pMesh l ≤ 2 * (pGreedy l).length := by rw [hG]; exact greedy_half l
    have g4 := edges_best l
    have g5 := most_le pMesh l
    have hE : pMeshEdges l = ((edgTo l l.length : Nat) : Int) := rfl
    have f6 : (decide (pMeshEdges l > 0) == decide (pBest l > 0)) = true := by
      rw [beq_iff_eq, hE, hB]
      exact decide_eq_decide.2 (by omega)
    have f7 : 2 ≤ l.length → (pSplitS l (plV bs 0) ((plV bs 1).tmod 5) != plV bs 0) = true := fun h => by
      rw [bne_iff_ne]
      have : pSplitS l (plV bs 0) ((plV bs 1).tmod 5) = Sd.outS (plV bs 0) l.length := if_pos hok
      rw [this, (outL_yes (by omega) ⟨hp0.1, by omega⟩).2]
      exact Sd.shufS_ne _ _ h (by omega) ⟨hp0.1, by omega⟩
    generalize hAA : pSplit l (plV bs 0) ((plV bs 1).tmod 5) = A at *
    have hM1 : Fn Tryd.prog ⟨12, [.one (ro 38 3 eSpan l), (SV.one (.lit (.int .i64 (plV bs 0)))), (SV.one (.lit (.int .i64 ((plV bs 1).tmod 5))))], [], .tup [.one (.hd 0), (SV.one (.lit (.int .i64 (pSplitS l (plV bs 0) ((plV bs 1).tmod 5)))))], [(0, some (.row 60 2 (A.map ePair)))], [0], t.both⟩ := hAA ▸ fn_SplitI t l _ _ (by omega)
    have hM2 : Fn Tryd.prog (c_GreedyI t l) := fn_GreedyI t l (by omega)
    have hM3 : Fn Tryd.prog (c_BestI t l) := fn_BestI t l (by omega)
    have hM4 : Fn Tryd.prog (c_MeshEdgesI t l) := fn_MeshEdgesI t l (by omega)
    have hM5 : Fn Tryd.prog (c_PairsOkI t l A) := fn_PairsOkI t l _ (by omega) (by omega)
    have hM6 : Fn Tryd.prog (c_PairsOkI t l (pGreedy l)) := fn_PairsOkI t l _ (by omega) (by omega)
    refine fn_intro tt_ok Tryd.func3 rfl Tryd.call3 Tryd.ntmps3 Tryd.results3 rfl rfl rfl rfl ?_
    intro X ρ0 hb_ hgl_
    dsimp only [c_Pairs, rnCap, capSVs, Int.toNat_natCast, ro, Nat.reduceAdd, Nat.reduceMul, Nat.zero_add, List.map, putT, app, wrapG, gOb, argT, keys, slotOf, dropped, gAnd, wB, rnT, rnS, rnC, rnCs, rnSs, rnM, rnB, rnN, rn, lk, St.over, ded, delL, keepT, menT, menSs, menS, menCs, menC, hasN, resT, SV.cells]
    repeat' (refine ar_id ?_; first | refine ar_seq ?_ | refine ar_block ?_ | refine ar_blk ?_ | refine ar_skip ?_ | refine ar_label ?_ | refine ar_exit rfl ?_ | refine ar_scope ?_ | refine ar_scp ?_ | (refine ar_drawS (id := 5) tt_ok (by kernel_rfl) [.elem (Tr.eI (plV bs 0)), .elem (Tr.eI (plV bs 1)), .call ⟨12, [.one (ro 38 3 eSpan l), (SV.one (.lit (.int .i64 (plV bs 0)))), (SV.one (.lit (.int .i64 ((plV bs 1).tmod 5))))], [], .tup [.one (.hd 0), (SV.one (.lit (.int .i64 (pSplitS l (plV bs 0) ((plV bs 1).tmod 5)))))], [(0, some (.row 60 2 (A.map ePair)))], [0], t.both⟩] ?_; refine ed_hide ?_; intro K_ hK_; repeat' (first | ((first | refine ed_call (by dsimp only [selT, selM, hasN, app, slotsOf, guardS, nth, opS, opsS, partsS] <;> exact rfl) (by dsimp only [selT, selM, hasN, app, slotsOf, guardS, nth, opS, opsS, partsS] <;> exact rfl) rfl rfl rfl rfl rfl rfl (by dsimp only [mpCap, Nat.reduceAdd, Nat.reduceMul, Nat.zero_add, List.map, mpM, mpTL, mpT, mpSs, mpS, mpCs, mpC, mpN, lk, idN, keys, resT, ro] <;> exact rfl) rfl (by dsimp only [selT, selM, hasN, app, slotsOf, guardS, nth, opS, opsS, partsS, mpCap, Nat.reduceAdd, Nat.reduceMul, Nat.zero_add, List.map, mpM, mpTL, mpT, mpSs, mpS, mpCs, mpC, mpN, lk, idN, keys, resT, ro, rnN, rn, SV.cells, slotOf] <;> exact rfl) rfl (by dsimp only [mpCap, Nat.reduceAdd, Nat.reduceMul, Nat.zero_add, List.map, mpM, mpTL, mpT, mpSs, mpS, mpCs, mpC, mpN, lk, idN, keys, resT, ro] <;> exact rfl) rfl rfl rfl rfl ?_ | refine ed_sure (by dsimp only [selT, selM, hasN, app, slotsOf, guardS, nth, opS, opsS, partsS] <;> exact rfl) (by dsimp only [selT, selM, hasN, app, slotsOf, guardS, nth, opS, opsS, partsS] <;> exact rfl) rfl rfl rfl rfl rfl rfl (by dsimp only [mpCap, Nat.reduceAdd, Nat.reduceMul, Nat.zero_add, List.map, mpM, mpTL, mpT, mpSs, mpS, mpCs, mpC, mpN, lk, idN, keys, resT, ro] <;> exact rfl) rfl (by dsimp only [selT, selM, hasN, app, slotsOf, guardS, nth, opS, opsS, partsS, mpCap, Nat.reduceAdd, Nat.reduceMul, Nat.zero_add, List.map, mpM, mpTL, mpT, mpSs, mpS, mpCs, mpC, mpN, lk, idN, keys, resT, ro, rnN, rn, SV.cells, slotOf] <;> exact rfl) rfl (by dsimp only [mpCap, Nat.reduceAdd, Nat.reduceMul, Nat.zero_add, List.map, mpM, mpTL, mpT, mpSs, mpS, mpCs, mpC, mpN, lk, idN, keys, resT, ro] <;> exact rfl) rfl rfl rfl rfl ?_ | refine ed_cons (by dsimp only [selT, selM, hasN, app, slotsOf, guardS, nth, opS, opsS, partsS] <;> exact rfl) (by dsimp only [selT, selM, hasN, app, slotsOf, guardS, nth, opS, opsS, partsS] <;> exact rfl) rfl rfl rfl (by dsimp only [selT, selM, hasN, app, slotsOf, guardS, nth, opS, opsS, partsS, mpCap, Nat.reduceAdd, Nat.reduceMul, Nat.zero_add, List.map, mpM, mpTL, mpT, mpSs, mpS, mpCs, mpC, mpN, lk, idN, keys, resT, ro, rnN, rn, SV.cells, slotOf] <;> exact rfl) rfl rfl rfl rfl ?_); dsimp only [rnCap, capSVs, Int.toNat_natCast, ro, Nat.reduceAdd, Nat.reduceMul, Nat.zero_add, List.map, putT, app, wrapG, gOb, argT, keys, slotOf, dropped, gAnd, wB, rnT, rnS, rnC, rnCs, rnSs, rnM, rnB, rnN, rn, lk, St.over, ded, delL, keepT, menT, menSs, menS, menCs, menC, hasN, resT, SV.cells, c_BestI, c_DrawSps, c_GreedyI, c_MeshEdgesI, c_PairsOkI, c_Places, c_big, mpM, mpTL, mpT, mpSs, mpS, mpCs, mpC, mpN, rnN, rn, keys, mpM, mpTL, mpT, mpSs, mpS, mpCs, mpC, mpN, selT, selM, hasN, app, slotsOf, guardS, nth, opS, opsS, partsS]) | (refine ed_nil ?_; subst hK_; dsimp only [revApp]; refine Exists.intro _ (And.intro rfl (And.intro (by kernel_rfl) (And.intro ?_ ?_))); rotate_left; (try dsimp only [rnCap, capSVs, Int.toNat_natCast, ro, Nat.reduceAdd, Nat.reduceMul, Nat.zero_add, List.map, putT, app, wrapG, gOb, argT, keys, slotOf, dropped, gAnd, wB, rnT, rnS, rnC, rnCs, rnSs, rnM, rnB, rnN, rn, lk, St.over, ded, delL, keepT, menT, menSs, menS, menCs, menC, hasN, resT, SV.cells, c_BestI, c_DrawSps, c_GreedyI, c_MeshEdgesI, c_PairsOkI, c_Places, c_big, mpM, mpTL, mpT, mpSs, mpS, mpCs, mpC, mpN]); rotate_right; dsimp only [rnCap, capSVs, Int.toNat_natCast, ro, Nat.reduceAdd, Nat.reduceMul, Nat.zero_add, List.map, putT, app, wrapG, gOb, argT, keys, slotOf, dropped, gAnd, wB, rnT, rnS, rnC, rnCs, rnSs, rnM, rnB, rnN, rn, lk, St.over, ded, delL, keepT, menT, menSs, menS, menCs, menC, hasN, resT, SV.cells, c_BestI, c_DrawSps, c_GreedyI, c_MeshEdgesI, c_PairsOkI, c_Places, c_big, mpM, mpTL, mpT, mpSs, mpS, mpCs, mpC, mpN, endT, endM, endU, insN, addN]))) | (first | ((first | refine ar_region (id := 1) tt_ok (inps := [.call (c_big bs)]) rfl ?_ ?_ | refine ar_region (id := 3) tt_ok (inps := [.call (c_DrawSps bs l)]) rfl ?_ ?_ | refine ar_region (id := 4) tt_ok (inps := [.call (c_Places bs)]) rfl ?_ ?_ | refine ar_region (id := 6) tt_ok (inps := [.call (c_GreedyI t l)]) rfl ?_ ?_ | refine ar_region (id := 7) tt_ok (inps := [.call (c_BestI t l)]) rfl ?_ ?_ | refine ar_region (id := 8) tt_ok (inps := [.call (c_MeshEdgesI t l)]) rfl ?_ ?_ | refine ar_region (id := 9) tt_ok (inps := [.call (c_PairsOkI t l A), .call (c_PairsOkI t l (pGreedy l)), .elem (Tr.eI (plV bs 0))]) rfl ?_ ?_ | refine ar_region tt_ok (inps := []) rfl ?_ ?_); rotate_left; (try dsimp only [rnCap, capSVs, Int.toNat_natCast, ro, Nat.reduceAdd, Nat.reduceMul, Nat.zero_add, List.map, putT, app, wrapG, gOb, argT, keys, slotOf, dropped, gAnd, wB, rnT, rnS, rnC, rnCs, rnSs, rnM, rnB, rnN, rn, lk, St.over, ded, delL, keepT, menT, menSs, menS, menCs, menC, hasN, resT, SV.cells, c_BestI, c_DrawSps, c_GreedyI, c_MeshEdgesI, c_PairsOkI, c_Places, c_big, mpM, mpTL, mpT, mpSs, mpS, mpCs, mpC, mpN]); rotate_right) | ((first | refine ar_ret ?_ | refine ar_end ?_); refine fin_auto2 rfl (by dsimp only [mpCap, Nat.reduceAdd, Nat.reduceMul, Nat.zero_add, List.map, mpM, mpTL, mpT, mpSs, mpS, mpCs, mpC, mpN, lk, idN, keys, resT, ro] <;> exact rfl) (by dsimp only [xCap, okCap, rnCap, Nat.reduceAdd, Nat.reduceMul, Nat.zero_add, List.map, wkOb, finOb, xTL, xM, xT, xSs, xS, xCs, xC, xB, okTL, okML, okT, okSs, okS, okCs, okC, okB, nodupN, rnN, allIn, fixed, rn, lk, hasN, app, SV.cells, ro, keys, resT] <;> exact rfl) ?_)) | (refine ar_cond rfl trivial ?_ ?_ <;> intro hc_ <;> (try simp only [isNilI, inB, reduceCtorEq, cds] at hc_) <;> (try (first | contradiction | (exfalso; omega)))) | refine ar_until (And.intro ?_ (wk_auto2 (by dsimp only [mpCap, Nat.reduceAdd, Nat.reduceMul, Nat.zero_add, List.map, mpM, mpTL, mpT, mpSs, mpS, mpCs, mpC, mpN, lk, idN, keys, resT, ro] <;> exact rfl) (by dsimp only [xCap, okCap, rnCap, Nat.reduceAdd, Nat.reduceMul, Nat.zero_add, List.map, wkOb, finOb, xTL, xM, xT, xSs, xS, xCs, xC, xB, okTL, okML, okT, okSs, okS, okCs, okC, okB, nodupN, rnN, allIn, fixed, rn, lk, hasN, app, SV.cells, ro, keys, resT] <;> exact rfl) ?_)))
    all_goals (first | refine ar_id ?_ | (try (focus ((try dsimp only [okX, GlAll, app, gOb, All, gAnd, wB, rnT, rnS, rnC, rnCs, rnSs, rnB, rn, lk, obD]); (repeat' (first | exact True.intro | refine And.intro ?_ ?_)); all_goals (try (intro (hg_ : _ = true); (try simp only [isNilI, inB, reduceCtorEq, cds] at hg_); (repeat' (first | exact True.intro | refine And.intro ?_ ?_)))); all_goals (first | first | with_reducible rfl | omega | exact Nat.le_refl _ | exact congrArg (Value.int .i64) (by omega) | (simp only [List.length_map]; first | done | omega) | (simp only [lns]; omega) | exact i64_ok (by omega) (by omega) | exact elem_map (fun _ => rfl) (by assumption) | exact elem_map (fun _ => rfl) (getD_at (by omega)) | exact elem_map' (fun _ => rfl) (by omega) | exact map_at (by omega) | exact set_at (by simp only [lns]; omega) | (rw [List.length_replicate, Int.toNat_natCast] at *; omega) | assumption | decide | exact fn_big bs | exact hd | exact hpl | exact hpa | exact hpb | exact hM1 | exact hM2 | exact hM3 | exact hM4 | exact hM5 | exact hM6 | exact hgl_.1 | exact hgl_.2.1 | exact hgl_.2.2.1 | exact hgl_.2.2.2.1 | exact hgl_.2.2.2.2.1 | exact hgl_.2.2.2.2.2.1 | exact hgl_.2.2.2.2.2.2.1 | exact hgl_.2.2.2.2.2.2.2.1 | exact hgl_ | exact rfl | exact one1 rfl | skip)))))
    · simp only [List.length_map]; exact i64_ok (by omega) (by omega)
    · simp only [List.length_map]
      rw [f1, f2, f6, decide_eq_true (show (A.length : Int) ≤ pBest l by omega), decide_eq_true (show ((pGreedy l).length : Int) ≤ pBest l by omega), decide_eq_true (show 2 * ((pGreedy l).length : Int) ≥ pBest l by omega)]
      by_cases h2 : 2 ≤ l.length
      · rw [f7 h2]
        cases decide ((l.length : Int) < 2) <;> rfl
      · rw [decide_eq_true (show (l.length : Int) < 2 by omega)]; rfl
/-- some left one and some right one are meshable -/
def rowAny (l : List GSpan) (p : List Int) (i : Nat) : Nat → Bool
  | 0 => false
  | j + 1 => rowAny l p i j || meshAt l (p.getD i 0).toNat (p.getD (l.length / 2 + j) 0).toNat
def anyTo (l : List GSpan) (p : List Int) : Nat → Bool
  | 0 => false
  | i + 1 => anyTo l p i || rowAny l p i (l.length - l.length / 2)
theorem rowAny_iff {l : List GSpan} {p : List Int} {i : Nat} : ∀ {j : Nat}, rowAny l p i j = true ↔ ∃ k, k < j ∧ meshAt l (p.getD i 0).toNat (p.getD (l.length / 2 + k) 0).toNat = true
  | 0 => ⟨fun h => (nomatch h), fun ⟨_, h, _⟩ => by omega⟩
  | j + 1 => by
    show (rowAny l p i j || _) = true ↔ _
    rw [Bool.or_eq_true, rowAny_iff]
    constructor
    · rintro (⟨k, h1, h2⟩ | h)
      · exact ⟨k, by omega, h2⟩
      · exact ⟨j, by omega, h⟩
    · rintro ⟨k, h1, h2⟩
      by_cases e : k = j
      · exact .inr (e ▸ h2)
      · exact .inl ⟨k, by omega, h2⟩
theorem anyTo_iff {l : List GSpan} {p : List Int} : ∀ {i : Nat}, anyTo l p i = true ↔ ∃ a k, a < i ∧ l.length / 2 ≤ k ∧ k < l.length ∧ meshAt l (p.getD a 0).toNat (p.getD k 0).toNat = true
  | 0 => ⟨fun h => (nomatch h), fun ⟨_, _, h, _⟩ => by omega⟩
  | i + 1 => by
    show (anyTo l p i || _) = true ↔ _
    rw [Bool.or_eq_true, anyTo_iff, rowAny_iff]
    constructor
    · rintro (⟨a, k, h1, h2⟩ | ⟨k, h1, h2⟩)
      · exact ⟨a, k, by omega, h2⟩
      · exact ⟨i, l.length / 2 + k, by omega, by omega, by omega, h2⟩
    · rintro ⟨a, k, h1, h2, h3, h4⟩
      by_cases e : a = i
      · subst e
        exact .inr ⟨k - l.length / 2, by omega, by rw [show l.length / 2 + (k - l.length / 2) = k by omega]; exact h4⟩
      · exact .inl ⟨a, k, by omega, h2, h3, h4⟩
def c_AllTried (t : Tb) (bs : List Int) : CFD := ⟨4, [.one (ro 5 1 eU bs)], [], (TV.sv (.one (.lit (.bool (true))))), [], [], t.both⟩
theorem fn_AllTried (t : Tb) (bs : List Int) (hb : ∀ x ∈ bs, 0 ≤ x ∧ x ≤ 255) : Fn Tryd.prog (c_AllTried t bs) := by
  by_cases hl : (1048576 : Int) < (bs.length : Int)
  · have hd := decide_eq_true hl
    refine fn_intro tt_ok Tryd.func4 rfl Tryd.call4 Tryd.ntmps4 Tryd.results4 rfl rfl rfl rfl ?_
    intro X ρ0 hb_ hgl_
    dsimp only [c_AllTried, rnCap, capSVs, Int.toNat_natCast, ro, Nat.reduceAdd, Nat.reduceMul, Nat.zero_add, List.map, putT, app, wrapG, gOb, argT, keys, slotOf, dropped, gAnd, wB, rnT, rnS, rnC, rnCs, rnSs, rnM, rnB, rnN, rn, lk, St.over, ded, delL, keepT, menT, menSs, menS, menCs, menC, hasN, resT, SV.cells]
    repeat' (refine ar_id ?_; first | refine ar_seq ?_ | refine ar_block ?_ | refine ar_blk ?_ | refine ar_skip ?_ | refine ar_label ?_ | refine ar_exit rfl ?_ | refine ar_scope ?_ | refine ar_scp ?_ | (first | ((first | refine ar_region (id := 1) tt_ok (inps := [.call (c_big bs)]) rfl ?_ ?_ | refine ar_region tt_ok (inps := []) rfl ?_ ?_); rotate_left; (try dsimp only [rnCap, capSVs, Int.toNat_natCast, ro, Nat.reduceAdd, Nat.reduceMul, Nat.zero_add, List.map, putT, app, wrapG, gOb, argT, keys, slotOf, dropped, gAnd, wB, rnT, rnS, rnC, rnCs, rnSs, rnM, rnB, rnN, rn, lk, St.over, ded, delL, keepT, menT, menSs, menS, menCs, menC, hasN, resT, SV.cells, c_big, mpM, mpTL, mpT, mpSs, mpS, mpCs, mpC, mpN]); rotate_right) | ((first | refine ar_ret ?_ | refine ar_end ?_); refine fin_auto2 rfl (by dsimp only [mpCap, Nat.reduceAdd, Nat.reduceMul, Nat.zero_add, List.map, mpM, mpTL, mpT, mpSs, mpS, mpCs, mpC, mpN, lk, idN, keys, resT, ro] <;> exact rfl) (by dsimp only [xCap, okCap, rnCap, Nat.reduceAdd, Nat.reduceMul, Nat.zero_add, List.map, wkOb, finOb, xTL, xM, xT, xSs, xS, xCs, xC, xB, okTL, okML, okT, okSs, okS, okCs, okC, okB, nodupN, rnN, allIn, fixed, rn, lk, hasN, app, SV.cells, ro, keys, resT] <;> exact rfl) ?_)) | (refine ar_cond rfl trivial ?_ ?_ <;> intro hc_ <;> (try simp only [isNilI, inB, reduceCtorEq, cds] at hc_) <;> (try (first | contradiction | (exfalso; omega)))) | refine ar_until (And.intro ?_ (wk_auto2 (by dsimp only [mpCap, Nat.reduceAdd, Nat.reduceMul, Nat.zero_add, List.map, mpM, mpTL, mpT, mpSs, mpS, mpCs, mpC, mpN, lk, idN, keys, resT, ro] <;> exact rfl) (by dsimp only [xCap, okCap, rnCap, Nat.reduceAdd, Nat.reduceMul, Nat.zero_add, List.map, wkOb, finOb, xTL, xM, xT, xSs, xS, xCs, xC, xB, okTL, okML, okT, okSs, okS, okCs, okC, okB, nodupN, rnN, allIn, fixed, rn, lk, hasN, app, SV.cells, ro, keys, resT] <;> exact rfl) ?_)))
    all_goals (first | refine ar_id ?_ | (try (focus ((try dsimp only [okX, GlAll, app, gOb, All, gAnd, wB, rnT, rnS, rnC, rnCs, rnSs, rnB, rn, lk, obD]); (repeat' (first | exact True.intro | refine And.intro ?_ ?_)); all_goals (try (intro (hg_ : _ = true); (try simp only [isNilI, inB, reduceCtorEq, cds] at hg_); (repeat' (first | exact True.intro | refine And.intro ?_ ?_)))); all_goals (first | first | with_reducible rfl | omega | exact Nat.le_refl _ | exact congrArg (Value.int .i64) (by omega) | (simp only [List.length_map]; first | done | omega) | (simp only [lns]; omega) | exact i64_ok (by omega) (by omega) | exact elem_map (fun _ => rfl) (by assumption) | exact elem_map (fun _ => rfl) (getD_at (by omega)) | exact elem_map' (fun _ => rfl) (by omega) | exact map_at (by omega) | exact set_at (by simp only [lns]; omega) | (rw [List.length_replicate, Int.toNat_natCast] at *; omega) | assumption | decide | exact fn_big bs | skip)))))
  · have hl' : bs.length ≤ 2097152 := by omega
    have h8 := (dList_facts (bs := bs) (c := dNew bs) 8 (by decide) (dNew_ok hl' hb)).2.1
    have hd := fn_DrawSps bs _ hl' hb rfl
    have hpl := fn_Places bs hl' hb
    have hpa := pl_at bs (i := 0) (by decide)
    have hp0 := plV_lt bs 0
    have hlp : ((places bs).map Tr.eI).length = 12 := by unfold places; simp
    generalize (dList bs (dNew bs) 8).1 = l at h8 hd
    generalize plV bs 0 = z at *
    have hok : splitOk l.length z 16 := ⟨by omega, by decide, by omega, by omega⟩
    have hp := shuf_perm (n := l.length) (s := z) (by omega) ⟨by omega, by omega⟩
    obtain ⟨p, hpp⟩ : ∃ p, Sd.outL z l.length = p := ⟨_, rfl⟩
    have hA : pSplit l z 16 = (runP l (sTo p 16)).2 := by rw [← hpp]; exact if_pos hok
    rw [hpp] at hp
    have hpn := hp.len
    have hat := all_tried hp (T := 16) (by omega) l rfl
    rw [← hA] at hat
    have hfin : (anyTo l p (l.length / 2) == decide (((pSplit l z 16).length : Int) > 0)) = true := by
      rw [beq_iff_eq, Bool.eq_iff_iff, anyTo_iff, decide_eq_true_eq]
      exact Iff.trans hat.symm (by omega)
    have hin : ∀ i, i < l.length → (p.map Tr.eI)[i]? = some (Tr.eI (p.getD i 0)) := fun i h => map_at (by omega)
    have hpm : ((p.map Tr.eI).length : Int) = (l.length : Int) := by rw [List.length_map, hpn]
    have hel : ∀ i, i < l.length → (l.map eSpan)[(p.getD i 0).toNat]? = some (eSpan (l.getD (p.getD i 0).toNat spD)) := fun i h => map_at (by have := hp.in_ i h; omega)
    have hpr0 : ∀ i, i < l.length → 0 ≤ p.getD i 0 := fun i h => (hp.in_ i h).1
    have hpr1 : ∀ i, i < l.length → p.getD i 0 < ((l.map eSpan).length : Int) := fun i h => by rw [List.length_map]; exact (hp.in_ i h).2
    have hd2 : (l.length : Int).tdiv 2 = ((l.length / 2 : Nat) : Int) := by rw [Int.tdiv_eq_ediv_of_nonneg (by omega)]; omega
    generalize hAA : pSplit l z 16 = A at *
    have hM1 : Fn Tryd.prog ⟨12, [.one (ro 38 3 eSpan l), (SV.one (.lit (.int .i64 (z)))), (SV.one (.lit (.int .i64 (16))))], [], .tup [.one (.hd 0), (SV.one (.lit (.int .i64 (pSplitS l z 16))))], [(0, some (.row 60 2 (A.map ePair)))], [0], t.both⟩ := hAA ▸ fn_SplitI t l _ _ (by omega)
    have hsh : Fn Tryd.prog ⟨17, [(SV.one (.lit (.int .i64 (z)))), (SV.one (.lit (.int .i64 ((l.length : Int)))))], [], .tup [.one (.hd 0), (SV.one (.lit (.int .i64 (Sd.outS z l.length))))], [(0, some (.row 3 1 (p.map Tr.eI)))], [0], []⟩ := hpp ▸ fn_Shuf z l.length
    have hM3 : Fn Tryd.prog (c_GreedyI t [⟨0, 0, 0⟩, ⟨1, 0, 0⟩]) := fn_GreedyI t _ (by decide)
    have hg1 : (pGreedy [⟨0, 0, 0⟩, ⟨1, 0, 0⟩]).length = 1 := by decide +kernel
    refine fn_intro tt_ok Tryd.func4 rfl Tryd.call4 Tryd.ntmps4 Tryd.results4 rfl rfl rfl rfl ?_
    intro X ρ0 hb_ hgl_
    dsimp only [c_AllTried, rnCap, capSVs, Int.toNat_natCast, ro, Nat.reduceAdd, Nat.reduceMul, Nat.zero_add, List.map, putT, app, wrapG, gOb, argT, keys, slotOf, dropped, gAnd, wB, rnT, rnS, rnC, rnCs, rnSs, rnM, rnB, rnN, rn, lk, St.over, ded, delL, keepT, menT, menSs, menS, menCs, menC, hasN, resT, SV.cells]
    repeat' (refine ar_id ?_; first | refine ar_seq ?_ | refine ar_block ?_ | refine ar_blk ?_ | refine ar_skip ?_ | refine ar_label ?_ | refine ar_exit rfl ?_ | refine ar_scope ?_ | refine ar_scp ?_ | (first | ((first | refine ar_region (id := 1) tt_ok (inps := [.call (c_big bs)]) rfl ?_ ?_ | refine ar_region (id := 3) tt_ok (inps := [.call (c_DrawSps bs l)]) rfl ?_ ?_ | refine ar_region (id := 4) tt_ok (inps := [.call (c_Places bs)]) rfl ?_ ?_ | refine ar_region (id := 5) tt_ok (inps := [.elem (Tr.eI z), .call ⟨12, [.one (ro 38 3 eSpan l), (SV.one (.lit (.int .i64 (z)))), (SV.one (.lit (.int .i64 (16))))], [], .tup [.one (.hd 0), (SV.one (.lit (.int .i64 (pSplitS l z 16))))], [(0, some (.row 60 2 (A.map ePair)))], [0], t.both⟩]) rfl ?_ ?_ | refine ar_region (id := 6) tt_ok (inps := [.elem (Tr.eI z), .call ⟨17, [(SV.one (.lit (.int .i64 (z)))), (SV.one (.lit (.int .i64 ((l.length : Int)))))], [], .tup [.one (.hd 0), (SV.one (.lit (.int .i64 (Sd.outS z l.length))))], [(0, some (.row 3 1 (p.map Tr.eI)))], [0], []⟩]) rfl ?_ ?_ | refine ar_region tt_ok (inps := []) rfl ?_ ?_); rotate_left; (try dsimp only [rnCap, capSVs, Int.toNat_natCast, ro, Nat.reduceAdd, Nat.reduceMul, Nat.zero_add, List.map, putT, app, wrapG, gOb, argT, keys, slotOf, dropped, gAnd, wB, rnT, rnS, rnC, rnCs, rnSs, rnM, rnB, rnN, rn, lk, St.over, ded, delL, keepT, menT, menSs, menS, menCs, menC, hasN, resT, SV.cells, c_DrawSps, c_Places, c_big, mpM, mpTL, mpT, mpSs, mpS, mpCs, mpC, mpN]); rotate_right) | ((first | refine ar_ret ?_ | refine ar_end ?_); refine fin_auto2 rfl (by dsimp only [mpCap, Nat.reduceAdd, Nat.reduceMul, Nat.zero_add, List.map, mpM, mpTL, mpT, mpSs, mpS, mpCs, mpC, mpN, lk, idN, keys, resT, ro] <;> exact rfl) (by dsimp only [xCap, okCap, rnCap, Nat.reduceAdd, Nat.reduceMul, Nat.zero_add, List.map, wkOb, finOb, xTL, xM, xT, xSs, xS, xCs, xC, xB, okTL, okML, okT, okSs, okS, okCs, okC, okB, nodupN, rnN, allIn, fixed, rn, lk, hasN, app, SV.cells, ro, keys, resT] <;> exact rfl) ?_)) | (refine ar_cond rfl trivial ?_ ?_ <;> intro hc_ <;> (try simp only [isNilI, inB, reduceCtorEq, cds] at hc_) <;> (try (first | contradiction | (exfalso; omega)))) | refine ar_until (And.intro ?_ (wk_auto2 (by dsimp only [mpCap, Nat.reduceAdd, Nat.reduceMul, Nat.zero_add, List.map, mpM, mpTL, mpT, mpSs, mpS, mpCs, mpC, mpN, lk, idN, keys, resT, ro] <;> exact rfl) (by dsimp only [xCap, okCap, rnCap, Nat.reduceAdd, Nat.reduceMul, Nat.zero_add, List.map, wkOb, finOb, xTL, xM, xT, xSs, xS, xCs, xC, xB, okTL, okML, okT, okSs, okS, okCs, okC, okB, nodupN, rnN, allIn, fixed, rn, lk, hasN, app, SV.cells, ro, keys, resT] <;> exact rfl) ?_)))
    all_goals (first | refine ar_id ?_ | (try (focus ((try dsimp only [okX, GlAll, app, gOb, All, gAnd, wB, rnT, rnS, rnC, rnCs, rnSs, rnB, rn, lk, obD]); (repeat' (first | exact True.intro | refine And.intro ?_ ?_)); all_goals (try (intro (hg_ : _ = true); (try simp only [isNilI, inB, reduceCtorEq, cds] at hg_); (repeat' (first | exact True.intro | refine And.intro ?_ ?_)))); all_goals (first | first | with_reducible rfl | omega | exact Nat.le_refl _ | exact congrArg (Value.int .i64) (by omega) | (simp only [List.length_map]; first | done | omega) | (simp only [lns]; omega) | exact i64_ok (by omega) (by omega) | exact elem_map (fun _ => rfl) (by assumption) | exact elem_map (fun _ => rfl) (getD_at (by omega)) | exact elem_map' (fun _ => rfl) (by omega) | exact map_at (by omega) | exact set_at (by simp only [lns]; omega) | (rw [List.length_replicate, Int.toNat_natCast] at *; omega) | assumption | decide | exact fn_big bs | exact hd | exact hpl | exact hpa | exact hM1 | exact hsh | exact hgl_.1 | exact hgl_.2.1 | exact hgl_.2.2.1 | exact hgl_.2.2.2.1 | exact hgl_.2.2.2.2.1 | exact hgl_.2.2.2.2.2.1 | exact hgl_.2.2.2.2.2.2.1 | exact hgl_.2.2.2.2.2.2.2.1 | exact hgl_ | exact rfl | exact one1 rfl | skip)))))
    · rw [List.length_map, hd2]; exact i64_ok (by omega) (by omega)
    refine ar_keep 7869 (by dsimp only [keepS] <;> exact rfl) ?_
    refine ar_forM ((l.length / 2)) (fun i => True) (fun i => [(11, (TV.sv (.one (.lit (.int .i64 (i)))))), (9, (TV.sv (.one (.lit (.int .i64 (((l.length / 2 : Nat) : Int))))))), (10, (TV.sv (.one (.lit (.bool (anyTo l p i))))))]) (fun i => []) ?_ ?_ ?_
    rotate_left
    · first | trivial | simp
    (dsimp only [rnCap, capSVs, Int.toNat_natCast, ro, Nat.reduceAdd, Nat.reduceMul, Nat.zero_add, List.map, putT, app, wrapG, gOb, argT, keys, slotOf, dropped, gAnd, wB, rnT, rnS, rnC, rnCs, rnSs, rnM, rnB, rnN, rn, lk, St.over, ded, delL, keepT, menT, menSs, menS, menCs, menC, hasN, resT, SV.cells]; refine wk_auto2 (by dsimp only [mpCap, Nat.reduceAdd, Nat.reduceMul, Nat.zero_add, List.map, mpM, mpTL, mpT, mpSs, mpS, mpCs, mpC, mpN, lk, idN, keys, resT, ro] <;> exact rfl) (by dsimp only [xCap, okCap, rnCap, Nat.reduceAdd, Nat.reduceMul, Nat.zero_add, List.map, wkOb, finOb, xTL, xM, xT, xSs, xS, xCs, xC, xB, okTL, okML, okT, okSs, okS, okCs, okC, okB, nodupN, rnN, allIn, fixed, rn, lk, hasN, app, SV.cells, ro, keys, resT] <;> exact rfl) ?_; (focus ((try dsimp only [okX, GlAll, app, gOb, All, gAnd, wB, rnT, rnS, rnC, rnCs, rnSs, rnB, rn, lk, obD]); (repeat' (first | exact True.intro | refine And.intro ?_ ?_)); all_goals (try (intro (hg_ : _ = true); (try simp only [isNilI, inB, reduceCtorEq, cds] at hg_); (repeat' (first | exact True.intro | refine And.intro ?_ ?_)))); all_goals (first | first | with_reducible rfl | omega | exact Nat.le_refl _ | exact congrArg (Value.int .i64) (by omega) | (simp only [List.length_map]; first | done | omega) | (simp only [lns]; omega) | exact i64_ok (by omega) (by omega) | exact elem_map (fun _ => rfl) (by assumption) | exact elem_map (fun _ => rfl) (getD_at (by omega)) | exact elem_map' (fun _ => rfl) (by omega) | exact map_at (by omega) | exact set_at (by simp only [lns]; omega) | (rw [List.length_replicate, Int.toNat_natCast] at *; omega) | assumption | decide | exact rfl | skip))))
    rotate_right
    intro i hi_ hiI_
    dsimp only [rnCap, capSVs, Int.toNat_natCast, ro, Nat.reduceAdd, Nat.reduceMul, Nat.zero_add, List.map, putT, app, wrapG, gOb, argT, keys, slotOf, dropped, gAnd, wB, rnT, rnS, rnC, rnCs, rnSs, rnM, rnB, rnN, rn, lk, St.over, ded, delL, keepT, menT, menSs, menS, menCs, menC, hasN, resT, SV.cells]
    repeat' (refine ar_id ?_; first | refine ar_seq ?_ | refine ar_block ?_ | refine ar_blk ?_ | refine ar_skip ?_ | refine ar_label ?_ | refine ar_exit rfl ?_ | refine ar_scope ?_ | refine ar_scp ?_ | (first | ((first | refine ar_region (id := 16) tt_ok (inps := [.sure (c_GreedyI t [⟨0, 0, 0⟩, ⟨1, 0, 0⟩])]) rfl ?_ ?_ | refine ar_region tt_ok (inps := []) rfl ?_ ?_); rotate_left; (try dsimp only [rnCap, capSVs, Int.toNat_natCast, ro, Nat.reduceAdd, Nat.reduceMul, Nat.zero_add, List.map, putT, app, wrapG, gOb, argT, keys, slotOf, dropped, gAnd, wB, rnT, rnS, rnC, rnCs, rnSs, rnM, rnB, rnN, rn, lk, St.over, ded, delL, keepT, menT, menSs, menS, menCs, menC, hasN, resT, SV.cells, c_GreedyI, mpM, mpTL, mpT, mpSs, mpS, mpCs, mpC, mpN]); rotate_right) | ((first | refine ar_ret ?_ | refine ar_end ?_); refine fin_auto2 rfl (by dsimp only [mpCap, Nat.reduceAdd, Nat.reduceMul, Nat.zero_add, List.map, mpM, mpTL, mpT, mpSs, mpS, mpCs, mpC, mpN, lk, idN, keys, resT, ro] <;> exact rfl) (by dsimp only [xCap, okCap, rnCap, Nat.reduceAdd, Nat.reduceMul, Nat.zero_add, List.map, wkOb, finOb, xTL, xM, xT, xSs, xS, xCs, xC, xB, okTL, okML, okT, okSs, okS, okCs, okC, okB, nodupN, rnN, allIn, fixed, rn, lk, hasN, app, SV.cells, ro, keys, resT] <;> exact rfl) ?_)) | (refine ar_cond rfl trivial ?_ ?_ <;> intro hc_ <;> (try simp only [isNilI, inB, reduceCtorEq, cds] at hc_) <;> (try (first | contradiction | (exfalso; omega)))) | refine ar_until (And.intro ?_ (wk_auto2 (by dsimp only [mpCap, Nat.reduceAdd, Nat.reduceMul, Nat.zero_add, List.map, mpM, mpTL, mpT, mpSs, mpS, mpCs, mpC, mpN, lk, idN, keys, resT, ro] <;> exact rfl) (by dsimp only [xCap, okCap, rnCap, Nat.reduceAdd, Nat.reduceMul, Nat.zero_add, List.map, wkOb, finOb, xTL, xM, xT, xSs, xS, xCs, xC, xB, okTL, okML, okT, okSs, okS, okCs, okC, okB, nodupN, rnN, allIn, fixed, rn, lk, hasN, app, SV.cells, ro, keys, resT] <;> exact rfl) ?_)))
    all_goals (first | refine ar_id ?_ | (try (focus ((try dsimp only [okX, GlAll, app, gOb, All, gAnd, wB, rnT, rnS, rnC, rnCs, rnSs, rnB, rn, lk, obD]); (repeat' (first | exact True.intro | refine And.intro ?_ ?_)); all_goals (try (intro (hg_ : _ = true); (try simp only [isNilI, inB, reduceCtorEq, cds] at hg_); (repeat' (first | exact True.intro | refine And.intro ?_ ?_)))); all_goals (first | first | with_reducible rfl | omega | exact Nat.le_refl _ | exact congrArg (Value.int .i64) (by omega) | (simp only [List.length_map]; first | done | omega) | (simp only [lns]; omega) | exact i64_ok (by omega) (by omega) | exact elem_map (fun _ => rfl) (by assumption) | exact elem_map (fun _ => rfl) (getD_at (by omega)) | exact elem_map' (fun _ => rfl) (by omega) | exact map_at (by omega) | exact set_at (by simp only [lns]; omega) | (rw [List.length_replicate, Int.toNat_natCast] at *; omega) | assumption | decide | exact hM3 | exact hgl_.1 | exact hgl_.2.1 | exact hgl_.2.2.1 | exact hgl_.2.2.2.1 | exact hgl_.2.2.2.2.1 | exact hgl_.2.2.2.2.2.1 | exact hgl_.2.2.2.2.2.2.1 | exact hgl_.2.2.2.2.2.2.2.1 | exact hgl_ | exact rfl | exact one1 rfl | skip)))))
    · skip
      refine ar_keep 7869 (by dsimp only [keepS] <;> exact rfl) ?_
      refine ar_forM ((l.length - l.length / 2)) (fun j => True) (fun j => [(12, (TV.sv (.one (.lit (.int .i64 (((l.length / 2 + j : Nat) : Int))))))), (10, (TV.sv (.one (.lit (.bool ((Bool.or (anyTo l p i) (rowAny l p i j))))))))]) (fun j => []) ?_ ?_ ?_
      rotate_left
      · first | trivial | simp
      (dsimp only [rnCap, capSVs, Int.toNat_natCast, ro, Nat.reduceAdd, Nat.reduceMul, Nat.zero_add, List.map, putT, app, wrapG, gOb, argT, keys, slotOf, dropped, gAnd, wB, rnT, rnS, rnC, rnCs, rnSs, rnM, rnB, rnN, rn, lk, St.over, ded, delL, keepT, menT, menSs, menS, menCs, menC, hasN, resT, SV.cells]; refine wk_auto2 (by dsimp only [mpCap, Nat.reduceAdd, Nat.reduceMul, Nat.zero_add, List.map, mpM, mpTL, mpT, mpSs, mpS, mpCs, mpC, mpN, lk, idN, keys, resT, ro] <;> exact rfl) (by dsimp only [xCap, okCap, rnCap, Nat.reduceAdd, Nat.reduceMul, Nat.zero_add, List.map, wkOb, finOb, xTL, xM, xT, xSs, xS, xCs, xC, xB, okTL, okML, okT, okSs, okS, okCs, okC, okB, nodupN, rnN, allIn, fixed, rn, lk, hasN, app, SV.cells, ro, keys, resT] <;> exact rfl) ?_; (focus ((try dsimp only [okX, GlAll, app, gOb, All, gAnd, wB, rnT, rnS, rnC, rnCs, rnSs, rnB, rn, lk, obD]); (repeat' (first | exact True.intro | refine And.intro ?_ ?_)); all_goals (try (intro (hg_ : _ = true); (try simp only [isNilI, inB, reduceCtorEq, cds] at hg_); (repeat' (first | exact True.intro | refine And.intro ?_ ?_)))); all_goals (first | first | with_reducible rfl | omega | exact Nat.le_refl _ | exact congrArg (Value.int .i64) (by omega) | (simp only [List.length_map]; first | done | omega) | (simp only [lns]; omega) | exact i64_ok (by omega) (by omega) | exact elem_map (fun _ => rfl) (by assumption) | exact elem_map (fun _ => rfl) (getD_at (by omega)) | exact elem_map' (fun _ => rfl) (by omega) | exact map_at (by omega) | exact set_at (by simp only [lns]; omega) | (rw [List.length_replicate, Int.toNat_natCast] at *; omega) | assumption | decide | exact rfl | skip))))
      rotate_right
      intro j hj_ hjI_
      dsimp only [rnCap, capSVs, Int.toNat_natCast, ro, Nat.reduceAdd, Nat.reduceMul, Nat.zero_add, List.map, putT, app, wrapG, gOb, argT, keys, slotOf, dropped, gAnd, wB, rnT, rnS, rnC, rnCs, rnSs, rnM, rnB, rnN, rn, lk, St.over, ded, delL, keepT, menT, menSs, menS, menCs, menC, hasN, resT, SV.cells]
      repeat' (refine ar_id ?_; first | refine ar_seq ?_ | refine ar_block ?_ | refine ar_blk ?_ | refine ar_skip ?_ | refine ar_label ?_ | refine ar_exit rfl ?_ | refine ar_scope ?_ | refine ar_scp ?_ | (refine ar_drawS (id := 15) tt_ok (by kernel_rfl) [.elem (Tr.eI (p.getD i 0)), .elem (eSpan (l.getD (p.getD i 0).toNat spD)), .elem (Tr.eI (p.getD (l.length / 2 + j) 0)), .elem (eSpan (l.getD (p.getD (l.length / 2 + j) 0).toNat spD)), .call (c_Mesh (l.getD (p.getD i 0).toNat spD) (l.getD (p.getD (l.length / 2 + j) 0).toNat spD))] ?_; refine ed_hide ?_; intro K_ hK_; repeat' (first | ((first | refine ed_call (by dsimp only [selT, selM, hasN, app, slotsOf, guardS, nth, opS, opsS, partsS] <;> exact rfl) (by dsimp only [selT, selM, hasN, app, slotsOf, guardS, nth, opS, opsS, partsS] <;> exact rfl) rfl rfl rfl rfl rfl rfl (by dsimp only [mpCap, Nat.reduceAdd, Nat.reduceMul, Nat.zero_add, List.map, mpM, mpTL, mpT, mpSs, mpS, mpCs, mpC, mpN, lk, idN, keys, resT, ro] <;> exact rfl) rfl (by dsimp only [selT, selM, hasN, app, slotsOf, guardS, nth, opS, opsS, partsS, mpCap, Nat.reduceAdd, Nat.reduceMul, Nat.zero_add, List.map, mpM, mpTL, mpT, mpSs, mpS, mpCs, mpC, mpN, lk, idN, keys, resT, ro, rnN, rn, SV.cells, slotOf] <;> exact rfl) rfl (by dsimp only [mpCap, Nat.reduceAdd, Nat.reduceMul, Nat.zero_add, List.map, mpM, mpTL, mpT, mpSs, mpS, mpCs, mpC, mpN, lk, idN, keys, resT, ro] <;> exact rfl) rfl rfl rfl rfl ?_ | refine ed_sure (by dsimp only [selT, selM, hasN, app, slotsOf, guardS, nth, opS, opsS, partsS] <;> exact rfl) (by dsimp only [selT, selM, hasN, app, slotsOf, guardS, nth, opS, opsS, partsS] <;> exact rfl) rfl rfl rfl rfl rfl rfl (by dsimp only [mpCap, Nat.reduceAdd, Nat.reduceMul, Nat.zero_add, List.map, mpM, mpTL, mpT, mpSs, mpS, mpCs, mpC, mpN, lk, idN, keys, resT, ro] <;> exact rfl) rfl (by dsimp only [selT, selM, hasN, app, slotsOf, guardS, nth, opS, opsS, partsS, mpCap, Nat.reduceAdd, Nat.reduceMul, Nat.zero_add, List.map, mpM, mpTL, mpT, mpSs, mpS, mpCs, mpC, mpN, lk, idN, keys, resT, ro, rnN, rn, SV.cells, slotOf] <;> exact rfl) rfl (by dsimp only [mpCap, Nat.reduceAdd, Nat.reduceMul, Nat.zero_add, List.map, mpM, mpTL, mpT, mpSs, mpS, mpCs, mpC, mpN, lk, idN, keys, resT, ro] <;> exact rfl) rfl rfl rfl rfl ?_ | refine ed_cons (by dsimp only [selT, selM, hasN, app, slotsOf, guardS, nth, opS, opsS, partsS] <;> exact rfl) (by dsimp only [selT, selM, hasN, app, slotsOf, guardS, nth, opS, opsS, partsS] <;> exact rfl) rfl rfl rfl (by dsimp only [selT, selM, hasN, app, slotsOf, guardS, nth, opS, opsS, partsS, mpCap, Nat.reduceAdd, Nat.reduceMul, Nat.zero_add, List.map, mpM, mpTL, mpT, mpSs, mpS, mpCs, mpC, mpN, lk, idN, keys, resT, ro, rnN, rn, SV.cells, slotOf] <;> exact rfl) rfl rfl rfl rfl ?_); dsimp only [rnCap, capSVs, Int.toNat_natCast, ro, Nat.reduceAdd, Nat.reduceMul, Nat.zero_add, List.map, putT, app, wrapG, gOb, argT, keys, slotOf, dropped, gAnd, wB, rnT, rnS, rnC, rnCs, rnSs, rnM, rnB, rnN, rn, lk, St.over, ded, delL, keepT, menT, menSs, menS, menCs, menC, hasN, resT, SV.cells, c_Mesh, mpM, mpTL, mpT, mpSs, mpS, mpCs, mpC, mpN, rnN, rn, keys, mpM, mpTL, mpT, mpSs, mpS, mpCs, mpC, mpN, selT, selM, hasN, app, slotsOf, guardS, nth, opS, opsS, partsS]) | (refine ed_nil ?_; subst hK_; dsimp only [revApp]; refine Exists.intro _ (And.intro rfl (And.intro (by kernel_rfl) (And.intro ?_ ?_))); rotate_left; (try dsimp only [rnCap, capSVs, Int.toNat_natCast, ro, Nat.reduceAdd, Nat.reduceMul, Nat.zero_add, List.map, putT, app, wrapG, gOb, argT, keys, slotOf, dropped, gAnd, wB, rnT, rnS, rnC, rnCs, rnSs, rnM, rnB, rnN, rn, lk, St.over, ded, delL, keepT, menT, menSs, menS, menCs, menC, hasN, resT, SV.cells, c_Mesh, mpM, mpTL, mpT, mpSs, mpS, mpCs, mpC, mpN]); rotate_right; dsimp only [rnCap, capSVs, Int.toNat_natCast, ro, Nat.reduceAdd, Nat.reduceMul, Nat.zero_add, List.map, putT, app, wrapG, gOb, argT, keys, slotOf, dropped, gAnd, wB, rnT, rnS, rnC, rnCs, rnSs, rnM, rnB, rnN, rn, lk, St.over, ded, delL, keepT, menT, menSs, menS, menCs, menC, hasN, resT, SV.cells, c_Mesh, mpM, mpTL, mpT, mpSs, mpS, mpCs, mpC, mpN, endT, endM, endU, insN, addN]))) | (first | ((first | refine ar_region tt_ok (inps := []) rfl ?_ ?_); rotate_left; (try dsimp only [rnCap, capSVs, Int.toNat_natCast, ro, Nat.reduceAdd, Nat.reduceMul, Nat.zero_add, List.map, putT, app, wrapG, gOb, argT, keys, slotOf, dropped, gAnd, wB, rnT, rnS, rnC, rnCs, rnSs, rnM, rnB, rnN, rn, lk, St.over, ded, delL, keepT, menT, menSs, menS, menCs, menC, hasN, resT, SV.cells, c_Mesh, mpM, mpTL, mpT, mpSs, mpS, mpCs, mpC, mpN]); rotate_right) | ((first | refine ar_ret ?_ | refine ar_end ?_); refine fin_auto2 rfl (by dsimp only [mpCap, Nat.reduceAdd, Nat.reduceMul, Nat.zero_add, List.map, mpM, mpTL, mpT, mpSs, mpS, mpCs, mpC, mpN, lk, idN, keys, resT, ro] <;> exact rfl) (by dsimp only [xCap, okCap, rnCap, Nat.reduceAdd, Nat.reduceMul, Nat.zero_add, List.map, wkOb, finOb, xTL, xM, xT, xSs, xS, xCs, xC, xB, okTL, okML, okT, okSs, okS, okCs, okC, okB, nodupN, rnN, allIn, fixed, rn, lk, hasN, app, SV.cells, ro, keys, resT] <;> exact rfl) ?_)) | (refine ar_cond rfl trivial ?_ ?_ <;> intro hc_ <;> (try simp only [isNilI, inB, reduceCtorEq, cds] at hc_) <;> (try (first | contradiction | (exfalso; omega)))) | refine ar_until (And.intro ?_ (wk_auto2 (by dsimp only [mpCap, Nat.reduceAdd, Nat.reduceMul, Nat.zero_add, List.map, mpM, mpTL, mpT, mpSs, mpS, mpCs, mpC, mpN, lk, idN, keys, resT, ro] <;> exact rfl) (by dsimp only [xCap, okCap, rnCap, Nat.reduceAdd, Nat.reduceMul, Nat.zero_add, List.map, wkOb, finOb, xTL, xM, xT, xSs, xS, xCs, xC, xB, okTL, okML, okT, okSs, okS, okCs, okC, okB, nodupN, rnN, allIn, fixed, rn, lk, hasN, app, SV.cells, ro, keys, resT] <;> exact rfl) ?_)))
      all_goals (first | refine ar_id ?_ | (try (focus ((try dsimp only [okX, GlAll, app, gOb, All, gAnd, wB, rnT, rnS, rnC, rnCs, rnSs, rnB, rn, lk, obD]); (repeat' (first | exact True.intro | refine And.intro ?_ ?_)); all_goals (try (intro (hg_ : _ = true); (try simp only [isNilI, inB, reduceCtorEq, cds] at hg_); (repeat' (first | exact True.intro | refine And.intro ?_ ?_)))); all_goals (first | first | with_reducible rfl | omega | exact Nat.le_refl _ | exact congrArg (Value.int .i64) (by omega) | (simp only [List.length_map]; first | done | omega) | (simp only [lns]; omega) | exact i64_ok (by omega) (by omega) | exact elem_map (fun _ => rfl) (by assumption) | exact elem_map (fun _ => rfl) (getD_at (by omega)) | exact elem_map' (fun _ => rfl) (by omega) | exact map_at (by omega) | exact set_at (by simp only [lns]; omega) | (rw [List.length_replicate, Int.toNat_natCast] at *; omega) | assumption | decide | exact fn_Mesh _ _ | exact hin _ (by omega) | exact hel _ (by omega) | exact hpr0 _ (by omega) | exact hpr1 _ (by omega) | skip)))))
      · show _ = Value.bool (Bool.or (anyTo l p i) (Bool.or (rowAny l p i j) (meshAt l (p.getD i 0).toNat (p.getD (l.length / 2 + j) 0).toNat)))
        refine congrArg Value.bool ?_
        show (bif (Bool.or (anyTo l p i) (rowAny l p i j)) then true else meshAt l (p.getD i 0).toNat (p.getD (l.length / 2 + j) 0).toNat) = _
        cases anyTo l p i <;> cases rowAny l p i j <;> rfl
      · rw [show j = l.length - l.length / 2 by omega]; rfl
      · show _ = Value.bool (Bool.or (anyTo l p i) false)
        rw [Bool.or_false]
    · rw [List.length_map, show i = l.length / 2 by omega]; exact hfin
    · rw [List.length_map, show i = l.length / 2 by omega]; exact hfin
    · rw [List.length_map, List.length_map, show i = l.length / 2 by omega, hfin, hg1]; rfl
    · rw [List.length_map, hd2]
end Eng
end Go.Proofs.YthcgaeodcoidnaaDoor

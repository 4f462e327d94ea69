/- Groups of spans as they are drawn, by a symbolic run. -/
import Derived.Test.YthkjbjgpdapnpaaDoorEDr10
namespace Go.Proofs.YthkjbjgpdapnpaaDoor
open Go.RowKit
set_option linter.unusedVariables false
set_option linter.unusedSimpArgs false
set_option maxRecDepth 100000
namespace Eng
open Tr
/-- spans of one class, one of which may be any -/
def dAnyL (bs : List Int) (c : Cu) (m : Nat) : List GSpan × Cu :=
  let l := dList bs c m
  if l.1.length = 0 then l
  else
    let o := dBelow bs l.2 6
    if o.1 = 0 then (l.1.set (dBelow bs o.2 l.1.length).1.toNat (dAny bs (dBelow bs o.2 l.1.length).2).1, (dAny bs (dBelow bs o.2 l.1.length).2).2) else (l.1, o.2)
theorem dAnyL_ok {bs : List Int} {c : Cu} (m : Nat) (hm : m ≤ 20) (h : okCu bs c) : okCu bs (dAnyL bs c m).2 ∧ (dAnyL bs c m).1.length ≤ m := by
  obtain ⟨h1, h2, _⟩ := dList_facts m hm h
  unfold dAnyL
  simp only
  repeat' split
  · exact ⟨h1, h2⟩
  · exact ⟨dAny_ok (dBelow_ok _ (dBelow_ok _ h1)), by show (List.set _ _ _).length ≤ _; rw [List.length_set]; exact h2⟩
  · exact ⟨dBelow_ok _ h1, h2⟩
/-- the spans of a list that can share a frame, taken one behind the other -/
def grp (l : List GSpan) : Nat → List GSpan
  | 0 => []
  | i + 1 => if gOk (grp l i ++ [l.getD i spD]) then grp l i ++ [l.getD i spD] else grp l i
theorem grp_len (l : List GSpan) : ∀ i, (grp l i).length ≤ i
  | 0 => Nat.le_refl _
  | i + 1 => by
    have := grp_len l i
    unfold grp
    split
    · rw [List.length_append, List.length_cons, List.length_nil]; omega
    · omega
theorem grp_ok (l : List GSpan) : ∀ i, grp l i = [] ∨ gOk (grp l i)
  | 0 => .inl rfl
  | i + 1 => by
    have := grp_ok l i
    unfold grp
    split
    · rename_i h; exact .inr h
    · exact this
def dGrp (bs : List Int) (c : Cu) : List GSpan × Cu := (grp (dList bs c 6).1 (dList bs c 6).1.length, (dList bs c 6).2)
theorem dGrp_facts {bs : List Int} {c : Cu} (hc : okCu bs c) : okCu bs (dGrp bs c).2 ∧ (dGrp bs c).1.length ≤ 6 ∧ ((dGrp bs c).1 = [] ∨ gOk (dGrp bs c).1) := by
  obtain ⟨h1, h2, _⟩ := dList_facts 6 (by decide) hc
  exact ⟨h1, Nat.le_trans (grp_len _ _) h2, grp_ok _ _⟩
/-- the group that is drawn -/
def dGO (bs : List Int) : List GSpan :=
  let o := dBelow bs (dNew bs) 2
  if o.1 = 0 then (dGrp bs o.2).1 else (dAnyL bs o.2 4).1
theorem dGO_len {bs : List Int} (hl : bs.length ≤ 2097152) (hb : ∀ x ∈ bs, 0 ≤ x ∧ x ≤ 255) : (dGO bs).length ≤ 6 := by
  have o1 := dBelow_ok (bs := bs) 2 (dNew_ok hl hb)
  unfold dGO
  simp only
  split
  · exact (dGrp_facts o1).2.1
  · exact Nat.le_trans (dAnyL_ok 4 (by decide) o1).2 (by decide)
/-- the valid spans that are drawn -/
def c_DrawSps (bs : List Int) (l : List GSpan) : CFD := ⟨6, [.one (ro 5 1 eU bs)], [], .sv (.one (.hd 0)), [(0, some (.row 35 3 (l.map eSpan)))], [0], []⟩
theorem fn_DrawSps (bs : List Int) (l : List GSpan) (hl : bs.length ≤ 2097152) (hb : ∀ x ∈ bs, 0 ≤ x ∧ x ≤ 255) (h : (dList bs (dNew bs) 8).1 = l) : Fn Tryd.prog (c_DrawSps bs l) := by
  have hc := dNew_ok hl hb
  obtain ⟨r, hr⟩ : ∃ r, dList bs (dNew bs) 8 = r := ⟨_, rfl⟩
  rw [hr] at h
  subst h
  refine fn_intro tt_ok Tryd.func6 rfl Tryd.call6 Tryd.ntmps6 Tryd.results6 rfl rfl rfl rfl ?_
  intro X ρ0 hb_ hgl_
  dsimp only [c_DrawSps, rnCap, capSVs, Int.toNat_natCast, ro, Nat.reduceAdd, Nat.reduceMul, Nat.zero_add, List.map, putT, app, wrapG, gOb, argT, keys, slotOf, dropped, gAnd, wB, rnT, rnS, rnC, rnCs, rnSs, rnM, rnB, rnN, rn, lk, St.over, ded, delL, keepT, menT, menSs, menS, menCs, menC, hasN, resT, SV.cells]
  repeat' (refine ar_id ?_; first | refine ar_seq ?_ | refine ar_block ?_ | refine ar_blk ?_ | refine ar_skip ?_ | refine ar_label ?_ | refine ar_exit rfl ?_ | refine ar_scope ?_ | refine ar_scp ?_ | (refine ar_run (id := 1) [.call (c_NewC bs), .call (c_ListR bs (dNew bs) 8 r)] ?_; generalize hQ_ : kont _ _ _ _ = Q_; repeat' (first | (focus ((first | refine as_call tt_ok rfl rfl rfl rfl rfl rfl (by dsimp only [mpCap, Nat.reduceAdd, Nat.reduceMul, Nat.zero_add, List.map, mpM, mpTL, mpO, mpB, lkO, mpT, mpSs, mpS, mpCs, mpC, mpN, lk, idN, keys, resT, ro] <;> exact rfl) rfl rfl rfl rfl ?_ ?_ | refine as_sure tt_ok rfl rfl rfl rfl rfl rfl (by dsimp only [mpCap, Nat.reduceAdd, Nat.reduceMul, Nat.zero_add, List.map, mpM, mpTL, mpO, mpB, lkO, mpT, mpSs, mpS, mpCs, mpC, mpN, lk, idN, keys, resT, ro] <;> exact rfl) rfl rfl rfl rfl ?_ ?_ | refine as_cons tt_ok rfl rfl rfl rfl rfl rfl ?_ ?_); dsimp only [rnCap, capSVs, Int.toNat_natCast, ro, Nat.reduceAdd, Nat.reduceMul, Nat.zero_add, List.map, putT, app, wrapG, gOb, argT, keys, slotOf, dropped, gAnd, wB, rnT, rnS, rnC, rnCs, rnSs, rnM, rnB, rnN, rn, lk, St.over, ded, delL, keepT, menT, menSs, menS, menCs, menC, hasN, resT, SV.cells, c_ListR, c_NewC, mpM, mpTL, mpO, mpB, lkO, mpT, mpSs, mpS, mpCs, mpC, mpN]; rotate_left)) | (subst hQ_; refine as_nil ?_))) | (first | ((first | refine ar_region tt_ok (inps := []) rfl ?_ ?_); rotate_left; (try dsimp only [rnCap, capSVs, Int.toNat_natCast, ro, Nat.reduceAdd, Nat.reduceMul, Nat.zero_add, List.map, putT, app, wrapG, gOb, argT, keys, slotOf, dropped, gAnd, wB, rnT, rnS, rnC, rnCs, rnSs, rnM, rnB, rnN, rn, lk, St.over, ded, delL, keepT, menT, menSs, menS, menCs, menC, hasN, resT, SV.cells, c_ListR, c_NewC, mpM, mpTL, mpO, mpB, lkO, mpT, mpSs, mpS, mpCs, mpC, mpN]); rotate_right) | ((first | refine ar_ret ?_ | refine ar_end ?_); refine fin_auto2 rfl (by dsimp only [mpCap, Nat.reduceAdd, Nat.reduceMul, Nat.zero_add, List.map, mpM, mpTL, mpO, mpB, lkO, mpT, mpSs, mpS, mpCs, mpC, mpN, lk, idN, keys, resT, ro] <;> exact rfl) (by dsimp only [xCap, okCap, rnCap, Nat.reduceAdd, Nat.reduceMul, Nat.zero_add, List.map, wkOb, finOb, xTL, xM, xT, xSs, xS, xCs, xC, xB, okTL, okML, okT, okSs, okS, okCs, okC, okB, nodupN, rnN, allIn, fixed, rn, lk, hasN, app, SV.cells, ro, keys, resT] <;> exact rfl) ?_)) | (refine ar_cond rfl trivial ?_ ?_ <;> intro hc_ <;> (try simp only [isNilI, inB, reduceCtorEq, cds] at hc_) <;> (try (first | contradiction | (exfalso; omega)))) | refine ar_until (And.intro ?_ (wk_auto2 (by dsimp only [mpCap, Nat.reduceAdd, Nat.reduceMul, Nat.zero_add, List.map, mpM, mpTL, mpO, mpB, lkO, mpT, mpSs, mpS, mpCs, mpC, mpN, lk, idN, keys, resT, ro] <;> exact rfl) (by dsimp only [xCap, okCap, rnCap, Nat.reduceAdd, Nat.reduceMul, Nat.zero_add, List.map, wkOb, finOb, xTL, xM, xT, xSs, xS, xCs, xC, xB, okTL, okML, okT, okSs, okS, okCs, okC, okB, nodupN, rnN, allIn, fixed, rn, lk, hasN, app, SV.cells, ro, keys, resT] <;> exact rfl) ?_)))
  all_goals (first | refine ar_id ?_ | (try (focus ((try dsimp only [okX, GlAll, app, gOb, All, gAnd, wB, rnT, rnS, rnC, rnCs, rnSs, rnB, rn, lk, obD]); (repeat' (first | exact True.intro | refine And.intro ?_ ?_)); all_goals (try (intro (hg_ : _ = true); (try simp only [isNilI, inB, reduceCtorEq, cds] at hg_); (repeat' (first | exact True.intro | refine And.intro ?_ ?_)))); all_goals (first | first | with_reducible rfl | omega | exact Nat.le_refl _ | exact congrArg (Value.int .i64) (by omega) | (simp only [List.length_map]; first | done | omega) | (simp only [lns]; omega) | exact i64_ok (by omega) (by omega) | exact elem_map (fun _ => rfl) (by assumption) | exact elem_map (fun _ => rfl) (getD_at (by omega)) | exact elem_map' (fun _ => rfl) (by omega) | exact map_at (by omega) | exact set_at (by simp only [lns]; omega) | (rw [List.length_replicate, Int.toNat_natCast] at *; omega) | assumption | decide | exact fn_NewC bs hl hb | exact fn_ListR _ _ _ _ hc (by decide) hr | skip)))))
  all_goals trace_state
end Eng
end Go.Proofs.YthkjbjgpdapnpaaDoor

/- Loops whose length is drawn; picks out of a list, by a symbolic run. -/
import Derived.Test.YtmeahaaibncmmaaDoorEDr
import Derived.Test.YtmeahaaibncmmaaDoorEngY
namespace Go.Proofs.YtmeahaaibncmmaaDoor
open Go.RowKit
set_option linter.unusedVariables false
set_option linter.unusedSimpArgs false
set_option maxRecDepth 100000
namespace Eng
open Tr
section
variable {σ : Type} (test : Nat → σ → Bool × σ) (step : Nat → σ → σ)
/-- a loop whose test draws: at most so many rounds more, from round i on -/
def wGo : Nat → Nat → σ → σ
  | 0, i, s => (test i s).2
  | f + 1, i, s => if (test i s).1 = true then wGo f (i + 1) (step i (test i s).2) else (test i s).2
/-- the state ahead of round i -/
def wS (s0 : σ) : Nat → σ
  | 0 => s0
  | i + 1 => step i (test i (wS s0 i)).2
theorem wGo_in {N f i : Nat} {s : σ} (h : (test i s).1 = true) (hf : f = N - i) (hi : i < N) : wGo test step f i s = wGo test step (N - (i + 1)) (i + 1) (step i (test i s).2) := by
  rw [show f = (N - (i + 1)) + 1 by omega]
  exact if_pos h
theorem wGo_out {f i : Nat} {s : σ} (h : (test i s).1 = false) : wGo test step f i s = (test i s).2 := by
  cases f with
  | zero => rfl
  | succ f => exact if_neg (by rw [h]; exact Bool.false_ne_true)
/-- what each round keeps, holds at the end -/
theorem wGo_inv (I : Nat → σ → Prop) (Q : σ → Prop) (ht : ∀ i s, I i s → Q (test i s).2) (hs : ∀ i s, I i s → (test i s).1 = true → I (i + 1) (step i (test i s).2)) : ∀ (f i : Nat) (s : σ), I i s → Q (wGo test step f i s)
  | 0, i, s, h => ht i s h
  | f + 1, i, s, h => by
    unfold wGo
    split
    · rename_i h1
      exact wGo_inv I Q ht hs f (i + 1) _ (hs i s h h1)
    · exact ht i s h
end
/-- the same contracts, of results with a name -/
def c_BelowR (bs : List Int) (c : Cu) (n : Int) (r : Int × Cu) : CFD := ⟨46, [.one (.box 0 0), (SV.one (.lit (.int .i64 (n))))], [(0, some (.box 54 [ro 5 1 eU bs, (CV.lit (.int .i64 (((c).i : Int)))), (CV.lit (.int .i64 ((c).h)))]))], (TV.sv (.one (.lit (.int .i64 (r.1))))), [(0, some (.box 54 [ro 5 1 eU bs, (CV.lit (.int .i64 (((r.2).i : Int)))), (CV.lit (.int .i64 ((r.2).h)))]))], [], []⟩
theorem fn_BelowR (bs : List Int) (c : Cu) (n : Int) (r : Int × Cu) (hc : okCu bs c) (h : dBelow bs c n = r) : Fn Tryd.prog (c_BelowR bs c n r) := h ▸ fn_Below bs c n hc
def c_OnceR (bs : List Int) (c : Cu) (n : Int) (r : Int × Cu) : CFD := ⟨33, [.one (.box 0 0), (SV.one (.lit (.int .i64 (n))))], [(0, some (.box 54 [ro 5 1 eU bs, (CV.lit (.int .i64 (((c).i : Int)))), (CV.lit (.int .i64 ((c).h)))]))], (TV.sv (.one (.lit (.bool (r.1 == 0))))), [(0, some (.box 54 [ro 5 1 eU bs, (CV.lit (.int .i64 (((r.2).i : Int)))), (CV.lit (.int .i64 ((r.2).h)))]))], [], []⟩
theorem fn_OnceR (bs : List Int) (c : Cu) (n : Int) (r : Int × Cu) (hc : okCu bs c) (h : dBelow bs c n = r) : Fn Tryd.prog (c_OnceR bs c n r) := h ▸ fn_Once bs c n hc
def dPick (bs : List Int) (c : Cu) (l : List Int) : Int × Cu := (l.getD (dBelow bs c l.length).1.toNat 0, (dBelow bs c l.length).2)
theorem dPick_ok {bs : List Int} {c : Cu} (l : List Int) (h : okCu bs c) : okCu bs (dPick bs c l).2 := dBelow_ok _ h
theorem dPick_mem (bs : List Int) (c : Cu) {l : List Int} (h : 0 < l.length) : (dPick bs c l).1 ∈ l := by
  have := dBelow_lt bs c l.length (by omega)
  exact getD_in (by omega)
/-- (the list is handed as a row of the caller's own) -/
def c_PickR (bs : List Int) (c : Cu) (l : List Int) (r : Int × Cu) : CFD := ⟨55, [.one (.box 0 0), .one (.hd 1)], [(0, some (.box 54 [ro 5 1 eU bs, (CV.lit (.int .i64 (((c).i : Int)))), (CV.lit (.int .i64 ((c).h)))])), (1, some (.row 3 1 (l.map Tr.eI)))], (TV.sv (.one (.lit (.int .i64 (r.1))))), [(0, some (.box 54 [ro 5 1 eU bs, (CV.lit (.int .i64 (((r.2).i : Int)))), (CV.lit (.int .i64 ((r.2).h)))])), (1, some (.row 3 1 (l.map Tr.eI)))], [], []⟩
theorem fn_PickR (bs : List Int) (c : Cu) (l : List Int) (r : Int × Cu) (hc : okCu bs c) (h0 : 0 < l.length) (h : dPick bs c l = r) : Fn Tryd.prog (c_PickR bs c l r) := by
  obtain ⟨d, hd⟩ : ∃ d, dBelow bs c l.length = d := ⟨_, rfl⟩
  have hd2 : 0 ≤ d.1 ∧ d.1 < l.length := hd ▸ dBelow_lt bs c l.length (by omega)
  have hV : r = (l.getD d.1.toNat 0, d.2) := by rw [← h]; unfold dPick; rw [hd]
  subst hV
  have hlm : (((l.map Tr.eI).length : Nat) : Int) = (l.length : Int) := by rw [List.length_map]
  refine fn_intro tt_ok Tryd.func55 rfl Tryd.call55 Tryd.ntmps55 Tryd.results55 rfl rfl rfl rfl ?_
  intro X ρ0 hb_ hgl_
  dsimp only [c_PickR, rnCap, capSVs, Int.toNat_natCast, ro, Nat.reduceAdd, Nat.reduceMul, Nat.zero_add, List.map, putT, app, wrapG, gOb, argT, keys, slotOf, dropped, gAnd, wB, rnT, rnS, rnC, rnCs, rnSs, rnM, rnB, rnN, rn, lk, St.over, ded, delL, keepT, menT, menSs, menS, menCs, menC, hasN, resT, SV.cells]
  repeat' (refine ar_id ?_; first | refine ar_seq ?_ | refine ar_block ?_ | refine ar_blk ?_ | refine ar_skip ?_ | refine ar_label ?_ | refine ar_exit rfl ?_ | refine ar_scope ?_ | refine ar_scp ?_ | (refine ar_run (id := 1) [.call (c_BelowR bs c l.length d), .elem (Tr.eI (l.getD d.1.toNat 0))] ?_; generalize hQ_ : kont _ _ _ _ = Q_; repeat' (first | (focus ((first | refine as_call tt_ok rfl rfl rfl rfl rfl rfl (by dsimp only [mpCap, Nat.reduceAdd, Nat.reduceMul, Nat.zero_add, List.map, mpM, mpTL, mpT, mpSs, mpS, mpCs, mpC, mpN, lk, idN, keys, resT, ro] <;> exact rfl) rfl rfl rfl rfl ?_ ?_ | refine as_sure tt_ok rfl rfl rfl rfl rfl rfl (by dsimp only [mpCap, Nat.reduceAdd, Nat.reduceMul, Nat.zero_add, List.map, mpM, mpTL, mpT, mpSs, mpS, mpCs, mpC, mpN, lk, idN, keys, resT, ro] <;> exact rfl) rfl rfl rfl rfl ?_ ?_ | refine as_cons tt_ok rfl rfl rfl rfl rfl rfl ?_ ?_); dsimp only [rnCap, capSVs, Int.toNat_natCast, ro, Nat.reduceAdd, Nat.reduceMul, Nat.zero_add, List.map, putT, app, wrapG, gOb, argT, keys, slotOf, dropped, gAnd, wB, rnT, rnS, rnC, rnCs, rnSs, rnM, rnB, rnN, rn, lk, St.over, ded, delL, keepT, menT, menSs, menS, menCs, menC, hasN, resT, SV.cells, c_BelowR, mpM, mpTL, mpT, mpSs, mpS, mpCs, mpC, mpN]; rotate_left)) | (subst hQ_; refine as_nil ?_))) | (first | ((first | refine ar_region tt_ok (inps := []) rfl ?_ ?_); rotate_left; (try dsimp only [rnCap, capSVs, Int.toNat_natCast, ro, Nat.reduceAdd, Nat.reduceMul, Nat.zero_add, List.map, putT, app, wrapG, gOb, argT, keys, slotOf, dropped, gAnd, wB, rnT, rnS, rnC, rnCs, rnSs, rnM, rnB, rnN, rn, lk, St.over, ded, delL, keepT, menT, menSs, menS, menCs, menC, hasN, resT, SV.cells, c_BelowR, mpM, mpTL, mpT, mpSs, mpS, mpCs, mpC, mpN]); rotate_right) | ((first | refine ar_ret ?_ | refine ar_end ?_); refine fin_auto2 rfl (by dsimp only [mpCap, Nat.reduceAdd, Nat.reduceMul, Nat.zero_add, List.map, mpM, mpTL, mpT, mpSs, mpS, mpCs, mpC, mpN, lk, idN, keys, resT, ro] <;> exact rfl) (by dsimp only [xCap, okCap, rnCap, Nat.reduceAdd, Nat.reduceMul, Nat.zero_add, List.map, wkOb, finOb, xTL, xM, xT, xSs, xS, xCs, xC, xB, okTL, okML, okT, okSs, okS, okCs, okC, okB, nodupN, rnN, allIn, fixed, rn, lk, hasN, app, SV.cells, ro, keys, resT] <;> exact rfl) ?_)) | (refine ar_cond rfl trivial ?_ ?_ <;> intro hc_ <;> (try simp only [isNilI, inB, reduceCtorEq, cds] at hc_) <;> (try (first | contradiction | (exfalso; omega)))) | refine ar_until (And.intro ?_ (wk_auto2 (by dsimp only [mpCap, Nat.reduceAdd, Nat.reduceMul, Nat.zero_add, List.map, mpM, mpTL, mpT, mpSs, mpS, mpCs, mpC, mpN, lk, idN, keys, resT, ro] <;> exact rfl) (by dsimp only [xCap, okCap, rnCap, Nat.reduceAdd, Nat.reduceMul, Nat.zero_add, List.map, wkOb, finOb, xTL, xM, xT, xSs, xS, xCs, xC, xB, okTL, okML, okT, okSs, okS, okCs, okC, okB, nodupN, rnN, allIn, fixed, rn, lk, hasN, app, SV.cells, ro, keys, resT] <;> exact rfl) ?_)))
  all_goals (first | refine ar_id ?_ | (try (focus ((try dsimp only [okX, GlAll, app, gOb, All, gAnd, wB, rnT, rnS, rnC, rnCs, rnSs, rnB, rn, lk, obD]); (repeat' (first | exact True.intro | refine And.intro ?_ ?_)); all_goals (try (intro (hg_ : _ = true); (try simp only [isNilI, inB, reduceCtorEq, cds] at hg_); (repeat' (first | exact True.intro | refine And.intro ?_ ?_)))); all_goals (first | first | with_reducible rfl | omega | exact Nat.le_refl _ | exact congrArg (Value.int .i64) (by omega) | (simp only [List.length_map]; first | done | omega) | (simp only [lns]; omega) | exact i64_ok (by omega) (by omega) | exact elem_map (fun _ => rfl) (by assumption) | exact elem_map (fun _ => rfl) (getD_at (by omega)) | exact elem_map' (fun _ => rfl) (by omega) | exact map_at (by omega) | exact set_at (by simp only [lns]; omega) | (rw [List.length_replicate, Int.toNat_natCast] at *; omega) | assumption | decide | exact fn_BelowR _ _ _ _ hc hd | exact congrArg (Value.int .i64) hlm | exact map_at (by omega) | skip)))))
  all_goals trace_state
end Eng
end Go.Proofs.YtmeahaaibncmmaaDoor

/- Kernels as they are drawn, by a symbolic run. -/
import Derived.Test.YtkcoejodhdnoiaaEDr
import Derived.Test.YtkcoejodhdnoiaaEngY
import Derived.Test.YtkcoejodhdnoiaaE05
import Derived.Test.YtkcoejodhdnoiaaE06
import Derived.Test.YtkcoejodhdnoiaaM08b
import Derived.Test.YtkcoejodhdnoiaaM05c
namespace Go.Proofs.Ytkcoejodhdnoiaa
open Go.RowKit
set_option linter.unusedVariables false
set_option linter.unusedSimpArgs false
set_option maxRecDepth 100000
namespace Eng
open Tr
/-- the same contracts, of results with a name -/
def c_BelowR (bs : List Int) (c : Cu) (n : Int) (r : Int × Cu) : CFD := ⟨15, [.one (.box 0 0), (SV.one (.lit (.int .i64 (n))))], [(0, some (.box 65 [ro 5 1 eU bs, (CV.lit (.int .i64 (((c).i : Int)))), (CV.lit (.int .i64 ((c).h)))]))], (TV.sv (.one (.lit (.int .i64 (r.1))))), [(0, some (.box 65 [ro 5 1 eU bs, (CV.lit (.int .i64 (((r.2).i : Int)))), (CV.lit (.int .i64 ((r.2).h)))]))], [], []⟩
theorem fn_BelowR (bs : List Int) (c : Cu) (n : Int) (r : Int × Cu) (hc : okCu bs c) (h : dBelow bs c n = r) : Fn Try.prog (c_BelowR bs c n r) := h ▸ fn_Below bs c n hc
def c_OnceR (bs : List Int) (c : Cu) (n : Int) (r : Int × Cu) : CFD := ⟨54, [.one (.box 0 0), (SV.one (.lit (.int .i64 (n))))], [(0, some (.box 65 [ro 5 1 eU bs, (CV.lit (.int .i64 (((c).i : Int)))), (CV.lit (.int .i64 ((c).h)))]))], (TV.sv (.one (.lit (.bool (r.1 == 0))))), [(0, some (.box 65 [ro 5 1 eU bs, (CV.lit (.int .i64 (((r.2).i : Int)))), (CV.lit (.int .i64 ((r.2).h)))]))], [], []⟩
theorem fn_OnceR (bs : List Int) (c : Cu) (n : Int) (r : Int × Cu) (hc : okCu bs c) (h : dBelow bs c n = r) : Fn Try.prog (c_OnceR bs c n r) := h ▸ fn_Once bs c n hc
/-- a table's entries as they are drawn, and the cursor -/
def tSt (bs : List Int) (c : Cu) (n : Nat) (fr : Int) : Nat → List GEntry × Cu
  | 0 => (List.replicate n ⟨0, 0⟩, c)
  | i + 1 =>
    let s := tSt bs c n fr i
    let o := dBelow bs s.2 3
    let a := dBelow bs o.2 2
    let b := dBelow bs a.2 fr
    if o.1 = 0 then (s.1, o.2) else (s.1.set i ⟨1 + a.1, b.1⟩, b.2)
theorem tSt_ok {bs : List Int} {c : Cu} (n : Nat) (fr : Int) (h : okCu bs c) : ∀ i, okCu bs (tSt bs c n fr i).2
  | 0 => h
  | i + 1 => by
    have h1 := tSt_ok n fr h i
    unfold tSt
    simp only
    split
    · exact dBelow_ok _ h1
    · exact dBelow_ok _ (dBelow_ok _ (dBelow_ok _ h1))
theorem tSt_len (bs : List Int) (c : Cu) (n : Nat) (fr : Int) : ∀ i, (tSt bs c n fr i).1.length = n
  | 0 => List.length_replicate
  | i + 1 => by
    have h1 := tSt_len bs c n fr i
    unfold tSt
    simp only
    split
    · exact h1
    · simpa using h1
theorem tSt_e (bs : List Int) (c : Cu) (n : Nat) {fr : Int} (hf : 0 < fr) : ∀ i, ∀ e ∈ (tSt bs c n fr i).1, okE fr e
  | 0 => fun e he => by rw [List.eq_of_mem_replicate he]; exact .inl ⟨rfl, rfl⟩
  | i + 1 => by
    have h1 := tSt_e bs c n hf i
    unfold tSt
    simp only
    split
    · exact h1
    · intro e he
      rcases List.mem_or_eq_of_mem_set he with h2 | h2
      · exact h1 e h2
      · have ha := dBelow_lt bs (dBelow bs (tSt bs c n fr i).2 3).2 2 (by decide)
        have hb := dBelow_lt bs (dBelow bs (dBelow bs (tSt bs c n fr i).2 3).2 2).2 fr hf
        rw [h2]
        exact .inr ⟨by show 1 + _ = (1 : Int) ∨ 1 + _ = (2 : Int); omega, hb⟩
def dTabN (bs : List Int) (c : Cu) : Nat := (1 + (dBelow bs c 8).1).toNat
def dTab (bs : List Int) (c : Cu) (fr : Int) : List GEntry × Cu := tSt bs (dBelow bs c 8).2 (dTabN bs c) fr (dTabN bs c)
def c_Tab (bs : List Int) (c : Cu) (fr : Int) : CFD := ⟨47, [.one (.box 0 0), (SV.one (.lit (.int .i64 (fr))))], [(0, some (.box 65 [ro 5 1 eU bs, (CV.lit (.int .i64 (((c).i : Int)))), (CV.lit (.int .i64 ((c).h)))]))], .sv (.agg [.hd 1]), [(0, some (.box 65 [ro 5 1 eU bs, (CV.lit (.int .i64 ((((dTab bs c fr).2).i : Int)))), (CV.lit (.int .i64 (((dTab bs c fr).2).h)))])), (1, some (.row 51 2 ((dTab bs c fr).1.map eEntry)))], [1], []⟩
def c_TNewR (n : Int) (l : List GEntry) : CFD := ⟨53, [(SV.one (.lit (.int .i64 (n))))], [], .tup [.agg [.hd 0], (SV.one (.lit (.bool (true))))], [(0, some (.row 51 2 (l.map eEntry)))], [0], []⟩
theorem fn_TNewR (n : Int) (h1 : 1 ≤ n) (h2 : n ≤ 32) : Fn Try.prog (c_TNewR n (List.replicate n.toNat ⟨0, 0⟩)) := by
  have := fn_TNew n
  unfold c_TNew at this
  rw [show pTableNew n = (⟨List.replicate n.toNat ⟨0, 0⟩⟩, true) from if_pos ⟨h1, h2⟩] at this
  exact this
theorem fn_Tab (bs : List Int) (c : Cu) (fr : Int) (hc : okCu bs c) (hf : 0 < fr) (hf2 : fr ≤ 100) : Fn Try.prog (c_Tab bs c fr) := by
  obtain ⟨p, hp⟩ : ∃ p, dBelow bs c 8 = p := ⟨_, rfl⟩
  have hp8 : 0 ≤ p.1 ∧ p.1 < 8 := hp ▸ dBelow_lt bs c 8 (by decide)
  have o1 : okCu bs p.2 := hp ▸ dBelow_ok _ hc
  have hV : dTab bs c fr = tSt bs p.2 (1 + p.1).toNat fr (1 + p.1).toNat := by unfold dTab dTabN; rw [hp]
  generalize hN : (1 + p.1).toNat = N at *
  have hok := tSt_ok (bs := bs) N fr o1
  have hlen := tSt_len bs p.2 N fr
  have hnew := fn_TNewR (1 + p.1) (by omega) (by omega)
  rw [hN] at hnew
  have hT0 : tSt bs p.2 N fr 0 = (List.replicate N ⟨0, 0⟩, p.2) := rfl
  have hTS : ∀ i, tSt bs p.2 N fr (i + 1) = if (dBelow bs (tSt bs p.2 N fr i).2 3).1 = 0 then ((tSt bs p.2 N fr i).1, (dBelow bs (tSt bs p.2 N fr i).2 3).2) else ((tSt bs p.2 N fr i).1.set i ⟨1 + (dBelow bs (dBelow bs (tSt bs p.2 N fr i).2 3).2 2).1, (dBelow bs (dBelow bs (dBelow bs (tSt bs p.2 N fr i).2 3).2 2).2 fr).1⟩, (dBelow bs (dBelow bs (dBelow bs (tSt bs p.2 N fr i).2 3).2 2).2 fr).2) := fun _ => rfl
  generalize tSt bs p.2 N fr = T at *
  refine fn_intro tt_ok Try.func47 rfl Try.call47 Try.ntmps47 Try.results47 rfl rfl rfl rfl ?_
  intro X ρ0 hb_ hgl_
  dsimp only [c_Tab, Int.toNat_natCast, ro, Nat.reduceAdd, Nat.reduceMul, Nat.zero_add, List.map, putT, app, wrapG, gOb, argT, keys, slotOf, dropped, gAnd, wB, rnT, rnS, rnC, rnCs, rnSs, rnM, rnB, rnN, rn, lk, St.over, ded, delL, keepT, menT, menSs, menS, menCs, menC, hasN, resT, SV.cells]
  rw [hV]
  repeat' (refine ar_id ?_; first | refine ar_seq ?_ | refine ar_block ?_ | refine ar_blk ?_ | refine ar_skip ?_ | refine ar_label ?_ | refine ar_exit rfl ?_ | refine ar_scope ?_ | refine ar_scp ?_ | (refine ar_run (id := 1) [.call (c_BelowR bs c 8 p), .call (c_TNewR (1 + p.1) (List.replicate N ⟨0, 0⟩))] ?_; generalize hQ_ : kont _ _ _ _ = Q_; repeat' (first | (focus ((first | refine as_call tt_ok rfl rfl rfl rfl rfl rfl (by dsimp only [Nat.reduceAdd, Nat.reduceMul, Nat.zero_add, List.map, mpM, mpTL, mpT, mpSs, mpS, mpCs, mpC, mpN, lk, idN, keys, resT, ro] <;> exact rfl) rfl rfl rfl rfl ?_ ?_ | refine as_sure tt_ok rfl rfl rfl rfl rfl rfl (by dsimp only [Nat.reduceAdd, Nat.reduceMul, Nat.zero_add, List.map, mpM, mpTL, mpT, mpSs, mpS, mpCs, mpC, mpN, lk, idN, keys, resT, ro] <;> exact rfl) rfl rfl rfl rfl ?_ ?_ | refine as_cons tt_ok rfl rfl rfl rfl rfl rfl ?_ ?_); dsimp only [Int.toNat_natCast, ro, Nat.reduceAdd, Nat.reduceMul, Nat.zero_add, List.map, putT, app, wrapG, gOb, argT, keys, slotOf, dropped, gAnd, wB, rnT, rnS, rnC, rnCs, rnSs, rnM, rnB, rnN, rn, lk, St.over, ded, delL, keepT, menT, menSs, menS, menCs, menC, hasN, resT, SV.cells, c_BelowR, c_TNewR, mpM, mpTL, mpT, mpSs, mpS, mpCs, mpC, mpN]; rotate_left)) | (subst hQ_; refine as_nil ?_))) | (first | ((first | refine ar_region tt_ok (inps := []) rfl ?_ ?_); rotate_left; (try dsimp only [Int.toNat_natCast, ro, Nat.reduceAdd, Nat.reduceMul, Nat.zero_add, List.map, putT, app, wrapG, gOb, argT, keys, slotOf, dropped, gAnd, wB, rnT, rnS, rnC, rnCs, rnSs, rnM, rnB, rnN, rn, lk, St.over, ded, delL, keepT, menT, menSs, menS, menCs, menC, hasN, resT, SV.cells, c_BelowR, c_TNewR, mpM, mpTL, mpT, mpSs, mpS, mpCs, mpC, mpN]); rotate_right) | ((first | refine ar_ret ?_ | refine ar_end ?_); refine fin_auto2 rfl (by dsimp only [Nat.reduceAdd, Nat.reduceMul, Nat.zero_add, List.map, mpM, mpTL, mpT, mpSs, mpS, mpCs, mpC, mpN, lk, idN, keys, resT, ro] <;> exact rfl) (by dsimp only [Nat.reduceAdd, Nat.reduceMul, Nat.zero_add, List.map, wkOb, finOb, xTL, xM, xT, xSs, xS, xCs, xC, xB, okTL, okML, okT, okSs, okS, okCs, okC, okB, nodupN, rnN, allIn, fixed, rn, lk, hasN, app, SV.cells, ro, keys, resT] <;> exact rfl) ?_)) | (refine ar_cond rfl trivial ?_ ?_ <;> intro hc_ <;> (try simp only [isNilI, inB, reduceCtorEq, cds] at hc_) <;> (try (first | contradiction | (exfalso; omega)))) | refine ar_until (And.intro ?_ (wk_auto2 (by dsimp only [Nat.reduceAdd, Nat.reduceMul, Nat.zero_add, List.map, mpM, mpTL, mpT, mpSs, mpS, mpCs, mpC, mpN, lk, idN, keys, resT, ro] <;> exact rfl) (by dsimp only [Nat.reduceAdd, Nat.reduceMul, Nat.zero_add, List.map, wkOb, finOb, xTL, xM, xT, xSs, xS, xCs, xC, xB, okTL, okML, okT, okSs, okS, okCs, okC, okB, nodupN, rnN, allIn, fixed, rn, lk, hasN, app, SV.cells, ro, keys, resT] <;> exact rfl) ?_)))
  all_goals (first | refine ar_id ?_ | (try (focus ((try dsimp only [okX, GlAll, app, gOb, All, gAnd, wB, rnT, rnS, rnC, rnCs, rnSs, rnB, rn, lk, obD]); (repeat' (first | exact True.intro | refine And.intro ?_ ?_)); all_goals (try (intro (hg_ : _ = true); (try simp only [isNilI, inB, reduceCtorEq, cds] at hg_); (repeat' (first | exact True.intro | refine And.intro ?_ ?_)))); all_goals (first | first | with_reducible rfl | omega | exact Nat.le_refl _ | exact congrArg (Value.int .i64) (by omega) | (simp only [List.length_map]; first | done | omega) | (simp only [lns]; omega) | exact i64_ok (by omega) (by omega) | exact elem_map (fun _ => rfl) (by assumption) | exact elem_map (fun _ => rfl) (getD_at (by omega)) | exact elem_map' (fun _ => rfl) (by omega) | exact map_at (by omega) | exact set_at (by simp only [lns]; omega) | (rw [List.length_replicate, Int.toNat_natCast] at *; omega) | assumption | decide | exact fn_BelowR _ _ _ _ hc hp | exact hnew | skip)))))
  refine ar_keep 179 (by dsimp only [keepS] <;> exact rfl) ?_
  refine ar_forM (N) (fun i => True) (fun i => [(7, (TV.sv (.one (.lit (.int .i64 (i))))))]) (fun i => [(13000, some (.row 51 2 ((T i).1.map eEntry))), (0, some ((.box 65 [ro 5 1 eU bs, (CV.lit (.int .i64 ((((T i).2).i : Int)))), (CV.lit (.int .i64 (((T i).2).h)))])))]) ?_ ?_ ?_
  rotate_left
  · first | trivial | simp
  (dsimp only [Int.toNat_natCast, ro, Nat.reduceAdd, Nat.reduceMul, Nat.zero_add, List.map, putT, app, wrapG, gOb, argT, keys, slotOf, dropped, gAnd, wB, rnT, rnS, rnC, rnCs, rnSs, rnM, rnB, rnN, rn, lk, St.over, ded, delL, keepT, menT, menSs, menS, menCs, menC, hasN, resT, SV.cells]; refine wk_auto2 (by dsimp only [Nat.reduceAdd, Nat.reduceMul, Nat.zero_add, List.map, mpM, mpTL, mpT, mpSs, mpS, mpCs, mpC, mpN, lk, idN, keys, resT, ro] <;> exact rfl) (by dsimp only [Nat.reduceAdd, Nat.reduceMul, Nat.zero_add, List.map, wkOb, finOb, xTL, xM, xT, xSs, xS, xCs, xC, xB, okTL, okML, okT, okSs, okS, okCs, okC, okB, nodupN, rnN, allIn, fixed, rn, lk, hasN, app, SV.cells, ro, keys, resT] <;> exact rfl) ?_; (focus ((try dsimp only [okX, GlAll, app, gOb, All, gAnd, wB, rnT, rnS, rnC, rnCs, rnSs, rnB, rn, lk, obD]); (repeat' (first | exact True.intro | refine And.intro ?_ ?_)); all_goals (try (intro (hg_ : _ = true); (try simp only [isNilI, inB, reduceCtorEq, cds] at hg_); (repeat' (first | exact True.intro | refine And.intro ?_ ?_)))); all_goals (first | first | with_reducible rfl | omega | exact Nat.le_refl _ | exact congrArg (Value.int .i64) (by omega) | (simp only [List.length_map]; first | done | omega) | (simp only [lns]; omega) | exact i64_ok (by omega) (by omega) | exact elem_map (fun _ => rfl) (by assumption) | exact elem_map (fun _ => rfl) (getD_at (by omega)) | exact elem_map' (fun _ => rfl) (by omega) | exact map_at (by omega) | exact set_at (by simp only [lns]; omega) | (rw [List.length_replicate, Int.toNat_natCast] at *; omega) | assumption | decide | exact rfl | skip))))
  rotate_right
  intro i hi_ hiI_
  dsimp only [Int.toNat_natCast, ro, Nat.reduceAdd, Nat.reduceMul, Nat.zero_add, List.map, putT, app, wrapG, gOb, argT, keys, slotOf, dropped, gAnd, wB, rnT, rnS, rnC, rnCs, rnSs, rnM, rnB, rnN, rn, lk, St.over, ded, delL, keepT, menT, menSs, menS, menCs, menC, hasN, resT, SV.cells]
  obtain ⟨o, ho⟩ : ∃ o, dBelow bs (T i).2 3 = o := ⟨_, rfl⟩
  have o2 : okCu bs o.2 := ho ▸ dBelow_ok _ (hok i)
  obtain ⟨a, ha⟩ : ∃ a, dBelow bs o.2 2 = a := ⟨_, rfl⟩
  have o3 : okCu bs a.2 := ha ▸ dBelow_ok _ o2
  have ha2 : 0 ≤ a.1 ∧ a.1 < 2 := ha ▸ dBelow_lt bs o.2 2 (by decide)
  obtain ⟨b, hb⟩ : ∃ b, dBelow bs a.2 fr = b := ⟨_, rfl⟩
  have hl := hlen i
  have hS := hTS i
  rw [ho, ha, hb] at hS
  repeat' (refine ar_id ?_; first | refine ar_seq ?_ | refine ar_block ?_ | refine ar_blk ?_ | refine ar_skip ?_ | refine ar_label ?_ | refine ar_exit rfl ?_ | refine ar_scope ?_ | refine ar_scp ?_ | (refine ar_run (id := 5) [.call (c_OnceR bs (T i).2 3 o)] ?_; generalize hQ_ : kont _ _ _ _ = Q_; repeat' (first | (focus ((first | refine as_call tt_ok rfl rfl rfl rfl rfl rfl (by dsimp only [Nat.reduceAdd, Nat.reduceMul, Nat.zero_add, List.map, mpM, mpTL, mpT, mpSs, mpS, mpCs, mpC, mpN, lk, idN, keys, resT, ro] <;> exact rfl) rfl rfl rfl rfl ?_ ?_ | refine as_sure tt_ok rfl rfl rfl rfl rfl rfl (by dsimp only [Nat.reduceAdd, Nat.reduceMul, Nat.zero_add, List.map, mpM, mpTL, mpT, mpSs, mpS, mpCs, mpC, mpN, lk, idN, keys, resT, ro] <;> exact rfl) rfl rfl rfl rfl ?_ ?_ | refine as_cons tt_ok rfl rfl rfl rfl rfl rfl ?_ ?_); dsimp only [Int.toNat_natCast, ro, Nat.reduceAdd, Nat.reduceMul, Nat.zero_add, List.map, putT, app, wrapG, gOb, argT, keys, slotOf, dropped, gAnd, wB, rnT, rnS, rnC, rnCs, rnSs, rnM, rnB, rnN, rn, lk, St.over, ded, delL, keepT, menT, menSs, menS, menCs, menC, hasN, resT, SV.cells, c_OnceR, mpM, mpTL, mpT, mpSs, mpS, mpCs, mpC, mpN]; rotate_left)) | (subst hQ_; refine as_nil ?_))) | (first | ((first | refine ar_region tt_ok (inps := []) rfl ?_ ?_); rotate_left; (try dsimp only [Int.toNat_natCast, ro, Nat.reduceAdd, Nat.reduceMul, Nat.zero_add, List.map, putT, app, wrapG, gOb, argT, keys, slotOf, dropped, gAnd, wB, rnT, rnS, rnC, rnCs, rnSs, rnM, rnB, rnN, rn, lk, St.over, ded, delL, keepT, menT, menSs, menS, menCs, menC, hasN, resT, SV.cells, c_OnceR, mpM, mpTL, mpT, mpSs, mpS, mpCs, mpC, mpN]); rotate_right) | ((first | refine ar_ret ?_ | refine ar_end ?_); refine fin_auto2 rfl (by dsimp only [Nat.reduceAdd, Nat.reduceMul, Nat.zero_add, List.map, mpM, mpTL, mpT, mpSs, mpS, mpCs, mpC, mpN, lk, idN, keys, resT, ro] <;> exact rfl) (by dsimp only [Nat.reduceAdd, Nat.reduceMul, Nat.zero_add, List.map, wkOb, finOb, xTL, xM, xT, xSs, xS, xCs, xC, xB, okTL, okML, okT, okSs, okS, okCs, okC, okB, nodupN, rnN, allIn, fixed, rn, lk, hasN, app, SV.cells, ro, keys, resT] <;> exact rfl) ?_)) | (refine ar_cond rfl trivial ?_ ?_ <;> intro hc_ <;> (try simp only [isNilI, inB, reduceCtorEq, cds] at hc_) <;> (try (first | contradiction | (exfalso; omega)))) | refine ar_until (And.intro ?_ (wk_auto2 (by dsimp only [Nat.reduceAdd, Nat.reduceMul, Nat.zero_add, List.map, mpM, mpTL, mpT, mpSs, mpS, mpCs, mpC, mpN, lk, idN, keys, resT, ro] <;> exact rfl) (by dsimp only [Nat.reduceAdd, Nat.reduceMul, Nat.zero_add, List.map, wkOb, finOb, xTL, xM, xT, xSs, xS, xCs, xC, xB, okTL, okML, okT, okSs, okS, okCs, okC, okB, nodupN, rnN, allIn, fixed, rn, lk, hasN, app, SV.cells, ro, keys, resT] <;> exact rfl) ?_)))
  all_goals (first | refine ar_id ?_ | (try (focus ((try dsimp only [okX, GlAll, app, gOb, All, gAnd, wB, rnT, rnS, rnC, rnCs, rnSs, rnB, rn, lk, obD]); (repeat' (first | exact True.intro | refine And.intro ?_ ?_)); all_goals (try (intro (hg_ : _ = true); (try simp only [isNilI, inB, reduceCtorEq, cds] at hg_); (repeat' (first | exact True.intro | refine And.intro ?_ ?_)))); all_goals (first | first | with_reducible rfl | omega | exact Nat.le_refl _ | exact congrArg (Value.int .i64) (by omega) | (simp only [List.length_map]; first | done | omega) | (simp only [lns]; omega) | exact i64_ok (by omega) (by omega) | exact elem_map (fun _ => rfl) (by assumption) | exact elem_map (fun _ => rfl) (getD_at (by omega)) | exact elem_map' (fun _ => rfl) (by omega) | exact map_at (by omega) | exact set_at (by simp only [lns]; omega) | (rw [List.length_replicate, Int.toNat_natCast] at *; omega) | assumption | decide | exact fn_OnceR _ _ _ _ (hok i) ho | skip)))))
  refine ar_keep 179 (by dsimp only [keepS] <;> exact rfl) ?_
  refine ar_blocks [0, 4, 5, 13000] (by dsimp only [selB, hasN] <;> exact rfl) ?_
  repeat' (refine ar_id ?_; first | refine ar_seq ?_ | refine ar_block ?_ | refine ar_blk ?_ | refine ar_skip ?_ | refine ar_label ?_ | refine ar_exit rfl ?_ | refine ar_scope ?_ | refine ar_scp ?_ | (refine ar_drawS (id := 6) tt_ok (by kernel_rfl) [.call (c_BelowR bs o.2 2 a), .call (c_BelowR bs a.2 fr b), .elem (eEntry ((T i).1.getD i ⟨0, 0⟩))] ?_; refine ed_hide ?_; intro K_ hK_; repeat' (first | ((first | refine ed_call (by dsimp only [selT, selM, hasN, app, slotsOf, guardS, nth, opS, opsS, partsS] <;> exact rfl) (by dsimp only [selT, selM, hasN, app, slotsOf, guardS, nth, opS, opsS, partsS] <;> exact rfl) rfl rfl rfl rfl rfl rfl (by dsimp only [Nat.reduceAdd, Nat.reduceMul, Nat.zero_add, List.map, mpM, mpTL, mpT, mpSs, mpS, mpCs, mpC, mpN, lk, idN, keys, resT, ro] <;> exact rfl) rfl (by dsimp only [selT, selM, hasN, app, slotsOf, guardS, nth, opS, opsS, partsS, Nat.reduceAdd, Nat.reduceMul, Nat.zero_add, List.map, mpM, mpTL, mpT, mpSs, mpS, mpCs, mpC, mpN, lk, idN, keys, resT, ro, rnN, rn, SV.cells, slotOf] <;> exact rfl) rfl (by dsimp only [Nat.reduceAdd, Nat.reduceMul, Nat.zero_add, List.map, mpM, mpTL, mpT, mpSs, mpS, mpCs, mpC, mpN, lk, idN, keys, resT, ro] <;> exact rfl) rfl rfl rfl rfl ?_ | refine ed_sure (by dsimp only [selT, selM, hasN, app, slotsOf, guardS, nth, opS, opsS, partsS] <;> exact rfl) (by dsimp only [selT, selM, hasN, app, slotsOf, guardS, nth, opS, opsS, partsS] <;> exact rfl) rfl rfl rfl rfl rfl rfl (by dsimp only [Nat.reduceAdd, Nat.reduceMul, Nat.zero_add, List.map, mpM, mpTL, mpT, mpSs, mpS, mpCs, mpC, mpN, lk, idN, keys, resT, ro] <;> exact rfl) rfl (by dsimp only [selT, selM, hasN, app, slotsOf, guardS, nth, opS, opsS, partsS, Nat.reduceAdd, Nat.reduceMul, Nat.zero_add, List.map, mpM, mpTL, mpT, mpSs, mpS, mpCs, mpC, mpN, lk, idN, keys, resT, ro, rnN, rn, SV.cells, slotOf] <;> exact rfl) rfl (by dsimp only [Nat.reduceAdd, Nat.reduceMul, Nat.zero_add, List.map, mpM, mpTL, mpT, mpSs, mpS, mpCs, mpC, mpN, lk, idN, keys, resT, ro] <;> exact rfl) rfl rfl rfl rfl ?_ | refine ed_cons (by dsimp only [selT, selM, hasN, app, slotsOf, guardS, nth, opS, opsS, partsS] <;> exact rfl) (by dsimp only [selT, selM, hasN, app, slotsOf, guardS, nth, opS, opsS, partsS] <;> exact rfl) rfl rfl rfl (by dsimp only [selT, selM, hasN, app, slotsOf, guardS, nth, opS, opsS, partsS, Nat.reduceAdd, Nat.reduceMul, Nat.zero_add, List.map, mpM, mpTL, mpT, mpSs, mpS, mpCs, mpC, mpN, lk, idN, keys, resT, ro, rnN, rn, SV.cells, slotOf] <;> exact rfl) rfl rfl rfl rfl ?_); dsimp only [Int.toNat_natCast, ro, Nat.reduceAdd, Nat.reduceMul, Nat.zero_add, List.map, putT, app, wrapG, gOb, argT, keys, slotOf, dropped, gAnd, wB, rnT, rnS, rnC, rnCs, rnSs, rnM, rnB, rnN, rn, lk, St.over, ded, delL, keepT, menT, menSs, menS, menCs, menC, hasN, resT, SV.cells, c_BelowR, mpM, mpTL, mpT, mpSs, mpS, mpCs, mpC, mpN, rnN, rn, keys, mpM, mpTL, mpT, mpSs, mpS, mpCs, mpC, mpN, selT, selM, hasN, app, slotsOf, guardS, nth, opS, opsS, partsS]) | (refine ed_nil ?_; subst hK_; dsimp only [revApp]; refine Exists.intro _ (And.intro rfl (And.intro (by kernel_rfl) (And.intro ?_ ?_))); rotate_left; (try dsimp only [Int.toNat_natCast, ro, Nat.reduceAdd, Nat.reduceMul, Nat.zero_add, List.map, putT, app, wrapG, gOb, argT, keys, slotOf, dropped, gAnd, wB, rnT, rnS, rnC, rnCs, rnSs, rnM, rnB, rnN, rn, lk, St.over, ded, delL, keepT, menT, menSs, menS, menCs, menC, hasN, resT, SV.cells, c_BelowR, mpM, mpTL, mpT, mpSs, mpS, mpCs, mpC, mpN]); rotate_right; dsimp only [Int.toNat_natCast, ro, Nat.reduceAdd, Nat.reduceMul, Nat.zero_add, List.map, putT, app, wrapG, gOb, argT, keys, slotOf, dropped, gAnd, wB, rnT, rnS, rnC, rnCs, rnSs, rnM, rnB, rnN, rn, lk, St.over, ded, delL, keepT, menT, menSs, menS, menCs, menC, hasN, resT, SV.cells, c_BelowR, mpM, mpTL, mpT, mpSs, mpS, mpCs, mpC, mpN, endT, endM, endU, insN, addN]))) | (first | ((first | refine ar_region tt_ok (inps := []) rfl ?_ ?_); rotate_left; (try dsimp only [Int.toNat_natCast, ro, Nat.reduceAdd, Nat.reduceMul, Nat.zero_add, List.map, putT, app, wrapG, gOb, argT, keys, slotOf, dropped, gAnd, wB, rnT, rnS, rnC, rnCs, rnSs, rnM, rnB, rnN, rn, lk, St.over, ded, delL, keepT, menT, menSs, menS, menCs, menC, hasN, resT, SV.cells, c_BelowR, mpM, mpTL, mpT, mpSs, mpS, mpCs, mpC, mpN]); rotate_right) | ((first | refine ar_ret ?_ | refine ar_end ?_); refine fin_auto2 rfl (by dsimp only [Nat.reduceAdd, Nat.reduceMul, Nat.zero_add, List.map, mpM, mpTL, mpT, mpSs, mpS, mpCs, mpC, mpN, lk, idN, keys, resT, ro] <;> exact rfl) (by dsimp only [Nat.reduceAdd, Nat.reduceMul, Nat.zero_add, List.map, wkOb, finOb, xTL, xM, xT, xSs, xS, xCs, xC, xB, okTL, okML, okT, okSs, okS, okCs, okC, okB, nodupN, rnN, allIn, fixed, rn, lk, hasN, app, SV.cells, ro, keys, resT] <;> exact rfl) ?_)) | (refine ar_cond rfl trivial ?_ ?_ <;> intro hc_ <;> (try simp only [isNilI, inB, reduceCtorEq, cds] at hc_) <;> (try (first | contradiction | (exfalso; omega)))) | refine ar_until (And.intro ?_ (wk_auto2 (by dsimp only [Nat.reduceAdd, Nat.reduceMul, Nat.zero_add, List.map, mpM, mpTL, mpT, mpSs, mpS, mpCs, mpC, mpN, lk, idN, keys, resT, ro] <;> exact rfl) (by dsimp only [Nat.reduceAdd, Nat.reduceMul, Nat.zero_add, List.map, wkOb, finOb, xTL, xM, xT, xSs, xS, xCs, xC, xB, okTL, okML, okT, okSs, okS, okCs, okC, okB, nodupN, rnN, allIn, fixed, rn, lk, hasN, app, SV.cells, ro, keys, resT] <;> exact rfl) ?_)))
  all_goals (first | refine ar_id ?_ | (try (focus ((try dsimp only [okX, GlAll, app, gOb, All, gAnd, wB, rnT, rnS, rnC, rnCs, rnSs, rnB, rn, lk, obD]); (repeat' (first | exact True.intro | refine And.intro ?_ ?_)); all_goals (try (intro (hg_ : _ = true); (try simp only [isNilI, inB, reduceCtorEq, cds] at hg_); (repeat' (first | exact True.intro | refine And.intro ?_ ?_)))); all_goals (first | first | with_reducible rfl | omega | exact Nat.le_refl _ | exact congrArg (Value.int .i64) (by omega) | (simp only [List.length_map]; first | done | omega) | (simp only [lns]; omega) | exact i64_ok (by omega) (by omega) | exact elem_map (fun _ => rfl) (by assumption) | exact elem_map (fun _ => rfl) (getD_at (by omega)) | exact elem_map' (fun _ => rfl) (by omega) | exact map_at (by omega) | exact set_at (by simp only [lns]; omega) | (rw [List.length_replicate, Int.toNat_natCast] at *; omega) | assumption | decide | exact fn_BelowR _ _ _ _ o2 ha | exact fn_BelowR _ _ _ _ o3 hb | exact map_at (by omega) | skip)))))
  · rw [hS, if_neg hc_]; show _ = ((T i).1.set i ⟨1 + a.1, b.1⟩).map eEntry; rw [List.map_set]; rfl
  · rw [hS, if_neg hc_]
  · rw [hS, if_neg hc_]
  · rw [hS, if_pos hc_]
  · rw [hS, if_pos hc_]
  · rw [hS, if_pos hc_]
  · rw [show i = N by omega]
  · rw [show i = N by omega]
  · rw [show i = N by omega]
  all_goals rw [hT0]
/-- a machine's frames as they are drawn, and the cursor -/
def fSt (bs : List Int) (es : List GEntry) (n : Nat) (c : Cu) : Nat → GFrames × Cu
  | 0 => (⟨List.replicate n (List.replicate 16 0), List.replicate n false⟩, c)
  | i + 1 =>
    if 0 < (es.getD i ⟨0, 0⟩).Mode then
      (⟨(fSt bs es n c i).1.Cells.set (es.getD i ⟨0, 0⟩).Frame.toNat (((fSt bs es n c i).1.Cells.getD (es.getD i ⟨0, 0⟩).Frame.toNat []).set (dBelow bs (fSt bs es n c i).2 16).1.toNat (dBelow bs (dBelow bs (fSt bs es n c i).2 16).2 1000).1), (fSt bs es n c i).1.Used.set (es.getD i ⟨0, 0⟩).Frame.toNat true⟩, (dBelow bs (dBelow bs (fSt bs es n c i).2 16).2 1000).2)
    else fSt bs es n c i
theorem fSt_ok {bs : List Int} {es : List GEntry} {n : Nat} {c : Cu} (h : okCu bs c) : ∀ i, okCu bs (fSt bs es n c i).2
  | 0 => h
  | i + 1 => by
    have h1 := fSt_ok (es := es) (n := n) h i
    unfold fSt
    split
    · exact dBelow_ok _ (dBelow_ok _ h1)
    · exact h1
/-- what the frames are, round by round -/
theorem fSt_inv (bs : List Int) {es : List GEntry} {n : Nat} (c : Cu) (h1 : 1 ≤ n) (h2 : n ≤ 32) (he : ∀ e ∈ es, okE (n : Int) e) : ∀ i, i ≤ es.length → okF (fSt bs es n c i).1 ∧ (fSt bs es n c i).1.Cells.length = n ∧ (fSt bs es n c i).1.Used.length = n ∧ usedTo ⟨es⟩ (fSt bs es n c i).1.Used i
  | 0, _ => ⟨ok_new h1 h2, List.length_replicate, List.length_replicate, usedTo_zero _ _⟩
  | i + 1, hi => by
    obtain ⟨k1, k2, k3, k4⟩ := fSt_inv bs c h1 h2 he i (by omega)
    have hat : es[i]? = some (es.getD i ⟨0, 0⟩) := getD_at (by omega)
    have hE := he _ (List.mem_of_getElem? hat)
    generalize es.getD i ⟨0, 0⟩ = e at hat hE
    have hx := dBelow_lt bs (fSt bs es n c i).2 16 (by decide)
    have hy := dBelow_lt bs (dBelow bs (fSt bs es n c i).2 16).2 1000 (by decide)
    have hS : fSt bs es n c (i + 1) = if 0 < (es.getD i ⟨0, 0⟩).Mode then
      (⟨(fSt bs es n c i).1.Cells.set (es.getD i ⟨0, 0⟩).Frame.toNat (((fSt bs es n c i).1.Cells.getD (es.getD i ⟨0, 0⟩).Frame.toNat []).set (dBelow bs (fSt bs es n c i).2 16).1.toNat (dBelow bs (dBelow bs (fSt bs es n c i).2 16).2 1000).1), (fSt bs es n c i).1.Used.set (es.getD i ⟨0, 0⟩).Frame.toNat true⟩, (dBelow bs (dBelow bs (fSt bs es n c i).2 16).2 1000).2)
      else fSt bs es n c i := rfl
    rw [hS]
    have hg : es.getD i ⟨0, 0⟩ = e := by rw [List.getD_eq_getElem?_getD, hat]; rfl
    rw [hg]
    generalize dBelow bs (dBelow bs (fSt bs es n c i).2 16).2 1000 = y at hy
    generalize dBelow bs (fSt bs es n c i).2 16 = x at hx
    by_cases hm : 0 < e.Mode
    · rw [if_pos hm]
      rcases hE with hE | ⟨hE1, hE2, hE3⟩
      · exact absurd hE.1 (by omega)
      · obtain ⟨f, hf⟩ := Int.eq_ofNat_of_zero_le hE2
        have hfn : f < n := by omega
        rw [hf, Int.toNat_natCast]
        have hr : (fSt bs es n c i).1.Cells[f]? = some ((fSt bs es n c i).1.Cells.getD f []) := getD_at (by omega)
        refine ⟨?_, by simpa using k2, by simpa using k3, usedTo_set k4 hat (by omega) hf (by omega)⟩
        refine ok_cell (f := ⟨(fSt bs es n c i).1.Cells, (fSt bs es n c i).1.Used.set f true⟩) (ok_true k1 f) ?_ hr hy.1 (by omega)
        show ((fSt bs es n c i).1.Used.set f true)[f]? = some true
        exact set_at (by omega)
    · rw [if_neg hm]
      refine ⟨k1, k2, k3, usedTo_skip k4 hat ?_⟩
      rcases hE with hE | ⟨hE1, hE2, hE3⟩
      · exact hE.1
      · omega
def dMach (bs : List Int) (c : Cu) : GMachine × Cu :=
  let d := dBelow bs c 4
  let t := dTab bs d.2 (2 + d.1)
  let f := fSt bs t.1 (2 + d.1).toNat t.2 t.1.length
  (⟨f.1, ⟨t.1⟩⟩, f.2)
theorem dTab_ok {bs : List Int} {c : Cu} (fr : Int) (h : okCu bs c) : okCu bs (dTab bs c fr).2 := tSt_ok _ _ (dBelow_ok _ h) _
theorem dTab_facts (bs : List Int) (c : Cu) {fr : Int} (hf : 0 < fr) : (1 ≤ (dTab bs c fr).1.length ∧ (dTab bs c fr).1.length ≤ 8) ∧ ∀ e ∈ (dTab bs c fr).1, okE fr e := by
  have h := dBelow_lt bs c 8 (by decide)
  unfold dTab
  refine ⟨?_, tSt_e _ _ _ hf _⟩
  rw [tSt_len]
  unfold dTabN
  omega
theorem dMach_ok {bs : List Int} {c : Cu} (h : okCu bs c) : okCu bs (dMach bs c).2 := fSt_ok (dTab_ok _ (dBelow_ok _ h)) _
theorem dMach_valid (bs : List Int) (c : Cu) : okM (dMach bs c).1 := by
  have h := dBelow_lt bs c 4 (by decide)
  unfold dMach
  simp only
  generalize dBelow bs c 4 = d at h
  have ht := dTab_facts bs d.2 (fr := 2 + d.1) (by omega)
  generalize dTab bs d.2 (2 + d.1) = t at ht
  obtain ⟨N, hN⟩ := Int.eq_ofNat_of_zero_le (show 0 ≤ 2 + d.1 by omega)
  rw [hN] at ht ⊢
  rw [Int.toNat_natCast]
  obtain ⟨k1, k2, k3, k4⟩ := fSt_inv bs t.2 (n := N) (by omega) (by omega) ht.2 t.1.length (Nat.le_refl _)
  exact okM_end k1 (by rw [k2]; exact ht.2) ht.1.1 ht.1.2 k4
def c_Mach (bs : List Int) (c : Cu) : CFD := ⟨28, [.one (.box 0 0)], [(0, some (.box 65 [ro 5 1 eU bs, (CV.lit (.int .i64 (((c).i : Int)))), (CV.lit (.int .i64 ((c).h)))]))], .sv (.agg [.hd 1, .hd 2, .hd 3]), [(0, some (.box 65 [ro 5 1 eU bs, (CV.lit (.int .i64 ((((dMach bs c).2).i : Int)))), (CV.lit (.int .i64 (((dMach bs c).2).h)))])), (1, some (.row 33 1 (((dMach bs c).1).Frames.Cells.map eIntS))), (2, some (.row 4 1 (((dMach bs c).1).Frames.Used.map Tr.eB))), (3, some (.row 51 2 (((dMach bs c).1).Table.Entries.map eEntry)))], [1, 2, 3], []⟩
def c_FNewR (n : Int) (f : GFrames) : CFD := ⟨46, [(SV.one (.lit (.int .i64 (n))))], [], .tup [.agg [.hd 0, .hd 1], (SV.one (.lit (.bool (true))))], [(0, some (.row 33 1 (f.Cells.map eIntS))), (1, some (.row 4 1 (f.Used.map Tr.eB)))], [0, 1], []⟩
theorem fn_FNewR (n : Int) (h1 : 1 ≤ n) (h2 : n ≤ 32) : Fn Try.prog (c_FNewR n ⟨List.replicate n.toNat (List.replicate 16 0), List.replicate n.toNat false⟩) := by
  have := fn_New5 n
  unfold c_New5 at this
  rw [show pFramesNew n = (⟨List.replicate n.toNat (List.replicate 16 0), List.replicate n.toNat false⟩, true) from if_pos ⟨h1, h2⟩] at this
  exact this
def c_TabR (bs : List Int) (c : Cu) (fr : Int) (r : List GEntry × Cu) : CFD := ⟨47, [.one (.box 0 0), (SV.one (.lit (.int .i64 (fr))))], [(0, some (.box 65 [ro 5 1 eU bs, (CV.lit (.int .i64 (((c).i : Int)))), (CV.lit (.int .i64 ((c).h)))]))], .sv (.agg [.hd 1]), [(0, some (.box 65 [ro 5 1 eU bs, (CV.lit (.int .i64 (((r.2).i : Int)))), (CV.lit (.int .i64 ((r.2).h)))])), (1, some (.row 51 2 (r.1.map eEntry)))], [1], []⟩
theorem fn_TabR (bs : List Int) (c : Cu) (fr : Int) (r : List GEntry × Cu) (hc : okCu bs c) (hf : 0 < fr) (hf2 : fr ≤ 100) (h : dTab bs c fr = r) : Fn Try.prog (c_TabR bs c fr r) := h ▸ fn_Tab bs c fr hc hf hf2
theorem fn_Mach (bs : List Int) (c : Cu) (hc : okCu bs c) : Fn Try.prog (c_Mach bs c) := by
  obtain ⟨d, hd⟩ : ∃ d, dBelow bs c 4 = d := ⟨_, rfl⟩
  have hd4 : 0 ≤ d.1 ∧ d.1 < 4 := hd ▸ dBelow_lt bs c 4 (by decide)
  have o1 : okCu bs d.2 := hd ▸ dBelow_ok _ hc
  obtain ⟨t, ht⟩ : ∃ t, dTab bs d.2 (2 + d.1) = t := ⟨_, rfl⟩
  have o2 : okCu bs t.2 := ht ▸ dTab_ok _ o1
  have htf := dTab_facts bs d.2 (fr := 2 + d.1) (by omega)
  rw [ht] at htf
  have hnew := fn_FNewR (2 + d.1) (by omega) (by omega)
  have hV : dMach bs c = (⟨(fSt bs t.1 (2 + d.1).toNat t.2 t.1.length).1, ⟨t.1⟩⟩, (fSt bs t.1 (2 + d.1).toNat t.2 t.1.length).2) := by
    unfold dMach
    simp only [hd, ht]
  obtain ⟨N, hN⟩ := Int.eq_ofNat_of_zero_le (show 0 ≤ 2 + d.1 by omega)
  have hinv := fSt_inv bs (es := t.1) (n := N) t.2 (by omega) (by omega) (hN ▸ htf.2)
  have hok := fSt_ok (bs := bs) (es := t.1) (n := N) o2
  have hT0 : fSt bs t.1 N t.2 0 = (⟨List.replicate N (List.replicate 16 0), List.replicate N false⟩, t.2) := rfl
  have hTS : ∀ i, fSt bs t.1 N t.2 (i + 1) = if 0 < (t.1.getD i ⟨0, 0⟩).Mode then
      (⟨(fSt bs t.1 N t.2 i).1.Cells.set (t.1.getD i ⟨0, 0⟩).Frame.toNat (((fSt bs t.1 N t.2 i).1.Cells.getD (t.1.getD i ⟨0, 0⟩).Frame.toNat []).set (dBelow bs (fSt bs t.1 N t.2 i).2 16).1.toNat (dBelow bs (dBelow bs (fSt bs t.1 N t.2 i).2 16).2 1000).1), (fSt bs t.1 N t.2 i).1.Used.set (t.1.getD i ⟨0, 0⟩).Frame.toNat true⟩, (dBelow bs (dBelow bs (fSt bs t.1 N t.2 i).2 16).2 1000).2)
      else fSt bs t.1 N t.2 i := fun _ => rfl
  rw [hN, Int.toNat_natCast] at hV hnew
  generalize fSt bs t.1 N t.2 = T at *
  refine fn_intro tt_ok Try.func28 rfl Try.call28 Try.ntmps28 Try.results28 rfl rfl rfl rfl ?_
  intro X ρ0 hb_ hgl_
  dsimp only [c_Mach, Int.toNat_natCast, ro, Nat.reduceAdd, Nat.reduceMul, Nat.zero_add, List.map, putT, app, wrapG, gOb, argT, keys, slotOf, dropped, gAnd, wB, rnT, rnS, rnC, rnCs, rnSs, rnM, rnB, rnN, rn, lk, St.over, ded, delL, keepT, menT, menSs, menS, menCs, menC, hasN, resT, SV.cells]
  rw [hV]
  repeat' (refine ar_id ?_; first | refine ar_seq ?_ | refine ar_block ?_ | refine ar_blk ?_ | refine ar_skip ?_ | refine ar_label ?_ | refine ar_exit rfl ?_ | refine ar_scope ?_ | refine ar_scp ?_ | (refine ar_run (id := 1) [.call (c_BelowR bs c 4 d)] ?_; generalize hQ_ : kont _ _ _ _ = Q_; repeat' (first | (focus ((first | refine as_call tt_ok rfl rfl rfl rfl rfl rfl (by dsimp only [Nat.reduceAdd, Nat.reduceMul, Nat.zero_add, List.map, mpM, mpTL, mpT, mpSs, mpS, mpCs, mpC, mpN, lk, idN, keys, resT, ro] <;> exact rfl) rfl rfl rfl rfl ?_ ?_ | refine as_sure tt_ok rfl rfl rfl rfl rfl rfl (by dsimp only [Nat.reduceAdd, Nat.reduceMul, Nat.zero_add, List.map, mpM, mpTL, mpT, mpSs, mpS, mpCs, mpC, mpN, lk, idN, keys, resT, ro] <;> exact rfl) rfl rfl rfl rfl ?_ ?_ | refine as_cons tt_ok rfl rfl rfl rfl rfl rfl ?_ ?_); dsimp only [Int.toNat_natCast, ro, Nat.reduceAdd, Nat.reduceMul, Nat.zero_add, List.map, putT, app, wrapG, gOb, argT, keys, slotOf, dropped, gAnd, wB, rnT, rnS, rnC, rnCs, rnSs, rnM, rnB, rnN, rn, lk, St.over, ded, delL, keepT, menT, menSs, menS, menCs, menC, hasN, resT, SV.cells, c_BelowR, c_FNewR, c_TabR, mpM, mpTL, mpT, mpSs, mpS, mpCs, mpC, mpN]; rotate_left)) | (subst hQ_; refine as_nil ?_))) | (refine ar_drawS (id := 3) tt_ok (by kernel_rfl) [.call (c_TabR bs d.2 (2 + d.1) t)] ?_; refine ed_hide ?_; intro K_ hK_; repeat' (first | ((first | refine ed_call (by dsimp only [selT, selM, hasN, app, slotsOf, guardS, nth, opS, opsS, partsS] <;> exact rfl) (by dsimp only [selT, selM, hasN, app, slotsOf, guardS, nth, opS, opsS, partsS] <;> exact rfl) rfl rfl rfl rfl rfl rfl (by dsimp only [Nat.reduceAdd, Nat.reduceMul, Nat.zero_add, List.map, mpM, mpTL, mpT, mpSs, mpS, mpCs, mpC, mpN, lk, idN, keys, resT, ro] <;> exact rfl) rfl (by dsimp only [selT, selM, hasN, app, slotsOf, guardS, nth, opS, opsS, partsS, Nat.reduceAdd, Nat.reduceMul, Nat.zero_add, List.map, mpM, mpTL, mpT, mpSs, mpS, mpCs, mpC, mpN, lk, idN, keys, resT, ro, rnN, rn, SV.cells, slotOf] <;> exact rfl) rfl (by dsimp only [Nat.reduceAdd, Nat.reduceMul, Nat.zero_add, List.map, mpM, mpTL, mpT, mpSs, mpS, mpCs, mpC, mpN, lk, idN, keys, resT, ro] <;> exact rfl) rfl rfl rfl rfl ?_ | refine ed_sure (by dsimp only [selT, selM, hasN, app, slotsOf, guardS, nth, opS, opsS, partsS] <;> exact rfl) (by dsimp only [selT, selM, hasN, app, slotsOf, guardS, nth, opS, opsS, partsS] <;> exact rfl) rfl rfl rfl rfl rfl rfl (by dsimp only [Nat.reduceAdd, Nat.reduceMul, Nat.zero_add, List.map, mpM, mpTL, mpT, mpSs, mpS, mpCs, mpC, mpN, lk, idN, keys, resT, ro] <;> exact rfl) rfl (by dsimp only [selT, selM, hasN, app, slotsOf, guardS, nth, opS, opsS, partsS, Nat.reduceAdd, Nat.reduceMul, Nat.zero_add, List.map, mpM, mpTL, mpT, mpSs, mpS, mpCs, mpC, mpN, lk, idN, keys, resT, ro, rnN, rn, SV.cells, slotOf] <;> exact rfl) rfl (by dsimp only [Nat.reduceAdd, Nat.reduceMul, Nat.zero_add, List.map, mpM, mpTL, mpT, mpSs, mpS, mpCs, mpC, mpN, lk, idN, keys, resT, ro] <;> exact rfl) rfl rfl rfl rfl ?_ | refine ed_cons (by dsimp only [selT, selM, hasN, app, slotsOf, guardS, nth, opS, opsS, partsS] <;> exact rfl) (by dsimp only [selT, selM, hasN, app, slotsOf, guardS, nth, opS, opsS, partsS] <;> exact rfl) rfl rfl rfl (by dsimp only [selT, selM, hasN, app, slotsOf, guardS, nth, opS, opsS, partsS, Nat.reduceAdd, Nat.reduceMul, Nat.zero_add, List.map, mpM, mpTL, mpT, mpSs, mpS, mpCs, mpC, mpN, lk, idN, keys, resT, ro, rnN, rn, SV.cells, slotOf] <;> exact rfl) rfl rfl rfl rfl ?_); dsimp only [Int.toNat_natCast, ro, Nat.reduceAdd, Nat.reduceMul, Nat.zero_add, List.map, putT, app, wrapG, gOb, argT, keys, slotOf, dropped, gAnd, wB, rnT, rnS, rnC, rnCs, rnSs, rnM, rnB, rnN, rn, lk, St.over, ded, delL, keepT, menT, menSs, menS, menCs, menC, hasN, resT, SV.cells, c_BelowR, c_FNewR, c_TabR, mpM, mpTL, mpT, mpSs, mpS, mpCs, mpC, mpN, rnN, rn, keys, mpM, mpTL, mpT, mpSs, mpS, mpCs, mpC, mpN, selT, selM, hasN, app, slotsOf, guardS, nth, opS, opsS, partsS]) | (refine ed_nil ?_; subst hK_; dsimp only [revApp]; refine Exists.intro _ (And.intro rfl (And.intro (by kernel_rfl) (And.intro ?_ ?_))); rotate_left; (try dsimp only [Int.toNat_natCast, ro, Nat.reduceAdd, Nat.reduceMul, Nat.zero_add, List.map, putT, app, wrapG, gOb, argT, keys, slotOf, dropped, gAnd, wB, rnT, rnS, rnC, rnCs, rnSs, rnM, rnB, rnN, rn, lk, St.over, ded, delL, keepT, menT, menSs, menS, menCs, menC, hasN, resT, SV.cells, c_BelowR, c_FNewR, c_TabR, mpM, mpTL, mpT, mpSs, mpS, mpCs, mpC, mpN]); rotate_right; dsimp only [Int.toNat_natCast, ro, Nat.reduceAdd, Nat.reduceMul, Nat.zero_add, List.map, putT, app, wrapG, gOb, argT, keys, slotOf, dropped, gAnd, wB, rnT, rnS, rnC, rnCs, rnSs, rnM, rnB, rnN, rn, lk, St.over, ded, delL, keepT, menT, menSs, menS, menCs, menC, hasN, resT, SV.cells, c_BelowR, c_FNewR, c_TabR, mpM, mpTL, mpT, mpSs, mpS, mpCs, mpC, mpN, endT, endM, endU, insN, addN]))) | (first | ((first | refine ar_region (id := 2) tt_ok (inps := [.call (c_FNewR (N : Int) ⟨List.replicate N (List.replicate 16 0), List.replicate N false⟩)]) rfl ?_ ?_ | refine ar_region tt_ok (inps := []) rfl ?_ ?_); rotate_left; (try dsimp only [Int.toNat_natCast, ro, Nat.reduceAdd, Nat.reduceMul, Nat.zero_add, List.map, putT, app, wrapG, gOb, argT, keys, slotOf, dropped, gAnd, wB, rnT, rnS, rnC, rnCs, rnSs, rnM, rnB, rnN, rn, lk, St.over, ded, delL, keepT, menT, menSs, menS, menCs, menC, hasN, resT, SV.cells, c_BelowR, c_FNewR, c_TabR, mpM, mpTL, mpT, mpSs, mpS, mpCs, mpC, mpN]); rotate_right) | ((first | refine ar_ret ?_ | refine ar_end ?_); refine fin_auto2 rfl (by dsimp only [Nat.reduceAdd, Nat.reduceMul, Nat.zero_add, List.map, mpM, mpTL, mpT, mpSs, mpS, mpCs, mpC, mpN, lk, idN, keys, resT, ro] <;> exact rfl) (by dsimp only [Nat.reduceAdd, Nat.reduceMul, Nat.zero_add, List.map, wkOb, finOb, xTL, xM, xT, xSs, xS, xCs, xC, xB, okTL, okML, okT, okSs, okS, okCs, okC, okB, nodupN, rnN, allIn, fixed, rn, lk, hasN, app, SV.cells, ro, keys, resT] <;> exact rfl) ?_)) | (refine ar_cond rfl trivial ?_ ?_ <;> intro hc_ <;> (try simp only [isNilI, inB, reduceCtorEq, cds] at hc_) <;> (try (first | contradiction | (exfalso; omega)))) | refine ar_until (And.intro ?_ (wk_auto2 (by dsimp only [Nat.reduceAdd, Nat.reduceMul, Nat.zero_add, List.map, mpM, mpTL, mpT, mpSs, mpS, mpCs, mpC, mpN, lk, idN, keys, resT, ro] <;> exact rfl) (by dsimp only [Nat.reduceAdd, Nat.reduceMul, Nat.zero_add, List.map, wkOb, finOb, xTL, xM, xT, xSs, xS, xCs, xC, xB, okTL, okML, okT, okSs, okS, okCs, okC, okB, nodupN, rnN, allIn, fixed, rn, lk, hasN, app, SV.cells, ro, keys, resT] <;> exact rfl) ?_)))
  all_goals (first | refine ar_id ?_ | (try (focus ((try dsimp only [okX, GlAll, app, gOb, All, gAnd, wB, rnT, rnS, rnC, rnCs, rnSs, rnB, rn, lk, obD]); (repeat' (first | exact True.intro | refine And.intro ?_ ?_)); all_goals (try (intro (hg_ : _ = true); (try simp only [isNilI, inB, reduceCtorEq, cds] at hg_); (repeat' (first | exact True.intro | refine And.intro ?_ ?_)))); all_goals (first | first | with_reducible rfl | omega | exact Nat.le_refl _ | exact congrArg (Value.int .i64) (by omega) | (simp only [List.length_map]; first | done | omega) | (simp only [lns]; omega) | exact i64_ok (by omega) (by omega) | exact elem_map (fun _ => rfl) (by assumption) | exact elem_map (fun _ => rfl) (getD_at (by omega)) | exact elem_map' (fun _ => rfl) (by omega) | exact map_at (by omega) | exact set_at (by simp only [lns]; omega) | (rw [List.length_replicate, Int.toNat_natCast] at *; omega) | assumption | decide | exact fn_BelowR _ _ _ _ hc hd | exact hnew | exact fn_TabR _ _ _ _ o1 (by omega) (by omega) ht | exact congrArg (Value.int .i64) hN | skip)))))
  refine ar_keep 477 (by dsimp only [keepS] <;> exact rfl) ?_
  refine ar_blocks [0, 2, 6, 15000, 15001, 21001] (by dsimp only [selB, hasN] <;> exact rfl) ?_
  refine ar_keep 477 (by dsimp only [keepS] <;> exact rfl) ?_
  refine ar_forM (t.1.length) (fun i => True) (fun i => [(7, (TV.sv (.one (.lit (.int .i64 (i))))))]) (fun i => [(0, some ((.box 65 [ro 5 1 eU bs, (CV.lit (.int .i64 ((((T i).2).i : Int)))), (CV.lit (.int .i64 (((T i).2).h)))]))), (15000, some (.row 33 1 ((T i).1.Cells.map eIntS))), (15001, some (.row 4 1 ((T i).1.Used.map Tr.eB)))]) ?_ ?_ ?_
  rotate_left
  · first | trivial | simp
  (dsimp only [Int.toNat_natCast, ro, Nat.reduceAdd, Nat.reduceMul, Nat.zero_add, List.map, putT, app, wrapG, gOb, argT, keys, slotOf, dropped, gAnd, wB, rnT, rnS, rnC, rnCs, rnSs, rnM, rnB, rnN, rn, lk, St.over, ded, delL, keepT, menT, menSs, menS, menCs, menC, hasN, resT, SV.cells]; refine wk_auto2 (by dsimp only [Nat.reduceAdd, Nat.reduceMul, Nat.zero_add, List.map, mpM, mpTL, mpT, mpSs, mpS, mpCs, mpC, mpN, lk, idN, keys, resT, ro] <;> exact rfl) (by dsimp only [Nat.reduceAdd, Nat.reduceMul, Nat.zero_add, List.map, wkOb, finOb, xTL, xM, xT, xSs, xS, xCs, xC, xB, okTL, okML, okT, okSs, okS, okCs, okC, okB, nodupN, rnN, allIn, fixed, rn, lk, hasN, app, SV.cells, ro, keys, resT] <;> exact rfl) ?_; (focus ((try dsimp only [okX, GlAll, app, gOb, All, gAnd, wB, rnT, rnS, rnC, rnCs, rnSs, rnB, rn, lk, obD]); (repeat' (first | exact True.intro | refine And.intro ?_ ?_)); all_goals (try (intro (hg_ : _ = true); (try simp only [isNilI, inB, reduceCtorEq, cds] at hg_); (repeat' (first | exact True.intro | refine And.intro ?_ ?_)))); all_goals (first | first | with_reducible rfl | omega | exact Nat.le_refl _ | exact congrArg (Value.int .i64) (by omega) | (simp only [List.length_map]; first | done | omega) | (simp only [lns]; omega) | exact i64_ok (by omega) (by omega) | exact elem_map (fun _ => rfl) (by assumption) | exact elem_map (fun _ => rfl) (getD_at (by omega)) | exact elem_map' (fun _ => rfl) (by omega) | exact map_at (by omega) | exact set_at (by simp only [lns]; omega) | (rw [List.length_replicate, Int.toNat_natCast] at *; omega) | assumption | decide | exact rfl | skip))))
  rotate_right
  intro i hi_ hiI_
  dsimp only [Int.toNat_natCast, ro, Nat.reduceAdd, Nat.reduceMul, Nat.zero_add, List.map, putT, app, wrapG, gOb, argT, keys, slotOf, dropped, gAnd, wB, rnT, rnS, rnC, rnCs, rnSs, rnM, rnB, rnN, rn, lk, St.over, ded, delL, keepT, menT, menSs, menS, menCs, menC, hasN, resT, SV.cells]
  by_cases hlt : i < t.1.length
  · obtain ⟨k1, k2, k3, _⟩ := hinv i (by omega)
    have hat : (t.1.map eEntry)[i]? = some (eEntry (t.1.getD i ⟨0, 0⟩)) := map_at hlt
    have hE := htf.2 _ (getD_in (l := t.1) (i := i) (d := ⟨0, 0⟩) hlt)
    have hS := hTS i
    generalize t.1.getD i ⟨0, 0⟩ = e at hat hE hS
    by_cases hm : 0 < e.Mode
    · obtain ⟨md, fr⟩ := e
      have hm' : 0 < md := hm
      obtain ⟨f, hf⟩ : ∃ f : Nat, fr = (f : Int) := by
        rcases hE with hE | hE
        · exact absurd hm (by show ¬ 0 < md; have := hE.1; have h : md = 0 := this; omega)
        · exact Int.eq_ofNat_of_zero_le hE.2.1
      subst hf
      have hfn : f < N := by
        rcases hE with hE | hE
        · exact absurd hm (by show ¬ 0 < md; have := hE.1; have h : md = 0 := this; omega)
        · have : (f : Int) < 2 + d.1 := hE.2.2
          omega
      rw [if_pos hm] at hS
      simp only [Int.toNat_natCast] at hS
      have hr : (T i).1.Cells[f]? = some ((T i).1.Cells.getD f []) := getD_at (by omega)
      have hr16 : ((T i).1.Cells.getD f []).length = 16 := by
        have hu : (T i).1.Used[f]? = some ((T i).1.Used.getD f false) := getD_at (by omega)
        exact ((okF_at.1 k1).2.2 f _ _ hr hu).1
      generalize (T i).1.Cells.getD f [] = row at *
      obtain ⟨x, hx⟩ : ∃ x, dBelow bs (T i).2 16 = x := ⟨_, rfl⟩
      have hx16 : 0 ≤ x.1 ∧ x.1 < 16 := hx ▸ dBelow_lt bs _ 16 (by decide)
      have o3 : okCu bs x.2 := hx ▸ dBelow_ok _ (hok i)
      obtain ⟨y, hy⟩ : ∃ y, dBelow bs x.2 1000 = y := ⟨_, rfl⟩
      rw [hx, hy] at hS
      have hcells : ((T i).1.Cells.map eIntS)[f]? = some (eIntS row) := by rw [List.getElem?_map, hr]; rfl
      repeat' (refine ar_id ?_; first | refine ar_seq ?_ | refine ar_block ?_ | refine ar_blk ?_ | refine ar_skip ?_ | refine ar_label ?_ | refine ar_exit rfl ?_ | refine ar_scope ?_ | refine ar_scp ?_ | (first | ((first | refine ar_region (id := 7) tt_ok (inps := [.elem (eEntry ⟨md, (f : Int)⟩)]) rfl ?_ ?_ | refine ar_region (id := 9) tt_ok (inps := [.elem (Tr.eB ((T i).1.Used.getD f false))]) rfl ?_ ?_ | refine ar_region tt_ok (inps := []) rfl ?_ ?_); rotate_left; (try dsimp only [Int.toNat_natCast, ro, Nat.reduceAdd, Nat.reduceMul, Nat.zero_add, List.map, putT, app, wrapG, gOb, argT, keys, slotOf, dropped, gAnd, wB, rnT, rnS, rnC, rnCs, rnSs, rnM, rnB, rnN, rn, lk, St.over, ded, delL, keepT, menT, menSs, menS, menCs, menC, hasN, resT, SV.cells]); rotate_right) | ((first | refine ar_ret ?_ | refine ar_end ?_); refine fin_auto2 rfl (by dsimp only [Nat.reduceAdd, Nat.reduceMul, Nat.zero_add, List.map, mpM, mpTL, mpT, mpSs, mpS, mpCs, mpC, mpN, lk, idN, keys, resT, ro] <;> exact rfl) (by dsimp only [Nat.reduceAdd, Nat.reduceMul, Nat.zero_add, List.map, wkOb, finOb, xTL, xM, xT, xSs, xS, xCs, xC, xB, okTL, okML, okT, okSs, okS, okCs, okC, okB, nodupN, rnN, allIn, fixed, rn, lk, hasN, app, SV.cells, ro, keys, resT] <;> exact rfl) ?_)) | (refine ar_cond rfl trivial ?_ ?_ <;> intro hc_ <;> (try simp only [isNilI, inB, reduceCtorEq, cds] at hc_) <;> (try (first | contradiction | (exfalso; omega)))) | refine ar_until (And.intro ?_ (wk_auto2 (by dsimp only [Nat.reduceAdd, Nat.reduceMul, Nat.zero_add, List.map, mpM, mpTL, mpT, mpSs, mpS, mpCs, mpC, mpN, lk, idN, keys, resT, ro] <;> exact rfl) (by dsimp only [Nat.reduceAdd, Nat.reduceMul, Nat.zero_add, List.map, wkOb, finOb, xTL, xM, xT, xSs, xS, xCs, xC, xB, okTL, okML, okT, okSs, okS, okCs, okC, okB, nodupN, rnN, allIn, fixed, rn, lk, hasN, app, SV.cells, ro, keys, resT] <;> exact rfl) ?_)))
      all_goals (first | refine ar_id ?_ | (try (focus ((try dsimp only [okX, GlAll, app, gOb, All, gAnd, wB, rnT, rnS, rnC, rnCs, rnSs, rnB, rn, lk, obD]); (repeat' (first | exact True.intro | refine And.intro ?_ ?_)); all_goals (try (intro (hg_ : _ = true); (try simp only [isNilI, inB, reduceCtorEq, cds] at hg_); (repeat' (first | exact True.intro | refine And.intro ?_ ?_)))); all_goals (first | first | with_reducible rfl | omega | exact Nat.le_refl _ | exact congrArg (Value.int .i64) (by omega) | (simp only [List.length_map]; first | done | omega) | (simp only [lns]; omega) | exact i64_ok (by omega) (by omega) | exact elem_map (fun _ => rfl) (by assumption) | exact elem_map (fun _ => rfl) (getD_at (by omega)) | exact elem_map' (fun _ => rfl) (by omega) | exact map_at (by omega) | exact set_at (by simp only [lns]; omega) | (rw [List.length_replicate, Int.toNat_natCast] at *; omega) | assumption | decide | exact hat | exact map_at (by omega) | exact hm | skip)))))
      refine ar_open 15000 f 0 90001 90002 (d := eIntS row) (row.map eI) rfl ?_ rfl ?_ rfl rfl rfl ?_
      · first | exact map_at (by omega) | assumption | exact set_at (by (try simp only [List.length_map, List.length_set]); omega) | (rw [List.getElem?_set_ne (by omega)]; exact map_at (by omega))
      · exact ⟨rfl, rfl, by intro e he; simp only [List.mem_map] at he; obtain ⟨_, _, rfl⟩ := he; rfl⟩
      intro A_90001 n_90001 c_90001
      try dsimp only [Int.toNat_natCast, ro, Nat.reduceAdd, Nat.reduceMul, Nat.zero_add, List.map, putT, app, wrapG, gOb, argT, keys, slotOf, dropped, gAnd, wB, rnT, rnS, rnC, rnCs, rnSs, rnM, rnB, rnN, rn, lk, St.over, ded, delL, keepT, menT, menSs, menS, menCs, menC, hasN, resT, SV.cells]
      refine ar_drawS (id := 10) tt_ok (by kernel_rfl) [.nest (.lit (Value.slice A_90001 n_90001 c_90001) .nil) [(0, 90002)], .call (c_BelowR bs (T i).2 16 x), .call (c_BelowR bs x.2 1000 y), .elem (Tr.eI (row.getD x.1.toNat 0))] ?_; refine ed_hide ?_; intro K_ hK_; repeat' (first | ((first | refine ed_call (by dsimp only [selT, selM, hasN, app, slotsOf, guardS, nth, opS, opsS, partsS] <;> exact rfl) (by dsimp only [selT, selM, hasN, app, slotsOf, guardS, nth, opS, opsS, partsS] <;> exact rfl) rfl rfl rfl rfl rfl rfl (by dsimp only [Nat.reduceAdd, Nat.reduceMul, Nat.zero_add, List.map, mpM, mpTL, mpT, mpSs, mpS, mpCs, mpC, mpN, lk, idN, keys, resT, ro] <;> exact rfl) rfl (by dsimp only [selT, selM, hasN, app, slotsOf, guardS, nth, opS, opsS, partsS, Nat.reduceAdd, Nat.reduceMul, Nat.zero_add, List.map, mpM, mpTL, mpT, mpSs, mpS, mpCs, mpC, mpN, lk, idN, keys, resT, ro, rnN, rn, SV.cells, slotOf] <;> exact rfl) rfl (by dsimp only [Nat.reduceAdd, Nat.reduceMul, Nat.zero_add, List.map, mpM, mpTL, mpT, mpSs, mpS, mpCs, mpC, mpN, lk, idN, keys, resT, ro] <;> exact rfl) rfl rfl rfl rfl ?_ | refine ed_sure (by dsimp only [selT, selM, hasN, app, slotsOf, guardS, nth, opS, opsS, partsS] <;> exact rfl) (by dsimp only [selT, selM, hasN, app, slotsOf, guardS, nth, opS, opsS, partsS] <;> exact rfl) rfl rfl rfl rfl rfl rfl (by dsimp only [Nat.reduceAdd, Nat.reduceMul, Nat.zero_add, List.map, mpM, mpTL, mpT, mpSs, mpS, mpCs, mpC, mpN, lk, idN, keys, resT, ro] <;> exact rfl) rfl (by dsimp only [selT, selM, hasN, app, slotsOf, guardS, nth, opS, opsS, partsS, Nat.reduceAdd, Nat.reduceMul, Nat.zero_add, List.map, mpM, mpTL, mpT, mpSs, mpS, mpCs, mpC, mpN, lk, idN, keys, resT, ro, rnN, rn, SV.cells, slotOf] <;> exact rfl) rfl (by dsimp only [Nat.reduceAdd, Nat.reduceMul, Nat.zero_add, List.map, mpM, mpTL, mpT, mpSs, mpS, mpCs, mpC, mpN, lk, idN, keys, resT, ro] <;> exact rfl) rfl rfl rfl rfl ?_ | refine ed_cons (by dsimp only [selT, selM, hasN, app, slotsOf, guardS, nth, opS, opsS, partsS] <;> exact rfl) (by dsimp only [selT, selM, hasN, app, slotsOf, guardS, nth, opS, opsS, partsS] <;> exact rfl) rfl rfl rfl (by dsimp only [selT, selM, hasN, app, slotsOf, guardS, nth, opS, opsS, partsS, Nat.reduceAdd, Nat.reduceMul, Nat.zero_add, List.map, mpM, mpTL, mpT, mpSs, mpS, mpCs, mpC, mpN, lk, idN, keys, resT, ro, rnN, rn, SV.cells, slotOf] <;> exact rfl) rfl rfl rfl rfl ?_); dsimp only [Int.toNat_natCast, ro, Nat.reduceAdd, Nat.reduceMul, Nat.zero_add, List.map, putT, app, wrapG, gOb, argT, keys, slotOf, dropped, gAnd, wB, rnT, rnS, rnC, rnCs, rnSs, rnM, rnB, rnN, rn, lk, St.over, ded, delL, keepT, menT, menSs, menS, menCs, menC, hasN, resT, SV.cells, c_BelowR, mpM, mpTL, mpT, mpSs, mpS, mpCs, mpC, mpN, rnN, rn, keys, mpM, mpTL, mpT, mpSs, mpS, mpCs, mpC, mpN, selT, selM, hasN, app, slotsOf, guardS, nth, opS, opsS, partsS]) | (refine ed_nil ?_; subst hK_; dsimp only [revApp]; refine Exists.intro _ (And.intro rfl (And.intro (by kernel_rfl) (And.intro ?_ ?_))); rotate_left; (try dsimp only [Int.toNat_natCast, ro, Nat.reduceAdd, Nat.reduceMul, Nat.zero_add, List.map, putT, app, wrapG, gOb, argT, keys, slotOf, dropped, gAnd, wB, rnT, rnS, rnC, rnCs, rnSs, rnM, rnB, rnN, rn, lk, St.over, ded, delL, keepT, menT, menSs, menS, menCs, menC, hasN, resT, SV.cells, c_BelowR, mpM, mpTL, mpT, mpSs, mpS, mpCs, mpC, mpN]); rotate_right; dsimp only [Int.toNat_natCast, ro, Nat.reduceAdd, Nat.reduceMul, Nat.zero_add, List.map, putT, app, wrapG, gOb, argT, keys, slotOf, dropped, gAnd, wB, rnT, rnS, rnC, rnCs, rnSs, rnM, rnB, rnN, rn, lk, St.over, ded, delL, keepT, menT, menSs, menS, menCs, menC, hasN, resT, SV.cells, c_BelowR, mpM, mpTL, mpT, mpSs, mpS, mpCs, mpC, mpN, endT, endM, endU, insN, addN]))
      refine ar_close 15000 f 0 90001 90002 rfl rfl rfl (set_at ?_) rfl rfl rfl ?_
      · (simp only [List.length_map, List.length_set]; omega)
      try dsimp only [Int.toNat_natCast, ro, Nat.reduceAdd, Nat.reduceMul, Nat.zero_add, List.map, putT, app, wrapG, gOb, argT, keys, slotOf, dropped, gAnd, wB, rnT, rnS, rnC, rnCs, rnSs, rnM, rnB, rnN, rn, lk, St.over, ded, delL, keepT, menT, menSs, menS, menCs, menC, hasN, resT, SV.cells]
      repeat' (refine ar_id ?_; first | refine ar_seq ?_ | refine ar_block ?_ | refine ar_blk ?_ | refine ar_skip ?_ | refine ar_label ?_ | refine ar_exit rfl ?_ | refine ar_scope ?_ | refine ar_scp ?_ | (first | ((first | refine ar_region tt_ok (inps := []) rfl ?_ ?_); rotate_left; (try dsimp only [Int.toNat_natCast, ro, Nat.reduceAdd, Nat.reduceMul, Nat.zero_add, List.map, putT, app, wrapG, gOb, argT, keys, slotOf, dropped, gAnd, wB, rnT, rnS, rnC, rnCs, rnSs, rnM, rnB, rnN, rn, lk, St.over, ded, delL, keepT, menT, menSs, menS, menCs, menC, hasN, resT, SV.cells]); rotate_right) | ((first | refine ar_ret ?_ | refine ar_end ?_); refine fin_auto2 rfl (by dsimp only [Nat.reduceAdd, Nat.reduceMul, Nat.zero_add, List.map, mpM, mpTL, mpT, mpSs, mpS, mpCs, mpC, mpN, lk, idN, keys, resT, ro] <;> exact rfl) (by dsimp only [Nat.reduceAdd, Nat.reduceMul, Nat.zero_add, List.map, wkOb, finOb, xTL, xM, xT, xSs, xS, xCs, xC, xB, okTL, okML, okT, okSs, okS, okCs, okC, okB, nodupN, rnN, allIn, fixed, rn, lk, hasN, app, SV.cells, ro, keys, resT] <;> exact rfl) ?_)) | (refine ar_cond rfl trivial ?_ ?_ <;> intro hc_ <;> (try simp only [isNilI, inB, reduceCtorEq, cds] at hc_) <;> (try (first | contradiction | (exfalso; omega)))) | refine ar_until (And.intro ?_ (wk_auto2 (by dsimp only [Nat.reduceAdd, Nat.reduceMul, Nat.zero_add, List.map, mpM, mpTL, mpT, mpSs, mpS, mpCs, mpC, mpN, lk, idN, keys, resT, ro] <;> exact rfl) (by dsimp only [Nat.reduceAdd, Nat.reduceMul, Nat.zero_add, List.map, wkOb, finOb, xTL, xM, xT, xSs, xS, xCs, xC, xB, okTL, okML, okT, okSs, okS, okCs, okC, okB, nodupN, rnN, allIn, fixed, rn, lk, hasN, app, SV.cells, ro, keys, resT] <;> exact rfl) ?_)))
      all_goals (first | refine ar_id ?_ | (try (focus ((try dsimp only [okX, GlAll, app, gOb, All, gAnd, wB, rnT, rnS, rnC, rnCs, rnSs, rnB, rn, lk, obD]); (repeat' (first | exact True.intro | refine And.intro ?_ ?_)); all_goals (try (intro (hg_ : _ = true); (try simp only [isNilI, inB, reduceCtorEq, cds] at hg_); (repeat' (first | exact True.intro | refine And.intro ?_ ?_)))); all_goals (first | first | with_reducible rfl | omega | exact Nat.le_refl _ | exact congrArg (Value.int .i64) (by omega) | (simp only [List.length_map]; first | done | omega) | (simp only [lns]; omega) | exact i64_ok (by omega) (by omega) | exact elem_map (fun _ => rfl) (by assumption) | exact elem_map (fun _ => rfl) (getD_at (by omega)) | exact elem_map' (fun _ => rfl) (by omega) | exact map_at (by omega) | exact set_at (by simp only [lns]; omega) | (rw [List.length_replicate, Int.toNat_natCast] at *; omega) | assumption | decide | skip)))))
      all_goals (try (focus ((try dsimp only [okX, GlAll, app, gOb, All, gAnd, wB, rnT, rnS, rnC, rnCs, rnSs, rnB, rn, lk, obD]); (repeat' (first | exact True.intro | refine And.intro ?_ ?_)); all_goals (try (intro (hg_ : _ = true); (try simp only [isNilI, inB, reduceCtorEq, cds] at hg_); (repeat' (first | exact True.intro | refine And.intro ?_ ?_)))); all_goals (first | first | with_reducible rfl | omega | exact Nat.le_refl _ | exact congrArg (Value.int .i64) (by omega) | (simp only [List.length_map]; first | done | omega) | (simp only [lns]; omega) | exact i64_ok (by omega) (by omega) | exact elem_map (fun _ => rfl) (by assumption) | exact elem_map (fun _ => rfl) (getD_at (by omega)) | exact elem_map' (fun _ => rfl) (by omega) | exact map_at (by omega) | exact set_at (by simp only [lns]; omega) | (rw [List.length_replicate, Int.toNat_natCast] at *; omega) | assumption | decide | exact set_at (by omega) | exact map_at (by omega) | exact fn_BelowR _ _ _ _ (hok i) hx | exact fn_BelowR _ _ _ _ o3 hy | skip))))
      · rw [hS]
      · rw [hS]
      · have hset : ((row.map Tr.eI).set x.1.toNat (dPut (Tr.eI (row.getD x.1.toNat 0)) 0 (D.lit (.int .i64 y.1) .nil))) = (row.set x.1.toNat y.1).map Tr.eI := List.map_set.symm
        rw [hS, List.set_set, hset]
        exact (congrArg (List.set ((T i).1.Cells.map eIntS) f) (show _ = eIntS (row.set x.1.toNat y.1) from rfl)).trans List.map_set.symm
      · rw [hS]
        show _ = ((T i).1.Used.set f true).map Tr.eB
        rw [List.map_set]; rfl
    · have hS' : T (i + 1) = T i := by rw [hS, if_neg hm]
      obtain ⟨md, fr⟩ := e
      have hm' : md ≤ 0 := by have h : ¬ 0 < md := hm; omega
      repeat' (refine ar_id ?_; first | refine ar_seq ?_ | refine ar_block ?_ | refine ar_blk ?_ | refine ar_skip ?_ | refine ar_label ?_ | refine ar_exit rfl ?_ | refine ar_scope ?_ | refine ar_scp ?_ | (first | ((first | refine ar_region (id := 7) tt_ok (inps := [.elem (eEntry ⟨md, fr⟩)]) rfl ?_ ?_ | refine ar_region tt_ok (inps := []) rfl ?_ ?_); rotate_left; (try dsimp only [Int.toNat_natCast, ro, Nat.reduceAdd, Nat.reduceMul, Nat.zero_add, List.map, putT, app, wrapG, gOb, argT, keys, slotOf, dropped, gAnd, wB, rnT, rnS, rnC, rnCs, rnSs, rnM, rnB, rnN, rn, lk, St.over, ded, delL, keepT, menT, menSs, menS, menCs, menC, hasN, resT, SV.cells]); rotate_right) | ((first | refine ar_ret ?_ | refine ar_end ?_); refine fin_auto2 rfl (by dsimp only [Nat.reduceAdd, Nat.reduceMul, Nat.zero_add, List.map, mpM, mpTL, mpT, mpSs, mpS, mpCs, mpC, mpN, lk, idN, keys, resT, ro] <;> exact rfl) (by dsimp only [Nat.reduceAdd, Nat.reduceMul, Nat.zero_add, List.map, wkOb, finOb, xTL, xM, xT, xSs, xS, xCs, xC, xB, okTL, okML, okT, okSs, okS, okCs, okC, okB, nodupN, rnN, allIn, fixed, rn, lk, hasN, app, SV.cells, ro, keys, resT] <;> exact rfl) ?_)) | (refine ar_cond rfl trivial ?_ ?_ <;> intro hc_ <;> (try simp only [isNilI, inB, reduceCtorEq, cds] at hc_) <;> (try (first | contradiction | (exfalso; omega)))) | refine ar_until (And.intro ?_ (wk_auto2 (by dsimp only [Nat.reduceAdd, Nat.reduceMul, Nat.zero_add, List.map, mpM, mpTL, mpT, mpSs, mpS, mpCs, mpC, mpN, lk, idN, keys, resT, ro] <;> exact rfl) (by dsimp only [Nat.reduceAdd, Nat.reduceMul, Nat.zero_add, List.map, wkOb, finOb, xTL, xM, xT, xSs, xS, xCs, xC, xB, okTL, okML, okT, okSs, okS, okCs, okC, okB, nodupN, rnN, allIn, fixed, rn, lk, hasN, app, SV.cells, ro, keys, resT] <;> exact rfl) ?_)))
      all_goals (first | refine ar_id ?_ | (try (focus ((try dsimp only [okX, GlAll, app, gOb, All, gAnd, wB, rnT, rnS, rnC, rnCs, rnSs, rnB, rn, lk, obD]); (repeat' (first | exact True.intro | refine And.intro ?_ ?_)); all_goals (try (intro (hg_ : _ = true); (try simp only [isNilI, inB, reduceCtorEq, cds] at hg_); (repeat' (first | exact True.intro | refine And.intro ?_ ?_)))); all_goals (first | first | with_reducible rfl | omega | exact Nat.le_refl _ | exact congrArg (Value.int .i64) (by omega) | (simp only [List.length_map]; first | done | omega) | (simp only [lns]; omega) | exact i64_ok (by omega) (by omega) | exact elem_map (fun _ => rfl) (by assumption) | exact elem_map (fun _ => rfl) (getD_at (by omega)) | exact elem_map' (fun _ => rfl) (by omega) | exact map_at (by omega) | exact set_at (by simp only [lns]; omega) | (rw [List.length_replicate, Int.toNat_natCast] at *; omega) | assumption | decide | exact hat | exact hm | skip)))))
      all_goals rw [hS']
  · skip
    repeat' (refine ar_id ?_; first | refine ar_seq ?_ | refine ar_block ?_ | refine ar_blk ?_ | refine ar_skip ?_ | refine ar_label ?_ | refine ar_exit rfl ?_ | refine ar_scope ?_ | refine ar_scp ?_ | (first | ((first | refine ar_region tt_ok (inps := []) rfl ?_ ?_); rotate_left; (try dsimp only [Int.toNat_natCast, ro, Nat.reduceAdd, Nat.reduceMul, Nat.zero_add, List.map, putT, app, wrapG, gOb, argT, keys, slotOf, dropped, gAnd, wB, rnT, rnS, rnC, rnCs, rnSs, rnM, rnB, rnN, rn, lk, St.over, ded, delL, keepT, menT, menSs, menS, menCs, menC, hasN, resT, SV.cells]); rotate_right) | ((first | refine ar_ret ?_ | refine ar_end ?_); refine fin_auto2 rfl (by dsimp only [Nat.reduceAdd, Nat.reduceMul, Nat.zero_add, List.map, mpM, mpTL, mpT, mpSs, mpS, mpCs, mpC, mpN, lk, idN, keys, resT, ro] <;> exact rfl) (by dsimp only [Nat.reduceAdd, Nat.reduceMul, Nat.zero_add, List.map, wkOb, finOb, xTL, xM, xT, xSs, xS, xCs, xC, xB, okTL, okML, okT, okSs, okS, okCs, okC, okB, nodupN, rnN, allIn, fixed, rn, lk, hasN, app, SV.cells, ro, keys, resT] <;> exact rfl) ?_)) | (refine ar_cond rfl trivial ?_ ?_ <;> intro hc_ <;> (try simp only [isNilI, inB, reduceCtorEq, cds] at hc_) <;> (try (first | contradiction | (exfalso; omega)))) | refine ar_until (And.intro ?_ (wk_auto2 (by dsimp only [Nat.reduceAdd, Nat.reduceMul, Nat.zero_add, List.map, mpM, mpTL, mpT, mpSs, mpS, mpCs, mpC, mpN, lk, idN, keys, resT, ro] <;> exact rfl) (by dsimp only [Nat.reduceAdd, Nat.reduceMul, Nat.zero_add, List.map, wkOb, finOb, xTL, xM, xT, xSs, xS, xCs, xC, xB, okTL, okML, okT, okSs, okS, okCs, okC, okB, nodupN, rnN, allIn, fixed, rn, lk, hasN, app, SV.cells, ro, keys, resT] <;> exact rfl) ?_)))
    all_goals (first | refine ar_id ?_ | (try (focus ((try dsimp only [okX, GlAll, app, gOb, All, gAnd, wB, rnT, rnS, rnC, rnCs, rnSs, rnB, rn, lk, obD]); (repeat' (first | exact True.intro | refine And.intro ?_ ?_)); all_goals (try (intro (hg_ : _ = true); (try simp only [isNilI, inB, reduceCtorEq, cds] at hg_); (repeat' (first | exact True.intro | refine And.intro ?_ ?_)))); all_goals (first | first | with_reducible rfl | omega | exact Nat.le_refl _ | exact congrArg (Value.int .i64) (by omega) | (simp only [List.length_map]; first | done | omega) | (simp only [lns]; omega) | exact i64_ok (by omega) (by omega) | exact elem_map (fun _ => rfl) (by assumption) | exact elem_map (fun _ => rfl) (getD_at (by omega)) | exact elem_map' (fun _ => rfl) (by omega) | exact map_at (by omega) | exact set_at (by simp only [lns]; omega) | (rw [List.length_replicate, Int.toNat_natCast] at *; omega) | assumption | decide | skip)))))
    all_goals rw [show i = t.1.length by omega]
  all_goals rw [hT0]
/-- refused calls as they are drawn, and the cursor -/
def rS (bs : List Int) (c : Cu) : Nat → List Int × Cu
  | 0 => ([], c)
  | i + 1 => ((rS bs c i).1 ++ [(dBelow bs (dBelow bs (rS bs c i).2 4).2 12).1], (dBelow bs (dBelow bs (rS bs c i).2 4).2 12).2)
def rGo (bs : List Int) : Nat → Nat → List Int × Cu → List Int × Cu
  | 0, _, s => (s.1, (dBelow bs s.2 4).2)
  | f + 1, i, s => if (i : Int) < (dBelow bs s.2 4).1 then rGo bs f (i + 1) (s.1 ++ [(dBelow bs (dBelow bs s.2 4).2 12).1], (dBelow bs (dBelow bs s.2 4).2 12).2) else (s.1, (dBelow bs s.2 4).2)
def dRef (bs : List Int) (c : Cu) : List Int × Cu := rGo bs 4 0 ([], c)
theorem rS_ok {bs : List Int} {c : Cu} (h : okCu bs c) : ∀ i, okCu bs (rS bs c i).2
  | 0 => h
  | i + 1 => dBelow_ok _ (dBelow_ok _ (rS_ok h i))
theorem rS_len (bs : List Int) (c : Cu) : ∀ i, (rS bs c i).1.length = i
  | 0 => rfl
  | i + 1 => by show ((rS bs c i).1 ++ [_]).length = _; rw [List.length_append, rS_len bs c i]; rfl
theorem rGo_facts (bs : List Int) : ∀ (f i : Nat) (s : List Int × Cu), okCu bs s.2 → (∀ x ∈ s.1, 0 ≤ x) → okCu bs (rGo bs f i s).2 ∧ (∀ x ∈ (rGo bs f i s).1, 0 ≤ x) ∧ (rGo bs f i s).1.length ≤ s.1.length + f
  | 0, i, s, h1, h2 => ⟨dBelow_ok _ h1, h2, Nat.le_refl _⟩
  | f + 1, i, s, h1, h2 => by
    unfold rGo
    split
    · have hw := dBelow_lt bs (dBelow bs s.2 4).2 12 (by decide)
      obtain ⟨k1, k2, k3⟩ := rGo_facts bs f (i + 1) (s.1 ++ [(dBelow bs (dBelow bs s.2 4).2 12).1], (dBelow bs (dBelow bs s.2 4).2 12).2) (dBelow_ok _ (dBelow_ok _ h1)) (by
        intro x hx
        rw [List.mem_append, List.mem_singleton] at hx
        rcases hx with hx | hx
        · exact h2 x hx
        · rw [hx]; exact hw.1)
      refine ⟨k1, k2, Nat.le_trans k3 ?_⟩
      simp only [List.length_append, List.length_cons, List.length_nil]
      omega
    · exact ⟨dBelow_ok _ h1, h2, by show s.1.length ≤ _; omega⟩
theorem rGo_in (bs : List Int) {f i : Nat} {s : List Int × Cu} (h : (i : Int) < (dBelow bs s.2 4).1) (hf : f = 4 - i) : rGo bs f i s = rGo bs (4 - (i + 1)) (i + 1) (s.1 ++ [(dBelow bs (dBelow bs s.2 4).2 12).1], (dBelow bs (dBelow bs s.2 4).2 12).2) := by
  have h4 := dBelow_lt bs s.2 4 (by decide)
  rw [show f = (4 - (i + 1)) + 1 by omega]
  exact if_pos h
theorem rGo_out (bs : List Int) {f i : Nat} {s : List Int × Cu} (h : ¬ (i : Int) < (dBelow bs s.2 4).1) : rGo bs f i s = (s.1, (dBelow bs s.2 4).2) := by
  cases f with
  | zero => rfl
  | succ f => exact if_neg h
def c_Ref (bs : List Int) (c : Cu) : CFD := ⟨29, [.one (.box 0 0)], [(0, some (.box 65 [ro 5 1 eU bs, (CV.lit (.int .i64 (((c).i : Int)))), (CV.lit (.int .i64 ((c).h)))]))], .sv (.one (.hd 1)), [(0, some (.box 65 [ro 5 1 eU bs, (CV.lit (.int .i64 ((((dRef bs c).2).i : Int)))), (CV.lit (.int .i64 (((dRef bs c).2).h)))])), (1, some (.row 3 1 ((dRef bs c).1.map Tr.eI)))], [1], []⟩
theorem fn_Ref (bs : List Int) (c : Cu) (hc : okCu bs c) : Fn Try.prog (c_Ref bs c) := by
  obtain ⟨V, hV⟩ : ∃ V, dRef bs c = V := ⟨_, rfl⟩
  have hVe : V = rGo bs 4 0 ([], c) := hV.symm
  have hok := rS_ok hc
  have hlen := rS_len bs c
  have h0 : rS bs c 0 = ([], c) := rfl
  have hS : ∀ i, rS bs c (i + 1) = ((rS bs c i).1 ++ [(dBelow bs (dBelow bs (rS bs c i).2 4).2 12).1], (dBelow bs (dBelow bs (rS bs c i).2 4).2 12).2) := fun _ => rfl
  generalize rS bs c = T at *
  have hB : V = rGo bs (4 - 0) 0 (T 0) := by rw [h0]; exact hVe
  refine fn_intro tt_ok Try.func29 rfl Try.call29 Try.ntmps29 Try.results29 rfl rfl rfl rfl ?_
  intro X ρ0 hb_ hgl_
  dsimp only [c_Ref, Int.toNat_natCast, ro, Nat.reduceAdd, Nat.reduceMul, Nat.zero_add, List.map, putT, app, wrapG, gOb, argT, keys, slotOf, dropped, gAnd, wB, rnT, rnS, rnC, rnCs, rnSs, rnM, rnB, rnN, rn, lk, St.over, ded, delL, keepT, menT, menSs, menS, menCs, menC, hasN, resT, SV.cells]
  rw [hV]
  repeat' (refine ar_id ?_; first | refine ar_seq ?_ | refine ar_block ?_ | refine ar_blk ?_ | refine ar_skip ?_ | refine ar_label ?_ | refine ar_exit rfl ?_ | refine ar_scope ?_ | refine ar_scp ?_ | (first | ((first | refine ar_region tt_ok (inps := []) rfl ?_ ?_); rotate_left; (try dsimp only [Int.toNat_natCast, ro, Nat.reduceAdd, Nat.reduceMul, Nat.zero_add, List.map, putT, app, wrapG, gOb, argT, keys, slotOf, dropped, gAnd, wB, rnT, rnS, rnC, rnCs, rnSs, rnM, rnB, rnN, rn, lk, St.over, ded, delL, keepT, menT, menSs, menS, menCs, menC, hasN, resT, SV.cells]); rotate_right) | ((first | refine ar_ret ?_ | refine ar_end ?_); refine fin_auto2 rfl (by dsimp only [Nat.reduceAdd, Nat.reduceMul, Nat.zero_add, List.map, mpM, mpTL, mpT, mpSs, mpS, mpCs, mpC, mpN, lk, idN, keys, resT, ro] <;> exact rfl) (by dsimp only [Nat.reduceAdd, Nat.reduceMul, Nat.zero_add, List.map, wkOb, finOb, xTL, xM, xT, xSs, xS, xCs, xC, xB, okTL, okML, okT, okSs, okS, okCs, okC, okB, nodupN, rnN, allIn, fixed, rn, lk, hasN, app, SV.cells, ro, keys, resT] <;> exact rfl) ?_)) | (refine ar_cond rfl trivial ?_ ?_ <;> intro hc_ <;> (try simp only [isNilI, inB, reduceCtorEq, cds] at hc_) <;> (try (first | contradiction | (exfalso; omega)))) | refine ar_until (And.intro ?_ (wk_auto2 (by dsimp only [Nat.reduceAdd, Nat.reduceMul, Nat.zero_add, List.map, mpM, mpTL, mpT, mpSs, mpS, mpCs, mpC, mpN, lk, idN, keys, resT, ro] <;> exact rfl) (by dsimp only [Nat.reduceAdd, Nat.reduceMul, Nat.zero_add, List.map, wkOb, finOb, xTL, xM, xT, xSs, xS, xCs, xC, xB, okTL, okML, okT, okSs, okS, okCs, okC, okB, nodupN, rnN, allIn, fixed, rn, lk, hasN, app, SV.cells, ro, keys, resT] <;> exact rfl) ?_)))
  all_goals (first | refine ar_id ?_ | (try (focus ((try dsimp only [okX, GlAll, app, gOb, All, gAnd, wB, rnT, rnS, rnC, rnCs, rnSs, rnB, rn, lk, obD]); (repeat' (first | exact True.intro | refine And.intro ?_ ?_)); all_goals (try (intro (hg_ : _ = true); (try simp only [isNilI, inB, reduceCtorEq, cds] at hg_); (repeat' (first | exact True.intro | refine And.intro ?_ ?_)))); all_goals (first | first | with_reducible rfl | omega | exact Nat.le_refl _ | exact congrArg (Value.int .i64) (by omega) | (simp only [List.length_map]; first | done | omega) | (simp only [lns]; omega) | exact i64_ok (by omega) (by omega) | exact elem_map (fun _ => rfl) (by assumption) | exact elem_map (fun _ => rfl) (getD_at (by omega)) | exact elem_map' (fun _ => rfl) (by omega) | exact map_at (by omega) | exact set_at (by simp only [lns]; omega) | (rw [List.length_replicate, Int.toNat_natCast] at *; omega) | assumption | decide | skip)))))
  refine ar_keep 29 (by dsimp only [keepS] <;> exact rfl) ?_
  refine ar_forM (4) (fun i => V = rGo bs (4 - i) i (T i)) (fun i => [(4, (TV.sv (.one (.lit (.int .i64 (i)))))), (3, (TV.sv (.one (.hd 5))))]) (fun i => [(5, some (.row 3 1 ((T i).1.map Tr.eI))), (0, some ((.box 65 [ro 5 1 eU bs, (CV.lit (.int .i64 ((((T i).2).i : Int)))), (CV.lit (.int .i64 (((T i).2).h)))])))]) ?_ ?_ ?_
  rotate_left
  · first | trivial | simp
  (dsimp only [Int.toNat_natCast, ro, Nat.reduceAdd, Nat.reduceMul, Nat.zero_add, List.map, putT, app, wrapG, gOb, argT, keys, slotOf, dropped, gAnd, wB, rnT, rnS, rnC, rnCs, rnSs, rnM, rnB, rnN, rn, lk, St.over, ded, delL, keepT, menT, menSs, menS, menCs, menC, hasN, resT, SV.cells]; refine wk_auto2 (by dsimp only [Nat.reduceAdd, Nat.reduceMul, Nat.zero_add, List.map, mpM, mpTL, mpT, mpSs, mpS, mpCs, mpC, mpN, lk, idN, keys, resT, ro] <;> exact rfl) (by dsimp only [Nat.reduceAdd, Nat.reduceMul, Nat.zero_add, List.map, wkOb, finOb, xTL, xM, xT, xSs, xS, xCs, xC, xB, okTL, okML, okT, okSs, okS, okCs, okC, okB, nodupN, rnN, allIn, fixed, rn, lk, hasN, app, SV.cells, ro, keys, resT] <;> exact rfl) ?_; (focus ((try dsimp only [okX, GlAll, app, gOb, All, gAnd, wB, rnT, rnS, rnC, rnCs, rnSs, rnB, rn, lk, obD]); (repeat' (first | exact True.intro | refine And.intro ?_ ?_)); all_goals (try (intro (hg_ : _ = true); (try simp only [isNilI, inB, reduceCtorEq, cds] at hg_); (repeat' (first | exact True.intro | refine And.intro ?_ ?_)))); all_goals (first | first | with_reducible rfl | omega | exact Nat.le_refl _ | exact congrArg (Value.int .i64) (by omega) | (simp only [List.length_map]; first | done | omega) | (simp only [lns]; omega) | exact i64_ok (by omega) (by omega) | exact elem_map (fun _ => rfl) (by assumption) | exact elem_map (fun _ => rfl) (getD_at (by omega)) | exact elem_map' (fun _ => rfl) (by omega) | exact map_at (by omega) | exact set_at (by simp only [lns]; omega) | (rw [List.length_replicate, Int.toNat_natCast] at *; omega) | assumption | decide | exact rfl | skip))))
  rotate_right
  intro i hi_ hiI_
  dsimp only [Int.toNat_natCast, ro, Nat.reduceAdd, Nat.reduceMul, Nat.zero_add, List.map, putT, app, wrapG, gOb, argT, keys, slotOf, dropped, gAnd, wB, rnT, rnS, rnC, rnCs, rnSs, rnM, rnB, rnN, rn, lk, St.over, ded, delL, keepT, menT, menSs, menS, menCs, menC, hasN, resT, SV.cells]
  obtain ⟨v, hv⟩ : ∃ v, dBelow bs (T i).2 4 = v := ⟨_, rfl⟩
  have hv4 : 0 ≤ v.1 ∧ v.1 < 4 := hv ▸ dBelow_lt bs _ 4 (by decide)
  have o2 : okCu bs v.2 := hv ▸ dBelow_ok _ (hok i)
  obtain ⟨x, hx⟩ : ∃ x, dBelow bs v.2 12 = x := ⟨_, rfl⟩
  have hSi := hS i
  rw [hv, hx] at hSi
  repeat' (refine ar_id ?_; first | refine ar_seq ?_ | refine ar_block ?_ | refine ar_blk ?_ | refine ar_skip ?_ | refine ar_label ?_ | refine ar_exit rfl ?_ | refine ar_scope ?_ | refine ar_scp ?_ | (refine ar_run (id := 3) [.call (c_BelowR bs (T i).2 4 v)] ?_; generalize hQ_ : kont _ _ _ _ = Q_; repeat' (first | (focus ((first | refine as_call tt_ok rfl rfl rfl rfl rfl rfl (by dsimp only [Nat.reduceAdd, Nat.reduceMul, Nat.zero_add, List.map, mpM, mpTL, mpT, mpSs, mpS, mpCs, mpC, mpN, lk, idN, keys, resT, ro] <;> exact rfl) rfl rfl rfl rfl ?_ ?_ | refine as_sure tt_ok rfl rfl rfl rfl rfl rfl (by dsimp only [Nat.reduceAdd, Nat.reduceMul, Nat.zero_add, List.map, mpM, mpTL, mpT, mpSs, mpS, mpCs, mpC, mpN, lk, idN, keys, resT, ro] <;> exact rfl) rfl rfl rfl rfl ?_ ?_ | refine as_cons tt_ok rfl rfl rfl rfl rfl rfl ?_ ?_); dsimp only [Int.toNat_natCast, ro, Nat.reduceAdd, Nat.reduceMul, Nat.zero_add, List.map, putT, app, wrapG, gOb, argT, keys, slotOf, dropped, gAnd, wB, rnT, rnS, rnC, rnCs, rnSs, rnM, rnB, rnN, rn, lk, St.over, ded, delL, keepT, menT, menSs, menS, menCs, menC, hasN, resT, SV.cells, c_BelowR, mpM, mpTL, mpT, mpSs, mpS, mpCs, mpC, mpN]; rotate_left)) | (subst hQ_; refine as_nil ?_))) | (refine ar_run (id := 5) [.call (c_BelowR bs v.2 12 x)] ?_; generalize hQ_ : kont _ _ _ _ = Q_; repeat' (first | (focus ((first | refine as_call tt_ok rfl rfl rfl rfl rfl rfl (by dsimp only [Nat.reduceAdd, Nat.reduceMul, Nat.zero_add, List.map, mpM, mpTL, mpT, mpSs, mpS, mpCs, mpC, mpN, lk, idN, keys, resT, ro] <;> exact rfl) rfl rfl rfl rfl ?_ ?_ | refine as_sure tt_ok rfl rfl rfl rfl rfl rfl (by dsimp only [Nat.reduceAdd, Nat.reduceMul, Nat.zero_add, List.map, mpM, mpTL, mpT, mpSs, mpS, mpCs, mpC, mpN, lk, idN, keys, resT, ro] <;> exact rfl) rfl rfl rfl rfl ?_ ?_ | refine as_cons tt_ok rfl rfl rfl rfl rfl rfl ?_ ?_); dsimp only [Int.toNat_natCast, ro, Nat.reduceAdd, Nat.reduceMul, Nat.zero_add, List.map, putT, app, wrapG, gOb, argT, keys, slotOf, dropped, gAnd, wB, rnT, rnS, rnC, rnCs, rnSs, rnM, rnB, rnN, rn, lk, St.over, ded, delL, keepT, menT, menSs, menS, menCs, menC, hasN, resT, SV.cells, c_BelowR, mpM, mpTL, mpT, mpSs, mpS, mpCs, mpC, mpN]; rotate_left)) | (subst hQ_; refine as_nil ?_))) | (first | ((first | refine ar_region tt_ok (inps := []) rfl ?_ ?_); rotate_left; (try dsimp only [Int.toNat_natCast, ro, Nat.reduceAdd, Nat.reduceMul, Nat.zero_add, List.map, putT, app, wrapG, gOb, argT, keys, slotOf, dropped, gAnd, wB, rnT, rnS, rnC, rnCs, rnSs, rnM, rnB, rnN, rn, lk, St.over, ded, delL, keepT, menT, menSs, menS, menCs, menC, hasN, resT, SV.cells, c_BelowR, mpM, mpTL, mpT, mpSs, mpS, mpCs, mpC, mpN]); rotate_right) | ((first | refine ar_ret ?_ | refine ar_end ?_); refine fin_auto2 rfl (by dsimp only [Nat.reduceAdd, Nat.reduceMul, Nat.zero_add, List.map, mpM, mpTL, mpT, mpSs, mpS, mpCs, mpC, mpN, lk, idN, keys, resT, ro] <;> exact rfl) (by dsimp only [Nat.reduceAdd, Nat.reduceMul, Nat.zero_add, List.map, wkOb, finOb, xTL, xM, xT, xSs, xS, xCs, xC, xB, okTL, okML, okT, okSs, okS, okCs, okC, okB, nodupN, rnN, allIn, fixed, rn, lk, hasN, app, SV.cells, ro, keys, resT] <;> exact rfl) ?_)) | (refine ar_cond rfl trivial ?_ ?_ <;> intro hc_ <;> (try simp only [isNilI, inB, reduceCtorEq, cds] at hc_) <;> (try (first | contradiction | (exfalso; omega)))) | refine ar_until (And.intro ?_ (wk_auto2 (by dsimp only [Nat.reduceAdd, Nat.reduceMul, Nat.zero_add, List.map, mpM, mpTL, mpT, mpSs, mpS, mpCs, mpC, mpN, lk, idN, keys, resT, ro] <;> exact rfl) (by dsimp only [Nat.reduceAdd, Nat.reduceMul, Nat.zero_add, List.map, wkOb, finOb, xTL, xM, xT, xSs, xS, xCs, xC, xB, okTL, okML, okT, okSs, okS, okCs, okC, okB, nodupN, rnN, allIn, fixed, rn, lk, hasN, app, SV.cells, ro, keys, resT] <;> exact rfl) ?_)))
  all_goals (first | refine ar_id ?_ | (try (focus ((try dsimp only [okX, GlAll, app, gOb, All, gAnd, wB, rnT, rnS, rnC, rnCs, rnSs, rnB, rn, lk, obD]); (repeat' (first | exact True.intro | refine And.intro ?_ ?_)); all_goals (try (intro (hg_ : _ = true); (try simp only [isNilI, inB, reduceCtorEq, cds] at hg_); (repeat' (first | exact True.intro | refine And.intro ?_ ?_)))); all_goals (first | first | with_reducible rfl | omega | exact Nat.le_refl _ | exact congrArg (Value.int .i64) (by omega) | (simp only [List.length_map]; first | done | omega) | (simp only [lns]; omega) | exact i64_ok (by omega) (by omega) | exact elem_map (fun _ => rfl) (by assumption) | exact elem_map (fun _ => rfl) (getD_at (by omega)) | exact elem_map' (fun _ => rfl) (by omega) | exact map_at (by omega) | exact set_at (by simp only [lns]; omega) | (rw [List.length_replicate, Int.toNat_natCast] at *; omega) | assumption | decide | exact fn_BelowR _ _ _ _ (hok i) hv | exact fn_BelowR _ _ _ _ o2 hx | skip)))))
  · simp only [List.length_map, hlen, List.length_cons, List.length_nil]; omega
  · have hlt : (i : Int) < (dBelow bs (T i).2 4).1 := by rw [hv]; exact hc_
    rw [hiI_, rGo_in bs hlt rfl, hS i]
  · rw [hSi, List.map_append, app_eq]; rfl
  · rw [hSi]
  · rw [hSi]
  all_goals first
    | (have hge : ¬ (i : Int) < (dBelow bs (T i).2 4).1 := by rw [hv]; omega
       rw [hiI_, rGo_out bs hge, hv]; done)
    | (rw [h0]; done)
    | (rw [h0]; rfl)
/-- a kernel -/
def dKer (bs : List Int) (c : Cu) : GKernel × Cu :=
  let m := dMach bs c
  let a := dBelow bs m.2 6
  let r := dRef bs a.2
  (⟨m.1, a.1, r.1⟩, r.2)
theorem dKer_ok {bs : List Int} {c : Cu} (h : okCu bs c) : okCu bs (dKer bs c).2 := (rGo_facts bs 4 0 ([], _) (dBelow_ok _ (dMach_ok h)) (fun x hx => nomatch hx)).1
theorem dKer_valid {bs : List Int} {c : Cu} (h : okCu bs c) : okK (dKer bs c).1 ∧ (dKer bs c).1.Calls < 6 := by
  have ha := dBelow_lt bs (dMach bs c).2 6 (by decide)
  obtain ⟨k1, k2, k3⟩ := rGo_facts bs 4 0 ([], (dBelow bs (dMach bs c).2 6).2) (dBelow_ok _ (dMach_ok h)) (fun x hx => nomatch hx)
  exact ⟨⟨dMach_valid bs c, ⟨ha.1, by show (dBelow bs (dMach bs c).2 6).1 ≤ 100000; omega⟩, k2, Nat.le_trans k3 (by simp)⟩, ha.2⟩
def c_MachR (bs : List Int) (c : Cu) (r : GMachine × Cu) : CFD := ⟨28, [.one (.box 0 0)], [(0, some (.box 65 [ro 5 1 eU bs, (CV.lit (.int .i64 (((c).i : Int)))), (CV.lit (.int .i64 ((c).h)))]))], .sv (.agg [.hd 1, .hd 2, .hd 3]), [(0, some (.box 65 [ro 5 1 eU bs, (CV.lit (.int .i64 (((r.2).i : Int)))), (CV.lit (.int .i64 ((r.2).h)))])), (1, some (.row 33 1 (r.1.Frames.Cells.map eIntS))), (2, some (.row 4 1 (r.1.Frames.Used.map Tr.eB))), (3, some (.row 51 2 (r.1.Table.Entries.map eEntry)))], [1, 2, 3], []⟩
theorem fn_MachR (bs : List Int) (c : Cu) (r : GMachine × Cu) (hc : okCu bs c) (h : dMach bs c = r) : Fn Try.prog (c_MachR bs c r) := h ▸ fn_Mach bs c hc
def c_RefR (bs : List Int) (c : Cu) (r : List Int × Cu) : CFD := ⟨29, [.one (.box 0 0)], [(0, some (.box 65 [ro 5 1 eU bs, (CV.lit (.int .i64 (((c).i : Int)))), (CV.lit (.int .i64 ((c).h)))]))], .sv (.one (.hd 1)), [(0, some (.box 65 [ro 5 1 eU bs, (CV.lit (.int .i64 (((r.2).i : Int)))), (CV.lit (.int .i64 ((r.2).h)))])), (1, some (.row 3 1 (r.1.map Tr.eI)))], [1], []⟩
theorem fn_RefR (bs : List Int) (c : Cu) (r : List Int × Cu) (hc : okCu bs c) (h : dRef bs c = r) : Fn Try.prog (c_RefR bs c r) := h ▸ fn_Ref bs c hc
def c_KerR (bs : List Int) (c : Cu) (r : GKernel × Cu) : CFD := ⟨13, [.one (.box 0 0)], [(0, some (.box 65 [ro 5 1 eU bs, (CV.lit (.int .i64 (((c).i : Int)))), (CV.lit (.int .i64 ((c).h)))]))], .sv (.agg [.hd 1, .hd 2, .hd 3, (CV.lit (.int .i64 (r.1.Calls))), .hd 4]), [(0, some (.box 65 [ro 5 1 eU bs, (CV.lit (.int .i64 (((r.2).i : Int)))), (CV.lit (.int .i64 ((r.2).h)))])), (1, some (.row 33 1 (r.1.Machine.Frames.Cells.map eIntS))), (2, some (.row 4 1 (r.1.Machine.Frames.Used.map Tr.eB))), (3, some (.row 51 2 (r.1.Machine.Table.Entries.map eEntry))), (4, some (.row 3 1 (r.1.Refuse.map Tr.eI)))], [1, 2, 3, 4], []⟩
theorem fn_KerR (bs : List Int) (c : Cu) (r : GKernel × Cu) (hc : okCu bs c) (h : dKer bs c = r) : Fn Try.prog (c_KerR bs c r) := by
  obtain ⟨m, hm⟩ : ∃ m, dMach bs c = m := ⟨_, rfl⟩
  have o1 : okCu bs m.2 := hm ▸ dMach_ok hc
  obtain ⟨a, ha⟩ : ∃ a, dBelow bs m.2 6 = a := ⟨_, rfl⟩
  have o2 : okCu bs a.2 := ha ▸ dBelow_ok _ o1
  obtain ⟨f, hf⟩ : ∃ f, dRef bs a.2 = f := ⟨_, rfl⟩
  have hV : r = (⟨m.1, a.1, f.1⟩, f.2) := by
    rw [← h]
    unfold dKer
    simp only [hm, ha, hf]
  refine fn_intro tt_ok Try.func13 rfl Try.call13 Try.ntmps13 Try.results13 rfl rfl rfl rfl ?_
  intro X ρ0 hb_ hgl_
  dsimp only [c_KerR, Int.toNat_natCast, ro, Nat.reduceAdd, Nat.reduceMul, Nat.zero_add, List.map, putT, app, wrapG, gOb, argT, keys, slotOf, dropped, gAnd, wB, rnT, rnS, rnC, rnCs, rnSs, rnM, rnB, rnN, rn, lk, St.over, ded, delL, keepT, menT, menSs, menS, menCs, menC, hasN, resT, SV.cells]
  rw [hV]
  repeat' (refine ar_id ?_; first | refine ar_seq ?_ | refine ar_block ?_ | refine ar_blk ?_ | refine ar_skip ?_ | refine ar_label ?_ | refine ar_exit rfl ?_ | refine ar_scope ?_ | refine ar_scp ?_ | (refine ar_run (id := 1) [.call (c_MachR bs c m), .call (c_BelowR bs m.2 6 a), .call (c_RefR bs a.2 f)] ?_; generalize hQ_ : kont _ _ _ _ = Q_; repeat' (first | (focus ((first | refine as_call tt_ok rfl rfl rfl rfl rfl rfl (by dsimp only [Nat.reduceAdd, Nat.reduceMul, Nat.zero_add, List.map, mpM, mpTL, mpT, mpSs, mpS, mpCs, mpC, mpN, lk, idN, keys, resT, ro] <;> exact rfl) rfl rfl rfl rfl ?_ ?_ | refine as_sure tt_ok rfl rfl rfl rfl rfl rfl (by dsimp only [Nat.reduceAdd, Nat.reduceMul, Nat.zero_add, List.map, mpM, mpTL, mpT, mpSs, mpS, mpCs, mpC, mpN, lk, idN, keys, resT, ro] <;> exact rfl) rfl rfl rfl rfl ?_ ?_ | refine as_cons tt_ok rfl rfl rfl rfl rfl rfl ?_ ?_); dsimp only [Int.toNat_natCast, ro, Nat.reduceAdd, Nat.reduceMul, Nat.zero_add, List.map, putT, app, wrapG, gOb, argT, keys, slotOf, dropped, gAnd, wB, rnT, rnS, rnC, rnCs, rnSs, rnM, rnB, rnN, rn, lk, St.over, ded, delL, keepT, menT, menSs, menS, menCs, menC, hasN, resT, SV.cells, c_BelowR, c_MachR, c_RefR, mpM, mpTL, mpT, mpSs, mpS, mpCs, mpC, mpN]; rotate_left)) | (subst hQ_; refine as_nil ?_))) | (first | ((first | refine ar_region tt_ok (inps := []) rfl ?_ ?_); rotate_left; (try dsimp only [Int.toNat_natCast, ro, Nat.reduceAdd, Nat.reduceMul, Nat.zero_add, List.map, putT, app, wrapG, gOb, argT, keys, slotOf, dropped, gAnd, wB, rnT, rnS, rnC, rnCs, rnSs, rnM, rnB, rnN, rn, lk, St.over, ded, delL, keepT, menT, menSs, menS, menCs, menC, hasN, resT, SV.cells, c_BelowR, c_MachR, c_RefR, mpM, mpTL, mpT, mpSs, mpS, mpCs, mpC, mpN]); rotate_right) | ((first | refine ar_ret ?_ | refine ar_end ?_); refine fin_auto2 rfl (by dsimp only [Nat.reduceAdd, Nat.reduceMul, Nat.zero_add, List.map, mpM, mpTL, mpT, mpSs, mpS, mpCs, mpC, mpN, lk, idN, keys, resT, ro] <;> exact rfl) (by dsimp only [Nat.reduceAdd, Nat.reduceMul, Nat.zero_add, List.map, wkOb, finOb, xTL, xM, xT, xSs, xS, xCs, xC, xB, okTL, okML, okT, okSs, okS, okCs, okC, okB, nodupN, rnN, allIn, fixed, rn, lk, hasN, app, SV.cells, ro, keys, resT] <;> exact rfl) ?_)) | (refine ar_cond rfl trivial ?_ ?_ <;> intro hc_ <;> (try simp only [isNilI, inB, reduceCtorEq, cds] at hc_) <;> (try (first | contradiction | (exfalso; omega)))) | refine ar_until (And.intro ?_ (wk_auto2 (by dsimp only [Nat.reduceAdd, Nat.reduceMul, Nat.zero_add, List.map, mpM, mpTL, mpT, mpSs, mpS, mpCs, mpC, mpN, lk, idN, keys, resT, ro] <;> exact rfl) (by dsimp only [Nat.reduceAdd, Nat.reduceMul, Nat.zero_add, List.map, wkOb, finOb, xTL, xM, xT, xSs, xS, xCs, xC, xB, okTL, okML, okT, okSs, okS, okCs, okC, okB, nodupN, rnN, allIn, fixed, rn, lk, hasN, app, SV.cells, ro, keys, resT] <;> exact rfl) ?_)))
  all_goals (first | refine ar_id ?_ | (try (focus ((try dsimp only [okX, GlAll, app, gOb, All, gAnd, wB, rnT, rnS, rnC, rnCs, rnSs, rnB, rn, lk, obD]); (repeat' (first | exact True.intro | refine And.intro ?_ ?_)); all_goals (try (intro (hg_ : _ = true); (try simp only [isNilI, inB, reduceCtorEq, cds] at hg_); (repeat' (first | exact True.intro | refine And.intro ?_ ?_)))); all_goals (first | first | with_reducible rfl | omega | exact Nat.le_refl _ | exact congrArg (Value.int .i64) (by omega) | (simp only [List.length_map]; first | done | omega) | (simp only [lns]; omega) | exact i64_ok (by omega) (by omega) | exact elem_map (fun _ => rfl) (by assumption) | exact elem_map (fun _ => rfl) (getD_at (by omega)) | exact elem_map' (fun _ => rfl) (by omega) | exact map_at (by omega) | exact set_at (by simp only [lns]; omega) | (rw [List.length_replicate, Int.toNat_natCast] at *; omega) | assumption | decide | exact fn_MachR _ _ _ hc hm | exact fn_BelowR _ _ _ _ o1 ha | exact fn_RefR _ _ _ o2 hf | skip)))))
  all_goals trace_state
def c_DrawK (bs : List Int) (k : GKernel) : CFD := ⟨5, [.one (ro 5 1 eU bs)], [], .sv (.agg [.hd 0, .hd 1, .hd 2, (CV.lit (.int .i64 (k.Calls))), .hd 3]), [(0, some (.row 33 1 (k.Machine.Frames.Cells.map eIntS))), (1, some (.row 4 1 (k.Machine.Frames.Used.map Tr.eB))), (2, some (.row 51 2 (k.Machine.Table.Entries.map eEntry))), (3, some (.row 3 1 (k.Refuse.map Tr.eI)))], [0, 1, 2, 3], []⟩
theorem fn_DrawK (bs : List Int) (k : GKernel) (hl : bs.length ≤ 1048576) (hb : ∀ x ∈ bs, 0 ≤ x ∧ x ≤ 255) (h : (dKer bs (dNew bs)).1 = k) : Fn Try.prog (c_DrawK bs k) := by
  obtain ⟨r, hr⟩ : ∃ r, dKer bs (dNew bs) = r := ⟨_, rfl⟩
  have hk : k = r.1 := by rw [← h, hr]
  subst hk
  refine fn_intro tt_ok Try.func5 rfl Try.call5 Try.ntmps5 Try.results5 rfl rfl rfl rfl ?_
  intro X ρ0 hb_ hgl_
  dsimp only [c_DrawK, Int.toNat_natCast, ro, Nat.reduceAdd, Nat.reduceMul, Nat.zero_add, List.map, putT, app, wrapG, gOb, argT, keys, slotOf, dropped, gAnd, wB, rnT, rnS, rnC, rnCs, rnSs, rnM, rnB, rnN, rn, lk, St.over, ded, delL, keepT, menT, menSs, menS, menCs, menC, hasN, resT, SV.cells]
  repeat' (refine ar_id ?_; first | refine ar_seq ?_ | refine ar_block ?_ | refine ar_blk ?_ | refine ar_skip ?_ | refine ar_label ?_ | refine ar_exit rfl ?_ | refine ar_scope ?_ | refine ar_scp ?_ | (refine ar_run (id := 1) [.call (c_NewC bs), .call (c_KerR bs (dNew bs) r)] ?_; generalize hQ_ : kont _ _ _ _ = Q_; repeat' (first | (focus ((first | refine as_call tt_ok rfl rfl rfl rfl rfl rfl (by dsimp only [Nat.reduceAdd, Nat.reduceMul, Nat.zero_add, List.map, mpM, mpTL, mpT, mpSs, mpS, mpCs, mpC, mpN, lk, idN, keys, resT, ro] <;> exact rfl) rfl rfl rfl rfl ?_ ?_ | refine as_sure tt_ok rfl rfl rfl rfl rfl rfl (by dsimp only [Nat.reduceAdd, Nat.reduceMul, Nat.zero_add, List.map, mpM, mpTL, mpT, mpSs, mpS, mpCs, mpC, mpN, lk, idN, keys, resT, ro] <;> exact rfl) rfl rfl rfl rfl ?_ ?_ | refine as_cons tt_ok rfl rfl rfl rfl rfl rfl ?_ ?_); dsimp only [Int.toNat_natCast, ro, Nat.reduceAdd, Nat.reduceMul, Nat.zero_add, List.map, putT, app, wrapG, gOb, argT, keys, slotOf, dropped, gAnd, wB, rnT, rnS, rnC, rnCs, rnSs, rnM, rnB, rnN, rn, lk, St.over, ded, delL, keepT, menT, menSs, menS, menCs, menC, hasN, resT, SV.cells, c_KerR, c_NewC, mpM, mpTL, mpT, mpSs, mpS, mpCs, mpC, mpN]; rotate_left)) | (subst hQ_; refine as_nil ?_))) | (first | ((first | refine ar_region tt_ok (inps := []) rfl ?_ ?_); rotate_left; (try dsimp only [Int.toNat_natCast, ro, Nat.reduceAdd, Nat.reduceMul, Nat.zero_add, List.map, putT, app, wrapG, gOb, argT, keys, slotOf, dropped, gAnd, wB, rnT, rnS, rnC, rnCs, rnSs, rnM, rnB, rnN, rn, lk, St.over, ded, delL, keepT, menT, menSs, menS, menCs, menC, hasN, resT, SV.cells, c_KerR, c_NewC, mpM, mpTL, mpT, mpSs, mpS, mpCs, mpC, mpN]); rotate_right) | ((first | refine ar_ret ?_ | refine ar_end ?_); refine fin_auto2 rfl (by dsimp only [Nat.reduceAdd, Nat.reduceMul, Nat.zero_add, List.map, mpM, mpTL, mpT, mpSs, mpS, mpCs, mpC, mpN, lk, idN, keys, resT, ro] <;> exact rfl) (by dsimp only [Nat.reduceAdd, Nat.reduceMul, Nat.zero_add, List.map, wkOb, finOb, xTL, xM, xT, xSs, xS, xCs, xC, xB, okTL, okML, okT, okSs, okS, okCs, okC, okB, nodupN, rnN, allIn, fixed, rn, lk, hasN, app, SV.cells, ro, keys, resT] <;> exact rfl) ?_)) | (refine ar_cond rfl trivial ?_ ?_ <;> intro hc_ <;> (try simp only [isNilI, inB, reduceCtorEq, cds] at hc_) <;> (try (first | contradiction | (exfalso; omega)))) | refine ar_until (And.intro ?_ (wk_auto2 (by dsimp only [Nat.reduceAdd, Nat.reduceMul, Nat.zero_add, List.map, mpM, mpTL, mpT, mpSs, mpS, mpCs, mpC, mpN, lk, idN, keys, resT, ro] <;> exact rfl) (by dsimp only [Nat.reduceAdd, Nat.reduceMul, Nat.zero_add, List.map, wkOb, finOb, xTL, xM, xT, xSs, xS, xCs, xC, xB, okTL, okML, okT, okSs, okS, okCs, okC, okB, nodupN, rnN, allIn, fixed, rn, lk, hasN, app, SV.cells, ro, keys, resT] <;> exact rfl) ?_)))
  all_goals (first | refine ar_id ?_ | (try (focus ((try dsimp only [okX, GlAll, app, gOb, All, gAnd, wB, rnT, rnS, rnC, rnCs, rnSs, rnB, rn, lk, obD]); (repeat' (first | exact True.intro | refine And.intro ?_ ?_)); all_goals (try (intro (hg_ : _ = true); (try simp only [isNilI, inB, reduceCtorEq, cds] at hg_); (repeat' (first | exact True.intro | refine And.intro ?_ ?_)))); all_goals (first | first | with_reducible rfl | omega | exact Nat.le_refl _ | exact congrArg (Value.int .i64) (by omega) | (simp only [List.length_map]; first | done | omega) | (simp only [lns]; omega) | exact i64_ok (by omega) (by omega) | exact elem_map (fun _ => rfl) (by assumption) | exact elem_map (fun _ => rfl) (getD_at (by omega)) | exact elem_map' (fun _ => rfl) (by omega) | exact map_at (by omega) | exact set_at (by simp only [lns]; omega) | (rw [List.length_replicate, Int.toNat_natCast] at *; omega) | assumption | decide | exact fn_NewC bs hl hb | exact fn_KerR _ _ _ (dNew_ok hl hb) hr | skip)))))
  all_goals trace_state
end Eng
end Go.Proofs.Ytkcoejodhdnoiaa

/- Frees that wait: the program's LateAdd, by the symbolic run. -/
import Derived.Test.YtgeakpeodhhffaaE16a
namespace Go.Proofs.Ytgeakpeodhhffaa
open Go.RowKit
set_option linter.unusedVariables false
set_option linter.unusedSimpArgs false
set_option maxRecDepth 100000
namespace Eng
open Tr
def c_CloneLt (l : List GLate) : CFD := ⟨13, [.one (ro 30 2 eLate l)], [], .sv (.one (.hd 0)), [(0, some (.row 30 2 (l.map eLate)))], [0], []⟩
theorem fn_CloneLt (l : List GLate) (hl : l.length ≤ 1048576) : Fn Try.prog (c_CloneLt l) := by
  refine fn_intro tt_ok Try.func13 rfl Try.call13 Try.ntmps13 Try.results13 rfl rfl rfl rfl ?_
  intro X ρ0 hb_ hgl_
  dsimp only [c_CloneLt]
  try refine nrm ?_
  repeat' (refine ar_id ?_; first | refine st1 ?_ | (first | ((first | refine ar_region tt_ok (inps := []) rfl ?_ ?_); rotate_left; (try refine nrm ?_); rotate_right) | refine ret3 ?_ | refine end3 ?_) | (refine ar_cond rfl trivial ?_ ?_ <;> intro hc_ <;> (try simp only [isNilI, inB, reduceCtorEq, cds] at hc_) <;> (try (first | contradiction | (exfalso; omega)))) | refine ar_until (And.intro ?_ (wk3 ?_)))
  all_goals (first | refine ar_id ?_ | (try (focus ((try refine nrmO ?_); (repeat' (first | exact True.intro | refine And.intro ?_ ?_)); all_goals (try (intro (hg_ : _ = true); (try simp only [isNilI, inB, reduceCtorEq, cds] at hg_); (repeat' (first | exact True.intro | refine And.intro ?_ ?_)))); all_goals (first | exact ob1 | skip)))))
  refine ar_split (s := 0) rfl ?_ ?_
  · intro hn hc
    repeat' (refine ar_id ?_; first | refine st1 ?_ | (first | ((first | refine ar_region tt_ok (inps := []) rfl ?_ ?_); rotate_left; (try refine nrm ?_); rotate_right) | refine ret3 ?_ | refine end3 ?_) | (refine ar_cond rfl trivial ?_ ?_ <;> intro hc_ <;> (try simp only [isNilI, inB, reduceCtorEq, cds] at hc_) <;> (try (first | contradiction | (exfalso; omega)))) | refine ar_until (And.intro ?_ (wk3 ?_)))
    all_goals (first | refine ar_id ?_ | (try (focus ((try refine nrmO ?_); (repeat' (first | exact True.intro | refine And.intro ?_ ?_)); all_goals (try (intro (hg_ : _ = true); (try simp only [isNilI, inB, reduceCtorEq, cds] at hg_); (repeat' (first | exact True.intro | refine And.intro ?_ ?_)))); all_goals (first | exact ob1 | skip)))))
    refine ar_nil (s := 2) (T := 30) (q := 2) (r := 90000) rfl rfl ?_
    repeat' (refine ar_id ?_; first | refine st1 ?_ | (first | ((first | refine ar_region tt_ok (inps := []) rfl ?_ ?_); rotate_left; (try refine nrm ?_); rotate_right) | refine ret3 ?_ | refine end3 ?_) | (refine ar_cond rfl trivial ?_ ?_ <;> intro hc_ <;> (try simp only [isNilI, inB, reduceCtorEq, cds] at hc_) <;> (try (first | contradiction | (exfalso; omega)))) | refine ar_until (And.intro ?_ (wk3 ?_)))
    all_goals (first | refine ar_id ?_ | (try (focus ((try refine nrmO ?_); (repeat' (first | exact True.intro | refine And.intro ?_ ?_)); all_goals (try (intro (hg_ : _ = true); (try simp only [isNilI, inB, reduceCtorEq, cds] at hg_); (repeat' (first | exact True.intro | refine And.intro ?_ ?_)))); all_goals (first | exact ob1 | skip)))))
    rw [List.length_eq_zero_iff.1 hn]; rfl
  · intro ad cap hr
    repeat' (refine ar_id ?_; first | refine st1 ?_ | (first | ((first | refine ar_region tt_ok (inps := []) rfl ?_ ?_); rotate_left; (try refine nrm ?_); rotate_right) | refine ret3 ?_ | refine end3 ?_) | (refine ar_cond rfl trivial ?_ ?_ <;> intro hc_ <;> (try simp only [isNilI, inB, reduceCtorEq, cds] at hc_) <;> (try (first | contradiction | (exfalso; omega)))) | refine ar_until (And.intro ?_ (wk3 ?_)))
    all_goals (first | refine ar_id ?_ | (try (focus ((try refine nrmO ?_); (repeat' (first | exact True.intro | refine And.intro ?_ ?_)); all_goals (try (intro (hg_ : _ = true); (try simp only [isNilI, inB, reduceCtorEq, cds] at hg_); (repeat' (first | exact True.intro | refine And.intro ?_ ?_)))); all_goals (first | exact ob1 | skip)))))
    refine ar_read (s := 0) hr rfl ?_
    repeat' (refine ar_id ?_; first | refine st1 ?_ | (first | ((first | refine ar_region (id := 3) tt_ok (inps := [.elems (l.map eLate)]) rfl ?_ ?_ | refine ar_region tt_ok (inps := []) rfl ?_ ?_); rotate_left; (try refine nrm ?_); rotate_right) | refine ret3 ?_ | refine end3 ?_) | (refine ar_cond rfl trivial ?_ ?_ <;> intro hc_ <;> (try simp only [isNilI, inB, reduceCtorEq, cds] at hc_) <;> (try (first | contradiction | (exfalso; omega)))) | refine ar_until (And.intro ?_ (wk3 ?_)))
    all_goals (first | refine ar_id ?_ | (try (focus ((try refine nrmO ?_); (repeat' (first | exact True.intro | refine And.intro ?_ ?_)); all_goals (try (intro (hg_ : _ = true); (try simp only [isNilI, inB, reduceCtorEq, cds] at hg_); (repeat' (first | exact True.intro | refine And.intro ?_ ?_)))); all_goals (first | exact ob1 | exact flat_map' l (fun x => ⟨rfl, rfl, rfl, trivial⟩) | exact (by simp only [lns]; omega) | exact (by simp) | skip)))))
/-- where a free stands first -/
def idxT (x : GLate) : Nat → List GLate → Int
  | _, [] => -1
  | i, y :: l => if y = x then (i : Int) else idxT x (i + 1) l
theorem idxT_skip (x : GLate) : ∀ (i : Nat) (a b : List GLate), (∀ u ∈ a, u ≠ x) → idxT x i (a ++ b) = idxT x (i + a.length) b
  | _, [], _, _ => rfl
  | i, u :: a, b, h => by
    show (if u = x then _ else idxT x (i + 1) (a ++ b)) = _
    rw [if_neg (h u (by simp)), idxT_skip x (i + 1) a b (fun v hv => h v (by simp [hv])), List.length_cons, show i + 1 + a.length = i + (a.length + 1) by omega]
theorem idxT_hit (x : GLate) (l : List GLate) (i : Nat) (h : l[i]? = some x) (ha : ∀ u ∈ l.take i, u ≠ x) : idxT x 0 l = (i : Int) := by
  have hi : i < l.length := (List.getElem?_eq_some_iff.1 h).1
  have e : l = l.take i ++ (x :: l.drop (i + 1)) := by
    have h1 : l.drop i = x :: l.drop (i + 1) := by
      rw [List.drop_eq_getElem_cons hi]
      rw [List.getElem?_eq_getElem hi] at h
      rw [Option.some.inj h]
    rw [← h1, List.take_append_drop]
  rw [e, idxT_skip x 0 _ _ ha, List.length_take, Nat.min_eq_left (by omega), Nat.zero_add]
  exact if_pos rfl
theorem idxT_none (x : GLate) (l : List GLate) (ha : ∀ u ∈ l, u ≠ x) : idxT x 0 l = -1 := by
  have := idxT_skip x 0 l [] ha
  rw [List.append_nil] at this
  rw [this]; rfl
theorem idxT_lt (x : GLate) : ∀ (i : Nat) (l : List GLate), (idxT x i l = -1 ∧ x ∉ l) ∨ ∃ j : Nat, j < l.length ∧ idxT x i l = ((i + j : Nat) : Int) ∧ x ∈ l
  | _, [] => .inl ⟨rfl, by simp⟩
  | i, u :: l => by
    unfold idxT
    by_cases hu : u = x
    · exact .inr ⟨0, by simp, by rw [if_pos hu]; rfl, by simp [hu]⟩
    · rw [if_neg hu]
      rcases idxT_lt x (i + 1) l with ⟨h1, h2⟩ | ⟨j, h1, h2, h3⟩
      · exact .inl ⟨h1, by simp [h2, Ne.symm hu]⟩
      · exact .inr ⟨j + 1, by simp; omega, by rw [h2]; congr 1; omega, by simp [h3]⟩
def c_IndexT (l : List GLate) (x : GLate) : CFD := ⟨16, [.one (ro 30 2 eLate l), .agg [(CV.lit (.int .i64 (x.Index))), (CV.lit (.int .i64 (x.Slot)))]], [], (TV.sv (.one (.lit (.int .i64 (idxT x 0 l))))), [], [], []⟩
theorem fn_IndexT (l : List GLate) (x : GLate) (hl : l.length ≤ 1048576) : Fn Try.prog (c_IndexT l x) := by
  refine fn_intro tt_ok Try.func16 rfl Try.call16 Try.ntmps16 Try.results16 rfl rfl rfl rfl ?_
  intro X ρ0 hb_ hgl_
  dsimp only [c_IndexT]
  try refine nrm ?_
  repeat' (refine ar_id ?_; first | refine st1 ?_ | (first | ((first | refine ar_region tt_ok (inps := []) rfl ?_ ?_); rotate_left; (try refine nrm ?_); rotate_right) | refine ret3 ?_ | refine end3 ?_) | (refine ar_cond rfl trivial ?_ ?_ <;> intro hc_ <;> (try simp only [isNilI, inB, reduceCtorEq, cds] at hc_) <;> (try (first | contradiction | (exfalso; omega)))) | refine ar_until (And.intro ?_ (wk3 ?_)))
  all_goals (first | refine ar_id ?_ | (try (focus ((try refine nrmO ?_); (repeat' (first | exact True.intro | refine And.intro ?_ ?_)); all_goals (try (intro (hg_ : _ = true); (try simp only [isNilI, inB, reduceCtorEq, cds] at hg_); (repeat' (first | exact True.intro | refine And.intro ?_ ?_)))); all_goals (first | exact ob1 | skip)))))
  refine ar_keep 443 (by dsimp only [keepS] <;> exact rfl) ?_
  refine ar_forM (l.length) (fun i => ∀ u ∈ l.take i, u ≠ x) (fun i => [(8, (TV.sv (.one (.lit (.int .i64 (i))))))]) (fun i => []) ?_ ?_ ?_
  rotate_left
  · first | trivial | simp
  (dsimp only [rnCap, capSVs, Int.toNat_natCast, ro, Nat.reduceAdd, Nat.reduceMul, Nat.zero_add, List.map, putT, app, wrapG, gOb, argT, keys, slotOf, dropped, gAnd, wB, rnT, rnS, rnC, rnCs, rnSs, rnM, rnB, rnN, rn, lk, St.over, ded, delL, keepT, menT, menSs, menS, menCs, menC, hasN, resT, SV.cells]; refine wk3 ?_; (focus ((try refine nrmO ?_); (repeat' (first | exact True.intro | refine And.intro ?_ ?_)); all_goals (try (intro (hg_ : _ = true); (try simp only [isNilI, inB, reduceCtorEq, cds] at hg_); (repeat' (first | exact True.intro | refine And.intro ?_ ?_)))); all_goals (first | exact ob1 | exact rfl | skip))))
  rotate_right
  intro i hi_ hiI_
  dsimp only [rnCap, capSVs, Int.toNat_natCast, ro, Nat.reduceAdd, Nat.reduceMul, Nat.zero_add, List.map, putT, app, wrapG, gOb, argT, keys, slotOf, dropped, gAnd, wB, rnT, rnS, rnC, rnCs, rnSs, rnM, rnB, rnN, rn, lk, St.over, ded, delL, keepT, menT, menSs, menS, menCs, menC, hasN, resT, SV.cells]
  repeat' (refine ar_id ?_; first | refine st1 ?_ | (first | ((first | refine ar_draw (id := 4) (inps := [.elem (eLate (l.getD i noLt))]) tt_ok (by kernel_rfl) rfl rfl (by kernel_rfl) rfl rfl rfl rfl ?_ ?_ | refine ar_region tt_ok (inps := []) rfl ?_ ?_); rotate_left; (try refine nrm ?_); rotate_right) | refine ret3 ?_ | refine end3 ?_) | (refine ar_cond rfl trivial ?_ ?_ <;> intro hc_ <;> (try simp only [isNilI, inB, reduceCtorEq, cds] at hc_) <;> (try (first | contradiction | (exfalso; omega)))) | refine ar_until (And.intro ?_ (wk3 ?_)))
  all_goals (first | refine ar_id ?_ | (try (focus ((try refine nrmO ?_); (repeat' (first | exact True.intro | refine And.intro ?_ ?_)); all_goals (try (intro (hg_ : _ = true); (try simp only [isNilI, inB, reduceCtorEq, cds] at hg_); (repeat' (first | exact True.intro | refine And.intro ?_ ?_)))); all_goals (first | exact ob1 | skip)))))
  · have e : l.getD i noLt = x := by obtain ⟨h1, h2⟩ := hc_; cases hh : l.getD i noLt; rw [hh] at h1 h2; cases x; simp_all
    exact congrArg (Value.int .i64) (idxT_hit x l i (by rw [← e]; exact getD_at (by omega)) hiI_).symm
  · refine all_take (d := noLt) hiI_ (by omega) (fun e => ?_)
    rw [e] at hc_
    simp at hc_
  · exact congrArg (Value.int .i64) (idxT_none x l (all_full (p := fun u => u ≠ x) hiI_ (by omega))).symm
def c_ContainsT (l : List GLate) (x : GLate) : CFD := ⟨14, [.one (ro 30 2 eLate l), .agg [(CV.lit (.int .i64 (x.Index))), (CV.lit (.int .i64 (x.Slot)))]], [], (TV.sv (.one (.lit (.bool (decide (x ∈ l)))))), [], [], []⟩
theorem fn_ContainsT (l : List GLate) (x : GLate) (hl : l.length ≤ 1048576) : Fn Try.prog (c_ContainsT l x) := by
  refine fn_intro tt_ok Try.func14 rfl Try.call14 Try.ntmps14 Try.results14 rfl rfl rfl rfl ?_
  intro X ρ0 hb_ hgl_
  dsimp only [c_ContainsT]
  try refine nrm ?_
  repeat' (refine ar_id ?_; first | refine st1 ?_ | (first | ((first | refine ar_region (id := 1) tt_ok (inps := [.call (c_IndexT l x)]) rfl ?_ ?_ | refine ar_region tt_ok (inps := []) rfl ?_ ?_); rotate_left; (try dsimp only [c_IndexT]); (try refine nrm ?_); rotate_right) | refine ret3 ?_ | refine end3 ?_) | (refine ar_cond rfl trivial ?_ ?_ <;> intro hc_ <;> (try simp only [isNilI, inB, reduceCtorEq, cds] at hc_) <;> (try (first | contradiction | (exfalso; omega)))) | refine ar_until (And.intro ?_ (wk3 ?_)))
  all_goals (first | refine ar_id ?_ | (try (focus ((try refine nrmO ?_); (repeat' (first | exact True.intro | refine And.intro ?_ ?_)); all_goals (try (intro (hg_ : _ = true); (try simp only [isNilI, inB, reduceCtorEq, cds] at hg_); (repeat' (first | exact True.intro | refine And.intro ?_ ?_)))); all_goals (first | exact ob1 | exact fn_IndexT _ _ hl | skip)))))
  refine congrArg Value.bool ?_
  rw [decide_eq_decide]
  rcases idxT_lt x 0 l with ⟨h1, h2⟩ | ⟨j, h1, h2, h3⟩
  · exact ⟨fun h => absurd h (by omega), fun h => absurd h h2⟩
  · exact ⟨fun _ => h3, fun _ => by omega⟩
def c_LAddI (l : List GLate) (x : GLate) (r : List GLate) (b : Bool) : CFD := ⟨8, [.one (ro 30 2 eLate l), .agg [(CV.lit (.int .i64 (x.Index))), (CV.lit (.int .i64 (x.Slot)))]], [], .tup [.one (.hd 0), (SV.one (.lit (.bool (b))))], [(0, some (.row 30 2 (r.map eLate)))], [0], []⟩
theorem fn_LAddI (l : List GLate) (x : GLate) (r : List GLate) (b : Bool) (hl : l.length ≤ 1048576) (h : pLateAdd l x = (r, b)) : Fn Try.prog (c_LAddI l x r b) := by
  by_cases hc : x ∈ l ∨ 40 ≤ l.length
  · unfold pLateAdd at h
    rw [if_pos hc] at h
    obtain ⟨rfl, rfl⟩ := Prod.mk.inj h
    refine fn_intro tt_ok Try.func8 rfl Try.call8 Try.ntmps8 Try.results8 rfl rfl rfl rfl ?_
    intro X ρ0 hb_ hgl_
    dsimp only [c_LAddI]
    try refine nrm ?_
    repeat' (refine ar_id ?_; first | refine st1 ?_ | (first | ((first | refine ar_region (id := 1) tt_ok (inps := [.call (c_CloneLt l)]) rfl ?_ ?_ | refine ar_region (id := 2) tt_ok (inps := [.call (c_ContainsT l x)]) rfl ?_ ?_ | refine ar_region tt_ok (inps := []) rfl ?_ ?_); rotate_left; (try dsimp only [c_CloneLt, c_ContainsT]); (try refine nrm ?_); rotate_right) | refine ret3 ?_ | refine end3 ?_) | (refine ar_cond rfl trivial ?_ ?_ <;> intro hc_ <;> (try simp only [isNilI, inB, reduceCtorEq, cds] at hc_) <;> (try (first | contradiction | (exfalso; omega) | (exfalso; exact hc.elim (fun h => hc_.1 h) (fun h => by omega))))) | refine ar_until (And.intro ?_ (wk3 ?_)))
    all_goals (first | refine ar_id ?_ | (try (focus ((try refine nrmO ?_); (repeat' (first | exact True.intro | refine And.intro ?_ ?_)); all_goals (try (intro (hg_ : _ = true); (try simp only [isNilI, inB, reduceCtorEq, cds] at hg_); (repeat' (first | exact True.intro | refine And.intro ?_ ?_)))); all_goals (first | exact ob1 | exact fn_CloneLt _ hl | exact fn_ContainsT _ _ hl | skip)))))
    all_goals trace_state
  · unfold pLateAdd at h
    rw [if_neg hc] at h
    obtain ⟨rfl, rfl⟩ := Prod.mk.inj h
    refine fn_intro tt_ok Try.func8 rfl Try.call8 Try.ntmps8 Try.results8 rfl rfl rfl rfl ?_
    intro X ρ0 hb_ hgl_
    dsimp only [c_LAddI]
    try refine nrm ?_
    repeat' (refine ar_id ?_; first | refine st1 ?_ | (first | ((first | refine ar_region (id := 1) tt_ok (inps := [.call (c_CloneLt l)]) rfl ?_ ?_ | refine ar_region (id := 2) tt_ok (inps := [.call (c_ContainsT l x)]) rfl ?_ ?_ | refine ar_region tt_ok (inps := []) rfl ?_ ?_); rotate_left; (try dsimp only [c_CloneLt, c_ContainsT]); (try refine nrm ?_); rotate_right) | refine ret3 ?_ | refine end3 ?_) | (refine ar_cond rfl trivial ?_ ?_ <;> intro hc_ <;> (try simp only [isNilI, inB, reduceCtorEq, cds] at hc_) <;> (try (first | contradiction | (exfalso; omega) | (exfalso; exact hc (hc_.imp id (fun h => by omega)))))) | refine ar_until (And.intro ?_ (wk3 ?_)))
    all_goals (first | refine ar_id ?_ | (try (focus ((try refine nrmO ?_); (repeat' (first | exact True.intro | refine And.intro ?_ ?_)); all_goals (try (intro (hg_ : _ = true); (try simp only [isNilI, inB, reduceCtorEq, cds] at hg_); (repeat' (first | exact True.intro | refine And.intro ?_ ?_)))); all_goals (first | exact ob1 | exact fn_CloneLt _ hl | exact fn_ContainsT _ _ hl | skip)))))
    all_goals (rw [app_eq, List.map_append]; rfl)
end Eng
end Go.Proofs.Ytgeakpeodhhffaa

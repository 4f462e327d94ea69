/- Lemmas for the proofs, part 6 of 7: a symbolic run of the program, and what it needs. -/
import Derived.Conc.Pipeline3
import Derived.Conc.Fork
import Derived.Conc.Know
import Derived.Conc.PipeWords
import Derived.Conc.SmallLaws
import Derived.Conc.Quits
import Derived.Test.YtfiofmaknndpcaaGreatDoorV5
set_option linter.unusedVariables false
set_option linter.unusedSimpArgs false
set_option maxRecDepth 100000
namespace Go.Proofs.YtfiofmaknndpcaaGreatDoor
open Go.RowKit
namespace Eng
open Tr
structure szK (k : GKernel) : Prop where
 m : szM k.Machine
 r : k.Refuse.length <= 1048576
def idxI (x : Int) : Nat -> List Int -> Int
 | _, [] => -1
 | i, y :: l => if y = x then (i : Int) else idxI x (i + 1) l
theorem qlg (x : Int) : ∀ (i : Nat) (a b : List Int), (∀ u ∈ a, u ≠ x) -> idxI x i (a ++ b) = idxI x (i + a.length) b
 | _, [], _, _ => rfl
 | i, u :: a, b, h => by
  show (if u = x then _ else idxI x (i + 1) (a ++ b)) = _
  rw [if_neg (h u (by simp)), qlg x (i + 1) a b (fun v hv => h v (by simp [hv])), List.length_cons, show i + 1 + a.length = i + (a.length + 1) by omega]
theorem q1o (x : Int) (l : List Int) (i : Nat) (h : l[i]? = some x) (ha : ∀ u ∈ l.take i, u ≠ x) : idxI x 0 l = (i : Int) := by
 have hi : i < l.length := (List.getElem?_eq_some_iff.1 h).1
 have e : l = l.take i ++ (x :: l.drop (i + 1)) := by
  have h1 : l.drop i = x :: l.drop (i + 1) := by
   rw [List.drop_eq_getElem_cons hi]
   rw [List.getElem?_eq_getElem hi] at h
   rw [Option.some.inj h]
  rw [← h1, List.take_append_drop]
 rw [e, qlg x 0 _ _ ha, List.length_take, Nat.min_eq_left (by omega), Nat.zero_add]
 exact if_pos rfl
theorem qx0 (x : Int) (l : List Int) (ha : ∀ u ∈ l, u ≠ x) : idxI x 0 l = -1 := by
 have := qlg x 0 l [] ha
 rw [List.append_nil] at this
 rw [this]; rfl
theorem qwa (x : Int) : ∀ (i : Nat) (l : List Int), (idxI x i l = -1 /\ x ∉ l) ∨ ∃ j : Nat, j < l.length /\ idxI x i l = ((i + j : Nat) : Int) /\ x ∈ l
 | _, [] => .inl ⟨rfl, by simp⟩
 | i, u :: l => by
  unfold idxI
  by_cases hu : u = x
  ·exact .inr ⟨0, by simp, by rw [if_pos hu]; rfl, by simp [hu]⟩
  ·rw [if_neg hu]
   rcases qwa x (i + 1) l with ⟨h1, h2⟩ | ⟨j, h1, h2, h3⟩
   ·exact .inl ⟨h1, by simp [h2, Ne.symm hu]⟩
   ·exact .inr ⟨j + 1, by simp; omega, by rw [h2]; congr 1; omega, by simp [h3]⟩
def qkk (l : List Int) (x : Int) : CFD := ⟨204, [.one (ro 3 1 Tr.eI l), (SV.one (.lit (.int .i64 (x))))], [], (TV.sv (.one (.lit (.int .i64 (idxI x 0 l))))), [], [], []⟩
theorem qx1 (l : List Int) (x : Int) (hl : l.length <= 1048576) : Fn Tryz.prog (qkk l x) := by
 refine qm qf Tryz.func204 rfl Tryz.call204 Tryz.ntmps204 Tryz.results204 rfl rfl rfl rfl ?_
 intro X ρ0 hb_ hgl_
 dsimp only [qkk]
 try refine nrm ?_
 repeat' (refine qj ?_; first | refine st1 ?_ | (first | ((first | refine qc qf (inps := []) rfl ?_ ?_); rotate_left; (try refine nrm ?_); rotate_right) | refine ret3 ?_ | refine end3 ?_) | (refine ql rfl trivial ?_ ?_ <;> intro hc_ <;> (try simp only [qg, inB, reduceCtorEq, cds] at hc_) <;> (try (first | contradiction | (exfalso; omega)))) | refine qi (And.intro ?_ (wk3 ?_)))
 all_goals (first | refine qj ?_ | (try (focus ((try refine nrmO ?_); (repeat' (first | exact True.intro | apply And.intro)); all_goals (try (intro (hg_ : _ = true); (try simp only [qg, inB, reduceCtorEq, cds] at hg_); (repeat' (first | exact True.intro | apply And.intro)))); all_goals (first | exact ob1 | skip)))))
 refine qaf 435 (by dsimp only [qay] <;> exact rfl) ?_
 refine qai (l.length) (fun i => ∀ u ∈ l.take i, u ≠ x) (fun i => [(8, (TV.sv (.one (.lit (.int .i64 (i))))))]) (fun i => []) ?_ ?_ ?_
 rotate_left
 ·first | trivial | simp
 (dsimp only [zx, yx, Int.toNat_natCast, ro, Nat.reduceAdd, Nat.reduceMul, Nat.zero_add, List.map, putT, app, zn, gOb, argT, keys, yg, dropped, gAnd, wB, rnT, rnS, rnC, rnCs, rnSs, rnM, rnB, rnN, rn, lk, St.over, ded, delL, jo, menT, jw, menS, jv, menC, hasN, resT, SV.cells]; refine wk3 ?_; (focus ((try refine nrmO ?_); (repeat' (first | exact True.intro | apply And.intro)); all_goals (try (intro (hg_ : _ = true); (try simp only [qg, inB, reduceCtorEq, cds] at hg_); (repeat' (first | exact True.intro | apply And.intro)))); all_goals (first | exact ob1 | exact rfl | skip))))
 rotate_right
 intro i hi_ hiI_
 dsimp only [zx, yx, Int.toNat_natCast, ro, Nat.reduceAdd, Nat.reduceMul, Nat.zero_add, List.map, putT, app, zn, gOb, argT, keys, yg, dropped, gAnd, wB, rnT, rnS, rnC, rnCs, rnSs, rnM, rnB, rnN, rn, lk, St.over, ded, delL, jo, menT, jw, menS, jv, menC, hasN, resT, SV.cells]
 repeat' (refine qj ?_; first | refine st1 ?_ | (first | ((first | refine qc (id := 4) qf (inps := [.elem (Tr.eI (l.getD i 0))]) rfl ?_ ?_ | refine qc qf (inps := []) rfl ?_ ?_); rotate_left; (try refine nrm ?_); rotate_right) | refine ret3 ?_ | refine end3 ?_) | (refine ql rfl trivial ?_ ?_ <;> intro hc_ <;> (try simp only [qg, inB, reduceCtorEq, cds] at hc_) <;> (try (first | contradiction | (exfalso; omega)))) | refine qi (And.intro ?_ (wk3 ?_)))
 all_goals (first | refine qj ?_ | (try (focus ((try refine nrmO ?_); (repeat' (first | exact True.intro | apply And.intro)); all_goals (try (intro (hg_ : _ = true); (try simp only [qg, inB, reduceCtorEq, cds] at hg_); (repeat' (first | exact True.intro | apply And.intro)))); all_goals (first | exact ob1 | skip)))))
 ·exact congrArg (Value.int .i64) (q1o x l i (by rw [getD_at (x := 0) (by omega)]; exact congrArg some (by omega)) hiI_).symm
 ·exact qcp (p := fun u => u ≠ x) (d := 0) hiI_ (by omega) (by omega)
 ·exact congrArg (Value.int .i64) (qx0 x l (qcq (p := fun u => u ≠ x) hiI_ (by omega))).symm
def qg7 (l : List Int) (x : Int) : CFD := ⟨203, [.one (ro 3 1 Tr.eI l), (SV.one (.lit (.int .i64 (x))))], [], (TV.sv (.one (.lit (.bool (decide (x ∈ l)))))), [], [], []⟩
theorem qss (l : List Int) (x : Int) (hl : l.length <= 1048576) : Fn Tryz.prog (qg7 l x) := by
 refine qm qf Tryz.func203 rfl Tryz.call203 Tryz.ntmps203 Tryz.results203 rfl rfl rfl rfl ?_
 intro X ρ0 hb_ hgl_
 dsimp only [qg7]
 try refine nrm ?_
 repeat' (refine qj ?_; first | refine st1 ?_ | (first | ((first | refine qc (id := 1) qf (inps := [.call (qkk l x)]) rfl ?_ ?_ | refine qc qf (inps := []) rfl ?_ ?_); rotate_left; (try dsimp only [qkk]); (try refine nrm ?_); rotate_right) | refine ret3 ?_ | refine end3 ?_) | (refine ql rfl trivial ?_ ?_ <;> intro hc_ <;> (try simp only [qg, inB, reduceCtorEq, cds] at hc_) <;> (try (first | contradiction | (exfalso; omega)))) | refine qi (And.intro ?_ (wk3 ?_)))
 all_goals (first | refine qj ?_ | (try (focus ((try refine nrmO ?_); (repeat' (first | exact True.intro | apply And.intro)); all_goals (try (intro (hg_ : _ = true); (try simp only [qg, inB, reduceCtorEq, cds] at hg_); (repeat' (first | exact True.intro | apply And.intro)))); all_goals (first | exact ob1 | exact qx1 _ _ hl | skip)))))
 refine congrArg Value.bool ?_
 rw [decide_eq_decide]
 rcases qwa x 0 l with ⟨h1, h2⟩ | ⟨j, h1, h2, h3⟩
 ·exact ⟨fun h => absurd h (by omega), fun h => absurd h h2⟩
 ·exact ⟨fun _ => h3, fun _ => by omega⟩
def qir (n : Int) : CFD := ⟨201, [.agg [], (SV.one (.lit (.int .i64 (n))))], [], (TV.sv (.one (.lit (.bool (true))))), [], [], []⟩
theorem quf (n : Int) : Fn Tryz.prog (qir n) := by
 refine qm qf Tryz.func201 rfl Tryz.call201 Tryz.ntmps201 Tryz.results201 rfl rfl rfl rfl ?_
 intro X ρ0 hb_ hgl_
 dsimp only [qir]
 try refine nrm ?_
 repeat' (refine qj ?_; first | refine st1 ?_ | (first | ((first | refine qc qf (inps := []) rfl ?_ ?_); rotate_left; (try refine nrm ?_); rotate_right) | refine ret3 ?_ | refine end3 ?_) | (refine ql rfl trivial ?_ ?_ <;> intro hc_ <;> (try simp only [qg, inB, reduceCtorEq, cds] at hc_) <;> (try (first | contradiction | (exfalso; omega)))) | refine qi (And.intro ?_ (wk3 ?_)))
 all_goals (first | refine qj ?_ | (try (focus ((try refine nrmO ?_); (repeat' (first | exact True.intro | apply And.intro)); all_goals (try (intro (hg_ : _ = true); (try simp only [qg, inB, reduceCtorEq, cds] at hg_); (repeat' (first | exact True.intro | apply And.intro)))); all_goals (first | exact ob1 | skip)))))
def qg8 (l : List Int) (n : Int) : CFD := ⟨202, [.agg [ro 3 1 Tr.eI l], (SV.one (.lit (.int .i64 (n))))], [], (TV.sv (.one (.lit (.bool (decide (n ∉ l)))))), [], [], []⟩
theorem qst (l : List Int) (n : Int) (hl : l.length <= 1048576) : Fn Tryz.prog (qg8 l n) := by
 refine qm qf Tryz.func202 rfl Tryz.call202 Tryz.ntmps202 Tryz.results202 rfl rfl rfl rfl ?_
 intro X ρ0 hb_ hgl_
 dsimp only [qg8]
 try refine nrm ?_
 repeat' (refine qj ?_; first | refine st1 ?_ | (first | ((first | refine qc (id := 1) qf (inps := [.call (qg7 l n)]) rfl ?_ ?_ | refine qc qf (inps := []) rfl ?_ ?_); rotate_left; (try dsimp only [qg7]); (try refine nrm ?_); rotate_right) | refine ret3 ?_ | refine end3 ?_) | (refine ql rfl trivial ?_ ?_ <;> intro hc_ <;> (try simp only [qg, inB, reduceCtorEq, cds] at hc_) <;> (try (first | contradiction | (exfalso; omega)))) | refine qi (And.intro ?_ (wk3 ?_)))
 all_goals (first | refine qj ?_ | (try (focus ((try refine nrmO ?_); (repeat' (first | exact True.intro | apply And.intro)); all_goals (try (intro (hg_ : _ = true); (try simp only [qg, inB, reduceCtorEq, cds] at hg_); (repeat' (first | exact True.intro | apply And.intro)))); all_goals (first | exact ob1 | exact qss _ _ hl | skip)))))
 exact congrArg Value.bool (by by_cases h : n ∈ l <;> simp [h])
def qg9 (k : GKernel) : CFD := ⟨169, [.agg [ro 33 1 xw k.Machine.Frames.Cells, ro 4 1 Tr.eB k.Machine.Frames.Used, ro 42 2 xe k.Machine.Table.Entries, (CV.lit (.int .i64 (k.Calls))), ro 3 1 Tr.eI k.Refuse]], [], .sv (.one (.ifro 221 .nil)), [], [], []⟩
theorem qsu (k : GKernel) (h : k.Refuse = []) : Fn Tryz.prog (qg9 k) := by
 have hr : k.Refuse.length = 0 := by rw [h]; rfl
 refine qm qf Tryz.func169 rfl Tryz.call169 Tryz.ntmps169 Tryz.results169 rfl rfl rfl rfl ?_
 intro X ρ0 hb_ hgl_
 dsimp only [qg9]
 try refine nrm ?_
 repeat' (refine qj ?_; first | refine st1 ?_ | (first | ((first | refine qc qf (inps := []) rfl ?_ ?_); rotate_left; (try refine nrm ?_); rotate_right) | refine ret3 ?_ | refine end3 ?_) | (refine ql rfl trivial ?_ ?_ <;> intro hc_ <;> (try simp only [qg, inB, reduceCtorEq, cds] at hc_) <;> (try (first | contradiction | (exfalso; omega)))) | refine qi (And.intro ?_ (wk3 ?_)))
 all_goals (first | refine qj ?_ | (try (focus ((try refine nrmO ?_); (repeat' (first | exact True.intro | apply And.intro)); all_goals (try (intro (hg_ : _ = true); (try simp only [qg, inB, reduceCtorEq, cds] at hg_); (repeat' (first | exact True.intro | apply And.intro)))); all_goals (first | exact ob1 | skip)))))
def qha (k : GKernel) : CFD := ⟨169, [.agg [ro 33 1 xw k.Machine.Frames.Cells, ro 4 1 Tr.eB k.Machine.Frames.Used, ro 42 2 xe k.Machine.Table.Entries, (CV.lit (.int .i64 (k.Calls))), ro 3 1 Tr.eI k.Refuse]], [], .sv (.one (.ifro 223 (.row 3 1 k.Refuse.length (D.cat (k.Refuse.map Tr.eI)) .nil))), [], [], []⟩
theorem qsv (k : GKernel) (h : k.Refuse ≠ []) : Fn Tryz.prog (qha k) := by
 have hr : k.Refuse.length ≠ 0 := fun e => h (List.length_eq_zero_iff.1 e)
 refine qm qf Tryz.func169 rfl Tryz.call169 Tryz.ntmps169 Tryz.results169 rfl rfl rfl rfl ?_
 intro X ρ0 hb_ hgl_
 dsimp only [qha]
 try refine nrm ?_
 repeat' (refine qj ?_; first | refine st1 ?_ | (first | ((first | refine qc qf (inps := []) rfl ?_ ?_); rotate_left; (try refine nrm ?_); rotate_right) | refine ret3 ?_ | refine end3 ?_) | (refine ql rfl trivial ?_ ?_ <;> intro hc_ <;> (try simp only [qg, inB, reduceCtorEq, cds] at hc_) <;> (try (first | contradiction | (exfalso; omega)))) | refine qi (And.intro ?_ (wk3 ?_)))
 all_goals (first | refine qj ?_ | (try (focus ((try refine nrmO ?_); (repeat' (first | exact True.intro | apply And.intro)); all_goals (try (intro (hg_ : _ = true); (try simp only [qg, inB, reduceCtorEq, cds] at hg_); (repeat' (first | exact True.intro | apply And.intro)))); all_goals (first | exact ob1 | skip)))))
theorem qug : Mt Tryz.prog 221 "loop.example/g00978/impl.grants" 201 := fun v w => by kernel_rfl
theorem qsw : Mt Tryz.prog 223 "loop.example/g00978/impl.grants" 202 := fun v w => by kernel_rfl
def qb7 (k : GKernel) : CFD := ⟨14, [.agg [ro 33 1 xw k.Machine.Frames.Cells, ro 4 1 Tr.eB k.Machine.Frames.Used, ro 42 2 xe k.Machine.Table.Entries, (CV.lit (.int .i64 (k.Calls))), ro 3 1 Tr.eI k.Refuse]], [], (TV.sv (.one (.lit (.bool (qdv k))))), [], [], []⟩
theorem qqs (k : GKernel) (hs : szK k) : Fn Tryz.prog (qb7 k) := by
 have hr := hs.r
 refine qm qf Tryz.func14 rfl Tryz.call14 Tryz.ntmps14 Tryz.results14 rfl rfl rfl rfl ?_
 intro X ρ0 hb_ hgl_
 dsimp only [qb7]
 try refine nrm ?_
 repeat' (refine qj ?_; first | refine st1 ?_ | (first | ((first | refine qc (id := 1) qf (inps := [.call (qlf k.Machine)]) rfl ?_ ?_ | refine qc qf (inps := []) rfl ?_ ?_); rotate_left; (try dsimp only [qlf]); (try refine nrm ?_); rotate_right) | refine ret3 ?_ | refine end3 ?_) | (refine ql rfl trivial ?_ ?_ <;> intro hc_ <;> (try simp only [qg, inB, reduceCtorEq, cds] at hc_) <;> (try (first | contradiction | (exfalso; omega)))) | refine qi (And.intro ?_ (wk3 ?_)))
 all_goals (first | refine qj ?_ | (try (focus ((try refine nrmO ?_); (repeat' (first | exact True.intro | apply And.intro)); all_goals (try (intro (hg_ : _ = true); (try simp only [qg, inB, reduceCtorEq, cds] at hg_); (repeat' (first | exact True.intro | apply And.intro)))); all_goals (first | exact ob1 | exact qv9 _ hs.m | skip)))))
 ·refine bf fun h => ?_
  rcases hc_ with ((hc_ | hc_) | hc_) | hc_
  ·exact of_decide_eq_false hc_ h.1
  ·have := h.2.1.1; omega
  ·have := h.2.1.2; omega
  ·have := h.2.2.2; omega
 have hc1 := hc_
 refine qaf 469762071 (by dsimp only [qay] <;> exact rfl) ?_
 refine qai (k.Refuse.length) (fun i => ∀ y ∈ k.Refuse.take i, 0 <= y) (fun i => [(28, (TV.sv (.one (.lit (.int .i64 (i))))))]) (fun i => []) ?_ ?_ ?_
 rotate_left
 ·first | trivial | simp
 (dsimp only [zx, yx, Int.toNat_natCast, ro, Nat.reduceAdd, Nat.reduceMul, Nat.zero_add, List.map, putT, app, zn, gOb, argT, keys, yg, dropped, gAnd, wB, rnT, rnS, rnC, rnCs, rnSs, rnM, rnB, rnN, rn, lk, St.over, ded, delL, jo, menT, jw, menS, jv, menC, hasN, resT, SV.cells]; refine wk3 ?_; (focus ((try refine nrmO ?_); (repeat' (first | exact True.intro | apply And.intro)); all_goals (try (intro (hg_ : _ = true); (try simp only [qg, inB, reduceCtorEq, cds] at hg_); (repeat' (first | exact True.intro | apply And.intro)))); all_goals (first | exact ob1 | exact rfl | skip))))
 rotate_right
 intro i hi_ hiI_
 dsimp only [zx, yx, Int.toNat_natCast, ro, Nat.reduceAdd, Nat.reduceMul, Nat.zero_add, List.map, putT, app, zn, gOb, argT, keys, yg, dropped, gAnd, wB, rnT, rnS, rnC, rnCs, rnSs, rnM, rnB, rnN, rn, lk, St.over, ded, delL, jo, menT, jw, menS, jv, menC, hasN, resT, SV.cells]
 repeat' (refine qj ?_; first | refine st1 ?_ | (first | ((first | refine qc (id := 5) qf (inps := [.elem (Tr.eI (k.Refuse.getD i 0))]) rfl ?_ ?_ | refine qc qf (inps := []) rfl ?_ ?_); rotate_left; (try refine nrm ?_); rotate_right) | refine ret3 ?_ | refine end3 ?_) | (refine ql rfl trivial ?_ ?_ <;> intro hc_ <;> (try simp only [qg, inB, reduceCtorEq, cds] at hc_) <;> (try (first | contradiction | (exfalso; omega)))) | refine qi (And.intro ?_ (wk3 ?_)))
 all_goals (first | refine qj ?_ | (try (focus ((try refine nrmO ?_); (repeat' (first | exact True.intro | apply And.intro)); all_goals (try (intro (hg_ : _ = true); (try simp only [qg, inB, reduceCtorEq, cds] at hg_); (repeat' (first | exact True.intro | apply And.intro)))); all_goals (first | exact ob1 | skip)))))
 ·exact bf fun h => by have := h.2.2.1 _ (getD_in (l := k.Refuse) (i := i) (d := 0) (by omega)); omega
 ·exact qcp (d := 0) hiI_ (by omega) hc_
 ·exact bt ⟨of_decide_eq_true hc1.1.1.1, ⟨hc1.1.1.2, hc1.1.2⟩, qcq hiI_ (by omega), by omega⟩
def qb9 (k : GKernel) : CFD := ⟨123, [.agg [ro 33 1 xw k.Machine.Frames.Cells, ro 4 1 Tr.eB k.Machine.Frames.Used, ro 42 2 xe k.Machine.Table.Entries, (CV.lit (.int .i64 (k.Calls))), ro 3 1 Tr.eI k.Refuse]], [], (TV.sv (.one (.lit (.bool (decide (qar k)))))), [], [], []⟩
theorem qgr (k : GKernel) (hs : szK k) : Fn Tryz.prog (qb9 k) := by
 refine qm qf Tryz.func123 rfl Tryz.call123 Tryz.ntmps123 Tryz.results123 rfl rfl rfl rfl ?_
 intro X ρ0 hb_ hgl_
 dsimp only [qb9]
 try refine nrm ?_
 repeat' (refine qj ?_; first | refine st1 ?_ | (first | ((first | refine qc (id := 1) qf (inps := [.call (qb7 k)]) rfl ?_ ?_ | refine qc qf (inps := []) rfl ?_ ?_); rotate_left; (try dsimp only [qb7]); (try refine nrm ?_); rotate_right) | refine ret3 ?_ | refine end3 ?_) | (refine ql rfl trivial ?_ ?_ <;> intro hc_ <;> (try simp only [qg, inB, reduceCtorEq, cds] at hc_) <;> (try (first | contradiction | (exfalso; omega)))) | refine qi (And.intro ?_ (wk3 ?_)))
 all_goals (first | refine qj ?_ | (try (focus ((try refine nrmO ?_); (repeat' (first | exact True.intro | apply And.intro)); all_goals (try (intro (hg_ : _ = true); (try simp only [qg, inB, reduceCtorEq, cds] at hg_); (repeat' (first | exact True.intro | apply And.intro)))); all_goals (first | exact ob1 | exact qqs _ hs | skip)))))
 refine congrArg Value.bool (Bool.eq_iff_iff.2 (Iff.trans ?_ (decide_eq_true_iff (p := qar k)).symm))
 simp only [decide_eq_true_eq, Bool.cond_false_right, Bool.and_eq_true, qdv]
 exact Iff.rfl
def qo (k : GKernel) : CFD := ⟨44, [.agg [ro 33 1 xw k.Machine.Frames.Cells, ro 4 1 Tr.eB k.Machine.Frames.Used, ro 42 2 xe k.Machine.Table.Entries, (CV.lit (.int .i64 (k.Calls))), ro 3 1 Tr.eI k.Refuse]], [], .sv (.agg [.hd 0, .hd 1, .hd 2, (CV.lit (.int .i64 (k.Calls))), .hd 3]), [(0, some (.row 33 1 (k.Machine.Frames.Cells.map xw))), (1, some (.row 4 1 (k.Machine.Frames.Used.map Tr.eB))), (2, some (.row 42 2 (k.Machine.Table.Entries.map xe))), (3, some (.row 3 1 (k.Refuse.map Tr.eI)))], [0, 1, 2, 3], []⟩
theorem qc0 (k : GKernel) (hs : szK k) : Fn Tryz.prog (qo k) := by
 have hr := hs.r
 refine qm qf Tryz.func44 rfl Tryz.call44 Tryz.ntmps44 Tryz.results44 rfl rfl rfl rfl ?_
 intro X ρ0 hb_ hgl_
 dsimp only [qo]
 try refine nrm ?_
 repeat' (refine qj ?_; first | refine st1 ?_ | (first | ((first | refine qak (id := 1) (inps := [.call (qcg k.Machine), .call (qgn k.Refuse)]) qf (by kernel_rfl) rfl rfl (by kernel_rfl) rfl rfl rfl rfl ?_ ?_ | refine qc qf (inps := []) rfl ?_ ?_); rotate_left; (try dsimp only [qgn, qcg]); (try refine nrm ?_); rotate_right) | refine ret3 ?_ | refine end3 ?_) | (refine ql rfl trivial ?_ ?_ <;> intro hc_ <;> (try simp only [qg, inB, reduceCtorEq, cds] at hc_) <;> (try (first | contradiction | (exfalso; omega)))) | refine qi (And.intro ?_ (wk3 ?_)))
 all_goals (first | refine qj ?_ | (try (focus ((try refine nrmO ?_); (repeat' (first | exact True.intro | apply And.intro)); all_goals (try (intro (hg_ : _ = true); (try simp only [qg, inB, reduceCtorEq, cds] at hg_); (repeat' (first | exact True.intro | apply And.intro)))); all_goals (first | exact ob1 | exact qgp _ hs.m | exact qo8 _ hs.r | skip)))))
def qcf (k : GKernel) : GKernel × Bool := if qar k then (called k, decide (granted k)) else (k, false)
def qkl (k : GKernel) : CFD := ⟨166, [.agg [ro 33 1 xw k.Machine.Frames.Cells, ro 4 1 Tr.eB k.Machine.Frames.Used, ro 42 2 xe k.Machine.Table.Entries, (CV.lit (.int .i64 (k.Calls))), ro 3 1 Tr.eI k.Refuse]], [], .tup [.agg [.hd 0, .hd 1, .hd 2, (CV.lit (.int .i64 (((qcf k).1).Calls))), .hd 3], (SV.one (.lit (.bool ((qcf k).2))))], [(0, some (.row 33 1 (((qcf k).1).Machine.Frames.Cells.map xw))), (1, some (.row 4 1 (((qcf k).1).Machine.Frames.Used.map Tr.eB))), (2, some (.row 42 2 (((qcf k).1).Machine.Table.Entries.map xe))), (3, some (.row 3 1 (((qcf k).1).Refuse.map Tr.eI)))], [0, 1, 2, 3], []⟩
theorem q1p (k : GKernel) (hs : szK k) : Fn Tryz.prog (qkl k) := by
 by_cases hC : qar k
 ·have h0 : 0 <= k.Calls := hC.1.2.1.1
  have h1 : k.Calls < 100000 := hC.2
  by_cases hE : k.Refuse = []
  ·have hV : qcf k = (⟨k.Machine, k.Calls + 1, k.Refuse⟩, true) := by unfold qcf; rw [if_pos hC, decide_eq_true (show granted k by unfold granted; rw [hE]; simp)]; rfl
   refine qm qf Tryz.func166 rfl Tryz.call166 Tryz.ntmps166 Tryz.results166 rfl rfl rfl rfl ?_
   intro X ρ0 hb_ hgl_
   dsimp only [qkl]
   try refine nrm ?_
   rw [hV]
   repeat' (refine qj ?_; first | refine st1 ?_ | (first | ((first | refine qc (id := 1) qf (inps := [.call (qo k)]) rfl ?_ ?_ | refine qc (id := 2) qf (inps := [.call (qb9 k)]) rfl ?_ ?_ | refine qak (id := 5) (inps := [.call (qg9 k), .call (qir k.Calls)]) qf (by kernel_rfl) rfl rfl (by kernel_rfl) rfl rfl rfl rfl ?_ ?_ | refine qc qf (inps := []) rfl ?_ ?_); rotate_left; (try dsimp only [qo, qg9, qb9, qir]); (try refine nrm ?_); rotate_right) | refine ret3 ?_ | refine end3 ?_) | (refine ql rfl trivial ?_ ?_ <;> intro hc_ <;> (try simp only [qg, inB, reduceCtorEq, cds] at hc_) <;> (try (first | contradiction | (exfalso; omega)))) | refine qi (And.intro ?_ (wk3 ?_)))
   all_goals (first | refine qj ?_ | (try (focus ((try refine nrmO ?_); (repeat' (first | exact True.intro | apply And.intro)); all_goals (try (intro (hg_ : _ = true); (try simp only [qg, inB, reduceCtorEq, cds] at hg_); (repeat' (first | exact True.intro | apply And.intro)))); all_goals (first | exact ob1 | exact qc0 _ hs | exact qgr _ hs | exact qsu _ hE | exact quf _ | exact qug | skip)))))
  ·have hV : qcf k = (⟨k.Machine, k.Calls + 1, k.Refuse⟩, decide (k.Calls ∉ k.Refuse)) := by unfold qcf; rw [if_pos hC]; rfl
   refine qm qf Tryz.func166 rfl Tryz.call166 Tryz.ntmps166 Tryz.results166 rfl rfl rfl rfl ?_
   intro X ρ0 hb_ hgl_
   dsimp only [qkl]
   try refine nrm ?_
   rw [hV]
   repeat' (refine qj ?_; first | refine st1 ?_ | (first | ((first | refine qc (id := 1) qf (inps := [.call (qo k)]) rfl ?_ ?_ | refine qc (id := 2) qf (inps := [.call (qb9 k)]) rfl ?_ ?_ | refine qak (id := 5) (inps := [.call (qha k), .call (qg8 k.Refuse k.Calls)]) qf (by kernel_rfl) rfl rfl (by kernel_rfl) rfl rfl rfl rfl ?_ ?_ | refine qc qf (inps := []) rfl ?_ ?_); rotate_left; (try dsimp only [qo, qha, qg8, qb9]); (try refine nrm ?_); rotate_right) | refine ret3 ?_ | refine end3 ?_) | (refine ql rfl trivial ?_ ?_ <;> intro hc_ <;> (try simp only [qg, inB, reduceCtorEq, cds] at hc_) <;> (try (first | contradiction | (exfalso; omega)))) | refine qi (And.intro ?_ (wk3 ?_)))
   all_goals (first | refine qj ?_ | (try (focus ((try refine nrmO ?_); (repeat' (first | exact True.intro | apply And.intro)); all_goals (try (intro (hg_ : _ = true); (try simp only [qg, inB, reduceCtorEq, cds] at hg_); (repeat' (first | exact True.intro | apply And.intro)))); all_goals (first | exact ob1 | exact qc0 _ hs | exact qgr _ hs | exact qsv _ hE | exact qst _ _ hs.r | exact qsw | skip)))))
 ·have hV : qcf k = (k, false) := by unfold qcf; rw [if_neg hC]
  refine qm qf Tryz.func166 rfl Tryz.call166 Tryz.ntmps166 Tryz.results166 rfl rfl rfl rfl ?_
  intro X ρ0 hb_ hgl_
  dsimp only [qkl]
  try refine nrm ?_
  rw [hV]
  repeat' (refine qj ?_; first | refine st1 ?_ | (first | ((first | refine qc (id := 1) qf (inps := [.call (qo k)]) rfl ?_ ?_ | refine qc (id := 2) qf (inps := [.call (qb9 k)]) rfl ?_ ?_ | refine qc qf (inps := []) rfl ?_ ?_); rotate_left; (try dsimp only [qo, qb9]); (try refine nrm ?_); rotate_right) | refine ret3 ?_ | refine end3 ?_) | (refine ql rfl trivial ?_ ?_ <;> intro hc_ <;> (try simp only [qg, inB, reduceCtorEq, cds] at hc_) <;> (try (first | contradiction | (exfalso; omega)))) | refine qi (And.intro ?_ (wk3 ?_)))
  all_goals (first | refine qj ?_ | (try (focus ((try refine nrmO ?_); (repeat' (first | exact True.intro | apply And.intro)); all_goals (try (intro (hg_ : _ = true); (try simp only [qg, inB, reduceCtorEq, cds] at hg_); (repeat' (first | exact True.intro | apply And.intro)))); all_goals (first | exact ob1 | exact qc0 _ hs | exact qgr _ hs | skip)))))
theorem q8d {f : GFrames} (h : okF f) : f.Cells.length <= 32 /\ f.Used.length <= 32 /\ ∀ r ∈ f.Cells, r.length <= 16 := by
 refine ⟨h.1.2, by have := h.1.2; have := h.2.1; omega, fun r hr => ?_⟩
 obtain ⟨i, hi⟩ := List.getElem?_of_mem hr
 have hl := (List.getElem?_eq_some_iff.1 hi).1
 have hu : f.Used[i]? = some (f.Used.getD i false) := getD_at (by have := h.2.1; omega)
 have := h.2.2 _ (List.mem_of_getElem? (qf7 hi hu))
 have := this.1
 show r.length <= 16
 simp only at this
 omega
theorem q1q {k : GKernel} (h : okK k) : szK k := by
 obtain ⟨h1, h2, h3⟩ := q8d h.1.1
 have h4 := h.1.2.1
 unfold qbw at h4
 have h5 := of_decide_eq_true h4
 exact ⟨⟨by omega, by omega, fun r hr => by have := h3 r hr; omega, by omega⟩, by have := h.2.2.2; omega⟩
def quh (G : List Glb) (k : GKernel) (j : GJob) (ws : List GWriter) (order : List Int) (s : WSt) : CFD := ⟨11, [.agg [ro 33 1 xw k.Machine.Frames.Cells, ro 4 1 Tr.eB k.Machine.Frames.Used, ro 42 2 xe k.Machine.Table.Entries, (CV.lit (.int .i64 (k.Calls))), ro 3 1 Tr.eI k.Refuse], .agg [(CV.lit (.int .i64 (j.Plan.Keep))), (CV.lit (.int .i64 (j.Plan.Move))), ro 3 1 Tr.eI j.Plan.Cells, (CV.lit (.int .i64 (j.Phase))), (CV.lit (.int .i64 (j.Next)))], .one (ro 46 4 qau ws), .one (ro 3 1 Tr.eI order)], [], .tup [.agg [.hd 0, .hd 1, .hd 2, (CV.lit (.int .i64 (s.k.Calls))), .hd 3], .agg [(CV.lit (.int .i64 (s.j.Plan.Keep))), (CV.lit (.int .i64 (s.j.Plan.Move))), .hd 4, (CV.lit (.int .i64 (s.j.Phase))), (CV.lit (.int .i64 (s.j.Next)))], .one (.hd 5)], [(0, some (.row 33 1 (s.k.Machine.Frames.Cells.map xw))), (1, some (.row 4 1 (s.k.Machine.Frames.Used.map Tr.eB))), (2, some (.row 42 2 (s.k.Machine.Table.Entries.map xe))), (3, some (.row 3 1 (s.k.Refuse.map Tr.eI))), (4, some (.row 3 1 (s.j.Plan.Cells.map Tr.eI))), (5, some (.row 46 4 (s.ws.map qau)))], [0, 1, 2, 3, 4, 5], G⟩
def qui (G : List Glb) (k : GKernel) (j : GJob) (ws : List GWriter) (s : WSt) : CFD := ⟨12, [.agg [ro 33 1 xw k.Machine.Frames.Cells, ro 4 1 Tr.eB k.Machine.Frames.Used, ro 42 2 xe k.Machine.Table.Entries, (CV.lit (.int .i64 (k.Calls))), ro 3 1 Tr.eI k.Refuse], .agg [(CV.lit (.int .i64 (j.Plan.Keep))), (CV.lit (.int .i64 (j.Plan.Move))), ro 3 1 Tr.eI j.Plan.Cells, (CV.lit (.int .i64 (j.Phase))), (CV.lit (.int .i64 (j.Next)))], .one (ro 46 4 qau ws)], [], .tup [.agg [.hd 0, .hd 1, .hd 2, (CV.lit (.int .i64 (s.k.Calls))), .hd 3], .agg [(CV.lit (.int .i64 (s.j.Plan.Keep))), (CV.lit (.int .i64 (s.j.Plan.Move))), .hd 4, (CV.lit (.int .i64 (s.j.Phase))), (CV.lit (.int .i64 (s.j.Next)))], .one (.hd 5)], [(0, some (.row 33 1 (s.k.Machine.Frames.Cells.map xw))), (1, some (.row 4 1 (s.k.Machine.Frames.Used.map Tr.eB))), (2, some (.row 42 2 (s.k.Machine.Table.Entries.map xe))), (3, some (.row 3 1 (s.k.Refuse.map Tr.eI))), (4, some (.row 3 1 (s.j.Plan.Cells.map Tr.eI))), (5, some (.row 46 4 (s.ws.map qau)))], [0, 1, 2, 3, 4, 5], G⟩
def qkm (G : List Glb) (ws : List GWriter) : CFD := ⟨9, [.one (ro 46 4 qau ws)], [], (TV.sv (.one (.lit (.int .i64 (qkb ws))))), [], [], G⟩
def quj (G : List Glb) (k : GKernel) : CFD := ⟨14, [.agg [ro 33 1 xw k.Machine.Frames.Cells, ro 4 1 Tr.eB k.Machine.Frames.Used, ro 42 2 xe k.Machine.Table.Entries, (CV.lit (.int .i64 (k.Calls))), ro 3 1 Tr.eI k.Refuse]], [], (TV.sv (.one (.lit (.bool (qdv k))))), [], [], G⟩
def qn8 (m : GMachine) (addr v x : Int) : CFD := ⟨13, [.agg [ro 33 1 xw m.Frames.Cells, ro 4 1 Tr.eB m.Frames.Used, ro 42 2 xe m.Table.Entries], (SV.one (.lit (.int .i64 (addr))))], [], .tup [(SV.one (.lit (.int .i64 (v)))), (SV.one (.lit (.int .i64 (x))))], [], [], []⟩
theorem q5a (m : GMachine) (addr v x : Int) (hs : szM7 m) (ha : addr <= 9223372036854775807) (h : qd7 m addr = (v, x)) : Fn Tryz.prog (qn8 m addr v x) := by
 have := q03 m addr hs ha
 unfold qmq at this
 rw [h] at this
 exact this
def quk (p : GPlan) (j : GJob) (b : Bool) : CFD := ⟨10, [.agg [(CV.lit (.int .i64 (p.Keep))), (CV.lit (.int .i64 (p.Move))), ro 3 1 Tr.eI p.Cells]], [], .tup [.agg [(CV.lit (.int .i64 (j.Plan.Keep))), (CV.lit (.int .i64 (j.Plan.Move))), .hd 0, (CV.lit (.int .i64 (j.Phase))), (CV.lit (.int .i64 (j.Next)))], (SV.one (.lit (.bool (b))))], [(0, some (.row 3 1 (j.Plan.Cells.map Tr.eI)))], [0], []⟩
theorem q5b (p : GPlan) (j : GJob) (b : Bool) (hl : p.Cells.length <= 1048576) (h : qem p = (j, b)) : Fn Tryz.prog (quk p j b) := by
 have := qt1 p hl
 unfold qik at this
 rw [h] at this
 exact this
theorem q69 : List.map CV.lit ti48.z.cells.toList = [(CV.lit (.int .i64 (0))), (CV.lit (.int .i64 (0))), .lit (.slice none 0 0), (CV.lit (.int .i64 (0))), (CV.lit (.int .i64 (0)))] := rfl
def w1 : GWriter := ⟨0, 0, false, 1⟩
def qsx (G : List Glb) (bs : List Int) : CFD := ⟨3, [.one (ro 5 1 eU bs)], [], (TV.sv (.one (.lit (.bool (true))))), [], [], G⟩
end Eng
end Go.Proofs.YtfiofmaknndpcaaGreatDoor
namespace Go.Proofs.YtfiofmaknndpcaaGreatDoor
open Go Go.Conc
namespace Co
section
variable {P : Program} {Post : Value -> World -> Prop}
variable (P Post) in
def Ends (m : Machine) (t : Trace) : Prop :=
 ∃ n last o w' t', runNT P (n + 1) m t = (.ended o w', t') /\ runN P n m = .next last /\ step P last = .ended o w' /\ Conc.Good P Post last o w' t'
theorem qah {m m' : Machine} {t ops : Trace} (h : stepT P m = (.next m', ops)) (h' : Ends P Post m' (t ++ ops)) : Ends P Post m t := by
 obtain ⟨n, last, o, w, t', h1, h2, h3, h4⟩ := h'
 exact ⟨n + 1, last, o, w, t', by rw [runNT_succ_next h]; exact h1, by rw [runN_succ_next h]; exact h2, h3, h4⟩
theorem qjh {m : Machine} {t ops : Trace} {o : Outcome} {w : World} (h : stepT P m = (.ended o w, ops)) (h' : Conc.Good P Post m o w (t ++ ops)) : Ends P Post m t :=
 ⟨0, m, o, w, t ++ ops, by simp [runNT, h], rfl, by simp [step, h], h'⟩
def Mine (Pt : Nat -> Prop) : Loc -> Prop := fun l => ∃ a, l = .cell a /\ ¬ Pt a.block
theorem qpd {Pt : Nat -> Prop} {e : Event} (h : EvP Pt e) : EvA (Mine Pt) e := ⟨h.1, h.2⟩
structure Shut3 (c : Nat) (t : Trace) : Prop where
 race : ∀ said, ¬ Race said t
 word : Wordless t
 shut : ∃ pc, Closed c t pc
 got : ∃ (pr : Nat) (op : MemOp), t[pr]? = some op /\ op.g = 0 /\ op.act = .recvClosed c
theorem Shut3.knows {c : Nat} {t : Trace} (h : Shut3 c t) {i : Nat} {op : MemOp} (hi : t[i]? = some op) : Knows t 0 i := by
 by_cases h0 : op.g = 0
 ·exact ⟨i, op, hi, h0, .inl rfl⟩
 ·obtain ⟨pc, hC⟩ := h.shut
  obtain ⟨pr, r, hr, hr1, hr2⟩ := h.got
  obtain ⟨k, hk, hk1, hk2⟩ := hC.close
  obtain ⟨g1, hle⟩ := hC.last i op hi h0
  have e2 : HappensBefore t pc pr := .single (.inr ⟨.closed (c := c) (by simp [Trace.act?, hk, hk2]) (by simp [Trace.act?, hr, hr2]), h.word.heard hk, h.word.heard hr⟩)
  refine ⟨pr, r, hr, hr1, .inr ?_⟩
  rcases Nat.lt_or_ge i pc with hlt | hge
  ·exact (hb_po hlt hi hk (by rw [g1, hk1])).trans e2
  ·obtain rfl : i = pc := by omega
   exact e2
theorem Shut3.app {c : Nat} {t u : Trace} (h : Shut3 c t) (hw : Wordless u) (hu : ∀ op ∈ u, op.g = 0) : Shut3 c (t ++ u) := by
 obtain ⟨pc, hC⟩ := h.shut
 obtain ⟨pr, r, hr, hr1, hr2⟩ := h.got
 refine ⟨fun said => noRace_append (h.race said) hu fun i a ha _ _ _ _ _ => ?_, h.word.append hw, ⟨pc, hC.append hu⟩, pr, r, by rw [getElem?_append_old (lt_size_of_getElem? hr)]; exact hr, hr1, hr2⟩
 obtain ⟨x, hx, _⟩ := touch_of ha
 exact h.knows hx
variable (P Post) in
def Run3 (c : Nat) (g : Goroutine) (w : World) : Prop :=
 ∀ d b k sl t, QuitsIn P k b -> Shut3 c t -> Ends P Post (duo g b (w.at d) sl) t
def RlD (w w₁ : World) : Prop := ∃ d, w₁ = w.at d
theorem qft {Pt : Nat -> Prop} {fn : FuncId} {pos : String} {es : Array Event} (h : ∀ e ∈ es, EvP Pt e) : Wordless (MemOp.ofEvents 0 fn pos es) /\ ∀ op ∈ MemOp.ofEvents 0 fn pos es, op.g = 0 := early0 fun e he => (h e he).1
theorem step3 {c : Nat} {Pt : Nat -> Prop} {g : Goroutine} {w : World} (hs : g.status = .running) (h : ∀ d, ∃ g' w' es, stepG P true g (w.at d) = .go g' w' es /\ (∀ e ∈ es, EvP Pt e) /\ Run3 P Post c g' w') : Run3 P Post c g w := by
 intro d b k
 induction k generalizing d b with
 | zero =>
  intro sl t hB hT
  obtain ⟨d', sl', hmv⟩ := duo_pick (P := P) (w := w.at d) (sl := sl) (awake_of (.inl hs)) (awake_of (.inr (.inr hB))) (.inl hs)
  rcases hmv with ⟨_, hst⟩ | ⟨hrb, _⟩
  ·obtain ⟨g', w', es, hgo, hes, hR⟩ := h d'
   refine qah (hst.trans (runT_duo0 hgo)) ?_
   rw [woken_quits (k := 0) hB]
   exact hR w'.drawn b 0 sl' _ hB (hT.app (qft hes).1 (qft hes).2)
  ·rw [show b.status = .finished from hB] at hrb; cases hrb
 | succ k ih =>
  intro sl t hB hT
  obtain ⟨d', sl', hmv⟩ := duo_pick (P := P) (w := w.at d) (sl := sl) (awake_of (.inl hs)) (awake_of (hB.status.elim .inl fun h => .inr (.inr h))) (.inl hs)
  rcases hmv with ⟨_, hst⟩ | ⟨hrb, hst⟩
  ·obtain ⟨g', w', es, hgo, hes, hR⟩ := h d'
   refine qah (hst.trans (runT_duo0 hgo)) ?_
   rw [woken_quits hB]
   exact hR w'.drawn b (k + 1) sl' _ hB (hT.app (qft hes).1 (qft hes).2)
  ·rcases hB with h | ⟨_, b', hw, hq⟩
   ·rw [h] at hrb; cases hrb
   ·refine qah (hst.trans (runT_duo1 (hw _))) ?_
    rw [woken_running hs, ofEvents_none, Array.append_empty]
    exact ih d' b' sl' t hq hT
def sys3 (hn : ¬ Lone) (P : Program) (Post : Value -> World -> Prop) (c : Nat) (H Pt : Nat -> Prop) : Sys P H Pt where
 Rl := RlD
 Run := Run3 P Post c
 sub := fun ⟨d, e⟩ => by subst e; exact ⟨rfl, rfl, rfl, rfl, fun _ _ => rfl⟩
 rely := fun h ⟨d, e⟩ => by subst e; exact fun d' => h d'
 eq := fun h => absurd h hn
 steps := fun h => absurd h hn
 step := fun hs h => step3 hs fun d => let ⟨g', w', es, h1, h2, h3⟩ := h _ ⟨d, rfl⟩; ⟨g', w', es, h1, (h2 hn).evs, h3⟩
theorem qji {Rl : World -> World -> Prop} {fr : Frame} {w : World} {R : Ending -> World -> Prop} (hi : P.inits.idxOf? fr.fn = none) (h : LeavesK P Rl fr w R) {w₁ : World} (hw : Rl w w₁) : ∃ v es, stepG P true (G fr []) w₁ = .ended (.done v) w₁ es /\ (∀ e ∈ es, EvP (fun _ => False) e) /\ R (.returned v) w₁ := by
 obtain ⟨fn, hf, hr⟩ := h.fn
 obtain ⟨v, h1, h2⟩ := hr w₁ hw
 refine ⟨v, seen P fr.fn ((results fn fr.tmps).events P w₁ #[]), ?_, fun e he => ?_, h2⟩
 ·simp [G, stepG, unwind, doReturn, h.mode, h.defers, h.kind, hf, h1, Sem.runT_eq, GStep.after, hi]
 ·have := (qgb (Bk := fun _ => False) _ (qq5 fn fr.tmps) w₁ #[] (fun _ h => h.elim) v w₁ h1).1 e (mem_seen he)
  rcases this with h | h
  ·simp at h
  ·exact qyp h (fun b hb => hb.elim)
theorem q8e {c : Nat} {fr : Frame} {w : World} {R : Ending -> World -> Prop} (hi : P.inits.idxOf? fr.fn = none) (h : LeavesK P RlD fr w R) (hp : ∀ v w', R (.returned v) w' -> Post v w') : Run3 P Post c (G fr []) w := by
 intro d b k
 induction k generalizing d b with
 | zero =>
  intro sl t hB hT
  obtain ⟨d', sl', hmv⟩ := duo_pick (P := P) (a := G fr []) (w := w.at d) (sl := sl) (awake_of (.inl rfl)) (awake_of (.inr (.inr hB))) (.inl rfl)
  rcases hmv with ⟨_, hst⟩ | ⟨hrb, _⟩
  ·obtain ⟨v, es, hgo, hes, hR⟩ := qji hi h (w₁ := w.at d') ⟨d', rfl⟩
   have hT' := hT.app (qft (fn := (G fr []).frame.fn) (pos := (G fr []).frame.place) hes).1 (qft hes).2
   obtain ⟨pc, hC⟩ := hT'.shut
   obtain ⟨pr, hg⟩ := hT'.got
   refine qjh (hst.trans (runT_duo0_ended hgo)) ⟨v, rfl, hp v _ hR, hT'.race, handedOver_of_closed hT'.word hC hg, ⟨?_, rfl⟩, ?_⟩
   ·intro g hg
    have : g = b := by simpa [duo] using hg
    rw [this]
    exact ⟨0, QuitsIn.leaves hB⟩
   ·intro i g hg hne
    match i, hg, hne with
    | 0, _, hne => exact absurd rfl hne
    | 1, hg, _ =>
     have : g = b := by simpa [duo] using hg.symm
     rw [this, hT'.word.deaf]
     exact ⟨0, QuitsIn.hears (n := 0) _ 0 hB⟩
    | i + 2, hg, _ => simp [duo] at hg
  ·rw [show b.status = .finished from hB] at hrb; cases hrb
 | succ k ih =>
  intro sl t hB hT
  obtain ⟨d', sl', hmv⟩ := duo_pick (P := P) (a := G fr []) (w := w.at d) (sl := sl) (awake_of (.inl rfl)) (awake_of (hB.status.elim .inl fun h => .inr (.inr h))) (.inl rfl)
  rcases hmv with ⟨_, hst⟩ | ⟨hrb, hst⟩
  ·obtain ⟨v, es, hgo, hes, hR⟩ := qji hi h (w₁ := w.at d') ⟨d', rfl⟩
   have hT' := hT.app (qft (fn := (G fr []).frame.fn) (pos := (G fr []).frame.place) hes).1 (qft hes).2
   obtain ⟨pc, hC⟩ := hT'.shut
   obtain ⟨pr, hg⟩ := hT'.got
   refine qjh (hst.trans (runT_duo0_ended hgo)) ⟨v, rfl, hp v _ hR, hT'.race, handedOver_of_closed hT'.word hC hg, ⟨?_, rfl⟩, ?_⟩
   ·intro g hg
    have : g = b := by simpa [duo] using hg
    rw [this]
    exact ⟨k + 1, hB.leaves⟩
   ·intro i g hg hne
    match i, hg, hne with
    | 0, _, hne => exact absurd rfl hne
    | 1, hg, _ =>
     have : g = b := by simpa [duo] using hg.symm
     rw [this, hT'.word.deaf]
     exact ⟨k + 1, hB.hears _ 0⟩
    | i + 2, hg, _ => simp [duo] at hg
  ·rcases hB with h' | ⟨_, b', hw, hq⟩
   ·rw [h'] at hrb; cases hrb
   ·refine qah (hst.trans (runT_duo1 (hw _))) ?_
    rw [woken_running rfl, ofEvents_none, Array.append_empty]
    exact ih d' b' sl' t hq hT
theorem qsy {said : Bool} {t : Trace} (h : ∀ op ∈ t, op.g = 0) : ¬ Race said t := by
 have n0 : ¬ Race said (#[] : Trace) := by
  rintro ⟨i, j, _, ⟨a, b, ha, _⟩, _⟩
  simp [Trace.act?] at ha
 have := noRace_append (u := t) n0 h (fun i a ha => by simp [touchAt, Trace.act?] at ha)
 simpa using this
variable (P Post) in
def Run0 (g : Goroutine) (w : World) : Prop := ∀ t, Wordless t -> (∀ op ∈ t, op.g = 0) -> Ends P Post (solo g w) t
def sys0 (hn : ¬ Lone) (P : Program) (Post : Value -> World -> Prop) (H Pt : Nat -> Prop) : Sys P H Pt where
 Rl := Eq
 Run := Run0 P Post
 sub := fun e => e ▸ Aside.refl _ _
 rely := fun h e => e ▸ h
 eq := fun h => absurd h hn
 steps := fun h => absurd h hn
 step := fun {g w} hs h t hw h0 => by
  obtain ⟨g', w', es, h1, h2, h3⟩ := h w rfl
  refine qah ((stepT_solo hs).trans (runT_solo_go h1)) (h3 _ (hw.append (qft (h2 hn).evs).1) fun op hop => ?_)
  rcases Array.mem_append.1 hop with h' | h'
  ·exact h0 op h'
  ·exact (qft (h2 hn).evs).2 op h'
theorem leave0 {fr : Frame} {w : World} {R : Ending -> World -> Prop} (hi : P.inits.idxOf? fr.fn = none) (h : LeavesK P Eq fr w R) (hp : ∀ v w', R (.returned v) w' -> Post v w') : Run0 P Post (G fr []) w := by
 intro t hw h0
 obtain ⟨v, es, hgo, hes, hR⟩ := qji hi h (w₁ := w) rfl
 have hall : ∀ op ∈ t ++ MemOp.ofEvents 0 (G fr []).frame.fn (G fr []).frame.place es, op.g = 0 := fun op hop => (Array.mem_append.1 hop).elim (h0 op) ((qft hes).2 op)
 have hwl := hw.append (qft (fn := (G fr []).frame.fn) (pos := (G fr []).frame.place) hes).1
 have hst : stepT P (solo (G fr []) w) = (.ended (.done v) w, MemOp.ofEvents 0 (G fr []).frame.fn (G fr []).frame.place es) := by
  rw [stepT_solo rfl]
  simp [runT, solo, Array.swapAt!, Array.swapAt, hgo, GStep.es]
 refine qjh hst ⟨v, rfl, hp v _ hR, fun said => qsy hall, ?_, ⟨?_, rfl⟩, ?_⟩
 ·intro i g hg hne _
  unfold Trace.g? at hg
  cases ho : (t ++ MemOp.ofEvents 0 (G fr []).frame.fn (G fr []).frame.place es)[i]? with
  | none => simp [ho] at hg
  | some op => rw [ho] at hg; exact absurd ((Option.some.inj hg).symm.trans (hall op (mem_of_getElem? ho))) hne
 ·intro g hg
  simp [solo] at hg
 ·intro i g hg hne
  match i, hg, hne with
  | 0, _, hne => exact absurd rfl hne
  | i + 1, hg, _ => simp [solo] at hg
end
end Co
end Go.Proofs.YtfiofmaknndpcaaGreatDoor
namespace Go.Proofs.YtfiofmaknndpcaaGreatDoor
open Go Go.Conc
namespace Co
theorem Aside.at' (H : Nat -> Prop) (w : World) (d : Nat) : Aside H w (w.at d) := ⟨rfl, rfl, rfl, rfl, fun _ _ => rfl⟩
theorem Aside.put' (c : Nat) (w : World) (o : Obj) : Aside (fun k => k = c) w { w with heap := w.heap.setIfInBounds c o } :=
 ⟨rfl, rfl, rfl, by simp, fun k hk => by simp [Ne.symm hk]⟩
structure Held (c : Nat) (Pt : Nat -> Prop) (S : World -> Prop) : Prop where
 ch : Pt c
 keep : ∀ w w', (∀ k, Pt k -> k ≠ c -> w'.heap[k]? = w.heap[k]?) -> S w -> S w'
section
variable {P : Program} {Post : Value -> World -> Prop} {c : Nat} {Pt : Nat -> Prop} {S : World -> Prop}
theorem Held.aside (hS : Held c Pt S) {w w₁ : World} (h : Aside (fun k => k = c) w w₁) : S w -> S w₁ := hS.keep w w₁ fun k _ hk => h.blk k hk
variable (P Post c Pt S) in
def Run1 (vs : List Value) (g : Goroutine) (w : World) : Prop := ∀ w₁, Aside (fun k => k = c) w w₁ →
 (∀ s r tm rb b sl t p, S w₁ -> w₁.heap[c]? = some (.chan 0 #[] false s r tm) -> SitB P c S (Mine Pt) vs rb b -> Forked (Mine Pt) t p -> Ends P Post (duo g b w₁ sl) t) ∧
 (vs = [] -> ∀ s r tm k b sl t p pc, w₁.heap[c]? = some (.chan 0 #[] true s r tm) -> QuitsIn P k b -> Forked (Mine Pt) t p -> Closed c t pc -> Ends P Post (duo g b w₁ sl) t)
theorem step1 (hS : Held c Pt S) {vs : List Value} {g : Goroutine} {w : World} (hs : g.status = .running)
  (h : ∀ w₁, Aside (fun k => k = c) w w₁ -> ∃ g' w' es, stepG P true g w₁ = .go g' w' es /\ Done Pt w₁ w' es /\ Run1 P Post c Pt S vs g' w') : Run1 P Post c Pt S vs g w := by
 have shut : vs = [] -> ∀ k w₁, Aside (fun k => k = c) w w₁ -> ∀ s r tm b sl t p pc, w₁.heap[c]? = some (.chan 0 #[] true s r tm) -> QuitsIn P k b -> Forked (Mine Pt) t p -> Closed c t pc -> Ends P Post (duo g b w₁ sl) t := by
  intro hv k
  induction k with
  | zero =>
   intro w₁ hA s r tm b sl t p pc hc hB hT hC
   obtain ⟨d, sl', hmv⟩ := duo_pick (P := P) (w := w₁) (sl := sl) (awake_of (.inl hs)) (awake_of (.inr (.inr hB))) (.inl hs)
   rcases hmv with ⟨_, hst⟩ | ⟨hrb, _⟩
   ·obtain ⟨g', w', es, hgo, hd, hR⟩ := h _ (hA.trans (Aside.at' _ w₁ d))
    refine qah (hst.trans (runT_duo0 hgo)) ?_
    rw [woken_quits (k := 0) hB]
    exact (hR w' (Aside.refl _ _)).2 hv s r tm 0 b sl' _ p pc ((hd.keep c hS.ch).trans hc) hB (hT.add0 fun e he => qpd (hd.evs e he)) (hC.append (qft hd.evs).2)
   ·rw [show b.status = .finished from hB] at hrb; cases hrb
  | succ k ih =>
   intro w₁ hA s r tm b sl t p pc hc hB hT hC
   obtain ⟨d, sl', hmv⟩ := duo_pick (P := P) (w := w₁) (sl := sl) (awake_of (.inl hs)) (awake_of (hB.status.elim .inl fun h => .inr (.inr h))) (.inl hs)
   rcases hmv with ⟨_, hst⟩ | ⟨hrb, hst⟩
   ·obtain ⟨g', w', es, hgo, hd, hR⟩ := h _ (hA.trans (Aside.at' _ w₁ d))
    refine qah (hst.trans (runT_duo0 hgo)) ?_
    rw [woken_quits hB]
    exact (hR w' (Aside.refl _ _)).2 hv s r tm (k + 1) b sl' _ p pc ((hd.keep c hS.ch).trans hc) hB (hT.add0 fun e he => qpd (hd.evs e he)) (hC.append (qft hd.evs).2)
   ·rcases hB with h' | ⟨_, b', hw, hq⟩
    ·rw [h'] at hrb; cases hrb
    ·refine qah (hst.trans (runT_duo1 (hw _))) ?_
     rw [woken_running hs, ofEvents_none, Array.append_empty]
     exact ih (w₁.at d) (hA.trans (Aside.at' _ w₁ d)) s r tm b' sl' t p pc hc hq hT hC
 have opn : ∀ rb w₁, Aside (fun k => k = c) w w₁ -> ∀ s r tm b sl t p, S w₁ -> w₁.heap[c]? = some (.chan 0 #[] false s r tm) -> SitB P c S (Mine Pt) vs rb b -> Forked (Mine Pt) t p -> Ends P Post (duo g b w₁ sl) t := by
  intro rb
  induction rb using Nat.strongRecOn with
  | ind rb ih =>
   intro w₁ hA s r tm b sl t p hSw hc hB hT
   have sB := hB.status hSw
   have awB : awake b := awake_of (by rcases sB with ⟨h, _⟩ | ⟨h, _⟩ <;> simp [h])
   obtain ⟨d, sl', hmv⟩ := duo_pick (P := P) (w := w₁) (sl := sl) (awake_of (.inl hs)) awB (.inl hs)
   have hA1 := hA.trans (Aside.at' _ w₁ d)
   have hS1 : S (w₁.at d) := hS.aside (Aside.at' _ w₁ d) hSw
   have hc1 : (w₁.at d).heap[c]? = some (.chan 0 #[] false s r tm) := hc
   rcases hmv with ⟨_, hst⟩ | ⟨hrb, hst⟩
   ·obtain ⟨g', w', es, hgo, hd, hR⟩ := h _ hA1
    have hc' : w'.heap[c]? = some (.chan 0 #[] false s r tm) := (hd.keep c hS.ch).trans hc1
    refine qah (hst.trans (runT_duo0 hgo)) ?_
    rw [hB.woken hSw hc']
    exact (hR w' (Aside.refl _ _)).1 s r tm rb b sl' _ p (hS.keep _ _ (fun k hk _ => hd.keep k hk) hS1) hc' hB (hT.add0 fun e he => qpd (hd.evs e he))
   ·rcases hB with ⟨n, rfl, hgb⟩ | ⟨_, v, vs', g₂, z', _, rfl, _⟩
    ·rcases hgb.cases with hstop | ⟨n', rfl, hstep⟩
     ·have hat := hstop _ hS1
      cases vs with
      | nil =>
       obtain ⟨_, hwake, g₂, es, nq, hclose, hes, hq⟩ := hat
       have hgo := hclose _ s r tm hS1 hc1
       have hw3 : Aside (fun k => k = c) (w₁.at d) ((w₁.at d).shut c s r tm) := Aside.put' c _ _
       have hc2 : ((w₁.at d).shut c s r tm).heap[c]? = some (.chan 0 #[] true s r tm) := heap_put hc1
       refine qah (hst.trans (runT_duo1 hgo)) ?_
       rw [woken_running hs, ofEvents_push, ← Array.push_append]
       have hF : Forked (Mine Pt) ((t ++ MemOp.ofEvents 1 b.frame.fn b.frame.place es).push { g := 1, fn := b.frame.fn, pos := b.frame.place, act := .ofEvent ⟨.obj c, true, true⟩ }) p := by
        rw [Array.push_eq_append]
        exact (hT.add1 hes).addComm _ (by simp [MemAct.touch?, MemAct.ofEvent])
       exact shut rfl nq _ (hA1.trans hw3) s r tm g₂ sl' _ p _ hc2 hq hF (Closed.ofPush hF rfl rfl)
      | cons v vs' =>
       obtain ⟨_, g₂, z', es, hcomm, hes, hnext⟩ := hat
       have has : g.status ≠ .blocked := by rw [hs]; simp
       refine qah (hst.trans (runT_send_waits (hcomm _ hS1) hc1 has)) ?_
       exact ih 0 (by omega) _ hA1 s r tm _ sl' _ p hS1 hc1 (.inr ⟨rfl, v, vs', g₂, z', rfl, rfl, hnext⟩) (hT.add1 hes)
     ·obtain ⟨b', w', es, hgo, ⟨rfl, hes⟩, hg'⟩ := hstep _ hS1
      refine qah (hst.trans (runT_duo1 hgo)) ?_
      rw [woken_running hs]
      exact ih (n' + 1) (by omega) _ hA1 s r tm b' sl' _ p hS1 hc1 (.inl ⟨n', rfl, hg'.anyWorld default⟩) (hT.add1 hes)
    ·simp [parked] at hrb
 exact fun w₁ hA => ⟨fun s r tm rb b sl t p hSw hc hB hT => opn rb w₁ hA s r tm b sl t p hSw hc hB hT, fun hv s r tm k b sl t p pc hc hB hT hC => shut hv k w₁ hA s r tm b sl t p pc hc hB hT hC⟩
def sys1 (hn : ¬ Lone) (P : Program) (Post : Value -> World -> Prop) {c : Nat} {Pt : Nat -> Prop} {S : World -> Prop} (hS : Held c Pt S) (vs : List Value) : Sys P (fun k => k = c) Pt where
 Rl := Aside (fun k => k = c)
 Run := Run1 P Post c Pt S vs
 sub := id
 rely := fun h hr w₁ h₁ => h w₁ (hr.trans h₁)
 eq := fun h => absurd h hn
 steps := fun h => absurd h hn
 step := fun hs h => step1 hS hs fun w₁ h₁ => let ⟨g', w', es, h1, h2, h3⟩ := h w₁ h₁; ⟨g', w', es, h1, h2 hn, h3⟩
def AtR (P : Program) (c : Nat) (Pt : Nat -> Prop) (z : Value) (g : Goroutine) (w : World) : Prop :=
 g.status = .running /\ ∀ w₁, Aside (fun k => k = c) w w₁ -> ∃ es, stepG P true g w₁ = .comm (core g) #[rcase c z] true (.recv true) w₁ es /\ ∀ e ∈ es, EvP Pt e
variable (P Post c Pt S) in
def q1r (z : Value) (g : Goroutine) (w : World) : List Value -> Prop
 | [] => ∀ w₁, Aside (fun k => k = c) w w₁ -> Run3 P Post c (Go.Conc.served (core g) (.tuple #[z, .bool false])) w₁
 | v :: vs => Run1 P Post c Pt S vs (Go.Conc.served (core g) (.tuple #[v, .bool true])) w
theorem qlh {z : Value} {g : Goroutine} {w : World} (hR : AtR P c Pt z g w) (hN : q1r P Post c Pt S z g w []) : ∀ k w₁, Aside (fun k => k = c) w w₁ -> ∀ g' s r tm b sl t p pc, g'.status = .running -> (∀ w, stepG P true g' w = stepG P true g w) -> w₁.heap[c]? = some (.chan 0 #[] true s r tm) -> QuitsIn P k b -> Forked (Mine Pt) t p -> Closed c t pc -> Ends P Post (duo g' b w₁ sl) t := by
 have go : ∀ k w₁ d sl', Aside (fun k => k = c) w w₁ -> ∀ g' s r tm b (sl : Option (Nat × Nat)) t p pc, (∀ w, stepG P true g' w = stepG P true g w) -> w₁.heap[c]? = some (.chan 0 #[] true s r tm) -> QuitsIn P k b -> Forked (Mine Pt) t p -> Closed c t pc -> stepT P (duo g' b w₁ sl) = runT P (duo g' b (w₁.at d) sl') 0 -> Ends P Post (duo g' b w₁ sl) t := by
  intro k w₁ d sl' hA g' s r tm b sl t p pc hsame hc hB hT hC hst
  obtain ⟨es, hcm, hes⟩ := hR.2 _ (hA.trans (Aside.at' _ w₁ d))
  rw [← hsame] at hcm
  have hbs : b.status ≠ .blocked := by rcases hB.status with h | h <;> rw [h] <;> simp
  have hc1 : (w₁.at d).heap[c]? = some (.chan 0 #[] true s r tm) := hc
  have hT1 := hT.add0 (fn := g'.frame.fn) (pos := g'.frame.place) fun e he => qpd (hes e he)
  refine qah (hst.trans (runT_recv_closed hcm hc1 hbs)) ?_
  rw [← Array.append_assoc]
  have hT2 := hT1.addComm #[{ g := 0, fn := (core g).frame.fn, pos := (core g).frame.place, act := .recvClosed c }] (by simp [MemAct.touch?])
  refine hN _ (hA.trans (Aside.at' _ w₁ d)) d b k sl' _ hB ⟨hT2.noRace, hT2.wordless, ⟨pc, (hC.append (qft hes).2).append (by simp)⟩, (t ++ MemOp.ofEvents 0 g'.frame.fn g'.frame.place es).size, { g := 0, fn := (core g).frame.fn, pos := (core g).frame.place, act := .recvClosed c }, ?_, rfl, rfl⟩
  rw [Array.getElem?_append]
  simp
 intro k
 induction k with
 | zero =>
  intro w₁ hA g' s r tm b sl t p pc hs hsame hc hB hT hC
  obtain ⟨d, sl', hmv⟩ := duo_pick (P := P) (w := w₁) (sl := sl) (awake_of (.inl hs)) (awake_of (.inr (.inr hB))) (.inl hs)
  rcases hmv with ⟨_, hst⟩ | ⟨hrb, _⟩
  ·exact go 0 w₁ d sl' hA g' s r tm b sl t p pc hsame hc hB hT hC hst
  ·rw [show b.status = .finished from hB] at hrb; cases hrb
 | succ k ih =>
  intro w₁ hA g' s r tm b sl t p pc hs hsame hc hB hT hC
  obtain ⟨d, sl', hmv⟩ := duo_pick (P := P) (w := w₁) (sl := sl) (awake_of (.inl hs)) (awake_of (hB.status.elim .inl fun h => .inr (.inr h))) (.inl hs)
  rcases hmv with ⟨_, hst⟩ | ⟨hrb, hst⟩
  ·exact go (k + 1) w₁ d sl' hA g' s r tm b sl t p pc hsame hc hB hT hC hst
  ·rcases hB with h' | ⟨_, b', hw, hq⟩
   ·rw [h'] at hrb; cases hrb
   ·refine qah (hst.trans (runT_duo1 (hw _))) ?_
    rw [woken_running hs, ofEvents_none, Array.append_empty]
    exact ih (w₁.at d) (hA.trans (Aside.at' _ w₁ d)) g' s r tm b' sl' t p pc hs hsame hc hq hT hC
theorem qsz (hS : Held c Pt S) {z : Value} {g : Goroutine} {w : World} {vs : List Value} (hR : AtR P c Pt z g w) (hN : q1r P Post c Pt S z g w vs) : ∀ n w₁, Aside (fun k => k = c) w w₁ -> ∀ s r tm b sl t p, S w₁ -> w₁.heap[c]? = some (.chan 0 #[] false s r tm) -> Goes P false (fun _ w₁ => S w₁) (DB (Mine Pt)) (StopB P c S (Mine Pt) vs) n b default -> Forked (Mine Pt) t p -> Ends P Post (duo (parked (core g) #[rcase c z] (.recv true)) b w₁ sl) t := by
 intro n
 induction n using Nat.strongRecOn with
 | ind n ih =>
  intro w₁ hA s r tm b sl t p hSw hc hgb hT
  have hbr : b.status = .running := hgb.running (fun _ _ => StopB.running) w₁ hSw
  obtain ⟨d, sl', hmv⟩ := duo_pick (P := P) (a := parked (core g) #[rcase c z] (.recv true)) (w := w₁) (sl := sl) (awake_of (.inr (.inl rfl))) (awake_of (.inl hbr)) (.inr hbr)
  have hA1 := hA.trans (Aside.at' _ w₁ d)
  have hS1 : S (w₁.at d) := hS.aside (Aside.at' _ w₁ d) hSw
  have hc1 : (w₁.at d).heap[c]? = some (.chan 0 #[] false s r tm) := hc
  rcases hmv with ⟨hra, _⟩ | ⟨_, hst⟩
  ·simp [parked] at hra
  ·rcases hgb.cases with hstop | ⟨n', rfl, hstep⟩
   ·have hat := hstop _ hS1
    cases vs with
    | nil =>
     obtain ⟨_, hwake, g₂, es, nq, hclose, hes, hq⟩ := hat
     have hgo := hclose _ s r tm hS1 hc1
     have hw3 : Aside (fun k => k = c) (w₁.at d) ((w₁.at d).shut c s r tm) := Aside.put' c _ _
     have hc2 : ((w₁.at d).shut c s r tm).heap[c]? = some (.chan 0 #[] true s r tm) := heap_put hc1
     have hwk : ∀ o, woken P b g₂ ((w₁.at d).shut c s r tm) o = o.again ((w₁.at d).shut c s r tm) := by
      intro o; unfold Go.Conc.woken; rcases hq.status with h | h <;> simp [hwake, h]
     refine qah (hst.trans (runT_duo1 hgo)) ?_
     rw [hwk, again_parked_shut rfl hc2, ofEvents_push, ← Array.push_append]
     have hF : Forked (Mine Pt) ((t ++ MemOp.ofEvents 1 b.frame.fn b.frame.place es).push { g := 1, fn := b.frame.fn, pos := b.frame.place, act := .ofEvent ⟨.obj c, true, true⟩ }) p := by
      rw [Array.push_eq_append]
      exact (hT.add1 hes).addComm _ (by simp [MemAct.touch?, MemAct.ofEvent])
     exact qlh hR hN nq _ (hA1.trans hw3) _ s r tm g₂ sl' _ p _ rfl (fun w => stepG_same rfl rfl rfl w) hc2 hq hF (Closed.ofPush hF rfl rfl)
    | cons v vs' =>
     obtain ⟨_, g₂, z', es, hcomm, hes, hnext⟩ := hat
     have hw2 : Aside (fun k => k = c) (w₁.at d) ((w₁.at d).passed c s r tm) := Aside.put' c _ _
     obtain ⟨nb, hnb⟩ := (sends_iff P c S (Mine Pt) vs' _).1 hnext
     refine qah (hst.trans (runT_send_meets (hcomm _ hS1) hc1 rfl)) ?_
     rw [← Array.append_assoc]
     exact (hN _ (hA1.trans hw2)).1 (s + 1) (r + 1) tm (nb + 1) _ sl' _ p (hS.aside hw2 hS1) (heap_put hc1) (.inl ⟨nb, rfl, hnb⟩) ((hT.add1 hes).addComm _ (by simp [MemAct.touch?]))
   ·obtain ⟨b', w', es, hgo, ⟨rfl, hes⟩, hg'⟩ := hstep _ hS1
    refine qah (hst.trans (runT_duo1 hgo)) ?_
    have hwk : woken P b b' (w₁.at d) (parked (core g) #[rcase c z] (.recv true)) = parked (core g) #[rcase c z] (.recv true) := by
     unfold Go.Conc.woken
     split
     ·exact again_parked_open rfl hc1
     ·rfl
    rw [hwk]
    exact ih n' (by omega) _ hA1 s r tm b' sl' _ p hS1 hc1 (hg'.anyWorld default) (hT.add1 hes)
theorem q7a (hS : Held c Pt S) {z : Value} {g : Goroutine} {w : World} {vs : List Value} (hR : AtR P c Pt z g w) (hN : q1r P Post c Pt S z g w vs) : Run1 P Post c Pt S vs g w := by
 have opn : ∀ rb w₁, Aside (fun k => k = c) w w₁ -> ∀ s r tm b sl t p, S w₁ -> w₁.heap[c]? = some (.chan 0 #[] false s r tm) -> SitB P c S (Mine Pt) vs rb b -> Forked (Mine Pt) t p -> Ends P Post (duo g b w₁ sl) t := by
  intro rb
  induction rb using Nat.strongRecOn with
  | ind rb ih =>
   intro w₁ hA s r tm b sl t p hSw hc hB hT
   have sB := hB.status hSw
   have awB : awake b := awake_of (by rcases sB with ⟨h, _⟩ | ⟨h, _⟩ <;> simp [h])
   obtain ⟨d, sl', hmv⟩ := duo_pick (P := P) (w := w₁) (sl := sl) (awake_of (.inl hR.1)) awB (.inl hR.1)
   have hA1 := hA.trans (Aside.at' _ w₁ d)
   have hS1 : S (w₁.at d) := hS.aside (Aside.at' _ w₁ d) hSw
   have hc1 : (w₁.at d).heap[c]? = some (.chan 0 #[] false s r tm) := hc
   rcases hmv with ⟨_, hst⟩ | ⟨hrb, hst⟩
   ·obtain ⟨es, hcm, hes⟩ := hR.2 _ hA1
    rcases hB with ⟨n, rfl, hgb⟩ | ⟨rfl, v, vs', g₂, z', rfl, rfl, hnext⟩
    ·have hbs : b.status ≠ .blocked := by rw [hgb.running (fun _ _ => StopB.running) w₁ hSw]; simp
     refine qah (hst.trans (runT_recv_waits hcm hc1 hbs)) ?_
     exact qsz hS hR hN n _ hA1 s r tm b sl' _ p hS1 hc1 hgb (hT.add0 fun e he => qpd (hes e he))
    ·have hw2 : Aside (fun k => k = c) (w₁.at d) ((w₁.at d).passed c s r tm) := Aside.put' c _ _
     obtain ⟨nb, hnb⟩ := (sends_iff P c S (Mine Pt) vs' _).1 hnext
     refine qah (hst.trans (runT_recv_meets hcm hc1 rfl)) ?_
     rw [← Array.append_assoc]
     exact (hN _ (hA1.trans hw2)).1 (s + 1) (r + 1) tm (nb + 1) _ sl' _ p (hS.aside hw2 hS1) (heap_put hc1) (.inl ⟨nb, rfl, hnb⟩) ((hT.add0 fun e he => qpd (hes e he)).addComm _ (by simp [MemAct.touch?]))
   ·rcases hB with ⟨n, rfl, hgb⟩ | ⟨_, v, vs', g₂, z', _, rfl, _⟩
    ·rcases hgb.cases with hstop | ⟨n', rfl, hstep⟩
     ·have hat := hstop _ hS1
      cases vs with
      | nil =>
       obtain ⟨_, hwake, g₂, es, nq, hclose, hes, hq⟩ := hat
       have hgo := hclose _ s r tm hS1 hc1
       have hw3 : Aside (fun k => k = c) (w₁.at d) ((w₁.at d).shut c s r tm) := Aside.put' c _ _
       have hc2 : ((w₁.at d).shut c s r tm).heap[c]? = some (.chan 0 #[] true s r tm) := heap_put hc1
       refine qah (hst.trans (runT_duo1 hgo)) ?_
       rw [woken_running hR.1, ofEvents_push, ← Array.push_append]
       have hF : Forked (Mine Pt) ((t ++ MemOp.ofEvents 1 b.frame.fn b.frame.place es).push { g := 1, fn := b.frame.fn, pos := b.frame.place, act := .ofEvent ⟨.obj c, true, true⟩ }) p := by
        rw [Array.push_eq_append]
        exact (hT.add1 hes).addComm _ (by simp [MemAct.touch?, MemAct.ofEvent])
       exact qlh hR hN nq _ (hA1.trans hw3) g s r tm g₂ sl' _ p _ hR.1 (fun _ => rfl) hc2 hq hF (Closed.ofPush hF rfl rfl)
      | cons v vs' =>
       obtain ⟨_, g₂, z', es, hcomm, hes, hnext⟩ := hat
       have has : g.status ≠ .blocked := by rw [hR.1]; simp
       refine qah (hst.trans (runT_send_waits (hcomm _ hS1) hc1 has)) ?_
       exact ih 0 (by omega) _ hA1 s r tm _ sl' _ p hS1 hc1 (.inr ⟨rfl, v, vs', g₂, z', rfl, rfl, hnext⟩) (hT.add1 hes)
     ·obtain ⟨b', w', es, hgo, ⟨rfl, hes⟩, hg'⟩ := hstep _ hS1
      refine qah (hst.trans (runT_duo1 hgo)) ?_
      rw [woken_running hR.1]
      exact ih (n' + 1) (by omega) _ hA1 s r tm b' sl' _ p hS1 hc1 (.inl ⟨n', rfl, hg'.anyWorld default⟩) (hT.add1 hes)
    ·simp [parked] at hrb
 exact fun w₁ hA => ⟨fun s r tm rb b sl t p hSw hc hB hT => opn rb w₁ hA s r tm b sl t p hSw hc hB hT, fun hv s r tm k b sl t p pc hc hB hT hC => by subst hv; exact qlh hR hN k w₁ hA g s r tm b sl t p pc hR.1 (fun _ => rfl) hc hB hT hC⟩
theorem q8f {vs : List Value} {g g' child : Goroutine} {w w' : World} {es : Array Event} {s r : Nat} {tm : Bool} (hs : g.status = .running) (h : stepG P true g w = .spawn g' child w' es) (he : ∀ e ∈ es, ∀ m, e.loc = .mark m -> Neutral m)
  (hSw : S w') (hc : w'.heap[c]? = some (.chan 0 #[] false s r tm)) (hB : Sends P c S (Mine Pt) vs child) (h' : Run1 P Post c Pt S vs g' w') : Run0 P Post g w := by
 intro t hw h0
 obtain ⟨nb, hnb⟩ := (sends_iff P c S (Mine Pt) vs child).1 hB
 refine qah ((stepT_solo hs).trans (runT_solo_spawn h)) ?_
 rw [Array.append_push, Array.append_push]
 exact (h' w' (Aside.refl _ _)).1 s r tm (nb + 1) child none _ _ hSw hc (.inl ⟨nb, rfl, hnb⟩) (forked_new (hw.append (early0 he).1) (fun op hop => (Array.mem_append.1 hop).elim (h0 op) ((early0 he).2 op)) ⟨rfl, rfl⟩ ⟨rfl, rfl⟩)
end
end Co
end Go.Proofs.YtfiofmaknndpcaaGreatDoor
namespace Go.Proofs.YtfiofmaknndpcaaGreatDoor
open Go.RowKit
namespace Co
open Go Go.Conc
section
variable {P : Program} {H Pt : Nat -> Prop} {Q : Exit -> Act -> World -> Prop}
theorem qli {ops : Array Oper} (rest : List Nat) : ∀ (l : List Oper) (k0 : Nat), (∀ j, j < l.length -> l[j]? = ops[k0 + j]?) -> ∀ (a : Act) (w : World), qb8 P H Pt ops Q l a w -> ∀ (M : Sys P H Pt) (b : Frame) (k : List Item) (cs : List Frame), b.kind ≠ .early →
  (∀ a' w', Q .normal a' w' -> M.Run (G (b.at a' (.inRegion ops rest :: k)) cs) w') -> M.Run (G (b.at a (.inRegion ops (List.range' k0 l.length ++ rest) :: k)) cs) w
 | [], k0, _, a, w, h => fun M b k cs _ hc => by simpa using hc a w h
 | o :: l, k0, hl, a, w, h => by
  have h0 : ops[k0]? = some o := by simpa using (hl 0 (by simp)).symm
  have hl' : ∀ j, j < l.length -> l[j]? = ops[k0 + 1 + j]? := fun j hj => by have := hl (j + 1) (by simpa using hj); simpa [Nat.add_assoc, Nat.add_comm 1 j] using this
  intro M b k cs hk hc
  rw [List.length_cons, List.range'_succ, List.cons_append]
  unfold qb8 at h
  split at h
  ·rename_i hw
   exact h M b ops k0 _ k cs hk h0 hw fun a' w' hK => qli rest l (k0 + 1) hl' a' w' hK M b k cs hk hc
  ·rename_i hw
   exact M.go rfl (fun _ => stepG_unwanted h0 (by simpa using hw)) (qli rest l (k0 + 1) hl' _ _ h M b k cs hk hc)
end
end Co
namespace Eng
open Tr
open Go.Conc (stepG_seq stepG_block stepG_end stepG_inBlock stepG_region stepG_enter)
def Its : List It -> List Item -> Prop
 | [], [] => True
 | .code c :: k, .code c' :: l => c' = c /\ Its k l
 | .blk i :: k, .inBlock i' :: l => i' = i /\ Its k l
 | .scp :: k, .inScope _ :: l => Its k l
 | .until G :: k, .inLoop _ :: l => (∀ σ, ¬ G σ) /\ Its k l
 | _, _ => False
section
variable {P : Program} {F : Fr} {R : St -> Prop}
theorem qbi (M : Co.Sys P F.X.H F.X.Pt) {b : Frame} {cs : List Frame} (hk : b.kind ≠ .early) (hret : ∀ a w, (∃ σ, R σ /\ qba F σ a w) -> ∀ todo, M.Run (Go.Conc.G { b.at a todo with mode := .returning } cs) w) : ∀ (k : List It) (l : List Item), Its k l -> ∀ e a w, kont P F R k e a w -> Co.Arr M b l cs e a w
 | [], [], _, e, a, w, h => by
  cases e with
  | normal => exact M.go rfl (fun _ => stepG_end) (hret a w h [])
  | ret => exact hret a w h
  | exit id => exact h.elim
  | goto l => exact h.elim
  | panic ch => exact h.elim
  | outgrown => exact h.elim
 | .code c :: k, .code c' :: l, hI, e, a, w, h => by
  obtain ⟨rfl, hI⟩ := hI
  cases e with
  | normal => exact h M b l cs hk fun e a' w' q => qbi M hk hret k l hI e a' w' q
  | exit id => exact Co.Arr.push M rfl (by simp) (qbi M hk hret k l hI _ a w h)
  | ret => exact Co.Arr.push M (x := .code c') rfl (by simp) (qbi M hk hret k l hI _ a w h)
  | goto l' => exact qbi M hk hret k l hI _ a w h
  | panic ch => exact qbi M hk hret k l hI _ a w h
  | outgrown => exact qbi M hk hret k l hI _ a w h
 | .blk i :: k, .inBlock i' :: l, hI, e, a, w, h => by
  obtain ⟨rfl, hI⟩ := hI
  cases e with
  | normal => exact M.go rfl (fun _ => stepG_inBlock) (qbi M hk hret k l hI .normal a w h)
  | exit id =>
   change (if id = i' then kont P F R k .normal a w else kont P F R k (.exit id) a w) at h
   by_cases hid : id = i'
   ·rw [if_pos hid] at h
    exact ⟨l, by simp [exitTo, hid], qbi M hk hret k l hI .normal a w h⟩
   ·rw [if_neg hid] at h
    obtain ⟨k', hk', hg⟩ := qbi M hk hret k l hI (.exit id) a w h
    have : (i' == id) = false := by simp; exact fun e => hid e.symm
    exact ⟨k', by simp only [exitTo, this, Bool.false_eq_true, if_false]; exact hk', hg⟩
  | ret => exact qbi M hk hret k l hI .ret a w h
  | goto l' => exact qbi M hk hret k l hI _ a w h
  | panic ch => exact qbi M hk hret k l hI _ a w h
  | outgrown => exact qbi M hk hret k l hI _ a w h
 | .scp :: k, .inScope c :: l, hI, e, a, w, h => by
  have hI : Its k l := hI
  cases e with
  | normal => exact M.go rfl (fun _ => Co.qiu) (qbi M hk hret k l hI .normal a w h)
  | exit id =>
   obtain ⟨k', hk', hg⟩ := qbi M hk hret k l hI (.exit id) a w h
   exact ⟨k', by simp [exitTo, hk'], hg⟩
  | ret => exact qbi M hk hret k l hI .ret a w h
  | goto l' => exact h.elim
  | panic ch => exact qbi M hk hret k l hI _ a w h
  | outgrown => exact qbi M hk hret k l hI _ a w h
 | .until G :: k, .inLoop c :: l, hI, e, a, w, h => by
  obtain ⟨hG, hI⟩ := hI
  cases e with
  | normal => obtain ⟨σ, h1, _⟩ := h; exact absurd h1 (hG σ)
  | exit id => exact Co.Arr.push M (x := .inLoop c) rfl (by simp) (qbi M hk hret k l hI (.exit id) a w h)
  | ret => exact Co.Arr.push M (x := .inLoop c) rfl (by simp) (qbi M hk hret k l hI .ret a w h)
  | goto l' => exact qbi M hk hret k l hI (.goto l') a w h
  | panic ch => exact qbi M hk hret k l hI (.panic ch) a w h
  | outgrown => exact qbi M hk hret k l hI .outgrown a w h
def AG (P : Program) (F : Fr) (R : St -> Prop) (k : List It) (σ : St) : Prop :=
 ∀ a w, qba F σ a w -> ∀ (Post : Value -> World -> Prop) (b : Frame) (cs : List Frame) (l : List Item), b.kind ≠ .early -> Its k l →
  (∀ a w, (∃ σ, R σ /\ qba F σ a w) -> ∀ todo, Co.Run0 P Post (Go.Conc.G { b.at a todo with mode := .returning } cs) w) →
  (∀ ch a w, (∃ σ, R σ /\ qba F σ a w) -> ∀ todo, Co.Run3 P Post ch (Go.Conc.G { b.at a todo with mode := .returning } cs) w) -> Co.Run0 P Post (Go.Conc.G (b.at a l) cs) w
variable {k : List It} {σ : St}
theorem qn9 (hn : ¬ Co.Lone) (h : AR P F R k σ) : AG P F R k σ := fun a w hS Post b cs l hk hI h0 _ => qbi (Co.sys0 hn P Post F.X.H F.X.Pt) hk h0 k l hI .normal a w (h a w hS)
theorem qgs {c : Code} {l : List Item} (h : Its (.code c :: k) l) : ∃ l', l = .code c :: l' /\ Its k l' := by
 match l, h with
 | .code c' :: l', h => obtain ⟨rfl, h2⟩ := h; exact ⟨l', rfl, h2⟩
theorem qfu (hn : ¬ Co.Lone) {x y : Code} (h : AG P F R (.code x :: .code y :: k) σ) : AG P F R (.code (.seq x y) :: k) σ := by
 intro a w hS Post b cs l hk hI h0 h3
 obtain ⟨l', rfl, hI'⟩ := qgs hI
 exact (Co.sys0 hn P Post F.X.H F.X.Pt).go rfl (fun _ => stepG_seq) (h a w hS Post b cs (.code x :: .code y :: l') hk ⟨rfl, rfl, hI'⟩ h0 h3)
theorem qh9 (hn : ¬ Co.Lone) {x : Code} (h : AR P F R [.code x, .until (fun σ' => AG P F R k σ')] σ) : AG P F R (.code x :: k) σ := by
 intro a w hS Post b cs l hk hI h0 h3
 obtain ⟨l', rfl, hI'⟩ := qgs hI
 refine h a w hS (Co.sys0 hn P Post F.X.H F.X.Pt) b l' cs hk fun e a' w' q => ?_
 cases e with
 | normal => obtain ⟨σ', hG, hS'⟩ := q; exact hG a' w' hS' Post b cs l' hk hI' h0 h3
 | ret => exact h0 a' w' q
 | exit id => exact q.elim
 | goto l => exact q.elim
 | panic ch => exact q.elim
 | outgrown => exact q.elim
def FnGo (P : Program) (c : CFD) : Prop :=
 ∀ (X : Cx) (ρ : Env) (xs : List Value), X.ds = [] -> (∀ b, ¬ X.H b) -> (∀ b, ¬ X.Pt b) -> qc8 (GlX X) c.gl -> MRel X ρ X.w0 c.pre -> (∀ q y, ρ q = some y -> q ∈ keys c.pre) -> qa9 X ρ c.args xs -> ∀ (Post : Value -> World -> Prop) (cs : List Frame),
  (∀ fr w', fr.fn = c.f -> Co.LeavesK P Eq fr w' (qjw X ρ c) -> Co.Run0 P Post (Go.Conc.G fr cs) w') →
  (∀ ch fr w', fr.fn = c.f -> Co.LeavesK P Co.RlD fr w' (qjw X ρ c) -> Co.Run3 P Post ch (Go.Conc.G fr cs) w') -> Co.Run0 P Post (Go.Conc.G (Frame.enter P c.f xs.toArray .normal) cs) X.w0
end
section
variable {P : Program} {X : Cx} {ρ : Env} {w : World} {m : ML}
theorem q8x {T : (Ending -> World -> Prop) -> Prop} (hT : ∀ R R' : Ending -> World -> Prop, (∀ v w', R (.returned v) w' -> R' (.returned v) w') -> T R -> T R') {ok : Ok} (hgl : ∀ x, ok.gl x -> GlX X x) {s : Nat} {c : CFD} {vs : List SV} {o1 : List Prop} {π : List (Nat × Nat)} {xs : List Value} (hx : All o1 -> qa9 X ρ vs xs) {e : Eff} (he : qa5 ok o1 vs m s none c π = some e) (hob : All e.ob) (hs : ∀ r ∈ e.al, ρ r = none) (hM : MRel X ρ w m) (hW : WRel X w)
  (hf : ∀ (Xc : Cx) (ρc : Env), Xc.w0 = w -> Xc.H = X.H -> Xc.Pt = X.Pt -> Xc.ds = [] -> qc8 (GlX Xc) c.gl -> MRel Xc ρc Xc.w0 c.pre -> (∀ q y, ρc q = some y -> q ∈ keys c.pre) -> qa9 Xc ρc c.args xs -> T (qjw Xc ρc c)) :
  T (fun en w' => ∃ v ρ', en = .returned v /\ (∀ tv, e.v = some tv -> TRel X ρ' tv v) /\ Ext ρ ρ' /\ (∀ r y, ρ' r = some y -> ρ r = some y ∨ r ∈ e.al) /\ MRel X ρ' w' (app e.wr m) /\ WRel X w') := by
 unfold qa5 at he
 split at he
 ·rename_i o2 ros o3 h2 h3
  split at he
  ·rename_i hn1 hin hd
   split at he
   ·rename_i hro
    have hro' : ros = [] ∨ (qom c.res = true /\ qiw c.post = true) := by
     cases ros with
     | nil => exact .inl rfl
     | cons r l =>
      simp only [isNil] at hro
      split at hro
      ·rename_i h1; exact .inr ⟨h1, hro⟩
      ·cases hro
    obtain rfl := Option.some.inj he
    rw [qy, qy, qy] at hob
    refine hT _ _ ?_ (qnh hT h2 hob.2.1 h3 hob.2.2.1 hn1 hin hd hro' hf (qfn hgl hob.2.2.2.2.1) hs (hx hob.1) hM hW)
    rintro v w' ⟨v', ρn, e0, q1, q2, q3, q4, q5⟩
    exact ⟨v', ρn, e0, fun tv htv => by cases htv; exact q1, q2, q3, q4, q5⟩
   ·cases he
  ·cases he
 ·cases he
end
def okG (P : Program) (X : Cx) : Ok := ⟨fun _ => True, GlX X, Mt P⟩
section
variable {P : Program} {F : Fr} {R : St -> Prop} {k : List It}
def AtGo (P : Program) (F : Fr) (R : St -> Prop) (k : List It) (all l2 : List Oper) (o : Oper) (cl : Call) (c : CFD) (inps : List Inp) (σ : St) : Prop :=
 ∃ vs o1 e, qbm σ.t none cl.args.toList = some (vs, o1) /\ qa5 (okG P F.X) o1 vs σ.m (yg o.dst) none c (mpM c.pre σ.m (mpSs c.args vs [])) = some e /\ All e.ob /\ disj e.al σ.u = true /\ qdt F.n o.dst e.v = true ∧
  AS P F (kont P F R k) all l2 inps (putT o.dst e.v σ.t) (app e.wr σ.m) (app e.al σ.u)
theorem q5c (hn : ¬ Co.Lone) {id : Nat} {all l1 l2 : List Oper} {o : Oper} {cl : Call} {c : CFD} {inps1 inps2 : List Inp} {t : TL} {m : ML} {u : List Nat} (hall : all = l1 ++ o :: l2) (ho : o.op = .call cl) (hcal : cl.callee = .value (.func c.f)) (hgd : o.guard = none) (hH : ∀ b, ¬ F.X.H b) (hP : ∀ b, ¬ F.X.Pt b)
  (hf : FnGo P c) (hcall : ∀ args w, (callFunc c.f args).run P w = .ok (.enter c.f args) w) (hev : ∀ args w, (callFunc c.f args).events P w #[] = #[])
  (h : AS P F (kont P F (fun _ => False) [.until (AtGo P F R k all l2 o cl c inps2)]) all l1 inps1 t m u) : AG P F R (.code (.region id ⟨all⟩ false) :: k) ⟨t, m, u⟩ := by
 intro a w hS Post b cs l hk hI h0 h3
 obtain ⟨l', rfl, hI'⟩ := qgs hI
 let M0 := Co.sys0 hn P Post F.X.H F.X.Pt
 refine M0.go rfl (fun _ => stepG_region) ?_
 have hlen : all.length = l1.length + (l2.length + 1) := by rw [hall]; simp
 have hrange : List.range (Array.mk all).size = List.range' 0 l1.length ++ (l1.length :: List.range' (l1.length + 1) l2.length) := by
  rw [List.size_toArray, hlen, List.range_eq_range', ← List.range'_append_1, List.range'_succ, Nat.zero_add]
 rw [hrange]
 have hpre : ∀ j, j < l1.length -> l1[j]? = (Array.mk all)[0 + j]? := fun j hj => by rw [Nat.zero_add, List.getElem?_toArray, hall, List.getElem?_append_left hj]
 have hat : (Array.mk all)[l1.length]? = some o := by rw [List.getElem?_toArray, hall]; simp
 have hsuf : ∀ j, l2[j]? = (Array.mk all)[l1.length + 1 + j]? := fun j => by
  rw [List.getElem?_toArray, hall, List.getElem?_append_right (by omega), show l1.length + 1 + j - l1.length = j + 1 by omega, List.getElem?_cons_succ]
 refine Co.qli _ l1 0 hpre a w (h a w hS) M0 b l' cs hk fun a1 w1 q => ?_
 obtain ⟨σ1, ⟨vs, o1, e, e1, e2, e3, e4, e5, hAS⟩, ρ, hE, hA, hM, hU, hW⟩ := q
 have hgt : GT none := fun _ h => by cases h
 have hfr : ∀ r ∈ e.al, ρ r = none := by
  intro r hr
  cases hq : ρ r with
  | none => rfl
  | some y => exact absurd (hU r y hq) (qax e4 r hr)
 have hw : Region.wanted o (yielded (Array.mk all) a1.tmps) = true := by simp [Region.wanted, hgd]
 let xs := cl.args.toList.map a1.eval
 have hrun : ∀ w, (execOp a1.eval o).run P w = .ok (.enter c.f xs.toArray) w /\ (execOp a1.eval o).events P w #[] = #[] := by
  intro w
  have hev0 : a1.eval (.func c.f) = .func (.func c.f) #[] #[] := rfl
  have harr : xs.toArray = cl.args.map a1.eval := by rw [← Array.toList_inj]; simp [xs]
  have e : execOp a1.eval o = callFunc c.f (cl.args.map a1.eval) := by simp [execOp, ho, resolve, hcal, hev0, Deferred.ofValue, invoke]
  rw [e, harr]
  exact ⟨hcall _ w, hev _ w⟩
 have next : ∀ (M : Co.Sys P F.X.H F.X.Pt), (∀ a w, (∃ σ, R σ /\ qba F σ a w) -> ∀ todo, M.Run (Go.Conc.G { b.at a todo with mode := .returning } cs) w) -> ∀ v w' ρ', (∀ tv, e.v = some tv -> TRel F.X ρ' tv v) -> Ext ρ ρ' -> (∀ r y, ρ' r = some y -> ρ r = some y ∨ r ∈ e.al) -> MRel F.X ρ' w' (app e.wr σ1.m) -> WRel F.X w' →
   M.Run (Go.Conc.G (b.at (a1.put o.dst v) (.inRegion (Array.mk all) (List.range' (l1.length + 1) l2.length) :: l')) cs) w' := by
  intro M hret v w' ρ' k1 k2 k3 k4 k5
  refine Co.qoj (ops := Array.mk all) l2 (l1.length + 1) hsuf _ _ (hAS _ _ ⟨ρ', fun q y hq => k2 q y (hE q y hq), (hA.ext k2).put' e5 k1, k4, fun r y hr => ?_, k5⟩) M b l' cs hk (qbi M hk hret k l' hI')
  show r ∈ app e.al σ1.u
  rw [qan, List.mem_append]
  rcases k3 r y hr with h | h
  ·exact .inr (hU r y h)
  ·exact .inl h
 have hfin : ∀ v, (b.at a1 (.inRegion (Array.mk all) (l1.length :: List.range' (l1.length + 1) l2.length) :: l')).finish v = b.at (a1.put o.dst v) (.inRegion (Array.mk all) (List.range' (l1.length + 1) l2.length) :: l') := fun v => by rw [Go.Frame.finish_at, hat]; rfl
 refine M0.step rfl fun w2 h2 => ?_
 obtain rfl : w1 = w2 := h2
 refine ⟨_, w1, _, stepG_enter hat hw hk (hrun w1).1, fun _ => ⟨fun _ _ => rfl, fun ev hev => ?_⟩, ?_⟩
 ·have := Go.Conc.mem_listed hev
  rw [(hrun w1).2] at this
  simp at this
 refine q8x (T := fun R' => (∀ fr w', fr.fn = c.f -> Co.LeavesK P Eq fr w' R' -> Co.Run0 P Post (Go.Conc.G fr (b.at a1 (.inRegion (Array.mk all) (l1.length :: List.range' (l1.length + 1) l2.length) :: l') :: cs)) w') -> (∀ ch fr w', fr.fn = c.f -> Co.LeavesK P Co.RlD fr w' R' -> Co.Run3 P Post ch (Go.Conc.G fr (b.at a1 (.inRegion (Array.mk all) (l1.length :: List.range' (l1.length + 1) l2.length) :: l') :: cs)) w') -> Co.Run0 P Post (Go.Conc.G (Frame.enter P c.f xs.toArray .normal) (b.at a1 (.inRegion (Array.mk all) (l1.length :: List.range' (l1.length + 1) l2.length) :: l') :: cs)) w1) ?_ (ok := okG P F.X) (fun x h => h) (xs := xs) (fun ho1 => qcv hgt hA e1 ho1) e2 e3 hfr hM hW ?_ ?_ ?_
 ·intro R1 R2 h12 hT g0 g3
  have up : ∀ {Rl : World -> World -> Prop} {fr : Frame} {w' : World}, Co.LeavesK P Rl fr w' R1 -> Co.LeavesK P Rl fr w' R2 := fun h => ⟨h.mode, h.defers, h.kind, let ⟨fn, q1, q2⟩ := h.fn; ⟨fn, q1, fun w₁ hw => let ⟨v, q3, q4⟩ := q2 w₁ hw; ⟨v, q3, h12 _ _ q4⟩⟩⟩
  exact hT (fun fr w' q1 q2 => g0 fr w' q1 (up q2)) (fun ch fr w' q1 q2 => g3 ch fr w' q1 (up q2))
 ·intro Xc ρc k1 k2 k3 k0 k4 k5 k6 k7 g0 g3
  have := hf Xc ρc xs k0 (by rw [k2]; exact hH) (by rw [k3]; exact hP) k4 k5 k6 k7 Post _ g0 g3
  rwa [k1] at this
 ·intro fr w' hfn hl
  refine M0.step rfl fun w2 h2 => ?_
  obtain rfl : w' = w2 := h2
  obtain ⟨v, es, q1, q2, v', ρ', q3, q4, q5, q6, q7, q8⟩ := Co.qfv (Pt := F.X.Pt) (c := b.at a1 (.inRegion (Array.mk all) (l1.length :: List.range' (l1.length + 1) l2.length) :: l')) (cs := cs) hl rfl true
  cases q3
  rw [hfin] at q1
  exact ⟨_, w', es, q1, fun _ => ⟨fun _ _ => rfl, q2⟩, next M0 h0 v w' ρ' q4 q5 q6 q7 q8⟩
 ·intro ch fr w' hfn hl
  let M3 := Co.sys3 hn P Post ch F.X.H F.X.Pt
  refine M3.step rfl fun w2 h2 => ?_
  obtain ⟨v, es, q1, q2, v', ρ', q3, q4, q5, q6, q7, q8⟩ := Co.qfv (Pt := F.X.Pt) (c := b.at a1 (.inRegion (Array.mk all) (l1.length :: List.range' (l1.length + 1) l2.length) :: l')) (cs := cs) hl h2 true
  cases q3
  rw [hfin] at q1
  exact ⟨_, w2, es, q1, fun _ => ⟨fun _ _ => rfl, q2⟩, next M3 (h3 ch) v w2 ρ' q4 q5 q6 q7 q8⟩
end
end Eng
end Go.Proofs.YtfiofmaknndpcaaGreatDoor
namespace Go.Proofs.YtfiofmaknndpcaaGreatDoor
open Go.RowKit
namespace Eng
open Tr
open Go.Conc (stepG_seq stepG_block stepG_end stepG_inBlock stepG_region stepG_enter stepG_loop stepG_inLoop stepG_comm)
section
variable {P : Program} {tt : TT}
theorem qia (hn : ¬ Co.Lone) (htt : TTok P tt) {c : CFD} {fn : Func} {code : Code} {n : Nat} {base : List Nat} {rs : List ResultVar} {t0 : TL} {m0 : ML} (hf : P.funcs[c.f]? = some fn) (hb : fn.body = some code) (hn0 : fn.ntmps = n) (hrs : fn.results = ⟨rs⟩) (hbase : keys c.pre = base) (hm0 : c.pre = m0) (ht0 : argT 0 c.args = t0) (hnb : Nat.ble (lenL c.args) n = true)
  (h : ∀ (X : Cx) (ρ0 : Env) (hb : ∀ q y, ρ0 q = some y -> q ∈ base), qc8 (GlX X) c.gl -> (∀ b, ¬ X.H b) -> (∀ b, ¬ X.Pt b) -> AG P ⟨X, ρ0, base, n, hb⟩ (Fin tt rs c) [.code code] ⟨t0, m0, base⟩) : FnGo P c := by
 subst hn0 hbase hm0 ht0
 rw [qfy] at hnb
 obtain rfl : rs = fn.results.toList := by rw [hrs]
 intro X ρ xs hds hH hP hgl hM hk hx Post cs g0 g3
 have hlen := hx.len
 have hn' := Nat.le_of_ble_eq_true hnb
 let F : Fr := ⟨X, ρ, keys c.pre, fn.ntmps, hk⟩
 have hS : qba F ⟨argT 0 c.args, c.pre, keys c.pre⟩ { tmps := xs.toArray ++ Array.replicate (fn.ntmps - xs.toArray.size) undef, defers := [] } X.w0 := by
  refine ⟨ρ, Ext.refl ρ, ⟨?_, hds.symm, fun s v hs => ?_⟩, hM, hk, ⟨rfl, rfl, rfl, Nat.le_refl _, fun _ _ _ => rfl⟩⟩
  ·show (xs.toArray ++ Array.replicate (fn.ntmps - xs.toArray.size) undef).size = fn.ntmps
   simp; omega
  ·obtain ⟨x, _, h2, h3⟩ := qjb hx hs
   refine ⟨x, ?_, h3⟩
   rw [Nat.sub_zero] at h2
   have hsl : s < xs.length := by
    rcases Nat.lt_or_ge s xs.length with h | h
    ·exact h
    ·rw [List.getElem?_eq_none h] at h2; cases h2
   show (xs.toArray ++ Array.replicate (fn.ntmps - xs.toArray.size) undef)[s]? = some x
   rw [Array.getElem?_append_left (by simpa using hsl)]
   simpa using h2
 have fin : ∀ (a : Act) (w : World), (∃ σ, Fin tt fn.results.toList c σ /\ qba F σ a w) -> a.defers = [] /\ ∀ w₁, Co.Aside X.H w w₁ -> ∃ v, (results fn a.tmps).run P w₁ = .ok v w₁ /\ qjw X ρ c (.returned v) w₁ := by
  rintro a w0 ⟨σ, ⟨π, vs, ob, k1, k2, k3, k4, k5, k6, k7, k8⟩, ρ1, hE, hA, hM0, hU, hW0⟩
  refine ⟨hA.defers.trans hds, fun w ha => ?_⟩
  have hM1 := hM0.aside ha
  have hW := hW0.aside ha
  obtain ⟨x, g1, g2⟩ := qiz htt hA hM1 k1 k2
  rw [k3] at g1
  refine ⟨x, g2, x, under π (app (keys c.pre) c.nm) ρ1, rfl, unT g1 k5, ?_, fun q y hq => ?_, unM hM1 k4 k6 k7, hW⟩
  ·intro q y hq
   have h1 := hk q y hq
   show (if q ∈ app (keys c.pre) c.nm then ρ1 (rn π 0 q) else none) = some y
   rw [if_pos (by rw [qan, List.mem_append]; exact .inl h1), qjx k8 q h1]
   exact hE q y hq
  ·have hq' : (if q ∈ app (keys c.pre) c.nm then ρ1 (rn π 0 q) else none) = some y := hq
   by_cases e : q ∈ app (keys c.pre) c.nm
   ·rw [qan, List.mem_append] at e; exact e
   ·rw [if_neg e] at hq'; cases hq'
 rw [Go.Conc.enter_at xs.toArray hf hb]
 refine h X ρ hk hgl hH hP _ _ hS Post (Go.Conc.base c.f) cs [.code code] (by simp [Go.Conc.base]) ⟨rfl, trivial⟩ (fun a w q todo => ?_) (fun ch a w q todo => ?_)
 ·obtain ⟨q1, q2⟩ := fin a w q
  exact g0 _ _ rfl ⟨rfl, q1, rfl, fn, hf, fun w₁ hw => q2 w₁ (by subst hw; exact Co.Aside.refl _ _)⟩
 ·obtain ⟨q1, q2⟩ := fin a w q
  exact g3 ch _ _ rfl ⟨rfl, q1, rfl, fn, hf, fun w₁ hw => q2 w₁ (by obtain ⟨d, rfl⟩ := hw; exact ⟨rfl, rfl, rfl, rfl, fun _ _ => rfl⟩)⟩
end
section
variable {X X' : Cx} {ρ : Env}
theorem ctxC (hro : ∀ d vs, RdO X.w0 X.F d vs -> RdO X'.w0 X'.F d vs) {c : CV} {x : Value} (h : CRel X ρ c x) : CRel X' ρ c x := by
 cases c with
 | lit v => exact h
 | ro T k n d => exact hro _ _ h
 | hd r => exact h
 | box r j => exact h
 | el r k i j => exact h
 | ifro T d => obtain ⟨vs, h1, h3, h4⟩ := h; exact ⟨vs, h1, hro _ _ h3, h4⟩
 | fn f cs => exact h
 | part r k a n => exact h
 | roel T k n d i j => obtain ⟨g, o, cap, h1, h3⟩ := h; exact ⟨g, o, cap, hro _ _ h1, h3⟩
theorem q1s (hro : ∀ d vs, RdO X.w0 X.F d vs -> RdO X'.w0 X'.F d vs) : ∀ {l : List CV} {vs : List Value}, qaj X ρ l vs -> qaj X' ρ l vs
 | [], [], _ => trivial
 | _ :: _, _ :: _, h => ⟨ctxC hro h.1, q1s hro h.2⟩
 | [], _ :: _, h => h.elim
 | _ :: _, [], h => h.elim
theorem ctxS (hro : ∀ d vs, RdO X.w0 X.F d vs -> RdO X'.w0 X'.F d vs) : ∀ {v : SV} {x : Value}, SRel X ρ v x -> SRel X' ρ v x
 | .one _, _, h => ctxC hro h
 | .agg _, _, ⟨vs, h1, h2⟩ => ⟨vs, h1, q1s hro h2⟩
theorem q7b (hro : ∀ d vs, RdO X.w0 X.F d vs -> RdO X'.w0 X'.F d vs) : ∀ {l : List SV} {vs : List Value}, qa9 X ρ l vs -> qa9 X' ρ l vs
 | [], [], _ => trivial
 | _ :: _, _ :: _, h => ⟨ctxS hro h.1, q7b hro h.2⟩
 | [], _ :: _, h => h.elim
 | _ :: _, [], h => h.elim
theorem ctxT (hro : ∀ d vs, RdO X.w0 X.F d vs -> RdO X'.w0 X'.F d vs) : ∀ {v : TV} {x : Value}, TRel X ρ v x -> TRel X' ρ v x
 | .sv _, _, h => ctxS hro h
 | .tup _, _, ⟨vs, h1, h2⟩ => ⟨vs, h1, q7b hro h2⟩
 | .gd _ _, _, h => ⟨fun hb => ctxS hro (h.1 hb), h.2⟩
theorem ctxB (hro : ∀ d vs, RdO X.w0 X.F d vs -> RdO X'.w0 X'.F d vs) {w : World} {r : Nat} : ∀ {b : Blk} {bs : List Nat}, BRel X ρ w r b bs -> BRel X' ρ w r b bs
 | .box T vs, bs, ⟨g, cur, h1, h2, h3, h4⟩ => ⟨g, cur, h1, h2, h3, q1s hro h4⟩
 | .row T k l, bs, h => h
 | .pin q x, bs, h => h
 | .rro T k l, bs, ⟨g, cur, h1, h2, h3, h4, h5, h6, h7⟩ => ⟨g, cur, h1, h2, h3, h4, h5, h6, hro _ _ h7⟩
structure Swap (X X' : Cx) (w w' : World) : Prop where
 ro : ∀ d vs, RdO X.w0 X.F d vs -> RdO X'.w0 X'.F d vs
 own : ∀ x, x < w.heap.size -> ¬ X.G x -> w'.heap[x]? = w.heap[x]?
 new : ∀ x, x < w.heap.size -> ¬ X.G x -> ¬ X'.G x
 W : WRel X w -> WRel X' w'
 ds : X'.ds = X.ds
theorem qwb {F : Fr} {X' : Cx} {w w' : World} {a : Act} {σ : St} (h : Swap F.X X' w w') (hS : qba F σ a w) : qba ⟨X', F.ρ0, F.base, F.n, F.hb⟩ σ a w' := by
 obtain ⟨ρ, hE, hA, ⟨B, hB⟩, hU, hW⟩ := hS
 refine ⟨ρ, hE, ⟨hA.size, hA.defers.trans h.ds.symm, fun s v hs => let ⟨x, h1, h2⟩ := hA.at_ s v hs; ⟨x, h1, ctxT h.ro h2⟩⟩, ⟨B, fun r b hr => ?_, hB.nd, fun r b hr x hx => ?_, hB.dj⟩, hU, h.W hW⟩
 ·exact ctxB h.ro ((hB.blk r b hr).same (Ext.refl ρ) fun x hx => h.own x ((hB.blk r b hr).lt x hx) (hB.nf r b hr x hx))
 ·exact h.new x ((hB.blk r b hr).lt x hx) (hB.nf r b hr x hx)
def q1t (X : Cx) (w : World) (Po : Nat -> Prop) (hsz : X.w0.heap.size <= w.heap.size) (hPo : ∀ b, Po b -> X.F b) (o : Obj) : Cx where
 w0 := w.alloc o
 F := X.F
 G := fun b => X.G b ∨ b = w.heap.size
 hF := fun b hb => .inl (X.hF b hb)
 hG := fun b hb => by
  show b < (w.heap.push o).size
  rw [Array.size_push]
  rcases hb with hb | hb
  ·have := X.hG b hb; omega
  ·omega
 H := fun b => b = w.heap.size
 Pt := fun b => b = w.heap.size ∨ Po b
 hHP := fun b hb => .inl hb
 hPG := fun b hb => hb.elim .inr fun hb => .inl (X.hF b (hPo b hb))
 hHF := fun b hb e => by have := X.hG b (X.hF b hb); omega
 ds := X.ds
theorem qx2 {X : Cx} {w : World} {Po : Nat -> Prop} (hsz : X.w0.heap.size <= w.heap.size) (hPo : ∀ b, Po b -> X.F b) (o : Obj) (hW : WRel X w) : Swap X (q1t X w Po hsz hPo o) w (w.alloc o) := by
 have hold : ∀ x, x < w.heap.size -> (w.alloc o).heap[x]? = w.heap[x]? := fun x hx => by show (w.heap.push o)[x]? = _; rw [Array.getElem?_push]; simp [Nat.ne_of_lt hx]
 refine ⟨fun d vs h => qcm (fun b hb => ?_) (fun b hb => hb) d h, fun x hx _ => hold x hx, fun x hx hg => ?_, fun _ => ⟨rfl, rfl, rfl, Nat.le_refl _, fun _ _ _ => rfl⟩, rfl⟩
 ·exact (hold b (hW.lt b (X.hF b hb))).trans (hW.frz b (X.hF b hb) (X.hHF b hb))
 ·rintro (h | h)
  ·exact hg h
  ·omega
theorem qx3 {X : Cx} {w w1 : World} {Po : Nat -> Prop} (hsz : X.w0.heap.size <= w.heap.size) (hPo : ∀ b, Po b -> X.F b) (o : Obj) (hW : WRel X w) : Swap (q1t X w Po hsz hPo o) X w1 w1 := by
 have hold : ∀ x, x < w.heap.size -> (w.alloc o).heap[x]? = w.heap[x]? := fun x hx => by show (w.heap.push o)[x]? = _; rw [Array.getElem?_push]; simp [Nat.ne_of_lt hx]
 refine ⟨fun d vs h => qcm (fun b hb => ?_) (fun b hb => hb) d h, fun x hx _ => rfl, fun x hx hg h => hg (.inl h), fun h => ⟨h.os.trans hW.os, h.tape.trans hW.tape, h.output.trans hW.output, ?_, fun b hb hh => ?_⟩, rfl⟩
 ·exact ((hold b (hW.lt b (X.hF b hb))).trans (hW.frz b (X.hF b hb) (X.hHF b hb))).symm
 ·have := h.size
  change (w.heap.push o).size <= _ at this
  rw [Array.size_push] at this
  omega
 ·have hlt := hW.lt b hb
  exact (h.frz b (.inl hb) (fun e : b = w.heap.size => by omega)).trans ((hold b hlt).trans (hW.frz b hb hh))
end
section
variable {P : Program} {F F' : Fr} {R : St -> Prop} {k : List It} {σ : St} {c : Nat} {S : World -> Prop} {vs : List Value}
def AO (P : Program) (F F' : Fr) (c : Nat) (S : World -> Prop) (vs : List Value) (R : St -> Prop) (k : List It) (σ : St) : Prop :=
 ∀ a w, qba F' σ a w -> ∀ (Post : Value -> World -> Prop) (b : Frame) (cs : List Frame) (l : List Item), b.kind ≠ .early -> Its k l →
  (∀ ch a w, (∃ σ, R σ /\ qba F σ a w) -> ∀ todo, Co.Run3 P Post ch (Go.Conc.G { b.at a todo with mode := .returning } cs) w) -> Co.Run1 P Post c F'.X.Pt S vs (Go.Conc.G (b.at a l) cs) w
theorem sysO (hn : ¬ Co.Lone) (P : Program) (Post : Value -> World -> Prop) (hH : F'.X.H = fun k => k = c) (hS : Co.Held c F'.X.Pt S) (vs : List Value) : ∃ M : Co.Sys P F'.X.H F'.X.Pt, M.Run = Co.Run1 P Post c F'.X.Pt S vs := by
 rw [hH]
 exact ⟨Co.sys1 hn P Post hS vs, rfl⟩
theorem q1u (hn : ¬ Co.Lone) (hH : F'.X.H = fun k => k = c) (hS : Co.Held c F'.X.Pt S) {id : Nat} {x : Code} (h : AO P F F' c S vs R (.code x :: .blk id :: k) σ) : AO P F F' c S vs R (.code (.block id x) :: k) σ := by
 intro a w hs Post b cs l hk hI h3
 obtain ⟨l', rfl, hI'⟩ := qgs hI
 obtain ⟨M, hM⟩ := sysO hn P Post hH hS vs
 rw [← hM]
 refine M.go rfl (fun _ => stepG_block) ?_
 rw [hM]
 exact h a w hs Post b cs (.code x :: .inBlock id :: l') hk ⟨rfl, rfl, hI'⟩ h3
theorem q5d (hn : ¬ Co.Lone) (hH : F'.X.H = fun k => k = c) (hS : Co.Held c F'.X.Pt S) (hback : ∀ σ a w, qba F' σ a w -> qba F σ a w) (hFH : ∀ b, ¬ F.X.H b) {id ds sl : Nat} {o : Oper} {l2 : List Oper} {y : Code} {z : Value} {inps inps' : List Inp}
  (hd : o.dst = some ds) (hgd : o.guard = none) (hrv : ∀ (ρ : Operand -> Value) (w : World), (execOp ρ o).run P w = .ok (.comm #[{ chan := ρ (.tmp sl), send := none, zero := z }] true (.recv true)) w /\ (execOp ρ o).events P w #[] = #[]) (hds : Nat.ble (ds + 1) F'.n = true) (hFn : F.n = F'.n) (hz : z.oneCell' = true)
  (I : List Value -> St -> Prop) (hv : ∀ v ∈ vs, v.oneCell' = true) (h0 : I vs σ)
  (hslot : ∀ vs σ, I vs σ -> lk σ.t sl = some (.sv (.one (.lit (.chan (some c))))))
  (hcons : ∀ v vs' σ, v.oneCell' = true -> I (v :: vs') σ -> AS P F' (kont P F' (fun _ => False) [.code y, .until (fun σ' => ∃ σ1 f, I vs' σ1 /\ Wk F' σ1 σ' f)]) (o :: l2) l2 inps (putT (some ds) (some (.tup [.one (.lit v), .one (.lit (.bool true))])) σ.t) σ.m σ.u)
  (hnil : ∀ σ, I [] σ -> AS P F (kont P F R (.code y :: .until (fun _ => False) :: k)) (o :: l2) l2 inps' (putT (some ds) (some (.tup [.one (.lit z), .one (.lit (.bool false))])) σ.t) σ.m σ.u) :
  AO P F F' c S vs R (.code (.loop (.seq (.region id ⟨o :: l2⟩ false) y)) :: k) σ := by
 intro a w hs Post b cs l hk hI h3
 obtain ⟨l', rfl, hI'⟩ := qgs hI
 have hr : List.range (Array.mk (o :: l2)).size = 0 :: List.range' 1 l2.length := by simp [List.range_eq_range', List.range'_succ]
 have hsuf : ∀ j, l2[j]? = (Array.mk (o :: l2))[1 + j]? := fun j => by rw [List.getElem?_toArray, Nat.add_comm, List.getElem?_cons_succ]
 have hat : (Array.mk (o :: l2))[0]? = some o := by simp
 have atr : ∀ {σ : St} {a : Act} {w : World} (l' : List Item), lk σ.t sl = some (.sv (.one (.lit (.chan (some c))))) -> qba F' σ a w -> Co.AtR P c F'.X.Pt z (Go.Conc.G (b.at a (.inRegion ⟨o :: l2⟩ (0 :: List.range' 1 l2.length) :: l')) cs) w := by
  intro σ a w l' hsl ⟨ρ, hE, hA, hM, hU, hW⟩
  obtain ⟨x, hx1, hx2⟩ := hA.at_ _ _ hsl
  have he : a.eval (.tmp sl) = .chan (some c) := by
   show a.tmps.getD sl undef = _
   rw [Array.getD_eq_getD_getElem?, hx1]
   exact hx2.1
  have hw : Region.wanted o (yielded (Array.mk (o :: l2)) a.tmps) = true := by simp [Region.wanted, hgd]
  refine ⟨rfl, fun w₁ _ => ⟨_, stepG_comm (o := o) hat hw hk (by rw [(hrv a.eval w₁).1, he]; rfl), fun e hev => ?_⟩⟩
  have := Go.Conc.mem_listed hev
  rw [(hrv a.eval w₁).2] at this
  simp at this
 have put : ∀ {G : Fr} {σ : St} {a : Act} {w : World} (v : Value) (t : Bool), v.oneCell' = true -> Nat.ble (ds + 1) G.n = true -> qba G σ a w -> qba G ⟨putT (some ds) (some (.tup [.one (.lit v), .one (.lit (.bool t))])) σ.t, σ.m, σ.u⟩ (a.put (some ds) (.tuple #[v, .bool t])) w := by
  intro G σ a w v t hv hG ⟨ρ, hE, hA, hM, hU, hW⟩
  refine ⟨ρ, hE, hA.put' (d := some ds) (v := some (.tup [.one (.lit v), .one (.lit (.bool t))])) hG (fun tv htv => ?_), hM, hU, hW⟩
  obtain rfl := Option.some.inj htv
  exact ⟨#[v, .bool t], rfl, ⟨rfl, hv⟩, ⟨rfl, rfl⟩, trivial⟩
 have key : ∀ vs, (∀ v ∈ vs, v.oneCell' = true) -> ∀ σ, I vs σ -> ∀ a w, qba F' σ a w -> Co.Run1 P Post c F'.X.Pt S vs (Go.Conc.G (b.at a (.code (.seq (.region id ⟨o :: l2⟩ false) y) :: .inLoop (.seq (.region id ⟨o :: l2⟩ false) y) :: l')) cs) w := by
  intro vs
  induction vs with
  | nil =>
   intro hv σ hσ a w hs
   obtain ⟨M, hM⟩ := sysO hn P Post hH hS []
   rw [← hM]
   refine M.go rfl (fun _ => stepG_seq) (M.go rfl (fun _ => stepG_region) ?_)
   rw [hM, hr]
   refine Co.q7a hS (atr _ (hslot _ _ hσ) hs) (vs := []) (fun w₁ h₁ => ?_)
   rw [Go.Conc.core_G, Go.Conc.served_G, hat]
   show Co.Run3 P Post c (Go.Conc.G (b.at (a.put o.dst _) _) cs) w₁
   rw [hd]
   have hs1 : qba F' σ a w₁ := by
    obtain ⟨ρ, hE, hA, hM, hU, hW⟩ := hs
    have h₁' : Co.Aside F'.X.H w w₁ := by rw [hH]; exact h₁
    exact ⟨ρ, hE, hA, hM.aside h₁', hU, hW.aside h₁'⟩
   exact Co.qoj (ops := Array.mk (o :: l2)) l2 1 hsuf _ _ (hnil σ hσ _ _ (put z false hz (by rw [hFn]; exact hds) (hback _ _ _ hs1))) (Co.sys3 hn P Post c F.X.H F.X.Pt) b _ cs hk
    (qbi (Co.sys3 hn P Post c F.X.H F.X.Pt) hk (h3 c) (.code y :: .until (fun _ => False) :: k) (.code y :: .inLoop (.seq (.region id ⟨o :: l2⟩ false) y) :: l') ⟨rfl, fun _ h => h, hI'⟩)
  | cons v vs' ih =>
   intro hv σ hσ a w hs
   obtain ⟨M, hM⟩ := sysO hn P Post hH hS (v :: vs')
   obtain ⟨M', hM'⟩ := sysO hn P Post hH hS vs'
   have hv1 := hv v (by simp)
   rw [← hM]
   refine M.go rfl (fun _ => stepG_seq) (M.go rfl (fun _ => stepG_region) ?_)
   rw [hM, hr]
   refine Co.q7a hS (atr _ (hslot _ _ hσ) hs) (vs := v :: vs') ?_
   show Co.Run1 P Post c F'.X.Pt S vs' (Go.Conc.served (Go.Conc.core (Go.Conc.G _ cs)) (.tuple #[v, .bool true])) w
   rw [Go.Conc.core_G, Go.Conc.served_G, hat]
   show Co.Run1 P Post c F'.X.Pt S vs' (Go.Conc.G (b.at (a.put o.dst _) _) cs) w
   rw [hd, ← hM']
   refine Co.qoj (ops := Array.mk (o :: l2)) l2 1 hsuf _ _ (hcons v vs' σ hv1 hσ _ _ (put v true hv1 hds hs)) M' b _ cs hk fun e a' w' q => ?_
   cases e with
   | normal =>
    refine q M' b _ cs hk fun e a' w' q => ?_
    cases e with
    | normal =>
     obtain ⟨σ', ⟨σ1, f, h1, h2⟩, h3⟩ := q
     refine M'.go rfl (fun _ => stepG_inLoop) ?_
     rw [hM']
     exact ih (fun v hv' => hv v (by simp [hv'])) σ1 h1 a' w' (h2.st h3)
    | ret => obtain ⟨_, h, _⟩ := q; exact h.elim
    | exit id => exact q.elim
    | goto l => exact q.elim
    | panic ch => exact q.elim
    | outgrown => exact q.elim
   | ret => obtain ⟨_, h, _⟩ := q; exact h.elim
   | exit id => exact q.elim
   | goto l => exact q.elim
   | panic ch => exact q.elim
   | outgrown => exact q.elim
 obtain ⟨M, hM⟩ := sysO hn P Post hH hS vs
 rw [← hM]
 refine M.go rfl (fun _ => stepG_loop) ?_
 rw [hM]
 exact key vs hv σ h0 a w hs
end
end Eng
end Go.Proofs.YtfiofmaknndpcaaGreatDoor
namespace Go.Proofs.YtfiofmaknndpcaaGreatDoor
open Go.Conc
namespace Snd
def b4 : Frame := { (default : Frame) with fn := 84, kind := .deferred }
noncomputable def body4 : Code := Tryz.f84.body.getD .skip
noncomputable def L4 : Code := match body4 with | .seq (.seq _ (.block _ (.loop c))) _ => c | _ => .skip
noncomputable def R5 : Code := match body4 with | .seq _ r => r | _ => .skip
def Sh (a0 : Option Addr) (n : Nat) (zs : List Int) (w : World) : Prop := ∀ j ad, j < n -> a0 = some ad -> w.cell? (ad.add j) = some (.int .i64 (zs.getD j 0))
theorem Sh.el {a0 : Option Addr} {n : Nat} {zs : List Int} {w : World} (h : Sh a0 n zs w) : ∀ j ad, j < n -> a0 = some ad -> w.cell? (ad.add j) = some (.int .i64 (zs.getD j 0)) := h
theorem evB_cell {Pt : Nat -> Prop} (a : Addr) (s : Bool) (h : Pt a.block) : EvB (Co.Mine Pt) ⟨.cell a, false, s⟩ :=
 ⟨fun m => by simp, rfl, fun ⟨a', e, h'⟩ => by cases e; exact h' h⟩
theorem add_block (a : Addr) (n : Nat) : (a.add n).block = a.block := by unfold Addr.add; split <;> rfl
noncomputable def R4 : Code := match L4 with | .seq _ (.seq _ (.seq _ r)) => r | _ => .skip
noncomputable def ops3 : Array Oper := match L4 with | .seq _ (.seq _ (.seq (.block _ (.seq _ (.region _ ops _))) _)) => ops | _ => #[]
noncomputable def ops5 : Array Oper := match R5 with | .region _ ops _ => ops | _ => #[]
noncomputable def bot : Frame := { (default : Frame) with fn := Tryz.prog.funcs.size, defers := [], mode := .panicking [goexitEntry] }
def vals (zs : List Int) : Nat -> Nat -> List Value
 | _, 0 => []
 | k, m + 1 => .int .i64 (zs.getD k 0) :: vals zs (k + 1) m
theorem vals_eq (zs : List Int) : ∀ (m k : Nat), k + m = zs.length -> vals zs k m = (zs.drop k).map (.int .i64)
 | 0, k, h => by rw [List.drop_eq_nil_of_le (by omega)]; rfl
 | m + 1, k, h => by
  rw [vals, vals_eq zs m (k + 1) (by omega), List.drop_eq_getElem_cons (show k < zs.length by omega)]
  rw [List.map_cons]
  simp [List.getD_eq_getElem?_getD, List.getElem?_eq_getElem (show k < zs.length by omega)]
section
variable (c : Nat) (Pt : Nat -> Prop) (a0 : Option Addr) (n cap : Nat) (zs : List Int)
local notation "GB" => Goes Tryz.prog false (fun _ w₁ => Sh a0 n zs w₁) (DB (Co.Mine Pt))
noncomputable def head4 (k : Nat) (u2 u3 u4 u5 u9 u10 u11 u12 u13 u14 u15 : Value) : Goroutine :=
 G (b4.at ⟨#[.chan (some c), .slice a0 n cap, u2, u3, u4, u5, .slice a0 n cap, .int .i64 n, .int .i64 k, u9, u10, u11, u12, u13, u14, u15], []⟩ [.code L4, .inLoop L4, .inBlock 0, .code R5]) [bot]
noncomputable def atSend4 (k : Nat) (u2 u3 u4 u5 u9 u10 u11 u14 u15 : Value) (rest : List Nat) : Goroutine :=
 G (b4.at ⟨#[.chan (some c), .slice a0 n cap, u2, u3, u4, u5, .slice a0 n cap, .int .i64 n, .int .i64 k, u9, u10, u11, .chan (some c), .int .i64 (zs.getD k 0), u14, u15], []⟩ [.inRegion ops3 rest, .inBlock 1, .code R4, .inLoop L4, .inBlock 0, .code R5]) [bot]
noncomputable def atClose4 (u2 u3 u4 u5 u9 u10 u11 u12 u13 u14 : Value) (rest : List Nat) : Goroutine :=
 G (b4.at ⟨#[.chan (some c), .slice a0 n cap, u2, u3, u4, u5, .slice a0 n cap, .int .i64 n, .int .i64 n, u9, u10, u11, u12, u13, u14, .chan (some c)], []⟩ [.inRegion ops5 rest]) [bot]
set_option maxRecDepth 100000 in
theorem seg_send (Stop : Goroutine -> World -> Prop) (n₀ k : Nat) (hk : k < n) (hnil : ∃ ad, a0 = some ad) (hb : ∀ ad, a0 = some ad -> Pt ad.block) (u2 u3 u4 u5 u9 u10 u11 u12 u13 u14 u15 : Value) (w : World)
  (next : ∀ (u2 u3 u4 u5 u9 u10 u11 u14 u15 : Value) w', GB Stop n₀ (atSend4 c a0 n cap zs k u2 u3 u4 u5 u9 u10 u11 u14 u15 [2]) w') : GB Stop (n₀ + 18) (head4 c a0 n cap k u2 u3 u4 u5 u9 u10 u11 u12 u13 u14 u15) w := by
 obtain ⟨ad, rfl⟩ := hnil
 have hb := hb ad rfl
 simp only [head4, atSend4, ops3, R4, L4, R5, body4, Tryz.f84, Option.getD_some] at next ⊢
 repeat (first | b_ctl | b_op [Sh.el h₁] (evB_cell _ _ (by rw [add_block]; exact hb)))
 b_cond true
 repeat (first | b_ctl | b_op [Sh.el h₁] (evB_cell _ _ (by rw [add_block]; exact hb)))
 exact next ..
set_option maxRecDepth 100000 in
theorem seg_next (Stop : Goroutine -> World -> Prop) (n₀ k : Nat) (hk : k < n) (hn : n <= 9223372036854775807) (u2 u3 u4 u5 u9 u10 u11 u14 u15 : Value) (w : World)
  (next : ∀ (u2 u3 u4 u5 u9 u10 u11 u12 u13 u14 u15 : Value) w', GB Stop n₀ (head4 c a0 n cap (k + 1) u2 u3 u4 u5 u9 u10 u11 u12 u13 u14 u15) w') : GB Stop (n₀ + 7) (atSend4 c a0 n cap zs k u2 u3 u4 u5 u9 u10 u11 u14 u15 []) w := by
 have hwr : IntKind.i64.wrap ((k : Int) + 1) = ((k + 1 : Nat) : Int) := by rw [IntKind.wrap_i64]; omega
 simp only [head4, atSend4, ops3, R4, L4, R5, body4, Tryz.f84, Option.getD_some] at next ⊢
 repeat (first | b_ctl | b_op [] (evB_cell _ _ (by assumption)))
 exact next ..
set_option maxRecDepth 100000 in
theorem seg_close (Stop : Goroutine -> World -> Prop) (n₀ : Nat) (u2 u3 u4 u5 u9 u10 u11 u12 u13 u14 u15 : Value) (w : World)
  (next : ∀ (u2 u3 u4 u5 u9 u10 u11 u12 u13 u14 : Value) w', GB Stop n₀ (atClose4 c a0 n cap u2 u3 u4 u5 u9 u10 u11 u12 u13 u14 [1]) w') : GB Stop (n₀ + 9) (head4 c a0 n cap n u2 u3 u4 u5 u9 u10 u11 u12 u13 u14 u15) w := by
 simp only [head4, atClose4, ops5, L4, R5, body4, Tryz.f84, Option.getD_some] at next ⊢
 repeat (first | b_ctl | b_op [] (evB_cell _ _ (by assumption)))
 b_cond false
 b_exit
 repeat (first | b_ctl | b_op [] (evB_cell _ _ (by assumption)))
 exact next ..
theorem atSend_stop (k : Nat) (vs : List Value) (u2 u3 u4 u5 u9 u10 u11 u14 u15 : Value)
  (next : Sends Tryz.prog c (Sh a0 n zs) (Co.Mine Pt) vs (atSend4 c a0 n cap zs k u2 u3 u4 u5 u9 u10 u11 u14 u15 [])) :
  AtSend Tryz.prog c (Sh a0 n zs) (Co.Mine Pt) (.int .i64 (zs.getD k 0)) (Sends Tryz.prog c (Sh a0 n zs) (Co.Mine Pt) vs) (atSend4 c a0 n cap zs k u2 u3 u4 u5 u9 u10 u11 u14 u15 [2]) := by
 unfold atSend4
 refine atSend_of (x := .tmp 12) (y := .tmp 13) rfl rfl (by decide) rfl rfl rfl ?_
 exact next
theorem quits (u2 u3 u4 u5 u9 u10 u11 u12 u13 u14 : Value) : QuitsIn Tryz.prog 4 (atClose4 c a0 n cap u2 u3 u4 u5 u9 u10 u11 u12 u13 u14 []) := by
 simp only [atClose4]
 refine .inr ⟨rfl, _, fun w => stepG_region_end, ?_⟩
 refine .inr ⟨rfl, _, fun w => stepG_end, ?_⟩
 refine .inr ⟨rfl, G bot [], fun w => ?_, ?_⟩
 ·simp [G, stepG, unwind, doReturn, results, Frame.at, b4, bot, Tryz.func84, Tryz.f84, seen, GStep.after, goexitEntry]
 refine .inr ⟨rfl, { G bot [] with status := .finished }, fun w => ?_, rfl⟩
 simp [G, stepG, unwind, bot, goexitEntry, Frame.catches]
 rfl
theorem atClose_stop (hc : ¬ Co.Mine Pt (.obj c)) (u2 u3 u4 u5 u9 u10 u11 u12 u13 u14 : Value) : AtClose Tryz.prog c (Sh a0 n zs) (Co.Mine Pt) (atClose4 c a0 n cap u2 u3 u4 u5 u9 u10 u11 u12 u13 u14 [1]) := by
 refine ⟨rfl, ?_, atClose4 c a0 n cap u2 u3 u4 u5 u9 u10 u11 u12 u13 u14 [], #[⟨.obj c, false, true⟩], 4, fun w s r tm _ hc => ?_, ?_, quits c a0 n cap ..⟩
 ·simp [mayWake, atClose4, ops5, R5, body4, Tryz.f84, G, Frame.at]
 ·simp only [atClose4, ops5, R5, body4, Tryz.f84, Option.getD_some]
  have hr := run_close_open (P := Tryz.prog) #[169] 0 hc
  have he := events_close_open (P := Tryz.prog) (es := #[]) #[169] 0 hc
  rw [stepG_value (v := .tuple #[]) (w' := w.shut c s r tm) rfl rfl (by decide) (by simp [go_sem, hr, World.shut])]
  have hl : ∀ a o, (execOp a.eval o).events Tryz.prog w #[] = #[⟨.obj c, false, true⟩, ⟨.obj c, true, true⟩] -> listed Tryz.prog b4.fn a o w = #[⟨.obj c, false, true⟩, ⟨.obj c, true, true⟩] := by
   intro a o h
   unfold listed
   rw [h]
   exact seen_eq (by simp [b4, Tryz.func84, Tryz.f84]) (by simp)
  rw [hl _ _ (by simp [go_sem, he])]
  rfl
 ·intro e he
  simp at he
  subst he
  exact ⟨fun m => by simp, rfl, hc⟩
theorem sends_from (hn : n <= 9223372036854775807) (hnil : 0 < n -> ∃ ad, a0 = some ad) (hb : ∀ ad, a0 = some ad -> 0 < n -> Pt ad.block) : ∀ (m k : Nat), k + m = n →
  ∃ n', ∀ (u2 u3 u4 u5 u9 u10 u11 u12 u13 u14 u15 : Value) (w : World), GB (StopB Tryz.prog c (Sh a0 n zs) (Co.Mine Pt) (vals zs k m)) n' (head4 c a0 n cap k u2 u3 u4 u5 u9 u10 u11 u12 u13 u14 u15) w := by
 intro m
 induction m with
 | zero =>
  intro k hk
  obtain rfl : k = n := by omega
  exact ⟨0 + 9, fun u2 u3 u4 u5 u9 u10 u11 u12 u13 u14 u15 w => seg_close c Pt a0 k cap zs _ 0 u2 u3 u4 u5 u9 u10 u11 u12 u13 u14 u15 w fun u2 u3 u4 u5 u9 u10 u11 u12 u13 u14 _ => Goes.stop fun _ _ => atClose_stop c Pt a0 k cap zs (fun ⟨_, e, _⟩ => by cases e) u2 u3 u4 u5 u9 u10 u11 u12 u13 u14⟩
 | succ m ih =>
  intro k hk
  obtain ⟨n₁, h₁⟩ := ih (k + 1) (by omega)
  refine ⟨0 + 18, fun u2 u3 u4 u5 u9 u10 u11 u12 u13 u14 u15 w => seg_send c Pt a0 n cap zs _ 0 k (by omega) (hnil (by omega)) (fun ad e => hb ad e (by omega)) u2 u3 u4 u5 u9 u10 u11 u12 u13 u14 u15 w fun u2 u3 u4 u5 u9 u10 u11 u14 u15 _ => Goes.stop fun _ _ => atSend_stop c Pt a0 n cap zs k _ u2 u3 u4 u5 u9 u10 u11 u14 u15 ?_⟩
  exact (sends_iff ..).2 ⟨n₁ + 7, seg_next c Pt a0 n cap zs _ n₁ k (by omega) hn u2 u3 u4 u5 u9 u10 u11 u14 u15 default h₁⟩
set_option maxRecDepth 100000 in
theorem seg_entry (Stop : Goroutine -> World -> Prop) (n₀ : Nat) (w : World)
  (next : ∀ (u2 u3 u4 u5 u9 u10 u11 u12 u13 u14 u15 : Value) w', GB Stop n₀ (head4 c a0 n cap 0 u2 u3 u4 u5 u9 u10 u11 u12 u13 u14 u15) w') :
  GB Stop (n₀ + 9) (G (b4.at ⟨#[.chan (some c), .slice a0 n cap, undef, undef, undef, undef, undef, undef, undef, undef, undef, undef, undef, undef, undef, undef], []⟩ [.code body4]) [bot]) w := by
 simp only [head4, L4, R5, body4, Tryz.f84, Option.getD_some] at next ⊢
 repeat (first | b_ctl | b_op [] (evB_cell _ _ (by assumption)))
 exact next ..
def call4 : Deferred := { target := .fn (.func 84) #[], args := #[.chan (some c), .slice a0 n cap] }
theorem born_step (w : World) : stepG Tryz.prog false (born Tryz.prog (call4 c a0 n cap)) w =
  .go (G (b4.at ⟨#[.chan (some c), .slice a0 n cap, undef, undef, undef, undef, undef, undef, undef, undef, undef, undef, undef, undef, undef, undef], []⟩ [.code body4]) [bot]) w #[] := by
 simp [born, call4, stepG, unwind, callDeferred, invoke, callFunc, Tryz.func84, Tryz.f84, seen, GStep.after, G, Frame.enter, Frame.at, b4, bot, body4]
theorem sends_all (hn : n <= 9223372036854775807) (hnil : 0 < n -> ∃ ad, a0 = some ad) (hb : ∀ ad, a0 = some ad -> 0 < n -> Pt ad.block) :
  Sends Tryz.prog c (Sh a0 n zs) (Co.Mine Pt) (vals zs 0 n) (born Tryz.prog (call4 c a0 n cap)) := by
 obtain ⟨n₁, h₁⟩ := sends_from c Pt a0 n cap zs hn hnil hb n 0 (by omega)
 refine (sends_iff ..).2 ⟨n₁ + 9 + 1, Goes.step rfl fun w₁ _ => ?_⟩
 rw [born_step]
 exact ⟨⟨rfl, by simp⟩, seg_entry c Pt a0 n cap zs _ n₁ w₁ h₁⟩
end
end Snd
end Go.Proofs.YtfiofmaknndpcaaGreatDoor
namespace Go.Proofs.YtfiofmaknndpcaaGreatDoor
open Go.Conc
namespace Co
section
variable {P : Program} {Post : Value -> World -> Prop}
theorem qd8 {g g' : Goroutine} {w w' : World} {es : Array Event} (hs : g.status = .running) (h : stepG P true g w = .go g' w' es) (he : ∀ e ∈ es, ∀ m, e.loc = .mark m -> Neutral m) (h' : Run0 P Post g' w') : Run0 P Post g w := by
 intro t hw h0
 refine qah ((stepT_solo hs).trans (runT_solo_go h)) (h' _ (hw.append (early0 he).1) fun op hop => ?_)
 rcases Array.mem_append.1 hop with h | h
 ·exact h0 op h
 ·exact (early0 he).2 op h
theorem q1v {b : Frame} {a : Act} {k : List Item} {cs : List Frame} {ops : Array Oper} {i : Nat} {rest : List Nat} {o : Oper} {w w' : World} (v : Value) (ho : ops[i]? = some o) (hw : Region.wanted o (yielded ops a.tmps) = true) (hk : b.kind ≠ .early)
  (hr : (execOp a.eval o).run P w = .ok (.value v) w') (he : (execOp a.eval o).events P w #[] = #[]) (h : Run0 P Post (G (b.at (a.put o.dst v) (.inRegion ops rest :: k)) cs) w') : Run0 P Post (G (b.at a (.inRegion ops (i :: rest) :: k)) cs) w :=
 qd8 rfl (stepG_value ho hw hk hr) (fun e hm => by have := mem_listed hm; rw [he] at this; simp at this) h
theorem qff {b : Frame} {a : Act} {k : List Item} {cs : List Frame} {ops : Array Oper} {i : Nat} {rest : List Nat} {o : Oper} {w w' : World} (v : Value) (a' : Act) (ho : ops[i]? = some o) (hw : Region.wanted o (yielded ops a.tmps) = true) (hk : b.kind ≠ .early)
  (hr : (execOp a.eval o).run P w = .ok (.value v) w') (he : (execOp a.eval o).events P w #[] = #[]) (ha : a.put o.dst v = a') (h : Run0 P Post (G (b.at a' (.inRegion ops rest :: k)) cs) w') : Run0 P Post (G (b.at a (.inRegion ops (i :: rest) :: k)) cs) w := by
 subst ha
 exact q1v v ho hw hk hr he h
theorem qpe {b : Frame} {a : Act} {a' : Act} {k : List Item} {cs : List Frame} {ops : Array Oper} {i : Nat} {rest : List Nat} {o : Oper} {w : World} (v : Value) (ho : ops[i]? = some o) (hw : Region.wanted o (yielded ops a.tmps) = true) (hk : b.kind ≠ .early)
  (hr : (execOp a.eval o).run P w = .ok (.value v) w) (he : (execOp a.eval o).events P w #[] = #[]) (ha : a.put o.dst v = a') : stepG P true (G (b.at a (.inRegion ops (i :: rest) :: k)) cs) w = .go (G (b.at a' (.inRegion ops rest :: k)) cs) w := by
 subst ha
 rw [stepG_value ho hw hk hr]; unfold listed; rw [he, seen_none]
end
end Co
namespace Snd
theorem turns_go (hn : ¬ Co.Lone) {Post : Value -> World -> Prop} {cs : List Frame} {a0 : Option Addr} {n cap : Nat} {zs : List Int} {w : World} {Po : Nat -> Prop} (hmax : n <= 9223372036854775807) (hSh : Sh a0 n zs w) (hnil : 0 < n -> ∃ ad, a0 = some ad) (hb : ∀ ad, a0 = some ad -> 0 < n -> Po ad.block /\ ad.block < w.heap.size)
  (h : ∀ fr, fr.fn = 47 -> Co.LeavesK Tryz.prog (Co.Aside (fun k => k = w.heap.size)) fr (w.alloc (.chan 0 #[] false 0 0 false)) (fun e _ => e = .returned (.chan (some w.heap.size))) →
   Co.Run1 Tryz.prog Post w.heap.size (fun b => b = w.heap.size ∨ Po b) (Sh a0 n zs) (vals zs 0 n) (G fr cs) (w.alloc (.chan 0 #[] false 0 0 false))) :
  Co.Run0 Tryz.prog Post (G (Frame.enter Tryz.prog 47 #[.slice a0 n cap] .normal) cs) w := by
 have hS : Co.Held w.heap.size (fun b => b = w.heap.size ∨ Po b) (Sh a0 n zs) := by
  refine ⟨.inl rfl, fun w1 w2 hk hs j ad hj e => ?_⟩
  have h1 := hb ad e (by omega)
  rw [World.cell?_of_block (w := w1) (by rw [add_block]; exact hk _ (.inr h1.1) (by omega))]
  exact hs j ad hj e
 have hent : Frame.enter Tryz.prog 47 #[.slice a0 n cap] .normal = (base 47).at ⟨#[.slice a0 n cap, undef, undef, undef, undef, undef, undef, undef], []⟩ [.code (Tryz.f47.body.getD .skip)] := enter_at #[.slice a0 n cap] Tryz.func47 rfl
 rw [hent]
 simp only [Tryz.f47, Option.getD_some]
 obtain ⟨i, hi⟩ := Option.isSome_iff_exists.1 (show (Tryz.prog.info? 3).isSome = true by kernel_rfl)
 have hmk := run_makeChan (w := w) (t := 135) Tryz.underlying135 hi .i64 0 (by omega) (by omega)
 have hme := events_makeChan (w := w) (t := 135) Tryz.underlying135 hi .i64 0 (by omega) (by omega) #[]
 refine Co.qd8 rfl stepG_seq (by simp) ?_
 refine Co.qd8 rfl stepG_region (by simp) ?_
 simp only [List.size_toArray, List.length_cons, List.length_nil, Nat.reduceAdd, Nat.zero_add, List.range, List.range.loop]
 refine Co.qff (.chan none) ⟨#[.slice a0 n cap, undef, .chan none, undef, undef, undef, undef, undef], []⟩ rfl rfl (by decide) rfl rfl rfl ?_
 refine Co.qd8 rfl stepG_region_end (by simp) ?_
 refine Co.qd8 rfl stepG_seq (by simp) ?_
 refine Co.qd8 rfl stepG_region (by simp) ?_
 simp only [List.size_toArray, List.length_cons, List.length_nil, Nat.reduceAdd, Nat.zero_add, List.range, List.range.loop]
 refine Co.qff (.chan (some w.heap.size)) (w' := w.alloc (.chan 0 #[] false 0 0 false)) ⟨#[.slice a0 n cap, undef, .chan none, undef, .chan (some w.heap.size), undef, undef, undef], []⟩ rfl rfl (by decide) ?_ ?_ rfl ?_
 ·simp [execOp, Act.eval] at hmk ⊢
  simp [hmk]
 ·simp [execOp, Act.eval] at hme ⊢
  simp [hme]
 refine Co.qff (.chan (some w.heap.size)) ⟨#[.slice a0 n cap, undef, .chan none, .chan (some w.heap.size), .chan (some w.heap.size), undef, undef, undef], []⟩ rfl rfl (by decide) rfl rfl rfl ?_
 refine Co.qd8 rfl stepG_region_end (by simp) ?_
 refine Co.qd8 rfl stepG_seq (by simp) ?_
 refine Co.qd8 rfl stepG_region (by simp) ?_
 simp only [List.size_toArray, List.length_cons, List.length_nil, Nat.reduceAdd, Nat.zero_add, List.range, List.range.loop]
 refine Co.qff (.chan (some w.heap.size)) ⟨#[.slice a0 n cap, undef, .chan none, .chan (some w.heap.size), .chan (some w.heap.size), .chan (some w.heap.size), undef, undef], []⟩ rfl rfl (by decide) rfl rfl rfl ?_
 refine Co.qff (.slice a0 n cap) ⟨#[.slice a0 n cap, undef, .chan none, .chan (some w.heap.size), .chan (some w.heap.size), .chan (some w.heap.size), .slice a0 n cap, undef], []⟩ rfl rfl (by decide) rfl rfl rfl ?_
 have hgo : ∀ {b : Frame} {a : Act} {k : List Item} {cs : List Frame} {ops : Array Oper} {i : Nat} {rest : List Nat} {o : Oper} {d : Deferred} {w : World}, ops[i]? = some o -> Region.wanted o (yielded ops a.tmps) = true -> b.kind ≠ .early -> (execOp a.eval o).run Tryz.prog w = .ok (.spawn d) w -> (execOp a.eval o).events Tryz.prog w #[] = #[] -> d.target = .fn (.func 84) #[] -> ∀ {c : Nat} {Pt : Nat -> Prop} {S : World -> Prop} {vs : List Value}, S w -> w.heap[c]? = some (.chan 0 #[] false 0 0 false) -> Sends Tryz.prog c S (Co.Mine Pt) vs (born Tryz.prog d) -> Co.Run1 Tryz.prog Post c Pt S vs (G (b.at (a.put o.dst undef) (.inRegion ops rest :: k)) cs) w -> Co.Run0 Tryz.prog Post (G (b.at a (.inRegion ops (i :: rest) :: k)) cs) w :=
  fun ho hw hk hr he hd _ _ _ _ hSw hc hB h' => Co.q8f rfl (stepG_spawn ho hw hk hr hd) (fun e hm => by have := mem_listed hm; rw [he] at this; simp at this) hSw hc hB h'
 have hSh' : Sh a0 n zs (w.alloc (.chan 0 #[] false 0 0 false)) := fun j ad hj e => by
  have h1 := hb ad e (by omega)
  have h2 : (w.alloc (.chan 0 #[] false 0 0 false)).heap[(ad.add j).block]? = w.heap[(ad.add j).block]? := by
   rw [add_block]
   show (w.heap.push _)[ad.block]? = _
   rw [Array.getElem?_push]; simp [Nat.ne_of_lt h1.2]
  rw [World.cell?_of_block (w := w) h2]
  exact hSh j ad hj e
 refine hgo (d := call4 w.heap.size a0 n cap) (c := w.heap.size) (Pt := fun b => b = w.heap.size ∨ Po b) (S := Sh a0 n zs) (vs := vals zs 0 n) rfl rfl (by decide) ?_ ?_ rfl hSh' (by show (w.heap.push _)[w.heap.size]? = _; simp) (sends_all _ _ _ _ _ _ hmax hnil fun ad e h0 => .inr (hb ad e h0).1) ?_
 ·simp [execOp, resolve, Deferred.ofValue, Act.eval, call4]
 ·simp [execOp, resolve, Deferred.ofValue, Act.eval]
 let M1 := Co.sys1 hn Tryz.prog Post hS (vals zs 0 n)
 show M1.Run _ _
 refine M1.go rfl (fun _ => stepG_region_end) ?_
 refine M1.go rfl (fun _ => stepG_seq) ?_
 refine M1.go rfl (fun _ => stepG_region) ?_
 simp only [List.size_toArray, List.length_cons, List.length_nil, Nat.reduceAdd, Nat.zero_add, List.range, List.range.loop]
 refine M1.go rfl (fun _ => Co.qpe (a' := ⟨#[.slice a0 n cap, undef, .chan none, .chan (some w.heap.size), .chan (some w.heap.size), .chan (some w.heap.size), .slice a0 n cap, .chan (some w.heap.size)], []⟩) (.chan (some w.heap.size)) rfl rfl (by decide) rfl rfl rfl) ?_
 refine M1.go rfl (fun _ => Co.qpe (a' := ⟨#[.slice a0 n cap, undef, .chan (some w.heap.size), .chan (some w.heap.size), .chan (some w.heap.size), .chan (some w.heap.size), .slice a0 n cap, .chan (some w.heap.size)], []⟩) (.chan (some w.heap.size)) rfl rfl (by decide) rfl rfl rfl) ?_
 refine M1.go rfl (fun _ => stepG_region_end) ?_
 refine M1.go rfl (fun _ => stepG_ret') ?_
 refine h _ rfl ⟨rfl, rfl, rfl, _, Tryz.func47, fun w₁ _ => ⟨_, results_tmp (t := 2) rfl _ Tryz.prog w₁, rfl⟩⟩
end Snd
end Go.Proofs.YtfiofmaknndpcaaGreatDoor
namespace Go.Proofs.YtfiofmaknndpcaaGreatDoor
open Go.RowKit
namespace Eng
open Tr
open Go.Conc (stepG_region stepG_value stepG_enter)
theorem qs0 {w : World} {F : Nat -> Prop} : ∀ (l : List Int) {us : List Value}, RdO w F (D.cat (l.map Tr.eI)) us -> us = l.map (.int .i64)
 | [], us, h => h
 | x :: l, us, h => by
  obtain ⟨vs, e0, h'⟩ := (show RdO w F (.lit (.int .i64 x) (D.cat (l.map Tr.eI))) us from h)
  rw [e0, qs0 l h']
  rfl
section
variable {F : Fr} {R : St -> Prop} {k : List It}
theorem q1w (hn : ¬ Co.Lone) {id s0 s1 s2 : Nat} {o1 o2 : Oper} {cl : Call} {t : TL} {m : ML} {u : List Nat} {l : List Int} {T : Nat} (h1 : o1.op = .move (.tmp s0)) (d1 : o1.dst = some s1) (g1 : o1.guard = none) (h2 : o2.op = .call cl) (hcal : cl.callee = .value (.func 47)) (harg : cl.args = #[.tmp s1]) (d2 : o2.dst = some s2) (g2 : o2.guard = none)
  (hs : lk t s0 = some (.sv (.one (ro T 1 Tr.eI l)))) (hs1 : Nat.ble (s1 + 1) F.n = true) (hs2 : Nat.ble (s2 + 1) F.n = true) (hl : l.length <= 9223372036854775807) (hH : ∀ b, ¬ F.X.H b)
  (h : ∀ (X' : Cx) (c : Nat) (S : World -> Prop), X'.H = (fun k => k = c) -> Co.Held c X'.Pt S -> (∀ x, GlX F.X x -> GlX X' x) -> (∀ σ a w, qba ⟨X', F.ρ0, F.base, F.n, F.hb⟩ σ a w -> qba F σ a w) →
   AO Tryz.prog F ⟨X', F.ρ0, F.base, F.n, F.hb⟩ c S (l.map (.int .i64)) R k ⟨(s2, .sv (.one (.lit (.chan (some c))))) :: (s1, .sv (.one (ro T 1 Tr.eI l))) :: t, m, u⟩) : AG Tryz.prog F R (.code (.region id ⟨[o1, o2]⟩ false) :: k) ⟨t, m, u⟩ := by
 intro a w hS Post b cs l0 hk hI g0 g3
 obtain ⟨l', rfl, hI'⟩ := qgs hI
 obtain ⟨ρ, hE, hA, hM, hU, hW⟩ := hS
 obtain ⟨x, hx1, hx2⟩ := hA.at_ _ _ hs
 have hx2 : RdO F.X.w0 F.X.F (.row T 1 l.length (D.cat (l.map Tr.eI)) .nil) [x] := hx2
 refine Co.qd8 rfl stepG_region (by simp) ?_
 have hr : List.range (Array.mk [o1, o2]).size = [0, 1] := by simp [List.range, List.range.loop]
 rw [hr]
 have hev : a.eval (.tmp s0) = x := by
  show a.tmps.getD s0 undef = x
  rw [Array.getD_eq_getD_getElem?, hx1]; rfl
 have hA1 : ARel F.X ρ F.n ((s1, .sv (.one (ro T 1 Tr.eI l))) :: t) (a.put (some s1) x) := hA.put' (d := some s1) (v := some (.sv (.one (ro T 1 Tr.eI l)))) hs1 (fun tv e => by obtain rfl := Option.some.inj e; exact hx2)
 refine Co.qff (o := o1) (w' := w) x (a.put (some s1) x) rfl (by simp [Region.wanted, g1]) hk ?_ ?_ (by rw [d1]) ?_
 ·simp only [execOp, h1, hev]; rfl
 ·simp only [execOp, h1]; rfl
 have hev1 : (a.put (some s1) x).eval (.tmp s1) = x := by
  obtain ⟨y, hy1, _⟩ := hA1.at_ s1 (.sv (.one (ro T 1 Tr.eI l))) (by rw [jy]; simp)
  show (a.put (some s1) x).tmps.getD s1 undef = x
  have hlt : s1 < a.tmps.size := by rw [hA.size]; exact Nat.le_of_ble_eq_true hs1
  simp [Act.put, Array.getD_eq_getD_getElem?, hlt]
 have hex : ∀ w, (execOp (a.put (some s1) x).eval o2).run Tryz.prog w = .ok (.enter 47 #[x]) w /\ (execOp (a.put (some s1) x).eval o2).events Tryz.prog w #[] = #[] := by
  intro w
  have hev0 : (a.put (some s1) x).eval (.func 47) = .func (.func 47) #[] #[] := rfl
  have e : execOp (a.put (some s1) x).eval o2 = callFunc 47 #[x] := by simp [execOp, h2, resolve, hcal, hev0, Deferred.ofValue, invoke, harg, hev1]
  rw [e]
  exact ⟨Tryz.call47 _ _, by kernel_rfl⟩
 refine Co.qd8 rfl (stepG_enter (o := o2) rfl (by simp [Region.wanted, g2]) hk (hex w).1) (fun e hm => by have := Go.Conc.mem_listed hm; rw [(hex w).2] at this; simp at this) ?_
 obtain ⟨a0, cap, Po, rfl, hSh, hnil, hb, hPo⟩ : ∃ (a0 : Option Addr) (cap : Nat) (Po : Nat -> Prop), x = .slice a0 l.length cap /\ Snd.Sh a0 l.length l w /\ (0 < l.length -> ∃ ad, a0 = some ad) /\ (∀ ad, a0 = some ad -> 0 < l.length -> Po ad.block /\ ad.block < w.heap.size) /\ ∀ b, Po b -> F.X.F b := by
  obtain ⟨v', vs', e1, _, h3⟩ := hx2
  obtain ⟨rfl, _⟩ := List.cons.inj e1
  rcases h3 with ⟨⟨a0, cap, rfl, _⟩, h4, _⟩ | ⟨g, o, cap, us, rfl, h4, h5, h6, h7, h8, h9⟩
  ·exact ⟨a0, cap, fun _ => False, by rw [h4], fun j ad hj => by omega, fun h => by omega, fun ad _ h => by omega, fun b h => h.elim⟩
  ·have e9 := qs0 l h9
   subst e9
   refine ⟨some ⟨g, o, none⟩, cap, fun b => b = g /\ 0 < l.length, rfl, fun j ad hj e => ?_, fun _ => ⟨_, rfl⟩, fun ad e h0 => ?_, fun b hb => ?_⟩
   ·cases e
    have hFg := h8 (by omega)
    rw [show (Addr.add ⟨g, o, none⟩ j) = ⟨g, o + j, none⟩ by simp [Addr.add]]
    rw [World.cell?_of_block (w := F.X.w0) (hW.frz g (F.X.hF g hFg) (F.X.hHF g hFg)), h7 j (by omega)]
    simp [List.getD_eq_getElem?_getD, hj]
   ·cases e
    exact ⟨⟨rfl, h0⟩, hW.lt g (F.X.hF g (h8 (by omega)))⟩
   ·obtain ⟨rfl, h0⟩ := hb
    exact h8 (by omega)
 have hvals : Snd.vals l 0 l.length = l.map (.int .i64) := by rw [Snd.vals_eq l l.length 0 (by omega)]; rfl
 refine Snd.turns_go hn (Po := Po) hl hSh hnil hb fun fr hfr hL => ?_
 rw [hvals]
 let o0 : Obj := .chan 0 #[] false 0 0 false
 let X' := q1t F.X w Po hW.size hPo o0
 let F' : Fr := ⟨X', F.ρ0, F.base, F.n, F.hb⟩
 have hS : Co.Held w.heap.size (fun b => b = w.heap.size ∨ Po b) (Snd.Sh a0 l.length l) := by
  refine ⟨.inl rfl, fun w1 w2 hk hs j ad hj e => ?_⟩
  have h1 := hb ad e (by omega)
  rw [World.cell?_of_block (w := w1) (by rw [Snd.add_block]; exact hk _ (.inr h1.1) (by omega))]
  exact hs j ad hj e
 have hback : ∀ σ a w1, qba F' σ a w1 -> qba F σ a w1 := fun σ a w1 hs => by
  have := qwb (F := F') (X' := F.X) (qx3 (w1 := w1) hW.size hPo o0 hW) hs
  exact this
 have hgl : ∀ x, GlX F.X x -> GlX X' x := fun x hx => by
  have hlt := hW.lt x.g hx.fz
  refine ⟨?_, .inl hx.fz, fun e : x.g = w.heap.size => by omega⟩
  show (w.heap.push o0)[x.g]? = _
  rw [Array.getElem?_push, if_neg (by omega), hW.frz x.g hx.fz hx.nh]
  exact hx.at_
 let M1 := Co.sys1 hn Tryz.prog Post hS (l.map (.int .i64))
 show M1.Run _ _
 refine M1.step rfl fun w₁ h₁ => ?_
 obtain ⟨v, es, q1, q2, q3⟩ := Co.qfv (Pt := fun b => b = w.heap.size ∨ Po b) (c := b.at (a.put (some s1) (.slice a0 l.length cap)) (.inRegion ⟨[o1, o2]⟩ [1] :: l')) (cs := cs) hL h₁ true
 obtain rfl : v = .chan (some w.heap.size) := by cases q3; rfl
 have hfin : (b.at (a.put (some s1) (.slice a0 l.length cap)) (.inRegion ⟨[o1, o2]⟩ [1] :: l')).finish (.chan (some w.heap.size)) = b.at ((a.put (some s1) (.slice a0 l.length cap)).put (some s2) (.chan (some w.heap.size))) (.inRegion ⟨[o1, o2]⟩ [] :: l') := by rw [Go.Frame.finish_at]; simp [d2]
 rw [hfin] at q1
 refine ⟨_, w₁, es, q1, fun _ => ⟨fun _ _ => rfl, q2⟩, ?_⟩
 refine M1.go rfl (fun _ => Go.Conc.stepG_region_end) ?_
 refine h X' w.heap.size (Snd.Sh a0 l.length l) rfl hS hgl hback _ w₁ ?_ Post b cs l' hk hI' g3
 have hS1 : qba F ⟨(s1, .sv (.one (ro T 1 Tr.eI l))) :: t, m, u⟩ (a.put (some s1) (.slice a0 l.length cap)) w := ⟨ρ, hE, hA1, hM, hU, hW⟩
 obtain ⟨ρ2, hE2, hA2, hM2, hU2, hW2⟩ := qwb (X' := X') (qx2 hW.size hPo o0 hW) hS1
 have h₁' : Co.Aside F'.X.H (w.alloc o0) w₁ := h₁
 exact ⟨ρ2, hE2, hA2.put' (d := some s2) (v := some (.sv (.one (.lit (.chan (some w.heap.size)))))) hs2 (fun tv e => by obtain rfl := Option.some.inj e; exact ⟨rfl, rfl⟩), MRel.aside hM2 h₁', hU2, WRel.aside hW2 h₁'⟩
end
def qms (x : Int) : CFD := ⟨136, [(SV.one (.lit (.int .i64 (x))))], [], (TV.sv (.one (.lit (.bool (decide (0 <= x /\ x <= 15)))))), [], [], []⟩
theorem q1x (x : Int) : Fn Tryz.prog (qms x) := by
 refine qm qf Tryz.func136 rfl Tryz.call136 Tryz.ntmps136 Tryz.results136 rfl rfl rfl rfl ?_
 intro X ρ0 hb_ hgl_
 dsimp only [qms]
 try refine nrm ?_
 repeat' (refine qj ?_; first | refine st1 ?_ | (first | ((first | refine qc qf (inps := []) rfl ?_ ?_); rotate_left; (try refine nrm ?_); rotate_right) | refine ret3 ?_ | refine end3 ?_) | (refine ql rfl trivial ?_ ?_ <;> intro hc_ <;> (try simp only [qg, inB, reduceCtorEq, cds] at hc_) <;> (try (first | contradiction | (exfalso; omega)))) | refine qi (And.intro ?_ (wk3 ?_)))
 all_goals (first | refine qj ?_ | (try (focus ((try refine nrmO ?_); (repeat' (first | exact True.intro | apply And.intro)); all_goals (try (intro (hg_ : _ = true); (try simp only [qg, inB, reduceCtorEq, cds] at hg_); (repeat' (first | exact True.intro | apply And.intro)))); all_goals (first | exact ob1 | skip)))))
 refine congrArg Value.bool ?_
 rw [Bool.cond_false_right, ← Bool.decide_and]
 exact decide_eq_decide.2 (by omega)
def qqt (l : List Int) : CFD := ⟨97, [.one (ro 3 1 Tr.eI l)], [], (TV.sv (.one (.lit (.bool (decide (asc l)))))), [], [], []⟩
theorem q8g {l : List Int} {i : Nat} (hi : i < l.length) (h : ¬ okAt l i) : decide (asc l) = false := decide_eq_false fun hp => h (hp i hi)
theorem q5e (l : List Int) (hl : l.length <= 1048576) : Fn Tryz.prog (qqt l) := by
 refine qm qf Tryz.func97 rfl Tryz.call97 Tryz.ntmps97 Tryz.results97 rfl rfl rfl rfl ?_
 intro X ρ0 hb_ hgl_
 dsimp only [qqt]
 try refine nrm ?_
 repeat' (refine qj ?_; first | refine st1 ?_ | (first | ((first | refine qc qf (inps := []) rfl ?_ ?_); rotate_left; (try refine nrm ?_); rotate_right) | refine ret3 ?_ | refine end3 ?_) | (refine ql rfl trivial ?_ ?_ <;> intro hc_ <;> (try simp only [qg, inB, reduceCtorEq, cds] at hc_) <;> (try (first | contradiction | (exfalso; omega)))) | refine qi (And.intro ?_ (wk3 ?_)))
 all_goals (first | refine qj ?_ | (try (focus ((try refine nrmO ?_); (repeat' (first | exact True.intro | apply And.intro)); all_goals (try (intro (hg_ : _ = true); (try simp only [qg, inB, reduceCtorEq, cds] at hg_); (repeat' (first | exact True.intro | apply And.intro)))); all_goals (first | exact ob1 | skip)))))
 refine qaf 493 (by dsimp only [qay] <;> exact rfl) ?_
 refine qai (l.length) (fun i => ∀ k, k < i -> okAt l k) (fun i => [(8, (TV.sv (.one (.lit (.int .i64 (i)))))), (3, (TV.sv (.one (.lit (.int .i64 ((qvu l i)))))))]) (fun i => []) ?_ ?_ ?_
 rotate_left
 ·first | trivial | simp
 (dsimp only [zx, yx, Int.toNat_natCast, ro, Nat.reduceAdd, Nat.reduceMul, Nat.zero_add, List.map, putT, app, zn, gOb, argT, keys, yg, dropped, gAnd, wB, rnT, rnS, rnC, rnCs, rnSs, rnM, rnB, rnN, rn, lk, St.over, ded, delL, jo, menT, jw, menS, jv, menC, hasN, resT, SV.cells]; refine wk3 ?_; (focus ((try refine nrmO ?_); (repeat' (first | exact True.intro | apply And.intro)); all_goals (try (intro (hg_ : _ = true); (try simp only [qg, inB, reduceCtorEq, cds] at hg_); (repeat' (first | exact True.intro | apply And.intro)))); all_goals (first | exact ob1 | exact rfl | skip))))
 rotate_right
 intro i hi_ hiI_
 dsimp only [zx, yx, Int.toNat_natCast, ro, Nat.reduceAdd, Nat.reduceMul, Nat.zero_add, List.map, putT, app, zn, gOb, argT, keys, yg, dropped, gAnd, wB, rnT, rnS, rnC, rnCs, rnSs, rnM, rnB, rnN, rn, lk, St.over, ded, delL, jo, menT, jw, menS, jv, menC, hasN, resT, SV.cells]
 repeat' (refine qj ?_; first | refine st1 ?_ | (first | ((first | refine qc (id := 4) qf (inps := [.elem (Tr.eI (l.getD i 0))]) rfl ?_ ?_ | refine qc (id := 5) qf (inps := [.call (qms (l.getD i 0))]) rfl ?_ ?_ | refine qc qf (inps := []) rfl ?_ ?_); rotate_left; (try dsimp only [qms]); (try refine nrm ?_); rotate_right) | refine ret3 ?_ | refine end3 ?_) | (refine ql rfl trivial ?_ ?_ <;> intro hc_ <;> (try simp only [qg, inB, reduceCtorEq, cds] at hc_) <;> (try (first | contradiction | (exfalso; omega)))) | refine qi (And.intro ?_ (wk3 ?_)))
 all_goals (first | refine qj ?_ | (try (focus ((try refine nrmO ?_); (repeat' (first | exact True.intro | apply And.intro)); all_goals (try (intro (hg_ : _ = true); (try simp only [qg, inB, reduceCtorEq, cds] at hg_); (repeat' (first | exact True.intro | apply And.intro)))); all_goals (first | exact ob1 | exact q1x _ | skip)))))
 ·rw [q8g (i := i) (by omega) (by unfold okAt; omega)]
 ·exact qvv hiI_ hc_
 ·rfl
 ·rw [decide_eq_true (show asc l from fun k hk => hiI_ k (by omega))]
def qis (p : GPlan) : CFD := ⟨54, [.agg [(CV.lit (.int .i64 (p.Keep))), (CV.lit (.int .i64 (p.Move))), ro 3 1 Tr.eI p.Cells]], [], (TV.sv (.one (.lit (.bool (qfb p))))), [], [], []⟩
theorem qul (p : GPlan) (hl : p.Cells.length <= 1048576) : Fn Tryz.prog (qis p) := by
 refine qm qf Tryz.func54 rfl Tryz.call54 Tryz.ntmps54 Tryz.results54 rfl rfl rfl rfl ?_
 intro X ρ0 hb_ hgl_
 dsimp only [qis]
 try refine nrm ?_
 repeat' (refine qj ?_; first | refine st1 ?_ | (first | ((first | refine qc (id := 1) qf (inps := [.call (qqt p.Cells)]) rfl ?_ ?_ | refine qc qf (inps := []) rfl ?_ ?_); rotate_left; (try dsimp only [qqt]); (try refine nrm ?_); rotate_right) | refine ret3 ?_ | refine end3 ?_) | (refine ql rfl trivial ?_ ?_ <;> intro hc_ <;> (try simp only [qg, inB, reduceCtorEq, cds] at hc_) <;> (try (first | contradiction | (exfalso; omega)))) | refine qi (And.intro ?_ (wk3 ?_)))
 all_goals (first | refine qj ?_ | (try (focus ((try refine nrmO ?_); (repeat' (first | exact True.intro | apply And.intro)); all_goals (try (intro (hg_ : _ = true); (try simp only [qg, inB, reduceCtorEq, cds] at hg_); (repeat' (first | exact True.intro | apply And.intro)))); all_goals (first | exact ob1 | exact q5e _ hl | skip)))))
 refine congrArg Value.bool ?_
 rw [Bool.eq_iff_iff]
 unfold qfb
 rw [decide_eq_true_eq]
 have h1 : 0 <= mmI true p.Keep p.Move ↔ 0 <= p.Keep /\ 0 <= p.Move := by simp only [mmI]; split <;> omega
 have h2 : mmI false p.Keep p.Move < 32 ↔ p.Keep <= 31 /\ p.Move <= 31 := by simp only [mmI]; split <;> omega
 simp only [Bool.cond_false_right, Bool.and_eq_true, decide_eq_true_eq, bne_iff_ne, ge_iff_le, h1, h2]
 unfold plOk
 exact ⟨fun h => ⟨h.1.1.1, ⟨h.1.1.2.1, h.1.2.1⟩, ⟨h.1.1.2.2, h.1.2.2⟩, h.2⟩, fun h => ⟨⟨⟨h.1, h.2.1.1, h.2.2.1.1⟩, h.2.1.2, h.2.2.1.2⟩, h.2.2.2⟩⟩
def qx (j : GJob) : CFD := ⟨45, [.agg [(CV.lit (.int .i64 (j.Plan.Keep))), (CV.lit (.int .i64 (j.Plan.Move))), ro 3 1 Tr.eI j.Plan.Cells, (CV.lit (.int .i64 (j.Phase))), (CV.lit (.int .i64 (j.Next)))]], [], .sv (.agg [(CV.lit (.int .i64 (j.Plan.Keep))), (CV.lit (.int .i64 (j.Plan.Move))), .hd 0, (CV.lit (.int .i64 (j.Phase))), (CV.lit (.int .i64 (j.Next)))]), [(0, some (.row 3 1 (j.Plan.Cells.map Tr.eI)))], [0], []⟩
theorem qgt (j : GJob) (hl : j.Plan.Cells.length <= 1048576) : Fn Tryz.prog (qx j) := by
 refine qm qf Tryz.func45 rfl Tryz.call45 Tryz.ntmps45 Tryz.results45 rfl rfl rfl rfl ?_
 intro X ρ0 hb_ hgl_
 dsimp only [qx]
 try refine nrm ?_
 repeat' (refine qj ?_; first | refine st1 ?_ | (first | ((first | refine qc (id := 1) qf (inps := [.call (qgn j.Plan.Cells)]) rfl ?_ ?_ | refine qc qf (inps := []) rfl ?_ ?_); rotate_left; (try dsimp only [qgn]); (try refine nrm ?_); rotate_right) | refine ret3 ?_ | refine end3 ?_) | (refine ql rfl trivial ?_ ?_ <;> intro hc_ <;> (try simp only [qg, inB, reduceCtorEq, cds] at hc_) <;> (try (first | contradiction | (exfalso; omega)))) | refine qi (And.intro ?_ (wk3 ?_)))
 all_goals (first | refine qj ?_ | (try (focus ((try refine nrmO ?_); (repeat' (first | exact True.intro | apply And.intro)); all_goals (try (intro (hg_ : _ = true); (try simp only [qg, inB, reduceCtorEq, cds] at hg_); (repeat' (first | exact True.intro | apply And.intro)))); all_goals (first | exact ob1 | exact qo8 _ hl | skip)))))
 all_goals trace_state
def qgu (j : GJob) : CFD := ⟨17, [.agg [(CV.lit (.int .i64 (j.Plan.Keep))), (CV.lit (.int .i64 (j.Plan.Move))), ro 3 1 Tr.eI j.Plan.Cells, (CV.lit (.int .i64 (j.Phase))), (CV.lit (.int .i64 (j.Next)))]], [], (TV.sv (.one (.lit (.bool (qt0 j))))), [], [], []⟩
theorem qx4 (j : GJob) (hl : j.Plan.Cells.length <= 1048576) : Fn Tryz.prog (qgu j) := by
 refine qm qf Tryz.func17 rfl Tryz.call17 Tryz.ntmps17 Tryz.results17 rfl rfl rfl rfl ?_
 intro X ρ0 hb_ hgl_
 dsimp only [qgu]
 try refine nrm ?_
 repeat' (refine qj ?_; first | refine st1 ?_ | (first | ((first | refine qc (id := 1) qf (inps := [.call (qis j.Plan)]) rfl ?_ ?_ | refine qc qf (inps := []) rfl ?_ ?_); rotate_left; (try dsimp only [qis]); (try refine nrm ?_); rotate_right) | refine ret3 ?_ | refine end3 ?_) | (refine ql rfl trivial ?_ ?_ <;> intro hc_ <;> (try simp only [qg, inB, reduceCtorEq, cds] at hc_) <;> (try (first | contradiction | (exfalso; omega)))) | refine qi (And.intro ?_ (wk3 ?_)))
 all_goals (first | refine qj ?_ | (try (focus ((try refine nrmO ?_); (repeat' (first | exact True.intro | apply And.intro)); all_goals (try (intro (hg_ : _ = true); (try simp only [qg, inB, reduceCtorEq, cds] at hg_); (repeat' (first | exact True.intro | apply And.intro)))); all_goals (first | exact ob1 | exact qul j.Plan hl | skip)))))
 refine congrArg Value.bool ?_
 rw [Bool.eq_iff_iff]
 unfold qt0
 rw [decide_eq_true_iff]
 simp only [qfb, okJ, Bool.cond_false_right, Bool.and_eq_true, decide_eq_true_eq]
 exact ⟨fun h => ⟨h.1.1.1.1, ⟨h.1.1.1.2, h.1.1.2⟩, h.1.2, h.2⟩, fun h => ⟨⟨⟨⟨h.1, h.2.1.1⟩, h.2.1.2⟩, h.2.2.1⟩, h.2.2.2⟩⟩
def qeq (j : GJob) : CFD := ⟨87, [.agg [(CV.lit (.int .i64 (j.Plan.Keep))), (CV.lit (.int .i64 (j.Plan.Move))), ro 3 1 Tr.eI j.Plan.Cells, (CV.lit (.int .i64 (j.Phase))), (CV.lit (.int .i64 (j.Next)))]], [], (TV.sv (.one (.lit (.bool (decide (qbx j)))))), [], [], []⟩
theorem qs1 (j : GJob) : Fn Tryz.prog (qeq j) := by
 refine qm qf Tryz.func87 rfl Tryz.call87 Tryz.ntmps87 Tryz.results87 rfl rfl rfl rfl ?_
 intro X ρ0 hb_ hgl_
 dsimp only [qeq]
 try refine nrm ?_
 repeat' (refine qj ?_; first | refine st1 ?_ | (first | ((first | refine qc qf (inps := []) rfl ?_ ?_); rotate_left; (try refine nrm ?_); rotate_right) | refine ret3 ?_ | refine end3 ?_) | (refine ql rfl trivial ?_ ?_ <;> intro hc_ <;> (try simp only [qg, inB, reduceCtorEq, cds] at hc_) <;> (try (first | contradiction | (exfalso; omega)))) | refine qi (And.intro ?_ (wk3 ?_)))
 all_goals (first | refine qj ?_ | (try (focus ((try refine nrmO ?_); (repeat' (first | exact True.intro | apply And.intro)); all_goals (try (intro (hg_ : _ = true); (try simp only [qg, inB, reduceCtorEq, cds] at hg_); (repeat' (first | exact True.intro | apply And.intro)))); all_goals (first | exact ob1 | skip)))))
 refine congrArg Value.bool ?_
 rw [Bool.eq_iff_iff]
 rw [decide_eq_true_iff]
 simp only [qbx, Bool.cond_true_left, Bool.or_eq_true, beq_iff_eq]
theorem qs2 {k : GKernel} {page : Int} (h : qap k page ≠ 0) : (0 <= page /\ page < k.Machine.Table.Entries.length) /\ qh k.Machine.Table page = k.Machine.Table.Entries.getD page.toNat ⟨0, 0⟩ := by
 unfold qap qh at h
 by_cases hp : 0 <= page /\ page < k.Machine.Table.Entries.length
 ·exact ⟨hp, by unfold qh; rw [if_pos hp]⟩
 ·rw [if_neg hp] at h; exact absurd rfl h
def qlj (m : GMachine) (page : Int) (e : GEntry) : CFD := ⟨167, [.agg [.hd 0, .hd 1, .hd 2], (SV.one (.lit (.int .i64 (page)))), .agg [(CV.lit (.int .i64 (e.Mode))), (CV.lit (.int .i64 (e.Frame)))]], [(0, some (.row 33 1 (m.Frames.Cells.map xw))), (1, some (.row 4 1 (m.Frames.Used.map Tr.eB))), (2, some (.row 42 2 (m.Table.Entries.map xe)))], .sv (.agg [.hd 0, .hd 1, .hd 10]), [(0, some (.row 33 1 (m.Frames.Cells.map xw))), (1, some (.row 4 1 (m.Frames.Used.map Tr.eB))), (10, some (.row 42 2 (((qaz m.Table page e).1).Entries.map xe)))], [10], []⟩
set_option maxHeartbeats 2000000 in
theorem qwc (m : GMachine) (page : Int) (e : GEntry) (hs : szM m) (h : ¬ ((qaq (qaz m.Table page e).1 (qh m.Table page).Frame).length : Int) = 0) : Fn Tryz.prog (qlj m page e) := by
 have hse : (qaz m.Table page e).1.Entries.length <= 1048576 := by have := hs.e; unfold qaz; split <;> simp <;> omega
 refine qm qf Tryz.func167 rfl Tryz.call167 Tryz.ntmps167 Tryz.results167 rfl rfl rfl rfl ?_
 intro X ρ0 hb_ hgl_
 dsimp only [qlj]
 try refine nrm ?_
 repeat' (refine qj ?_; first | refine st1 ?_ | (first | ((first | refine qc (id := 1) qf (inps := [.call (yj m.Table page)]) rfl ?_ ?_ | refine qc (id := 2) qf (inps := [.call (qei m.Table page e)]) rfl ?_ ?_ | refine qc (id := 3) qf (inps := [.call (qej (qaz m.Table page e).1 (qh m.Table page).Frame)]) rfl ?_ ?_ | refine qc qf (inps := []) rfl ?_ ?_); rotate_left; (try dsimp only [yj, qej, qei]); (try refine nrm ?_); rotate_right) | refine ret3 ?_ | refine end3 ?_) | (refine ql rfl trivial ?_ ?_ <;> intro hc_ <;> (try simp only [qg, inB, reduceCtorEq, cds] at hc_) <;> (try (first | contradiction | (exfalso; omega)))) | refine qi (And.intro ?_ (wk3 ?_)))
 all_goals (first | refine qj ?_ | (try (focus ((try refine nrmO ?_); (repeat' (first | exact True.intro | apply And.intro)); all_goals (try (intro (hg_ : _ = true); (try simp only [qg, inB, reduceCtorEq, cds] at hg_); (repeat' (first | exact True.intro | apply And.intro)))); all_goals (first | exact ob1 | exact qae _ _ hs.e | exact ql2 _ _ _ hs.e | exact ql3 _ _ hse | skip)))))
def qqu (m : GMachine) (page : Int) (e : GEntry) : CFD := ⟨167, [.agg [.hd 0, .hd 1, .hd 2], (SV.one (.lit (.int .i64 (page)))), .agg [(CV.lit (.int .i64 (e.Mode))), (CV.lit (.int .i64 (e.Frame)))]], [(0, some (.row 33 1 (m.Frames.Cells.map xw))), (1, some (.row 4 1 (m.Frames.Used.map Tr.eB))), (2, some (.row 42 2 (m.Table.Entries.map xe)))], .sv (.agg [.hd 10, .hd 11, .hd 12]), [(10, some (.row 33 1 (((qbe m.Frames (qh m.Table page).Frame).1).Cells.map xw))), (11, some (.row 4 1 (((qbe m.Frames (qh m.Table page).Frame).1).Used.map Tr.eB))), (12, some (.row 42 2 (((qaz m.Table page e).1).Entries.map xe)))], [10, 11, 12], []⟩
set_option maxHeartbeats 2000000 in
theorem q5f (m : GMachine) (page : Int) (e : GEntry) (hs : szM m) (h : ((qaq (qaz m.Table page e).1 (qh m.Table page).Frame).length : Int) = 0) : Fn Tryz.prog (qqu m page e) := by
 have hse : (qaz m.Table page e).1.Entries.length <= 1048576 := by have := hs.e; unfold qaz; split <;> simp <;> omega
 refine qm qf Tryz.func167 rfl Tryz.call167 Tryz.ntmps167 Tryz.results167 rfl rfl rfl rfl ?_
 intro X ρ0 hb_ hgl_
 dsimp only [qqu]
 try refine nrm ?_
 repeat' (refine qj ?_; first | refine st1 ?_ | (first | ((first | refine qc (id := 1) qf (inps := [.call (yj m.Table page)]) rfl ?_ ?_ | refine qc (id := 2) qf (inps := [.call (qei m.Table page e)]) rfl ?_ ?_ | refine qc (id := 3) qf (inps := [.call (qej (qaz m.Table page e).1 (qh m.Table page).Frame)]) rfl ?_ ?_ | refine qc (id := 4) qf (inps := [.call (qkj m.Frames (qh m.Table page).Frame)]) rfl ?_ ?_ | refine qc qf (inps := []) rfl ?_ ?_); rotate_left; (try dsimp only [qkj, yj, qej, qei]); (try refine nrm ?_); rotate_right) | refine ret3 ?_ | refine end3 ?_) | (refine ql rfl trivial ?_ ?_ <;> intro hc_ <;> (try simp only [qg, inB, reduceCtorEq, cds] at hc_) <;> (try (first | contradiction | (exfalso; omega)))) | refine qi (And.intro ?_ (wk3 ?_)))
 all_goals (first | refine qj ?_ | (try (focus ((try refine nrmO ?_); (repeat' (first | exact True.intro | apply And.intro)); all_goals (try (intro (hg_ : _ = true); (try simp only [qg, inB, reduceCtorEq, cds] at hg_); (repeat' (first | exact True.intro | apply And.intro)))); all_goals (first | exact ob1 | exact qae _ _ hs.e | exact ql2 _ _ _ hs.e | exact ql3 _ _ hse | exact q1m _ _ hs.c hs.u hs.r | skip)))))
def qa8 (k k' : GKernel) (b : Bool) : CFD := ⟨166, [.agg [ro 33 1 xw k.Machine.Frames.Cells, ro 4 1 Tr.eB k.Machine.Frames.Used, ro 42 2 xe k.Machine.Table.Entries, (CV.lit (.int .i64 (k.Calls))), ro 3 1 Tr.eI k.Refuse]], [], .tup [.agg [.hd 0, .hd 1, .hd 2, (CV.lit (.int .i64 ((k').Calls))), .hd 3], (SV.one (.lit (.bool (b))))], [(0, some (.row 33 1 ((k').Machine.Frames.Cells.map xw))), (1, some (.row 4 1 ((k').Machine.Frames.Used.map Tr.eB))), (2, some (.row 42 2 ((k').Machine.Table.Entries.map xe))), (3, some (.row 3 1 ((k').Refuse.map Tr.eI)))], [0, 1, 2, 3], []⟩
theorem qc7 (k k' : GKernel) (b : Bool) (hs : szK k) (h : qcf k = (k', b)) : Fn Tryz.prog (qa8 k k' b) := by
 have := q1p k hs
 unfold qkl at this
 rw [h] at this
 exact this
theorem qs3 {k : GKernel} (h : ¬ qar k) : qcf k = (k, false) := by unfold qcf; rw [if_neg h]
theorem qwd {k : GKernel} (h : qar k) (hg : granted k) : qcf k = (⟨k.Machine, k.Calls + 1, k.Refuse⟩, true) := by unfold qcf; rw [if_pos h, decide_eq_true hg]; rfl
theorem qwe {k : GKernel} (h : qar k) (hg : ¬ granted k) : qcf k = (⟨k.Machine, k.Calls + 1, k.Refuse⟩, false) := by unfold qcf; rw [if_pos h, decide_eq_false hg]; rfl
theorem q5g {m : GMachine} {page : Int} (hok : okM m) (hm : (qh m.Table page).Mode ≠ 0) : qfp m.Frames (qh m.Table page).Frame := by
 obtain ⟨f, hf, h1, h2, _, _⟩ := qcx hok hm
 rw [hf]
 refine ⟨hok.1, ⟨by omega, by omega⟩, ?_⟩
 have h3 := hok.2.2 f h2
 rw [Int.toNat_natCast, h3]
 congr 1
 rw [decide_eq_true_eq]
 unfold qaq
 rw [qcr]
 by_cases hp : 0 <= page /\ page < m.Table.Entries.length
 ·have e : qh m.Table page = m.Table.Entries.getD page.toNat ⟨0, 0⟩ := by unfold qh; rw [if_pos hp]
  rw [e] at hm hf
  exact ⟨_, getD_in (by omega), hm, hf⟩
 ·unfold qh at hm; rw [if_neg hp] at hm; exact absurd rfl hm
theorem setP {t : GTable} {page : Int} {e : GEntry} (h : qgi t page e) : qaz t page e = (⟨t.Entries.set page.toNat e⟩, true) := by unfold qaz; rw [if_pos h]
theorem q1y {m : GMachine} {page : Int} {e : GEntry} (hok : okM m) (hm : (qh m.Table page).Mode ≠ 0) (hs : qgi m.Table page e) (hL : ¬ ((qaq (qaz m.Table page e).1 (qh m.Table page).Frame).length : Int) = 0) :
  Tr.dropped (qa7 m page.toNat e) (qh m.Table page).Frame.toNat = ⟨m.Frames, ⟨m.Table.Entries.set page.toNat e⟩⟩ := by
 obtain ⟨f, hf, _⟩ := qcx hok hm
 rw [hf, setP hs] at hL
 unfold Tr.dropped
 rw [hf, Int.toNat_natCast, if_neg]
 ·rfl
 ·intro h; exact hL (by exact_mod_cast h)
theorem q14 {m : GMachine} {page : Int} {e : GEntry} (hok : okM m) (hm : (qh m.Table page).Mode ≠ 0) (hs : qgi m.Table page e) (hL : ((qaq (qaz m.Table page e).1 (qh m.Table page).Frame).length : Int) = 0) :
  Tr.dropped (qa7 m page.toNat e) (qh m.Table page).Frame.toNat = ⟨(qbe m.Frames (qh m.Table page).Frame).1, ⟨m.Table.Entries.set page.toNat e⟩⟩ := by
 have hG : qbe m.Frames (qh m.Table page).Frame = (⟨m.Frames.Cells.set (qh m.Table page).Frame.toNat (List.replicate 16 0), m.Frames.Used.set (qh m.Table page).Frame.toNat false⟩, true) := by
  unfold qbe; rw [if_pos (q5g hok hm)]
 obtain ⟨f, hf, _⟩ := qcx hok hm
 rw [hG]
 rw [hf, setP hs] at hL
 unfold Tr.dropped
 rw [hf, Int.toNat_natCast, if_pos]
 ·rfl
 ·show (qaq ⟨m.Table.Entries.set page.toNat e⟩ (f : Int)).length = 0; exact_mod_cast hL
def qek (k : GKernel) (page other : Int) : CFD := ⟨161, [.agg [ro 33 1 xw k.Machine.Frames.Cells, ro 4 1 Tr.eB k.Machine.Frames.Used, ro 42 2 xe k.Machine.Table.Entries, (CV.lit (.int .i64 (k.Calls))), ro 3 1 Tr.eI k.Refuse], (SV.one (.lit (.int .i64 (page)))), (SV.one (.lit (.int .i64 (other))))], [], .tup [.agg [.hd 0, .hd 1, .hd 2, (CV.lit (.int .i64 (((qbz k page other).1).Calls))), .hd 3], (SV.one (.lit (.bool ((qbz k page other).2))))], [(0, some (.row 33 1 (((qbz k page other).1).Machine.Frames.Cells.map xw))), (1, some (.row 4 1 (((qbz k page other).1).Machine.Frames.Used.map Tr.eB))), (2, some (.row 42 2 (((qbz k page other).1).Machine.Table.Entries.map xe))), (3, some (.row 3 1 (((qbz k page other).1).Refuse.map Tr.eI)))], [0, 1, 2, 3], []⟩
set_option maxHeartbeats 4000000 in
theorem qum (k : GKernel) (page other : Int) (hs : szK k) : Fn Tryz.prog (qek k page other) := by
 have hse := hs.m.e
 by_cases hC : qar k
 ·have hok : okM k.Machine := hC.1.1
  by_cases hg : granted k
  ·have hcn := qwd hC hg
   by_cases hQ : qap k page ≠ 0 /\ qap k other ≠ 0 /\ page ≠ other
   ·obtain ⟨h1, h2, h3⟩ := hQ
    have hp := (qs2 h1).1
    obtain ⟨fo, hfo, _⟩ := qcx hok h2
    have hset : qgi k.Machine.Table page ⟨2, (qh k.Machine.Table other).Frame⟩ := ⟨hp, .inr ⟨.inr rfl, by show 0 <= (qh k.Machine.Table other).Frame; omega⟩⟩
    have hS := setP hset
    unfold qap at h1 h2
    by_cases hL : ((qaq (qaz k.Machine.Table page ⟨2, (qh k.Machine.Table other).Frame⟩).1 (qh k.Machine.Table page).Frame).length : Int) = 0
    ·have hV : qbz k page other = (⟨⟨(qbe k.Machine.Frames (qh k.Machine.Table page).Frame).1, ⟨k.Machine.Table.Entries.set page.toNat ⟨2, (qh k.Machine.Table other).Frame⟩⟩⟩, k.Calls + 1, k.Refuse⟩, true) := by
      unfold qbz pOn qap
      rw [if_pos hC, if_pos ⟨hg, h1, h2, h3⟩, q14 hok h1 hset hL]
     refine qm qf Tryz.func161 rfl Tryz.call161 Tryz.ntmps161 Tryz.results161 rfl rfl rfl rfl ?_
     intro X ρ0 hb_ hgl_
     dsimp only [qek]
     try refine nrm ?_
     rw [hV]
     repeat' (refine qj ?_; first | refine st1 ?_ | (first | ((first | refine qc (id := 1) qf (inps := [.call (qa8 k ⟨k.Machine, k.Calls + 1, k.Refuse⟩ true)]) rfl ?_ ?_ | refine qc (id := 2) qf (inps := [.call (yj k.Machine.Table other)]) rfl ?_ ?_ | refine qc (id := 3) qf (inps := [.call (yj k.Machine.Table page), .call (y7 (qh k.Machine.Table page).Mode (qh k.Machine.Table page).Frame), .call (y7 (qh k.Machine.Table other).Mode (qh k.Machine.Table other).Frame)]) rfl ?_ ?_ | refine qc (id := 5) qf (inps := [.call (qqu k.Machine page ⟨2, (qh k.Machine.Table other).Frame⟩)]) rfl ?_ ?_ | refine qc qf (inps := []) rfl ?_ ?_); rotate_left; (try dsimp only [qa8, yj, y7, qqu]); (try refine nrm ?_); rotate_right) | refine ret3 ?_ | refine end3 ?_) | (refine ql rfl trivial ?_ ?_ <;> intro hc_ <;> (try simp only [qg, inB, reduceCtorEq, cds] at hc_) <;> (try (first | contradiction | (exfalso; omega)))) | refine qi (And.intro ?_ (wk3 ?_)))
     all_goals (first | refine qj ?_ | (try (focus ((try refine nrmO ?_); (repeat' (first | exact True.intro | apply And.intro)); all_goals (try (intro (hg_ : _ = true); (try simp only [qg, inB, reduceCtorEq, cds] at hg_); (repeat' (first | exact True.intro | apply And.intro)))); all_goals (first | exact ob1 | exact qc7 _ _ _ hs hcn | exact qae _ _ hse | exact qa3 _ _ | exact q5f _ _ _ hs.m hL | skip)))))
     all_goals (try rw [hS])
     all_goals (first | rfl | (exfalso; grind))
    ·have hV : qbz k page other = (⟨⟨k.Machine.Frames, ⟨k.Machine.Table.Entries.set page.toNat ⟨2, (qh k.Machine.Table other).Frame⟩⟩⟩, k.Calls + 1, k.Refuse⟩, true) := by
      unfold qbz pOn qap
      rw [if_pos hC, if_pos ⟨hg, h1, h2, h3⟩, q1y hok h1 hset hL]
     refine qm qf Tryz.func161 rfl Tryz.call161 Tryz.ntmps161 Tryz.results161 rfl rfl rfl rfl ?_
     intro X ρ0 hb_ hgl_
     dsimp only [qek]
     try refine nrm ?_
     rw [hV]
     repeat' (refine qj ?_; first | refine st1 ?_ | (first | ((first | refine qc (id := 1) qf (inps := [.call (qa8 k ⟨k.Machine, k.Calls + 1, k.Refuse⟩ true)]) rfl ?_ ?_ | refine qc (id := 2) qf (inps := [.call (yj k.Machine.Table other)]) rfl ?_ ?_ | refine qc (id := 3) qf (inps := [.call (yj k.Machine.Table page), .call (y7 (qh k.Machine.Table page).Mode (qh k.Machine.Table page).Frame), .call (y7 (qh k.Machine.Table other).Mode (qh k.Machine.Table other).Frame)]) rfl ?_ ?_ | refine qc (id := 5) qf (inps := [.call (qlj k.Machine page ⟨2, (qh k.Machine.Table other).Frame⟩)]) rfl ?_ ?_ | refine qc qf (inps := []) rfl ?_ ?_); rotate_left; (try dsimp only [qa8, yj, y7, qlj]); (try refine nrm ?_); rotate_right) | refine ret3 ?_ | refine end3 ?_) | (refine ql rfl trivial ?_ ?_ <;> intro hc_ <;> (try simp only [qg, inB, reduceCtorEq, cds] at hc_) <;> (try (first | contradiction | (exfalso; omega)))) | refine qi (And.intro ?_ (wk3 ?_)))
     all_goals (first | refine qj ?_ | (try (focus ((try refine nrmO ?_); (repeat' (first | exact True.intro | apply And.intro)); all_goals (try (intro (hg_ : _ = true); (try simp only [qg, inB, reduceCtorEq, cds] at hg_); (repeat' (first | exact True.intro | apply And.intro)))); all_goals (first | exact ob1 | exact qc7 _ _ _ hs hcn | exact qae _ _ hse | exact qa3 _ _ | exact qwc _ _ _ hs.m hL | skip)))))
     all_goals (try rw [hS])
     all_goals (first | rfl | (exfalso; grind))
   ·have hV : qbz k page other = (⟨k.Machine, k.Calls + 1, k.Refuse⟩, false) := by unfold qbz pOn; rw [if_pos hC, if_neg (fun h => hQ h.2)]; rfl
    unfold qap at hQ
    refine qm qf Tryz.func161 rfl Tryz.call161 Tryz.ntmps161 Tryz.results161 rfl rfl rfl rfl ?_
    intro X ρ0 hb_ hgl_
    dsimp only [qek]
    try refine nrm ?_
    rw [hV]
    repeat' (refine qj ?_; first | refine st1 ?_ | (first | ((first | refine qc (id := 1) qf (inps := [.call (qa8 k ⟨k.Machine, k.Calls + 1, k.Refuse⟩ true)]) rfl ?_ ?_ | refine qc (id := 2) qf (inps := [.call (yj k.Machine.Table other)]) rfl ?_ ?_ | refine qc (id := 3) qf (inps := [.call (yj k.Machine.Table page), .call (y7 (qh k.Machine.Table page).Mode (qh k.Machine.Table page).Frame), .call (y7 (qh k.Machine.Table other).Mode (qh k.Machine.Table other).Frame)]) rfl ?_ ?_ | refine qc qf (inps := []) rfl ?_ ?_); rotate_left; (try dsimp only [qa8, yj, y7]); (try refine nrm ?_); rotate_right) | refine ret3 ?_ | refine end3 ?_) | (refine ql rfl trivial ?_ ?_ <;> intro hc_ <;> (try simp only [qg, inB, reduceCtorEq, cds] at hc_) <;> (try (first | contradiction | (exfalso; omega)))) | refine qi (And.intro ?_ (wk3 ?_)))
    all_goals (first | refine qj ?_ | (try (focus ((try refine nrmO ?_); (repeat' (first | exact True.intro | apply And.intro)); all_goals (try (intro (hg_ : _ = true); (try simp only [qg, inB, reduceCtorEq, cds] at hg_); (repeat' (first | exact True.intro | apply And.intro)))); all_goals (first | exact ob1 | exact qc7 _ _ _ hs hcn | exact qae _ _ hse | exact qa3 _ _ | skip)))))
    all_goals (first | rfl | (exfalso; grind))
  ·have hcn := qwe hC hg
   have hV : qbz k page other = (⟨k.Machine, k.Calls + 1, k.Refuse⟩, false) := by unfold qbz pOn; rw [if_pos hC, if_neg (fun h => hg h.1)]; rfl
   refine qm qf Tryz.func161 rfl Tryz.call161 Tryz.ntmps161 Tryz.results161 rfl rfl rfl rfl ?_
   intro X ρ0 hb_ hgl_
   dsimp only [qek]
   try refine nrm ?_
   rw [hV]
   repeat' (refine qj ?_; first | refine st1 ?_ | (first | ((first | refine qc (id := 1) qf (inps := [.call (qa8 k ⟨k.Machine, k.Calls + 1, k.Refuse⟩ false)]) rfl ?_ ?_ | refine qc (id := 2) qf (inps := [.call (yj k.Machine.Table other)]) rfl ?_ ?_ | refine qc (id := 3) qf (inps := [.skip (SV.one (.lit (.int .i64 (0)))), .skip (SV.one (.lit (.bool (true)))), .skip (SV.one (.lit (.bool (true))))]) rfl ?_ ?_ | refine qc qf (inps := []) rfl ?_ ?_); rotate_left; (try dsimp only [qa8, yj]); (try refine nrm ?_); rotate_right) | refine ret3 ?_ | refine end3 ?_) | (refine ql rfl trivial ?_ ?_ <;> intro hc_ <;> (try simp only [qg, inB, reduceCtorEq, cds] at hc_) <;> (try (first | contradiction | (exfalso; omega)))) | refine qi (And.intro ?_ (wk3 ?_)))
   all_goals (first | refine qj ?_ | (try (focus ((try refine nrmO ?_); (repeat' (first | exact True.intro | apply And.intro)); all_goals (try (intro (hg_ : _ = true); (try simp only [qg, inB, reduceCtorEq, cds] at hg_); (repeat' (first | exact True.intro | apply And.intro)))); all_goals (first | exact ob1 | exact qc7 _ _ _ hs hcn | exact qae _ _ hse | skip)))))
   all_goals (first | rfl | (exfalso; grind))
 ·have hcn := qs3 hC
  have hV : qbz k page other = (k, false) := by unfold qbz; rw [if_neg hC]
  refine qm qf Tryz.func161 rfl Tryz.call161 Tryz.ntmps161 Tryz.results161 rfl rfl rfl rfl ?_
  intro X ρ0 hb_ hgl_
  dsimp only [qek]
  try refine nrm ?_
  rw [hV]
  repeat' (refine qj ?_; first | refine st1 ?_ | (first | ((first | refine qc (id := 1) qf (inps := [.call (qa8 k k false)]) rfl ?_ ?_ | refine qc (id := 2) qf (inps := [.call (yj k.Machine.Table other)]) rfl ?_ ?_ | refine qc (id := 3) qf (inps := [.skip (SV.one (.lit (.int .i64 (0)))), .skip (SV.one (.lit (.bool (true)))), .skip (SV.one (.lit (.bool (true))))]) rfl ?_ ?_ | refine qc qf (inps := []) rfl ?_ ?_); rotate_left; (try dsimp only [qa8, yj]); (try refine nrm ?_); rotate_right) | refine ret3 ?_ | refine end3 ?_) | (refine ql rfl trivial ?_ ?_ <;> intro hc_ <;> (try simp only [qg, inB, reduceCtorEq, cds] at hc_) <;> (try (first | contradiction | (exfalso; omega)))) | refine qi (And.intro ?_ (wk3 ?_)))
  all_goals (first | refine qj ?_ | (try (focus ((try refine nrmO ?_); (repeat' (first | exact True.intro | apply And.intro)); all_goals (try (intro (hg_ : _ = true); (try simp only [qg, inB, reduceCtorEq, cds] at hg_); (repeat' (first | exact True.intro | apply And.intro)))); all_goals (first | exact ob1 | exact qc7 _ _ _ hs hcn | exact qae _ _ hse | skip)))))
  all_goals (first | rfl | (exfalso; grind))
theorem q5h {t : GTable} {page : Int} {e : GEntry} (hs : qgi t page e) (he : e.Mode ≠ 0) : ¬ ((qaq (qaz t page e).1 e.Frame).length : Int) = 0 := by
 have h : 0 < (qaq (qaz t page e).1 e.Frame).length := by
  rw [setP hs]
  unfold qaq
  rw [qcr]
  exact ⟨e, List.mem_of_getElem? (qe6 (by have := hs.1; omega)), he, rfl⟩
 omega
def qdy (k : GKernel) (page mode : Int) : CFD := ⟨159, [.agg [ro 33 1 xw k.Machine.Frames.Cells, ro 4 1 Tr.eB k.Machine.Frames.Used, ro 42 2 xe k.Machine.Table.Entries, (CV.lit (.int .i64 (k.Calls))), ro 3 1 Tr.eI k.Refuse], (SV.one (.lit (.int .i64 (page)))), (SV.one (.lit (.int .i64 (mode))))], [], .tup [.agg [.hd 0, .hd 1, .hd 2, (CV.lit (.int .i64 (((qbf k page mode).1).Calls))), .hd 3], (SV.one (.lit (.bool ((qbf k page mode).2))))], [(0, some (.row 33 1 (((qbf k page mode).1).Machine.Frames.Cells.map xw))), (1, some (.row 4 1 (((qbf k page mode).1).Machine.Frames.Used.map Tr.eB))), (2, some (.row 42 2 (((qbf k page mode).1).Machine.Table.Entries.map xe))), (3, some (.row 3 1 (((qbf k page mode).1).Refuse.map Tr.eI)))], [0, 1, 2, 3], []⟩
set_option maxHeartbeats 4000000 in
theorem qqv (k : GKernel) (page mode : Int) (hs : szK k) : Fn Tryz.prog (qdy k page mode) := by
 have hse := hs.m.e
 by_cases hC : qar k
 ·have hok : okM k.Machine := hC.1.1
  by_cases hg : granted k
  ·have hcn := qwd hC hg
   by_cases hQ : qap k page ≠ 0 /\ (1 <= mode /\ mode <= 2)
   ·obtain ⟨h1, h2⟩ := hQ
    have hp := (qs2 h1).1
    obtain ⟨fo, hfo, _⟩ := qcx hok h1
    have hset : qgi k.Machine.Table page ⟨mode, (qh k.Machine.Table page).Frame⟩ := ⟨hp, .inr ⟨by show mode = 1 ∨ mode = 2; omega, by show 0 <= (qh k.Machine.Table page).Frame; omega⟩⟩
    have hS := setP hset
    have hL := q5h hset (show mode ≠ 0 by omega)
    unfold qap at h1
    have hV : qbf k page mode = (⟨⟨k.Machine.Frames, ⟨k.Machine.Table.Entries.set page.toNat ⟨mode, (qh k.Machine.Table page).Frame⟩⟩⟩, k.Calls + 1, k.Refuse⟩, true) := by
     unfold qbf qa1 qap
     rw [if_pos hC, if_pos ⟨hg, h1, h2⟩]; rfl
    refine qm qf Tryz.func159 rfl Tryz.call159 Tryz.ntmps159 Tryz.results159 rfl rfl rfl rfl ?_
    intro X ρ0 hb_ hgl_
    dsimp only [qdy]
    try refine nrm ?_
    rw [hV]
    repeat' (refine qj ?_; first | refine st1 ?_ | (first | ((first | refine qc (id := 1) qf (inps := [.call (qa8 k ⟨k.Machine, k.Calls + 1, k.Refuse⟩ true)]) rfl ?_ ?_ | refine qc (id := 2) qf (inps := [.call (yj k.Machine.Table page)]) rfl ?_ ?_ | refine qc (id := 3) qf (inps := [.call (y7 (qh k.Machine.Table page).Mode (qh k.Machine.Table page).Frame)]) rfl ?_ ?_ | refine qc (id := 5) qf (inps := [.call (qlj k.Machine page ⟨mode, (qh k.Machine.Table page).Frame⟩)]) rfl ?_ ?_ | refine qc qf (inps := []) rfl ?_ ?_); rotate_left; (try dsimp only [qa8, yj, y7, qlj]); (try refine nrm ?_); rotate_right) | refine ret3 ?_ | refine end3 ?_) | (refine ql rfl trivial ?_ ?_ <;> intro hc_ <;> (try simp only [qg, inB, reduceCtorEq, cds] at hc_) <;> (try (first | contradiction | (exfalso; omega)))) | refine qi (And.intro ?_ (wk3 ?_)))
    all_goals (first | refine qj ?_ | (try (focus ((try refine nrmO ?_); (repeat' (first | exact True.intro | apply And.intro)); all_goals (try (intro (hg_ : _ = true); (try simp only [qg, inB, reduceCtorEq, cds] at hg_); (repeat' (first | exact True.intro | apply And.intro)))); all_goals (first | exact ob1 | exact qc7 _ _ _ hs hcn | exact qae _ _ hse | exact qa3 _ _ | exact qwc _ _ _ hs.m hL | skip)))))
    all_goals (try rw [hS])
    all_goals (first | rfl | (exfalso; grind))
   ·have hV : qbf k page mode = (⟨k.Machine, k.Calls + 1, k.Refuse⟩, false) := by unfold qbf qa1; rw [if_pos hC, if_neg (fun h => hQ h.2)]; rfl
    unfold qap at hQ
    refine qm qf Tryz.func159 rfl Tryz.call159 Tryz.ntmps159 Tryz.results159 rfl rfl rfl rfl ?_
    intro X ρ0 hb_ hgl_
    dsimp only [qdy]
    try refine nrm ?_
    rw [hV]
    repeat' (refine qj ?_; first | refine st1 ?_ | (first | ((first | refine qc (id := 1) qf (inps := [.call (qa8 k ⟨k.Machine, k.Calls + 1, k.Refuse⟩ true)]) rfl ?_ ?_ | refine qc (id := 2) qf (inps := [.call (yj k.Machine.Table page)]) rfl ?_ ?_ | refine qc (id := 3) qf (inps := [.call (y7 (qh k.Machine.Table page).Mode (qh k.Machine.Table page).Frame)]) rfl ?_ ?_ | refine qc qf (inps := []) rfl ?_ ?_); rotate_left; (try dsimp only [qa8, yj, y7]); (try refine nrm ?_); rotate_right) | refine ret3 ?_ | refine end3 ?_) | (refine ql rfl trivial ?_ ?_ <;> intro hc_ <;> (try simp only [qg, inB, reduceCtorEq, cds] at hc_) <;> (try (first | contradiction | (exfalso; omega)))) | refine qi (And.intro ?_ (wk3 ?_)))
    all_goals (first | refine qj ?_ | (try (focus ((try refine nrmO ?_); (repeat' (first | exact True.intro | apply And.intro)); all_goals (try (intro (hg_ : _ = true); (try simp only [qg, inB, reduceCtorEq, cds] at hg_); (repeat' (first | exact True.intro | apply And.intro)))); all_goals (first | exact ob1 | exact qc7 _ _ _ hs hcn | exact qae _ _ hse | exact qa3 _ _ | skip)))))
    all_goals (first | rfl | (exfalso; grind))
  ·have hcn := qwe hC hg
   have hV : qbf k page mode = (⟨k.Machine, k.Calls + 1, k.Refuse⟩, false) := by unfold qbf qa1; rw [if_pos hC, if_neg (fun h => hg h.1)]; rfl
   refine qm qf Tryz.func159 rfl Tryz.call159 Tryz.ntmps159 Tryz.results159 rfl rfl rfl rfl ?_
   intro X ρ0 hb_ hgl_
   dsimp only [qdy]
   try refine nrm ?_
   rw [hV]
   repeat' (refine qj ?_; first | refine st1 ?_ | (first | ((first | refine qc (id := 1) qf (inps := [.call (qa8 k ⟨k.Machine, k.Calls + 1, k.Refuse⟩ false)]) rfl ?_ ?_ | refine qc (id := 2) qf (inps := [.call (yj k.Machine.Table page)]) rfl ?_ ?_ | refine qc (id := 3) qf (inps := [.skip (SV.one (.lit (.bool (true))))]) rfl ?_ ?_ | refine qc qf (inps := []) rfl ?_ ?_); rotate_left; (try dsimp only [qa8, yj]); (try refine nrm ?_); rotate_right) | refine ret3 ?_ | refine end3 ?_) | (refine ql rfl trivial ?_ ?_ <;> intro hc_ <;> (try simp only [qg, inB, reduceCtorEq, cds] at hc_) <;> (try (first | contradiction | (exfalso; omega)))) | refine qi (And.intro ?_ (wk3 ?_)))
   all_goals (first | refine qj ?_ | (try (focus ((try refine nrmO ?_); (repeat' (first | exact True.intro | apply And.intro)); all_goals (try (intro (hg_ : _ = true); (try simp only [qg, inB, reduceCtorEq, cds] at hg_); (repeat' (first | exact True.intro | apply And.intro)))); all_goals (first | exact ob1 | exact qc7 _ _ _ hs hcn | exact qae _ _ hse | skip)))))
   all_goals (first | rfl | (exfalso; grind))
 ·have hcn := qs3 hC
  have hV : qbf k page mode = (k, false) := by unfold qbf; rw [if_neg hC]
  refine qm qf Tryz.func159 rfl Tryz.call159 Tryz.ntmps159 Tryz.results159 rfl rfl rfl rfl ?_
  intro X ρ0 hb_ hgl_
  dsimp only [qdy]
  try refine nrm ?_
  rw [hV]
  repeat' (refine qj ?_; first | refine st1 ?_ | (first | ((first | refine qc (id := 1) qf (inps := [.call (qa8 k k false)]) rfl ?_ ?_ | refine qc (id := 2) qf (inps := [.call (yj k.Machine.Table page)]) rfl ?_ ?_ | refine qc (id := 3) qf (inps := [.skip (SV.one (.lit (.bool (true))))]) rfl ?_ ?_ | refine qc qf (inps := []) rfl ?_ ?_); rotate_left; (try dsimp only [qa8, yj]); (try refine nrm ?_); rotate_right) | refine ret3 ?_ | refine end3 ?_) | (refine ql rfl trivial ?_ ?_ <;> intro hc_ <;> (try simp only [qg, inB, reduceCtorEq, cds] at hc_) <;> (try (first | contradiction | (exfalso; omega)))) | refine qi (And.intro ?_ (wk3 ?_)))
  all_goals (first | refine qj ?_ | (try (focus ((try refine nrmO ?_); (repeat' (first | exact True.intro | apply And.intro)); all_goals (try (intro (hg_ : _ = true); (try simp only [qg, inB, reduceCtorEq, cds] at hg_); (repeat' (first | exact True.intro | apply And.intro)))); all_goals (first | exact ob1 | exact qc7 _ _ _ hs hcn | exact qae _ _ hse | skip)))))
  all_goals (first | rfl | (exfalso; grind))
def qkn (x : Int) : CFD := ⟨136, [(SV.one (.lit (.int .i64 (x))))], [], (TV.sv (.one (.lit (.bool (decide (0 <= x /\ x <= 15)))))), [], [], []⟩
theorem qx5 (x : Int) : Fn Tryz.prog (qkn x) := by
 refine qm qf Tryz.func136 rfl Tryz.call136 Tryz.ntmps136 Tryz.results136 rfl rfl rfl rfl ?_
 intro X ρ0 hb_ hgl_
 dsimp only [qkn]
 try refine nrm ?_
 repeat' (refine qj ?_; first | refine st1 ?_ | (first | ((first | refine qc qf (inps := []) rfl ?_ ?_); rotate_left; (try refine nrm ?_); rotate_right) | refine ret3 ?_ | refine end3 ?_) | (refine ql rfl trivial ?_ ?_ <;> intro hc_ <;> (try simp only [qg, inB, reduceCtorEq, cds] at hc_) <;> (try (first | contradiction | (exfalso; omega)))) | refine qi (And.intro ?_ (wk3 ?_)))
 all_goals (first | refine qj ?_ | (try (focus ((try refine nrmO ?_); (repeat' (first | exact True.intro | apply And.intro)); all_goals (try (intro (hg_ : _ = true); (try simp only [qg, inB, reduceCtorEq, cds] at hg_); (repeat' (first | exact True.intro | apply And.intro)))); all_goals (first | exact ob1 | skip)))))
 exact congrArg Value.bool (by rw [qnr, Bool.eq_iff_iff]; split <;> simp_all <;> omega)
def qfg (l : List Int) : CFD := ⟨168, [.one (ro 3 1 Tr.eI l)], [], (TV.sv (.one (.lit (.bool (decide (∀ c ∈ l, 0 <= c /\ c <= 15)))))), [], [], []⟩
theorem qoa (l : List Int) (hl : l.length <= 1048576) : Fn Tryz.prog (qfg l) := by
 refine qm qf Tryz.func168 rfl Tryz.call168 Tryz.ntmps168 Tryz.results168 rfl rfl rfl rfl ?_
 intro X ρ0 hb_ hgl_
 dsimp only [qfg]
 try refine nrm ?_
 repeat' (refine qj ?_; first | refine st1 ?_ | (first | ((first | refine qc qf (inps := []) rfl ?_ ?_); rotate_left; (try refine nrm ?_); rotate_right) | refine ret3 ?_ | refine end3 ?_) | (refine ql rfl trivial ?_ ?_ <;> intro hc_ <;> (try simp only [qg, inB, reduceCtorEq, cds] at hc_) <;> (try (first | contradiction | (exfalso; omega)))) | refine qi (And.intro ?_ (wk3 ?_)))
 all_goals (first | refine qj ?_ | (try (focus ((try refine nrmO ?_); (repeat' (first | exact True.intro | apply And.intro)); all_goals (try (intro (hg_ : _ = true); (try simp only [qg, inB, reduceCtorEq, cds] at hg_); (repeat' (first | exact True.intro | apply And.intro)))); all_goals (first | exact ob1 | skip)))))
 refine qaf 245 (by dsimp only [qay] <;> exact rfl) ?_
 refine qai (l.length) (fun i => ∀ c ∈ l.take i, 0 <= c /\ c <= 15) (fun i => [(7, (TV.sv (.one (.lit (.int .i64 (i))))))]) (fun i => []) ?_ ?_ ?_
 rotate_left
 ·first | trivial | simp
 (dsimp only [zx, yx, Int.toNat_natCast, ro, Nat.reduceAdd, Nat.reduceMul, Nat.zero_add, List.map, putT, app, zn, gOb, argT, keys, yg, dropped, gAnd, wB, rnT, rnS, rnC, rnCs, rnSs, rnM, rnB, rnN, rn, lk, St.over, ded, delL, jo, menT, jw, menS, jv, menC, hasN, resT, SV.cells]; refine wk3 ?_; (focus ((try refine nrmO ?_); (repeat' (first | exact True.intro | apply And.intro)); all_goals (try (intro (hg_ : _ = true); (try simp only [qg, inB, reduceCtorEq, cds] at hg_); (repeat' (first | exact True.intro | apply And.intro)))); all_goals (first | exact ob1 | exact rfl | skip))))
 rotate_right
 intro i hi_ hiI_
 dsimp only [zx, yx, Int.toNat_natCast, ro, Nat.reduceAdd, Nat.reduceMul, Nat.zero_add, List.map, putT, app, zn, gOb, argT, keys, yg, dropped, gAnd, wB, rnT, rnS, rnC, rnCs, rnSs, rnM, rnB, rnN, rn, lk, St.over, ded, delL, jo, menT, jw, menS, jv, menC, hasN, resT, SV.cells]
 repeat' (refine qj ?_; first | refine st1 ?_ | (first | ((first | refine qc (id := 3) qf (inps := [.elem (Tr.eI (l.getD i 0))]) rfl ?_ ?_ | refine qc (id := 4) qf (inps := [.call (qkn (l.getD i 0))]) rfl ?_ ?_ | refine qc qf (inps := []) rfl ?_ ?_); rotate_left; (try dsimp only [qkn]); (try refine nrm ?_); rotate_right) | refine ret3 ?_ | refine end3 ?_) | (refine ql rfl trivial ?_ ?_ <;> intro hc_ <;> (try simp only [qg, inB, reduceCtorEq, cds] at hc_) <;> (try (first | contradiction | (exfalso; omega)))) | refine qi (And.intro ?_ (wk3 ?_)))
 all_goals (first | refine qj ?_ | (try (focus ((try refine nrmO ?_); (repeat' (first | exact True.intro | apply And.intro)); all_goals (try (intro (hg_ : _ = true); (try simp only [qg, inB, reduceCtorEq, cds] at hg_); (repeat' (first | exact True.intro | apply And.intro)))); all_goals (first | exact ob1 | exact qx5 _ | skip)))))
 ·exact bf fun h => hc_ (h _ (getD_in (by omega)))
 ·exact qcp (p := fun c => 0 <= c /\ c <= 15) (d := 0) hiI_ (by omega) hc_
 ·exact bt (qcq (p := fun c => 0 <= c /\ c <= 15) hiI_ (by omega))
def qed (src row : List Int) (l : List Int) : List Int := l.foldl (fun r c => r.set c.toNat (src.getD c.toNat 0)) row
theorem qob (src row l : List Int) (c : Int) : qed src row (l ++ [c]) = (qed src row l).set c.toNat (src.getD c.toNat 0) := by unfold qed; rw [List.foldl_append]; rfl
theorem qpf (src : List Int) : ∀ (l row : List Int), (qed src row l).length = row.length
 | [], _ => rfl
 | c :: l, row => (qpf src l _).trans List.length_set
theorem qkc (row : List Int) (n : Nat) : row.set n (row.getD n 0) = row := by
 refine List.ext_getElem? fun j => ?_
 rw [List.getElem?_set]
 split
 ·rename_i h
  subst h
  split
  ·rename_i h; exact (getD_at h).symm
  ·rename_i h; rw [List.getElem?_eq_none (by omega)]
 ·rfl
theorem qoc (row : List Int) : ∀ (l : List Int), qed row row l = row
 | [] => rfl
 | c :: l => by
  show qed row (row.set c.toNat (row.getD c.toNat 0)) l = row
  rw [qkc]; exact qoc row l
theorem qko (a b : Int) (c : Int) : ∀ (l : List Int) (m : GMachine), copied m a b (l ++ [c]) = qag (copied m a b l) b c (cellOf (copied m a b l) a c)
 | [], m => rfl
 | x :: l, m => qko a b c l _
theorem q15 {α : Type} {p : List α -> Prop} (h0 : p []) (h1 : ∀ l x, p l -> p (l ++ [x])) (l : List α) : p l := by
 have : ∀ n (l : List α), l.length = n -> p l := by
  intro n
  induction n with
  | zero => intro l hl; rw [List.length_eq_zero_iff.1 hl]; exact h0
  | succ n ih =>
   intro l hl
   have hne : l ≠ [] := fun e => by rw [e] at hl; cases hl
   rw [← List.dropLast_concat_getLast hne]
   exact h1 _ _ (ih _ (by rw [List.length_dropLast]; omega))
 exact this _ l rfl
theorem qun (m : GMachine) (f g : Nat) (hg : g < m.Frames.Cells.length) (l : List Int) : copied m f g l = ⟨⟨m.Frames.Cells.set g (qed (m.Frames.Cells.getD f []) (m.Frames.Cells.getD g []) l), m.Frames.Used⟩, m.Table⟩ := by
 induction l using q15 with
 | h0 =>
  have e : m.Frames.Cells.set g (m.Frames.Cells.getD g []) = m.Frames.Cells := by
   refine List.ext_getElem? fun j => ?_
   rw [List.getElem?_set]
   split
   ·rename_i h; subst h; first | exact (getD_at hg).symm | (rw [if_pos hg]; exact (getD_at hg).symm)
   ·rfl
  show m = _
  unfold qed
  rw [List.foldl_nil, e]
 | h1 l c ih =>
  rw [qko, ih, qob]
  have e1 : (m.Frames.Cells.set g (qed (m.Frames.Cells.getD f []) (m.Frames.Cells.getD g []) l)).getD g [] = qed (m.Frames.Cells.getD f []) (m.Frames.Cells.getD g []) l := by
   rw [List.getD_eq_getElem?_getD, List.getElem?_set_self hg]; rfl
  have e2 : ((m.Frames.Cells.set g (qed (m.Frames.Cells.getD f []) (m.Frames.Cells.getD g []) l)).getD f []).getD c.toNat 0 = (m.Frames.Cells.getD f []).getD c.toNat 0 := by
   by_cases h : f = g
   ·subst h; rw [e1, qoc]
   ·have e3 : (m.Frames.Cells.set g (qed (m.Frames.Cells.getD f []) (m.Frames.Cells.getD g []) l)).getD f [] = m.Frames.Cells.getD f [] := by
     rw [List.getD_eq_getElem?_getD (l := m.Frames.Cells.set g _), List.getElem?_set_ne (Ne.symm h), ← List.getD_eq_getElem?_getD]
    rw [e3]
  unfold qag cellOf
  simp only [Int.toNat_natCast, e1, e2, List.set_set]
def qmt (t : GTable) (page md fr : Int) : CFD := ⟨122, [.agg [ro 42 2 xe t.Entries], (SV.one (.lit (.int .i64 (page))))], [], .sv (.agg [(CV.lit (.int .i64 (md))), (CV.lit (.int .i64 (fr)))]), [], [], []⟩
theorem qs4 (t : GTable) (page md fr : Int) (hl : t.Entries.length <= 1048576) (h1 : (qh t page).Mode = md) (h2 : (qh t page).Frame = fr) : Fn Tryz.prog (qmt t page md fr) := by
 subst h1 h2; exact qae t page hl
theorem q8y {src row l : List Int} {c : Int} (h : 0 <= c /\ c <= 15) (hr : row.length = 16) : c.toNat < (qed src row l).length := by rw [qpf]; omega
def qkp (k : GKernel) (a b : Int) (cells : List Int) : CFD := ⟨160, [.agg [ro 33 1 xw k.Machine.Frames.Cells, ro 4 1 Tr.eB k.Machine.Frames.Used, ro 42 2 xe k.Machine.Table.Entries, (CV.lit (.int .i64 (k.Calls))), ro 3 1 Tr.eI k.Refuse], (SV.one (.lit (.int .i64 (a)))), (SV.one (.lit (.int .i64 (b)))), .one (ro 3 1 Tr.eI cells)], [], .tup [.agg [.hd 0, .hd 1, .hd 2, (CV.lit (.int .i64 (((qfq k a b cells).1).Calls))), .hd 3], (SV.one (.lit (.bool ((qfq k a b cells).2))))], [(0, some (.row 33 1 (((qfq k a b cells).1).Machine.Frames.Cells.map xw))), (1, some (.row 4 1 (((qfq k a b cells).1).Machine.Frames.Used.map Tr.eB))), (2, some (.row 42 2 (((qfq k a b cells).1).Machine.Table.Entries.map xe))), (3, some (.row 3 1 (((qfq k a b cells).1).Refuse.map Tr.eI)))], [0, 1, 2, 3], []⟩
set_option maxHeartbeats 4000000 in
theorem qx6 (k : GKernel) (a b : Int) (cells : List Int) (hs : szK k) (hl : cells.length <= 1048576) : Fn Tryz.prog (qkp k a b cells) := by
 have hse := hs.m.e
 by_cases hQ : qar k /\ (qap k a ≠ 0 /\ qap k b ≠ 0) /\ (∀ c ∈ cells, 0 <= c /\ c <= 15)
 ·obtain ⟨hC, ⟨h1, h2⟩, h3⟩ := hQ
  have hok : okM k.Machine := hC.1.1
  obtain ⟨f, hf, hf1, _, hf3, _⟩ := qcx hok h1
  obtain ⟨g, hg, hg1, _, hg3, _⟩ := qcx hok h2
  unfold qap at h1 h2
  have hV : qfq k a b cells = (⟨⟨⟨k.Machine.Frames.Cells.set g (qed (k.Machine.Frames.Cells.getD f []) (k.Machine.Frames.Cells.getD g []) cells), k.Machine.Frames.Used⟩, k.Machine.Table⟩, k.Calls, k.Refuse⟩, true) := by
   unfold qfq qe7 qap
   rw [if_pos hC, if_pos ⟨⟨h1, h2⟩, h3⟩, hf, hg, qun _ _ _ hg1]
  refine qm qf Tryz.func160 rfl Tryz.call160 Tryz.ntmps160 Tryz.results160 rfl rfl rfl rfl ?_
  intro X ρ0 hb_ hgl_
  dsimp only [qkp]
  try refine nrm ?_
  rw [hV]
  repeat' (refine qj ?_; first | refine st1 ?_ | (first | ((first | refine qc (id := 1) qf (inps := [.call (qo k)]) rfl ?_ ?_ | refine qak (id := 2) (inps := [.call (qmt k.Machine.Table a (qh k.Machine.Table a).Mode f), .call (qmt k.Machine.Table b (qh k.Machine.Table b).Mode g)]) qf (by kernel_rfl) rfl rfl (by kernel_rfl) rfl rfl rfl rfl ?_ ?_ | refine qc (id := 3) qf (inps := [.call (qb9 k), .call (y7 (qh k.Machine.Table a).Mode f), .call (y7 (qh k.Machine.Table b).Mode g), .call (qfg cells)]) rfl ?_ ?_ | refine qc qf (inps := []) rfl ?_ ?_); rotate_left; (try dsimp only [qo, qmt, qfg, y7, qb9]); (try refine nrm ?_); rotate_right) | refine ret3 ?_ | refine end3 ?_) | (refine ql rfl trivial ?_ ?_ <;> intro hc_ <;> (try simp only [qg, inB, reduceCtorEq, cds] at hc_) <;> (try (first | contradiction | (exfalso; omega)))) | refine qi (And.intro ?_ (wk3 ?_)))
  all_goals (first | refine qj ?_ | (try (focus ((try refine nrmO ?_); (repeat' (first | exact True.intro | apply And.intro)); all_goals (try (intro (hg_ : _ = true); (try simp only [qg, inB, reduceCtorEq, cds] at hg_); (repeat' (first | exact True.intro | apply And.intro)))); all_goals (first | exact ob1 | exact qc0 _ hs | exact qgr _ hs | exact qs4 _ _ _ _ hse rfl hf | exact qs4 _ _ _ _ hse rfl hg | exact qa3 _ _ | exact qoa _ hl | skip)))))
  ·exfalso; grind
  ·exfalso; grind
  refine qaf 492581209267999 (by dsimp only [qay] <;> exact rfl) ?_
  refine qai (cells.length) (fun i => True) (fun i => [(48, (TV.sv (.one (.lit (.int .i64 (i))))))]) (fun i => [(17000, some (.row 33 1 ((k.Machine.Frames.Cells.map xw).set g (xw (qed (k.Machine.Frames.Cells.getD f []) (k.Machine.Frames.Cells.getD g []) (cells.take i))))))]) ?_ ?_ ?_
  rotate_left
  ·first | trivial | simp
  (dsimp only [zx, yx, Int.toNat_natCast, ro, Nat.reduceAdd, Nat.reduceMul, Nat.zero_add, List.map, putT, app, zn, gOb, argT, keys, yg, dropped, gAnd, wB, rnT, rnS, rnC, rnCs, rnSs, rnM, rnB, rnN, rn, lk, St.over, ded, delL, jo, menT, jw, menS, jv, menC, hasN, resT, SV.cells]; refine wk3 ?_; (focus ((try refine nrmO ?_); (repeat' (first | exact True.intro | apply And.intro)); all_goals (try (intro (hg_ : _ = true); (try simp only [qg, inB, reduceCtorEq, cds] at hg_); (repeat' (first | exact True.intro | apply And.intro)))); all_goals (first | exact ob1 | exact rfl | skip))))
  rotate_right
  intro i hi_ hiI_
  dsimp only [zx, yx, Int.toNat_natCast, ro, Nat.reduceAdd, Nat.reduceMul, Nat.zero_add, List.map, putT, app, zn, gOb, argT, keys, yg, dropped, gAnd, wB, rnT, rnS, rnC, rnCs, rnSs, rnM, rnB, rnN, rn, lk, St.over, ded, delL, jo, menT, jw, menS, jv, menC, hasN, resT, SV.cells]
  repeat' (refine qj ?_; first | refine st1 ?_ | (first | ((first | refine qc (id := 7) qf (inps := [.elem (Tr.eI (cells.getD i 0))]) rfl ?_ ?_ | refine qc qf (inps := []) rfl ?_ ?_); rotate_left; (try refine nrm ?_); rotate_right) | refine ret3 ?_ | refine end3 ?_) | (refine ql rfl trivial ?_ ?_ <;> intro hc_ <;> (try simp only [qg, inB, reduceCtorEq, cds] at hc_) <;> (try (first | contradiction | (exfalso; omega)))) | refine qi (And.intro ?_ (wk3 ?_)))
  all_goals (first | refine qj ?_ | (try (focus ((try refine nrmO ?_); (repeat' (first | exact True.intro | apply And.intro)); all_goals (try (intro (hg_ : _ = true); (try simp only [qg, inB, reduceCtorEq, cds] at hg_); (repeat' (first | exact True.intro | apply And.intro)))); all_goals (first | exact ob1 | skip)))))
  ·have hc := h3 _ (getD_in (l := cells) (i := i) (d := 0) (by omega))
   have hcl := q8y (src := k.Machine.Frames.Cells.getD f []) (l := cells.take i) hc hg3
   refine qj3 17000 g 0 90001 90002 (d := xw (qed (k.Machine.Frames.Cells.getD f []) (k.Machine.Frames.Cells.getD g []) (cells.take i))) ((qed (k.Machine.Frames.Cells.getD f []) (k.Machine.Frames.Cells.getD g []) (cells.take i)).map eI) rfl ?_ rfl ?_ rfl rfl rfl ?_
   ·first | exact qdo (by omega) | assumption | exact qe6 (by (try simp only [List.length_map, List.length_set]); omega) | (rw [List.getElem?_set_ne (by omega)]; exact qdo (by omega))
   ·exact ⟨rfl, rfl, by intro e he; simp only [List.mem_map] at he; obtain ⟨_, _, rfl⟩ := he; rfl⟩
   intro A_90001 n_90001 c_90001
   try refine nrm ?_
   refine qak (id := 8) (inps := [ .nest (.lit (Value.slice A_90001 n_90001 c_90001) .nil) [(0, 90002)], .elem (xw (k.Machine.Frames.Cells.getD f [])), .elem (eI ((k.Machine.Frames.Cells.getD f []).getD (cells.getD i 0).toNat 0)), .elem (eI ((qed (k.Machine.Frames.Cells.getD f []) (k.Machine.Frames.Cells.getD g []) (cells.take i)).getD (cells.getD i 0).toNat 0))]) qf (by kernel_rfl) rfl rfl (by kernel_rfl) rfl rfl rfl rfl ?_ ?_
   rotate_left
   (try refine nrm ?_)
   refine qh0 17000 g 0 90001 90002 rfl rfl rfl (qe6 ?_) rfl rfl rfl ?_
   ·(simp only [List.length_map, List.length_set]; omega)
   try refine nrm ?_
   repeat' (refine qj ?_; first | refine st1 ?_ | (first | ((first | refine qc qf (inps := []) rfl ?_ ?_); rotate_left; (try refine nrm ?_); rotate_right) | refine ret3 ?_ | refine end3 ?_) | (refine ql rfl trivial ?_ ?_ <;> intro hc_ <;> (try simp only [qg, inB, reduceCtorEq, cds] at hc_) <;> (try (first | contradiction | (exfalso; omega)))) | refine qi (And.intro ?_ (wk3 ?_)))
   all_goals (first | refine qj ?_ | (try (focus ((try refine nrmO ?_); (repeat' (first | exact True.intro | apply And.intro)); all_goals (try (intro (hg_ : _ = true); (try simp only [qg, inB, reduceCtorEq, cds] at hg_); (repeat' (first | exact True.intro | apply And.intro)))); all_goals (first | exact ob1 | skip)))))
   all_goals (try (focus ((try refine nrmO ?_); (repeat' (first | exact True.intro | apply And.intro)); all_goals (try (intro (hg_ : _ = true); (try simp only [qg, inB, reduceCtorEq, cds] at hg_); (repeat' (first | exact True.intro | apply And.intro)))); all_goals (first | exact ob1 | skip))))
   have hset : ∀ (R : List Int) (n : Nat) (o v : Int), (R.map eI).set n (dPut (eI o) 0 (D.lit (.int .i64 v) .nil)) = (R.set n v).map eI := fun R n o v => List.map_set.symm
   rw [hset, List.set_set, List.set_set, qcb cells 0 (by omega), qob]
   rfl
  ·rw [List.take_of_length_le (by omega)]; exact List.map_set.symm
  ·rw [List.take_zero]
   show k.Machine.Frames.Cells.map xw = (k.Machine.Frames.Cells.map xw).set g (xw (k.Machine.Frames.Cells.getD g []))
   rw [← List.map_set]
   congr 1
   refine List.ext_getElem? fun j => ?_
   rw [List.getElem?_set]
   split
   ·rename_i h; subst h; first | exact getD_at hg1 | (rw [if_pos hg1]; exact getD_at hg1)
   ·rfl
 ·have hV : qfq k a b cells = (k, false) := by
   unfold qfq qe7
   by_cases hC : qar k
   ·rw [if_pos hC, if_neg (fun h => hQ ⟨hC, h⟩)]
   ·rw [if_neg hC]
  unfold qap at hQ
  refine qm qf Tryz.func160 rfl Tryz.call160 Tryz.ntmps160 Tryz.results160 rfl rfl rfl rfl ?_
  intro X ρ0 hb_ hgl_
  dsimp only [qkp]
  try refine nrm ?_
  rw [hV]
  repeat' (refine qj ?_; first | refine st1 ?_ | (first | ((first | refine qc (id := 1) qf (inps := [.call (qo k)]) rfl ?_ ?_ | refine qak (id := 2) (inps := [.call (yj k.Machine.Table a), .call (yj k.Machine.Table b)]) qf (by kernel_rfl) rfl rfl (by kernel_rfl) rfl rfl rfl rfl ?_ ?_ | refine qc (id := 3) qf (inps := [.call (qb9 k), .call (y7 (qh k.Machine.Table a).Mode (qh k.Machine.Table a).Frame), .call (y7 (qh k.Machine.Table b).Mode (qh k.Machine.Table b).Frame), .call (qfg cells)]) rfl ?_ ?_ | refine qc qf (inps := []) rfl ?_ ?_); rotate_left; (try dsimp only [qo, yj, qfg, y7, qb9]); (try refine nrm ?_); rotate_right) | refine ret3 ?_ | refine end3 ?_) | (refine ql rfl trivial ?_ ?_ <;> intro hc_ <;> (try simp only [qg, inB, reduceCtorEq, cds] at hc_) <;> (try (first | contradiction | (exfalso; omega)))) | refine qi (And.intro ?_ (wk3 ?_)))
  all_goals (first | refine qj ?_ | (try (focus ((try refine nrmO ?_); (repeat' (first | exact True.intro | apply And.intro)); all_goals (try (intro (hg_ : _ = true); (try simp only [qg, inB, reduceCtorEq, cds] at hg_); (repeat' (first | exact True.intro | apply And.intro)))); all_goals (first | exact ob1 | exact qc0 _ hs | exact qgr _ hs | exact qae _ _ hse | exact qa3 _ _ | exact qoa _ hl | skip)))))
  all_goals (first | rfl | (exfalso; grind))
theorem qs5 {m : GMachine} (h : szM7 m) : szM m := ⟨h.c, h.u, h.r, h.e⟩
theorem qdi {k : GKernel} (h : szK8 k) : szK k := ⟨qs5 h.m, h.r⟩
def qb3 (k : GKernel) (page mode : Int) (k' : GKernel) (b : Bool) : CFD := ⟨159, [.agg [ro 33 1 xw k.Machine.Frames.Cells, ro 4 1 Tr.eB k.Machine.Frames.Used, ro 42 2 xe k.Machine.Table.Entries, (CV.lit (.int .i64 (k.Calls))), ro 3 1 Tr.eI k.Refuse], (SV.one (.lit (.int .i64 (page)))), (SV.one (.lit (.int .i64 (mode))))], [], .tup [.agg [.hd 0, .hd 1, .hd 2, (CV.lit (.int .i64 ((k').Calls))), .hd 3], (SV.one (.lit (.bool (b))))], [(0, some (.row 33 1 ((k').Machine.Frames.Cells.map xw))), (1, some (.row 4 1 ((k').Machine.Frames.Used.map Tr.eB))), (2, some (.row 42 2 ((k').Machine.Table.Entries.map xe))), (3, some (.row 3 1 ((k').Refuse.map Tr.eI)))], [0, 1, 2, 3], []⟩
theorem qkq (k : GKernel) (page mode : Int) (k' : GKernel) (b : Bool) (hs : szK8 k) (hc : qar k) (h : qa1 k page mode = (k', b)) : Fn Tryz.prog (qb3 k page mode k' b) := by
 have := qqv k page mode (qdi hs)
 unfold qdy qbf at this
 rw [if_pos hc, h] at this
 exact this
def qhb (k : GKernel) (page other : Int) (k' : GKernel) (b : Bool) : CFD := ⟨161, [.agg [ro 33 1 xw k.Machine.Frames.Cells, ro 4 1 Tr.eB k.Machine.Frames.Used, ro 42 2 xe k.Machine.Table.Entries, (CV.lit (.int .i64 (k.Calls))), ro 3 1 Tr.eI k.Refuse], (SV.one (.lit (.int .i64 (page)))), (SV.one (.lit (.int .i64 (other))))], [], .tup [.agg [.hd 0, .hd 1, .hd 2, (CV.lit (.int .i64 ((k').Calls))), .hd 3], (SV.one (.lit (.bool (b))))], [(0, some (.row 33 1 ((k').Machine.Frames.Cells.map xw))), (1, some (.row 4 1 ((k').Machine.Frames.Used.map Tr.eB))), (2, some (.row 42 2 ((k').Machine.Table.Entries.map xe))), (3, some (.row 3 1 ((k').Refuse.map Tr.eI)))], [0, 1, 2, 3], []⟩
theorem qwf (k : GKernel) (page other : Int) (k' : GKernel) (b : Bool) (hs : szK8 k) (hc : qar k) (h : pOn k page other = (k', b)) : Fn Tryz.prog (qhb k page other k' b) := by
 have := qum k page other (qdi hs)
 unfold qek qbz at this
 rw [if_pos hc, h] at this
 exact this
def qhc (k : GKernel) (a b : Int) (cells : List Int) (k' : GKernel) (r : Bool) : CFD := ⟨160, [.agg [ro 33 1 xw k.Machine.Frames.Cells, ro 4 1 Tr.eB k.Machine.Frames.Used, ro 42 2 xe k.Machine.Table.Entries, (CV.lit (.int .i64 (k.Calls))), ro 3 1 Tr.eI k.Refuse], (SV.one (.lit (.int .i64 (a)))), (SV.one (.lit (.int .i64 (b)))), .one (ro 3 1 Tr.eI cells)], [], .tup [.agg [.hd 0, .hd 1, .hd 2, (CV.lit (.int .i64 ((k').Calls))), .hd 3], (SV.one (.lit (.bool (r))))], [(0, some (.row 33 1 ((k').Machine.Frames.Cells.map xw))), (1, some (.row 4 1 ((k').Machine.Frames.Used.map Tr.eB))), (2, some (.row 42 2 ((k').Machine.Table.Entries.map xe))), (3, some (.row 3 1 ((k').Refuse.map Tr.eI)))], [0, 1, 2, 3], []⟩
theorem q17 (k : GKernel) (a b : Int) (cells : List Int) (k' : GKernel) (r : Bool) (hs : szK8 k) (hl : cells.length <= 1048576) (hc : qar k) (h : qe7 k a b cells = (k', r)) : Fn Tryz.prog (qhc k a b cells k' r) := by
 have := qx6 k a b cells (qdi hs) hl
 unfold qkp qfq at this
 rw [if_pos hc, h] at this
 exact this
def qdc (s : Se) (m : GMachine) (addr v : Int) (m' : GMachine) (x : Int) : CFD := ⟨53, [.agg [ro 33 1 xw m.Frames.Cells, ro 4 1 Tr.eB m.Frames.Used, ro 42 2 xe m.Table.Entries], (SV.one (.lit (.int .i64 (addr)))), (SV.one (.lit (.int .i64 (v))))], [], .tup [.agg [.hd 0, .hd 1, .hd 2], (SV.one (.lit (.int .i64 (x))))], [(0, some (.row 33 1 ((m').Frames.Cells.map xw))), (1, some (.row 4 1 ((m').Frames.Used.map Tr.eB))), (2, some (.row 42 2 ((m').Table.Entries.map xe)))], [0, 1, 2], s.gl⟩
theorem qwg (s : Se) (m : GMachine) (addr v : Int) (m' : GMachine) (x : Int) (hs : szM7 m) (ha : okI addr) (h : qaa m addr v = (m', x)) : Fn Tryz.prog (qdc s m addr v m' x) := by
 have := qxz s m addr v (qs5 hs) ha
 unfold qgq at this
 rw [h] at this
 exact this
def wo (k : GKernel) (j : GJob) : CFD := ⟨85, [.agg [ro 33 1 xw k.Machine.Frames.Cells, ro 4 1 Tr.eB k.Machine.Frames.Used, ro 42 2 xe k.Machine.Table.Entries, (CV.lit (.int .i64 (k.Calls))), ro 3 1 Tr.eI k.Refuse], .agg [(CV.lit (.int .i64 (j.Plan.Keep))), (CV.lit (.int .i64 (j.Plan.Move))), ro 3 1 Tr.eI j.Plan.Cells, (CV.lit (.int .i64 (j.Phase))), (CV.lit (.int .i64 (j.Next)))]], [], (TV.sv (.one (.lit (.bool (decide (mayJ k j)))))), [], [], []⟩
theorem q18 (k : GKernel) (j : GJob) (hs : szK8 k) (hl : j.Plan.Cells.length <= 1048576) : Fn Tryz.prog (wo k j) := by
 have hF := hs.m.e
 refine qm qf Tryz.func85 rfl Tryz.call85 Tryz.ntmps85 Tryz.results85 rfl rfl rfl rfl ?_
 intro X ρ0 hb_ hgl_
 dsimp only [wo]
 try refine nrm ?_
 repeat' (refine qj ?_; first | refine st1 ?_ | (refine yc (id := 1) qf (by kernel_rfl) [.call (yj k.Machine.Table j.Plan.Keep), .call (yj k.Machine.Table j.Plan.Move)] ?_; refine qp ?_; intro K_ hK_; repeat' (first | ((first | refine x8 ?_ | refine x9 ?_ | refine xy ?_); refine qp ?_; intro K_ hK_; (try dsimp only [qgu, yj, y7, qb9]); (try refine nrmE ?_)) | (refine zg ?_; (repeat subst hK_); dsimp only; refine Exists.intro _ (And.intro rfl (And.intro (by kernel_rfl) (And.intro ?_ ?_))); rotate_left; (try dsimp only [qgu, yj, y7, qb9]); (try refine nrm ?_); rotate_right))) | (first | ((first | refine qc (id := 2) qf (inps := [.call (qb9 k), .call (qgu j), .call (y7 (qh k.Machine.Table j.Plan.Keep).Mode (qh k.Machine.Table j.Plan.Keep).Frame), .call (y7 (qh k.Machine.Table j.Plan.Move).Mode (qh k.Machine.Table j.Plan.Move).Frame)]) rfl ?_ ?_ | refine qc qf (inps := []) rfl ?_ ?_); rotate_left; (try dsimp only [qgu, yj, y7, qb9]); (try refine nrm ?_); rotate_right) | refine ret3 ?_ | refine end3 ?_) | (refine ql rfl trivial ?_ ?_ <;> intro hc_ <;> (try simp only [qg, inB, reduceCtorEq, cds] at hc_) <;> (try (first | contradiction | (exfalso; omega)))) | refine qi (And.intro ?_ (wk3 ?_)))
 all_goals (first | refine qj ?_ | (try (focus ((try refine nrmO ?_); (repeat' (first | exact True.intro | apply And.intro)); all_goals (try (intro (hg_ : _ = true); (try simp only [qg, inB, reduceCtorEq, cds] at hg_); (repeat' (first | exact True.intro | apply And.intro)))); all_goals (first | exact ob1 | exact qae _ _ hF | exact qgr k (qdi hs) | exact qx4 j hl | exact qa3 _ _ | skip)))))
 refine congrArg Value.bool ?_
 rw [Bool.eq_iff_iff, decide_eq_true_iff]
 simp only [Bool.cond_false_right, Bool.and_eq_true, decide_eq_true_eq, bne_iff_ne, qt0]
 exact ⟨fun h => ⟨h.1.1.1.1, h.1.1.1.2, h.1.1.2, h.1.2, h.2⟩, fun h => ⟨⟨⟨⟨h.1, h.2.1⟩, h.2.2.1⟩, h.2.2.2.1⟩, h.2.2.2.2⟩⟩
def yf : CFD := ⟨86, [], [], .sv (.agg [.lit (.func (.func 125) #[] #[]), .lit (.func (.func 126) #[] #[]), .lit (.func (.func 127) #[] #[]), .lit (.func (.func 128) #[] #[]), .lit (.func (.func 129) #[] #[]), .lit (.func (.func 129) #[] #[])]), [], [], []⟩
theorem qdz : Fn Tryz.prog yf := by
 refine qm qf Tryz.func86 rfl Tryz.call86 Tryz.ntmps86 Tryz.results86 rfl rfl rfl rfl ?_
 intro X ρ0 hb_ hgl_
 dsimp only [yf]
 try refine nrm ?_
 repeat' (refine qj ?_; first | refine st1 ?_ | (first | ((first | refine qc qf (inps := []) rfl ?_ ?_); rotate_left; (try refine nrm ?_); rotate_right) | refine ret3 ?_ | refine end3 ?_) | (refine ql rfl trivial ?_ ?_ <;> intro hc_ <;> (try simp only [qg, inB, reduceCtorEq, cds] at hc_) <;> (try (first | contradiction | (exfalso; omega)))) | refine qi (And.intro ?_ (wk3 ?_)))
 all_goals (first | refine qj ?_ | (try (focus ((try refine nrmO ?_); (repeat' (first | exact True.intro | apply And.intro)); all_goals (try (intro (hg_ : _ = true); (try simp only [qg, inB, reduceCtorEq, cds] at hg_); (repeat' (first | exact True.intro | apply And.intro)))); all_goals (first | exact ob1 | skip)))))
 all_goals trace_state
def qd9 (k : GKernel) (j : GJob) (k' : GKernel) (j' : GJob) : CFD := ⟨125, [.agg [.hd 901, .hd 902, .hd 903, (CV.lit (.int .i64 (k.Calls))), .hd 904], .agg [(CV.lit (.int .i64 (j.Plan.Keep))), (CV.lit (.int .i64 (j.Plan.Move))), .hd 906, (CV.lit (.int .i64 (j.Phase))), (CV.lit (.int .i64 (j.Next)))]], [(901, some (.row 33 1 (k.Machine.Frames.Cells.map xw))), (902, some (.row 4 1 (k.Machine.Frames.Used.map Tr.eB))), (903, some (.row 42 2 (k.Machine.Table.Entries.map xe))), (904, some (.row 3 1 (k.Refuse.map Tr.eI))), (906, some (.row 3 1 (j.Plan.Cells.map Tr.eI)))], .tup [.agg [.hd 911, .hd 912, .hd 913, (CV.lit (.int .i64 ((k').Calls))), .hd 914], .agg [(CV.lit (.int .i64 ((j').Plan.Keep))), (CV.lit (.int .i64 ((j').Plan.Move))), .hd 906, (CV.lit (.int .i64 ((j').Phase))), (CV.lit (.int .i64 ((j').Next)))]], [(911, some (.row 33 1 ((k').Machine.Frames.Cells.map xw))), (912, some (.row 4 1 ((k').Machine.Frames.Used.map Tr.eB))), (913, some (.row 42 2 ((k').Machine.Table.Entries.map xe))), (914, some (.row 3 1 ((k').Refuse.map Tr.eI))), (906, some (.row 3 1 ((j').Plan.Cells.map Tr.eI)))], [911, 912, 913, 914], []⟩
theorem q19 (k : GKernel) (j : GJob) (k' : GKernel) (j' : GJob) (hs : szK8 k) (hc : qar k) (h : ((qa1 k j.Plan.Move 1).1, (⟨j.Plan, if (qa1 k j.Plan.Move 1).2 = true then 1 else 5, j.Next⟩ : GJob)) = (k', j')) : Fn Tryz.prog (qd9 k j k' j') := by
 obtain ⟨r, hr⟩ : ∃ r, qa1 k j.Plan.Move 1 = r := ⟨_, rfl⟩
 obtain ⟨k1, b⟩ := r
 rw [hr] at h
 obtain ⟨rfl, rfl⟩ := Prod.mk.inj h
 cases b with
 | true =>
  refine qm qf Tryz.func125 rfl Tryz.call125 Tryz.ntmps125 Tryz.results125 rfl rfl rfl rfl ?_
  intro X ρ0 hb_ hgl_
  dsimp only [qd9]
  try refine nrm ?_
  repeat' (refine qj ?_; first | refine st1 ?_ | (refine yc (id := 5) qf (by kernel_rfl) [] ?_; refine qp ?_; intro K_ hK_; repeat' (first | ((first | refine x8 ?_ | refine x9 ?_ | refine xy ?_); refine qp ?_; intro K_ hK_; (try dsimp only [qb3]); (try refine nrmE ?_)) | (refine zg ?_; (repeat subst hK_); dsimp only; refine Exists.intro _ (And.intro rfl (And.intro (by kernel_rfl) (And.intro ?_ ?_))); rotate_left; (try dsimp only [qb3]); (try refine nrm ?_); rotate_right))) | (first | ((first | refine qc (id := 1) qf (inps := [.call (qb3 k j.Plan.Move 1 k1 true)]) rfl ?_ ?_ | refine qc qf (inps := []) rfl ?_ ?_); rotate_left; (try dsimp only [qb3]); (try refine nrm ?_); rotate_right) | refine ret3 ?_ | refine end3 ?_) | (refine ql rfl trivial ?_ ?_ <;> intro hc_ <;> (try simp only [qg, inB, reduceCtorEq, cds] at hc_) <;> (try (first | contradiction | (exfalso; omega)))) | refine qi (And.intro ?_ (wk3 ?_)))
  all_goals (first | refine qj ?_ | (try (focus ((try refine nrmO ?_); (repeat' (first | exact True.intro | apply And.intro)); all_goals (try (intro (hg_ : _ = true); (try simp only [qg, inB, reduceCtorEq, cds] at hg_); (repeat' (first | exact True.intro | apply And.intro)))); all_goals (first | exact ob1 | exact qkq _ _ _ _ _ hs hc hr | skip)))))
  all_goals first | rfl | trace_state
 | false =>
  refine qm qf Tryz.func125 rfl Tryz.call125 Tryz.ntmps125 Tryz.results125 rfl rfl rfl rfl ?_
  intro X ρ0 hb_ hgl_
  dsimp only [qd9]
  try refine nrm ?_
  repeat' (refine qj ?_; first | refine st1 ?_ | (refine yc (id := 5) qf (by kernel_rfl) [] ?_; refine qp ?_; intro K_ hK_; repeat' (first | ((first | refine x8 ?_ | refine x9 ?_ | refine xy ?_); refine qp ?_; intro K_ hK_; (try dsimp only [qb3]); (try refine nrmE ?_)) | (refine zg ?_; (repeat subst hK_); dsimp only; refine Exists.intro _ (And.intro rfl (And.intro (by kernel_rfl) (And.intro ?_ ?_))); rotate_left; (try dsimp only [qb3]); (try refine nrm ?_); rotate_right))) | (first | ((first | refine qc (id := 1) qf (inps := [.call (qb3 k j.Plan.Move 1 k1 false)]) rfl ?_ ?_ | refine qc qf (inps := []) rfl ?_ ?_); rotate_left; (try dsimp only [qb3]); (try refine nrm ?_); rotate_right) | refine ret3 ?_ | refine end3 ?_) | (refine ql rfl trivial ?_ ?_ <;> intro hc_ <;> (try simp only [qg, inB, reduceCtorEq, cds] at hc_) <;> (try (first | contradiction | (exfalso; omega)))) | refine qi (And.intro ?_ (wk3 ?_)))
  all_goals (first | refine qj ?_ | (try (focus ((try refine nrmO ?_); (repeat' (first | exact True.intro | apply And.intro)); all_goals (try (intro (hg_ : _ = true); (try simp only [qg, inB, reduceCtorEq, cds] at hg_); (repeat' (first | exact True.intro | apply And.intro)))); all_goals (first | exact ob1 | exact qkq _ _ _ _ _ hs hc hr | skip)))))
  all_goals first | rfl | trace_state
def qer (k : GKernel) (j : GJob) (j' : GJob) : CFD := ⟨126, [.agg [.hd 901, .hd 902, .hd 903, (CV.lit (.int .i64 (k.Calls))), .hd 904], .agg [(CV.lit (.int .i64 (j.Plan.Keep))), (CV.lit (.int .i64 (j.Plan.Move))), .hd 906, (CV.lit (.int .i64 (j.Phase))), (CV.lit (.int .i64 (j.Next)))]], [(901, some (.row 33 1 (k.Machine.Frames.Cells.map xw))), (902, some (.row 4 1 (k.Machine.Frames.Used.map Tr.eB))), (903, some (.row 42 2 (k.Machine.Table.Entries.map xe))), (904, some (.row 3 1 (k.Refuse.map Tr.eI))), (906, some (.row 3 1 (j.Plan.Cells.map Tr.eI)))], .tup [.agg [.hd 901, .hd 902, .hd 903, (CV.lit (.int .i64 (k.Calls))), .hd 904], .agg [(CV.lit (.int .i64 ((j').Plan.Keep))), (CV.lit (.int .i64 ((j').Plan.Move))), .hd 906, (CV.lit (.int .i64 ((j').Phase))), (CV.lit (.int .i64 ((j').Next)))]], [(901, some (.row 33 1 (k.Machine.Frames.Cells.map xw))), (902, some (.row 4 1 (k.Machine.Frames.Used.map Tr.eB))), (903, some (.row 42 2 (k.Machine.Table.Entries.map xe))), (904, some (.row 3 1 (k.Refuse.map Tr.eI))), (906, some (.row 3 1 ((j').Plan.Cells.map Tr.eI)))], [], []⟩
theorem q2a (k : GKernel) (j : GJob) (hn : j.Next = (j.Plan.Cells.length : Int)) : Fn Tryz.prog (qer k j ⟨j.Plan, 2, j.Next⟩) := by
 refine qm qf Tryz.func126 rfl Tryz.call126 Tryz.ntmps126 Tryz.results126 rfl rfl rfl rfl ?_
 intro X ρ0 hb_ hgl_
 dsimp only [qer]
 try refine nrm ?_
 repeat' (refine qj ?_; first | refine st1 ?_ | (refine yc (id := 3) qf (by kernel_rfl) [] ?_; refine qp ?_; intro K_ hK_; repeat' (first | ((first | refine x8 ?_ | refine x9 ?_ | refine xy ?_); refine qp ?_; intro K_ hK_; (try refine nrmE ?_)) | (refine zg ?_; (repeat subst hK_); dsimp only; refine Exists.intro _ (And.intro rfl (And.intro (by kernel_rfl) (And.intro ?_ ?_))); rotate_left; (try refine nrm ?_); rotate_right))) | (first | ((first | refine qc qf (inps := []) rfl ?_ ?_); rotate_left; (try refine nrm ?_); rotate_right) | refine ret3 ?_ | refine end3 ?_) | (refine ql rfl trivial ?_ ?_ <;> intro hc_ <;> (try simp only [qg, inB, reduceCtorEq, cds] at hc_) <;> (try (first | contradiction | (exfalso; omega) | (exfalso; (rw [List.length_map] at hc_; omega))))) | refine qi (And.intro ?_ (wk3 ?_)))
 all_goals (first | refine qj ?_ | (try (focus ((try refine nrmO ?_); (repeat' (first | exact True.intro | apply And.intro)); all_goals (try (intro (hg_ : _ = true); (try simp only [qg, inB, reduceCtorEq, cds] at hg_); (repeat' (first | exact True.intro | apply And.intro)))); all_goals (first | exact ob1 | exact rfl | skip)))))
 all_goals first | rfl | trace_state
def qes (k : GKernel) (j : GJob) (k' : GKernel) (j' : GJob) : CFD := ⟨126, [.agg [.hd 901, .hd 902, .hd 903, (CV.lit (.int .i64 (k.Calls))), .hd 904], .agg [(CV.lit (.int .i64 (j.Plan.Keep))), (CV.lit (.int .i64 (j.Plan.Move))), .hd 906, (CV.lit (.int .i64 (j.Phase))), (CV.lit (.int .i64 (j.Next)))]], [(901, some (.row 33 1 (k.Machine.Frames.Cells.map xw))), (902, some (.row 4 1 (k.Machine.Frames.Used.map Tr.eB))), (903, some (.row 42 2 (k.Machine.Table.Entries.map xe))), (904, some (.row 3 1 (k.Refuse.map Tr.eI))), (906, some (.row 3 1 (j.Plan.Cells.map Tr.eI)))], .tup [.agg [.hd 911, .hd 912, .hd 913, (CV.lit (.int .i64 ((k').Calls))), .hd 914], .agg [(CV.lit (.int .i64 ((j').Plan.Keep))), (CV.lit (.int .i64 ((j').Plan.Move))), .hd 906, (CV.lit (.int .i64 ((j').Phase))), (CV.lit (.int .i64 ((j').Next)))]], [(911, some (.row 33 1 ((k').Machine.Frames.Cells.map xw))), (912, some (.row 4 1 ((k').Machine.Frames.Used.map Tr.eB))), (913, some (.row 42 2 ((k').Machine.Table.Entries.map xe))), (914, some (.row 3 1 ((k').Refuse.map Tr.eI))), (906, some (.row 3 1 ((j').Plan.Cells.map Tr.eI)))], [911, 912, 913, 914], []⟩
theorem qx7 {l : List Int} {n : Int} (h0 : 0 <= n) (h : n < (l.length : Int)) : ((l.map Tr.eI).take (n + 1).toNat).drop n.toNat = [l.getD n.toNat 0].map Tr.eI := by
 obtain ⟨i, rfl⟩ := Int.eq_ofNat_of_zero_le h0
 rw [show ((i : Int) + 1).toNat = i + 1 by omega, Int.toNat_natCast, ← List.map_take, qcb l 0 (by omega), List.map_append, List.drop_append_of_le_length (by rw [List.length_map, List.length_take]; omega), List.drop_of_length_le (by rw [List.length_map, List.length_take]; omega)]
 rfl
theorem q2b (k : GKernel) (j : GJob) (k1 : GKernel) (b : Bool) (hs : szK8 k) (hc : qar k) (h0 : 0 <= j.Next) (hn : j.Next < (j.Plan.Cells.length : Int)) (hl : j.Plan.Cells.length <= 1048576) (hr : qe7 k j.Plan.Move j.Plan.Keep [qhd j j.Next] = (k1, b)) : Fn Tryz.prog (qes k j k1 ⟨j.Plan, j.Phase, j.Next + 1⟩) := by
 have ht := qx7 h0 hn
 rw [show (j.Next + 1).toNat = j.Next.toNat + ((j.Next + 1).toNat - j.Next.toNat) by omega] at ht
 have ht2 := congrArg D.cat ht
 have hF := q17 k j.Plan.Move j.Plan.Keep [qhd j j.Next] k1 b hs (by show 1 <= 1048576; decide) hc hr
 refine qm qf Tryz.func126 rfl Tryz.call126 Tryz.ntmps126 Tryz.results126 rfl rfl rfl rfl ?_
 intro X ρ0 hb_ hgl_
 dsimp only [qes]
 try refine nrm ?_
 repeat' (refine qj ?_; first | refine st1 ?_ | (refine yc (id := 4) qf (by kernel_rfl) [.keep, .call (qhc k j.Plan.Move j.Plan.Keep [qhd j j.Next] k1 b)] ?_; refine qp ?_; intro K_ hK_; repeat' (first | ((first | refine x8 ?_ | refine x9 ?_ | refine xy ?_); refine qp ?_; intro K_ hK_; (try dsimp only [qhc]); (try refine nrmE ?_)) | (refine zg ?_; (repeat subst hK_); dsimp only; refine Exists.intro _ (And.intro rfl (And.intro (by kernel_rfl) (And.intro ?_ ?_))); rotate_left; (try dsimp only [qhc]); (try refine nrm ?_); rotate_right))) | (refine yc (id := 6) qf (by kernel_rfl) [] ?_; refine qp ?_; intro K_ hK_; repeat' (first | ((first | refine x8 ?_ | refine x9 ?_ | refine xy ?_); refine qp ?_; intro K_ hK_; (try dsimp only [qhc]); (try refine nrmE ?_)) | (refine zg ?_; (repeat subst hK_); dsimp only; refine Exists.intro _ (And.intro rfl (And.intro (by kernel_rfl) (And.intro ?_ ?_))); rotate_left; (try dsimp only [qhc]); (try refine nrm ?_); rotate_right))) | (first | ((first | refine qc qf (inps := []) rfl ?_ ?_); rotate_left; (try dsimp only [qhc]); (try refine nrm ?_); rotate_right) | refine ret3 ?_ | refine end3 ?_) | (refine ql rfl trivial ?_ ?_ <;> intro hc_ <;> (try simp only [qg, inB, reduceCtorEq, cds] at hc_) <;> (try (first | contradiction | (exfalso; omega) | (exfalso; (rw [List.length_map] at hc_; omega))))) | refine qi (And.intro ?_ (wk3 ?_)))
 all_goals (first | refine qj ?_ | (try (focus ((try refine nrmO ?_); (repeat' (first | exact True.intro | apply And.intro)); all_goals (try (intro (hg_ : _ = true); (try simp only [qg, inB, reduceCtorEq, cds] at hg_); (repeat' (first | exact True.intro | apply And.intro)))); all_goals (first | exact ob1 | exact hF | exact ht2 | skip)))))
 all_goals first | rfl | trace_state
def qea (k : GKernel) (j : GJob) (k' : GKernel) (j' : GJob) : CFD := ⟨127, [.agg [.hd 901, .hd 902, .hd 903, (CV.lit (.int .i64 (k.Calls))), .hd 904], .agg [(CV.lit (.int .i64 (j.Plan.Keep))), (CV.lit (.int .i64 (j.Plan.Move))), .hd 906, (CV.lit (.int .i64 (j.Phase))), (CV.lit (.int .i64 (j.Next)))]], [(901, some (.row 33 1 (k.Machine.Frames.Cells.map xw))), (902, some (.row 4 1 (k.Machine.Frames.Used.map Tr.eB))), (903, some (.row 42 2 (k.Machine.Table.Entries.map xe))), (904, some (.row 3 1 (k.Refuse.map Tr.eI))), (906, some (.row 3 1 (j.Plan.Cells.map Tr.eI)))], .tup [.agg [.hd 911, .hd 912, .hd 913, (CV.lit (.int .i64 ((k').Calls))), .hd 914], .agg [(CV.lit (.int .i64 ((j').Plan.Keep))), (CV.lit (.int .i64 ((j').Plan.Move))), .hd 906, (CV.lit (.int .i64 ((j').Phase))), (CV.lit (.int .i64 ((j').Next)))]], [(911, some (.row 33 1 ((k').Machine.Frames.Cells.map xw))), (912, some (.row 4 1 ((k').Machine.Frames.Used.map Tr.eB))), (913, some (.row 42 2 ((k').Machine.Table.Entries.map xe))), (914, some (.row 3 1 ((k').Refuse.map Tr.eI))), (906, some (.row 3 1 ((j').Plan.Cells.map Tr.eI)))], [911, 912, 913, 914], []⟩
theorem q2c (k : GKernel) (j : GJob) (k' : GKernel) (j' : GJob) (hs : szK8 k) (hc : qar k) (h : ((pOn k j.Plan.Move j.Plan.Keep).1, (⟨j.Plan, if (pOn k j.Plan.Move j.Plan.Keep).2 = true then 4 else 3, j.Next⟩ : GJob)) = (k', j')) : Fn Tryz.prog (qea k j k' j') := by
 obtain ⟨r, hr⟩ : ∃ r, pOn k j.Plan.Move j.Plan.Keep = r := ⟨_, rfl⟩
 obtain ⟨k1, b⟩ := r
 rw [hr] at h
 obtain ⟨rfl, rfl⟩ := Prod.mk.inj h
 cases b with
 | true =>
  refine qm qf Tryz.func127 rfl Tryz.call127 Tryz.ntmps127 Tryz.results127 rfl rfl rfl rfl ?_
  intro X ρ0 hb_ hgl_
  dsimp only [qea]
  try refine nrm ?_
  repeat' (refine qj ?_; first | refine st1 ?_ | (refine yc (id := 5) qf (by kernel_rfl) [] ?_; refine qp ?_; intro K_ hK_; repeat' (first | ((first | refine x8 ?_ | refine x9 ?_ | refine xy ?_); refine qp ?_; intro K_ hK_; (try dsimp only [qhb]); (try refine nrmE ?_)) | (refine zg ?_; (repeat subst hK_); dsimp only; refine Exists.intro _ (And.intro rfl (And.intro (by kernel_rfl) (And.intro ?_ ?_))); rotate_left; (try dsimp only [qhb]); (try refine nrm ?_); rotate_right))) | (first | ((first | refine qc (id := 1) qf (inps := [.call (qhb k j.Plan.Move j.Plan.Keep k1 true)]) rfl ?_ ?_ | refine qc qf (inps := []) rfl ?_ ?_); rotate_left; (try dsimp only [qhb]); (try refine nrm ?_); rotate_right) | refine ret3 ?_ | refine end3 ?_) | (refine ql rfl trivial ?_ ?_ <;> intro hc_ <;> (try simp only [qg, inB, reduceCtorEq, cds] at hc_) <;> (try (first | contradiction | (exfalso; omega)))) | refine qi (And.intro ?_ (wk3 ?_)))
  all_goals (first | refine qj ?_ | (try (focus ((try refine nrmO ?_); (repeat' (first | exact True.intro | apply And.intro)); all_goals (try (intro (hg_ : _ = true); (try simp only [qg, inB, reduceCtorEq, cds] at hg_); (repeat' (first | exact True.intro | apply And.intro)))); all_goals (first | exact ob1 | exact qwf _ _ _ _ _ hs hc hr | skip)))))
  all_goals first | rfl | trace_state
 | false =>
  refine qm qf Tryz.func127 rfl Tryz.call127 Tryz.ntmps127 Tryz.results127 rfl rfl rfl rfl ?_
  intro X ρ0 hb_ hgl_
  dsimp only [qea]
  try refine nrm ?_
  repeat' (refine qj ?_; first | refine st1 ?_ | (refine yc (id := 5) qf (by kernel_rfl) [] ?_; refine qp ?_; intro K_ hK_; repeat' (first | ((first | refine x8 ?_ | refine x9 ?_ | refine xy ?_); refine qp ?_; intro K_ hK_; (try dsimp only [qhb]); (try refine nrmE ?_)) | (refine zg ?_; (repeat subst hK_); dsimp only; refine Exists.intro _ (And.intro rfl (And.intro (by kernel_rfl) (And.intro ?_ ?_))); rotate_left; (try dsimp only [qhb]); (try refine nrm ?_); rotate_right))) | (first | ((first | refine qc (id := 1) qf (inps := [.call (qhb k j.Plan.Move j.Plan.Keep k1 false)]) rfl ?_ ?_ | refine qc qf (inps := []) rfl ?_ ?_); rotate_left; (try dsimp only [qhb]); (try refine nrm ?_); rotate_right) | refine ret3 ?_ | refine end3 ?_) | (refine ql rfl trivial ?_ ?_ <;> intro hc_ <;> (try simp only [qg, inB, reduceCtorEq, cds] at hc_) <;> (try (first | contradiction | (exfalso; omega)))) | refine qi (And.intro ?_ (wk3 ?_)))
  all_goals (first | refine qj ?_ | (try (focus ((try refine nrmO ?_); (repeat' (first | exact True.intro | apply And.intro)); all_goals (try (intro (hg_ : _ = true); (try simp only [qg, inB, reduceCtorEq, cds] at hg_); (repeat' (first | exact True.intro | apply And.intro)))); all_goals (first | exact ob1 | exact qwf _ _ _ _ _ hs hc hr | skip)))))
  all_goals first | rfl | trace_state
def qeb (k : GKernel) (j : GJob) (k' : GKernel) (j' : GJob) : CFD := ⟨128, [.agg [.hd 901, .hd 902, .hd 903, (CV.lit (.int .i64 (k.Calls))), .hd 904], .agg [(CV.lit (.int .i64 (j.Plan.Keep))), (CV.lit (.int .i64 (j.Plan.Move))), .hd 906, (CV.lit (.int .i64 (j.Phase))), (CV.lit (.int .i64 (j.Next)))]], [(901, some (.row 33 1 (k.Machine.Frames.Cells.map xw))), (902, some (.row 4 1 (k.Machine.Frames.Used.map Tr.eB))), (903, some (.row 42 2 (k.Machine.Table.Entries.map xe))), (904, some (.row 3 1 (k.Refuse.map Tr.eI))), (906, some (.row 3 1 (j.Plan.Cells.map Tr.eI)))], .tup [.agg [.hd 911, .hd 912, .hd 913, (CV.lit (.int .i64 ((k').Calls))), .hd 914], .agg [(CV.lit (.int .i64 ((j').Plan.Keep))), (CV.lit (.int .i64 ((j').Plan.Move))), .hd 906, (CV.lit (.int .i64 ((j').Phase))), (CV.lit (.int .i64 ((j').Next)))]], [(911, some (.row 33 1 ((k').Machine.Frames.Cells.map xw))), (912, some (.row 4 1 ((k').Machine.Frames.Used.map Tr.eB))), (913, some (.row 42 2 ((k').Machine.Table.Entries.map xe))), (914, some (.row 3 1 ((k').Refuse.map Tr.eI))), (906, some (.row 3 1 ((j').Plan.Cells.map Tr.eI)))], [911, 912, 913, 914], []⟩
theorem q2d (k : GKernel) (j : GJob) (k' : GKernel) (j' : GJob) (hs : szK8 k) (hc : qar k) (hn : ¬ 0 < j.Next) (h : ((qa1 k j.Plan.Move 2).1, (⟨j.Plan, if (qa1 k j.Plan.Move 2).2 = true then 5 else j.Phase, j.Next⟩ : GJob)) = (k', j')) : Fn Tryz.prog (qeb k j k' j') := by
 obtain ⟨r, hr⟩ : ∃ r, qa1 k j.Plan.Move 2 = r := ⟨_, rfl⟩
 obtain ⟨k1, b⟩ := r
 rw [hr] at h
 obtain ⟨rfl, rfl⟩ := Prod.mk.inj h
 cases b with
 | true =>
  refine qm qf Tryz.func128 rfl Tryz.call128 Tryz.ntmps128 Tryz.results128 rfl rfl rfl rfl ?_
  intro X ρ0 hb_ hgl_
  dsimp only [qeb]
  try refine nrm ?_
  repeat' (refine qj ?_; first | refine st1 ?_ | (refine yc (id := 8) qf (by kernel_rfl) [] ?_; refine qp ?_; intro K_ hK_; repeat' (first | ((first | refine x8 ?_ | refine x9 ?_ | refine xy ?_); refine qp ?_; intro K_ hK_; (try dsimp only [qb3]); (try refine nrmE ?_)) | (refine zg ?_; (repeat subst hK_); dsimp only; refine Exists.intro _ (And.intro rfl (And.intro (by kernel_rfl) (And.intro ?_ ?_))); rotate_left; (try dsimp only [qb3]); (try refine nrm ?_); rotate_right))) | (first | ((first | refine qc (id := 5) qf (inps := [.call (qb3 k j.Plan.Move 2 k1 true)]) rfl ?_ ?_ | refine qc qf (inps := []) rfl ?_ ?_); rotate_left; (try dsimp only [qb3]); (try refine nrm ?_); rotate_right) | refine ret3 ?_ | refine end3 ?_) | (refine ql rfl trivial ?_ ?_ <;> intro hc_ <;> (try simp only [qg, inB, reduceCtorEq, cds] at hc_) <;> (try (first | contradiction | (exfalso; omega)))) | refine qi (And.intro ?_ (wk3 ?_)))
  all_goals (first | refine qj ?_ | (try (focus ((try refine nrmO ?_); (repeat' (first | exact True.intro | apply And.intro)); all_goals (try (intro (hg_ : _ = true); (try simp only [qg, inB, reduceCtorEq, cds] at hg_); (repeat' (first | exact True.intro | apply And.intro)))); all_goals (first | exact ob1 | exact qkq _ _ _ _ _ hs hc hr | skip)))))
  all_goals first | rfl | trace_state
 | false =>
  refine qm qf Tryz.func128 rfl Tryz.call128 Tryz.ntmps128 Tryz.results128 rfl rfl rfl rfl ?_
  intro X ρ0 hb_ hgl_
  dsimp only [qeb]
  try refine nrm ?_
  repeat' (refine qj ?_; first | refine st1 ?_ | (refine yc (id := 8) qf (by kernel_rfl) [] ?_; refine qp ?_; intro K_ hK_; repeat' (first | ((first | refine x8 ?_ | refine x9 ?_ | refine xy ?_); refine qp ?_; intro K_ hK_; (try dsimp only [qb3]); (try refine nrmE ?_)) | (refine zg ?_; (repeat subst hK_); dsimp only; refine Exists.intro _ (And.intro rfl (And.intro (by kernel_rfl) (And.intro ?_ ?_))); rotate_left; (try dsimp only [qb3]); (try refine nrm ?_); rotate_right))) | (first | ((first | refine qc (id := 5) qf (inps := [.call (qb3 k j.Plan.Move 2 k1 false)]) rfl ?_ ?_ | refine qc qf (inps := []) rfl ?_ ?_); rotate_left; (try dsimp only [qb3]); (try refine nrm ?_); rotate_right) | refine ret3 ?_ | refine end3 ?_) | (refine ql rfl trivial ?_ ?_ <;> intro hc_ <;> (try simp only [qg, inB, reduceCtorEq, cds] at hc_) <;> (try (first | contradiction | (exfalso; omega)))) | refine qi (And.intro ?_ (wk3 ?_)))
  all_goals (first | refine qj ?_ | (try (focus ((try refine nrmO ?_); (repeat' (first | exact True.intro | apply And.intro)); all_goals (try (intro (hg_ : _ = true); (try simp only [qg, inB, reduceCtorEq, cds] at hg_); (repeat' (first | exact True.intro | apply And.intro)))); all_goals (first | exact ob1 | exact qkq _ _ _ _ _ hs hc hr | skip)))))
  all_goals first | rfl | trace_state
def qet (s : Se) (k : GKernel) (j : GJob) (k' : GKernel) (j' : GJob) : CFD := ⟨128, [.agg [.hd 901, .hd 902, .hd 903, (CV.lit (.int .i64 (k.Calls))), .hd 904], .agg [(CV.lit (.int .i64 (j.Plan.Keep))), (CV.lit (.int .i64 (j.Plan.Move))), .hd 906, (CV.lit (.int .i64 (j.Phase))), (CV.lit (.int .i64 (j.Next)))]], [(901, some (.row 33 1 (k.Machine.Frames.Cells.map xw))), (902, some (.row 4 1 (k.Machine.Frames.Used.map Tr.eB))), (903, some (.row 42 2 (k.Machine.Table.Entries.map xe))), (904, some (.row 3 1 (k.Refuse.map Tr.eI))), (906, some (.row 3 1 (j.Plan.Cells.map Tr.eI)))], .tup [.agg [.hd 911, .hd 912, .hd 913, (CV.lit (.int .i64 (k'.Calls))), .hd 904], .agg [(CV.lit (.int .i64 ((j').Plan.Keep))), (CV.lit (.int .i64 ((j').Plan.Move))), .hd 906, (CV.lit (.int .i64 ((j').Phase))), (CV.lit (.int .i64 ((j').Next)))]], [(911, some (.row 33 1 ((k'.Machine).Frames.Cells.map xw))), (912, some (.row 4 1 ((k'.Machine).Frames.Used.map Tr.eB))), (913, some (.row 42 2 ((k'.Machine).Table.Entries.map xe))), (904, some (.row 3 1 (k'.Refuse.map Tr.eI))), (906, some (.row 3 1 ((j').Plan.Cells.map Tr.eI)))], [911, 912, 913], s.gl⟩
theorem q2e (s : Se) (k : GKernel) (j : GJob) (k' : GKernel) (j' : GJob) (hs : szK8 k) (hl : j.Plan.Cells.length <= 1048576) (hj : okJ j) (hn : 0 < j.Next) (hk : ((⟨(qaa k.Machine (j.Plan.Keep * 16 + qhd j (j.Next - 1)) 0).1, k.Calls, k.Refuse⟩ : GKernel), (⟨j.Plan, j.Phase, j.Next - 1⟩ : GJob)) = (k', j')) : Fn Tryz.prog (qet s k j k' j') := by
 obtain ⟨hp, hph, hn0, hn1⟩ := hj
 obtain ⟨r, hr⟩ : ∃ r, qaa k.Machine (j.Plan.Keep * 16 + qhd j (j.Next - 1)) 0 = r := ⟨_, rfl⟩
 obtain ⟨m1, x⟩ := r
 rw [hr] at hk
 obtain ⟨rfl, rfl⟩ := Prod.mk.inj hk
 have hlt : (j.Next - 1).toNat < j.Plan.Cells.length := by omega
 have hc := qf8 hp.2.2.2 hlt
 have hel : (j.Plan.Cells.map Tr.eI)[(j.Next - 1).toNat]? = some (Tr.eI (qhd j (j.Next - 1))) := qdo hlt
 unfold qhd at hr hel
 generalize j.Plan.Cells.getD (j.Next - 1).toNat 0 = c at hr hel hc
 have hkp := hp.2.1
 refine qm qf Tryz.func128 rfl Tryz.call128 Tryz.ntmps128 Tryz.results128 rfl rfl rfl rfl ?_
 intro X ρ0 hb_ hgl_
 dsimp only [qet]
 try refine nrm ?_
 repeat' (refine qj ?_; first | refine st1 ?_ | (refine yc (id := 3) qf (by kernel_rfl) [.elem (Tr.eI c), .call (qdc s k.Machine (j.Plan.Keep * 16 + c) 0 m1 x)] ?_; refine qp ?_; intro K_ hK_; repeat' (first | ((first | refine x8 ?_ | refine x9 ?_ | refine xy ?_); refine qp ?_; intro K_ hK_; (try dsimp only [qdc]); (try refine nrmE ?_)) | (refine zg ?_; (repeat subst hK_); dsimp only; refine Exists.intro _ (And.intro rfl (And.intro (by kernel_rfl) (And.intro ?_ ?_))); rotate_left; (try dsimp only [qdc]); (try refine nrm ?_); rotate_right))) | (refine yc (id := 4) qf (by kernel_rfl) [] ?_; refine qp ?_; intro K_ hK_; repeat' (first | ((first | refine x8 ?_ | refine x9 ?_ | refine xy ?_); refine qp ?_; intro K_ hK_; (try dsimp only [qdc]); (try refine nrmE ?_)) | (refine zg ?_; (repeat subst hK_); dsimp only; refine Exists.intro _ (And.intro rfl (And.intro (by kernel_rfl) (And.intro ?_ ?_))); rotate_left; (try dsimp only [qdc]); (try refine nrm ?_); rotate_right))) | (first | ((first | refine qc qf (inps := []) rfl ?_ ?_); rotate_left; (try dsimp only [qdc]); (try refine nrm ?_); rotate_right) | refine ret3 ?_ | refine end3 ?_) | (refine ql rfl trivial ?_ ?_ <;> intro hc_ <;> (try simp only [qg, inB, reduceCtorEq, cds] at hc_) <;> (try (first | contradiction | (exfalso; omega)))) | refine qi (And.intro ?_ (wk3 ?_)))
 all_goals (first | refine qj ?_ | (try (focus ((try refine nrmO ?_); (repeat' (first | exact True.intro | apply And.intro)); all_goals (try (intro (hg_ : _ = true); (try simp only [qg, inB, reduceCtorEq, cds] at hg_); (repeat' (first | exact True.intro | apply And.intro)))); all_goals (first | exact ob1 | exact qwg _ _ _ _ _ _ hs.m ⟨by omega, by omega⟩ hr | exact hel | exact hgl_.1 | exact hgl_.2.1 | exact hgl_.2.2.1 | exact hgl_.2.2.2.1 | exact hgl_.2.2.2.2.1 | exact hgl_.2.2.2.2.2.1 | exact hgl_.2.2.2.2.2.2.1 | exact hgl_.2.2.2.2.2.2.2.1 | exact hgl_ | exact rfl | exact one1 rfl | skip)))))
 all_goals first | rfl | trace_state
def qck (k : GKernel) (j : GJob) (j' : GJob) : CFD := ⟨129, [.agg [.hd 901, .hd 902, .hd 903, (CV.lit (.int .i64 (k.Calls))), .hd 904], .agg [(CV.lit (.int .i64 (j.Plan.Keep))), (CV.lit (.int .i64 (j.Plan.Move))), .hd 906, (CV.lit (.int .i64 (j.Phase))), (CV.lit (.int .i64 (j.Next)))]], [(901, some (.row 33 1 (k.Machine.Frames.Cells.map xw))), (902, some (.row 4 1 (k.Machine.Frames.Used.map Tr.eB))), (903, some (.row 42 2 (k.Machine.Table.Entries.map xe))), (904, some (.row 3 1 (k.Refuse.map Tr.eI))), (906, some (.row 3 1 (j.Plan.Cells.map Tr.eI)))], .tup [.agg [.hd 901, .hd 902, .hd 903, (CV.lit (.int .i64 (k.Calls))), .hd 904], .agg [(CV.lit (.int .i64 ((j').Plan.Keep))), (CV.lit (.int .i64 ((j').Plan.Move))), .hd 906, (CV.lit (.int .i64 ((j').Phase))), (CV.lit (.int .i64 ((j').Next)))]], [(901, some (.row 33 1 (k.Machine.Frames.Cells.map xw))), (902, some (.row 4 1 (k.Machine.Frames.Used.map Tr.eB))), (903, some (.row 42 2 (k.Machine.Table.Entries.map xe))), (904, some (.row 3 1 (k.Refuse.map Tr.eI))), (906, some (.row 3 1 ((j').Plan.Cells.map Tr.eI)))], [], []⟩
theorem qwh (k : GKernel) (j : GJob) : Fn Tryz.prog (qck k j j) := by
 refine qm qf Tryz.func129 rfl Tryz.call129 Tryz.ntmps129 Tryz.results129 rfl rfl rfl rfl ?_
 intro X ρ0 hb_ hgl_
 dsimp only [qck]
 try refine nrm ?_
 repeat' (refine qj ?_; first | refine st1 ?_ | (refine yc (id := 1) qf (by kernel_rfl) [] ?_; refine qp ?_; intro K_ hK_; repeat' (first | ((first | refine x8 ?_ | refine x9 ?_ | refine xy ?_); refine qp ?_; intro K_ hK_; (try refine nrmE ?_)) | (refine zg ?_; (repeat subst hK_); dsimp only; refine Exists.intro _ (And.intro rfl (And.intro (by kernel_rfl) (And.intro ?_ ?_))); rotate_left; (try refine nrm ?_); rotate_right))) | (first | ((first | refine qc qf (inps := []) rfl ?_ ?_); rotate_left; (try refine nrm ?_); rotate_right) | refine ret3 ?_ | refine end3 ?_) | (refine ql rfl trivial ?_ ?_ <;> intro hc_ <;> (try simp only [qg, inB, reduceCtorEq, cds] at hc_) <;> (try (first | contradiction | (exfalso; omega)))) | refine qi (And.intro ?_ (wk3 ?_)))
 all_goals (first | refine qj ?_ | (try (focus ((try refine nrmO ?_); (repeat' (first | exact True.intro | apply And.intro)); all_goals (try (intro (hg_ : _ = true); (try simp only [qg, inB, reduceCtorEq, cds] at hg_); (repeat' (first | exact True.intro | apply And.intro)))); all_goals (first | exact ob1 | skip)))))
 all_goals first | rfl | trace_state
def qbl (s : Se) (k : GKernel) (w : GWriter) (k' : GKernel) (w' : GWriter) : CFD := ⟨15, [.agg [ro 33 1 xw k.Machine.Frames.Cells, ro 4 1 Tr.eB k.Machine.Frames.Used, ro 42 2 xe k.Machine.Table.Entries, (CV.lit (.int .i64 (k.Calls))), ro 3 1 Tr.eI k.Refuse], .agg [(CV.lit (.int .i64 (w.Addr))), (CV.lit (.int .i64 (w.Value))), (CV.lit (.bool (w.Done))), (CV.lit (.int .i64 (w.Waits)))]], [], .tup [.agg [.hd 0, .hd 1, .hd 2, (CV.lit (.int .i64 ((k').Calls))), .hd 3], .agg [(CV.lit (.int .i64 ((w').Addr))), (CV.lit (.int .i64 ((w').Value))), (CV.lit (.bool ((w').Done))), (CV.lit (.int .i64 ((w').Waits)))]], [(0, some (.row 33 1 ((k').Machine.Frames.Cells.map xw))), (1, some (.row 4 1 ((k').Machine.Frames.Used.map Tr.eB))), (2, some (.row 42 2 ((k').Machine.Table.Entries.map xe))), (3, some (.row 3 1 ((k').Refuse.map Tr.eI)))], [0, 1, 2, 3], s.gl⟩
set_option maxHeartbeats 8000000 in
theorem qod (s : Se) (k : GKernel) (w : GWriter) (k' : GKernel) (w' : GWriter) (hs : szK8 k) (ha : okI w.Addr) (h : jq k w = (k', w')) : Fn Tryz.prog (qbl s k w k' w') := by
 have hcp := qc0 k (qdi hs)
 have hko := qqs k (qdi hs)
 unfold jq at h
 by_cases hok : okK k
 ·have hk : qdv k = true := decide_eq_true hok
  rw [if_pos hok] at h
  unfold stepW at h
  by_cases hd : w.Done = true
  ·rw [if_pos hd] at h
   obtain ⟨rfl, rfl⟩ := Prod.mk.inj h
   refine qm qf Tryz.func15 rfl Tryz.call15 Tryz.ntmps15 Tryz.results15 rfl rfl rfl rfl ?_
   intro X ρ0 hb_ hgl_
   dsimp only [qbl]
   try refine nrm ?_
   repeat' (refine qj ?_; first | refine st1 ?_ | (refine yc (id := 3) qf (by kernel_rfl) [] ?_; refine qp ?_; intro K_ hK_; repeat' (first | ((first | refine x8 ?_ | refine x9 ?_ | refine xy ?_); refine qp ?_; intro K_ hK_; (try dsimp only [qo, qb7]); (try refine nrmE ?_)) | (refine zg ?_; (repeat subst hK_); dsimp only; refine Exists.intro _ (And.intro rfl (And.intro (by kernel_rfl) (And.intro ?_ ?_))); rotate_left; (try dsimp only [qo, qb7]); (try refine nrm ?_); rotate_right))) | (first | ((first | refine qc (id := 1) qf (inps := [.call (qo k)]) rfl ?_ ?_ | refine qc (id := 2) qf (inps := [.call (qb7 k)]) rfl ?_ ?_ | refine qc qf (inps := []) rfl ?_ ?_); rotate_left; (try dsimp only [qo, qb7]); (try refine nrm ?_); rotate_right) | refine ret3 ?_ | refine end3 ?_) | (refine ql rfl trivial ?_ ?_ <;> intro hc_ <;> (try simp only [qg, inB, reduceCtorEq, cds] at hc_) <;> (try (first | contradiction | (exfalso; omega) | (exfalso; grind)))) | refine qi (And.intro ?_ (wk3 ?_)))
   all_goals (first | refine qj ?_ | (try (focus ((try refine nrmO ?_); (repeat' (first | exact True.intro | apply And.intro)); all_goals (try (intro (hg_ : _ = true); (try simp only [qg, inB, reduceCtorEq, cds] at hg_); (repeat' (first | exact True.intro | apply And.intro)))); all_goals (first | exact ob1 | exact hcp | exact hko | skip)))))
   all_goals trace_state
  ·rw [if_neg hd] at h
   obtain ⟨⟨m1, c⟩, hst⟩ : ∃ r, qaa k.Machine w.Addr w.Value = r := ⟨_, rfl⟩
   rw [hst] at h
   have hsto := qwg s k.Machine w.Addr w.Value m1 c hs.m ha hst
   by_cases hc : c = 2
   ·rw [if_pos (show (m1, c).2 = 2 from hc)] at h
    have hm : m1 = k.Machine := by
     unfold qaa at hst
     split at hst
     ·split at hst
      ·exact (Prod.mk.inj hst).1.symm
      ·split at hst
       ·have := (Prod.mk.inj hst).2; omega
       ·exact (Prod.mk.inj hst).1.symm
     ·exact (Prod.mk.inj hst).1.symm
    subst hm
    subst hc
    obtain ⟨rfl, rfl⟩ := Prod.mk.inj h
    refine qm qf Tryz.func15 rfl Tryz.call15 Tryz.ntmps15 Tryz.results15 rfl rfl rfl rfl ?_
    intro X ρ0 hb_ hgl_
    dsimp only [qbl]
    try refine nrm ?_
    repeat' (refine qj ?_; first | refine st1 ?_ | (refine qal (id := 7) [] ?_; generalize hQ_ : kont _ _ _ _ = Q_; repeat' (first | (focus ((first | refine jg qf ?_ ?_ | refine jh qf ?_ ?_ | refine qr2 ?_ ?_ | refine zi qf ?_ ?_); (try dsimp only [qo, qb7, qdc]); (try refine nrm ?_); rotate_left)) | (subst hQ_; refine as_nil ?_))) | (refine yc (id := 8) qf (by kernel_rfl) [] ?_; refine qp ?_; intro K_ hK_; repeat' (first | ((first | refine x8 ?_ | refine x9 ?_ | refine xy ?_); refine qp ?_; intro K_ hK_; (try dsimp only [qo, qb7, qdc]); (try refine nrmE ?_)) | (refine zg ?_; (repeat subst hK_); dsimp only; refine Exists.intro _ (And.intro rfl (And.intro (by kernel_rfl) (And.intro ?_ ?_))); rotate_left; (try dsimp only [qo, qb7, qdc]); (try refine nrm ?_); rotate_right))) | (first | ((first | refine qc (id := 1) qf (inps := [.call (qo k)]) rfl ?_ ?_ | refine qc (id := 2) qf (inps := [.call (qb7 k)]) rfl ?_ ?_ | refine qc (id := 4) qf (inps := [.call (qdc s k.Machine w.Addr w.Value k.Machine 2)]) rfl ?_ ?_ | refine qc qf (inps := []) rfl ?_ ?_); rotate_left; (try dsimp only [qo, qb7, qdc]); (try refine nrm ?_); rotate_right) | refine ret3 ?_ | refine end3 ?_) | (refine ql rfl trivial ?_ ?_ <;> intro hc_ <;> (try simp only [qg, inB, reduceCtorEq, cds] at hc_) <;> (try (first | contradiction | (exfalso; omega) | (exfalso; grind)))) | refine qi (And.intro ?_ (wk3 ?_)))
    all_goals (first | refine qj ?_ | (try (focus ((try refine nrmO ?_); (repeat' (first | exact True.intro | apply And.intro)); all_goals (try (intro (hg_ : _ = true); (try simp only [qg, inB, reduceCtorEq, cds] at hg_); (repeat' (first | exact True.intro | apply And.intro)))); all_goals (first | exact ob1 | exact hcp | exact hko | exact hsto | exact hgl_.1 | exact hgl_.2.1 | exact hgl_.2.2.1 | exact hgl_.2.2.2.1 | exact hgl_.2.2.2.2.1 | exact hgl_.2.2.2.2.2.1 | exact hgl_.2.2.2.2.2.2.1 | exact hgl_.2.2.2.2.2.2.2.1 | exact hgl_ | exact rfl | exact one1 rfl | skip)))))
    all_goals trace_state
   ·rw [if_neg (show ¬ (m1, c).2 = 2 from hc)] at h
    obtain ⟨rfl, rfl⟩ := Prod.mk.inj h
    refine qm qf Tryz.func15 rfl Tryz.call15 Tryz.ntmps15 Tryz.results15 rfl rfl rfl rfl ?_
    intro X ρ0 hb_ hgl_
    dsimp only [qbl]
    try refine nrm ?_
    repeat' (refine qj ?_; first | refine st1 ?_ | (refine yc (id := 10) qf (by kernel_rfl) [] ?_; refine qp ?_; intro K_ hK_; repeat' (first | ((first | refine x8 ?_ | refine x9 ?_ | refine xy ?_); refine qp ?_; intro K_ hK_; (try dsimp only [qo, qb7, qdc]); (try refine nrmE ?_)) | (refine zg ?_; (repeat subst hK_); dsimp only; refine Exists.intro _ (And.intro rfl (And.intro (by kernel_rfl) (And.intro ?_ ?_))); rotate_left; (try dsimp only [qo, qb7, qdc]); (try refine nrm ?_); rotate_right))) | (first | ((first | refine qc (id := 1) qf (inps := [.call (qo k)]) rfl ?_ ?_ | refine qc (id := 2) qf (inps := [.call (qb7 k)]) rfl ?_ ?_ | refine qc (id := 4) qf (inps := [.call (qdc s k.Machine w.Addr w.Value m1 c)]) rfl ?_ ?_ | refine qc qf (inps := []) rfl ?_ ?_); rotate_left; (try dsimp only [qo, qb7, qdc]); (try refine nrm ?_); rotate_right) | refine ret3 ?_ | refine end3 ?_) | (refine ql rfl trivial ?_ ?_ <;> intro hc_ <;> (try simp only [qg, inB, reduceCtorEq, cds] at hc_) <;> (try (first | contradiction | (exfalso; omega) | (exfalso; grind)))) | refine qi (And.intro ?_ (wk3 ?_)))
    all_goals (first | refine qj ?_ | (try (focus ((try refine nrmO ?_); (repeat' (first | exact True.intro | apply And.intro)); all_goals (try (intro (hg_ : _ = true); (try simp only [qg, inB, reduceCtorEq, cds] at hg_); (repeat' (first | exact True.intro | apply And.intro)))); all_goals (first | exact ob1 | exact hcp | exact hko | exact hsto | exact hgl_.1 | exact hgl_.2.1 | exact hgl_.2.2.1 | exact hgl_.2.2.2.1 | exact hgl_.2.2.2.2.1 | exact hgl_.2.2.2.2.2.1 | exact hgl_.2.2.2.2.2.2.1 | exact hgl_.2.2.2.2.2.2.2.1 | exact hgl_ | exact rfl | exact one1 rfl | skip)))))
    all_goals trace_state
 ·have hk : qdv k = false := decide_eq_false hok
  rw [if_neg hok] at h
  obtain ⟨rfl, rfl⟩ := Prod.mk.inj h
  refine qm qf Tryz.func15 rfl Tryz.call15 Tryz.ntmps15 Tryz.results15 rfl rfl rfl rfl ?_
  intro X ρ0 hb_ hgl_
  dsimp only [qbl]
  try refine nrm ?_
  repeat' (refine qj ?_; first | refine st1 ?_ | (refine yc (id := 3) qf (by kernel_rfl) [] ?_; refine qp ?_; intro K_ hK_; repeat' (first | ((first | refine x8 ?_ | refine x9 ?_ | refine xy ?_); refine qp ?_; intro K_ hK_; (try dsimp only [qo, qb7]); (try refine nrmE ?_)) | (refine zg ?_; (repeat subst hK_); dsimp only; refine Exists.intro _ (And.intro rfl (And.intro (by kernel_rfl) (And.intro ?_ ?_))); rotate_left; (try dsimp only [qo, qb7]); (try refine nrm ?_); rotate_right))) | (first | ((first | refine qc (id := 1) qf (inps := [.call (qo k)]) rfl ?_ ?_ | refine qc (id := 2) qf (inps := [.call (qb7 k)]) rfl ?_ ?_ | refine qc qf (inps := []) rfl ?_ ?_); rotate_left; (try dsimp only [qo, qb7]); (try refine nrm ?_); rotate_right) | refine ret3 ?_ | refine end3 ?_) | (refine ql rfl trivial ?_ ?_ <;> intro hc_ <;> (try simp only [qg, inB, reduceCtorEq, cds] at hc_) <;> (try (first | contradiction | (exfalso; omega) | (exfalso; grind)))) | refine qi (And.intro ?_ (wk3 ?_)))
  all_goals (first | refine qj ?_ | (try (focus ((try refine nrmO ?_); (repeat' (first | exact True.intro | apply And.intro)); all_goals (try (intro (hg_ : _ = true); (try simp only [qg, inB, reduceCtorEq, cds] at hg_); (repeat' (first | exact True.intro | apply And.intro)))); all_goals (first | exact ob1 | exact hcp | exact hko | skip)))))
  all_goals trace_state
def qbj (s : Se) (k : GKernel) (j : GJob) (k' : GKernel) (j' : GJob) : CFD := ⟨48, [.agg [ro 33 1 xw k.Machine.Frames.Cells, ro 4 1 Tr.eB k.Machine.Frames.Used, ro 42 2 xe k.Machine.Table.Entries, (CV.lit (.int .i64 (k.Calls))), ro 3 1 Tr.eI k.Refuse], .agg [(CV.lit (.int .i64 (j.Plan.Keep))), (CV.lit (.int .i64 (j.Plan.Move))), ro 3 1 Tr.eI j.Plan.Cells, (CV.lit (.int .i64 (j.Phase))), (CV.lit (.int .i64 (j.Next)))]], [], .tup [.agg [.hd 0, .hd 1, .hd 2, (CV.lit (.int .i64 ((k').Calls))), .hd 3], .agg [(CV.lit (.int .i64 ((j').Plan.Keep))), (CV.lit (.int .i64 ((j').Plan.Move))), .hd 4, (CV.lit (.int .i64 ((j').Phase))), (CV.lit (.int .i64 ((j').Next)))]], [(0, some (.row 33 1 ((k').Machine.Frames.Cells.map xw))), (1, some (.row 4 1 ((k').Machine.Frames.Used.map Tr.eB))), (2, some (.row 42 2 ((k').Machine.Table.Entries.map xe))), (3, some (.row 3 1 ((k').Refuse.map Tr.eI))), (4, some (.row 3 1 ((j').Plan.Cells.map Tr.eI)))], [0, 1, 2, 3, 4], s.gl⟩
set_option maxHeartbeats 8000000 in
theorem qpg (s : Se) (k : GKernel) (j : GJob) (k' : GKernel) (j' : GJob) (hs : szK8 k) (hl : j.Plan.Cells.length <= 1048576) (h : qbc k j = (k', j')) : Fn Tryz.prog (qbj s k j k' j') := by
 have hcp := qc0 k (qdi hs)
 unfold qbc at h
 by_cases hm : mayJ k j
 ·rw [if_pos hm] at h
  have hd : decide (mayJ k j) = true := decide_eq_true hm
  have hcj := qgt j hl
  have hcan := q18 k j hs hl
  have hc : qar k := hm.1
  have hj := hm.2.1
  obtain ⟨pl, ph, nx⟩ := j
  have hph := hj.2.1
  unfold stepJ at h
  by_cases p0 : ph = 0
  ·subst p0
   rw [if_pos rfl] at h
   refine qm qf Tryz.func48 rfl Tryz.call48 Tryz.ntmps48 Tryz.results48 rfl rfl rfl rfl ?_
   intro X ρ0 hb_ hgl_
   dsimp only [qbj]
   try refine nrm ?_
   repeat' (refine qj ?_; first | refine st1 ?_ | (refine yc (id := 1) qf (by kernel_rfl) [.call (qo k), .call (qx ⟨pl, 0, nx⟩)] ?_; refine qp ?_; intro K_ hK_; repeat' (first | ((first | refine x8 ?_ | refine x9 ?_ | refine xy ?_); refine qp ?_; intro K_ hK_; (try dsimp only [qo, wo, qx, yf, qd9]); (try refine nrmE ?_)) | (refine zg ?_; (repeat subst hK_); dsimp only; refine Exists.intro _ (And.intro rfl (And.intro (by kernel_rfl) (And.intro ?_ ?_))); rotate_left; (try dsimp only [qo, wo, qx, yf, qd9]); (try refine nrm ?_); rotate_right))) | (refine yc (id := 3) qf (by kernel_rfl) [] ?_; refine qp ?_; intro K_ hK_; repeat' (first | ((first | refine x8 ?_ | refine x9 ?_ | refine xy ?_); refine qp ?_; intro K_ hK_; (try dsimp only [qo, wo, qx, yf, qd9]); (try refine nrmE ?_)) | (refine zg ?_; (repeat subst hK_); dsimp only; refine Exists.intro _ (And.intro rfl (And.intro (by kernel_rfl) (And.intro ?_ ?_))); rotate_left; (try dsimp only [qo, wo, qx, yf, qd9]); (try refine nrm ?_); rotate_right))) | (refine yc (id := 4) qf (by kernel_rfl) [.call (yf), .call (qd9 k ⟨pl, 0, nx⟩ k' j')] ?_; refine qp ?_; intro K_ hK_; repeat' (first | ((first | refine x8 ?_ | refine x9 ?_ | refine xy ?_); refine qp ?_; intro K_ hK_; (try dsimp only [qo, wo, qx, yf, qd9]); (try refine nrmE ?_)) | (refine zg ?_; (repeat subst hK_); dsimp only; refine Exists.intro _ (And.intro rfl (And.intro (by kernel_rfl) (And.intro ?_ ?_))); rotate_left; (try dsimp only [qo, wo, qx, yf, qd9]); (try refine nrm ?_); rotate_right))) | (first | ((first | refine qc (id := 2) qf (inps := [.call (wo k ⟨pl, 0, nx⟩)]) rfl ?_ ?_ | refine qc qf (inps := []) rfl ?_ ?_); rotate_left; (try dsimp only [qo, wo, qx, yf, qd9]); (try refine nrm ?_); rotate_right) | refine ret3 ?_ | refine end3 ?_) | (refine ql rfl trivial ?_ ?_ <;> intro hc_ <;> (try simp only [qg, inB, reduceCtorEq, cds] at hc_) <;> (try (first | contradiction | (exfalso; omega) | (exfalso; grind)))) | refine qi (And.intro ?_ (wk3 ?_)))
   all_goals (first | refine qj ?_ | (try (focus ((try refine nrmO ?_); (repeat' (first | exact True.intro | apply And.intro)); all_goals (try (intro (hg_ : _ = true); (try simp only [qg, inB, reduceCtorEq, cds] at hg_); (repeat' (first | exact True.intro | apply And.intro)))); all_goals (first | exact ob1 | exact hcp | exact hcj | exact hcan | exact qdz | exact q19 _ _ _ _ hs hc h | skip)))))
   all_goals trace_state
  rw [if_neg (show ¬ (⟨pl, ph, nx⟩ : GJob).Phase = 0 from p0)] at h
  by_cases p1 : ph = 1
  ·subst p1
   rw [if_pos rfl] at h
   by_cases hl2 : nx = (pl.Cells.length : Int)
   ·rw [if_pos (show (⟨pl, 1, nx⟩ : GJob).Next = ((⟨pl, 1, nx⟩ : GJob).Plan.Cells.length : Int) from hl2)] at h
    obtain ⟨rfl, rfl⟩ := Prod.mk.inj h
    refine qm qf Tryz.func48 rfl Tryz.call48 Tryz.ntmps48 Tryz.results48 rfl rfl rfl rfl ?_
    intro X ρ0 hb_ hgl_
    dsimp only [qbj]
    try refine nrm ?_
    repeat' (refine qj ?_; first | refine st1 ?_ | (refine yc (id := 1) qf (by kernel_rfl) [.call (qo k), .call (qx ⟨pl, 1, nx⟩)] ?_; refine qp ?_; intro K_ hK_; repeat' (first | ((first | refine x8 ?_ | refine x9 ?_ | refine xy ?_); refine qp ?_; intro K_ hK_; (try dsimp only [qo, wo, qer, qx, yf]); (try refine nrmE ?_)) | (refine zg ?_; (repeat subst hK_); dsimp only; refine Exists.intro _ (And.intro rfl (And.intro (by kernel_rfl) (And.intro ?_ ?_))); rotate_left; (try dsimp only [qo, wo, qer, qx, yf]); (try refine nrm ?_); rotate_right))) | (refine yc (id := 3) qf (by kernel_rfl) [] ?_; refine qp ?_; intro K_ hK_; repeat' (first | ((first | refine x8 ?_ | refine x9 ?_ | refine xy ?_); refine qp ?_; intro K_ hK_; (try dsimp only [qo, wo, qer, qx, yf]); (try refine nrmE ?_)) | (refine zg ?_; (repeat subst hK_); dsimp only; refine Exists.intro _ (And.intro rfl (And.intro (by kernel_rfl) (And.intro ?_ ?_))); rotate_left; (try dsimp only [qo, wo, qer, qx, yf]); (try refine nrm ?_); rotate_right))) | (refine yc (id := 4) qf (by kernel_rfl) [.call (yf), .call (qer k ⟨pl, 1, nx⟩ ⟨pl, 2, nx⟩)] ?_; refine qp ?_; intro K_ hK_; repeat' (first | ((first | refine x8 ?_ | refine x9 ?_ | refine xy ?_); refine qp ?_; intro K_ hK_; (try dsimp only [qo, wo, qer, qx, yf]); (try refine nrmE ?_)) | (refine zg ?_; (repeat subst hK_); dsimp only; refine Exists.intro _ (And.intro rfl (And.intro (by kernel_rfl) (And.intro ?_ ?_))); rotate_left; (try dsimp only [qo, wo, qer, qx, yf]); (try refine nrm ?_); rotate_right))) | (first | ((first | refine qc (id := 2) qf (inps := [.call (wo k ⟨pl, 1, nx⟩)]) rfl ?_ ?_ | refine qc qf (inps := []) rfl ?_ ?_); rotate_left; (try dsimp only [qo, wo, qer, qx, yf]); (try refine nrm ?_); rotate_right) | refine ret3 ?_ | refine end3 ?_) | (refine ql rfl trivial ?_ ?_ <;> intro hc_ <;> (try simp only [qg, inB, reduceCtorEq, cds] at hc_) <;> (try (first | contradiction | (exfalso; omega) | (exfalso; grind)))) | refine qi (And.intro ?_ (wk3 ?_)))
    all_goals (first | refine qj ?_ | (try (focus ((try refine nrmO ?_); (repeat' (first | exact True.intro | apply And.intro)); all_goals (try (intro (hg_ : _ = true); (try simp only [qg, inB, reduceCtorEq, cds] at hg_); (repeat' (first | exact True.intro | apply And.intro)))); all_goals (first | exact ob1 | exact hcp | exact hcj | exact hcan | exact qdz | exact q2a k ⟨pl, 1, nx⟩ hl2 | skip)))))
    all_goals trace_state
   ·rw [if_neg (show ¬ (⟨pl, 1, nx⟩ : GJob).Next = ((⟨pl, 1, nx⟩ : GJob).Plan.Cells.length : Int) from hl2)] at h
    obtain ⟨r, hr⟩ : ∃ r, qe7 k pl.Move pl.Keep [qhd ⟨pl, 1, nx⟩ nx] = r := ⟨_, rfl⟩
    obtain ⟨k1, b⟩ := r
    dsimp only at h
    rw [hr] at h
    obtain ⟨rfl, rfl⟩ := Prod.mk.inj h
    have hn0 : 0 <= nx := hj.2.2.1
    have hn1 : nx <= (pl.Cells.length : Int) := hj.2.2.2
    refine qm qf Tryz.func48 rfl Tryz.call48 Tryz.ntmps48 Tryz.results48 rfl rfl rfl rfl ?_
    intro X ρ0 hb_ hgl_
    dsimp only [qbj]
    try refine nrm ?_
    repeat' (refine qj ?_; first | refine st1 ?_ | (refine yc (id := 1) qf (by kernel_rfl) [.call (qo k), .call (qx ⟨pl, 1, nx⟩)] ?_; refine qp ?_; intro K_ hK_; repeat' (first | ((first | refine x8 ?_ | refine x9 ?_ | refine xy ?_); refine qp ?_; intro K_ hK_; (try dsimp only [qo, wo, qx, qes, yf]); (try refine nrmE ?_)) | (refine zg ?_; (repeat subst hK_); dsimp only; refine Exists.intro _ (And.intro rfl (And.intro (by kernel_rfl) (And.intro ?_ ?_))); rotate_left; (try dsimp only [qo, wo, qx, qes, yf]); (try refine nrm ?_); rotate_right))) | (refine yc (id := 3) qf (by kernel_rfl) [] ?_; refine qp ?_; intro K_ hK_; repeat' (first | ((first | refine x8 ?_ | refine x9 ?_ | refine xy ?_); refine qp ?_; intro K_ hK_; (try dsimp only [qo, wo, qx, qes, yf]); (try refine nrmE ?_)) | (refine zg ?_; (repeat subst hK_); dsimp only; refine Exists.intro _ (And.intro rfl (And.intro (by kernel_rfl) (And.intro ?_ ?_))); rotate_left; (try dsimp only [qo, wo, qx, qes, yf]); (try refine nrm ?_); rotate_right))) | (refine yc (id := 4) qf (by kernel_rfl) [.call (yf), .call (qes k ⟨pl, 1, nx⟩ k1 ⟨pl, 1, nx + 1⟩)] ?_; refine qp ?_; intro K_ hK_; repeat' (first | ((first | refine x8 ?_ | refine x9 ?_ | refine xy ?_); refine qp ?_; intro K_ hK_; (try dsimp only [qo, wo, qx, qes, yf]); (try refine nrmE ?_)) | (refine zg ?_; (repeat subst hK_); dsimp only; refine Exists.intro _ (And.intro rfl (And.intro (by kernel_rfl) (And.intro ?_ ?_))); rotate_left; (try dsimp only [qo, wo, qx, qes, yf]); (try refine nrm ?_); rotate_right))) | (first | ((first | refine qc (id := 2) qf (inps := [.call (wo k ⟨pl, 1, nx⟩)]) rfl ?_ ?_ | refine qc qf (inps := []) rfl ?_ ?_); rotate_left; (try dsimp only [qo, wo, qx, qes, yf]); (try refine nrm ?_); rotate_right) | refine ret3 ?_ | refine end3 ?_) | (refine ql rfl trivial ?_ ?_ <;> intro hc_ <;> (try simp only [qg, inB, reduceCtorEq, cds] at hc_) <;> (try (first | contradiction | (exfalso; omega) | (exfalso; grind)))) | refine qi (And.intro ?_ (wk3 ?_)))
    all_goals (first | refine qj ?_ | (try (focus ((try refine nrmO ?_); (repeat' (first | exact True.intro | apply And.intro)); all_goals (try (intro (hg_ : _ = true); (try simp only [qg, inB, reduceCtorEq, cds] at hg_); (repeat' (first | exact True.intro | apply And.intro)))); all_goals (first | exact ob1 | exact hcp | exact hcj | exact hcan | exact qdz | exact q2b k ⟨pl, 1, nx⟩ k1 b hs hc hn0 (by dsimp only; omega) hl hr | skip)))))
    all_goals trace_state
  rw [if_neg (show ¬ (⟨pl, ph, nx⟩ : GJob).Phase = 1 from p1)] at h
  by_cases p2 : ph = 2
  ·subst p2
   rw [if_pos rfl] at h
   refine qm qf Tryz.func48 rfl Tryz.call48 Tryz.ntmps48 Tryz.results48 rfl rfl rfl rfl ?_
   intro X ρ0 hb_ hgl_
   dsimp only [qbj]
   try refine nrm ?_
   repeat' (refine qj ?_; first | refine st1 ?_ | (refine yc (id := 1) qf (by kernel_rfl) [.call (qo k), .call (qx ⟨pl, 2, nx⟩)] ?_; refine qp ?_; intro K_ hK_; repeat' (first | ((first | refine x8 ?_ | refine x9 ?_ | refine xy ?_); refine qp ?_; intro K_ hK_; (try dsimp only [qo, wo, qx, yf, qea]); (try refine nrmE ?_)) | (refine zg ?_; (repeat subst hK_); dsimp only; refine Exists.intro _ (And.intro rfl (And.intro (by kernel_rfl) (And.intro ?_ ?_))); rotate_left; (try dsimp only [qo, wo, qx, yf, qea]); (try refine nrm ?_); rotate_right))) | (refine yc (id := 3) qf (by kernel_rfl) [] ?_; refine qp ?_; intro K_ hK_; repeat' (first | ((first | refine x8 ?_ | refine x9 ?_ | refine xy ?_); refine qp ?_; intro K_ hK_; (try dsimp only [qo, wo, qx, yf, qea]); (try refine nrmE ?_)) | (refine zg ?_; (repeat subst hK_); dsimp only; refine Exists.intro _ (And.intro rfl (And.intro (by kernel_rfl) (And.intro ?_ ?_))); rotate_left; (try dsimp only [qo, wo, qx, yf, qea]); (try refine nrm ?_); rotate_right))) | (refine yc (id := 4) qf (by kernel_rfl) [.call (yf), .call (qea k ⟨pl, 2, nx⟩ k' j')] ?_; refine qp ?_; intro K_ hK_; repeat' (first | ((first | refine x8 ?_ | refine x9 ?_ | refine xy ?_); refine qp ?_; intro K_ hK_; (try dsimp only [qo, wo, qx, yf, qea]); (try refine nrmE ?_)) | (refine zg ?_; (repeat subst hK_); dsimp only; refine Exists.intro _ (And.intro rfl (And.intro (by kernel_rfl) (And.intro ?_ ?_))); rotate_left; (try dsimp only [qo, wo, qx, yf, qea]); (try refine nrm ?_); rotate_right))) | (first | ((first | refine qc (id := 2) qf (inps := [.call (wo k ⟨pl, 2, nx⟩)]) rfl ?_ ?_ | refine qc qf (inps := []) rfl ?_ ?_); rotate_left; (try dsimp only [qo, wo, qx, yf, qea]); (try refine nrm ?_); rotate_right) | refine ret3 ?_ | refine end3 ?_) | (refine ql rfl trivial ?_ ?_ <;> intro hc_ <;> (try simp only [qg, inB, reduceCtorEq, cds] at hc_) <;> (try (first | contradiction | (exfalso; omega) | (exfalso; grind)))) | refine qi (And.intro ?_ (wk3 ?_)))
   all_goals (first | refine qj ?_ | (try (focus ((try refine nrmO ?_); (repeat' (first | exact True.intro | apply And.intro)); all_goals (try (intro (hg_ : _ = true); (try simp only [qg, inB, reduceCtorEq, cds] at hg_); (repeat' (first | exact True.intro | apply And.intro)))); all_goals (first | exact ob1 | exact hcp | exact hcj | exact hcan | exact qdz | exact q2c _ _ _ _ hs hc h | skip)))))
   all_goals trace_state
  rw [if_neg (show ¬ (⟨pl, ph, nx⟩ : GJob).Phase = 2 from p2)] at h
  by_cases p3 : ph = 3
  ·subst p3
   rw [if_pos rfl] at h
   by_cases hB : 0 < nx
   ·rw [if_pos (show 0 < (⟨pl, 3, nx⟩ : GJob).Next from hB)] at h
    refine qm qf Tryz.func48 rfl Tryz.call48 Tryz.ntmps48 Tryz.results48 rfl rfl rfl rfl ?_
    intro X ρ0 hb_ hgl_
    dsimp only [qbj]
    try refine nrm ?_
    repeat' (refine qj ?_; first | refine st1 ?_ | (refine yc (id := 1) qf (by kernel_rfl) [.call (qo k), .call (qx ⟨pl, 3, nx⟩)] ?_; refine qp ?_; intro K_ hK_; repeat' (first | ((first | refine x8 ?_ | refine x9 ?_ | refine xy ?_); refine qp ?_; intro K_ hK_; (try dsimp only [qo, qet, wo, qx, yf]); (try refine nrmE ?_)) | (refine zg ?_; (repeat subst hK_); dsimp only; refine Exists.intro _ (And.intro rfl (And.intro (by kernel_rfl) (And.intro ?_ ?_))); rotate_left; (try dsimp only [qo, qet, wo, qx, yf]); (try refine nrm ?_); rotate_right))) | (refine yc (id := 3) qf (by kernel_rfl) [] ?_; refine qp ?_; intro K_ hK_; repeat' (first | ((first | refine x8 ?_ | refine x9 ?_ | refine xy ?_); refine qp ?_; intro K_ hK_; (try dsimp only [qo, qet, wo, qx, yf]); (try refine nrmE ?_)) | (refine zg ?_; (repeat subst hK_); dsimp only; refine Exists.intro _ (And.intro rfl (And.intro (by kernel_rfl) (And.intro ?_ ?_))); rotate_left; (try dsimp only [qo, qet, wo, qx, yf]); (try refine nrm ?_); rotate_right))) | (refine yc (id := 4) qf (by kernel_rfl) [.call (yf), .call (qet s k ⟨pl, 3, nx⟩ k' j')] ?_; refine qp ?_; intro K_ hK_; repeat' (first | ((first | refine x8 ?_ | refine x9 ?_ | refine xy ?_); refine qp ?_; intro K_ hK_; (try dsimp only [qo, qet, wo, qx, yf]); (try refine nrmE ?_)) | (refine zg ?_; (repeat subst hK_); dsimp only; refine Exists.intro _ (And.intro rfl (And.intro (by kernel_rfl) (And.intro ?_ ?_))); rotate_left; (try dsimp only [qo, qet, wo, qx, yf]); (try refine nrm ?_); rotate_right))) | (first | ((first | refine qc (id := 2) qf (inps := [.call (wo k ⟨pl, 3, nx⟩)]) rfl ?_ ?_ | refine qc qf (inps := []) rfl ?_ ?_); rotate_left; (try dsimp only [qo, qet, wo, qx, yf]); (try refine nrm ?_); rotate_right) | refine ret3 ?_ | refine end3 ?_) | (refine ql rfl trivial ?_ ?_ <;> intro hc_ <;> (try simp only [qg, inB, reduceCtorEq, cds] at hc_) <;> (try (first | contradiction | (exfalso; omega) | (exfalso; grind)))) | refine qi (And.intro ?_ (wk3 ?_)))
    all_goals (first | refine qj ?_ | (try (focus ((try refine nrmO ?_); (repeat' (first | exact True.intro | apply And.intro)); all_goals (try (intro (hg_ : _ = true); (try simp only [qg, inB, reduceCtorEq, cds] at hg_); (repeat' (first | exact True.intro | apply And.intro)))); all_goals (first | exact ob1 | exact hcp | exact hcj | exact hcan | exact qdz | exact q2e s k ⟨pl, 3, nx⟩ k' j' hs hl hj hB h | exact hgl_.1 | exact hgl_.2.1 | exact hgl_.2.2.1 | exact hgl_.2.2.2.1 | exact hgl_.2.2.2.2.1 | exact hgl_.2.2.2.2.2.1 | exact hgl_.2.2.2.2.2.2.1 | exact hgl_.2.2.2.2.2.2.2.1 | exact hgl_ | exact rfl | exact one1 rfl | skip)))))
    all_goals trace_state
   ·rw [if_neg (show ¬ 0 < (⟨pl, 3, nx⟩ : GJob).Next from hB)] at h
    refine qm qf Tryz.func48 rfl Tryz.call48 Tryz.ntmps48 Tryz.results48 rfl rfl rfl rfl ?_
    intro X ρ0 hb_ hgl_
    dsimp only [qbj]
    try refine nrm ?_
    repeat' (refine qj ?_; first | refine st1 ?_ | (refine yc (id := 1) qf (by kernel_rfl) [.call (qo k), .call (qx ⟨pl, 3, nx⟩)] ?_; refine qp ?_; intro K_ hK_; repeat' (first | ((first | refine x8 ?_ | refine x9 ?_ | refine xy ?_); refine qp ?_; intro K_ hK_; (try dsimp only [qo, qeb, wo, qx, yf]); (try refine nrmE ?_)) | (refine zg ?_; (repeat subst hK_); dsimp only; refine Exists.intro _ (And.intro rfl (And.intro (by kernel_rfl) (And.intro ?_ ?_))); rotate_left; (try dsimp only [qo, qeb, wo, qx, yf]); (try refine nrm ?_); rotate_right))) | (refine yc (id := 3) qf (by kernel_rfl) [] ?_; refine qp ?_; intro K_ hK_; repeat' (first | ((first | refine x8 ?_ | refine x9 ?_ | refine xy ?_); refine qp ?_; intro K_ hK_; (try dsimp only [qo, qeb, wo, qx, yf]); (try refine nrmE ?_)) | (refine zg ?_; (repeat subst hK_); dsimp only; refine Exists.intro _ (And.intro rfl (And.intro (by kernel_rfl) (And.intro ?_ ?_))); rotate_left; (try dsimp only [qo, qeb, wo, qx, yf]); (try refine nrm ?_); rotate_right))) | (refine yc (id := 4) qf (by kernel_rfl) [.call (yf), .call (qeb k ⟨pl, 3, nx⟩ k' j')] ?_; refine qp ?_; intro K_ hK_; repeat' (first | ((first | refine x8 ?_ | refine x9 ?_ | refine xy ?_); refine qp ?_; intro K_ hK_; (try dsimp only [qo, qeb, wo, qx, yf]); (try refine nrmE ?_)) | (refine zg ?_; (repeat subst hK_); dsimp only; refine Exists.intro _ (And.intro rfl (And.intro (by kernel_rfl) (And.intro ?_ ?_))); rotate_left; (try dsimp only [qo, qeb, wo, qx, yf]); (try refine nrm ?_); rotate_right))) | (first | ((first | refine qc (id := 2) qf (inps := [.call (wo k ⟨pl, 3, nx⟩)]) rfl ?_ ?_ | refine qc qf (inps := []) rfl ?_ ?_); rotate_left; (try dsimp only [qo, qeb, wo, qx, yf]); (try refine nrm ?_); rotate_right) | refine ret3 ?_ | refine end3 ?_) | (refine ql rfl trivial ?_ ?_ <;> intro hc_ <;> (try simp only [qg, inB, reduceCtorEq, cds] at hc_) <;> (try (first | contradiction | (exfalso; omega) | (exfalso; grind)))) | refine qi (And.intro ?_ (wk3 ?_)))
    all_goals (first | refine qj ?_ | (try (focus ((try refine nrmO ?_); (repeat' (first | exact True.intro | apply And.intro)); all_goals (try (intro (hg_ : _ = true); (try simp only [qg, inB, reduceCtorEq, cds] at hg_); (repeat' (first | exact True.intro | apply And.intro)))); all_goals (first | exact ob1 | exact hcp | exact hcj | exact hcan | exact qdz | exact q2d k ⟨pl, 3, nx⟩ k' j' hs hc hB h | skip)))))
    all_goals trace_state
  rw [if_neg (show ¬ (⟨pl, ph, nx⟩ : GJob).Phase = 3 from p3)] at h
  obtain ⟨rfl, rfl⟩ := Prod.mk.inj h
  by_cases p4 : ph = 4
  ·subst p4
   refine qm qf Tryz.func48 rfl Tryz.call48 Tryz.ntmps48 Tryz.results48 rfl rfl rfl rfl ?_
   intro X ρ0 hb_ hgl_
   dsimp only [qbj]
   try refine nrm ?_
   repeat' (refine qj ?_; first | refine st1 ?_ | (refine yc (id := 1) qf (by kernel_rfl) [.call (qo k), .call (qx ⟨pl, 4, nx⟩)] ?_; refine qp ?_; intro K_ hK_; repeat' (first | ((first | refine x8 ?_ | refine x9 ?_ | refine xy ?_); refine qp ?_; intro K_ hK_; (try dsimp only [qo, wo, qx, yf, qck]); (try refine nrmE ?_)) | (refine zg ?_; (repeat subst hK_); dsimp only; refine Exists.intro _ (And.intro rfl (And.intro (by kernel_rfl) (And.intro ?_ ?_))); rotate_left; (try dsimp only [qo, wo, qx, yf, qck]); (try refine nrm ?_); rotate_right))) | (refine yc (id := 3) qf (by kernel_rfl) [] ?_; refine qp ?_; intro K_ hK_; repeat' (first | ((first | refine x8 ?_ | refine x9 ?_ | refine xy ?_); refine qp ?_; intro K_ hK_; (try dsimp only [qo, wo, qx, yf, qck]); (try refine nrmE ?_)) | (refine zg ?_; (repeat subst hK_); dsimp only; refine Exists.intro _ (And.intro rfl (And.intro (by kernel_rfl) (And.intro ?_ ?_))); rotate_left; (try dsimp only [qo, wo, qx, yf, qck]); (try refine nrm ?_); rotate_right))) | (refine yc (id := 4) qf (by kernel_rfl) [.call (yf), .call (qck k ⟨pl, 4, nx⟩ ⟨pl, 4, nx⟩)] ?_; refine qp ?_; intro K_ hK_; repeat' (first | ((first | refine x8 ?_ | refine x9 ?_ | refine xy ?_); refine qp ?_; intro K_ hK_; (try dsimp only [qo, wo, qx, yf, qck]); (try refine nrmE ?_)) | (refine zg ?_; (repeat subst hK_); dsimp only; refine Exists.intro _ (And.intro rfl (And.intro (by kernel_rfl) (And.intro ?_ ?_))); rotate_left; (try dsimp only [qo, wo, qx, yf, qck]); (try refine nrm ?_); rotate_right))) | (first | ((first | refine qc (id := 2) qf (inps := [.call (wo k ⟨pl, 4, nx⟩)]) rfl ?_ ?_ | refine qc qf (inps := []) rfl ?_ ?_); rotate_left; (try dsimp only [qo, wo, qx, yf, qck]); (try refine nrm ?_); rotate_right) | refine ret3 ?_ | refine end3 ?_) | (refine ql rfl trivial ?_ ?_ <;> intro hc_ <;> (try simp only [qg, inB, reduceCtorEq, cds] at hc_) <;> (try (first | contradiction | (exfalso; omega) | (exfalso; grind)))) | refine qi (And.intro ?_ (wk3 ?_)))
   all_goals (first | refine qj ?_ | (try (focus ((try refine nrmO ?_); (repeat' (first | exact True.intro | apply And.intro)); all_goals (try (intro (hg_ : _ = true); (try simp only [qg, inB, reduceCtorEq, cds] at hg_); (repeat' (first | exact True.intro | apply And.intro)))); all_goals (first | exact ob1 | exact hcp | exact hcj | exact hcan | exact qdz | exact qwh k ⟨pl, 4, nx⟩ | skip)))))
   all_goals trace_state
  ·obtain rfl : ph = 5 := by have h1 : 0 <= ph := hph.1; have h2 : ph <= 5 := hph.2; omega
   refine qm qf Tryz.func48 rfl Tryz.call48 Tryz.ntmps48 Tryz.results48 rfl rfl rfl rfl ?_
   intro X ρ0 hb_ hgl_
   dsimp only [qbj]
   try refine nrm ?_
   repeat' (refine qj ?_; first | refine st1 ?_ | (refine yc (id := 1) qf (by kernel_rfl) [.call (qo k), .call (qx ⟨pl, 5, nx⟩)] ?_; refine qp ?_; intro K_ hK_; repeat' (first | ((first | refine x8 ?_ | refine x9 ?_ | refine xy ?_); refine qp ?_; intro K_ hK_; (try dsimp only [qo, wo, qx, yf, qck]); (try refine nrmE ?_)) | (refine zg ?_; (repeat subst hK_); dsimp only; refine Exists.intro _ (And.intro rfl (And.intro (by kernel_rfl) (And.intro ?_ ?_))); rotate_left; (try dsimp only [qo, wo, qx, yf, qck]); (try refine nrm ?_); rotate_right))) | (refine yc (id := 3) qf (by kernel_rfl) [] ?_; refine qp ?_; intro K_ hK_; repeat' (first | ((first | refine x8 ?_ | refine x9 ?_ | refine xy ?_); refine qp ?_; intro K_ hK_; (try dsimp only [qo, wo, qx, yf, qck]); (try refine nrmE ?_)) | (refine zg ?_; (repeat subst hK_); dsimp only; refine Exists.intro _ (And.intro rfl (And.intro (by kernel_rfl) (And.intro ?_ ?_))); rotate_left; (try dsimp only [qo, wo, qx, yf, qck]); (try refine nrm ?_); rotate_right))) | (refine yc (id := 4) qf (by kernel_rfl) [.call (yf), .call (qck k ⟨pl, 5, nx⟩ ⟨pl, 5, nx⟩)] ?_; refine qp ?_; intro K_ hK_; repeat' (first | ((first | refine x8 ?_ | refine x9 ?_ | refine xy ?_); refine qp ?_; intro K_ hK_; (try dsimp only [qo, wo, qx, yf, qck]); (try refine nrmE ?_)) | (refine zg ?_; (repeat subst hK_); dsimp only; refine Exists.intro _ (And.intro rfl (And.intro (by kernel_rfl) (And.intro ?_ ?_))); rotate_left; (try dsimp only [qo, wo, qx, yf, qck]); (try refine nrm ?_); rotate_right))) | (first | ((first | refine qc (id := 2) qf (inps := [.call (wo k ⟨pl, 5, nx⟩)]) rfl ?_ ?_ | refine qc qf (inps := []) rfl ?_ ?_); rotate_left; (try dsimp only [qo, wo, qx, yf, qck]); (try refine nrm ?_); rotate_right) | refine ret3 ?_ | refine end3 ?_) | (refine ql rfl trivial ?_ ?_ <;> intro hc_ <;> (try simp only [qg, inB, reduceCtorEq, cds] at hc_) <;> (try (first | contradiction | (exfalso; omega) | (exfalso; grind)))) | refine qi (And.intro ?_ (wk3 ?_)))
   all_goals (first | refine qj ?_ | (try (focus ((try refine nrmO ?_); (repeat' (first | exact True.intro | apply And.intro)); all_goals (try (intro (hg_ : _ = true); (try simp only [qg, inB, reduceCtorEq, cds] at hg_); (repeat' (first | exact True.intro | apply And.intro)))); all_goals (first | exact ob1 | exact hcp | exact hcj | exact hcan | exact qdz | exact qwh k ⟨pl, 5, nx⟩ | skip)))))
   all_goals trace_state
 ·rw [if_neg hm] at h
  obtain ⟨rfl, rfl⟩ := Prod.mk.inj h
  have hd : decide (mayJ k j) = false := decide_eq_false hm
  refine qm qf Tryz.func48 rfl Tryz.call48 Tryz.ntmps48 Tryz.results48 rfl rfl rfl rfl ?_
  intro X ρ0 hb_ hgl_
  dsimp only [qbj]
  try refine nrm ?_
  repeat' (refine qj ?_; first | refine st1 ?_ | (refine yc (id := 1) qf (by kernel_rfl) [.call (qo k), .call (qx j)] ?_; refine qp ?_; intro K_ hK_; repeat' (first | ((first | refine x8 ?_ | refine x9 ?_ | refine xy ?_); refine qp ?_; intro K_ hK_; (try dsimp only [qo, wo, qx]); (try refine nrmE ?_)) | (refine zg ?_; (repeat subst hK_); dsimp only; refine Exists.intro _ (And.intro rfl (And.intro (by kernel_rfl) (And.intro ?_ ?_))); rotate_left; (try dsimp only [qo, wo, qx]); (try refine nrm ?_); rotate_right))) | (refine yc (id := 3) qf (by kernel_rfl) [] ?_; refine qp ?_; intro K_ hK_; repeat' (first | ((first | refine x8 ?_ | refine x9 ?_ | refine xy ?_); refine qp ?_; intro K_ hK_; (try dsimp only [qo, wo, qx]); (try refine nrmE ?_)) | (refine zg ?_; (repeat subst hK_); dsimp only; refine Exists.intro _ (And.intro rfl (And.intro (by kernel_rfl) (And.intro ?_ ?_))); rotate_left; (try dsimp only [qo, wo, qx]); (try refine nrm ?_); rotate_right))) | (first | ((first | refine qc (id := 2) qf (inps := [.call (wo k j)]) rfl ?_ ?_ | refine qc qf (inps := []) rfl ?_ ?_); rotate_left; (try dsimp only [qo, wo, qx]); (try refine nrm ?_); rotate_right) | refine ret3 ?_ | refine end3 ?_) | (refine ql rfl trivial ?_ ?_ <;> intro hc_ <;> (try simp only [qg, inB, reduceCtorEq, cds] at hc_) <;> (try (first | contradiction | (exfalso; omega) | (exfalso; grind)))) | refine qi (And.intro ?_ (wk3 ?_)))
  all_goals (first | refine qj ?_ | (try (focus ((try refine nrmO ?_); (repeat' (first | exact True.intro | apply And.intro)); all_goals (try (intro (hg_ : _ = true); (try simp only [qg, inB, reduceCtorEq, cds] at hg_); (repeat' (first | exact True.intro | apply And.intro)))); all_goals (first | exact ob1 | exact hcp | exact qgt j hl | exact q18 k j hs hl | skip)))))
  all_goals trace_state
theorem q2f : List.map CV.lit ti35.z.cells.toList = [.lit (.slice none 0 0), .lit (.slice none 0 0), .lit (.slice none 0 0), (CV.lit (.int .i64 (0))), .lit (.slice none 0 0)] := rfl
theorem q2g : List.map CV.lit ti48.z.cells.toList = [(CV.lit (.int .i64 (0))), (CV.lit (.int .i64 (0))), .lit (.slice none 0 0), (CV.lit (.int .i64 (0))), (CV.lit (.int .i64 (0)))] := rfl
def qkr (s : Se) (k : GKernel) (j : GJob) (most : Int) (k' : GKernel) (j' : GJob) : CFD := ⟨49, [.agg [ro 33 1 xw k.Machine.Frames.Cells, ro 4 1 Tr.eB k.Machine.Frames.Used, ro 42 2 xe k.Machine.Table.Entries, (CV.lit (.int .i64 (k.Calls))), ro 3 1 Tr.eI k.Refuse], .agg [(CV.lit (.int .i64 (j.Plan.Keep))), (CV.lit (.int .i64 (j.Plan.Move))), ro 3 1 Tr.eI j.Plan.Cells, (CV.lit (.int .i64 (j.Phase))), (CV.lit (.int .i64 (j.Next)))], (SV.one (.lit (.int .i64 (most))))], [], .tup [.agg [.hd 0, .hd 1, .hd 2, (CV.lit (.int .i64 ((k').Calls))), .hd 3], .agg [(CV.lit (.int .i64 ((j').Plan.Keep))), (CV.lit (.int .i64 ((j').Plan.Move))), .hd 4, (CV.lit (.int .i64 ((j').Phase))), (CV.lit (.int .i64 ((j').Next)))]], [(0, some (.row 33 1 ((k').Machine.Frames.Cells.map xw))), (1, some (.row 4 1 ((k').Machine.Frames.Used.map Tr.eB))), (2, some (.row 42 2 ((k').Machine.Table.Entries.map xe))), (3, some (.row 3 1 ((k').Refuse.map Tr.eI))), (4, some (.row 3 1 ((j').Plan.Cells.map Tr.eI)))], [0, 1, 2, 3, 4], s.gl⟩
set_option maxHeartbeats 8000000 in
theorem q2h (s : Se) (k : GKernel) (j : GJob) (most : Int) (k' : GKernel) (j' : GJob) (hs : szK8 k) (hl : j.Plan.Cells.length <= 1048576) (h : qcy k j most = (k', j')) : Fn Tryz.prog (qkr s k j most k' j') := by
 have hcp := qc0 k (qdi hs)
 unfold qcy at h
 by_cases hm : 0 <= most /\ most <= 200
 ·rw [if_pos hm] at h
  obtain ⟨N, rfl⟩ := Int.eq_ofNat_of_zero_le hm.1
  rw [Int.toNat_natCast] at h
  have hz := qt2 k j
  have hsucc : ∀ n, ¬ qbx (runJ n (k, j)).2 -> qbc (runJ n (k, j)).1 (runJ n (k, j)).2 = ((runJ (n + 1) (k, j)).1, (runJ (n + 1) (k, j)).2) := fun n ho => by
   rw [qim]
   unfold qbc
   by_cases hx : mayJ (runJ n (k, j)).1 (runJ n (k, j)).2
   ·rw [if_pos hx, if_pos ⟨ho, hx⟩]
   ·rw [if_neg hx, if_neg (fun hh => hx hh.2)]
  have hstop := fun n (hn : n <= N) (hx : qbx (runJ n (k, j)).2) => (show runJ N (k, j) = runJ n (k, j) by
   have := qn4 n (N - n) (k, j)
   rw [show n + (N - n) = N by omega] at this
   rw [this, qil (fun hh => hh.1 hx)])
  have h0 : runJ 0 (k, j) = (k, j) := rfl
  generalize hS : (fun n => runJ n (k, j)) = S
  have hSn : ∀ n, runJ n (k, j) = S n := fun n => by rw [← hS]
  simp only [hSn] at hz hsucc hstop h0 h
  refine qm qf Tryz.func49 rfl Tryz.call49 Tryz.ntmps49 Tryz.results49 rfl rfl rfl rfl ?_
  intro X ρ0 hb_ hgl_
  dsimp only [qkr]
  try refine nrm ?_
  repeat' (refine qj ?_; first | refine st1 ?_ | (refine yc (id := 1) qf (by kernel_rfl) [.call (qo k), .call (qx j)] ?_; refine qp ?_; intro K_ hK_; repeat' (first | ((first | refine x8 ?_ | refine x9 ?_ | refine xy ?_); refine qp ?_; intro K_ hK_; (try dsimp only [qo, qx]); (try refine nrmE ?_)) | (refine zg ?_; (repeat subst hK_); dsimp only; refine Exists.intro _ (And.intro rfl (And.intro (by kernel_rfl) (And.intro ?_ ?_))); rotate_left; (try dsimp only [qo, qx]); (try refine nrm ?_); rotate_right))) | (first | ((first | refine qc qf (inps := []) rfl ?_ ?_); rotate_left; (try dsimp only [qo, qx]); (try refine nrm ?_); rotate_right) | refine ret3 ?_ | refine end3 ?_) | (refine ql rfl trivial ?_ ?_ <;> intro hc_ <;> (try simp only [qg, inB, reduceCtorEq, cds] at hc_) <;> (try (first | contradiction | (exfalso; omega)))) | refine qi (And.intro ?_ (wk3 ?_)))
  all_goals (first | refine qj ?_ | (try (focus ((try refine nrmO ?_); (repeat' (first | exact True.intro | apply And.intro)); all_goals (try (intro (hg_ : _ = true); (try simp only [qg, inB, reduceCtorEq, cds] at hg_); (repeat' (first | exact True.intro | apply And.intro)))); all_goals (first | exact ob1 | exact hcp | exact qgt j hl | skip)))))
  dsimp only [q2f, q2g]
  refine qaf 12583903 (by dsimp only [qay] <;> exact rfl) ?_
  refine qai (N) (fun n => True) (fun n => [(23, (TV.sv (.one (.lit (.int .i64 (n))))))]) (fun n => [(8, some (.box 35 [.hd 12000, .hd 12001, .hd 12002, (CV.lit (.int .i64 (((S n).1).Calls))), .hd 12003])), (12000, some (.row 33 1 (((S n).1).Machine.Frames.Cells.map xw))), (12001, some (.row 4 1 (((S n).1).Machine.Frames.Used.map Tr.eB))), (12002, some (.row 42 2 (((S n).1).Machine.Table.Entries.map xe))), (12003, some (.row 3 1 (((S n).1).Refuse.map Tr.eI))), (9, some (.box 48 [(CV.lit (.int .i64 (((S n).2).Plan.Keep))), (CV.lit (.int .i64 (((S n).2).Plan.Move))), .hd 14000, (CV.lit (.int .i64 (((S n).2).Phase))), (CV.lit (.int .i64 (((S n).2).Next)))])), (14000, some (.row 3 1 (((S n).2).Plan.Cells.map Tr.eI)))]) ?_ ?_ ?_
  rotate_left
  ·first | trivial | simp
  (dsimp only [zx, yx, Int.toNat_natCast, ro, Nat.reduceAdd, Nat.reduceMul, Nat.zero_add, List.map, putT, app, zn, gOb, argT, keys, yg, dropped, gAnd, wB, rnT, rnS, rnC, rnCs, rnSs, rnM, rnB, rnN, rn, lk, St.over, ded, delL, jo, menT, jw, menS, jv, menC, hasN, resT, SV.cells]; refine wk3 ?_; (focus ((try refine nrmO ?_); (repeat' (first | exact True.intro | apply And.intro)); all_goals (try (intro (hg_ : _ = true); (try simp only [qg, inB, reduceCtorEq, cds] at hg_); (repeat' (first | exact True.intro | apply And.intro)))); all_goals (first | exact ob1 | exact rfl | skip))))
  rotate_right
  intro n hn_ hnI_
  dsimp only [zx, yx, Int.toNat_natCast, ro, Nat.reduceAdd, Nat.reduceMul, Nat.zero_add, List.map, putT, app, zn, gOb, argT, keys, yg, dropped, gAnd, wB, rnT, rnS, rnC, rnCs, rnSs, rnM, rnB, rnN, rn, lk, St.over, ded, delL, jo, menT, jw, menS, jv, menC, hasN, resT, SV.cells]
  obtain ⟨z1, z2, z3⟩ := hz n
  have hfin : ((N : Int) <= (n : Int)) -> S n = (k', j') := fun hc => by rw [← h, show n = N by omega]
  have hfin2 : qbx (S n).2 -> S n = (k', j') := fun hc => by rw [← h, hstop n (by omega) hc]
  have hsn := qeh hs z1 z2
  have hln : (S n).2.Plan.Cells.length <= 1048576 := by rw [z3]; exact hl
  by_cases hR : qbx (S n).2
  ·have hd : decide (qbx (S n).2) = true := decide_eq_true hR
   repeat' (refine qj ?_; first | refine st1 ?_ | (refine yc (id := 9) qf (by kernel_rfl) [] ?_; refine qp ?_; intro K_ hK_; repeat' (first | ((first | refine x8 ?_ | refine x9 ?_ | refine xy ?_); refine qp ?_; intro K_ hK_; (try dsimp only [qeq]); (try refine nrmE ?_)) | (refine zg ?_; (repeat subst hK_); dsimp only; refine Exists.intro _ (And.intro rfl (And.intro (by kernel_rfl) (And.intro ?_ ?_))); rotate_left; (try dsimp only [qeq]); (try refine nrm ?_); rotate_right))) | (first | ((first | refine qc (id := 6) qf (inps := [.call (qeq (S n).2)]) rfl ?_ ?_ | refine qc qf (inps := []) rfl ?_ ?_); rotate_left; (try dsimp only [qeq]); (try refine nrm ?_); rotate_right) | refine ret3 ?_ | refine end3 ?_) | (refine ql rfl trivial ?_ ?_ <;> intro hc_ <;> (try simp only [qg, inB, reduceCtorEq, cds] at hc_) <;> (try (first | contradiction | (exfalso; omega) | (exfalso; grind)))) | refine qi (And.intro ?_ (wk3 ?_)))
   all_goals (first | refine qj ?_ | (try (focus ((try refine nrmO ?_); (repeat' (first | exact True.intro | apply And.intro)); all_goals (try (intro (hg_ : _ = true); (try simp only [qg, inB, reduceCtorEq, cds] at hg_); (repeat' (first | exact True.intro | apply And.intro)))); all_goals (first | exact ob1 | exact qs1 _ | skip)))))
   all_goals first | (rw [hfin hc_]; done) | (rw [hfin2 hc_]; done)
  ·have hd : decide (qbx (S n).2) = false := decide_eq_false hR
   repeat' (refine qj ?_; first | refine st1 ?_ | (refine yc (id := 9) qf (by kernel_rfl) [] ?_; refine qp ?_; intro K_ hK_; repeat' (first | ((first | refine x8 ?_ | refine x9 ?_ | refine xy ?_); refine qp ?_; intro K_ hK_; (try dsimp only [qbj, qeq]); (try refine nrmE ?_)) | (refine zg ?_; (repeat subst hK_); dsimp only; refine Exists.intro _ (And.intro rfl (And.intro (by kernel_rfl) (And.intro ?_ ?_))); rotate_left; (try dsimp only [qbj, qeq]); (try refine nrm ?_); rotate_right))) | (first | ((first | refine qc (id := 6) qf (inps := [.call (qeq (S n).2)]) rfl ?_ ?_ | refine qc (id := 7) qf (inps := [.call (qbj s (S n).1 (S n).2 (S (n + 1)).1 (S (n + 1)).2)]) rfl ?_ ?_ | refine qc qf (inps := []) rfl ?_ ?_); rotate_left; (try dsimp only [qbj, qeq]); (try refine nrm ?_); rotate_right) | refine ret3 ?_ | refine end3 ?_) | (refine ql rfl trivial ?_ ?_ <;> intro hc_ <;> (try simp only [qg, inB, reduceCtorEq, cds] at hc_) <;> (try (first | contradiction | (exfalso; omega) | (exfalso; grind)))) | refine qi (And.intro ?_ (wk3 ?_)))
   all_goals (first | refine qj ?_ | (try (focus ((try refine nrmO ?_); (repeat' (first | exact True.intro | apply And.intro)); all_goals (try (intro (hg_ : _ = true); (try simp only [qg, inB, reduceCtorEq, cds] at hg_); (repeat' (first | exact True.intro | apply And.intro)))); all_goals (first | exact ob1 | exact qs1 _ | exact qpg s _ _ _ _ hsn hln (hsucc n hR) | exact hgl_.1 | exact hgl_.2.1 | exact hgl_.2.2.1 | exact hgl_.2.2.2.1 | exact hgl_.2.2.2.2.1 | exact hgl_.2.2.2.2.2.1 | exact hgl_.2.2.2.2.2.2.1 | exact hgl_.2.2.2.2.2.2.2.1 | exact hgl_ | exact rfl | exact one1 rfl | skip)))))
   all_goals first | (rw [hfin hc_]; done) | (rw [hfin2 hc_]; done)
  all_goals (rw [h0])
 ·rw [if_neg hm] at h
  obtain ⟨rfl, rfl⟩ := Prod.mk.inj h
  refine qm qf Tryz.func49 rfl Tryz.call49 Tryz.ntmps49 Tryz.results49 rfl rfl rfl rfl ?_
  intro X ρ0 hb_ hgl_
  dsimp only [qkr]
  try refine nrm ?_
  repeat' (refine qj ?_; first | refine st1 ?_ | (refine yc (id := 1) qf (by kernel_rfl) [.call (qo k), .call (qx j)] ?_; refine qp ?_; intro K_ hK_; repeat' (first | ((first | refine x8 ?_ | refine x9 ?_ | refine xy ?_); refine qp ?_; intro K_ hK_; (try dsimp only [qo, qx]); (try refine nrmE ?_)) | (refine zg ?_; (repeat subst hK_); dsimp only; refine Exists.intro _ (And.intro rfl (And.intro (by kernel_rfl) (And.intro ?_ ?_))); rotate_left; (try dsimp only [qo, qx]); (try refine nrm ?_); rotate_right))) | (refine yc (id := 3) qf (by kernel_rfl) [] ?_; refine qp ?_; intro K_ hK_; repeat' (first | ((first | refine x8 ?_ | refine x9 ?_ | refine xy ?_); refine qp ?_; intro K_ hK_; (try dsimp only [qo, qx]); (try refine nrmE ?_)) | (refine zg ?_; (repeat subst hK_); dsimp only; refine Exists.intro _ (And.intro rfl (And.intro (by kernel_rfl) (And.intro ?_ ?_))); rotate_left; (try dsimp only [qo, qx]); (try refine nrm ?_); rotate_right))) | (first | ((first | refine qc qf (inps := []) rfl ?_ ?_); rotate_left; (try dsimp only [qo, qx]); (try refine nrm ?_); rotate_right) | refine ret3 ?_ | refine end3 ?_) | (refine ql rfl trivial ?_ ?_ <;> intro hc_ <;> (try simp only [qg, inB, reduceCtorEq, cds] at hc_) <;> (try (first | contradiction | (exfalso; omega) | (exfalso; exact hm ⟨by omega, by omega⟩)))) | refine qi (And.intro ?_ (wk3 ?_)))
  all_goals (first | refine qj ?_ | (try (focus ((try refine nrmO ?_); (repeat' (first | exact True.intro | apply And.intro)); all_goals (try (intro (hg_ : _ = true); (try simp only [qg, inB, reduceCtorEq, cds] at hg_); (repeat' (first | exact True.intro | apply And.intro)))); all_goals (first | exact ob1 | exact hcp | exact qgt j hl | skip)))))
  all_goals trace_state
end Eng
end Go.Proofs.YtfiofmaknndpcaaGreatDoor
namespace Go.Proofs.YtfiofmaknndpcaaGreatDoor
open Go.RowKit
namespace Tr
theorem qx8 (m : GMachine) (addr v : Int) : sameSz m (qaa m addr v).1 := by
 unfold qaa
 split
 ·split
  ·exact sameSz.refl _
  ·split
   ·exact qmr _ _ _ _
   ·exact sameSz.refl _
 ·exact sameSz.refl _
theorem qph (k : GKernel) (w : GWriter) : sameSz k.Machine (jq k w).1.Machine /\ (jq k w).1.Refuse = k.Refuse /\ (jq k w).2.Addr = w.Addr := by
 unfold jq
 split
 ·unfold stepW
  split
  ·exact ⟨sameSz.refl _, rfl, rfl⟩
  ·split
   ·exact ⟨sameSz.refl _, rfl, rfl⟩
   ·exact ⟨qx8 _ _ _, rfl, rfl⟩
 ·exact ⟨sameSz.refl _, rfl, rfl⟩
theorem qup (k : GKernel) (j : GJob) : sameSz k.Machine (qbc k j).1.Machine /\ (qbc k j).1.Refuse = k.Refuse /\ (qbc k j).2.Plan = j.Plan := by
 unfold qbc
 split
 ·exact qvy k j
 ·exact ⟨sameSz.refl _, rfl, rfl⟩
structure sameS (a b : WSt) : Prop where
 m : sameSz a.k.Machine b.k.Machine
 r : b.k.Refuse = a.k.Refuse
 p : b.j.Plan = a.j.Plan
 n : b.ws.length = a.ws.length
 w : ∀ n, (b.ws.getD n noW).Addr = (a.ws.getD n noW).Addr
theorem sameS.refl (a : WSt) : sameS a a := ⟨sameSz.refl _, rfl, rfl, rfl, fun _ => rfl⟩
theorem sameS.trans {a b c : WSt} (h : sameS a b) (h' : sameS b c) : sameS a c := ⟨h.m.trans h'.m, h'.r.trans h.r, h'.p.trans h.p, h'.n.trans h.n, fun n => (h'.w n).trans (h.w n)⟩
theorem qpi (l : List GWriter) (i j : Nat) (v : GWriter) : (l.set i v).getD j noW = if j = i /\ i < l.length then v else l.getD j noW := by
 rw [List.getD_eq_getElem?_getD, List.getElem?_set]
 by_cases e : i = j
 ·subst e
  rw [if_pos rfl]
  by_cases h : i < l.length
  ·rw [if_pos h, if_pos ⟨rfl, h⟩]; rfl
  ·rw [if_neg h, if_neg (fun hh => h hh.2), List.getD_eq_getElem?_getD, List.getElem?_eq_none (by omega)]
 ·rw [if_neg e, if_neg (fun h => e h.1.symm), List.getD_eq_getElem?_getD]
theorem q2i (s : WSt) (o : Int) : sameS s (stepO s o) := by
 unfold stepO
 split
 ·obtain ⟨h1, h2, h3⟩ := qup s.k s.j
  exact ⟨h1, h2, h3, rfl, fun _ => rfl⟩
 ·split
  ·obtain ⟨h1, h2, h3⟩ := qph s.k (s.ws.getD o.toNat noW)
   refine ⟨h1, h2, rfl, List.length_set, fun n => ?_⟩
   dsimp only
   rw [qpi]
   split
   ·rename_i e; rw [h3, e.1]
   ·rfl
  ·exact sameS.refl _
theorem qwi (s : WSt) (order : List Int) : ∀ n, sameS s (runO s order n)
 | 0 => sameS.refl _
 | n + 1 => (qwi s order n).trans (q2i _ _)
theorem qwj (s : GKernel × List GWriter) : ∀ n, sameSz s.1.Machine (finW s n).1.Machine /\ (finW s n).1.Refuse = s.1.Refuse /\ (finW s n).2.length = s.2.length /\ ∀ i, ((finW s n).2.getD i noW).Addr = (s.2.getD i noW).Addr
 | 0 => ⟨sameSz.refl _, rfl, rfl, fun _ => rfl⟩
 | n + 1 => by
  obtain ⟨h1, h2, h3, h4⟩ := qwj s n
  obtain ⟨g1, g2, g3⟩ := qph (finW s n).1 ((finW s n).2.getD n noW)
  refine ⟨h1.trans g1, g2.trans h2, (List.length_set).trans h3, fun i => ?_⟩
  show (((finW s n).2.set n _).getD i noW).Addr = _
  rw [qpi]
  split
  ·rename_i e; rw [g3, h4, e.1]
  ·exact h4 i
end Tr
end Go.Proofs.YtfiofmaknndpcaaGreatDoor

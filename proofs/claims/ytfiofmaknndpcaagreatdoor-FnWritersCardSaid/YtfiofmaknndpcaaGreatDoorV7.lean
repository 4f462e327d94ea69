/- Lemmas for the proofs, part 7 of 7: a symbolic run of the program, and what it needs. -/
import Derived.Stop.LaidErr
import Derived.Below
import Derived.Test.YtfiofmaknndpcaaGreatDoorRows
import Derived.Deep.DeepHandedRow
import Derived.Lib.LaidTab
import Derived.WalkSmall
import Derived.ProofKit
import Derived.OpenVars
import Derived.Test.YtfiofmaknndpcaaGreatDoorV6
set_option linter.unusedVariables false
set_option linter.unusedSimpArgs false
set_option maxRecDepth 100000
namespace Go.Proofs.YtfiofmaknndpcaaGreatDoor
open Go.RowKit
namespace Tr
theorem quq (k : GKernel) (j : GJob) : sameSz k.Machine (qcy k j 200).1.Machine /\ (qcy k j 200).1.Refuse = k.Refuse /\ (qcy k j 200).2.Plan = j.Plan := qt2 k j 200
end Tr
namespace Eng
open Tr
def qb4 (l : List GWriter) : CFD := ⟨46, [.one (ro 46 4 qau l)], [], .sv (.one (.hd 0)), [(0, some (.row 46 4 (l.map qau)))], [0], []⟩
theorem qpj (l : List GWriter) (hl : l.length <= 1048576) : Fn Tryz.prog (qb4 l) := by
 refine qm qf Tryz.func46 rfl Tryz.call46 Tryz.ntmps46 Tryz.results46 rfl rfl rfl rfl ?_
 intro X ρ0 hb_ hgl_
 dsimp only [qb4]
 try refine nrm ?_
 repeat' (refine qj ?_; first | refine st1 ?_ | (first | ((first | refine qc qf (inps := []) rfl ?_ ?_); rotate_left; (try refine nrm ?_); rotate_right) | refine ret3 ?_ | refine end3 ?_) | (refine ql rfl trivial ?_ ?_ <;> intro hc_ <;> (try simp only [qg, inB, reduceCtorEq, cds] at hc_) <;> (try (first | contradiction | (exfalso; omega)))) | refine qi (And.intro ?_ (wk3 ?_)))
 all_goals (first | refine qj ?_ | (try (focus ((try refine nrmO ?_); (repeat' (first | exact True.intro | apply And.intro)); all_goals (try (intro (hg_ : _ = true); (try simp only [qg, inB, reduceCtorEq, cds] at hg_); (repeat' (first | exact True.intro | apply And.intro)))); all_goals (first | exact ob1 | skip)))))
 refine qj1 (s := 0) rfl ?_ ?_
 ·intro hn hc
  repeat' (refine qj ?_; first | refine st1 ?_ | (first | ((first | refine qc qf (inps := []) rfl ?_ ?_); rotate_left; (try refine nrm ?_); rotate_right) | refine ret3 ?_ | refine end3 ?_) | (refine ql rfl trivial ?_ ?_ <;> intro hc_ <;> (try simp only [qg, inB, reduceCtorEq, cds] at hc_) <;> (try (first | contradiction | (exfalso; omega)))) | refine qi (And.intro ?_ (wk3 ?_)))
  all_goals (first | refine qj ?_ | (try (focus ((try refine nrmO ?_); (repeat' (first | exact True.intro | apply And.intro)); all_goals (try (intro (hg_ : _ = true); (try simp only [qg, inB, reduceCtorEq, cds] at hg_); (repeat' (first | exact True.intro | apply And.intro)))); all_goals (first | exact ob1 | skip)))))
  refine qnp (s := 2) (T := 46) (q := 4) (r := 90000) rfl rfl ?_
  repeat' (refine qj ?_; first | refine st1 ?_ | (first | ((first | refine qc qf (inps := []) rfl ?_ ?_); rotate_left; (try refine nrm ?_); rotate_right) | refine ret3 ?_ | refine end3 ?_) | (refine ql rfl trivial ?_ ?_ <;> intro hc_ <;> (try simp only [qg, inB, reduceCtorEq, cds] at hc_) <;> (try (first | contradiction | (exfalso; omega)))) | refine qi (And.intro ?_ (wk3 ?_)))
  all_goals (first | refine qj ?_ | (try (focus ((try refine nrmO ?_); (repeat' (first | exact True.intro | apply And.intro)); all_goals (try (intro (hg_ : _ = true); (try simp only [qg, inB, reduceCtorEq, cds] at hg_); (repeat' (first | exact True.intro | apply And.intro)))); all_goals (first | exact ob1 | skip)))))
  rw [List.length_eq_zero_iff.1 hn]; rfl
 ·intro ad cap hr
  repeat' (refine qj ?_; first | refine st1 ?_ | (first | ((first | refine qc qf (inps := []) rfl ?_ ?_); rotate_left; (try refine nrm ?_); rotate_right) | refine ret3 ?_ | refine end3 ?_) | (refine ql rfl trivial ?_ ?_ <;> intro hc_ <;> (try simp only [qg, inB, reduceCtorEq, cds] at hc_) <;> (try (first | contradiction | (exfalso; omega)))) | refine qi (And.intro ?_ (wk3 ?_)))
  all_goals (first | refine qj ?_ | (try (focus ((try refine nrmO ?_); (repeat' (first | exact True.intro | apply And.intro)); all_goals (try (intro (hg_ : _ = true); (try simp only [qg, inB, reduceCtorEq, cds] at hg_); (repeat' (first | exact True.intro | apply And.intro)))); all_goals (first | exact ob1 | skip)))))
  refine qmi (s := 0) hr rfl ?_
  repeat' (refine qj ?_; first | refine st1 ?_ | (first | ((first | refine qc (id := 3) qf (inps := [.elems (l.map qau)]) rfl ?_ ?_ | refine qc qf (inps := []) rfl ?_ ?_); rotate_left; (try refine nrm ?_); rotate_right) | refine ret3 ?_ | refine end3 ?_) | (refine ql rfl trivial ?_ ?_ <;> intro hc_ <;> (try simp only [qg, inB, reduceCtorEq, cds] at hc_) <;> (try (first | contradiction | (exfalso; omega)))) | refine qi (And.intro ?_ (wk3 ?_)))
  all_goals (first | refine qj ?_ | (try (focus ((try refine nrmO ?_); (repeat' (first | exact True.intro | apply And.intro)); all_goals (try (intro (hg_ : _ = true); (try simp only [qg, inB, reduceCtorEq, cds] at hg_); (repeat' (first | exact True.intro | apply And.intro)))); all_goals (first | exact ob1 | exact qca l (fun x => ⟨rfl, rfl, rfl, rfl, rfl, trivial⟩) | exact (by simp only [lns]; omega) | exact (by simp) | skip)))))
def q2j (s : Se) (k : GKernel) (j : GJob) (ws : List GWriter) (r : WSt) : CFD := ⟨12, [.agg [ro 33 1 xw k.Machine.Frames.Cells, ro 4 1 Tr.eB k.Machine.Frames.Used, ro 42 2 xe k.Machine.Table.Entries, (CV.lit (.int .i64 (k.Calls))), ro 3 1 Tr.eI k.Refuse], .agg [(CV.lit (.int .i64 (j.Plan.Keep))), (CV.lit (.int .i64 (j.Plan.Move))), ro 3 1 Tr.eI j.Plan.Cells, (CV.lit (.int .i64 (j.Phase))), (CV.lit (.int .i64 (j.Next)))], .one (ro 46 4 qau ws)], [], .tup [.agg [.hd 0, .hd 1, .hd 2, (CV.lit (.int .i64 (r.k.Calls))), .hd 3], .agg [(CV.lit (.int .i64 (r.j.Plan.Keep))), (CV.lit (.int .i64 (r.j.Plan.Move))), .hd 4, (CV.lit (.int .i64 (r.j.Phase))), (CV.lit (.int .i64 (r.j.Next)))], .one (.hd 5)], [(0, some (.row 33 1 (r.k.Machine.Frames.Cells.map xw))), (1, some (.row 4 1 (r.k.Machine.Frames.Used.map Tr.eB))), (2, some (.row 42 2 (r.k.Machine.Table.Entries.map xe))), (3, some (.row 3 1 (r.k.Refuse.map Tr.eI))), (4, some (.row 3 1 (r.j.Plan.Cells.map Tr.eI))), (5, some (.row 46 4 (r.ws.map qau)))], [0, 1, 2, 3, 4, 5], s.gl⟩
set_option maxHeartbeats 8000000 in
theorem q5i (s : Se) (k : GKernel) (j : GJob) (ws : List GWriter) (r : WSt) (hs : szK8 k) (hl : j.Plan.Cells.length <= 1048576) (hw : ws.length <= 1048576) (ha : ∀ n, okI (ws.getD n noW).Addr) (h : qg5 k j ws = r) : Fn Tryz.prog (q2j s k j ws r) := by
 obtain ⟨⟨k1, j1⟩, hr⟩ : ∃ r, qcy k j 200 = r := ⟨_, rfl⟩
 obtain ⟨g1, g2, g3⟩ := quq k j
 unfold qg5 at h
 rw [hr] at h g1 g2 g3
 have hs1 := qeh hs g1 g2
 have hz := qwj (k1, ws)
 have h0 : finW (k1, ws) 0 = (k1, ws) := rfl
 have hsucc : ∀ n, finW (k1, ws) (n + 1) = ((jq (finW (k1, ws) n).1 ((finW (k1, ws) n).2.getD n noW)).1, (finW (k1, ws) n).2.set n (jq (finW (k1, ws) n).1 ((finW (k1, ws) n).2.getD n noW)).2) := fun _ => rfl
 dsimp only at h
 generalize finW (k1, ws) = T at h h0 hsucc hz
 subst h
 refine qm qf Tryz.func12 rfl Tryz.call12 Tryz.ntmps12 Tryz.results12 rfl rfl rfl rfl ?_
 intro X ρ0 hb_ hgl_
 dsimp only [q2j]
 try refine nrm ?_
 repeat' (refine qj ?_; first | refine st1 ?_ | (first | ((first | refine qc (id := 1) qf (inps := [.call (qkr s k j 200 k1 j1)]) rfl ?_ ?_ | refine qc (id := 2) qf (inps := [.call (qb4 ws)]) rfl ?_ ?_ | refine qc qf (inps := []) rfl ?_ ?_); rotate_left; (try dsimp only [qb4, qkr]); (try refine nrm ?_); rotate_right) | refine ret3 ?_ | refine end3 ?_) | (refine ql rfl trivial ?_ ?_ <;> intro hc_ <;> (try simp only [qg, inB, reduceCtorEq, cds] at hc_) <;> (try (first | contradiction | (exfalso; omega)))) | refine qi (And.intro ?_ (wk3 ?_)))
 all_goals (first | refine qj ?_ | (try (focus ((try refine nrmO ?_); (repeat' (first | exact True.intro | apply And.intro)); all_goals (try (intro (hg_ : _ = true); (try simp only [qg, inB, reduceCtorEq, cds] at hg_); (repeat' (first | exact True.intro | apply And.intro)))); all_goals (first | exact ob1 | exact q2h s k j 200 k1 j1 hs hl hr | exact qpj ws hw | exact hgl_.1 | exact hgl_.2.1 | exact hgl_.2.2.1 | exact hgl_.2.2.2.1 | exact hgl_.2.2.2.2.1 | exact hgl_.2.2.2.2.2.1 | exact hgl_.2.2.2.2.2.2.1 | exact hgl_.2.2.2.2.2.2.2.1 | exact hgl_ | exact rfl | exact one1 rfl | skip)))))
 dsimp only [q2f, q2g]
 refine qk6 [3, 4, 6, 7, 9, 10, 18000, 18001, 18002, 18003, 18004, 22000] (by dsimp only [selB, hasN] <;> exact rfl) ?_
 refine qaf 29376479 (by dsimp only [qay] <;> exact rfl) ?_
 refine qai (ws.length) (fun n => True) (fun n => [(24, (TV.sv (.one (.lit (.int .i64 (n)))))), (11, (TV.sv (.one (.hd 22000)))), (22, (TV.sv (.one (.hd 22000))))]) (fun n => [(9, some (.box 35 [.hd 18000, .hd 18001, .hd 18002, (CV.lit (.int .i64 (((T n).1).Calls))), .hd 18003])), (18000, some (.row 33 1 (((T n).1).Machine.Frames.Cells.map xw))), (18001, some (.row 4 1 (((T n).1).Machine.Frames.Used.map Tr.eB))), (18002, some (.row 42 2 (((T n).1).Machine.Table.Entries.map xe))), (18003, some (.row 3 1 (((T n).1).Refuse.map Tr.eI))), (22000, some (.row 46 4 ((T n).2.map qau)))]) ?_ ?_ ?_
 rotate_left
 ·first | trivial | simp
 (dsimp only [zx, yx, Int.toNat_natCast, ro, Nat.reduceAdd, Nat.reduceMul, Nat.zero_add, List.map, putT, app, zn, gOb, argT, keys, yg, dropped, gAnd, wB, rnT, rnS, rnC, rnCs, rnSs, rnM, rnB, rnN, rn, lk, St.over, ded, delL, jo, menT, jw, menS, jv, menC, hasN, resT, SV.cells]; refine wk3 ?_; (focus ((try refine nrmO ?_); (repeat' (first | exact True.intro | apply And.intro)); all_goals (try (intro (hg_ : _ = true); (try simp only [qg, inB, reduceCtorEq, cds] at hg_); (repeat' (first | exact True.intro | apply And.intro)))); all_goals (first | exact ob1 | exact rfl | skip))))
 rotate_right
 intro n hn_ hnI_
 dsimp only [zx, yx, Int.toNat_natCast, ro, Nat.reduceAdd, Nat.reduceMul, Nat.zero_add, List.map, putT, app, zn, gOb, argT, keys, yg, dropped, gAnd, wB, rnT, rnS, rnC, rnCs, rnSs, rnM, rnB, rnN, rn, lk, St.over, ded, delL, jo, menT, jw, menS, jv, menC, hasN, resT, SV.cells]
 obtain ⟨z1, z2, z3, z4⟩ := hz n
 have hsn := qeh hs1 z1 z2
 have han : okI ((T n).2.getD n noW).Addr := by rw [z4]; exact ha n
 have hwn : (T n).2.length = ws.length := z3
 have hst := hsucc n
 obtain ⟨⟨k2, w1⟩, hW⟩ : ∃ r, jq (T n).1 ((T n).2.getD n noW) = r := ⟨_, rfl⟩
 rw [hW] at hst
 have hk1 : (T (n + 1)).1 = k2 := by rw [hst]
 have hw1 : (T (n + 1)).2 = (T n).2.set n w1 := by rw [hst]
 have hWr := qod s _ _ _ _ hsn han hW
 repeat' (refine qj ?_; first | refine st1 ?_ | (refine yc (id := 8) qf (by kernel_rfl) [] ?_; refine qp ?_; intro K_ hK_; repeat' (first | ((first | refine x8 ?_ | refine x9 ?_ | refine xy ?_); refine qp ?_; intro K_ hK_; (try dsimp only [qbl]); (try refine nrmE ?_)) | (refine zg ?_; (repeat subst hK_); dsimp only; refine Exists.intro _ (And.intro rfl (And.intro (by kernel_rfl) (And.intro ?_ ?_))); rotate_left; (try dsimp only [qbl]); (try refine nrm ?_); rotate_right))) | (first | ((first | refine qc (id := 5) qf (inps := [.elem (qau ((T n).2.getD n noW))]) rfl ?_ ?_ | refine qc (id := 6) qf (inps := [.call (qbl s (T n).1 ((T n).2.getD n noW) k2 w1), .elem (qau ((T n).2.getD n noW))]) rfl ?_ ?_ | refine qc qf (inps := []) rfl ?_ ?_); rotate_left; (try dsimp only [qbl]); (try refine nrm ?_); rotate_right) | refine ret3 ?_ | refine end3 ?_) | (refine ql rfl trivial ?_ ?_ <;> intro hc_ <;> (try simp only [qg, inB, reduceCtorEq, cds] at hc_) <;> (try (first | contradiction | (exfalso; omega)))) | refine qi (And.intro ?_ (wk3 ?_)))
 all_goals (first | refine qj ?_ | (try (focus ((try refine nrmO ?_); (repeat' (first | exact True.intro | apply And.intro)); all_goals (try (intro (hg_ : _ = true); (try simp only [qg, inB, reduceCtorEq, cds] at hg_); (repeat' (first | exact True.intro | apply And.intro)))); all_goals (first | exact ob1 | exact hWr | exact hgl_.1 | exact hgl_.2.1 | exact hgl_.2.2.1 | exact hgl_.2.2.2.1 | exact hgl_.2.2.2.2.1 | exact hgl_.2.2.2.2.2.1 | exact hgl_.2.2.2.2.2.2.1 | exact hgl_.2.2.2.2.2.2.2.1 | exact hgl_ | exact rfl | exact one1 rfl | skip)))))
 all_goals first | (rw [hk1]; done) | (rw [hw1, List.map_set]; rfl) | (rw [show n = ws.length by omega]; done) | (rw [h0]; done)
end Eng
end Go.Proofs.YtfiofmaknndpcaaGreatDoor
namespace Go.Proofs.YtfiofmaknndpcaaGreatDoor
open Go.RowKit
namespace Eng
open Tr
section
variable {P : Program} {F F' : Fr} {R : St -> Prop} {k : List It} {σ : St} {c : Nat} {S : World -> Prop} {vs : List Value}
theorem q8z {σ0 : St} {f : Nat -> Nat} (hw : Wk F' σ0 σ f) (h : AO P F F' c S vs R k σ0) : AO P F F' c S vs R k σ := fun a w hs => h a w (hw.st hs)
theorem q5j (mask : Nat) {t t' : TL} {m : ML} {u : List Nat} (ht : qay mask t = t') (h : AO P F F' c S vs R k ⟨t', m, u⟩) : AO P F F' c S vs R k ⟨t, m, u⟩ := by
 rintro a w ⟨ρ, hE, hA, hM, hU, hW⟩
 exact h a w ⟨ρ, hE, ⟨hA.size, hA.defers, fun s v hs => hA.at_ s v (qj0 (ht ▸ hs)).1⟩, hM, hU, hW⟩
theorem qx9 (ks : List Nat) {t : TL} {m m' : ML} {u : List Nat} (hm : selB ks m = m') (h : AO P F F' c S vs R k ⟨t, m', u⟩) : AO P F F' c S vs R k ⟨t, m, u⟩ := by
 subst hm
 intro a w hS
 obtain ⟨ρ, hE, hA, ⟨B, hM⟩, hU, hW⟩ := hS
 exact h a w ⟨ρ, hE, hA, ⟨B, hM.less (Ext.refl ρ) (fun _ _ => rfl) (fun q bq hq => qmj hq)⟩, hU, hW⟩
theorem q5k (hn : ¬ Co.Lone) (hH : F'.X.H = fun k => k = c) (hS : Co.Held c F'.X.Pt S) (hback : ∀ σ a w, qba F' σ a w -> qba F σ a w) (hFH : ∀ b, ¬ F.X.H b) {id ds sl : Nat} {o : Oper} {l2 : List Oper} {y : Code} {inps inps' : List Inp}
  (hd : o.dst = some ds) (hgd : o.guard = none) (hrv : ∀ (ρ : Operand -> Value) (w : World), (execOp ρ o).run P w = .ok (.comm #[{ chan := ρ (.tmp sl), send := none, zero := .int .i64 0 }] true (.recv true)) w /\ (execOp ρ o).events P w #[] = #[]) (hFn : F.n = F'.n) (hds : Nat.ble (ds + 1) F'.n = true)
  (order : List Int) (T : Nat -> TL) (M : Nat -> ML) (hslot : ∀ i, lk (σ.over (T i) (M i)).t sl = some (.sv (.one (.lit (.chan (some c))))))
  (hcons : ∀ i, i < order.length -> AS P F' (kont P F' (fun _ => False) [.code y, .until (fun σ' => (i < order.length /\ True) /\ ∃ f1, Wk F' (σ.over (T (i + 1)) (M (i + 1))) σ' f1)]) (o :: l2) l2 inps (putT (some ds) (some (.tup [.one (.lit (.int .i64 (order.getD i 0))), .one (.lit (.bool true))])) (σ.over (T i) (M i)).t) (σ.over (T i) (M i)).m (σ.over (T i) (M i)).u)
  (hnil : AS P F (kont P F R (.code y :: .until (fun _ => False) :: k)) (o :: l2) l2 inps' (putT (some ds) (some (.tup [.one (.lit (.int .i64 0)), .one (.lit (.bool false))])) (σ.over (T order.length) (M order.length)).t) (σ.over (T order.length) (M order.length)).m (σ.over (T order.length) (M order.length)).u)
  (hw : ∃ f0, Wk F' (σ.over (T 0) (M 0)) σ f0) :
  AO P F F' c S (order.map (.int .i64)) R (.code (.loop (.seq (.region id ⟨o :: l2⟩ false) y)) :: k) σ := by
 obtain ⟨f0, hw⟩ := hw
 refine q8z hw (q5d (inps := inps) (inps' := inps') hn hH hS hback hFH hd hgd hrv hds hFn rfl (fun vs σ1 => ∃ i, i <= order.length /\ vs = (order.drop i).map (.int .i64) /\ σ1 = σ.over (T i) (M i)) (fun v hv => by obtain ⟨x, _, rfl⟩ := List.mem_map.1 hv; rfl) ⟨0, Nat.zero_le _, rfl, rfl⟩ ?_ ?_ ?_)
 ·rintro vs σ1 ⟨i, _, _, rfl⟩; exact hslot i
 ·rintro v vs' σ1 hv ⟨i, hi, e, rfl⟩
  have hlt : i < order.length := by
   rcases Nat.lt_or_ge i order.length with h | h
   ·exact h
   ·rw [List.drop_eq_nil_of_le h] at e; cases e
  rw [List.drop_eq_getElem_cons hlt, List.map_cons] at e
  obtain ⟨rfl, rfl⟩ := List.cons.inj e
  have he : order[i] = order.getD i 0 := by simp [List.getD_eq_getElem?_getD, List.getElem?_eq_getElem hlt]
  rw [he]
  have up : ∀ e a w, kont P F' (fun _ => False) [.code y, .until (fun σ' => (i < order.length /\ True) /\ ∃ f1, Wk F' (σ.over (T (i + 1)) (M (i + 1))) σ' f1)] e a w -> kont P F' (fun _ => False) [.code y, .until (fun σ' => ∃ σ1 f, (∃ i_1, i_1 <= order.length /\ (order.drop (i + 1)).map (.int .i64) = (order.drop i_1).map (Value.int .i64) /\ σ1 = σ.over (T i_1) (M i_1)) /\ Wk F' σ1 σ' f)] e a w := by
   have up2 : ∀ e a w, kont P F' (fun _ => False) [.until (fun σ' => (i < order.length /\ True) /\ ∃ f1, Wk F' (σ.over (T (i + 1)) (M (i + 1))) σ' f1)] e a w -> kont P F' (fun _ => False) [.until (fun σ' => ∃ σ1 f, (∃ i_1, i_1 <= order.length /\ (order.drop (i + 1)).map (.int .i64) = (order.drop i_1).map (Value.int .i64) /\ σ1 = σ.over (T i_1) (M i_1)) /\ Wk F' σ1 σ' f)] e a w := by
    intro e a w h
    cases e with
    | normal => obtain ⟨σ', ⟨_, f1, h1⟩, h2⟩ := h; exact ⟨σ', ⟨_, f1, ⟨i + 1, hlt, rfl, rfl⟩, h1⟩, h2⟩
    | ret => exact h
    | exit id => exact h
    | goto l => exact h
    | panic ch => exact h
    | outgrown => exact h
   intro e a w h
   cases e with
   | normal => exact Co.qfh h up2
   | ret => exact h
   | exit id => exact h
   | goto l => exact h
   | panic ch => exact h
   | outgrown => exact h
  have mono : ∀ (l : List Oper) (a : Act) (w : World) {Q Q' : Exit -> Act -> World -> Prop}, (∀ e a w, Q e a w -> Q' e a w) -> Co.qb8 P F'.X.H F'.X.Pt (Array.mk (o :: l2)) Q l a w -> Co.qb8 P F'.X.H F'.X.Pt (Array.mk (o :: l2)) Q' l a w := by
   intro l
   induction l with
   | nil => exact fun a w Q Q' hq h => hq _ _ _ h
   | cons x l ih =>
    intro a w Q Q' hq h
    unfold Co.qb8 at h ⊢
    split at h
    ·rename_i hw; rw [if_pos hw]
     exact fun M b ops i rest k cs hk ho hw' hc => h M b ops i rest k cs hk ho hw' fun a' w' hK => hc a' w' (ih a' w' hq hK)
    ·rename_i hw; rw [if_neg hw]; exact ih _ _ hq h
  exact fun a w hs => mono _ _ _ up (hcons i hlt a w hs)
 ·rintro σ1 ⟨i, hi, e, rfl⟩
  have : i = order.length := by
   have h1 := congrArg List.length e
   simp at h1
   omega
  subst this
  exact hnil
end
def qur (s : Se) (k : GKernel) (j : GJob) (ws : List GWriter) (order : List Int) (r : WSt) : CFD := ⟨11, [.agg [ro 33 1 xw k.Machine.Frames.Cells, ro 4 1 Tr.eB k.Machine.Frames.Used, ro 42 2 xe k.Machine.Table.Entries, (CV.lit (.int .i64 (k.Calls))), ro 3 1 Tr.eI k.Refuse], .agg [(CV.lit (.int .i64 (j.Plan.Keep))), (CV.lit (.int .i64 (j.Plan.Move))), ro 3 1 Tr.eI j.Plan.Cells, (CV.lit (.int .i64 (j.Phase))), (CV.lit (.int .i64 (j.Next)))], .one (ro 46 4 qau ws), .one (ro 3 1 Tr.eI order)], [], .tup [.agg [.hd 0, .hd 1, .hd 2, (CV.lit (.int .i64 (r.k.Calls))), .hd 3], .agg [(CV.lit (.int .i64 (r.j.Plan.Keep))), (CV.lit (.int .i64 (r.j.Plan.Move))), .hd 4, (CV.lit (.int .i64 (r.j.Phase))), (CV.lit (.int .i64 (r.j.Next)))], .one (.hd 5)], [(0, some (.row 33 1 (r.k.Machine.Frames.Cells.map xw))), (1, some (.row 4 1 (r.k.Machine.Frames.Used.map Tr.eB))), (2, some (.row 42 2 (r.k.Machine.Table.Entries.map xe))), (3, some (.row 3 1 (r.k.Refuse.map Tr.eI))), (4, some (.row 3 1 (r.j.Plan.Cells.map Tr.eI))), (5, some (.row 46 4 (r.ws.map qau)))], [0, 1, 2, 3, 4, 5], s.gl⟩
set_option maxHeartbeats 8000000 in
theorem q5l (hn : ¬ Co.Lone) (s : Se) (hJ : ∀ k j k' j', szK8 k -> j.Plan.Cells.length <= 1048576 -> qbc k j = (k', j') -> Fn Tryz.prog (qbj s k j k' j')) (hWr : ∀ k w k' w', szK8 k -> okI w.Addr -> jq k w = (k', w') -> Fn Tryz.prog (qbl s k w k' w'))
  (k : GKernel) (j : GJob) (ws : List GWriter) (order : List Int) (r : WSt) (hs : szK8 k) (hl : j.Plan.Cells.length <= 1048576) (hw : ws.length <= 1048576) (ho : order.length <= 1048576) (ha : ∀ n, okI (ws.getD n noW).Addr) (h : qbh k j ws order = r) : FnGo Tryz.prog (qur s k j ws order r) := by
 have hcp := qc0 k (qdi hs)
 have hcj := qgt j hl
 have hcw := qpj ws hw
 unfold qbh at h
 by_cases hm : order.length <= 200
 ·rw [if_pos hm] at h
  have hz := qwi ⟨k, j, ws⟩ order
  have h0 : runO ⟨k, j, ws⟩ order 0 = ⟨k, j, ws⟩ := rfl
  have hsucc : ∀ n, runO ⟨k, j, ws⟩ order (n + 1) = stepO (runO ⟨k, j, ws⟩ order n) (order.getD n 0) := fun _ => rfl
  generalize runO ⟨k, j, ws⟩ order = T at h h0 hsucc hz
  refine qia hn qf Tryz.func11 rfl Tryz.ntmps11 Tryz.results11 rfl rfl rfl rfl ?_
  intro X ρ0 hb_ hgl_ hH_ hP_
  dsimp only [qur]
  try refine nrm ?_
  refine qfu hn (qh9 hn ?_)
  repeat' (refine qj ?_; first | refine st1 ?_ | (first | ((first | refine qc qf (inps := []) rfl ?_ ?_); rotate_left; (try refine nrm ?_); rotate_right) | refine ret3 ?_ | refine end3 ?_) | (refine ql rfl trivial ?_ ?_ <;> intro hc_ <;> (try simp only [qg, inB, reduceCtorEq, cds] at hc_) <;> (try (first | contradiction | (exfalso; omega)))) | refine qi (And.intro ?_ (wk3 ?_)) | fail)
  all_goals (first | refine qj ?_ | (try (focus ((try refine nrmO ?_); (repeat' (first | exact True.intro | apply And.intro)); all_goals (try (intro (hg_ : _ = true); (try simp only [qg, inB, reduceCtorEq, cds] at hg_); (repeat' (first | exact True.intro | apply And.intro)))); all_goals (first | exact ob1 | skip)))))
  refine qi ?_
  refine qfu hn (qh9 hn ?_)
  repeat' (refine qj ?_; first | refine st1 ?_ | (refine yc (id := 1) qf (by kernel_rfl) [.call (qo k), .call (qx j), .call (qb4 ws)] ?_; refine qp ?_; intro K_ hK_; repeat' (first | ((first | refine x8 ?_ | refine x9 ?_ | refine xy ?_); refine qp ?_; intro K_ hK_; (try dsimp only [qb4, qo, qx]); (try refine nrmE ?_)) | (refine zg ?_; (repeat subst hK_); dsimp only; refine Exists.intro _ (And.intro rfl (And.intro (by kernel_rfl) (And.intro ?_ ?_))); rotate_left; (try dsimp only [qb4, qo, qx]); (try refine nrm ?_); rotate_right))) | (first | ((first | refine qc qf (inps := []) rfl ?_ ?_); rotate_left; (try dsimp only [qb4, qo, qx]); (try refine nrm ?_); rotate_right) | refine ret3 ?_ | refine end3 ?_) | (refine ql rfl trivial ?_ ?_ <;> intro hc_ <;> (try simp only [qg, inB, reduceCtorEq, cds] at hc_) <;> (try (first | contradiction | (exfalso; omega)))) | refine qi (And.intro ?_ (wk3 ?_)) | fail)
  all_goals (first | refine qj ?_ | (try (focus ((try refine nrmO ?_); (repeat' (first | exact True.intro | apply And.intro)); all_goals (try (intro (hg_ : _ = true); (try simp only [qg, inB, reduceCtorEq, cds] at hg_); (repeat' (first | exact True.intro | apply And.intro)))); all_goals (first | exact ob1 | exact hcp | exact hcj | exact hcw | skip)))))
  dsimp only [q2f, q2g]
  refine qi ?_
  refine qfu hn (qh9 hn ?_)
  repeat' (refine qj ?_; first | refine st1 ?_ | (first | ((first | refine qc qf (inps := []) rfl ?_ ?_); rotate_left; (try refine nrm ?_); rotate_right) | refine ret3 ?_ | refine end3 ?_) | (refine ql rfl trivial ?_ ?_ <;> intro hc_ <;> (try simp only [qg, inB, reduceCtorEq, cds] at hc_) <;> (try (first | contradiction | (exfalso; omega) | (exfalso; omega)))) | refine qi (And.intro ?_ (wk3 ?_)) | fail)
  all_goals (first | refine qj ?_ | (try (focus ((try refine nrmO ?_); (repeat' (first | exact True.intro | apply And.intro)); all_goals (try (intro (hg_ : _ = true); (try simp only [qg, inB, reduceCtorEq, cds] at hg_); (repeat' (first | exact True.intro | apply And.intro)))); all_goals (first | exact ob1 | skip)))))
  refine qi ?_
  refine qfu hn (qfu hn ?_)
  refine q1w hn rfl rfl rfl rfl rfl rfl rfl rfl rfl rfl rfl (by omega) hH_ ?_
  intro X' c S hH' hS' hg' hback
  dsimp only at hback ⊢
  have hgl_ : qc8 (GlX X') s.gl := qfn hg' hgl_
  refine q1u hn hH' hS' ?_
  refine qx9 [8, 9, 11, 12, 17000, 17001, 17002, 17003, 19000, 21000] (by dsimp only [selB, hasN] <;> exact rfl) ?_
  refine q5j 805338943 (by dsimp only [qay] <;> exact rfl) ?_
  refine q5k (inps := []) (inps' := []) hn hH' hS' hback hH_ (ds := 29) (sl := 28) rfl rfl (fun ρ w => ⟨by kernel_rfl, by kernel_rfl⟩) rfl rfl order (fun n => [(13, (TV.sv (.one (.hd 21000))))]) (fun n => [(11, some (.box 35 [.hd 17000, .hd 17001, .hd 17002, (CV.lit (.int .i64 (((T n).k).Calls))), .hd 17003])), (17000, some (.row 33 1 (((T n).k).Machine.Frames.Cells.map xw))), (17001, some (.row 4 1 (((T n).k).Machine.Frames.Used.map Tr.eB))), (17002, some (.row 42 2 (((T n).k).Machine.Table.Entries.map xe))), (17003, some (.row 3 1 (((T n).k).Refuse.map Tr.eI))), (12, some (.box 48 [(CV.lit (.int .i64 (((T n).j).Plan.Keep))), (CV.lit (.int .i64 (((T n).j).Plan.Move))), .hd 19000, (CV.lit (.int .i64 (((T n).j).Phase))), (CV.lit (.int .i64 (((T n).j).Next)))])), (19000, some (.row 3 1 (((T n).j).Plan.Cells.map Tr.eI))), (21000, some (.row 46 4 ((T n).ws.map qau)))]) (fun n => rfl) ?_ ?_ ?_
  rotate_left
  ·have hT : T order.length = r := h
   dsimp only [zx, yx, Int.toNat_natCast, ro, Nat.reduceAdd, Nat.reduceMul, Nat.zero_add, List.map, putT, app, zn, gOb, argT, keys, yg, dropped, gAnd, wB, rnT, rnS, rnC, rnCs, rnSs, rnM, rnB, rnN, rn, lk, St.over, ded, delL, jo, menT, jw, menS, jv, menC, hasN, resT, SV.cells]
   generalize hQ_ : kont _ _ _ _ = Q_
   repeat' (first | (focus (refine zi qf ?_ ?_; (try refine nrm ?_); rotate_left)) | (subst hQ_; refine as_nil ?_))
   all_goals first | exact ⟨True.intro, True.intro⟩ | (dsimp only [app, gOb, All]; done) | (dsimp only [app, gOb, All]; exact True.intro) | skip
   repeat' (refine qj ?_; first | refine st1 ?_ | (refine yc (id := 11) qf (by kernel_rfl) [] ?_; refine qp ?_; intro K_ hK_; repeat' (first | ((first | refine x8 ?_ | refine x9 ?_ | refine xy ?_); refine qp ?_; intro K_ hK_; (try refine nrmE ?_)) | (refine zg ?_; (repeat subst hK_); dsimp only; refine Exists.intro _ (And.intro rfl (And.intro (by kernel_rfl) (And.intro ?_ ?_))); rotate_left; (try refine nrm ?_); rotate_right))) | (first | ((first | refine qc qf (inps := []) rfl ?_ ?_); rotate_left; (try refine nrm ?_); rotate_right) | refine ret3 ?_ | refine end3 ?_) | (refine ql rfl trivial ?_ ?_ <;> intro hc_ <;> (try simp only [qg, inB, reduceCtorEq, cds] at hc_) <;> (try (first | contradiction | (exfalso; omega) | (exfalso; omega)))) | refine qi (And.intro ?_ (wk3 ?_)) | fail)
   all_goals (first | refine qj ?_ | (try (focus ((try refine nrmO ?_); (repeat' (first | exact True.intro | apply And.intro)); all_goals (try (intro (hg_ : _ = true); (try simp only [qg, inB, reduceCtorEq, cds] at hg_); (repeat' (first | exact True.intro | apply And.intro)))); all_goals (first | exact ob1 | exact rfl | skip)))))
   all_goals first | (rw [hT]; done) | trace_state
  ·dsimp only [zx, yx, Int.toNat_natCast, ro, Nat.reduceAdd, Nat.reduceMul, Nat.zero_add, List.map, putT, app, zn, gOb, argT, keys, yg, dropped, gAnd, wB, rnT, rnS, rnC, rnCs, rnSs, rnM, rnB, rnN, rn, lk, St.over, ded, delL, jo, menT, jw, menS, jv, menC, hasN, resT, SV.cells]
   refine wk3 ?_
   all_goals (try (focus ((try refine nrmO ?_); (repeat' (first | exact True.intro | apply And.intro)); all_goals (try (intro (hg_ : _ = true); (try simp only [qg, inB, reduceCtorEq, cds] at hg_); (repeat' (first | exact True.intro | apply And.intro)))); all_goals (first | exact ob1 | exact rfl | skip))))
   all_goals first | (rw [h0]; done) | trace_state
  ·intro n hlt
   have hn0 := hz n
   have hsn := qeh hs hn0.m hn0.r
   have hln : (T n).j.Plan.Cells.length <= 1048576 := by rw [hn0.p]; exact hl
   have han : ∀ q, okI ((T n).ws.getD q noW).Addr := fun q => by rw [hn0.w]; exact ha q
   have hwn : (T n).ws.length <= 1048576 := by rw [hn0.n]; exact hw
   have hst := hsucc n
   unfold stepO at hst
   dsimp only [zx, yx, Int.toNat_natCast, ro, Nat.reduceAdd, Nat.reduceMul, Nat.zero_add, List.map, putT, app, zn, gOb, argT, keys, yg, dropped, gAnd, wB, rnT, rnS, rnC, rnCs, rnSs, rnM, rnB, rnN, rn, lk, St.over, ded, delL, jo, menT, jw, menS, jv, menC, hasN, resT, SV.cells]
   generalize hQ_ : kont _ _ _ _ = Q_
   repeat' (first | (focus (refine zi qf ?_ ?_; (try refine nrm ?_); rotate_left)) | (subst hQ_; refine as_nil ?_))
   all_goals first | exact ⟨True.intro, True.intro⟩ | (dsimp only [app, gOb, All]; done) | (dsimp only [app, gOb, All]; exact True.intro) | skip
   by_cases ho1 : order.getD n 0 = -1
   ·rw [if_pos ho1] at hst
    have hws : (T (n + 1)).ws = (T n).ws := by rw [hst]
    have hj1 := hJ (T n).k (T n).j (T (n + 1)).k (T (n + 1)).j hsn hln (by rw [hst])
    repeat' (refine qj ?_; first | refine st1 ?_ | (first | ((first | refine qc (id := 8) qf (inps := [.call (qbj s (T n).k (T n).j (T (n + 1)).k (T (n + 1)).j)]) rfl ?_ ?_ | refine qc qf (inps := []) rfl ?_ ?_); rotate_left; (try dsimp only [qbj]); (try refine nrm ?_); rotate_right) | refine ret3 ?_ | refine end3 ?_) | (refine ql rfl trivial ?_ ?_ <;> intro hc_ <;> (try simp only [qg, inB, reduceCtorEq, cds] at hc_) <;> (try (first | contradiction | (exfalso; omega) | (exfalso; exact hc_ ho1)))) | refine qi (And.intro ?_ (wk3 ?_)) | fail)
    all_goals (first | refine qj ?_ | (try (focus ((try refine nrmO ?_); (repeat' (first | exact True.intro | apply And.intro)); all_goals (try (intro (hg_ : _ = true); (try simp only [qg, inB, reduceCtorEq, cds] at hg_); (repeat' (first | exact True.intro | apply And.intro)))); all_goals (first | exact ob1 | exact hj1 | exact hgl_.1 | exact hgl_.2.1 | exact hgl_.2.2.1 | exact hgl_.2.2.2.1 | exact hgl_.2.2.2.2.1 | exact hgl_.2.2.2.2.2.1 | exact hgl_.2.2.2.2.2.2.1 | exact hgl_.2.2.2.2.2.2.2.1 | exact hgl_ | exact rfl | exact one1 rfl | skip)))))
    all_goals first | exact (congrArg _ hws.symm) | trace_state
   ·rw [if_neg ho1] at hst
    by_cases ho2 : 0 <= order.getD n 0 /\ order.getD n 0 < ((T n).ws.length : Int)
    ·rw [if_pos ho2] at hst
     obtain ⟨⟨k1, w1⟩, hW1⟩ : ∃ r, jq (T n).k ((T n).ws.getD (order.getD n 0).toNat noW) = r := ⟨_, rfl⟩
     rw [hW1] at hst
     have hk1 : (T (n + 1)).k = k1 := by rw [hst]
     have hj1 : (T (n + 1)).j = (T n).j := by rw [hst]
     have hw1 : (T (n + 1)).ws = (T n).ws.set (order.getD n 0).toNat w1 := by rw [hst]
     have hWc := hWr _ _ _ _ hsn (han _) hW1
     repeat' (refine qj ?_; first | refine st1 ?_ | (refine yc (id := 10) qf (by kernel_rfl) [.elem (qau ((T n).ws.getD (order.getD n 0).toNat noW)), .call (qbl s (T n).k ((T n).ws.getD (order.getD n 0).toNat noW) k1 w1), .elem (qau ((T n).ws.getD (order.getD n 0).toNat noW))] ?_; refine qp ?_; intro K_ hK_; repeat' (first | ((first | refine x8 ?_ | refine x9 ?_ | refine xy ?_); refine qp ?_; intro K_ hK_; (try dsimp only [qbl]); (try refine nrmE ?_)) | (refine zg ?_; (repeat subst hK_); dsimp only; refine Exists.intro _ (And.intro rfl (And.intro (by kernel_rfl) (And.intro ?_ ?_))); rotate_left; (try dsimp only [qbl]); (try refine nrm ?_); rotate_right))) | (first | ((first | refine qc qf (inps := []) rfl ?_ ?_); rotate_left; (try dsimp only [qbl]); (try refine nrm ?_); rotate_right) | refine ret3 ?_ | refine end3 ?_) | (refine ql rfl trivial ?_ ?_ <;> intro hc_ <;> (try simp only [qg, inB, reduceCtorEq, cds] at hc_) <;> (try (first | contradiction | (exfalso; omega) | (exfalso; first | omega | exact ho1 hc_)))) | refine qi (And.intro ?_ (wk3 ?_)) | fail)
     all_goals (first | refine qj ?_ | (try (focus ((try refine nrmO ?_); (repeat' (first | exact True.intro | apply And.intro)); all_goals (try (intro (hg_ : _ = true); (try simp only [qg, inB, reduceCtorEq, cds] at hg_); (repeat' (first | exact True.intro | apply And.intro)))); all_goals (first | exact ob1 | exact hWc | exact hgl_.1 | exact hgl_.2.1 | exact hgl_.2.2.1 | exact hgl_.2.2.2.1 | exact hgl_.2.2.2.2.1 | exact hgl_.2.2.2.2.2.1 | exact hgl_.2.2.2.2.2.2.1 | exact hgl_.2.2.2.2.2.2.2.1 | exact hgl_ | exact rfl | exact one1 rfl | skip)))))
     all_goals first | (rw [hk1]; done) | (rw [hj1]; done) | (rw [hw1, List.map_set]; rfl) | trace_state
    ·have hst' : T (n + 1) = T n := by rw [hst, if_neg ho2]
     repeat' (refine qj ?_; first | refine st1 ?_ | (first | ((first | refine qc qf (inps := []) rfl ?_ ?_); rotate_left; (try refine nrm ?_); rotate_right) | refine ret3 ?_ | refine end3 ?_) | (refine ql rfl trivial ?_ ?_ <;> intro hc_ <;> (try simp only [qg, inB, reduceCtorEq, cds] at hc_) <;> (try (first | contradiction | (exfalso; omega) | (exfalso; first | omega | exact ho1 hc_)))) | refine qi (And.intro ?_ (wk3 ?_)) | fail)
     all_goals (first | refine qj ?_ | (try (focus ((try refine nrmO ?_); (repeat' (first | exact True.intro | apply And.intro)); all_goals (try (intro (hg_ : _ = true); (try simp only [qg, inB, reduceCtorEq, cds] at hg_); (repeat' (first | exact True.intro | apply And.intro)))); all_goals (first | exact ob1 | skip)))))
     all_goals first | (rw [hst']; done) | trace_state
 ·rw [if_neg hm] at h
  subst h
  refine qia hn qf Tryz.func11 rfl Tryz.ntmps11 Tryz.results11 rfl rfl rfl rfl ?_
  intro X ρ0 hb_ hgl_ hH_ hP_
  dsimp only [qur]
  try refine nrm ?_
  refine qn9 hn ?_
  repeat' (refine qj ?_; first | refine st1 ?_ | (refine yc (id := 1) qf (by kernel_rfl) [.call (qo k), .call (qx j), .call (qb4 ws)] ?_; refine qp ?_; intro K_ hK_; repeat' (first | ((first | refine x8 ?_ | refine x9 ?_ | refine xy ?_); refine qp ?_; intro K_ hK_; (try dsimp only [qb4, qo, qx]); (try refine nrmE ?_)) | (refine zg ?_; (repeat subst hK_); dsimp only; refine Exists.intro _ (And.intro rfl (And.intro (by kernel_rfl) (And.intro ?_ ?_))); rotate_left; (try dsimp only [qb4, qo, qx]); (try refine nrm ?_); rotate_right))) | (refine yc (id := 3) qf (by kernel_rfl) [] ?_; refine qp ?_; intro K_ hK_; repeat' (first | ((first | refine x8 ?_ | refine x9 ?_ | refine xy ?_); refine qp ?_; intro K_ hK_; (try dsimp only [qb4, qo, qx]); (try refine nrmE ?_)) | (refine zg ?_; (repeat subst hK_); dsimp only; refine Exists.intro _ (And.intro rfl (And.intro (by kernel_rfl) (And.intro ?_ ?_))); rotate_left; (try dsimp only [qb4, qo, qx]); (try refine nrm ?_); rotate_right))) | (first | ((first | refine qc qf (inps := []) rfl ?_ ?_); rotate_left; (try dsimp only [qb4, qo, qx]); (try refine nrm ?_); rotate_right) | refine ret3 ?_ | refine end3 ?_) | (refine ql rfl trivial ?_ ?_ <;> intro hc_ <;> (try simp only [qg, inB, reduceCtorEq, cds] at hc_) <;> (try (first | contradiction | (exfalso; omega) | (exfalso; exact hm (by omega))))) | refine qi (And.intro ?_ (wk3 ?_)) | fail)
  all_goals (first | refine qj ?_ | (try (focus ((try refine nrmO ?_); (repeat' (first | exact True.intro | apply And.intro)); all_goals (try (intro (hg_ : _ = true); (try simp only [qg, inB, reduceCtorEq, cds] at hg_); (repeat' (first | exact True.intro | apply And.intro)))); all_goals (first | exact ob1 | exact hcp | exact hcj | exact hcw | skip)))))
  all_goals trace_state
set_option maxHeartbeats 4000000 in
theorem q8h (hn : ¬ Co.Lone) (G : List Glb) (hInt : ∀ k j ws o s, szK8 k -> j.Plan.Cells.length <= 1048576 -> ws.length <= 1048576 -> o.length <= 1048576 -> (∀ n, okI (ws.getD n noW).Addr) -> qbh k j ws o = s -> FnGo Tryz.prog (quh G k j ws o s))
  (hFin : ∀ k j ws s, szK8 k -> j.Plan.Cells.length <= 1048576 -> ws.length <= 1048576 -> (∀ n, okI (ws.getD n noW).Addr) -> qg5 k j ws = s -> Fn Tryz.prog (qui G k j ws s))
  (hWt : ∀ ws, ws.length <= 1048576 -> Fn Tryz.prog (qkm G ws)) (hKer : ∀ k, szK8 k -> Fn Tryz.prog (quj G k)) (bs : List Int) (hb : ∀ x ∈ bs, 0 <= x /\ x <= 255) : FnGo Tryz.prog (qsx G bs) := by
 by_cases hl : (1048576 : Int) < (bs.length : Int)
 ·have hd := decide_eq_true hl
  refine qia hn qf Tryz.func3 rfl Tryz.ntmps3 Tryz.results3 rfl rfl rfl rfl ?_
  intro X ρ0 hb_ hgl_ hH_ hP_
  dsimp only [qsx]
  try refine nrm ?_
  refine qn9 hn ?_
  repeat' (refine qj ?_; first | refine st1 ?_ | (first | ((first | refine qc (id := 1) qf (inps := [.call (qlz bs)]) rfl ?_ ?_ | refine qc qf (inps := []) rfl ?_ ?_); rotate_left; (try dsimp only [qlz]); (try refine nrm ?_); rotate_right) | refine ret3 ?_ | refine end3 ?_) | (refine ql rfl trivial ?_ ?_ <;> intro hc_ <;> (try simp only [qg, inB, reduceCtorEq, cds] at hc_) <;> (try (first | contradiction | (exfalso; omega)))) | refine qi (And.intro ?_ (wk3 ?_)) | fail)
  all_goals (first | refine qj ?_ | (try (focus ((try refine nrmO ?_); (repeat' (first | exact True.intro | apply And.intro)); all_goals (try (intro (hg_ : _ = true); (try simp only [qg, inB, reduceCtorEq, cds] at hg_); (repeat' (first | exact True.intro | apply And.intro)))); all_goals (first | exact ob1 | exact qt8 bs | skip)))))
 ·have hl' : bs.length <= 2097152 := by omega
  have hc0 := qml hl' hb
  obtain ⟨r, hr⟩ : ∃ r, qcl bs (dNew bs) = r := ⟨_, rfl⟩
  obtain ⟨w, hw⟩ : ∃ w, wrS bs r.1.2 r.2 16 = w := ⟨_, rfl⟩
  obtain ⟨o, ho⟩ : ∃ o, dOrd bs w.2 = o := ⟨_, rfl⟩
  have hdraw := qxs bs r w o hl' hb hr hw ho
  obtain ⟨g1, g2, g3, g4, g5⟩ := qf4 hc0
  have hol := q45 (bs := bs) (c := w.2) (by rw [← hw]; rw [hr] at g4; exact (qn5 g4 16).1)
  rw [ho] at hol
  have hwl := q1g (bs := bs) (p := r.1.2) (cu := r.2) 16
  rw [hw] at hwl
  have hE := fun hK hM => qsg (x1 := qbh r.1.1 ⟨r.1.2, 0, 0⟩ w.1 o.1) hc0 (congrArg (fun z => z.1.1) hr) (congrArg (fun z => z.1.2) hr) hw (by omega) hK hM rfl rfl
  have hWE := qxr hc0 (congrArg (fun z => z.1.1) hr) (congrArg (fun z => z.1.2) hr) hw (by omega) (rfl : qbh r.1.1 ⟨r.1.2, 0, 0⟩ w.1 o.1 = _)
  rw [hr] at g1 g2 g3 g5
  clear hr hw ho g4
  obtain ⟨⟨k, p⟩, cu⟩ := r
  obtain ⟨ws, cw⟩ := w
  obtain ⟨o, co⟩ := o
  dsimp only at hdraw hE hWE g1 g2 g3 g5 hol hwl
  have hp1 := g3.2.1
  have hp2 := g3.2.2.1
  have hcl := qj5 g3.2.2.2
  have hjn : qem p = (⟨p, 0, 0⟩, true) := if_pos g3
  have han : ∀ n, okI (ws.getD n noW).Addr := fun n => by
   by_cases hn : n < ws.length
   ·have := (hWE.2.2.2 n hn).1; exact ⟨by omega, by omega⟩
   ·rw [List.getD_eq_getElem?_getD, List.getElem?_eq_none (by omega)]; exact ⟨by decide, by decide⟩
  have hw1 : qkb [w1] = 1 := by decide
  have hW1 := hWt [w1] (by decide)
  have hen := g5.m.e
  by_cases hM : (qh k.Machine.Table p.Keep).Mode ≠ 0 /\ (qh k.Machine.Table p.Move).Mode ≠ 0
  ·obtain ⟨x1, hx1⟩ : ∃ x1, qbh k ⟨p, 0, 0⟩ ws o = x1 := ⟨_, rfl⟩
   have hE' := hE hM.1 hM.2
   rw [hx1] at hE' hWE
   obtain ⟨x2, hx2⟩ : ∃ x2, qg5 x1.k x1.j x1.ws = x2 := ⟨_, rfl⟩
   rw [hx2] at hE'
   obtain ⟨e1, e2, e3, e4⟩ := hWE
   obtain ⟨f1, f2, f3, f4⟩ := hE'
   have y1 : szK8 x1.k := by have := q1q e2; exact ⟨⟨this.m.c, this.m.u, this.m.r, this.m.e⟩, this.r⟩
   have y2 : szK8 x2.k := by have := q1q f2; exact ⟨⟨this.m.c, this.m.u, this.m.r, this.m.e⟩, this.r⟩
   have l1 : x1.j.Plan.Cells.length <= 1048576 := by have := qj5 e3.1.2.2.2; omega
   have a1 : ∀ n, okI (x1.ws.getD n noW).Addr := fun n => by
    by_cases hn : n < ws.length
    ·rw [(e4 n hn).2.1]; exact han n
    ·rw [List.getD_eq_getElem?_getD, List.getElem?_eq_none (by omega)]; exact ⟨by decide, by decide⟩
   have hI := hInt k ⟨p, 0, 0⟩ ws o x1 g5 (by show p.Cells.length <= _; omega) (by omega) (by omega) han hx1
   have hF := hFin x1.k x1.j x1.ws x2 y1 l1 (by omega) a1 hx2
   have hK2 := hKer x2.k y2
   have hk2 : qdv x2.k = true := decide_eq_true f2
   have hN := q5b p ⟨p, 0, 0⟩ true (by omega) hjn
   have hP1 := qbg k.Machine.Table p.Keep hen
   have hP2 := qbg k.Machine.Table p.Move hen
   have f4' : ∀ n, n < x2.ws.length -> (x2.ws.getD n noW).Done = true /\ (x2.ws.getD n noW).Addr <= 9223372036854775807 /\ qd7 x2.k.Machine (x2.ws.getD n noW).Addr = ((x2.ws.getD n noW).Value, 0) := fun n hn => by
    obtain ⟨q1, q2, q3⟩ := f4 n (by omega)
    exact ⟨q1, by rw [q2]; exact (han n).2, q3⟩
   unfold qbx at f3
   clear hx1 hx2 hE e4 f4
   refine qia hn qf Tryz.func3 rfl Tryz.ntmps3 Tryz.results3 rfl rfl rfl rfl ?_
   intro X ρ0 hb_ hgl_ hH_ hP_
   dsimp only [qsx]
   try refine nrm ?_
   refine qfu hn (qh9 hn ?_)
   repeat' (refine qj ?_; first | refine st1 ?_ | (first | ((first | refine qc qf (inps := []) rfl ?_ ?_); rotate_left; (try refine nrm ?_); rotate_right) | refine ret3 ?_ | refine end3 ?_) | (refine ql rfl trivial ?_ ?_ <;> intro hc_ <;> (try simp only [qg, inB, reduceCtorEq, cds] at hc_) <;> (try (first | contradiction | (exfalso; omega)))) | refine qi (And.intro ?_ (wk3 ?_)) | fail)
   all_goals (first | refine qj ?_ | (try (focus ((try refine nrmO ?_); (repeat' (first | exact True.intro | apply And.intro)); all_goals (try (intro (hg_ : _ = true); (try simp only [qg, inB, reduceCtorEq, cds] at hg_); (repeat' (first | exact True.intro | apply And.intro)))); all_goals (first | exact ob1 | skip)))))
   refine qi ?_
   refine qfu hn (qh9 hn ?_)
   repeat' (refine qj ?_; first | refine st1 ?_ | (first | ((first | refine qc (id := 1) qf (inps := [.call (qlz bs)]) rfl ?_ ?_ | refine qc qf (inps := []) rfl ?_ ?_); rotate_left; (try dsimp only [qlz]); (try refine nrm ?_); rotate_right) | refine ret3 ?_ | refine end3 ?_) | (refine ql rfl trivial ?_ ?_ <;> intro hc_ <;> (try simp only [qg, inB, reduceCtorEq, cds] at hc_) <;> (try (first | contradiction | (exfalso; omega) | (exfalso; grind)))) | refine qi (And.intro ?_ (wk3 ?_)) | fail)
   all_goals (first | refine qj ?_ | (try (focus ((try refine nrmO ?_); (repeat' (first | exact True.intro | apply And.intro)); all_goals (try (intro (hg_ : _ = true); (try simp only [qg, inB, reduceCtorEq, cds] at hg_); (repeat' (first | exact True.intro | apply And.intro)))); all_goals (first | exact ob1 | exact qt8 bs | skip)))))
   refine qi ?_
   refine qfu hn (qh9 hn ?_)
   repeat' (refine qj ?_; first | refine st1 ?_ | (first | ((first | refine qc (id := 3) qf (inps := [.call (qgm bs k p ws o)]) rfl ?_ ?_ | refine qc qf (inps := []) rfl ?_ ?_); rotate_left; (try dsimp only [qgm]); (try refine nrm ?_); rotate_right) | refine ret3 ?_ | refine end3 ?_) | (refine ql rfl trivial ?_ ?_ <;> intro hc_ <;> (try simp only [qg, inB, reduceCtorEq, cds] at hc_) <;> (try (first | contradiction | (exfalso; omega)))) | refine qi (And.intro ?_ (wk3 ?_)) | fail)
   all_goals (first | refine qj ?_ | (try (focus ((try refine nrmO ?_); (repeat' (first | exact True.intro | apply And.intro)); all_goals (try (intro (hg_ : _ = true); (try simp only [qg, inB, reduceCtorEq, cds] at hg_); (repeat' (first | exact True.intro | apply And.intro)))); all_goals (first | exact ob1 | exact hdraw | skip)))))
   refine qi ?_
   refine qfu hn (qh9 hn ?_)
   repeat' (refine qj ?_; first | refine st1 ?_ | (first | ((first | refine qc (id := 4) qf (inps := [.call (xq k.Machine.Table p.Keep), .call (xq k.Machine.Table p.Move)]) rfl ?_ ?_ | refine qc qf (inps := []) rfl ?_ ?_); rotate_left; (try dsimp only [xq]); (try refine nrm ?_); rotate_right) | refine ret3 ?_ | refine end3 ?_) | (refine ql rfl trivial ?_ ?_ <;> intro hc_ <;> (try simp only [qg, inB, reduceCtorEq, cds] at hc_) <;> (try (first | contradiction | (exfalso; omega) | (exfalso; grind)))) | refine qi (And.intro ?_ (wk3 ?_)) | fail)
   all_goals (first | refine qj ?_ | (try (focus ((try refine nrmO ?_); (repeat' (first | exact True.intro | apply And.intro)); all_goals (try (intro (hg_ : _ = true); (try simp only [qg, inB, reduceCtorEq, cds] at hg_); (repeat' (first | exact True.intro | apply And.intro)))); all_goals (first | exact ob1 | exact hP1 | exact hP2 | exact hgl_.1 | exact hgl_.2.1 | exact hgl_.2.2.1 | exact hgl_.2.2.2.1 | exact hgl_.2.2.2.2.1 | exact hgl_.2.2.2.2.2.1 | exact hgl_.2.2.2.2.2.2.1 | exact hgl_.2.2.2.2.2.2.2.1 | exact hgl_ | exact rfl | exact one1 rfl | skip)))))
   refine qi ?_
   refine qfu hn (qh9 hn ?_)
   repeat' (refine qj ?_; first | refine st1 ?_ | (first | ((first | refine qc (id := 6) qf (inps := [.call (quk p ⟨p, 0, 0⟩ true)]) rfl ?_ ?_ | refine qc qf (inps := []) rfl ?_ ?_); rotate_left; (try dsimp only [quk]); (try refine nrm ?_); rotate_right) | refine ret3 ?_ | refine end3 ?_) | (refine ql rfl trivial ?_ ?_ <;> intro hc_ <;> (try simp only [qg, inB, reduceCtorEq, cds] at hc_) <;> (try (first | contradiction | (exfalso; omega)))) | refine qi (And.intro ?_ (wk3 ?_)) | fail)
   all_goals (first | refine qj ?_ | (try (focus ((try refine nrmO ?_); (repeat' (first | exact True.intro | apply And.intro)); all_goals (try (intro (hg_ : _ = true); (try simp only [qg, inB, reduceCtorEq, cds] at hg_); (repeat' (first | exact True.intro | apply And.intro)))); all_goals (first | exact ob1 | exact hN | skip)))))
   dsimp only [zKer, zPln, q69]
   refine qi ?_
   refine qfu hn ?_
   refine q5c (l1 := [_, _, _, _]) (l2 := [_, _, _, _, _, _, _, _, _]) (inps1 := []) (inps2 := []) hn rfl rfl rfl rfl hH_ hP_ hI Tryz.call11 (fun _ _ => by kernel_rfl) ?_
   generalize hQ_ : kont _ _ _ _ = Q_
   repeat' (first | (focus (refine zi qf ?_ ?_; (try refine nrm ?_); rotate_left)) | (subst hQ_; refine as_nil ?_))
   all_goals first | exact ⟨True.intro, True.intro⟩ | (dsimp only [app, gOb, All]; done) | (dsimp only [app, gOb, All]; exact True.intro) | skip
   refine qi ?_
   refine ⟨_, _, ⟨_, _, _, _, _⟩, rfl, rfl, ?_, rfl, rfl, ?_⟩
   ·dsimp only [okG]
    all_goals (try (focus ((try refine nrmO ?_); (repeat' (first | exact True.intro | apply And.intro)); all_goals (try (intro (hg_ : _ = true); (try simp only [qg, inB, reduceCtorEq, cds] at hg_); (repeat' (first | exact True.intro | apply And.intro)))); all_goals (first | exact ob1 | exact hgl_.1 | exact hgl_.2.1 | exact hgl_.2.2.1 | exact hgl_.2.2.2.1 | exact hgl_.2.2.2.2.1 | exact hgl_.2.2.2.2.2.1 | exact hgl_.2.2.2.2.2.2.1 | exact hgl_.2.2.2.2.2.2.2.1 | exact hgl_ | exact rfl | exact one1 rfl | skip))))
   dsimp only [quh]
   refine nrm ?_
   generalize hQ_ : kont _ _ _ _ = Q_
   repeat' (first | (focus (refine zi qf ?_ ?_; (try refine nrm ?_); rotate_left)) | (subst hQ_; refine as_nil ?_))
   all_goals first | exact ⟨True.intro, True.intro⟩ | (dsimp only [app, gOb, All]; done) | (dsimp only [app, gOb, All]; exact True.intro) | skip
   repeat' (refine qj ?_; first | refine st1 ?_ | (first | ((first | refine qc (id := 8) qf (inps := [.call (qui G x1.k x1.j x1.ws x2)]) rfl ?_ ?_ | refine qc qf (inps := []) rfl ?_ ?_); rotate_left; (try dsimp only [qui]); (try refine nrm ?_); rotate_right) | refine ret3 ?_ | refine end3 ?_) | (refine ql rfl trivial ?_ ?_ <;> intro hc_ <;> (try simp only [qg, inB, reduceCtorEq, cds] at hc_) <;> (try (first | contradiction | (exfalso; omega) | (exfalso; grind)))) | refine qi (And.intro ?_ (wk3 ?_)) | fail)
   all_goals (first | refine qj ?_ | (try (focus ((try refine nrmO ?_); (repeat' (first | exact True.intro | apply And.intro)); all_goals (try (intro (hg_ : _ = true); (try simp only [qg, inB, reduceCtorEq, cds] at hg_); (repeat' (first | exact True.intro | apply And.intro)))); all_goals (first | exact ob1 | exact hF | exact hgl_.1 | exact hgl_.2.1 | exact hgl_.2.2.1 | exact hgl_.2.2.2.1 | exact hgl_.2.2.2.2.1 | exact hgl_.2.2.2.2.2.1 | exact hgl_.2.2.2.2.2.2.1 | exact hgl_.2.2.2.2.2.2.2.1 | exact hgl_ | exact rfl | exact one1 rfl | skip)))))
   try dsimp only [zKer, zPln, q69]
   refine qk6 [3, 4, 7, 9, 10, 20000, 20001, 20002, 20003, 20004, 20005, 20006, 49000, 65000, 65001, 65002, 65003, 65004, 65005] (by dsimp only [selB, hasN] <;> exact rfl) ?_
   refine qaf 16125 (by dsimp only [qay] <;> exact rfl) ?_
   refine qai (x2.ws.length) (fun n => True) (fun n => [(12, (TV.sv (.one (.lit (.int .i64 (n))))))]) (fun n => []) ?_ ?_ ?_
   rotate_left
   ·first | trivial | simp
   (dsimp only [zx, yx, Int.toNat_natCast, ro, Nat.reduceAdd, Nat.reduceMul, Nat.zero_add, List.map, putT, app, zn, gOb, argT, keys, yg, dropped, gAnd, wB, rnT, rnS, rnC, rnCs, rnSs, rnM, rnB, rnN, rn, lk, St.over, ded, delL, jo, menT, jw, menS, jv, menC, hasN, resT, SV.cells]; refine wk3 ?_; (focus ((try refine nrmO ?_); (repeat' (first | exact True.intro | apply And.intro)); all_goals (try (intro (hg_ : _ = true); (try simp only [qg, inB, reduceCtorEq, cds] at hg_); (repeat' (first | exact True.intro | apply And.intro)))); all_goals (first | exact ob1 | exact rfl | skip))))
   rotate_right
   intro n hn_ hnI_
   dsimp only [zx, yx, Int.toNat_natCast, ro, Nat.reduceAdd, Nat.reduceMul, Nat.zero_add, List.map, putT, app, zn, gOb, argT, keys, yg, dropped, gAnd, wB, rnT, rnS, rnC, rnCs, rnSs, rnM, rnB, rnN, rn, lk, St.over, ded, delL, jo, menT, jw, menS, jv, menC, hasN, resT, SV.cells]
   by_cases hn : n < x2.ws.length
   ·obtain ⟨q1, q2, q3⟩ := f4' n hn
    obtain ⟨u, hu⟩ : ∃ u, x2.ws.getD n noW = u := ⟨_, rfl⟩
    rw [hu] at q1 q2 q3
    have hel : (x2.ws.map qau)[n]? = some (qau u) := by rw [← hu]; exact qdo hn
    have hL := q5a x2.k.Machine u.Addr u.Value 0 y2.m q2 q3
    repeat' (refine qj ?_; first | refine st1 ?_ | (refine yc (id := 12) qf (by kernel_rfl) [.elem (qau u), .call (qn8 x2.k.Machine u.Addr u.Value 0)] ?_; refine qp ?_; intro K_ hK_; repeat' (first | ((first | refine x8 ?_ | refine x9 ?_ | refine xy ?_); refine qp ?_; intro K_ hK_; (try dsimp only [qn8]); (try refine nrmE ?_)) | (refine zg ?_; (repeat subst hK_); dsimp only; refine Exists.intro _ (And.intro rfl (And.intro (by kernel_rfl) (And.intro ?_ ?_))); rotate_left; (try dsimp only [qn8]); (try refine nrm ?_); rotate_right))) | (first | ((first | refine qc (id := 13) qf (inps := [.elem (qau u), .elem (qau u)]) rfl ?_ ?_ | refine qc qf (inps := []) rfl ?_ ?_); rotate_left; (try dsimp only [qn8]); (try refine nrm ?_); rotate_right) | refine ret3 ?_ | refine end3 ?_) | (refine ql rfl trivial ?_ ?_ <;> intro hc_ <;> (try simp only [qg, inB, reduceCtorEq, cds] at hc_) <;> (try (first | contradiction | (exfalso; omega) | (exfalso; grind)))) | refine qi (And.intro ?_ (wk3 ?_)) | fail)
    all_goals (first | refine qj ?_ | (try (focus ((try refine nrmO ?_); (repeat' (first | exact True.intro | apply And.intro)); all_goals (try (intro (hg_ : _ = true); (try simp only [qg, inB, reduceCtorEq, cds] at hg_); (repeat' (first | exact True.intro | apply And.intro)))); all_goals (first | exact ob1 | exact hel | exact hL | skip)))))
    all_goals trace_state
   ·skip
    repeat' (refine qj ?_; first | refine st1 ?_ | (first | ((first | refine qc (id := 15) qf (inps := [.call (quj G x2.k), .call (qkm G [w1])]) rfl ?_ ?_ | refine qc qf (inps := []) rfl ?_ ?_); rotate_left; (try dsimp only [quj, qkm]); (try refine nrm ?_); rotate_right) | refine ret3 ?_ | refine end3 ?_) | (refine ql rfl trivial ?_ ?_ <;> intro hc_ <;> (try simp only [qg, inB, reduceCtorEq, cds] at hc_) <;> (try (first | contradiction | (exfalso; omega) | (exfalso; omega)))) | refine qi (And.intro ?_ (wk3 ?_)) | fail)
    all_goals (first | refine qj ?_ | (try (focus ((try refine nrmO ?_); (repeat' (first | exact True.intro | apply And.intro)); all_goals (try (intro (hg_ : _ = true); (try simp only [qg, inB, reduceCtorEq, cds] at hg_); (repeat' (first | exact True.intro | apply And.intro)))); all_goals (first | exact ob1 | exact hK2 | exact hW1 | exact hgl_.1 | exact hgl_.2.1 | exact hgl_.2.2.1 | exact hgl_.2.2.2.1 | exact hgl_.2.2.2.2.1 | exact hgl_.2.2.2.2.2.1 | exact hgl_.2.2.2.2.2.2.1 | exact hgl_.2.2.2.2.2.2.2.1 | exact hgl_ | exact rfl | exact one1 rfl | skip)))))
    all_goals (rw [List.length_map, List.length_map, f1, hk2]; try rw [hw1]); rcases f3 with h | h <;> rw [h] <;> simp
   all_goals trace_state
  ·have hP1 := qbg k.Machine.Table p.Keep hen
   have hP2 := qbg k.Machine.Table p.Move hen
   clear hE hWE
   refine qia hn qf Tryz.func3 rfl Tryz.ntmps3 Tryz.results3 rfl rfl rfl rfl ?_
   intro X ρ0 hb_ hgl_ hH_ hP_
   dsimp only [qsx]
   try refine nrm ?_
   refine qn9 hn ?_
   repeat' (refine qj ?_; first | refine st1 ?_ | (first | ((first | refine qc (id := 1) qf (inps := [.call (qlz bs)]) rfl ?_ ?_ | refine qc (id := 3) qf (inps := [.call (qgm bs k p ws o)]) rfl ?_ ?_ | refine qc (id := 4) qf (inps := [.call (xq k.Machine.Table p.Keep), .call (xq k.Machine.Table p.Move)]) rfl ?_ ?_ | refine qc (id := 5) qf (inps := [.call (qkm G [w1])]) rfl ?_ ?_ | refine qc qf (inps := []) rfl ?_ ?_); rotate_left; (try dsimp only [qgm, xq, qkm, qlz]); (try refine nrm ?_); rotate_right) | refine ret3 ?_ | refine end3 ?_) | (refine ql rfl trivial ?_ ?_ <;> intro hc_ <;> (try simp only [qg, inB, reduceCtorEq, cds] at hc_) <;> (try (first | contradiction | (exfalso; omega) | (exfalso; grind)))) | refine qi (And.intro ?_ (wk3 ?_)) | fail)
   all_goals (first | refine qj ?_ | (try (focus ((try refine nrmO ?_); (repeat' (first | exact True.intro | apply And.intro)); all_goals (try (intro (hg_ : _ = true); (try simp only [qg, inB, reduceCtorEq, cds] at hg_); (repeat' (first | exact True.intro | apply And.intro)))); all_goals (first | exact ob1 | exact qt8 bs | exact hdraw | exact hP1 | exact hP2 | exact hW1 | exact hgl_.1 | exact hgl_.2.1 | exact hgl_.2.2.1 | exact hgl_.2.2.2.1 | exact hgl_.2.2.2.2.1 | exact hgl_.2.2.2.2.2.1 | exact hgl_.2.2.2.2.2.2.1 | exact hgl_.2.2.2.2.2.2.2.1 | exact hgl_ | exact rfl | exact one1 rfl | skip)))))
   all_goals trace_state
theorem cntW (l : List GWriter) {i : Nat} (h : i < l.length) : (l.take (i + 1)).countP qfs = (l.take i).countP qfs + (if qfs (l.getD i noW) then 1 else 0) := by
 rw [List.take_add_one, List.getElem?_eq_getElem h, List.countP_append, List.getD_eq_getElem?_getD, List.getElem?_eq_getElem h]
 simp [List.countP_cons]
theorem q8i (l : List GWriter) (i : Nat) : (l.take i).countP qfs <= l.length := Nat.le_trans List.countP_le_length (by simp; omega)
def qwk (l : List GWriter) : CFD := ⟨9, [.one (ro 46 4 qau l)], [], (TV.sv (.one (.lit (.int .i64 (qkb l))))), [], [], []⟩
theorem q2k (l : List GWriter) (hl : l.length <= 1048576) : Fn Tryz.prog (qwk l) := by
 have hV : qkb l = ((l.countP qfs : Nat) : Int) := rfl
 have up := q8i l
 refine qm qf Tryz.func9 rfl Tryz.call9 Tryz.ntmps9 Tryz.results9 rfl rfl rfl rfl ?_
 intro X ρ0 hb_ hgl_
 dsimp only [qwk]
 try refine nrm ?_
 rw [hV]
 repeat' (refine qj ?_; first | refine st1 ?_ | (first | ((first | refine qc qf (inps := []) rfl ?_ ?_); rotate_left; (try refine nrm ?_); rotate_right) | refine ret3 ?_ | refine end3 ?_) | (refine ql rfl trivial ?_ ?_ <;> intro hc_ <;> (try simp only [qg, inB, reduceCtorEq, cds] at hc_) <;> (try (first | contradiction | (exfalso; omega)))) | refine qi (And.intro ?_ (wk3 ?_)))
 all_goals (first | refine qj ?_ | (try (focus ((try refine nrmO ?_); (repeat' (first | exact True.intro | apply And.intro)); all_goals (try (intro (hg_ : _ = true); (try simp only [qg, inB, reduceCtorEq, cds] at hg_); (repeat' (first | exact True.intro | apply And.intro)))); all_goals (first | exact ob1 | skip)))))
 refine qaf 493 (by dsimp only [qay] <;> exact rfl) ?_
 refine qai (l.length) (fun n => True) (fun n => [(8, (TV.sv (.one (.lit (.int .i64 (n)))))), (3, (TV.sv (.one (.lit (.int .i64 (((l.take n).countP qfs : Nat)))))))]) (fun n => []) ?_ ?_ ?_
 rotate_left
 ·first | trivial | simp
 (dsimp only [zx, yx, Int.toNat_natCast, ro, Nat.reduceAdd, Nat.reduceMul, Nat.zero_add, List.map, putT, app, zn, gOb, argT, keys, yg, dropped, gAnd, wB, rnT, rnS, rnC, rnCs, rnSs, rnM, rnB, rnN, rn, lk, St.over, ded, delL, jo, menT, jw, menS, jv, menC, hasN, resT, SV.cells]; refine wk3 ?_; (focus ((try refine nrmO ?_); (repeat' (first | exact True.intro | apply And.intro)); all_goals (try (intro (hg_ : _ = true); (try simp only [qg, inB, reduceCtorEq, cds] at hg_); (repeat' (first | exact True.intro | apply And.intro)))); all_goals (first | exact ob1 | exact rfl | skip))))
 rotate_right
 intro n hn_ hnI_
 dsimp only [zx, yx, Int.toNat_natCast, ro, Nat.reduceAdd, Nat.reduceMul, Nat.zero_add, List.map, putT, app, zn, gOb, argT, keys, yg, dropped, gAnd, wB, rnT, rnS, rnC, rnCs, rnSs, rnM, rnB, rnN, rn, lk, St.over, ded, delL, jo, menT, jw, menS, jv, menC, hasN, resT, SV.cells]
 have hn1 : n < l.length -> (l.take (n + 1)).countP qfs = (l.take n).countP qfs + if qfs (l.getD n noW) then 1 else 0 := fun hn => cntW l hn
 have hwW : qfs (l.getD n noW) = (!(l.getD n noW).Done && decide (0 < (l.getD n noW).Waits)) := rfl
 have := up n
 repeat' (refine qj ?_; first | refine st1 ?_ | (first | ((first | refine qc (id := 4) qf (inps := [.elem (qau (l.getD n noW))]) rfl ?_ ?_ | refine qc qf (inps := []) rfl ?_ ?_); rotate_left; (try refine nrm ?_); rotate_right) | refine ret3 ?_ | refine end3 ?_) | (refine ql rfl trivial ?_ ?_ <;> intro hc_ <;> (try simp only [qg, inB, reduceCtorEq, cds] at hc_) <;> (try (first | contradiction | (exfalso; omega)))) | refine qi (And.intro ?_ (wk3 ?_)))
 all_goals (first | refine qj ?_ | (try (focus ((try refine nrmO ?_); (repeat' (first | exact True.intro | apply And.intro)); all_goals (try (intro (hg_ : _ = true); (try simp only [qg, inB, reduceCtorEq, cds] at hg_); (repeat' (first | exact True.intro | apply And.intro)))); all_goals (first | exact ob1 | skip)))))
 ·rw [hn1 (by omega), if_pos (by rw [hwW, hc_.1, decide_eq_true hc_.2]; rfl)]
  exact congrArg _ (by omega)
 ·rw [hn1 (by omega), if_neg (by
   rw [hwW]
   rcases hc_ with h | h
   ·rw [h]; simp
   ·rw [decide_eq_false (by omega)]; simp)]
  rfl
 ·rw [List.take_of_length_le (by omega)]
theorem q5m {P : Program} {c : CFD} {xs : List Value} {w : World} (hf : FnGo P c) (hi : P.inits.idxOf? c.f = none) (hp : c.pre = []) (ha : qa9 (cxOf w) qrv c.args xs) {Post : Value -> World -> Prop} (hPost : ∀ v ρ' w', TRel (cxOf w) ρ' c.res v -> MRel (cxOf w) ρ' w' c.post -> Below w.heap.size w w' -> Post v w') (hgl : qc8 (GlX (cxOf w)) c.gl := by exact True.intro) :
  Co.Ends P Post (Go.Conc.solo (Go.Conc.G (Frame.enter P c.f xs.toArray .normal) []) w) #[] := by
 have post : ∀ v w', qjw (cxOf w) qrv c (.returned v) w' -> Post v w' := by
  rintro v w' ⟨v', ρ', e, h1, _, _, h3, h4⟩
  cases e
  exact hPost _ ρ' _ h1 h3 (qtu h4)
 have hrun : Co.Run0 P Post (Go.Conc.G (Frame.enter P c.f xs.toArray .normal) []) w := hf (cxOf w) qrv xs rfl (fun _ h => h) (fun _ h => h) hgl (by rw [hp]; exact qzc) (fun _ _ h => by cases h) ha Post []
  (fun fr w' hfr hl => Co.leave0 (by rw [hfr]; exact hi) hl post)
  (fun ch fr w' hfr hl => Co.q8e (by rw [hfr]; exact hi) hl post)
 exact hrun #[] (fun op hop => by simp at hop) (fun op hop => by simp at hop)
end Eng
end Go.Proofs.YtfiofmaknndpcaaGreatDoor
namespace Go.Proofs.YtfiofmaknndpcaaGreatDoor
open Go.RowKit Go.ChangeShapes
namespace LaidS
theorem vars {P : Program} {nm : String} {W : World} {ti tp te ts : TypeId} {ms : Array (String × TypeId)} {f : Field}
  (hi : P.underlying ti = some (.interface ms)) (hrow : ∀ u, P.typeName? 3 u = some nm -> u = tp)
  (hp : P.underlying tp = some (.pointer te)) (he : P.underlying te = some (.struct #[f])) (hft : f.type = ts) (hfo : f.offset = 0) (hs : P.underlying ts = some .string) (hc : P.cellsOf te = 1) (hcs : P.cellsOf ts = 1) :
  ∀ (L : List (String × List UInt8 × Nat)) (r : List (String × DataW Unit)) (ps : List MemPlace), DataW.LaidVars P W (L.map (fun x => (x.1, .iface nm (.ptr (.agg [.lit (.string x.2.1)])))) ++ r) ps -> ps.Nodup →
   (∀ b off, MemPlace.cell b off ∈ ps -> (∃ c t, W.heap[b]? = some (.cells c t (0, 0))) /\ ∀ u v, W.cell? ⟨b, off, none⟩ = some (.iface u v) -> Value.okWide P W .any 0 u v) →
   (∀ x ∈ L, P.globalNamed x.1 = some x.2.2 /\ (P.globals[x.2.2]?).map (·.type) = some ti) →
   ∃ as0 : List Addr, as0.length = L.length /\ as0.Nodup /\ (∀ a ∈ as0, MemPlace.cell a.block a.off ∈ ps) ∧
    ∀ (i : Nat) x a, L[i]? = some x -> as0[i]? = some a -> (∃ ty, W.heap[x.2.2]? = some (.cells #[.iface tp (.pointer (some a))] ty (0, 0))) /\ ∃ c t, W.heap[a.block]? = some (.cells c t (0, 0))
 | [], _, _, _, _, _, _ => ⟨[], rfl, List.nodup_nil, fun _ h => (by cases h), fun i x a h => by simp at h⟩
 | (n, text, g) :: L, r, ps, hv, hnd, hrows, hg => by
  obtain ⟨g0, t0, cs0, f0, p0, q0, hg0, ht0, hv0, hd0, hq0, e0⟩ := hv
  obtain ⟨hg1, ht1⟩ := hg (n, text, g) (by simp)
  obtain rfl := Option.some.inj (hg1.symm.trans hg0)
  obtain rfl := Option.some.inj (ht1.symm.trans ht0)
  subst e0
  obtain ⟨l0⟩ := cs0
  have ok0 : ∀ u v, l0 = [.iface u v] -> Value.okWide P W .any 0 u v := fun u v e => by
   subst e
   exact (hrows g 0 (by simp [MemPlace.row])).2 u v (by simpa using World.var?_cell hg0 hv0 0)
  obtain ⟨a0, s0, rfl, hc0, _, _, rfl⟩ := errorString_of_trod hi hrow hp he hft hfo hs hc hcs hd0 ok0
  have hr0 : MemPlace.row a0 1 = [MemPlace.cell a0.block a0.off] := by simp [MemPlace.row]
  rw [hr0] at hnd hrows
  rw [List.nodup_append] at hnd
  obtain ⟨_, hnd2, hnd3⟩ := hnd
  obtain ⟨as0, h1, h2, h3, h4⟩ := vars hi hrow hp he hft hfo hs hc hcs L r q0 hq0 hnd2 (fun b off hm => hrows b off (List.mem_append_right _ hm)) (fun x hx => hg x (by simp [hx]))
  refine ⟨a0 :: as0, by simp [h1], ?_, ?_, ?_⟩
  ·rw [List.nodup_cons]
   exact ⟨fun hm => hnd3 _ (by simp) _ (h3 a0 hm) rfl, h2⟩
  ·intro a ha
   rw [List.mem_cons] at ha
   rcases ha with rfl | ha
   ·rw [hr0]; simp
   ·exact List.mem_append_right _ (h3 a ha)
  ·intro i x a hx ha
   cases i with
   | zero =>
    simp at hx ha
    subst hx ha
    refine ⟨?_, (hrows a0.block a0.off (by simp)).1⟩
    obtain ⟨c, t, hb⟩ := (hrows g 0 (by simp [MemPlace.row])).1
    have : c = #[.iface tp (.pointer (some a0))] := by
     have hv1 := hv0
     unfold World.var? at hv1
     rw [hg0, Option.bind_some, hb] at hv1
     exact Option.some.inj hv1
    exact ⟨t, this ▸ hb⟩
   | succ i => exact h4 i x a (by simpa using hx) (by simpa using ha)
def At (tp : TypeId) (gs : List Nat) (w : World) : Prop :=
 ∃ as0 : List Addr, as0.length = gs.length /\ as0.Nodup /\ ∀ (i : Nat) g a, gs[i]? = some g -> as0[i]? = some a -> (∃ ty, w.heap[g]? = some (.cells #[.iface tp (.pointer (some a))] ty (0, 0))) /\ ∃ c t, w.heap[a.block]? = some (.cells c t (0, 0))
theorem lt_of {w : World} {g : Nat} {o : Obj} (h : w.heap[g]? = some o) : g < w.heap.size := by
 rcases Nat.lt_or_ge g w.heap.size with h1 | h1
 ·exact h1
 ·rw [Array.getElem?_eq_none h1] at h; cases h
theorem at_of {P : Program} {nm : String} {W : World} {ti tp te ts : TypeId} {ms : Array (String × TypeId)} {f : Field} {L : List (String × List UInt8 × Nat)} {r : List (String × DataW Unit)}
  (h : laidMet P (L.map (fun x => (x.1, .iface nm (.ptr (.agg [.lit (.string x.2.1)])))) ++ r) W)
  (hi : P.underlying ti = some (.interface ms)) (hrow : ∀ u, P.typeName? 3 u = some nm -> u = tp)
  (hp : P.underlying tp = some (.pointer te)) (he : P.underlying te = some (.struct #[f])) (hft : f.type = ts) (hfo : f.offset = 0) (hs : P.underlying ts = some .string) (hc : P.cellsOf te = 1) (hcs : P.cellsOf ts = 1)
  (hg : ∀ x ∈ L, P.globalNamed x.1 = some x.2.2 /\ (P.globals[x.2.2]?).map (·.type) = some ti) : At tp (L.map (·.2.2)) W := by
 obtain ⟨ps, hv, hnd, hrows⟩ := h
 obtain ⟨as0, h1, h2, _, h4⟩ := vars hi hrow hp he hft hfo hs hc hcs L r ps hv hnd hrows hg
 refine ⟨as0, by simpa using h1, h2, fun i g a hgi ha => ?_⟩
 rw [List.getElem?_map] at hgi
 obtain ⟨x, hx, rfl⟩ := Option.map_eq_some_iff.1 hgi
 exact h4 i x a hx ha
end LaidS
end Go.Proofs.YtfiofmaknndpcaaGreatDoor
namespace Go.Proofs.YtfiofmaknndpcaaGreatDoor
open Go.RowKit
namespace Eng
open Tr
theorem qwl {w : World} {g : Nat} {cs : List Value} {T : Nat} (h : w.heap[g]? = some (.cells cs.toArray T (0, 0))) : GlX (cxOf w) ⟨g, cs, T, (0, 0)⟩ := ⟨h, LaidS.lt_of h, fun h => h⟩
theorem qus {w : World} {g : Nat} {c : Array Value} {T : Nat} (h : w.heap[g]? = some (.cells c T (0, 0))) : GlX (cxOf w) ⟨g, c.toList, T, (0, 0)⟩ := qwl (by rw [Array.toArray_toList]; exact h)
theorem se3 {w : World} (h : LaidS.At 225 [2, 0, 1] w) : ∃ s : Se, qc8 (GlX (cxOf w)) s.gl := by
 obtain ⟨xs, h1, h2, h3⟩ := h
 match xs, h1, h2 with
 | [a, b, c], _, h2 =>
  obtain ⟨⟨t1, k1⟩, c1, u1, l1⟩ := h3 0 _ a rfl rfl
  obtain ⟨⟨t2, k2⟩, c2, u2, l2⟩ := h3 1 _ b rfl rfl
  obtain ⟨⟨t3, k3⟩, c3, u3, l3⟩ := h3 2 _ c rfl rfl
  simp only [List.nodup_cons, List.mem_cons, List.not_mem_nil, or_false, not_or] at h2
  exact ⟨⟨a, b, c, c1.toList, c2.toList, c3.toList, u1, u2, u3, t1, t2, t3, h2.1.1, h2.1.2, h2.2.1⟩, qwl k1, qwl k2, qwl k3, qus l1, qus l2, qus l3, trivial⟩
theorem q2l {P : Program} {f : Nat} {a : List SV} {pre : ML} {res : TV} {post : ML} {nm : List Nat} (G : List Glb) (h : Fn P ⟨f, a, pre, res, post, nm, []⟩) : Fn P ⟨f, a, pre, res, post, nm, G⟩ :=
 ⟨fun X ρ xs h1 _ h3 h4 h5 => h.fn X ρ xs h1 True.intro h3 h4 h5, h.call, h.ev⟩
theorem qs6 : ¬ Co.Lone := fun h => h
theorem q8j (s : Se) (k : GKernel) (j : GJob) (ws : List GWriter) (o : List Int) (r : WSt) (h1 : szK8 k) (h2 : j.Plan.Cells.length <= 1048576) (h3 : ws.length <= 1048576) (h4 : o.length <= 1048576) (h5 : ∀ n, okI (ws.getD n noW).Addr) (h6 : qbh k j ws o = r) : FnGo Tryz.prog (quh s.gl k j ws o r) :=
 q5l qs6 s (fun k j k' j' h1 h2 h3 => qpg s k j k' j' h1 h2 h3) (fun k w k' w' h1 h2 h3 => qod s k w k' w' h1 h2 h3) k j ws o r h1 h2 h3 h4 h5 h6
theorem qut (s : Se) (bs : List Int) (hb : ∀ x ∈ bs, 0 <= x /\ x <= 255) : FnGo Tryz.prog (qsx s.gl bs) :=
 q8h qs6 s.gl (fun k j ws o r h1 h2 h3 h4 h5 h6 => q8j s k j ws o r h1 h2 h3 h4 h5 h6) (fun k j ws r h1 h2 h3 h4 h5 => q5i s k j ws r h1 h2 h3 h4 h5) (fun ws h => q2l s.gl (q2k ws h)) (fun k h => q2l s.gl (qqs k (qdi h))) bs hb
end Eng
end Go.Proofs.YtfiofmaknndpcaaGreatDoor
namespace Go.Proofs.YtfiofmaknndpcaaGreatDoor
open Go.RowKit
namespace Laid
def put (h : Array Obj) (g : Nat) (cs : Array Value) : Array Obj := h.modify g fun
 | .cells _ t frozen => .cells cs t frozen
 | o => o
noncomputable def world (os : Os) : World :=
 let w0 := World.holding Tryz.prog os ⟨#[.cells #[.string ⟨#[110, 111, 32, 112, 97, 103, 101, 32, 105, 115, 32, 109, 97, 112, 112, 101, 100, 32, 97, 116, 32, 116, 104, 101, 32, 97, 100, 100, 114, 101, 115, 115]⟩] 251, .cells #[.string ⟨#[116, 104, 101, 32, 112, 97, 103, 101, 32, 105, 115, 32, 109, 97, 112, 112, 101, 100, 32, 102, 111, 114, 32, 114, 101, 97, 100, 105, 110, 103, 32, 111, 110, 108, 121]⟩] 251, .cells #[.string ⟨#[116, 104, 101, 32, 118, 97, 108, 117, 101, 32, 105, 115, 32, 111, 117, 116, 32, 111, 102, 32, 114, 97, 110, 103, 101]⟩] 251], #[], []⟩
 let h0 := put w0.heap 2 #[.iface 225 (.pointer (some ⟨(World.settled Tryz.prog os).heap.size + 0, 0, none⟩))]
 let h1 := put h0 0 #[.iface 225 (.pointer (some ⟨(World.settled Tryz.prog os).heap.size + 1, 0, none⟩))]
 let h2 := put h1 1 #[.iface 225 (.pointer (some ⟨(World.settled Tryz.prog os).heap.size + 2, 0, none⟩))]
 { w0 with heap := h2 }
theorem laidOut : laidOutB Tryz.prog = true := by kernel_rfl
theorem qs7 {H : Type} {enc : TypeId × Value -> H} {P : Program} {w : World} {sp : Nat -> Bool} : ∀ {ns : List String} {gs : List (DataW H)} {ps : List MemPlace}, DataW.TrodVars enc P w sp ns gs ps -> gs.length = ns.length
 | [], [], _, _ => rfl
 | [], _ :: _, _, h => h.elim
 | _ :: _, [], _, h => h.elim
 | _ :: _, _ :: _, _, h => by obtain ⟨_, _, _, _, _, _, _, _, _, _, h2, _⟩ := h; exact congrArg Nat.succ (qs7 h2)
theorem vars3 {H : Type} {enc : TypeId × Value -> H} {P : Program} {w : World} {sp : Nat -> Bool} {a b c : String} {gs : List (DataW H)} {ps : List MemPlace} (h : DataW.TrodVars enc P w sp [a, b, c] gs ps) : ∃ x y z, gs = [x, y, z] := by
 have e := qs7 h
 match gs, e with
 | [x, y, z], _ => exact ⟨x, y, z, rfl⟩
theorem star : "*" ++ "errors.errorString" = "*errors.errorString" := by decide
theorem q5n (u : TypeId) (h : Tryz.prog.typeName? 3 u = some "*errors.errorString") : u = 225 :=
 typeName_ptr_named (nm := "errors.errorString") (by rw [star]; kernel_rfl) (by kernel_rfl) (by decide) u (by rw [star]; exact h)
structure LErrPageErrWriteErrValue (w : World) : Prop where
 sents : LaidS.At 225 [2, 0, 1] w
theorem has_0 {W : World} (h : laidMetH Tryz.prog [("loop.example/g00978/impl.errPage", Rows.laid_loop_example_g00978_impl_errPage), ("loop.example/g00978/impl.errWrite", Rows.laid_loop_example_g00978_impl_errWrite), ("loop.example/g00978/impl.errValue", Rows.laid_loop_example_g00978_impl_errValue)] W) : LErrPageErrWriteErrValue W := by
 have h' : laidMet Tryz.prog [("loop.example/g00978/impl.errPage", Rows.laid_loop_example_g00978_impl_errPage), ("loop.example/g00978/impl.errWrite", Rows.laid_loop_example_g00978_impl_errWrite), ("loop.example/g00978/impl.errValue", Rows.laid_loop_example_g00978_impl_errValue)] W := h
 have f_sents := LaidS.at_of (L := [("loop.example/g00978/impl.errPage", [110, 111, 32, 112, 97, 103, 101, 32, 105, 115, 32, 109, 97, 112, 112, 101, 100, 32, 97, 116, 32, 116, 104, 101, 32, 97, 100, 100, 114, 101, 115, 115], 2), ("loop.example/g00978/impl.errWrite", [116, 104, 101, 32, 112, 97, 103, 101, 32, 105, 115, 32, 109, 97, 112, 112, 101, 100, 32, 102, 111, 114, 32, 114, 101, 97, 100, 105, 110, 103, 32, 111, 110, 108, 121], 0), ("loop.example/g00978/impl.errValue", [116, 104, 101, 32, 118, 97, 108, 117, 101, 32, 105, 115, 32, 111, 117, 116, 32, 111, 102, 32, 114, 97, 110, 103, 101], 1)]) (r := []) h' Tryz.underlying146 q5n Tryz.underlying225 Tryz.underlying251 rfl rfl Tryz.underlying9 (by kernel_rfl) (by kernel_rfl) (by intro x hx; simp only [List.mem_cons, List.not_mem_nil, or_false] at hx; rcases hx with rfl | rfl | rfl <;> exact ⟨by kernel_rfl, by kernel_rfl⟩)
 exact { sents := f_sents }
end Laid
end Go.Proofs.YtfiofmaknndpcaaGreatDoor

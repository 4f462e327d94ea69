/- Lists of spans as they are drawn, by a symbolic run. -/
import Derived.Test.YthkjbjgpdapnpaaDoorEDr9
import Derived.Test.YthkjbjgpdapnpaaDoorE10
namespace Go.Proofs.YthkjbjgpdapnpaaDoor
open Go.RowKit
set_option linter.unusedVariables false
set_option linter.unusedSimpArgs false
set_option maxRecDepth 100000
namespace Eng
open Tr
/-- the slots in use of a span, and the cursor -/
def bTest (bs : List Int) (i : Nat) (s : Int × Cu) : Bool × (Int × Cu) := (decide ((i : Int) < 1 + (dBelow bs s.2 4).1), (s.1, (dBelow bs s.2 4).2))
def bStep (bs : List Int) (sl : Int) (i : Nat) (s : Int × Cu) : Int × Cu := (Bm.set s.1 (dBelow bs s.2 sl).1, (dBelow bs s.2 sl).2)
def dBits (bs : List Int) (c : Cu) (sl : Int) : Int × Cu := wGo (bTest bs) (bStep bs sl) 4 0 (0, c)
/-- spans of one class, and the cursor -/
def lTest (bs : List Int) (m : Int) (i : Nat) (s : List GSpan × Cu) : Bool × (List GSpan × Cu) := (decide ((i : Int) < (dBelow bs s.2 (m + 1)).1), (s.1, (dBelow bs s.2 (m + 1)).2))
def lStep (bs : List Int) (k : Int) (i : Nat) (s : List GSpan × Cu) : List GSpan × Cu := (s.1 ++ [⟨(i : Int), k, (dBits bs s.2 (Cl.slots k)).1⟩], (dBits bs s.2 (Cl.slots k)).2)
def dList (bs : List Int) (c : Cu) (m : Nat) : List GSpan × Cu := wGo (lTest bs m) (lStep bs (dBelow bs c 3).1) m 0 ([], (dBelow bs c 3).2)
def BInv (bs : List Int) (sl : Int) (i : Nat) (s : Int × Cu) : Prop := okCu bs s.2 ∧ 0 ≤ s.1 ∧ s.1 < 2 ^ sl.toNat
theorem BInv.step {bs : List Int} {sl : Int} (h1 : 1 ≤ sl) (h2 : sl ≤ 16) {i : Nat} {s : Int × Cu} (h : BInv bs sl i s) : BInv bs sl (i + 1) (bStep bs sl i (bTest bs i s).2) := by
  obtain ⟨k1, k2, k3⟩ := h
  have o2 : okCu bs (dBelow bs s.2 4).2 := dBelow_ok _ k1
  have hw := dBelow_lt bs (dBelow bs s.2 4).2 sl (by omega)
  refine ⟨dBelow_ok _ o2, ?_⟩
  show 0 ≤ Bm.set s.1 (dBelow bs (dBelow bs s.2 4).2 sl).1 ∧ Bm.set s.1 (dBelow bs (dBelow bs s.2 4).2 sl).1 < _
  generalize (dBelow bs (dBelow bs s.2 4).2 sl).1 = w at hw
  obtain ⟨B, hB⟩ := Int.eq_ofNat_of_zero_le k2
  obtain ⟨j, rfl⟩ := Int.eq_ofNat_of_zero_le hw.1
  obtain ⟨N, hN⟩ := Int.eq_ofNat_of_zero_le (show 0 ≤ sl by omega)
  have e : ((2 : Int) ^ N) = ((2 ^ N : Nat) : Int) := by simp
  rw [hN, hB, Int.toNat_natCast, e] at k3
  rw [hN, hB, Int.toNat_natCast, e]
  have hok := Bm.map_bd (Bm.ok_set N B j (by omega) (by omega) (by omega) (by omega))
  rw [Int.toNat_natCast, e] at hok
  exact ⟨hok.2.2.1, hok.2.2.2⟩
theorem BInv.base {bs : List Int} {c : Cu} {sl : Int} (h : okCu bs c) : BInv bs sl 0 (0, c) := ⟨h, Int.le_refl _, Int.pow_pos (by decide)⟩
theorem dBits_facts {bs : List Int} {c : Cu} {sl : Int} (h : okCu bs c) (h1 : 1 ≤ sl) (h2 : sl ≤ 16) : BInv bs sl 0 (dBits bs c sl) :=
  wGo_inv _ _ (BInv bs sl) (BInv bs sl 0) (fun i s hi => ⟨dBelow_ok _ hi.1, hi.2⟩) (fun i s hi _ => hi.step h1 h2) 4 0 _ (BInv.base h)
theorem wS_inv {σ : Type} {test : Nat → σ → Bool × σ} {step : Nat → σ → σ} {I : Nat → σ → Prop} {s0 : σ} (h0 : I 0 s0) (hs : ∀ i s, I i s → I (i + 1) (step i (test i s).2)) : ∀ i, I i (wS test step s0 i)
  | 0 => h0
  | i + 1 => hs i _ (wS_inv h0 hs i)
def c_BitsR (bs : List Int) (c : Cu) (k : Int) (r : Int × Cu) : Prop := dBits bs c (Cl.slots k) = r
/-- what a list that is drawn is like -/
def LInv (bs : List Int) (k : Int) (i : Nat) (s : List GSpan × Cu) : Prop := okCu bs s.2 ∧ s.1.length = i ∧ ∀ j, j < s.1.length → (s.1.getD j spD).Page = (j : Int) ∧ (s.1.getD j spD).Class = k ∧ Bm.isMap (Cl.slots k) (s.1.getD j spD).Bits = true
theorem slots_pos {k : Int} (h : 0 ≤ k ∧ k < 4) : 1 ≤ Cl.slots k ∧ Cl.slots k ≤ 16 := by
  unfold Cl.slots
  repeat' split
  all_goals omega
theorem isMap_of {n b : Int} (h1 : 1 ≤ n) (h2 : n ≤ 16) (h3 : 0 ≤ b) (h4 : b < 2 ^ n.toNat) : Bm.isMap n b = true := decide_eq_true ⟨h1, h2, h3, h4⟩
theorem LInv.step {bs : List Int} {k m : Int} (hk : 0 ≤ k ∧ k < 4) {i : Nat} {s : List GSpan × Cu} (h : LInv bs k i s) : LInv bs k (i + 1) (lStep bs k i (lTest bs m i s).2) := by
  obtain ⟨k1, k2, k3⟩ := h
  have hsl := slots_pos hk
  have o2 : okCu bs (dBelow bs s.2 (m + 1)).2 := dBelow_ok _ k1
  obtain ⟨b1, b2, b3⟩ := dBits_facts o2 hsl.1 hsl.2
  refine ⟨b1, ?_, ?_⟩
  · show (s.1 ++ [_]).length = _
    rw [List.length_append, k2]; rfl
  · have key : ∀ X : GSpan, X.Page = (i : Int) → X.Class = k → Bm.isMap (Cl.slots k) X.Bits = true → ∀ j, j < (s.1 ++ [X]).length → ((s.1 ++ [X]).getD j spD).Page = (j : Int) ∧ ((s.1 ++ [X]).getD j spD).Class = k ∧ Bm.isMap (Cl.slots k) ((s.1 ++ [X]).getD j spD).Bits = true := by
      intro X x1 x2 x3 j hj
      rw [List.length_append, List.length_cons, List.length_nil] at hj
      by_cases e : j < s.1.length
      · have := k3 j e
        rw [List.getD_eq_getElem?_getD, List.getElem?_append_left e, ← List.getD_eq_getElem?_getD]
        exact this
      · have e' : j = s.1.length := by omega
        rw [List.getD_eq_getElem?_getD, List.getElem?_append_right (by omega), e', Nat.sub_self]
        exact ⟨by rw [k2]; exact x1, x2, x3⟩
    exact key _ rfl rfl (isMap_of hsl.1 hsl.2 b2 b3)
def c_ListR (bs : List Int) (c : Cu) (m : Nat) (r : List GSpan × Cu) : CFD := ⟨22, [.one (.box 0 0), (SV.one (.lit (.int .i64 ((m : Int)))))], [(0, some (.box 64 [ro 5 1 eU bs, (CV.lit (.int .i64 (((c).i : Int)))), (CV.lit (.int .i64 ((c).h)))]))], .sv (.one (.hd 1)), [(0, some (.box 64 [ro 5 1 eU bs, (CV.lit (.int .i64 (((r.2).i : Int)))), (CV.lit (.int .i64 ((r.2).h)))])), (1, some (.row 35 3 (r.1.map eSpan)))], [1], []⟩
theorem fn_ListR (bs : List Int) (c : Cu) (m : Nat) (r : List GSpan × Cu) (hc : okCu bs c) (hm : m ≤ 20) (h : dList bs c m = r) : Fn Tryd.prog (c_ListR bs c m r) := by
  obtain ⟨p, hp⟩ : ∃ p, dBelow bs c 3 = p := ⟨_, rfl⟩
  have hp3 : 0 ≤ p.1 ∧ p.1 < 3 := hp ▸ dBelow_lt bs c 3 (by decide)
  have o1 : okCu bs p.2 := hp ▸ dBelow_ok _ hc
  have hsl := slots_pos (k := p.1) (by omega)
  have hB : r = wGo (lTest bs m) (lStep bs p.1) (m - 0) 0 ([], p.2) := by rw [← h]; unfold dList; rw [hp]; rfl
  have hinv := wS_inv (test := lTest bs m) (step := lStep bs p.1) (I := LInv bs p.1) (s0 := ([], p.2)) ⟨o1, rfl, fun j hj => by cases hj⟩ (fun i s hi => LInv.step (by omega) hi)
  have hT0 : wS (lTest bs m) (lStep bs p.1) ([], p.2) 0 = ([], p.2) := rfl
  have hTS : ∀ i, wS (lTest bs m) (lStep bs p.1) ([], p.2) (i + 1) = lStep bs p.1 i (lTest bs m i (wS (lTest bs m) (lStep bs p.1) ([], p.2) i)).2 := fun _ => rfl
  generalize wS (lTest bs m) (lStep bs p.1) ([], p.2) = T at *
  rw [← hT0] at hB
  refine fn_intro tt_ok Tryd.func22 rfl Tryd.call22 Tryd.ntmps22 Tryd.results22 rfl rfl rfl rfl ?_
  intro X ρ0 hb_ hgl_
  dsimp only [c_ListR, rnCap, capSVs, Int.toNat_natCast, ro, Nat.reduceAdd, Nat.reduceMul, Nat.zero_add, List.map, putT, app, wrapG, gOb, argT, keys, slotOf, dropped, gAnd, wB, rnT, rnS, rnC, rnCs, rnSs, rnM, rnB, rnN, rn, lk, St.over, ded, delL, keepT, menT, menSs, menS, menCs, menC, hasN, resT, SV.cells]
  repeat' (refine ar_id ?_; first | refine ar_seq ?_ | refine ar_block ?_ | refine ar_blk ?_ | refine ar_skip ?_ | refine ar_label ?_ | refine ar_exit rfl ?_ | refine ar_scope ?_ | refine ar_scp ?_ | (refine ar_run (id := 2) [.call (c_BelowR bs c 3 p)] ?_; generalize hQ_ : kont _ _ _ _ = Q_; repeat' (first | (focus ((first | refine as_call tt_ok rfl rfl rfl rfl rfl rfl (by dsimp only [mpCap, Nat.reduceAdd, Nat.reduceMul, Nat.zero_add, List.map, mpM, mpTL, mpO, mpB, lkO, mpT, mpSs, mpS, mpCs, mpC, mpN, lk, idN, keys, resT, ro] <;> exact rfl) rfl rfl rfl rfl ?_ ?_ | refine as_sure tt_ok rfl rfl rfl rfl rfl rfl (by dsimp only [mpCap, Nat.reduceAdd, Nat.reduceMul, Nat.zero_add, List.map, mpM, mpTL, mpO, mpB, lkO, mpT, mpSs, mpS, mpCs, mpC, mpN, lk, idN, keys, resT, ro] <;> exact rfl) rfl rfl rfl rfl ?_ ?_ | refine as_cons tt_ok rfl rfl rfl rfl rfl rfl ?_ ?_); dsimp only [rnCap, capSVs, Int.toNat_natCast, ro, Nat.reduceAdd, Nat.reduceMul, Nat.zero_add, List.map, putT, app, wrapG, gOb, argT, keys, slotOf, dropped, gAnd, wB, rnT, rnS, rnC, rnCs, rnSs, rnM, rnB, rnN, rn, lk, St.over, ded, delL, keepT, menT, menSs, menS, menCs, menC, hasN, resT, SV.cells, c_BelowR, mpM, mpTL, mpO, mpB, lkO, mpT, mpSs, mpS, mpCs, mpC, mpN]; rotate_left)) | (subst hQ_; refine as_nil ?_))) | (first | ((first | refine ar_region tt_ok (inps := []) rfl ?_ ?_); rotate_left; (try dsimp only [rnCap, capSVs, Int.toNat_natCast, ro, Nat.reduceAdd, Nat.reduceMul, Nat.zero_add, List.map, putT, app, wrapG, gOb, argT, keys, slotOf, dropped, gAnd, wB, rnT, rnS, rnC, rnCs, rnSs, rnM, rnB, rnN, rn, lk, St.over, ded, delL, keepT, menT, menSs, menS, menCs, menC, hasN, resT, SV.cells, c_BelowR, mpM, mpTL, mpO, mpB, lkO, mpT, mpSs, mpS, mpCs, mpC, mpN]); rotate_right) | ((first | refine ar_ret ?_ | refine ar_end ?_); refine fin_auto2 rfl (by dsimp only [mpCap, Nat.reduceAdd, Nat.reduceMul, Nat.zero_add, List.map, mpM, mpTL, mpO, mpB, lkO, mpT, mpSs, mpS, mpCs, mpC, mpN, lk, idN, keys, resT, ro] <;> exact rfl) (by dsimp only [xCap, okCap, rnCap, Nat.reduceAdd, Nat.reduceMul, Nat.zero_add, List.map, wkOb, finOb, xTL, xM, xT, xSs, xS, xCs, xC, xB, okTL, okML, okT, okSs, okS, okCs, okC, okB, nodupN, rnN, allIn, fixed, rn, lk, hasN, app, SV.cells, ro, keys, resT] <;> exact rfl) ?_)) | (refine ar_cond rfl trivial ?_ ?_ <;> intro hc_ <;> (try simp only [isNilI, inB, reduceCtorEq, cds] at hc_) <;> (try (first | contradiction | (exfalso; omega)))) | refine ar_until (And.intro ?_ (wk_auto2 (by dsimp only [mpCap, Nat.reduceAdd, Nat.reduceMul, Nat.zero_add, List.map, mpM, mpTL, mpO, mpB, lkO, mpT, mpSs, mpS, mpCs, mpC, mpN, lk, idN, keys, resT, ro] <;> exact rfl) (by dsimp only [xCap, okCap, rnCap, Nat.reduceAdd, Nat.reduceMul, Nat.zero_add, List.map, wkOb, finOb, xTL, xM, xT, xSs, xS, xCs, xC, xB, okTL, okML, okT, okSs, okS, okCs, okC, okB, nodupN, rnN, allIn, fixed, rn, lk, hasN, app, SV.cells, ro, keys, resT] <;> exact rfl) ?_)))
  all_goals (first | refine ar_id ?_ | (try (focus ((try dsimp only [okX, GlAll, app, gOb, All, gAnd, wB, rnT, rnS, rnC, rnCs, rnSs, rnB, rn, lk, obD]); (repeat' (first | exact True.intro | refine And.intro ?_ ?_)); all_goals (try (intro (hg_ : _ = true); (try simp only [isNilI, inB, reduceCtorEq, cds] at hg_); (repeat' (first | exact True.intro | refine And.intro ?_ ?_)))); all_goals (first | first | with_reducible rfl | omega | exact Nat.le_refl _ | exact congrArg (Value.int .i64) (by omega) | (simp only [List.length_map]; first | done | omega) | (simp only [lns]; omega) | exact i64_ok (by omega) (by omega) | exact elem_map (fun _ => rfl) (by assumption) | exact elem_map (fun _ => rfl) (getD_at (by omega)) | exact elem_map' (fun _ => rfl) (by omega) | exact map_at (by omega) | exact set_at (by simp only [lns]; omega) | (rw [List.length_replicate, Int.toNat_natCast] at *; omega) | assumption | decide | exact fn_BelowR _ _ _ _ hc hp | skip)))))
  refine ar_keep 1011 (by dsimp only [keepS] <;> exact rfl) ?_
  refine ar_forM (m) (fun i => r = wGo (lTest bs m) (lStep bs p.1) (m - i) i (T i)) (fun i => [(7, (TV.sv (.one (.lit (.int .i64 (i)))))), (5, (TV.sv (.one (.hd 10))))]) (fun i => [(10, some (.row 35 3 ((T i).1.map eSpan))), (0, some ((.box 64 [ro 5 1 eU bs, (CV.lit (.int .i64 ((((T i).2).i : Int)))), (CV.lit (.int .i64 (((T i).2).h)))])))]) ?_ ?_ ?_
  rotate_left
  · first | trivial | simp
  (dsimp only [rnCap, capSVs, Int.toNat_natCast, ro, Nat.reduceAdd, Nat.reduceMul, Nat.zero_add, List.map, putT, app, wrapG, gOb, argT, keys, slotOf, dropped, gAnd, wB, rnT, rnS, rnC, rnCs, rnSs, rnM, rnB, rnN, rn, lk, St.over, ded, delL, keepT, menT, menSs, menS, menCs, menC, hasN, resT, SV.cells]; refine wk_auto2 (by dsimp only [mpCap, Nat.reduceAdd, Nat.reduceMul, Nat.zero_add, List.map, mpM, mpTL, mpO, mpB, lkO, mpT, mpSs, mpS, mpCs, mpC, mpN, lk, idN, keys, resT, ro] <;> exact rfl) (by dsimp only [xCap, okCap, rnCap, Nat.reduceAdd, Nat.reduceMul, Nat.zero_add, List.map, wkOb, finOb, xTL, xM, xT, xSs, xS, xCs, xC, xB, okTL, okML, okT, okSs, okS, okCs, okC, okB, nodupN, rnN, allIn, fixed, rn, lk, hasN, app, SV.cells, ro, keys, resT] <;> exact rfl) ?_; (focus ((try dsimp only [okX, GlAll, app, gOb, All, gAnd, wB, rnT, rnS, rnC, rnCs, rnSs, rnB, rn, lk, obD]); (repeat' (first | exact True.intro | refine And.intro ?_ ?_)); all_goals (try (intro (hg_ : _ = true); (try simp only [isNilI, inB, reduceCtorEq, cds] at hg_); (repeat' (first | exact True.intro | refine And.intro ?_ ?_)))); all_goals (first | first | with_reducible rfl | omega | exact Nat.le_refl _ | exact congrArg (Value.int .i64) (by omega) | (simp only [List.length_map]; first | done | omega) | (simp only [lns]; omega) | exact i64_ok (by omega) (by omega) | exact elem_map (fun _ => rfl) (by assumption) | exact elem_map (fun _ => rfl) (getD_at (by omega)) | exact elem_map' (fun _ => rfl) (by omega) | exact map_at (by omega) | exact set_at (by simp only [lns]; omega) | (rw [List.length_replicate, Int.toNat_natCast] at *; omega) | assumption | decide | exact rfl | skip))))
  rotate_right
  intro i hi_ hiI_
  dsimp only [rnCap, capSVs, Int.toNat_natCast, ro, Nat.reduceAdd, Nat.reduceMul, Nat.zero_add, List.map, putT, app, wrapG, gOb, argT, keys, slotOf, dropped, gAnd, wB, rnT, rnS, rnC, rnCs, rnSs, rnM, rnB, rnN, rn, lk, St.over, ded, delL, keepT, menT, menSs, menS, menCs, menC, hasN, resT, SV.cells]
  obtain ⟨k1, k2, k3⟩ := hinv i
  obtain ⟨v, hv⟩ : ∃ v, dBelow bs (T i).2 ((m : Int) + 1) = v := ⟨_, rfl⟩
  have hv4 : 0 ≤ v.1 ∧ v.1 < (m : Int) + 1 := hv ▸ dBelow_lt bs _ _ (by omega)
  have o2 : okCu bs v.2 := hv ▸ dBelow_ok _ k1
  have ht : lTest bs m i (T i) = (decide ((i : Int) < v.1), ((T i).1, v.2)) := by unfold lTest; rw [hv]
  repeat' (refine ar_id ?_; first | refine ar_seq ?_ | refine ar_block ?_ | refine ar_blk ?_ | refine ar_skip ?_ | refine ar_label ?_ | refine ar_exit rfl ?_ | refine ar_scope ?_ | refine ar_scp ?_ | (refine ar_run (id := 4) [.call (c_BelowR bs (T i).2 ((m : Int) + 1) v)] ?_; generalize hQ_ : kont _ _ _ _ = Q_; repeat' (first | (focus ((first | refine as_call tt_ok rfl rfl rfl rfl rfl rfl (by dsimp only [mpCap, Nat.reduceAdd, Nat.reduceMul, Nat.zero_add, List.map, mpM, mpTL, mpO, mpB, lkO, mpT, mpSs, mpS, mpCs, mpC, mpN, lk, idN, keys, resT, ro] <;> exact rfl) rfl rfl rfl rfl ?_ ?_ | refine as_sure tt_ok rfl rfl rfl rfl rfl rfl (by dsimp only [mpCap, Nat.reduceAdd, Nat.reduceMul, Nat.zero_add, List.map, mpM, mpTL, mpO, mpB, lkO, mpT, mpSs, mpS, mpCs, mpC, mpN, lk, idN, keys, resT, ro] <;> exact rfl) rfl rfl rfl rfl ?_ ?_ | refine as_cons tt_ok rfl rfl rfl rfl rfl rfl ?_ ?_); dsimp only [rnCap, capSVs, Int.toNat_natCast, ro, Nat.reduceAdd, Nat.reduceMul, Nat.zero_add, List.map, putT, app, wrapG, gOb, argT, keys, slotOf, dropped, gAnd, wB, rnT, rnS, rnC, rnCs, rnSs, rnM, rnB, rnN, rn, lk, St.over, ded, delL, keepT, menT, menSs, menS, menCs, menC, hasN, resT, SV.cells, c_BelowR, mpM, mpTL, mpO, mpB, lkO, mpT, mpSs, mpS, mpCs, mpC, mpN]; rotate_left)) | (subst hQ_; refine as_nil ?_))) | (first | ((first | refine ar_region tt_ok (inps := []) rfl ?_ ?_); rotate_left; (try dsimp only [rnCap, capSVs, Int.toNat_natCast, ro, Nat.reduceAdd, Nat.reduceMul, Nat.zero_add, List.map, putT, app, wrapG, gOb, argT, keys, slotOf, dropped, gAnd, wB, rnT, rnS, rnC, rnCs, rnSs, rnM, rnB, rnN, rn, lk, St.over, ded, delL, keepT, menT, menSs, menS, menCs, menC, hasN, resT, SV.cells, c_BelowR, mpM, mpTL, mpO, mpB, lkO, mpT, mpSs, mpS, mpCs, mpC, mpN]); rotate_right) | ((first | refine ar_ret ?_ | refine ar_end ?_); refine fin_auto2 rfl (by dsimp only [mpCap, Nat.reduceAdd, Nat.reduceMul, Nat.zero_add, List.map, mpM, mpTL, mpO, mpB, lkO, mpT, mpSs, mpS, mpCs, mpC, mpN, lk, idN, keys, resT, ro] <;> exact rfl) (by dsimp only [xCap, okCap, rnCap, Nat.reduceAdd, Nat.reduceMul, Nat.zero_add, List.map, wkOb, finOb, xTL, xM, xT, xSs, xS, xCs, xC, xB, okTL, okML, okT, okSs, okS, okCs, okC, okB, nodupN, rnN, allIn, fixed, rn, lk, hasN, app, SV.cells, ro, keys, resT] <;> exact rfl) ?_)) | (refine ar_cond rfl trivial ?_ ?_ <;> intro hc_ <;> (try simp only [isNilI, inB, reduceCtorEq, cds] at hc_) <;> (try (first | contradiction | (exfalso; omega)))) | refine ar_until (And.intro ?_ (wk_auto2 (by dsimp only [mpCap, Nat.reduceAdd, Nat.reduceMul, Nat.zero_add, List.map, mpM, mpTL, mpO, mpB, lkO, mpT, mpSs, mpS, mpCs, mpC, mpN, lk, idN, keys, resT, ro] <;> exact rfl) (by dsimp only [xCap, okCap, rnCap, Nat.reduceAdd, Nat.reduceMul, Nat.zero_add, List.map, wkOb, finOb, xTL, xM, xT, xSs, xS, xCs, xC, xB, okTL, okML, okT, okSs, okS, okCs, okC, okB, nodupN, rnN, allIn, fixed, rn, lk, hasN, app, SV.cells, ro, keys, resT] <;> exact rfl) ?_)))
  all_goals (first | refine ar_id ?_ | (try (focus ((try dsimp only [okX, GlAll, app, gOb, All, gAnd, wB, rnT, rnS, rnC, rnCs, rnSs, rnB, rn, lk, obD]); (repeat' (first | exact True.intro | refine And.intro ?_ ?_)); all_goals (try (intro (hg_ : _ = true); (try simp only [isNilI, inB, reduceCtorEq, cds] at hg_); (repeat' (first | exact True.intro | refine And.intro ?_ ?_)))); all_goals (first | first | with_reducible rfl | omega | exact Nat.le_refl _ | exact congrArg (Value.int .i64) (by omega) | (simp only [List.length_map]; first | done | omega) | (simp only [lns]; omega) | exact i64_ok (by omega) (by omega) | exact elem_map (fun _ => rfl) (by assumption) | exact elem_map (fun _ => rfl) (getD_at (by omega)) | exact elem_map' (fun _ => rfl) (by omega) | exact map_at (by omega) | exact set_at (by simp only [lns]; omega) | (rw [List.length_replicate, Int.toNat_natCast] at *; omega) | assumption | decide | exact fn_BelowR _ _ _ _ k1 hv | skip)))))
  · -- a span's slots
    obtain ⟨b, hb⟩ : ∃ b, dBits bs v.2 (Cl.slots p.1) = b := ⟨_, rfl⟩
    have hb0 : b = wGo (bTest bs) (bStep bs (Cl.slots p.1)) (4 - 0) 0 (0, v.2) := hb.symm
    have hbi := wS_inv (test := bTest bs) (step := bStep bs (Cl.slots p.1)) (I := BInv bs (Cl.slots p.1)) (BInv.base o2) (fun i s hi => BInv.step hsl.1 hsl.2 hi)
    have hU0 : wS (bTest bs) (bStep bs (Cl.slots p.1)) (0, v.2) 0 = (0, v.2) := rfl
    have hUS : ∀ i, wS (bTest bs) (bStep bs (Cl.slots p.1)) (0, v.2) (i + 1) = bStep bs (Cl.slots p.1) i (bTest bs i (wS (bTest bs) (bStep bs (Cl.slots p.1)) (0, v.2) i)).2 := fun _ => rfl
    generalize wS (bTest bs) (bStep bs (Cl.slots p.1)) (0, v.2) = U at *
    rw [← hU0] at hb0
    refine ar_keep 1011 (by dsimp only [keepS] <;> exact rfl) ?_
    refine ar_keep 1011 (by dsimp only [keepS] <;> exact rfl) ?_
    refine ar_forM (4) (fun j => b = wGo (bTest bs) (bStep bs (Cl.slots p.1)) (4 - j) j (U j)) (fun j => [(9, (TV.sv (.one (.lit (.int .i64 (j))))))]) (fun j => [(8, some (.box 35 [(CV.lit (.int .i64 ((i : Int)))), (CV.lit (.int .i64 (p.1))), (CV.lit (.int .i64 ((U j).1)))])), (0, some ((.box 64 [ro 5 1 eU bs, (CV.lit (.int .i64 ((((U j).2).i : Int)))), (CV.lit (.int .i64 (((U j).2).h)))])))]) ?_ ?_ ?_
    rotate_left
    · first | trivial | simp
    (dsimp only [rnCap, capSVs, Int.toNat_natCast, ro, Nat.reduceAdd, Nat.reduceMul, Nat.zero_add, List.map, putT, app, wrapG, gOb, argT, keys, slotOf, dropped, gAnd, wB, rnT, rnS, rnC, rnCs, rnSs, rnM, rnB, rnN, rn, lk, St.over, ded, delL, keepT, menT, menSs, menS, menCs, menC, hasN, resT, SV.cells]; refine wk_auto2 (by dsimp only [mpCap, Nat.reduceAdd, Nat.reduceMul, Nat.zero_add, List.map, mpM, mpTL, mpO, mpB, lkO, mpT, mpSs, mpS, mpCs, mpC, mpN, lk, idN, keys, resT, ro] <;> exact rfl) (by dsimp only [xCap, okCap, rnCap, Nat.reduceAdd, Nat.reduceMul, Nat.zero_add, List.map, wkOb, finOb, xTL, xM, xT, xSs, xS, xCs, xC, xB, okTL, okML, okT, okSs, okS, okCs, okC, okB, nodupN, rnN, allIn, fixed, rn, lk, hasN, app, SV.cells, ro, keys, resT] <;> exact rfl) ?_; (focus ((try dsimp only [okX, GlAll, app, gOb, All, gAnd, wB, rnT, rnS, rnC, rnCs, rnSs, rnB, rn, lk, obD]); (repeat' (first | exact True.intro | refine And.intro ?_ ?_)); all_goals (try (intro (hg_ : _ = true); (try simp only [isNilI, inB, reduceCtorEq, cds] at hg_); (repeat' (first | exact True.intro | refine And.intro ?_ ?_)))); all_goals (first | first | with_reducible rfl | omega | exact Nat.le_refl _ | exact congrArg (Value.int .i64) (by omega) | (simp only [List.length_map]; first | done | omega) | (simp only [lns]; omega) | exact i64_ok (by omega) (by omega) | exact elem_map (fun _ => rfl) (by assumption) | exact elem_map (fun _ => rfl) (getD_at (by omega)) | exact elem_map' (fun _ => rfl) (by omega) | exact map_at (by omega) | exact set_at (by simp only [lns]; omega) | (rw [List.length_replicate, Int.toNat_natCast] at *; omega) | assumption | decide | exact rfl | skip))))
    rotate_right
    intro j hj_ hjI_
    dsimp only [rnCap, capSVs, Int.toNat_natCast, ro, Nat.reduceAdd, Nat.reduceMul, Nat.zero_add, List.map, putT, app, wrapG, gOb, argT, keys, slotOf, dropped, gAnd, wB, rnT, rnS, rnC, rnCs, rnSs, rnM, rnB, rnN, rn, lk, St.over, ded, delL, keepT, menT, menSs, menS, menCs, menC, hasN, resT, SV.cells]
    obtain ⟨u1, u2, u3⟩ := hbi j
    obtain ⟨x, hx⟩ : ∃ x, dBelow bs (U j).2 4 = x := ⟨_, rfl⟩
    have hx4 : 0 ≤ x.1 ∧ x.1 < 4 := hx ▸ dBelow_lt bs _ _ (by decide)
    have o3 : okCu bs x.2 := hx ▸ dBelow_ok _ u1
    obtain ⟨y, hy⟩ : ∃ y, dBelow bs x.2 (Cl.slots p.1) = y := ⟨_, rfl⟩
    have htb : bTest bs j (U j) = (decide ((j : Int) < 1 + x.1), ((U j).1, x.2)) := by unfold bTest; rw [hx]
    have hUj : U (j + 1) = (Bm.set (U j).1 y.1, y.2) := by rw [hUS, htb]; unfold bStep; rw [hy]
    have hub : (U j).1 ≤ 9223372036854775807 := isMap_le (isMap_of hsl.1 hsl.2 u2 u3)
    have hTi : T (i + 1) = ((T i).1 ++ [⟨(i : Int), p.1, b.1⟩], b.2) := by rw [hTS, ht]; unfold lStep; rw [hb]
    repeat' (refine ar_id ?_; first | refine ar_seq ?_ | refine ar_block ?_ | refine ar_blk ?_ | refine ar_skip ?_ | refine ar_label ?_ | refine ar_exit rfl ?_ | refine ar_scope ?_ | refine ar_scp ?_ | (refine ar_run (id := 8) [.call (c_BelowR bs (U j).2 4 x)] ?_; generalize hQ_ : kont _ _ _ _ = Q_; repeat' (first | (focus ((first | refine as_call tt_ok rfl rfl rfl rfl rfl rfl (by dsimp only [mpCap, Nat.reduceAdd, Nat.reduceMul, Nat.zero_add, List.map, mpM, mpTL, mpO, mpB, lkO, mpT, mpSs, mpS, mpCs, mpC, mpN, lk, idN, keys, resT, ro] <;> exact rfl) rfl rfl rfl rfl ?_ ?_ | refine as_sure tt_ok rfl rfl rfl rfl rfl rfl (by dsimp only [mpCap, Nat.reduceAdd, Nat.reduceMul, Nat.zero_add, List.map, mpM, mpTL, mpO, mpB, lkO, mpT, mpSs, mpS, mpCs, mpC, mpN, lk, idN, keys, resT, ro] <;> exact rfl) rfl rfl rfl rfl ?_ ?_ | refine as_cons tt_ok rfl rfl rfl rfl rfl rfl ?_ ?_); dsimp only [rnCap, capSVs, Int.toNat_natCast, ro, Nat.reduceAdd, Nat.reduceMul, Nat.zero_add, List.map, putT, app, wrapG, gOb, argT, keys, slotOf, dropped, gAnd, wB, rnT, rnS, rnC, rnCs, rnSs, rnM, rnB, rnN, rn, lk, St.over, ded, delL, keepT, menT, menSs, menS, menCs, menC, hasN, resT, SV.cells, c_BelowR, c_SlotsS, c_WithS, mpM, mpTL, mpO, mpB, lkO, mpT, mpSs, mpS, mpCs, mpC, mpN]; rotate_left)) | (subst hQ_; refine as_nil ?_))) | (refine ar_drawS (id := 10) tt_ok (by kernel_rfl) [.call (c_SlotsS p.1), .call (c_BelowR bs x.2 (Cl.slots p.1) y), .call (c_WithS (U j).1 y.1)] ?_; refine ed_hide ?_; intro K_ hK_; repeat' (first | ((first | refine ed_call (by dsimp only [selT, selM, hasN, app, slotsOf, guardS, nth, opS, opsS, partsS] <;> exact rfl) (by dsimp only [selT, selM, hasN, app, slotsOf, guardS, nth, opS, opsS, partsS] <;> exact rfl) rfl rfl rfl rfl rfl rfl (by dsimp only [mpCap, Nat.reduceAdd, Nat.reduceMul, Nat.zero_add, List.map, mpM, mpTL, mpO, mpB, lkO, mpT, mpSs, mpS, mpCs, mpC, mpN, lk, idN, keys, resT, ro] <;> exact rfl) rfl (by dsimp only [selT, selM, hasN, app, slotsOf, guardS, nth, opS, opsS, partsS, mpCap, Nat.reduceAdd, Nat.reduceMul, Nat.zero_add, List.map, mpM, mpTL, mpO, mpB, lkO, mpT, mpSs, mpS, mpCs, mpC, mpN, lk, idN, keys, resT, ro, rnN, rn, SV.cells, slotOf] <;> exact rfl) rfl (by dsimp only [mpCap, Nat.reduceAdd, Nat.reduceMul, Nat.zero_add, List.map, mpM, mpTL, mpO, mpB, lkO, mpT, mpSs, mpS, mpCs, mpC, mpN, lk, idN, keys, resT, ro] <;> exact rfl) rfl rfl rfl rfl ?_ | refine ed_sure (by dsimp only [selT, selM, hasN, app, slotsOf, guardS, nth, opS, opsS, partsS] <;> exact rfl) (by dsimp only [selT, selM, hasN, app, slotsOf, guardS, nth, opS, opsS, partsS] <;> exact rfl) rfl rfl rfl rfl rfl rfl (by dsimp only [mpCap, Nat.reduceAdd, Nat.reduceMul, Nat.zero_add, List.map, mpM, mpTL, mpO, mpB, lkO, mpT, mpSs, mpS, mpCs, mpC, mpN, lk, idN, keys, resT, ro] <;> exact rfl) rfl (by dsimp only [selT, selM, hasN, app, slotsOf, guardS, nth, opS, opsS, partsS, mpCap, Nat.reduceAdd, Nat.reduceMul, Nat.zero_add, List.map, mpM, mpTL, mpO, mpB, lkO, mpT, mpSs, mpS, mpCs, mpC, mpN, lk, idN, keys, resT, ro, rnN, rn, SV.cells, slotOf] <;> exact rfl) rfl (by dsimp only [mpCap, Nat.reduceAdd, Nat.reduceMul, Nat.zero_add, List.map, mpM, mpTL, mpO, mpB, lkO, mpT, mpSs, mpS, mpCs, mpC, mpN, lk, idN, keys, resT, ro] <;> exact rfl) rfl rfl rfl rfl ?_ | refine ed_cons (by dsimp only [selT, selM, hasN, app, slotsOf, guardS, nth, opS, opsS, partsS] <;> exact rfl) (by dsimp only [selT, selM, hasN, app, slotsOf, guardS, nth, opS, opsS, partsS] <;> exact rfl) rfl rfl rfl (by dsimp only [selT, selM, hasN, app, slotsOf, guardS, nth, opS, opsS, partsS, mpCap, Nat.reduceAdd, Nat.reduceMul, Nat.zero_add, List.map, mpM, mpTL, mpO, mpB, lkO, mpT, mpSs, mpS, mpCs, mpC, mpN, lk, idN, keys, resT, ro, rnN, rn, SV.cells, slotOf] <;> exact rfl) rfl rfl rfl rfl ?_); refine ed_hide ?_; intro K_ hK_; dsimp only [rnCap, capSVs, Int.toNat_natCast, ro, Nat.reduceAdd, Nat.reduceMul, Nat.zero_add, List.map, putT, app, wrapG, gOb, argT, keys, slotOf, dropped, gAnd, wB, rnT, rnS, rnC, rnCs, rnSs, rnM, rnB, rnN, rn, lk, St.over, ded, delL, keepT, menT, menSs, menS, menCs, menC, hasN, resT, SV.cells, c_BelowR, c_SlotsS, c_WithS, mpM, mpTL, mpO, mpB, lkO, mpT, mpSs, mpS, mpCs, mpC, mpN, rnN, rn, keys, mpM, mpTL, mpO, mpB, lkO, mpT, mpSs, mpS, mpCs, mpC, mpN, selT, selM, hasN, app, slotsOf, guardS, nth, opS, opsS, partsS]) | (refine ed_nil ?_; (repeat subst hK_); dsimp only; refine Exists.intro _ (And.intro rfl (And.intro (by kernel_rfl) (And.intro ?_ ?_))); rotate_left; (try dsimp only [rnCap, capSVs, Int.toNat_natCast, ro, Nat.reduceAdd, Nat.reduceMul, Nat.zero_add, List.map, putT, app, wrapG, gOb, argT, keys, slotOf, dropped, gAnd, wB, rnT, rnS, rnC, rnCs, rnSs, rnM, rnB, rnN, rn, lk, St.over, ded, delL, keepT, menT, menSs, menS, menCs, menC, hasN, resT, SV.cells, c_BelowR, c_SlotsS, c_WithS, mpM, mpTL, mpO, mpB, lkO, mpT, mpSs, mpS, mpCs, mpC, mpN]); rotate_right))) | (first | ((first | refine ar_region tt_ok (inps := []) rfl ?_ ?_); rotate_left; (try dsimp only [rnCap, capSVs, Int.toNat_natCast, ro, Nat.reduceAdd, Nat.reduceMul, Nat.zero_add, List.map, putT, app, wrapG, gOb, argT, keys, slotOf, dropped, gAnd, wB, rnT, rnS, rnC, rnCs, rnSs, rnM, rnB, rnN, rn, lk, St.over, ded, delL, keepT, menT, menSs, menS, menCs, menC, hasN, resT, SV.cells, c_BelowR, c_SlotsS, c_WithS, mpM, mpTL, mpO, mpB, lkO, mpT, mpSs, mpS, mpCs, mpC, mpN]); rotate_right) | ((first | refine ar_ret ?_ | refine ar_end ?_); refine fin_auto2 rfl (by dsimp only [mpCap, Nat.reduceAdd, Nat.reduceMul, Nat.zero_add, List.map, mpM, mpTL, mpO, mpB, lkO, mpT, mpSs, mpS, mpCs, mpC, mpN, lk, idN, keys, resT, ro] <;> exact rfl) (by dsimp only [xCap, okCap, rnCap, Nat.reduceAdd, Nat.reduceMul, Nat.zero_add, List.map, wkOb, finOb, xTL, xM, xT, xSs, xS, xCs, xC, xB, okTL, okML, okT, okSs, okS, okCs, okC, okB, nodupN, rnN, allIn, fixed, rn, lk, hasN, app, SV.cells, ro, keys, resT] <;> exact rfl) ?_)) | (refine ar_cond rfl trivial ?_ ?_ <;> intro hc_ <;> (try simp only [isNilI, inB, reduceCtorEq, cds] at hc_) <;> (try (first | contradiction | (exfalso; omega)))) | refine ar_until (And.intro ?_ (wk_auto2 (by dsimp only [mpCap, Nat.reduceAdd, Nat.reduceMul, Nat.zero_add, List.map, mpM, mpTL, mpO, mpB, lkO, mpT, mpSs, mpS, mpCs, mpC, mpN, lk, idN, keys, resT, ro] <;> exact rfl) (by dsimp only [xCap, okCap, rnCap, Nat.reduceAdd, Nat.reduceMul, Nat.zero_add, List.map, wkOb, finOb, xTL, xM, xT, xSs, xS, xCs, xC, xB, okTL, okML, okT, okSs, okS, okCs, okC, okB, nodupN, rnN, allIn, fixed, rn, lk, hasN, app, SV.cells, ro, keys, resT] <;> exact rfl) ?_)))
    all_goals (first | refine ar_id ?_ | (try (focus ((try dsimp only [okX, GlAll, app, gOb, All, gAnd, wB, rnT, rnS, rnC, rnCs, rnSs, rnB, rn, lk, obD]); (repeat' (first | exact True.intro | refine And.intro ?_ ?_)); all_goals (try (intro (hg_ : _ = true); (try simp only [isNilI, inB, reduceCtorEq, cds] at hg_); (repeat' (first | exact True.intro | refine And.intro ?_ ?_)))); all_goals (first | first | with_reducible rfl | omega | exact Nat.le_refl _ | exact congrArg (Value.int .i64) (by omega) | (simp only [List.length_map]; first | done | omega) | (simp only [lns]; omega) | exact i64_ok (by omega) (by omega) | exact elem_map (fun _ => rfl) (by assumption) | exact elem_map (fun _ => rfl) (getD_at (by omega)) | exact elem_map' (fun _ => rfl) (by omega) | exact map_at (by omega) | exact set_at (by simp only [lns]; omega) | (rw [List.length_replicate, Int.toNat_natCast] at *; omega) | assumption | decide | exact fn_BelowR _ _ _ _ u1 hx | exact fn_SlotsS _ | exact fn_BelowR _ _ _ _ o3 hy | exact fn_WithS _ _ hub | skip)))))
    · rw [hUS j]; exact hjI_.trans (wGo_in _ _ (by rw [htb]; exact decide_eq_true hc_) rfl (by omega))
    · rw [hUj]
    · rw [hUj]
    · rw [hUj]
    · rw [hTS i]; exact hiI_.trans (wGo_in _ _ (by rw [ht]; exact decide_eq_true (by omega)) rfl (by omega))
    all_goals first
      | (rw [hU0]; done)
      | (have hbe : b = ((U j).1, x.2) := by rw [hjI_, wGo_out _ _ (by rw [htb]; exact decide_eq_false (by omega)), htb]
         rw [hTi, hbe]; done)
      | (have hbe : b = ((U j).1, x.2) := by rw [hjI_, wGo_out _ _ (by rw [htb]; exact decide_eq_false (by omega)), htb]
         rw [hTi, hbe, List.map_append, app_eq]; rfl)
  all_goals first
    | (rw [hT0]; done)
    | (rw [hT0]; rfl)
    | (have hre : r = ((T i).1, v.2) := by rw [hiI_, wGo_out _ _ (by rw [ht]; exact decide_eq_false (by omega)), ht]
       rw [hre]; done)
/-- what a list that was drawn is like -/
theorem dList_facts {bs : List Int} {c : Cu} (m : Nat) (hm : m ≤ 20) (hc : okCu bs c) : okCu bs (dList bs c m).2 ∧ (dList bs c m).1.length ≤ m ∧ ∀ j, j < (dList bs c m).1.length → ((dList bs c m).1.getD j spD).Page = (j : Int) ∧ ((dList bs c m).1.getD j spD).Class = (dBelow bs c 3).1 ∧ pSpanOk ((dList bs c m).1.getD j spD) = true := by
  have hp3 := dBelow_lt bs c 3 (by decide)
  have h := wGo_inv (lTest bs m) (lStep bs (dBelow bs c 3).1) (fun i s => i ≤ m ∧ LInv bs (dBelow bs c 3).1 i s) (fun s => ∃ i, i ≤ m ∧ LInv bs (dBelow bs c 3).1 i s)
    (fun i s hi => ⟨i, hi.1, dBelow_ok _ hi.2.1, hi.2.2⟩)
    (fun i s hi ht => ⟨by
      have h1 : (i : Int) < (dBelow bs s.2 ((m : Int) + 1)).1 := of_decide_eq_true ht
      have h2 := dBelow_lt bs s.2 ((m : Int) + 1) (by omega)
      omega, LInv.step (by omega) hi.2⟩) m 0 ([], (dBelow bs c 3).2) ⟨Nat.zero_le _, dBelow_ok _ hc, rfl, fun j hj => by cases hj⟩
  obtain ⟨i, hi, h1, h2, h3⟩ := h
  unfold dList
  refine ⟨h1, by omega, fun j hj => ?_⟩
  obtain ⟨g1, g2, g3⟩ := h3 j hj
  refine ⟨g1, g2, ?_⟩
  unfold pSpanOk
  rw [Bool.and_eq_true, decide_eq_true_eq, g1, g2]
  exact ⟨⟨by omega, by omega⟩, g3⟩
/-- a span that may not be valid -/
def dAny (bs : List Int) (c : Cu) : GSpan × Cu :=
  let s := dSpan bs c
  let d := dBelow bs s.2 14
  if d.1 = 0 then (⟨(dPick bs d.2 [-1, 31, 32]).1, s.1.Class, s.1.Bits⟩, (dPick bs d.2 [-1, 31, 32]).2)
  else if d.1 = 1 then (⟨s.1.Page, (dPick bs d.2 [-1, 4, 3, 0]).1, s.1.Bits⟩, (dPick bs d.2 [-1, 4, 3, 0]).2)
  else if d.1 = 2 then (⟨s.1.Page, s.1.Class, (dPick bs d.2 [-1, 65535, 65536, 3]).1⟩, (dPick bs d.2 [-1, 65535, 65536, 3]).2)
  else (s.1, d.2)
theorem dAny_ok {bs : List Int} {c : Cu} (h : okCu bs c) : okCu bs (dAny bs c).2 := by
  have o := dBelow_ok (bs := bs) 14 (dSpan_ok h)
  unfold dAny
  simp only
  repeat' split
  · exact dPick_ok _ o
  · exact dPick_ok _ o
  · exact dPick_ok _ o
  · exact o
theorem pick3 (bs : List Int) (c : Cu) : (dPick bs c [-1, 65535, 65536, 3]).1 ≤ 65536 := by
  have := dPick_mem bs c (l := [-1, 65535, 65536, 3]) (by simp)
  simp only [List.mem_cons, List.not_mem_nil, or_false] at this
  omega
/-- its bitmap is a number that fits -/
theorem dAny_bits (bs : List Int) (c : Cu) : (dAny bs c).1.Bits ≤ 65536 := by
  have h := bits_bd (dSpan_valid bs c)
  have h3 := pick3 bs (dBelow bs (dSpan bs c).2 14).2
  unfold dAny
  simp only
  repeat' split
  · show (dSpan bs c).1.Bits ≤ _; omega
  · show (dSpan bs c).1.Bits ≤ _; omega
  · exact h3
  · show (dSpan bs c).1.Bits ≤ _; omega
end Eng
end Go.Proofs.YthkjbjgpdapnpaaDoor

/- Spans as they are drawn, by a symbolic run. -/
import Derived.Test.YtmeahaaibncmmaaDoorEDw
import Derived.Test.YtmeahaaibncmmaaDoorE02
import Derived.Test.YtmeahaaibncmmaaDoorM09
import Derived.Test.YtmeahaaibncmmaaDoorBitFacts
namespace Go.Proofs.YtmeahaaibncmmaaDoor
open Go.RowKit
set_option linter.unusedVariables false
set_option linter.unusedSimpArgs false
set_option maxRecDepth 100000
namespace Eng
open Tr
/-- a bitmap's first slots, and the cursor -/
def mSt (bs : List Int) (c : Cu) (k : Int) : Nat → Nat × Cu
  | 0 => (0, c)
  | i + 1 => (if (dBelow bs (mSt bs c k i).2 k).1 = 0 then (mSt bs c k i).1 ||| 2 ^ i else (mSt bs c k i).1, (dBelow bs (mSt bs c k i).2 k).2)
theorem mSt_lt (bs : List Int) (c : Cu) (k : Int) : ∀ i, (mSt bs c k i).1 < 2 ^ i
  | 0 => Nat.one_pos
  | i + 1 => by
    have h := mSt_lt bs c k i
    have h2 : 2 ^ (i + 1) = 2 ^ i + 2 ^ i := by rw [Nat.pow_succ]; omega
    show (if _ then _ else _) < _
    split
    · exact Nat.or_lt_two_pow (by omega) (by omega)
    · omega
theorem mSt_ok {bs : List Int} {c : Cu} (k : Int) (h : okCu bs c) : ∀ i, okCu bs (mSt bs c k i).2
  | 0 => h
  | i + 1 => dBelow_ok _ (mSt_ok k h i)
def dMap (bs : List Int) (c : Cu) (n : Int) : Int × Cu := (((mSt bs (dBelow bs c 4).2 (1 + (dBelow bs c 4).1) n.toNat).1 : Int), (mSt bs (dBelow bs c 4).2 (1 + (dBelow bs c 4).1) n.toNat).2)
theorem dMap_ok {bs : List Int} {c : Cu} (n : Int) (h : okCu bs c) : okCu bs (dMap bs c n).2 := mSt_ok _ (dBelow_ok _ h) _
theorem dMap_bd (bs : List Int) (c : Cu) (n : Int) : 0 ≤ (dMap bs c n).1 ∧ (dMap bs c n).1 < ((2 ^ n.toNat : Nat) : Int) := by
  have := mSt_lt bs (dBelow bs c 4).2 (1 + (dBelow bs c 4).1) n.toNat
  unfold dMap
  simp only
  omega
def c_Map (bs : List Int) (c : Cu) (n : Int) : CFD := ⟨52, [.one (.box 0 0), (SV.one (.lit (.int .i64 (n))))], [(0, some (.box 54 [ro 5 1 eU bs, (CV.lit (.int .i64 ((c.i : Int)))), (CV.lit (.int .i64 (c.h)))]))], (TV.sv (.one (.lit (.int .i64 ((dMap bs c n).1))))), [(0, some (.box 54 [ro 5 1 eU bs, (CV.lit (.int .i64 (((dMap bs c n).2.i : Int)))), (CV.lit (.int .i64 ((dMap bs c n).2.h)))]))], [], []⟩
theorem or_bit {b i : Nat} (hb : b < 2 ^ i) (hi : i ≤ 15) : b ||| 2 ^ i < 65536 := by
  have h1 := Bm.pow_lt hi
  exact Nat.or_lt_two_pow (n := 16) (by omega) (by omega)
theorem or_step {b i : Nat} (hb : b < 2 ^ i) (hi : i ≤ 15) : IntKind.i64.wrap ((BitVec.ofInt IntKind.i64.bits (b : Int) ||| BitVec.ofInt IntKind.i64.bits (IntKind.i64.wrap (1 * 2 ^ min (IntKind.u64.wrap (i : Int)).toNat IntKind.i64.bits))).toNat : Int) = ((b ||| 2 ^ i : Nat) : Int) := by
  have h1 := Bm.pow_lt hi
  have e1 : IntKind.u64.wrap (i : Int) = (i : Int) := by rw [IntKind.wrap_u64]; omega
  have e2 : min i IntKind.i64.bits = i := Nat.min_eq_left (by show i ≤ 64; omega)
  have e3 : IntKind.i64.wrap (1 * 2 ^ i) = ((2 ^ i : Nat) : Int) := by
    rw [Int.one_mul, show (2 : Int) ^ i = ((2 ^ i : Nat) : Int) by simp]
    exact Bm.wraps_i64 _ (by omega) (by omega)
  rw [e1, Int.toNat_natCast, e2, e3]
  exact Bm.or_nat b (2 ^ i) (by omega) (by omega)
theorem fn_Map (bs : List Int) (c : Cu) (n : Int) (hc : okCu bs c) (hn : n ≤ 16) : Fn Tryd.prog (c_Map bs c n) := by
  obtain ⟨D, hD⟩ : ∃ D, dBelow bs c 4 = D := ⟨_, rfl⟩
  have hD1 := dBelow_lt bs c 4 (by decide)
  have hD2 := dBelow_ok (bs := bs) 4 hc
  have hok := mSt_ok (bs := bs) (1 + (dBelow bs c 4).1) hD2
  have hlt := mSt_lt bs (dBelow bs c 4).2 (1 + (dBelow bs c 4).1)
  refine fn_intro tt_ok Tryd.func52 rfl Tryd.call52 Tryd.ntmps52 Tryd.results52 rfl rfl rfl rfl ?_
  intro X ρ0 hb_ hgl_
  dsimp only [c_Map, rnCap, capSVs, Int.toNat_natCast, ro, Nat.reduceAdd, Nat.reduceMul, Nat.zero_add, List.map, putT, app, wrapG, gOb, argT, keys, slotOf, dropped, gAnd, wB, rnT, rnS, rnC, rnCs, rnSs, rnM, rnB, rnN, rn, lk, St.over, ded, delL, keepT, menT, menSs, menS, menCs, menC, hasN, resT, SV.cells]
  repeat' (refine ar_id ?_; first | refine ar_seq ?_ | refine ar_block ?_ | refine ar_blk ?_ | refine ar_skip ?_ | refine ar_label ?_ | refine ar_exit rfl ?_ | refine ar_scope ?_ | refine ar_scp ?_ | (refine ar_run (id := 2) [.call (c_Below bs c 4)] ?_; generalize hQ_ : kont _ _ _ _ = Q_; repeat' (first | (focus ((first | refine as_call tt_ok rfl rfl rfl rfl rfl rfl (by dsimp only [mpCap, Nat.reduceAdd, Nat.reduceMul, Nat.zero_add, List.map, mpM, mpTL, mpT, mpSs, mpS, mpCs, mpC, mpN, lk, idN, keys, resT, ro] <;> exact rfl) rfl rfl rfl rfl ?_ ?_ | refine as_sure tt_ok rfl rfl rfl rfl rfl rfl (by dsimp only [mpCap, Nat.reduceAdd, Nat.reduceMul, Nat.zero_add, List.map, mpM, mpTL, mpT, mpSs, mpS, mpCs, mpC, mpN, lk, idN, keys, resT, ro] <;> exact rfl) rfl rfl rfl rfl ?_ ?_ | refine as_cons tt_ok rfl rfl rfl rfl rfl rfl ?_ ?_); dsimp only [rnCap, capSVs, Int.toNat_natCast, ro, Nat.reduceAdd, Nat.reduceMul, Nat.zero_add, List.map, putT, app, wrapG, gOb, argT, keys, slotOf, dropped, gAnd, wB, rnT, rnS, rnC, rnCs, rnSs, rnM, rnB, rnN, rn, lk, St.over, ded, delL, keepT, menT, menSs, menS, menCs, menC, hasN, resT, SV.cells, c_Below, mpM, mpTL, mpT, mpSs, mpS, mpCs, mpC, mpN]; rotate_left)) | (subst hQ_; refine as_nil ?_))) | (first | ((first | refine ar_region tt_ok (inps := []) rfl ?_ ?_); rotate_left; (try dsimp only [rnCap, capSVs, Int.toNat_natCast, ro, Nat.reduceAdd, Nat.reduceMul, Nat.zero_add, List.map, putT, app, wrapG, gOb, argT, keys, slotOf, dropped, gAnd, wB, rnT, rnS, rnC, rnCs, rnSs, rnM, rnB, rnN, rn, lk, St.over, ded, delL, keepT, menT, menSs, menS, menCs, menC, hasN, resT, SV.cells, c_Below, mpM, mpTL, mpT, mpSs, mpS, mpCs, mpC, mpN]); rotate_right) | ((first | refine ar_ret ?_ | refine ar_end ?_); refine fin_auto2 rfl (by dsimp only [mpCap, Nat.reduceAdd, Nat.reduceMul, Nat.zero_add, List.map, mpM, mpTL, mpT, mpSs, mpS, mpCs, mpC, mpN, lk, idN, keys, resT, ro] <;> exact rfl) (by dsimp only [xCap, okCap, rnCap, Nat.reduceAdd, Nat.reduceMul, Nat.zero_add, List.map, wkOb, finOb, xTL, xM, xT, xSs, xS, xCs, xC, xB, okTL, okML, okT, okSs, okS, okCs, okC, okB, nodupN, rnN, allIn, fixed, rn, lk, hasN, app, SV.cells, ro, keys, resT] <;> exact rfl) ?_)) | (refine ar_cond rfl trivial ?_ ?_ <;> intro hc_ <;> (try simp only [isNilI, inB, reduceCtorEq, cds] at hc_) <;> (try (first | contradiction | (exfalso; omega)))) | refine ar_until (And.intro ?_ (wk_auto2 (by dsimp only [mpCap, Nat.reduceAdd, Nat.reduceMul, Nat.zero_add, List.map, mpM, mpTL, mpT, mpSs, mpS, mpCs, mpC, mpN, lk, idN, keys, resT, ro] <;> exact rfl) (by dsimp only [xCap, okCap, rnCap, Nat.reduceAdd, Nat.reduceMul, Nat.zero_add, List.map, wkOb, finOb, xTL, xM, xT, xSs, xS, xCs, xC, xB, okTL, okML, okT, okSs, okS, okCs, okC, okB, nodupN, rnN, allIn, fixed, rn, lk, hasN, app, SV.cells, ro, keys, resT] <;> exact rfl) ?_)))
  all_goals (first | refine ar_id ?_ | (try (focus ((try dsimp only [okX, GlAll, app, gOb, All, gAnd, wB, rnT, rnS, rnC, rnCs, rnSs, rnB, rn, lk, obD]); (repeat' (first | exact True.intro | refine And.intro ?_ ?_)); all_goals (try (intro (hg_ : _ = true); (try simp only [isNilI, inB, reduceCtorEq, cds] at hg_); (repeat' (first | exact True.intro | refine And.intro ?_ ?_)))); all_goals (first | first | with_reducible rfl | omega | exact Nat.le_refl _ | exact congrArg (Value.int .i64) (by omega) | (simp only [List.length_map]; first | done | omega) | (simp only [lns]; omega) | exact i64_ok (by omega) (by omega) | exact elem_map (fun _ => rfl) (by assumption) | exact elem_map (fun _ => rfl) (getD_at (by omega)) | exact elem_map' (fun _ => rfl) (by omega) | exact map_at (by omega) | exact set_at (by simp only [lns]; omega) | (rw [List.length_replicate, Int.toNat_natCast] at *; omega) | assumption | decide | exact fn_Below bs c 4 hc | skip)))))
  refine ar_keep 243 (by dsimp only [keepS] <;> exact rfl) ?_
  refine ar_forM (n.toNat) (fun i => True) (fun i => [(7, (TV.sv (.one (.lit (.int .i64 (i)))))), (5, (TV.sv (.one (.lit (.int .i64 ((mSt bs (dBelow bs c 4).2 (1 + (dBelow bs c 4).1) i).1)))))), (6, (TV.sv (.one (.lit (.int .i64 (1 + (dBelow bs c 4).1))))))]) (fun i => [(0, some (.box 54 [ro 5 1 eU bs, (CV.lit (.int .i64 (((mSt bs (dBelow bs c 4).2 (1 + (dBelow bs c 4).1) i).2.i : Int)))), (CV.lit (.int .i64 ((mSt bs (dBelow bs c 4).2 (1 + (dBelow bs c 4).1) i).2.h)))]))]) ?_ ?_ ?_
  rotate_left
  · first | trivial | simp
  (dsimp only [rnCap, capSVs, Int.toNat_natCast, ro, Nat.reduceAdd, Nat.reduceMul, Nat.zero_add, List.map, putT, app, wrapG, gOb, argT, keys, slotOf, dropped, gAnd, wB, rnT, rnS, rnC, rnCs, rnSs, rnM, rnB, rnN, rn, lk, St.over, ded, delL, keepT, menT, menSs, menS, menCs, menC, hasN, resT, SV.cells]; refine wk_auto2 (by dsimp only [mpCap, Nat.reduceAdd, Nat.reduceMul, Nat.zero_add, List.map, mpM, mpTL, mpT, mpSs, mpS, mpCs, mpC, mpN, lk, idN, keys, resT, ro] <;> exact rfl) (by dsimp only [xCap, okCap, rnCap, Nat.reduceAdd, Nat.reduceMul, Nat.zero_add, List.map, wkOb, finOb, xTL, xM, xT, xSs, xS, xCs, xC, xB, okTL, okML, okT, okSs, okS, okCs, okC, okB, nodupN, rnN, allIn, fixed, rn, lk, hasN, app, SV.cells, ro, keys, resT] <;> exact rfl) ?_; (focus ((try dsimp only [okX, GlAll, app, gOb, All, gAnd, wB, rnT, rnS, rnC, rnCs, rnSs, rnB, rn, lk, obD]); (repeat' (first | exact True.intro | refine And.intro ?_ ?_)); all_goals (try (intro (hg_ : _ = true); (try simp only [isNilI, inB, reduceCtorEq, cds] at hg_); (repeat' (first | exact True.intro | refine And.intro ?_ ?_)))); all_goals (first | first | with_reducible rfl | omega | exact Nat.le_refl _ | exact congrArg (Value.int .i64) (by omega) | (simp only [List.length_map]; first | done | omega) | (simp only [lns]; omega) | exact i64_ok (by omega) (by omega) | exact elem_map (fun _ => rfl) (by assumption) | exact elem_map (fun _ => rfl) (getD_at (by omega)) | exact elem_map' (fun _ => rfl) (by omega) | exact map_at (by omega) | exact set_at (by simp only [lns]; omega) | (rw [List.length_replicate, Int.toNat_natCast] at *; omega) | assumption | decide | exact rfl | skip))))
  rotate_right
  intro i hi_ hiI_
  dsimp only [rnCap, capSVs, Int.toNat_natCast, ro, Nat.reduceAdd, Nat.reduceMul, Nat.zero_add, List.map, putT, app, wrapG, gOb, argT, keys, slotOf, dropped, gAnd, wB, rnT, rnS, rnC, rnCs, rnSs, rnM, rnB, rnN, rn, lk, St.over, ded, delL, keepT, menT, menSs, menS, menCs, menC, hasN, resT, SV.cells]
  repeat' (refine ar_id ?_; first | refine ar_seq ?_ | refine ar_block ?_ | refine ar_blk ?_ | refine ar_skip ?_ | refine ar_label ?_ | refine ar_exit rfl ?_ | refine ar_scope ?_ | refine ar_scp ?_ | (refine ar_run (id := 6) [.call (c_Once bs (mSt bs (dBelow bs c 4).2 (1 + (dBelow bs c 4).1) i).2 (1 + (dBelow bs c 4).1))] ?_; generalize hQ_ : kont _ _ _ _ = Q_; repeat' (first | (focus ((first | refine as_call tt_ok rfl rfl rfl rfl rfl rfl (by dsimp only [mpCap, Nat.reduceAdd, Nat.reduceMul, Nat.zero_add, List.map, mpM, mpTL, mpT, mpSs, mpS, mpCs, mpC, mpN, lk, idN, keys, resT, ro] <;> exact rfl) rfl rfl rfl rfl ?_ ?_ | refine as_sure tt_ok rfl rfl rfl rfl rfl rfl (by dsimp only [mpCap, Nat.reduceAdd, Nat.reduceMul, Nat.zero_add, List.map, mpM, mpTL, mpT, mpSs, mpS, mpCs, mpC, mpN, lk, idN, keys, resT, ro] <;> exact rfl) rfl rfl rfl rfl ?_ ?_ | refine as_cons tt_ok rfl rfl rfl rfl rfl rfl ?_ ?_); dsimp only [rnCap, capSVs, Int.toNat_natCast, ro, Nat.reduceAdd, Nat.reduceMul, Nat.zero_add, List.map, putT, app, wrapG, gOb, argT, keys, slotOf, dropped, gAnd, wB, rnT, rnS, rnC, rnCs, rnSs, rnM, rnB, rnN, rn, lk, St.over, ded, delL, keepT, menT, menSs, menS, menCs, menC, hasN, resT, SV.cells, c_Once, mpM, mpTL, mpT, mpSs, mpS, mpCs, mpC, mpN]; rotate_left)) | (subst hQ_; refine as_nil ?_))) | (first | ((first | refine ar_region tt_ok (inps := []) rfl ?_ ?_); rotate_left; (try dsimp only [rnCap, capSVs, Int.toNat_natCast, ro, Nat.reduceAdd, Nat.reduceMul, Nat.zero_add, List.map, putT, app, wrapG, gOb, argT, keys, slotOf, dropped, gAnd, wB, rnT, rnS, rnC, rnCs, rnSs, rnM, rnB, rnN, rn, lk, St.over, ded, delL, keepT, menT, menSs, menS, menCs, menC, hasN, resT, SV.cells, c_Once, mpM, mpTL, mpT, mpSs, mpS, mpCs, mpC, mpN]); rotate_right) | ((first | refine ar_ret ?_ | refine ar_end ?_); refine fin_auto2 rfl (by dsimp only [mpCap, Nat.reduceAdd, Nat.reduceMul, Nat.zero_add, List.map, mpM, mpTL, mpT, mpSs, mpS, mpCs, mpC, mpN, lk, idN, keys, resT, ro] <;> exact rfl) (by dsimp only [xCap, okCap, rnCap, Nat.reduceAdd, Nat.reduceMul, Nat.zero_add, List.map, wkOb, finOb, xTL, xM, xT, xSs, xS, xCs, xC, xB, okTL, okML, okT, okSs, okS, okCs, okC, okB, nodupN, rnN, allIn, fixed, rn, lk, hasN, app, SV.cells, ro, keys, resT] <;> exact rfl) ?_)) | (refine ar_cond rfl trivial ?_ ?_ <;> intro hc_ <;> (try simp only [isNilI, inB, reduceCtorEq, cds] at hc_) <;> (try (first | contradiction | (exfalso; omega)))) | refine ar_until (And.intro ?_ (wk_auto2 (by dsimp only [mpCap, Nat.reduceAdd, Nat.reduceMul, Nat.zero_add, List.map, mpM, mpTL, mpT, mpSs, mpS, mpCs, mpC, mpN, lk, idN, keys, resT, ro] <;> exact rfl) (by dsimp only [xCap, okCap, rnCap, Nat.reduceAdd, Nat.reduceMul, Nat.zero_add, List.map, wkOb, finOb, xTL, xM, xT, xSs, xS, xCs, xC, xB, okTL, okML, okT, okSs, okS, okCs, okC, okB, nodupN, rnN, allIn, fixed, rn, lk, hasN, app, SV.cells, ro, keys, resT] <;> exact rfl) ?_)))
  all_goals (first | refine ar_id ?_ | (try (focus ((try dsimp only [okX, GlAll, app, gOb, All, gAnd, wB, rnT, rnS, rnC, rnCs, rnSs, rnB, rn, lk, obD]); (repeat' (first | exact True.intro | refine And.intro ?_ ?_)); all_goals (try (intro (hg_ : _ = true); (try simp only [isNilI, inB, reduceCtorEq, cds] at hg_); (repeat' (first | exact True.intro | refine And.intro ?_ ?_)))); all_goals (first | first | with_reducible rfl | omega | exact Nat.le_refl _ | exact congrArg (Value.int .i64) (by omega) | (simp only [List.length_map]; first | done | omega) | (simp only [lns]; omega) | exact i64_ok (by omega) (by omega) | exact elem_map (fun _ => rfl) (by assumption) | exact elem_map (fun _ => rfl) (getD_at (by omega)) | exact elem_map' (fun _ => rfl) (by omega) | exact map_at (by omega) | exact set_at (by simp only [lns]; omega) | (rw [List.length_replicate, Int.toNat_natCast] at *; omega) | assumption | decide | exact fn_Once bs _ _ (hok i) | skip)))))
  · rw [IntKind.wrap_u64]; omega
  · rw [or_step (hlt i) (by omega)]
    show _ = Value.int _ (((if _ then _ else _ : Nat)) : Int)
    rw [if_pos hc_]
  · rfl
  · rfl
  · show _ = Value.int _ (((if _ then _ else _ : Nat)) : Int)
    rw [if_neg hc_]
  · rfl
  · rfl
  all_goals (rw [show i = n.toNat by omega]; rfl)
theorem shl1 {n : Int} (h0 : 0 ≤ n) (h1 : n ≤ 16) : IntKind.i64.wrap (1 * 2 ^ min (IntKind.u64.wrap n).toNat IntKind.i64.bits) = ((2 ^ n.toNat : Nat) : Int) := by
  obtain ⟨i, rfl⟩ := Int.eq_ofNat_of_zero_le h0
  have hp : 2 ^ i ≤ 65536 := Nat.pow_le_pow_right (n := 2) (by decide) (show i ≤ 16 by omega)
  have e1 : IntKind.u64.wrap (i : Int) = (i : Int) := by rw [IntKind.wrap_u64]; omega
  have e2 : min i IntKind.i64.bits = i := Nat.min_eq_left (by show i ≤ 64; omega)
  rw [e1, Int.toNat_natCast, e2, Int.one_mul, show (2 : Int) ^ i = ((2 ^ i : Nat) : Int) by simp]
  generalize 2 ^ i = P at *
  exact Bm.wraps_i64 _ (by omega) (by omega)
/-- the same contracts, of results with a name -/
def c_MapR (bs : List Int) (c : Cu) (n : Int) (r : Int × Cu) : CFD := ⟨52, [.one (.box 0 0), (SV.one (.lit (.int .i64 (n))))], [(0, some (.box 54 [ro 5 1 eU bs, (CV.lit (.int .i64 (((c).i : Int)))), (CV.lit (.int .i64 ((c).h)))]))], (TV.sv (.one (.lit (.int .i64 (r.1))))), [(0, some (.box 54 [ro 5 1 eU bs, (CV.lit (.int .i64 (((r.2).i : Int)))), (CV.lit (.int .i64 ((r.2).h)))]))], [], []⟩
theorem fn_MapR (bs : List Int) (c : Cu) (n : Int) (r : Int × Cu) (hc : okCu bs c) (hn : n ≤ 16) (h : dMap bs c n = r) : Fn Tryd.prog (c_MapR bs c n r) := h ▸ fn_Map bs c n hc hn
/-- a span -/
def dSpan (bs : List Int) (c : Cu) : GSpan × Cu :=
  let p := dBelow bs c 8
  let k := dBelow bs p.2 4
  let m := dMap bs k.2 (Cl.slots k.1)
  let o := dBelow bs m.2 8
  (⟨p.1, k.1, if o.1 = 0 then ((2 ^ (Cl.slots k.1).toNat - 1 : Nat) : Int) else m.1⟩, o.2)
theorem dSpan_ok {bs : List Int} {c : Cu} (h : okCu bs c) : okCu bs (dSpan bs c).2 := dBelow_ok _ (dMap_ok _ (dBelow_ok _ (dBelow_ok _ h)))
theorem dSpan_valid (bs : List Int) (c : Cu) : pSpanOk (dSpan bs c).1 = true := by
  have h1 := dBelow_lt bs c 8 (by decide)
  have h2 := dBelow_lt bs (dBelow bs c 8).2 4 (by decide)
  unfold dSpan
  simp only
  generalize dBelow bs c 8 = p at h1 h2
  generalize dBelow bs p.2 4 = k at h2
  have hs : 2 ≤ Cl.slots k.1 ∧ Cl.slots k.1 ≤ 16 := by
    unfold Cl.slots
    repeat' split
    all_goals omega
  have hm := dMap_bd bs k.2 (Cl.slots k.1)
  generalize dMap bs k.2 (Cl.slots k.1) = m at hm
  unfold pSpanOk Bm.isMap
  rw [Bool.and_eq_true, decide_eq_true_eq, decide_eq_true_eq]
  have hp : 0 < 2 ^ (Cl.slots k.1).toNat := Nat.two_pow_pos _
  have e : (2 : Int) ^ (Cl.slots k.1).toNat = ((2 ^ (Cl.slots k.1).toNat : Nat) : Int) := by simp
  refine ⟨⟨h1.1, by show p.1 ≤ 31; omega⟩, by show 1 ≤ Cl.slots k.1; omega, hs.2, ?_, ?_⟩
  · simp only; split <;> omega
  · simp only; rw [e]; split <;> omega
def c_Span (bs : List Int) (c : Cu) : CFD := ⟨41, [.one (.box 0 0)], [(0, some (.box 54 [ro 5 1 eU bs, (CV.lit (.int .i64 ((c.i : Int)))), (CV.lit (.int .i64 (c.h)))]))], .sv (.agg [(CV.lit (.int .i64 (((dSpan bs c).1).Page))), (CV.lit (.int .i64 (((dSpan bs c).1).Class))), (CV.lit (.int .i64 (((dSpan bs c).1).Bits)))]), [(0, some (.box 54 [ro 5 1 eU bs, (CV.lit (.int .i64 (((dSpan bs c).2.i : Int)))), (CV.lit (.int .i64 ((dSpan bs c).2.h)))]))], [], []⟩
theorem fn_Span (bs : List Int) (c : Cu) (hc : okCu bs c) : Fn Tryd.prog (c_Span bs c) := by
  obtain ⟨p, hp⟩ : ∃ p, dBelow bs c 8 = p := ⟨_, rfl⟩
  have o1 : okCu bs p.2 := hp ▸ dBelow_ok _ hc
  obtain ⟨k, hk⟩ : ∃ k, dBelow bs p.2 4 = k := ⟨_, rfl⟩
  have o2 : okCu bs k.2 := hk ▸ dBelow_ok _ o1
  obtain ⟨m, hm⟩ : ∃ m, dMap bs k.2 (Cl.slots k.1) = m := ⟨_, rfl⟩
  have o3 : okCu bs m.2 := hm ▸ dMap_ok _ o2
  obtain ⟨o, ho⟩ : ∃ o, dBelow bs m.2 8 = o := ⟨_, rfl⟩
  have hk4 : 0 ≤ k.1 ∧ k.1 < 4 := hk ▸ dBelow_lt bs p.2 4 (by decide)
  have hs : 2 ≤ Cl.slots k.1 ∧ Cl.slots k.1 ≤ 16 := by
    unfold Cl.slots
    repeat' split
    all_goals omega
  have hV : dSpan bs c = (⟨p.1, k.1, if o.1 = 0 then ((2 ^ (Cl.slots k.1).toNat - 1 : Nat) : Int) else m.1⟩, o.2) := by
    unfold dSpan
    simp only
    rw [hp, hk, hm, ho]
  refine fn_intro tt_ok Tryd.func41 rfl Tryd.call41 Tryd.ntmps41 Tryd.results41 rfl rfl rfl rfl ?_
  intro X ρ0 hb_ hgl_
  dsimp only [c_Span, rnCap, capSVs, Int.toNat_natCast, ro, Nat.reduceAdd, Nat.reduceMul, Nat.zero_add, List.map, putT, app, wrapG, gOb, argT, keys, slotOf, dropped, gAnd, wB, rnT, rnS, rnC, rnCs, rnSs, rnM, rnB, rnN, rn, lk, St.over, ded, delL, keepT, menT, menSs, menS, menCs, menC, hasN, resT, SV.cells]
  rw [hV]
  repeat' (refine ar_id ?_; first | refine ar_seq ?_ | refine ar_block ?_ | refine ar_blk ?_ | refine ar_skip ?_ | refine ar_label ?_ | refine ar_exit rfl ?_ | refine ar_scope ?_ | refine ar_scp ?_ | (refine ar_run (id := 1) [.call (c_BelowR bs c 8 p), .call (c_BelowR bs p.2 4 k)] ?_; generalize hQ_ : kont _ _ _ _ = Q_; repeat' (first | (focus ((first | refine as_call tt_ok rfl rfl rfl rfl rfl rfl (by dsimp only [mpCap, Nat.reduceAdd, Nat.reduceMul, Nat.zero_add, List.map, mpM, mpTL, mpT, mpSs, mpS, mpCs, mpC, mpN, lk, idN, keys, resT, ro] <;> exact rfl) rfl rfl rfl rfl ?_ ?_ | refine as_sure tt_ok rfl rfl rfl rfl rfl rfl (by dsimp only [mpCap, Nat.reduceAdd, Nat.reduceMul, Nat.zero_add, List.map, mpM, mpTL, mpT, mpSs, mpS, mpCs, mpC, mpN, lk, idN, keys, resT, ro] <;> exact rfl) rfl rfl rfl rfl ?_ ?_ | refine as_cons tt_ok rfl rfl rfl rfl rfl rfl ?_ ?_); dsimp only [rnCap, capSVs, Int.toNat_natCast, ro, Nat.reduceAdd, Nat.reduceMul, Nat.zero_add, List.map, putT, app, wrapG, gOb, argT, keys, slotOf, dropped, gAnd, wB, rnT, rnS, rnC, rnCs, rnSs, rnM, rnB, rnN, rn, lk, St.over, ded, delL, keepT, menT, menSs, menS, menCs, menC, hasN, resT, SV.cells, c_BelowR, c_MapR, c_OnceR, c_SlotsS, mpM, mpTL, mpT, mpSs, mpS, mpCs, mpC, mpN]; rotate_left)) | (subst hQ_; refine as_nil ?_))) | (refine ar_run (id := 2) [.call (c_SlotsS k.1), .call (c_MapR bs k.2 (Cl.slots k.1) m)] ?_; generalize hQ_ : kont _ _ _ _ = Q_; repeat' (first | (focus ((first | refine as_call tt_ok rfl rfl rfl rfl rfl rfl (by dsimp only [mpCap, Nat.reduceAdd, Nat.reduceMul, Nat.zero_add, List.map, mpM, mpTL, mpT, mpSs, mpS, mpCs, mpC, mpN, lk, idN, keys, resT, ro] <;> exact rfl) rfl rfl rfl rfl ?_ ?_ | refine as_sure tt_ok rfl rfl rfl rfl rfl rfl (by dsimp only [mpCap, Nat.reduceAdd, Nat.reduceMul, Nat.zero_add, List.map, mpM, mpTL, mpT, mpSs, mpS, mpCs, mpC, mpN, lk, idN, keys, resT, ro] <;> exact rfl) rfl rfl rfl rfl ?_ ?_ | refine as_cons tt_ok rfl rfl rfl rfl rfl rfl ?_ ?_); dsimp only [rnCap, capSVs, Int.toNat_natCast, ro, Nat.reduceAdd, Nat.reduceMul, Nat.zero_add, List.map, putT, app, wrapG, gOb, argT, keys, slotOf, dropped, gAnd, wB, rnT, rnS, rnC, rnCs, rnSs, rnM, rnB, rnN, rn, lk, St.over, ded, delL, keepT, menT, menSs, menS, menCs, menC, hasN, resT, SV.cells, c_BelowR, c_MapR, c_OnceR, c_SlotsS, mpM, mpTL, mpT, mpSs, mpS, mpCs, mpC, mpN]; rotate_left)) | (subst hQ_; refine as_nil ?_))) | (refine ar_run (id := 3) [.call (c_OnceR bs m.2 8 o)] ?_; generalize hQ_ : kont _ _ _ _ = Q_; repeat' (first | (focus ((first | refine as_call tt_ok rfl rfl rfl rfl rfl rfl (by dsimp only [mpCap, Nat.reduceAdd, Nat.reduceMul, Nat.zero_add, List.map, mpM, mpTL, mpT, mpSs, mpS, mpCs, mpC, mpN, lk, idN, keys, resT, ro] <;> exact rfl) rfl rfl rfl rfl ?_ ?_ | refine as_sure tt_ok rfl rfl rfl rfl rfl rfl (by dsimp only [mpCap, Nat.reduceAdd, Nat.reduceMul, Nat.zero_add, List.map, mpM, mpTL, mpT, mpSs, mpS, mpCs, mpC, mpN, lk, idN, keys, resT, ro] <;> exact rfl) rfl rfl rfl rfl ?_ ?_ | refine as_cons tt_ok rfl rfl rfl rfl rfl rfl ?_ ?_); dsimp only [rnCap, capSVs, Int.toNat_natCast, ro, Nat.reduceAdd, Nat.reduceMul, Nat.zero_add, List.map, putT, app, wrapG, gOb, argT, keys, slotOf, dropped, gAnd, wB, rnT, rnS, rnC, rnCs, rnSs, rnM, rnB, rnN, rn, lk, St.over, ded, delL, keepT, menT, menSs, menS, menCs, menC, hasN, resT, SV.cells, c_BelowR, c_MapR, c_OnceR, c_SlotsS, mpM, mpTL, mpT, mpSs, mpS, mpCs, mpC, mpN]; rotate_left)) | (subst hQ_; refine as_nil ?_))) | (refine ar_run (id := 4) [.call (c_SlotsS k.1)] ?_; generalize hQ_ : kont _ _ _ _ = Q_; repeat' (first | (focus ((first | refine as_call tt_ok rfl rfl rfl rfl rfl rfl (by dsimp only [mpCap, Nat.reduceAdd, Nat.reduceMul, Nat.zero_add, List.map, mpM, mpTL, mpT, mpSs, mpS, mpCs, mpC, mpN, lk, idN, keys, resT, ro] <;> exact rfl) rfl rfl rfl rfl ?_ ?_ | refine as_sure tt_ok rfl rfl rfl rfl rfl rfl (by dsimp only [mpCap, Nat.reduceAdd, Nat.reduceMul, Nat.zero_add, List.map, mpM, mpTL, mpT, mpSs, mpS, mpCs, mpC, mpN, lk, idN, keys, resT, ro] <;> exact rfl) rfl rfl rfl rfl ?_ ?_ | refine as_cons tt_ok rfl rfl rfl rfl rfl rfl ?_ ?_); dsimp only [rnCap, capSVs, Int.toNat_natCast, ro, Nat.reduceAdd, Nat.reduceMul, Nat.zero_add, List.map, putT, app, wrapG, gOb, argT, keys, slotOf, dropped, gAnd, wB, rnT, rnS, rnC, rnCs, rnSs, rnM, rnB, rnN, rn, lk, St.over, ded, delL, keepT, menT, menSs, menS, menCs, menC, hasN, resT, SV.cells, c_BelowR, c_MapR, c_OnceR, c_SlotsS, mpM, mpTL, mpT, mpSs, mpS, mpCs, mpC, mpN]; rotate_left)) | (subst hQ_; refine as_nil ?_))) | (first | ((first | refine ar_region tt_ok (inps := []) rfl ?_ ?_); rotate_left; (try dsimp only [rnCap, capSVs, Int.toNat_natCast, ro, Nat.reduceAdd, Nat.reduceMul, Nat.zero_add, List.map, putT, app, wrapG, gOb, argT, keys, slotOf, dropped, gAnd, wB, rnT, rnS, rnC, rnCs, rnSs, rnM, rnB, rnN, rn, lk, St.over, ded, delL, keepT, menT, menSs, menS, menCs, menC, hasN, resT, SV.cells, c_BelowR, c_MapR, c_OnceR, c_SlotsS, mpM, mpTL, mpT, mpSs, mpS, mpCs, mpC, mpN]); rotate_right) | ((first | refine ar_ret ?_ | refine ar_end ?_); refine fin_auto2 rfl (by dsimp only [mpCap, Nat.reduceAdd, Nat.reduceMul, Nat.zero_add, List.map, mpM, mpTL, mpT, mpSs, mpS, mpCs, mpC, mpN, lk, idN, keys, resT, ro] <;> exact rfl) (by dsimp only [xCap, okCap, rnCap, Nat.reduceAdd, Nat.reduceMul, Nat.zero_add, List.map, wkOb, finOb, xTL, xM, xT, xSs, xS, xCs, xC, xB, okTL, okML, okT, okSs, okS, okCs, okC, okB, nodupN, rnN, allIn, fixed, rn, lk, hasN, app, SV.cells, ro, keys, resT] <;> exact rfl) ?_)) | (refine ar_cond rfl trivial ?_ ?_ <;> intro hc_ <;> (try simp only [isNilI, inB, reduceCtorEq, cds] at hc_) <;> (try (first | contradiction | (exfalso; omega)))) | refine ar_until (And.intro ?_ (wk_auto2 (by dsimp only [mpCap, Nat.reduceAdd, Nat.reduceMul, Nat.zero_add, List.map, mpM, mpTL, mpT, mpSs, mpS, mpCs, mpC, mpN, lk, idN, keys, resT, ro] <;> exact rfl) (by dsimp only [xCap, okCap, rnCap, Nat.reduceAdd, Nat.reduceMul, Nat.zero_add, List.map, wkOb, finOb, xTL, xM, xT, xSs, xS, xCs, xC, xB, okTL, okML, okT, okSs, okS, okCs, okC, okB, nodupN, rnN, allIn, fixed, rn, lk, hasN, app, SV.cells, ro, keys, resT] <;> exact rfl) ?_)))
  all_goals (first | refine ar_id ?_ | (try (focus ((try dsimp only [okX, GlAll, app, gOb, All, gAnd, wB, rnT, rnS, rnC, rnCs, rnSs, rnB, rn, lk, obD]); (repeat' (first | exact True.intro | refine And.intro ?_ ?_)); all_goals (try (intro (hg_ : _ = true); (try simp only [isNilI, inB, reduceCtorEq, cds] at hg_); (repeat' (first | exact True.intro | refine And.intro ?_ ?_)))); all_goals (first | first | with_reducible rfl | omega | exact Nat.le_refl _ | exact congrArg (Value.int .i64) (by omega) | (simp only [List.length_map]; first | done | omega) | (simp only [lns]; omega) | exact i64_ok (by omega) (by omega) | exact elem_map (fun _ => rfl) (by assumption) | exact elem_map (fun _ => rfl) (getD_at (by omega)) | exact elem_map' (fun _ => rfl) (by omega) | exact map_at (by omega) | exact set_at (by simp only [lns]; omega) | (rw [List.length_replicate, Int.toNat_natCast] at *; omega) | assumption | decide | exact fn_BelowR _ _ _ _ hc hp | exact fn_BelowR _ _ _ _ o1 hk | exact fn_SlotsS _ | exact fn_MapR _ _ _ _ o2 hs.2 hm | exact fn_OnceR _ _ _ _ o3 ho | skip)))))
  · rw [IntKind.wrap_u64]; omega
  · rw [shl1 (by omega) hs.2]
    have hp : 2 ^ (Cl.slots k.1).toNat ≤ 65536 := Nat.pow_le_pow_right (n := 2) (by decide) (show (Cl.slots k.1).toNat ≤ 16 by omega)
    generalize 2 ^ (Cl.slots k.1).toNat = P at *
    exact i64_ok (by omega) (by omega)
  · rw [shl1 (by omega) hs.2, if_pos hc_]
    have hp : 0 < 2 ^ (Cl.slots k.1).toNat := Nat.two_pow_pos _
    exact congrArg _ (by omega)
  all_goals (rw [if_neg hc_])
def c_DrawSpan (bs : List Int) : CFD := ⟨19, [.one (ro 5 1 eU bs)], [], .sv (.agg [(CV.lit (.int .i64 (((dSpan bs (dNew bs)).1).Page))), (CV.lit (.int .i64 (((dSpan bs (dNew bs)).1).Class))), (CV.lit (.int .i64 (((dSpan bs (dNew bs)).1).Bits)))]), [], [], []⟩
theorem fn_DrawSpan (bs : List Int) (hl : bs.length ≤ 2097152) (hb : ∀ x ∈ bs, 0 ≤ x ∧ x ≤ 255) : Fn Tryd.prog (c_DrawSpan bs) := by
  refine fn_intro tt_ok Tryd.func19 rfl Tryd.call19 Tryd.ntmps19 Tryd.results19 rfl rfl rfl rfl ?_
  intro X ρ0 hb_ hgl_
  dsimp only [c_DrawSpan, rnCap, capSVs, Int.toNat_natCast, ro, Nat.reduceAdd, Nat.reduceMul, Nat.zero_add, List.map, putT, app, wrapG, gOb, argT, keys, slotOf, dropped, gAnd, wB, rnT, rnS, rnC, rnCs, rnSs, rnM, rnB, rnN, rn, lk, St.over, ded, delL, keepT, menT, menSs, menS, menCs, menC, hasN, resT, SV.cells]
  repeat' (refine ar_id ?_; first | refine ar_seq ?_ | refine ar_block ?_ | refine ar_blk ?_ | refine ar_skip ?_ | refine ar_label ?_ | refine ar_exit rfl ?_ | refine ar_scope ?_ | refine ar_scp ?_ | (refine ar_run (id := 1) [.call (c_NewC bs), .call (c_Span bs (dNew bs))] ?_; generalize hQ_ : kont _ _ _ _ = Q_; repeat' (first | (focus ((first | refine as_call tt_ok rfl rfl rfl rfl rfl rfl (by dsimp only [mpCap, Nat.reduceAdd, Nat.reduceMul, Nat.zero_add, List.map, mpM, mpTL, mpT, mpSs, mpS, mpCs, mpC, mpN, lk, idN, keys, resT, ro] <;> exact rfl) rfl rfl rfl rfl ?_ ?_ | refine as_sure tt_ok rfl rfl rfl rfl rfl rfl (by dsimp only [mpCap, Nat.reduceAdd, Nat.reduceMul, Nat.zero_add, List.map, mpM, mpTL, mpT, mpSs, mpS, mpCs, mpC, mpN, lk, idN, keys, resT, ro] <;> exact rfl) rfl rfl rfl rfl ?_ ?_ | refine as_cons tt_ok rfl rfl rfl rfl rfl rfl ?_ ?_); dsimp only [rnCap, capSVs, Int.toNat_natCast, ro, Nat.reduceAdd, Nat.reduceMul, Nat.zero_add, List.map, putT, app, wrapG, gOb, argT, keys, slotOf, dropped, gAnd, wB, rnT, rnS, rnC, rnCs, rnSs, rnM, rnB, rnN, rn, lk, St.over, ded, delL, keepT, menT, menSs, menS, menCs, menC, hasN, resT, SV.cells, c_NewC, c_Span, mpM, mpTL, mpT, mpSs, mpS, mpCs, mpC, mpN]; rotate_left)) | (subst hQ_; refine as_nil ?_))) | (first | ((first | refine ar_region tt_ok (inps := []) rfl ?_ ?_); rotate_left; (try dsimp only [rnCap, capSVs, Int.toNat_natCast, ro, Nat.reduceAdd, Nat.reduceMul, Nat.zero_add, List.map, putT, app, wrapG, gOb, argT, keys, slotOf, dropped, gAnd, wB, rnT, rnS, rnC, rnCs, rnSs, rnM, rnB, rnN, rn, lk, St.over, ded, delL, keepT, menT, menSs, menS, menCs, menC, hasN, resT, SV.cells, c_NewC, c_Span, mpM, mpTL, mpT, mpSs, mpS, mpCs, mpC, mpN]); rotate_right) | ((first | refine ar_ret ?_ | refine ar_end ?_); refine fin_auto2 rfl (by dsimp only [mpCap, Nat.reduceAdd, Nat.reduceMul, Nat.zero_add, List.map, mpM, mpTL, mpT, mpSs, mpS, mpCs, mpC, mpN, lk, idN, keys, resT, ro] <;> exact rfl) (by dsimp only [xCap, okCap, rnCap, Nat.reduceAdd, Nat.reduceMul, Nat.zero_add, List.map, wkOb, finOb, xTL, xM, xT, xSs, xS, xCs, xC, xB, okTL, okML, okT, okSs, okS, okCs, okC, okB, nodupN, rnN, allIn, fixed, rn, lk, hasN, app, SV.cells, ro, keys, resT] <;> exact rfl) ?_)) | (refine ar_cond rfl trivial ?_ ?_ <;> intro hc_ <;> (try simp only [isNilI, inB, reduceCtorEq, cds] at hc_) <;> (try (first | contradiction | (exfalso; omega)))) | refine ar_until (And.intro ?_ (wk_auto2 (by dsimp only [mpCap, Nat.reduceAdd, Nat.reduceMul, Nat.zero_add, List.map, mpM, mpTL, mpT, mpSs, mpS, mpCs, mpC, mpN, lk, idN, keys, resT, ro] <;> exact rfl) (by dsimp only [xCap, okCap, rnCap, Nat.reduceAdd, Nat.reduceMul, Nat.zero_add, List.map, wkOb, finOb, xTL, xM, xT, xSs, xS, xCs, xC, xB, okTL, okML, okT, okSs, okS, okCs, okC, okB, nodupN, rnN, allIn, fixed, rn, lk, hasN, app, SV.cells, ro, keys, resT] <;> exact rfl) ?_)))
  all_goals (first | refine ar_id ?_ | (try (focus ((try dsimp only [okX, GlAll, app, gOb, All, gAnd, wB, rnT, rnS, rnC, rnCs, rnSs, rnB, rn, lk, obD]); (repeat' (first | exact True.intro | refine And.intro ?_ ?_)); all_goals (try (intro (hg_ : _ = true); (try simp only [isNilI, inB, reduceCtorEq, cds] at hg_); (repeat' (first | exact True.intro | refine And.intro ?_ ?_)))); all_goals (first | first | with_reducible rfl | omega | exact Nat.le_refl _ | exact congrArg (Value.int .i64) (by omega) | (simp only [List.length_map]; first | done | omega) | (simp only [lns]; omega) | exact i64_ok (by omega) (by omega) | exact elem_map (fun _ => rfl) (by assumption) | exact elem_map (fun _ => rfl) (getD_at (by omega)) | exact elem_map' (fun _ => rfl) (by omega) | exact map_at (by omega) | exact set_at (by simp only [lns]; omega) | (rw [List.length_replicate, Int.toNat_natCast] at *; omega) | assumption | decide | exact fn_NewC bs hl hb | exact fn_Span bs _ (dNew_ok hl hb) | skip)))))
  all_goals trace_state
end Eng
end Go.Proofs.YtmeahaaibncmmaaDoor

/- Meshable spans: the specification's functions, by the symbolic run. -/
import Derived.Test.YthkjbjgpdapnpaaDoorE9b
import Derived.Test.YthkjbjgpdapnpaaDoorM10
import Derived.Test.YthkjbjgpdapnpaaDoorEngZ
namespace Go.Proofs.YthkjbjgpdapnpaaDoor
open Go.RowKit
set_option linter.unusedVariables false
set_option linter.unusedSimpArgs false
set_option maxRecDepth 100000
namespace Eng
open Tr
theorem and_bits {a b : GSpan} (ha : pSpanOk a = true) (hb : pSpanOk b = true) : IntKind.i64.wrap ((BitVec.ofInt IntKind.i64.bits a.Bits &&& BitVec.ofInt IntKind.i64.bits b.Bits).toNat : Int) = ((a.Bits.toNat &&& b.Bits.toNat : Nat) : Int) := by
  obtain ⟨h1, h2⟩ := bitsN_nat ha
  obtain ⟨h3, h4⟩ := bitsN_nat hb
  have := Bm.and_nat a.Bits.toNat b.Bits.toNat (by omega) (by omega)
  rw [← h1, ← h3] at this
  exact this
theorem or_bits {x : Nat} {b : GSpan} (hx : x < 65536) (hb : pSpanOk b = true) : IntKind.i64.wrap ((BitVec.ofInt IntKind.i64.bits (x : Int) ||| BitVec.ofInt IntKind.i64.bits b.Bits).toNat : Int) = ((x ||| b.Bits.toNat : Nat) : Int) := by
  obtain ⟨h3, h4⟩ := bitsN_nat hb
  have := Bm.or_nat x b.Bits.toNat (by omega) (by omega)
  rw [← h3] at this
  exact this
theorem mesh_b (a b : GSpan) : (bif bif bif bif pSpanOk a then pSpanOk b else false then a.Class == b.Class else false then a.Page != b.Page else false then IntKind.i64.wrap ((BitVec.ofInt IntKind.i64.bits a.Bits &&& BitVec.ofInt IntKind.i64.bits b.Bits).toNat : Int) == 0 else false) = pMesh a b := by
  unfold pMesh
  cases ha : pSpanOk a with
  | false => simp
  | true =>
    cases hb : pSpanOk b with
    | false => simp
    | true =>
      rw [and_bits ha hb]
      have : (((a.Bits.toNat &&& b.Bits.toNat : Nat) : Int) == 0) = ((a.Bits.toNat &&& b.Bits.toNat) == 0) := by
        rw [Bool.eq_iff_iff, beq_iff_eq, beq_iff_eq]; omega
      rw [this]
      simp only [Bool.cond_false_right, Bool.true_and]
def c_Mesh (a b : GSpan) : CFD := ⟨25, [.agg [(CV.lit (.int .i64 (a.Page))), (CV.lit (.int .i64 (a.Class))), (CV.lit (.int .i64 (a.Bits)))], .agg [(CV.lit (.int .i64 (b.Page))), (CV.lit (.int .i64 (b.Class))), (CV.lit (.int .i64 (b.Bits)))]], [], (TV.sv (.one (.lit (.bool (pMesh a b))))), [], [], []⟩
theorem fn_Mesh (a b : GSpan) : Fn Tryd.prog (c_Mesh a b) := by
  refine fn_intro tt_ok Tryd.func25 rfl Tryd.call25 Tryd.ntmps25 Tryd.results25 rfl rfl rfl rfl ?_
  intro X ρ0 hb_ hgl_
  dsimp only [c_Mesh, rnCap, capSVs, Int.toNat_natCast, ro, Nat.reduceAdd, Nat.reduceMul, Nat.zero_add, List.map, putT, app, wrapG, gOb, argT, keys, slotOf, dropped, gAnd, wB, rnT, rnS, rnC, rnCs, rnSs, rnM, rnB, rnN, rn, lk, St.over, ded, delL, keepT, menT, menSs, menS, menCs, menC, hasN, resT, SV.cells]
  repeat' (refine ar_id ?_; first | refine ar_seq ?_ | refine ar_block ?_ | refine ar_blk ?_ | refine ar_skip ?_ | refine ar_label ?_ | refine ar_exit rfl ?_ | refine ar_scope ?_ | refine ar_scp ?_ | (first | ((first | refine ar_region (id := 1) tt_ok (inps := [.call (c_SpanOk a), .call (c_SpanOk b)]) rfl ?_ ?_ | refine ar_region tt_ok (inps := []) rfl ?_ ?_); rotate_left; (try dsimp only [rnCap, capSVs, Int.toNat_natCast, ro, Nat.reduceAdd, Nat.reduceMul, Nat.zero_add, List.map, putT, app, wrapG, gOb, argT, keys, slotOf, dropped, gAnd, wB, rnT, rnS, rnC, rnCs, rnSs, rnM, rnB, rnN, rn, lk, St.over, ded, delL, keepT, menT, menSs, menS, menCs, menC, hasN, resT, SV.cells, c_SpanOk, mpM, mpTL, mpO, mpB, lkO, mpT, mpSs, mpS, mpCs, mpC, mpN]); rotate_right) | ((first | refine ar_ret ?_ | refine ar_end ?_); refine fin_auto2 rfl (by dsimp only [mpCap, Nat.reduceAdd, Nat.reduceMul, Nat.zero_add, List.map, mpM, mpTL, mpO, mpB, lkO, mpT, mpSs, mpS, mpCs, mpC, mpN, lk, idN, keys, resT, ro] <;> exact rfl) (by dsimp only [xCap, okCap, rnCap, Nat.reduceAdd, Nat.reduceMul, Nat.zero_add, List.map, wkOb, finOb, xTL, xM, xT, xSs, xS, xCs, xC, xB, okTL, okML, okT, okSs, okS, okCs, okC, okB, nodupN, rnN, allIn, fixed, rn, lk, hasN, app, SV.cells, ro, keys, resT] <;> exact rfl) ?_)) | (refine ar_cond rfl trivial ?_ ?_ <;> intro hc_ <;> (try simp only [isNilI, inB, reduceCtorEq, cds] at hc_) <;> (try (first | contradiction | (exfalso; omega)))) | refine ar_until (And.intro ?_ (wk_auto2 (by dsimp only [mpCap, Nat.reduceAdd, Nat.reduceMul, Nat.zero_add, List.map, mpM, mpTL, mpO, mpB, lkO, mpT, mpSs, mpS, mpCs, mpC, mpN, lk, idN, keys, resT, ro] <;> exact rfl) (by dsimp only [xCap, okCap, rnCap, Nat.reduceAdd, Nat.reduceMul, Nat.zero_add, List.map, wkOb, finOb, xTL, xM, xT, xSs, xS, xCs, xC, xB, okTL, okML, okT, okSs, okS, okCs, okC, okB, nodupN, rnN, allIn, fixed, rn, lk, hasN, app, SV.cells, ro, keys, resT] <;> exact rfl) ?_)))
  all_goals (first | refine ar_id ?_ | (try (focus ((try dsimp only [okX, GlAll, app, gOb, All, gAnd, wB, rnT, rnS, rnC, rnCs, rnSs, rnB, rn, lk, obD]); (repeat' (first | exact True.intro | refine And.intro ?_ ?_)); all_goals (try (intro (hg_ : _ = true); (try simp only [isNilI, inB, reduceCtorEq, cds] at hg_); (repeat' (first | exact True.intro | refine And.intro ?_ ?_)))); all_goals (first | first | with_reducible rfl | omega | exact Nat.le_refl _ | exact congrArg (Value.int .i64) (by omega) | (simp only [List.length_map]; first | done | omega) | (simp only [lns]; omega) | exact i64_ok (by omega) (by omega) | exact elem_map (fun _ => rfl) (by assumption) | exact elem_map (fun _ => rfl) (getD_at (by omega)) | exact elem_map' (fun _ => rfl) (by omega) | exact map_at (by omega) | exact set_at (by simp only [lns]; omega) | (rw [List.length_replicate, Int.toNat_natCast] at *; omega) | assumption | decide | exact fn_SpanOk _ | skip)))))
  rw [mesh_b]
theorem ne_ok {l : List GSpan} {i k : Nat} (hi : i < l.length) (hk : k < i) (h : pMesh (l.getD k spD) (l.getD i spD) = false) : pGroupOk l = false := decide_eq_false fun hg => by
  have := hg.1 i hi k hk
  rw [h] at this; cases this
theorem sq_le {n : Nat} (h : n ≤ 1048576) : n * n ≤ 1099511627776 := Nat.le_trans (Nat.mul_le_mul h h) (by decide)
end Eng
end Go.Proofs.YthkjbjgpdapnpaaDoor

/- Kernel calls: the law on call numbers, by a symbolic run. -/
import Derived.Test.YtcdmijnlpapjaaaELa
import Derived.Test.YtcdmijnlpapjaaaEI08k
import Derived.Test.YtcdmijnlpapjaaaEI08n
namespace Go.Proofs.Ytcdmijnlpapjaaa
open Go.RowKit
set_option linter.unusedVariables false
set_option linter.unusedSimpArgs false
set_option maxRecDepth 100000
namespace Eng
open Tr
theorem okF_sz {f : GFrames} (h : okF f) : f.Cells.length ≤ 32 ∧ f.Used.length ≤ 32 ∧ ∀ r ∈ f.Cells, r.length ≤ 16 := by
  refine ⟨h.1.2, by have := h.1.2; have := h.2.1; omega, fun r hr => ?_⟩
  obtain ⟨i, hi⟩ := List.getElem?_of_mem hr
  have hl := (List.getElem?_eq_some_iff.1 hi).1
  have hu : f.Used[i]? = some (f.Used.getD i false) := getD_at (by have := h.2.1; omega)
  have := h.2.2 _ (List.mem_of_getElem? (zip_at hi hu))
  have := this.1
  show r.length ≤ 16
  simp only at this
  omega
theorem okK_sz {k : GKernel} (h : okK k) : szK k := by
  obtain ⟨h1, h2, h3⟩ := okF_sz h.1.1
  have h4 := h.1.2.1
  unfold pTableOk at h4
  have h5 := of_decide_eq_true h4
  exact ⟨⟨by omega, by omega, fun r hr => by have := h3 r hr; omega, by omega⟩, by have := h.2.2.2; omega⟩
def c_KNewR (p f : Int) (r : List Int) (k : GKernel) (b : Bool) : CFD := ⟨22, [(SV.one (.lit (.int .i64 (p)))), (SV.one (.lit (.int .i64 (f)))), .one (ro 3 1 Tr.eI r)], [], .tup [.agg [.hd 0, .hd 1, .hd 2, (CV.lit (.int .i64 (k.Calls))), .hd 3], (SV.one (.lit (.bool (b))))], [(0, some (.row 33 1 (k.Machine.Frames.Cells.map eIntS))), (1, some (.row 4 1 (k.Machine.Frames.Used.map Tr.eB))), (2, some (.row 78 2 (k.Machine.Table.Entries.map eEntry))), (3, some (.row 3 1 (k.Refuse.map Tr.eI)))], [0, 1, 2, 3], []⟩
theorem fn_KNewR (p f : Int) (r : List Int) (k : GKernel) (b : Bool) (hr : r.length ≤ 1048576) (hm : szM (pMachineNew p f).1) (h : pKernelNew p f r = (k, b)) : Fn Try.prog (c_KNewR p f r k b) := by
  have := fn_KNewI p f r hr hm
  unfold c_KNewI at this
  rw [h] at this
  exact this
def c_KMapNewR (k : GKernel) (page : Int) (k' : GKernel) (b : Bool) : CFD := ⟨16, [.agg [ro 33 1 eIntS k.Machine.Frames.Cells, ro 4 1 Tr.eB k.Machine.Frames.Used, ro 78 2 eEntry k.Machine.Table.Entries, (CV.lit (.int .i64 (k.Calls))), ro 3 1 Tr.eI k.Refuse], (SV.one (.lit (.int .i64 (page))))], [], .tup [.agg [.hd 0, .hd 1, .hd 2, (CV.lit (.int .i64 ((k').Calls))), .hd 3], (SV.one (.lit (.bool (b))))], [(0, some (.row 33 1 ((k').Machine.Frames.Cells.map eIntS))), (1, some (.row 4 1 ((k').Machine.Frames.Used.map Tr.eB))), (2, some (.row 78 2 ((k').Machine.Table.Entries.map eEntry))), (3, some (.row 3 1 ((k').Refuse.map Tr.eI)))], [0, 1, 2, 3], []⟩
theorem fn_KMapNewR (k : GKernel) (page : Int) (k' : GKernel) (b : Bool) (hs : szK k) (h : pKMapNew k page = (k', b)) : Fn Try.prog (c_KMapNewR k page k' b) := by
  have := fn_KMapNewI k page hs
  unfold c_KMapNewI at this
  rw [h] at this
  exact this
def c_KProtectR (k : GKernel) (page mode : Int) (k' : GKernel) (b : Bool) : CFD := ⟨18, [.agg [ro 33 1 eIntS k.Machine.Frames.Cells, ro 4 1 Tr.eB k.Machine.Frames.Used, ro 78 2 eEntry k.Machine.Table.Entries, (CV.lit (.int .i64 (k.Calls))), ro 3 1 Tr.eI k.Refuse], (SV.one (.lit (.int .i64 (page)))), (SV.one (.lit (.int .i64 (mode))))], [], .tup [.agg [.hd 0, .hd 1, .hd 2, (CV.lit (.int .i64 ((k').Calls))), .hd 3], (SV.one (.lit (.bool (b))))], [(0, some (.row 33 1 ((k').Machine.Frames.Cells.map eIntS))), (1, some (.row 4 1 ((k').Machine.Frames.Used.map Tr.eB))), (2, some (.row 78 2 ((k').Machine.Table.Entries.map eEntry))), (3, some (.row 3 1 ((k').Refuse.map Tr.eI)))], [0, 1, 2, 3], []⟩
theorem fn_KProtectR (k : GKernel) (page mode : Int) (k' : GKernel) (b : Bool) (hs : szK k) (h : pKProtect k page mode = (k', b)) : Fn Try.prog (c_KProtectR k page mode k' b) := by
  have := fn_KProtectI k page mode hs
  unfold c_KProtectI at this
  rw [h] at this
  exact this
/-- the kernel ahead of call n -/
def kk (a b : Int) : Nat → GKernel
  | 0 => (pKernelNew 2 2 [a, b]).1
  | 1 => (pKMapNew (kk a b 0) 0).1
  | n + 2 => (pKProtect (kk a b (n + 1)) 0 (1 + ((n : Int) + 1).tmod 2)).1
def hitB (a b : Int) (n : Nat) : Bool := decide ((n : Int) + 1 = a) || decide ((n : Int) + 1 = b)
def kkB (a b : Int) : Bool :=
  (pKernelNew 2 2 [a, b]).2 && (pKMapNew (kk a b 0) 0).2 && (List.range 9).all (fun n => decide (okK (kk a b n)) && (kk a b n).Calls == (n : Int)) && (List.range 7).all (fun n => (pKProtect (kk a b (n + 1)) 0 (1 + ((n : Int) + 1).tmod 2)).2 == !(hitB a b n))
theorem kkB_all : ∀ a ∈ [1, 2, 3, 4, 5, 6], ∀ b ∈ [1, 2, 3, 4, 5, 6], kkB a b = true := by decide +kernel
theorem kk_ok {a b : Int} (ha : 1 ≤ a ∧ a ≤ 6) (hb : 1 ≤ b ∧ b ≤ 6) : pKernelNew 2 2 [a, b] = (kk a b 0, true) ∧ pKMapNew (kk a b 0) 0 = (kk a b 1, true) ∧ (∀ n, n < 9 → okK (kk a b n) ∧ (kk a b n).Calls = (n : Int)) ∧ ∀ n, n < 7 → pKProtect (kk a b (n + 1)) 0 (1 + ((n : Int) + 1).tmod 2) = (kk a b (n + 2), !(hitB a b n)) := by
  have h := kkB_all a (by simp; omega) b (by simp; omega)
  unfold kkB at h
  simp only [Bool.and_eq_true, List.all_eq_true, List.mem_range, decide_eq_true_eq, beq_iff_eq] at h
  obtain ⟨⟨⟨h1, h2⟩, h3⟩, h4⟩ := h
  exact ⟨Prod.ext rfl h1, Prod.ext rfl h2, h3, fun n hn => Prod.ext rfl (h4 n hn)⟩
def c_CallNo (bs : List Int) : CFD := ⟨5, [.one (ro 5 1 eU bs)], [], (TV.sv (.one (.lit (.bool (true))))), [], [], []⟩
set_option maxHeartbeats 4000000 in
theorem fn_CallNo (bs : List Int) (hb : ∀ x ∈ bs, 0 ≤ x ∧ x ≤ 255) : Fn Try.prog (c_CallNo bs) := by
  by_cases hl : (1048576 : Int) < (bs.length : Int)
  · have hd := decide_eq_true hl
    refine fn_intro tt_ok Try.func5 rfl Try.call5 Try.ntmps5 Try.results5 rfl rfl rfl rfl ?_
    intro X ρ0 hb_ hgl_
    dsimp only [c_CallNo, Int.toNat_natCast, ro, Nat.reduceAdd, Nat.reduceMul, Nat.zero_add, List.map, putT, app, wrapG, gOb, argT, keys, slotOf, dropped, gAnd, wB, rnT, rnS, rnC, rnCs, rnSs, rnM, rnB, rnN, rn, lk, St.over, ded, delL, keepT, menT, menSs, menS, menCs, menC, hasN, resT, SV.cells]
    repeat' (refine ar_id ?_; first | refine ar_seq ?_ | refine ar_block ?_ | refine ar_blk ?_ | refine ar_skip ?_ | refine ar_label ?_ | refine ar_exit rfl ?_ | refine ar_scope ?_ | refine ar_scp ?_ | (first | ((first | refine ar_region (id := 1) tt_ok (inps := [.call (c_big bs)]) rfl ?_ ?_ | refine ar_region tt_ok (inps := []) rfl ?_ ?_); rotate_left; (try dsimp only [Int.toNat_natCast, ro, Nat.reduceAdd, Nat.reduceMul, Nat.zero_add, List.map, putT, app, wrapG, gOb, argT, keys, slotOf, dropped, gAnd, wB, rnT, rnS, rnC, rnCs, rnSs, rnM, rnB, rnN, rn, lk, St.over, ded, delL, keepT, menT, menSs, menS, menCs, menC, hasN, resT, SV.cells, c_big, mpM, mpTL, mpT, mpSs, mpS, mpCs, mpC, mpN]); rotate_right) | ((first | refine ar_ret ?_ | refine ar_end ?_); refine fin_auto2 rfl (by dsimp only [Nat.reduceAdd, Nat.reduceMul, Nat.zero_add, List.map, mpM, mpTL, mpT, mpSs, mpS, mpCs, mpC, mpN, lk, idN, keys, resT, ro] <;> exact rfl) (by dsimp only [Nat.reduceAdd, Nat.reduceMul, Nat.zero_add, List.map, wkOb, finOb, xTL, xM, xT, xSs, xS, xCs, xC, xB, okTL, okML, okT, okSs, okS, okCs, okC, okB, nodupN, rnN, allIn, fixed, rn, lk, hasN, app, SV.cells, ro, keys, resT] <;> exact rfl) ?_)) | (refine ar_cond rfl trivial ?_ ?_ <;> intro hc_ <;> (try simp only [isNilI, inB, reduceCtorEq, cds] at hc_) <;> (try (first | contradiction | (exfalso; omega)))) | refine ar_until (And.intro ?_ (wk_auto2 (by dsimp only [Nat.reduceAdd, Nat.reduceMul, Nat.zero_add, List.map, mpM, mpTL, mpT, mpSs, mpS, mpCs, mpC, mpN, lk, idN, keys, resT, ro] <;> exact rfl) (by dsimp only [Nat.reduceAdd, Nat.reduceMul, Nat.zero_add, List.map, wkOb, finOb, xTL, xM, xT, xSs, xS, xCs, xC, xB, okTL, okML, okT, okSs, okS, okCs, okC, okB, nodupN, rnN, allIn, fixed, rn, lk, hasN, app, SV.cells, ro, keys, resT] <;> exact rfl) ?_)))
    all_goals (first | refine ar_id ?_ | (try (focus ((try dsimp only [okX, GlAll, app, gOb, All, gAnd, wB, rnT, rnS, rnC, rnCs, rnSs, rnB, rn, lk, obD]); (repeat' (first | exact True.intro | refine And.intro ?_ ?_)); all_goals (try (intro (hg_ : _ = true); (try simp only [isNilI, inB, reduceCtorEq, cds] at hg_); (repeat' (first | exact True.intro | refine And.intro ?_ ?_)))); all_goals (first | first | with_reducible rfl | omega | exact Nat.le_refl _ | exact congrArg (Value.int .i64) (by omega) | (simp only [List.length_map]; first | done | omega) | (simp only [lns]; omega) | exact i64_ok (by omega) (by omega) | exact elem_map (fun _ => rfl) (by assumption) | exact elem_map (fun _ => rfl) (getD_at (by omega)) | exact elem_map' (fun _ => rfl) (by omega) | exact map_at (by omega) | exact set_at (by simp only [lns]; omega) | (rw [List.length_replicate, Int.toNat_natCast] at *; omega) | assumption | decide | exact fn_big bs | skip)))))
  · have hl' : bs.length ≤ 1048576 := by omega
    obtain ⟨p0, hp0⟩ : ∃ p, (places bs).getD 0 0 = p := ⟨_, rfl⟩
    obtain ⟨p1, hp1⟩ : ∃ p, (places bs).getD 1 0 = p := ⟨_, rfl⟩
    have hq0 : 0 ≤ p0 ∧ p0 < 10000 := hp0 ▸ plV_lt bs 0
    have hq1 : 0 ≤ p1 ∧ p1 < 10000 := hp1 ▸ plV_lt bs 1
    have hpl : (places bs).length = 12 := by unfold places; simp
    have e0 : ((places bs).map eI)[0]? = some (eI p0) := by rw [← hp0]; exact map_at (by omega)
    have e1 : ((places bs).map eI)[1]? = some (eI p1) := by rw [← hp1]; exact map_at (by omega)
    have ha1 : 1 ≤ 1 + p0.tmod 6 ∧ 1 + p0.tmod 6 ≤ 6 := by rw [Int.tmod_eq_emod_of_nonneg hq0.1]; omega
    have hb1 : 1 ≤ 1 + p1.tmod 6 ∧ 1 + p1.tmod 6 ≤ 6 := by rw [Int.tmod_eq_emod_of_nonneg hq1.1]; omega
    obtain ⟨k1, k2, k3, k4⟩ := kk_ok ha1 hb1
    obtain ⟨K, hK⟩ : ∃ K, kk (1 + p0.tmod 6) (1 + p1.tmod 6) = K := ⟨_, rfl⟩
    rw [hK] at k1 k2 k3 k4
    clear hp0 hp1 hK
    refine fn_intro tt_ok Try.func5 rfl Try.call5 Try.ntmps5 Try.results5 rfl rfl rfl rfl ?_
    intro X ρ0 hb_ hgl_
    dsimp only [c_CallNo, Int.toNat_natCast, ro, Nat.reduceAdd, Nat.reduceMul, Nat.zero_add, List.map, putT, app, wrapG, gOb, argT, keys, slotOf, dropped, gAnd, wB, rnT, rnS, rnC, rnCs, rnSs, rnM, rnB, rnN, rn, lk, St.over, ded, delL, keepT, menT, menSs, menS, menCs, menC, hasN, resT, SV.cells]
    repeat' (refine ar_id ?_; first | refine ar_seq ?_ | refine ar_block ?_ | refine ar_blk ?_ | refine ar_skip ?_ | refine ar_label ?_ | refine ar_exit rfl ?_ | refine ar_scope ?_ | refine ar_scp ?_ | (first | ((first | refine ar_region (id := 1) tt_ok (inps := [.call (c_big bs)]) rfl ?_ ?_ | refine ar_region (id := 3) tt_ok (inps := [.call (c_Places bs)]) rfl ?_ ?_ | refine ar_region tt_ok (inps := []) rfl ?_ ?_); rotate_left; (try dsimp only [Int.toNat_natCast, ro, Nat.reduceAdd, Nat.reduceMul, Nat.zero_add, List.map, putT, app, wrapG, gOb, argT, keys, slotOf, dropped, gAnd, wB, rnT, rnS, rnC, rnCs, rnSs, rnM, rnB, rnN, rn, lk, St.over, ded, delL, keepT, menT, menSs, menS, menCs, menC, hasN, resT, SV.cells, c_Places, c_big, mpM, mpTL, mpT, mpSs, mpS, mpCs, mpC, mpN]); rotate_right) | ((first | refine ar_ret ?_ | refine ar_end ?_); refine fin_auto2 rfl (by dsimp only [Nat.reduceAdd, Nat.reduceMul, Nat.zero_add, List.map, mpM, mpTL, mpT, mpSs, mpS, mpCs, mpC, mpN, lk, idN, keys, resT, ro] <;> exact rfl) (by dsimp only [Nat.reduceAdd, Nat.reduceMul, Nat.zero_add, List.map, wkOb, finOb, xTL, xM, xT, xSs, xS, xCs, xC, xB, okTL, okML, okT, okSs, okS, okCs, okC, okB, nodupN, rnN, allIn, fixed, rn, lk, hasN, app, SV.cells, ro, keys, resT] <;> exact rfl) ?_)) | (refine ar_cond rfl trivial ?_ ?_ <;> intro hc_ <;> (try simp only [isNilI, inB, reduceCtorEq, cds] at hc_) <;> (try (first | contradiction | (exfalso; omega)))) | refine ar_until (And.intro ?_ (wk_auto2 (by dsimp only [Nat.reduceAdd, Nat.reduceMul, Nat.zero_add, List.map, mpM, mpTL, mpT, mpSs, mpS, mpCs, mpC, mpN, lk, idN, keys, resT, ro] <;> exact rfl) (by dsimp only [Nat.reduceAdd, Nat.reduceMul, Nat.zero_add, List.map, wkOb, finOb, xTL, xM, xT, xSs, xS, xCs, xC, xB, okTL, okML, okT, okSs, okS, okCs, okC, okB, nodupN, rnN, allIn, fixed, rn, lk, hasN, app, SV.cells, ro, keys, resT] <;> exact rfl) ?_)))
    all_goals (first | refine ar_id ?_ | (try (focus ((try dsimp only [okX, GlAll, app, gOb, All, gAnd, wB, rnT, rnS, rnC, rnCs, rnSs, rnB, rn, lk, obD]); (repeat' (first | exact True.intro | refine And.intro ?_ ?_)); all_goals (try (intro (hg_ : _ = true); (try simp only [isNilI, inB, reduceCtorEq, cds] at hg_); (repeat' (first | exact True.intro | refine And.intro ?_ ?_)))); all_goals (first | first | with_reducible rfl | omega | exact Nat.le_refl _ | exact congrArg (Value.int .i64) (by omega) | (simp only [List.length_map]; first | done | omega) | (simp only [lns]; omega) | exact i64_ok (by omega) (by omega) | exact elem_map (fun _ => rfl) (by assumption) | exact elem_map (fun _ => rfl) (getD_at (by omega)) | exact elem_map' (fun _ => rfl) (by omega) | exact map_at (by omega) | exact set_at (by simp only [lns]; omega) | (rw [List.length_replicate, Int.toNat_natCast] at *; omega) | assumption | decide | exact fn_big bs | exact fn_Places bs hl' hb | skip)))))
    refine ar_keep 1021 (by dsimp only [keepS] <;> exact rfl) ?_
    repeat' (refine ar_id ?_; first | refine ar_seq ?_ | refine ar_block ?_ | refine ar_blk ?_ | refine ar_skip ?_ | refine ar_label ?_ | refine ar_exit rfl ?_ | refine ar_scope ?_ | refine ar_scp ?_ | (first | ((first | refine ar_draw (id := 4) (inps := [.elem (eI p0), .elem (eI p1), .call (c_KNewR 2 2 [1 + p0.tmod 6, 1 + p1.tmod 6] (K 0) true)]) tt_ok (by kernel_rfl) rfl rfl (by kernel_rfl) rfl rfl rfl rfl ?_ ?_ | refine ar_region (id := 5) tt_ok (inps := [.call (c_KMapNewR (K 0) 0 (K 1) true)]) rfl ?_ ?_ | refine ar_region tt_ok (inps := []) rfl ?_ ?_); rotate_left; (try dsimp only [Int.toNat_natCast, ro, Nat.reduceAdd, Nat.reduceMul, Nat.zero_add, List.map, putT, app, wrapG, gOb, argT, keys, slotOf, dropped, gAnd, wB, rnT, rnS, rnC, rnCs, rnSs, rnM, rnB, rnN, rn, lk, St.over, ded, delL, keepT, menT, menSs, menS, menCs, menC, hasN, resT, SV.cells, c_KMapNewR, c_KNewR, mpM, mpTL, mpT, mpSs, mpS, mpCs, mpC, mpN, endT, endM, endU, insN, addN]); rotate_right) | ((first | refine ar_ret ?_ | refine ar_end ?_); refine fin_auto2 rfl (by dsimp only [Nat.reduceAdd, Nat.reduceMul, Nat.zero_add, List.map, mpM, mpTL, mpT, mpSs, mpS, mpCs, mpC, mpN, lk, idN, keys, resT, ro] <;> exact rfl) (by dsimp only [Nat.reduceAdd, Nat.reduceMul, Nat.zero_add, List.map, wkOb, finOb, xTL, xM, xT, xSs, xS, xCs, xC, xB, okTL, okML, okT, okSs, okS, okCs, okC, okB, nodupN, rnN, allIn, fixed, rn, lk, hasN, app, SV.cells, ro, keys, resT] <;> exact rfl) ?_)) | (refine ar_cond rfl trivial ?_ ?_ <;> intro hc_ <;> (try simp only [isNilI, inB, reduceCtorEq, cds] at hc_) <;> (try (first | contradiction | (exfalso; omega)))) | refine ar_until (And.intro ?_ (wk_auto2 (by dsimp only [Nat.reduceAdd, Nat.reduceMul, Nat.zero_add, List.map, mpM, mpTL, mpT, mpSs, mpS, mpCs, mpC, mpN, lk, idN, keys, resT, ro] <;> exact rfl) (by dsimp only [Nat.reduceAdd, Nat.reduceMul, Nat.zero_add, List.map, wkOb, finOb, xTL, xM, xT, xSs, xS, xCs, xC, xB, okTL, okML, okT, okSs, okS, okCs, okC, okB, nodupN, rnN, allIn, fixed, rn, lk, hasN, app, SV.cells, ro, keys, resT] <;> exact rfl) ?_)))
    all_goals (first | refine ar_id ?_ | (try (focus ((try dsimp only [okX, GlAll, app, gOb, All, gAnd, wB, rnT, rnS, rnC, rnCs, rnSs, rnB, rn, lk, obD]); (repeat' (first | exact True.intro | refine And.intro ?_ ?_)); all_goals (try (intro (hg_ : _ = true); (try simp only [isNilI, inB, reduceCtorEq, cds] at hg_); (repeat' (first | exact True.intro | refine And.intro ?_ ?_)))); all_goals (first | first | with_reducible rfl | omega | exact Nat.le_refl _ | exact congrArg (Value.int .i64) (by omega) | (simp only [List.length_map]; first | done | omega) | (simp only [lns]; omega) | exact i64_ok (by omega) (by omega) | exact elem_map (fun _ => rfl) (by assumption) | exact elem_map (fun _ => rfl) (getD_at (by omega)) | exact elem_map' (fun _ => rfl) (by omega) | exact map_at (by omega) | exact set_at (by simp only [lns]; omega) | (rw [List.length_replicate, Int.toNat_natCast] at *; omega) | assumption | decide | exact e0 | exact e1 | exact fn_KNewR 2 2 [1 + p0.tmod 6, 1 + p1.tmod 6] (K 0) true (by simp) (szM_to (szM_new 2 2)) k1 | exact fn_KMapNewR (K 0) 0 (K 1) true (okK_sz (k3 0 (by omega)).1) k2 | exact rfl | skip)))))
    refine ar_blocks [4, 32000, 32001, 32002, 32003, 14000] (by dsimp only [selB, hasN] <;> exact rfl) ?_
    refine ar_keep 1021 (by dsimp only [keepS] <;> exact rfl) ?_
    refine ar_forM (7) (fun j => True) (fun j => [(7, (TV.sv (.one (.lit (.int .i64 ((j : Int) + 1))))))]) (fun j => [(4, some (.box 35 [.hd 32000, .hd 32001, .hd 32002, (CV.lit (.int .i64 ((K (j + 1)).Calls))), .hd 32003])), (32000, some (.row 33 1 ((K (j + 1)).Machine.Frames.Cells.map eIntS))), (32001, some (.row 4 1 ((K (j + 1)).Machine.Frames.Used.map Tr.eB))), (32002, some (.row 78 2 ((K (j + 1)).Machine.Table.Entries.map eEntry))), (32003, some (.row 3 1 ((K (j + 1)).Refuse.map Tr.eI)))]) ?_ ?_ ?_
    rotate_left
    · first | trivial | simp
    (dsimp only [Int.toNat_natCast, ro, Nat.reduceAdd, Nat.reduceMul, Nat.zero_add, List.map, putT, app, wrapG, gOb, argT, keys, slotOf, dropped, gAnd, wB, rnT, rnS, rnC, rnCs, rnSs, rnM, rnB, rnN, rn, lk, St.over, ded, delL, keepT, menT, menSs, menS, menCs, menC, hasN, resT, SV.cells]; refine wk_auto2 (by dsimp only [Nat.reduceAdd, Nat.reduceMul, Nat.zero_add, List.map, mpM, mpTL, mpT, mpSs, mpS, mpCs, mpC, mpN, lk, idN, keys, resT, ro] <;> exact rfl) (by dsimp only [Nat.reduceAdd, Nat.reduceMul, Nat.zero_add, List.map, wkOb, finOb, xTL, xM, xT, xSs, xS, xCs, xC, xB, okTL, okML, okT, okSs, okS, okCs, okC, okB, nodupN, rnN, allIn, fixed, rn, lk, hasN, app, SV.cells, ro, keys, resT] <;> exact rfl) ?_; (focus ((try dsimp only [okX, GlAll, app, gOb, All, gAnd, wB, rnT, rnS, rnC, rnCs, rnSs, rnB, rn, lk, obD]); (repeat' (first | exact True.intro | refine And.intro ?_ ?_)); all_goals (try (intro (hg_ : _ = true); (try simp only [isNilI, inB, reduceCtorEq, cds] at hg_); (repeat' (first | exact True.intro | refine And.intro ?_ ?_)))); all_goals (first | first | with_reducible rfl | omega | exact Nat.le_refl _ | exact congrArg (Value.int .i64) (by omega) | (simp only [List.length_map]; first | done | omega) | (simp only [lns]; omega) | exact i64_ok (by omega) (by omega) | exact elem_map (fun _ => rfl) (by assumption) | exact elem_map (fun _ => rfl) (getD_at (by omega)) | exact elem_map' (fun _ => rfl) (by omega) | exact map_at (by omega) | exact set_at (by simp only [lns]; omega) | (rw [List.length_replicate, Int.toNat_natCast] at *; omega) | assumption | decide | exact rfl | skip))))
    rotate_right
    intro j hj_ hjI_
    dsimp only [Int.toNat_natCast, ro, Nat.reduceAdd, Nat.reduceMul, Nat.zero_add, List.map, putT, app, wrapG, gOb, argT, keys, slotOf, dropped, gAnd, wB, rnT, rnS, rnC, rnCs, rnSs, rnM, rnB, rnN, rn, lk, St.over, ded, delL, keepT, menT, menSs, menS, menCs, menC, hasN, resT, SV.cells]
    repeat' (refine ar_id ?_; first | refine ar_seq ?_ | refine ar_block ?_ | refine ar_blk ?_ | refine ar_skip ?_ | refine ar_label ?_ | refine ar_exit rfl ?_ | refine ar_scope ?_ | refine ar_scp ?_ | (first | ((first | refine ar_region (id := 9) tt_ok (inps := [.call (c_KProtectR (K (j + 1)) 0 (1 + ((j : Int) + 1).tmod 2) (K (j + 2)) (!(hitB (1 + p0.tmod 6) (1 + p1.tmod 6) j)))]) rfl ?_ ?_ | refine ar_region (id := 10) tt_ok (inps := [.elem (eI p0), .elem (eI p1)]) rfl ?_ ?_ | refine ar_region (id := 13) tt_ok (inps := [.call (c_KOkI (K (j + 1)))]) rfl ?_ ?_ | refine ar_region tt_ok (inps := []) rfl ?_ ?_); rotate_left; (try dsimp only [Int.toNat_natCast, ro, Nat.reduceAdd, Nat.reduceMul, Nat.zero_add, List.map, putT, app, wrapG, gOb, argT, keys, slotOf, dropped, gAnd, wB, rnT, rnS, rnC, rnCs, rnSs, rnM, rnB, rnN, rn, lk, St.over, ded, delL, keepT, menT, menSs, menS, menCs, menC, hasN, resT, SV.cells, c_KOkI, c_KProtectR, mpM, mpTL, mpT, mpSs, mpS, mpCs, mpC, mpN]); rotate_right) | ((first | refine ar_ret ?_ | refine ar_end ?_); refine fin_auto2 rfl (by dsimp only [Nat.reduceAdd, Nat.reduceMul, Nat.zero_add, List.map, mpM, mpTL, mpT, mpSs, mpS, mpCs, mpC, mpN, lk, idN, keys, resT, ro] <;> exact rfl) (by dsimp only [Nat.reduceAdd, Nat.reduceMul, Nat.zero_add, List.map, wkOb, finOb, xTL, xM, xT, xSs, xS, xCs, xC, xB, okTL, okML, okT, okSs, okS, okCs, okC, okB, nodupN, rnN, allIn, fixed, rn, lk, hasN, app, SV.cells, ro, keys, resT] <;> exact rfl) ?_)) | (refine ar_cond rfl trivial ?_ ?_ <;> intro hc_ <;> (try simp only [isNilI, inB, reduceCtorEq, cds] at hc_) <;> (try (first | contradiction | (exfalso; omega)))) | refine ar_until (And.intro ?_ (wk_auto2 (by dsimp only [Nat.reduceAdd, Nat.reduceMul, Nat.zero_add, List.map, mpM, mpTL, mpT, mpSs, mpS, mpCs, mpC, mpN, lk, idN, keys, resT, ro] <;> exact rfl) (by dsimp only [Nat.reduceAdd, Nat.reduceMul, Nat.zero_add, List.map, wkOb, finOb, xTL, xM, xT, xSs, xS, xCs, xC, xB, okTL, okML, okT, okSs, okS, okCs, okC, okB, nodupN, rnN, allIn, fixed, rn, lk, hasN, app, SV.cells, ro, keys, resT] <;> exact rfl) ?_)))
    all_goals (first | refine ar_id ?_ | (try (focus ((try dsimp only [okX, GlAll, app, gOb, All, gAnd, wB, rnT, rnS, rnC, rnCs, rnSs, rnB, rn, lk, obD]); (repeat' (first | exact True.intro | refine And.intro ?_ ?_)); all_goals (try (intro (hg_ : _ = true); (try simp only [isNilI, inB, reduceCtorEq, cds] at hg_); (repeat' (first | exact True.intro | refine And.intro ?_ ?_)))); all_goals (first | first | with_reducible rfl | omega | exact Nat.le_refl _ | exact congrArg (Value.int .i64) (by omega) | (simp only [List.length_map]; first | done | omega) | (simp only [lns]; omega) | exact i64_ok (by omega) (by omega) | exact elem_map (fun _ => rfl) (by assumption) | exact elem_map (fun _ => rfl) (getD_at (by omega)) | exact elem_map' (fun _ => rfl) (by omega) | exact map_at (by omega) | exact set_at (by simp only [lns]; omega) | (rw [List.length_replicate, Int.toNat_natCast] at *; omega) | assumption | decide | exact fn_KProtectR (K (j + 1)) 0 (1 + ((j : Int) + 1).tmod 2) (K (j + 2)) (!(hitB (1 + p0.tmod 6) (1 + p1.tmod 6) j)) (okK_sz (k3 (j + 1) (by omega)).1) (k4 j (by omega)) | exact e0 | exact e1 | exact fn_KOkI (K (j + 1)) (okK_sz (k3 (j + 1) (by omega)).1) | skip)))))
    · rw [Int.tmod_eq_emod_of_nonneg (by omega)]; exact i64_ok (by omega) (by omega)
    · exfalso
      rcases hc_ with h | h
      · unfold hitB at h
        generalize 1 + p0.tmod 6 = A at h
        generalize 1 + p1.tmod 6 = B at h
        generalize (j : Int) + 1 = J at h
        by_cases h1 : J = A <;> by_cases h2 : J = B <;> simp_all
      · have := (k3 (j + 2) (by omega)).2
        omega
    · have hj : j = 7 := by omega
      subst hj
      rw [show pKernelOk (K (7 + 1)) = true from decide_eq_true (k3 8 (by omega)).1]
      rfl
end Eng
end Go.Proofs.Ytcdmijnlpapjaaa

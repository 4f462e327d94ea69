/- Lemmas for the proofs, part 6 of 6: a symbolic run of the program, and what it needs. -/
import Derived.Stop.LaidErr
import Derived.Below
import Derived.Test.YtlkkiopjknbomaaGreatDoorRows
import Derived.Deep.DeepHandedRow
import Derived.Lib.LaidTab
import Derived.WalkSmall
import Derived.ProofKit
import Derived.OpenVars
import Derived.Test.YtlkkiopjknbomaaGreatDoorPkD5
namespace Go.Proofs.YtlkkiopjknbomaaGreatDoor
open Go.RowKit
set_option linter.unusedVariables false
set_option linter.unusedSimpArgs false
set_option maxRecDepth 100000
namespace Eng
open Tr
def c_cellEx (x : Int) : CFD := ⟨130, [(SV.one (.lit (.int .i64 (x))))], [], (TV.sv (.one (.lit (.bool (decide (0 ≤ x ∧ x ≤ 15)))))), [], [], []⟩
theorem fn_cellEx (x : Int) : Fn Tryz.prog (c_cellEx x) := by
  refine fn_intro tt_ok Tryz.func130 rfl Tryz.call130 Tryz.ntmps130 Tryz.results130 rfl rfl rfl rfl ?_
  intro X ρ0 hb_ hgl_
  dsimp only [c_cellEx]
  try refine nrm ?_
  repeat' (refine ar_id ?_; first | refine st1 ?_ | (first | ((first | refine ar_region tt_ok (inps := []) rfl ?_ ?_); rotate_left; (try refine nrm ?_); rotate_right) | refine ret3 ?_ | refine end3 ?_) | (refine ar_cond rfl trivial ?_ ?_ <;> intro hc_ <;> (try simp only [isNilI, inB, reduceCtorEq, cds] at hc_) <;> (try (first | contradiction | (exfalso; omega)))) | refine ar_until (And.intro ?_ (wk3 ?_)))
  all_goals (first | refine ar_id ?_ | (try (focus ((try refine nrmO ?_); (repeat' (first | exact True.intro | refine And.intro ?_ ?_)); all_goals (try (intro (hg_ : _ = true); (try simp only [isNilI, inB, reduceCtorEq, cds] at hg_); (repeat' (first | exact True.intro | refine And.intro ?_ ?_)))); all_goals (first | exact ob1 | skip)))))
  exact congrArg Value.bool (by rw [cond_ite, Bool.eq_iff_iff]; split <;> simp_all <;> omega)
def c_cellsEx (l : List Int) : CFD := ⟨167, [.one (ro 3 1 Tr.eI l)], [], (TV.sv (.one (.lit (.bool (decide (∀ c ∈ l, 0 ≤ c ∧ c ≤ 15)))))), [], [], []⟩
theorem fn_cellsEx (l : List Int) (hl : l.length ≤ 1048576) : Fn Tryz.prog (c_cellsEx l) := by
  refine fn_intro tt_ok Tryz.func167 rfl Tryz.call167 Tryz.ntmps167 Tryz.results167 rfl rfl rfl rfl ?_
  intro X ρ0 hb_ hgl_
  dsimp only [c_cellsEx]
  try refine nrm ?_
  repeat' (refine ar_id ?_; first | refine st1 ?_ | (first | ((first | refine ar_region tt_ok (inps := []) rfl ?_ ?_); rotate_left; (try refine nrm ?_); rotate_right) | refine ret3 ?_ | refine end3 ?_) | (refine ar_cond rfl trivial ?_ ?_ <;> intro hc_ <;> (try simp only [isNilI, inB, reduceCtorEq, cds] at hc_) <;> (try (first | contradiction | (exfalso; omega)))) | refine ar_until (And.intro ?_ (wk3 ?_)))
  all_goals (first | refine ar_id ?_ | (try (focus ((try refine nrmO ?_); (repeat' (first | exact True.intro | refine And.intro ?_ ?_)); all_goals (try (intro (hg_ : _ = true); (try simp only [isNilI, inB, reduceCtorEq, cds] at hg_); (repeat' (first | exact True.intro | refine And.intro ?_ ?_)))); all_goals (first | exact ob1 | skip)))))
  refine ar_keep 245 (by dsimp only [keepS] <;> exact rfl) ?_
  refine ar_forM (l.length) (fun i => ∀ c ∈ l.take i, 0 ≤ c ∧ c ≤ 15) (fun i => [(7, (TV.sv (.one (.lit (.int .i64 (i))))))]) (fun i => []) ?_ ?_ ?_
  rotate_left
  · first | trivial | simp
  (dsimp only [rnCap, capSVs, Int.toNat_natCast, ro, Nat.reduceAdd, Nat.reduceMul, Nat.zero_add, List.map, putT, app, wrapG, gOb, argT, keys, slotOf, dropped, gAnd, wB, rnT, rnS, rnC, rnCs, rnSs, rnM, rnB, rnN, rn, lk, St.over, ded, delL, keepT, menT, menSs, menS, menCs, menC, hasN, resT, SV.cells]; refine wk3 ?_; (focus ((try refine nrmO ?_); (repeat' (first | exact True.intro | refine And.intro ?_ ?_)); all_goals (try (intro (hg_ : _ = true); (try simp only [isNilI, inB, reduceCtorEq, cds] at hg_); (repeat' (first | exact True.intro | refine And.intro ?_ ?_)))); all_goals (first | exact ob1 | exact rfl | skip))))
  rotate_right
  intro i hi_ hiI_
  dsimp only [rnCap, capSVs, Int.toNat_natCast, ro, Nat.reduceAdd, Nat.reduceMul, Nat.zero_add, List.map, putT, app, wrapG, gOb, argT, keys, slotOf, dropped, gAnd, wB, rnT, rnS, rnC, rnCs, rnSs, rnM, rnB, rnN, rn, lk, St.over, ded, delL, keepT, menT, menSs, menS, menCs, menC, hasN, resT, SV.cells]
  repeat' (refine ar_id ?_; first | refine st1 ?_ | (first | ((first | refine ar_region (id := 3) tt_ok (inps := [.elem (Tr.eI (l.getD i 0))]) rfl ?_ ?_ | refine ar_region (id := 4) tt_ok (inps := [.call (c_cellEx (l.getD i 0))]) rfl ?_ ?_ | refine ar_region tt_ok (inps := []) rfl ?_ ?_); rotate_left; (try dsimp only [c_cellEx]); (try refine nrm ?_); rotate_right) | refine ret3 ?_ | refine end3 ?_) | (refine ar_cond rfl trivial ?_ ?_ <;> intro hc_ <;> (try simp only [isNilI, inB, reduceCtorEq, cds] at hc_) <;> (try (first | contradiction | (exfalso; omega)))) | refine ar_until (And.intro ?_ (wk3 ?_)))
  all_goals (first | refine ar_id ?_ | (try (focus ((try refine nrmO ?_); (repeat' (first | exact True.intro | refine And.intro ?_ ?_)); all_goals (try (intro (hg_ : _ = true); (try simp only [isNilI, inB, reduceCtorEq, cds] at hg_); (repeat' (first | exact True.intro | refine And.intro ?_ ?_)))); all_goals (first | exact ob1 | exact fn_cellEx _ | skip)))))
  · exact bf fun h => hc_ (h _ (getD_in (by omega)))
  · exact all_take (p := fun c => 0 ≤ c ∧ c ≤ 15) (d := 0) hiI_ (by omega) hc_
  · exact bt (all_full (p := fun c => 0 ≤ c ∧ c ≤ 15) hiI_ (by omega))
/-- some cells of a row copied into another -/
def cpRow (src row : List Int) (l : List Int) : List Int := l.foldl (fun r c => r.set c.toNat (src.getD c.toNat 0)) row
theorem cpRow_snoc (src row l : List Int) (c : Int) : cpRow src row (l ++ [c]) = (cpRow src row l).set c.toNat (src.getD c.toNat 0) := by unfold cpRow; rw [List.foldl_append]; rfl
theorem cpRow_len (src : List Int) : ∀ (l row : List Int), (cpRow src row l).length = row.length
  | [], _ => rfl
  | c :: l, row => (cpRow_len src l _).trans List.length_set
theorem set_same (row : List Int) (n : Nat) : row.set n (row.getD n 0) = row := by
  refine List.ext_getElem? fun j => ?_
  rw [List.getElem?_set]
  split
  · rename_i h
    subst h
    split
    · rename_i h; exact (getD_at h).symm
    · rename_i h; rw [List.getElem?_eq_none (by omega)]
  · rfl
theorem cpRow_self (row : List Int) : ∀ (l : List Int), cpRow row row l = row
  | [] => rfl
  | c :: l => by
    show cpRow row (row.set c.toNat (row.getD c.toNat 0)) l = row
    rw [set_same]; exact cpRow_self row l
theorem copied_snocI (a b : Int) (c : Int) : ∀ (l : List Int) (m : GMachine), copied m a b (l ++ [c]) = setCellOf (copied m a b l) b c (cellOf (copied m a b l) a c)
  | [], m => rfl
  | x :: l, m => copied_snocI a b c l _
theorem list_rev {α : Type} {p : List α → Prop} (h0 : p []) (h1 : ∀ l x, p l → p (l ++ [x])) (l : List α) : p l := by
  have : ∀ n (l : List α), l.length = n → p l := by
    intro n
    induction n with
    | zero => intro l hl; rw [List.length_eq_zero_iff.1 hl]; exact h0
    | succ n ih =>
      intro l hl
      have hne : l ≠ [] := fun e => by rw [e] at hl; cases hl
      rw [← List.dropLast_concat_getLast hne]
      exact h1 _ _ (ih _ (by rw [List.length_dropLast]; omega))
  exact this _ l rfl
theorem copied_row (m : GMachine) (f g : Nat) (hg : g < m.Frames.Cells.length) (l : List Int) : copied m f g l = ⟨⟨m.Frames.Cells.set g (cpRow (m.Frames.Cells.getD f []) (m.Frames.Cells.getD g []) l), m.Frames.Used⟩, m.Table⟩ := by
  induction l using list_rev with
  | h0 =>
    have e : m.Frames.Cells.set g (m.Frames.Cells.getD g []) = m.Frames.Cells := by
      refine List.ext_getElem? fun j => ?_
      rw [List.getElem?_set]
      split
      · rename_i h; subst h; first | exact (getD_at hg).symm | (rw [if_pos hg]; exact (getD_at hg).symm)
      · rfl
    show m = _
    unfold cpRow
    rw [List.foldl_nil, e]
  | h1 l c ih =>
    rw [copied_snocI, ih, cpRow_snoc]
    have e1 : (m.Frames.Cells.set g (cpRow (m.Frames.Cells.getD f []) (m.Frames.Cells.getD g []) l)).getD g [] = cpRow (m.Frames.Cells.getD f []) (m.Frames.Cells.getD g []) l := by
      rw [List.getD_eq_getElem?_getD, List.getElem?_set_self hg]; rfl
    have e2 : ((m.Frames.Cells.set g (cpRow (m.Frames.Cells.getD f []) (m.Frames.Cells.getD g []) l)).getD f []).getD c.toNat 0 = (m.Frames.Cells.getD f []).getD c.toNat 0 := by
      by_cases h : f = g
      · subst h; rw [e1, cpRow_self]
      · have e3 : (m.Frames.Cells.set g (cpRow (m.Frames.Cells.getD f []) (m.Frames.Cells.getD g []) l)).getD f [] = m.Frames.Cells.getD f [] := by
          rw [List.getD_eq_getElem?_getD (l := m.Frames.Cells.set g _), List.getElem?_set_ne (Ne.symm h), ← List.getD_eq_getElem?_getD]
        rw [e3]
    unfold setCellOf cellOf
    simp only [Int.toNat_natCast, e1, e2, List.set_set]
def c_PEntR (t : GTable) (page md fr : Int) : CFD := ⟨98, [.agg [ro 45 2 eEntry t.Entries], (SV.one (.lit (.int .i64 (page))))], [], .sv (.agg [(CV.lit (.int .i64 (md))), (CV.lit (.int .i64 (fr)))]), [], [], []⟩
theorem fn_PEntR (t : GTable) (page md fr : Int) (hl : t.Entries.length ≤ 1048576) (h1 : (pPageEntry t page).Mode = md) (h2 : (pPageEntry t page).Frame = fr) : Fn Tryz.prog (c_PEntR t page md fr) := by
  subst h1 h2; exact fn_PageEntryI t page hl
theorem cp_at {src row l : List Int} {c : Int} (h : 0 ≤ c ∧ c ≤ 15) (hr : row.length = 16) : c.toNat < (cpRow src row l).length := by rw [cpRow_len]; omega
def c_KCopyI (k : GKernel) (a b : Int) (cells : List Int) : CFD := ⟨148, [.agg [ro 33 1 eIntS k.Machine.Frames.Cells, ro 4 1 Tr.eB k.Machine.Frames.Used, ro 45 2 eEntry k.Machine.Table.Entries, (CV.lit (.int .i64 (k.Calls))), ro 3 1 Tr.eI k.Refuse], (SV.one (.lit (.int .i64 (a)))), (SV.one (.lit (.int .i64 (b)))), .one (ro 3 1 Tr.eI cells)], [], .tup [.agg [.hd 0, .hd 1, .hd 2, (CV.lit (.int .i64 (((pKCopy k a b cells).1).Calls))), .hd 3], (SV.one (.lit (.bool ((pKCopy k a b cells).2))))], [(0, some (.row 33 1 (((pKCopy k a b cells).1).Machine.Frames.Cells.map eIntS))), (1, some (.row 4 1 (((pKCopy k a b cells).1).Machine.Frames.Used.map Tr.eB))), (2, some (.row 45 2 (((pKCopy k a b cells).1).Machine.Table.Entries.map eEntry))), (3, some (.row 3 1 (((pKCopy k a b cells).1).Refuse.map Tr.eI)))], [0, 1, 2, 3], []⟩
set_option maxHeartbeats 4000000 in
theorem fn_KCopyI (k : GKernel) (a b : Int) (cells : List Int) (hs : szK k) (hl : cells.length ≤ 1048576) : Fn Tryz.prog (c_KCopyI k a b cells) := by
  have hse := hs.m.e
  by_cases hQ : canCall k ∧ (modeOf k a ≠ 0 ∧ modeOf k b ≠ 0) ∧ (∀ c ∈ cells, 0 ≤ c ∧ c ≤ 15)
  · obtain ⟨hC, ⟨h1, h2⟩, h3⟩ := hQ
    have hok : okM k.Machine := hC.1.1
    obtain ⟨f, hf, hf1, _, hf3, _⟩ := okM_entry hok h1
    obtain ⟨g, hg, hg1, _, hg3, _⟩ := okM_entry hok h2
    unfold modeOf at h1 h2
    have hV : pKCopy k a b cells = (⟨⟨⟨k.Machine.Frames.Cells.set g (cpRow (k.Machine.Frames.Cells.getD f []) (k.Machine.Frames.Cells.getD g []) cells), k.Machine.Frames.Used⟩, k.Machine.Table⟩, k.Calls, k.Refuse⟩, true) := by
      unfold pKCopy pCells modeOf
      rw [if_pos hC, if_pos ⟨⟨h1, h2⟩, h3⟩, hf, hg, copied_row _ _ _ hg1]
    refine fn_intro tt_ok Tryz.func148 rfl Tryz.call148 Tryz.ntmps148 Tryz.results148 rfl rfl rfl rfl ?_
    intro X ρ0 hb_ hgl_
    dsimp only [c_KCopyI]
    try refine nrm ?_
    rw [hV]
    repeat' (refine ar_id ?_; first | refine st1 ?_ | (first | ((first | refine ar_region (id := 1) tt_ok (inps := [.call (c_CopyKI k)]) rfl ?_ ?_ | refine ar_draw (id := 2) (inps := [.call (c_PEntR k.Machine.Table a (pPageEntry k.Machine.Table a).Mode f), .call (c_PEntR k.Machine.Table b (pPageEntry k.Machine.Table b).Mode g)]) tt_ok (by kernel_rfl) rfl rfl (by kernel_rfl) rfl rfl rfl rfl ?_ ?_ | refine ar_region (id := 3) tt_ok (inps := [.call (c_takes k), .call (c_isMapped (pPageEntry k.Machine.Table a).Mode f), .call (c_isMapped (pPageEntry k.Machine.Table b).Mode g), .call (c_cellsEx cells)]) rfl ?_ ?_ | refine ar_region tt_ok (inps := []) rfl ?_ ?_); rotate_left; (try dsimp only [c_CopyKI, c_PEntR, c_cellsEx, c_isMapped, c_takes]); (try refine nrm ?_); rotate_right) | refine ret3 ?_ | refine end3 ?_) | (refine ar_cond rfl trivial ?_ ?_ <;> intro hc_ <;> (try simp only [isNilI, inB, reduceCtorEq, cds] at hc_) <;> (try (first | contradiction | (exfalso; omega)))) | refine ar_until (And.intro ?_ (wk3 ?_)))
    all_goals (first | refine ar_id ?_ | (try (focus ((try refine nrmO ?_); (repeat' (first | exact True.intro | refine And.intro ?_ ?_)); all_goals (try (intro (hg_ : _ = true); (try simp only [isNilI, inB, reduceCtorEq, cds] at hg_); (repeat' (first | exact True.intro | refine And.intro ?_ ?_)))); all_goals (first | exact ob1 | exact fn_CopyKI _ hs | exact fn_takes _ hs | exact fn_PEntR _ _ _ _ hse rfl hf | exact fn_PEntR _ _ _ _ hse rfl hg | exact fn_isMapped _ _ | exact fn_cellsEx _ hl | skip)))))
    · exfalso; grind
    · exfalso; grind
    refine ar_keep 492581209267999 (by dsimp only [keepS] <;> exact rfl) ?_
    refine ar_forM (cells.length) (fun i => True) (fun i => [(48, (TV.sv (.one (.lit (.int .i64 (i))))))]) (fun i => [(17000, some (.row 33 1 ((k.Machine.Frames.Cells.map eIntS).set g (eIntS (cpRow (k.Machine.Frames.Cells.getD f []) (k.Machine.Frames.Cells.getD g []) (cells.take i))))))]) ?_ ?_ ?_
    rotate_left
    · first | trivial | simp
    (dsimp only [rnCap, capSVs, Int.toNat_natCast, ro, Nat.reduceAdd, Nat.reduceMul, Nat.zero_add, List.map, putT, app, wrapG, gOb, argT, keys, slotOf, dropped, gAnd, wB, rnT, rnS, rnC, rnCs, rnSs, rnM, rnB, rnN, rn, lk, St.over, ded, delL, keepT, menT, menSs, menS, menCs, menC, hasN, resT, SV.cells]; refine wk3 ?_; (focus ((try refine nrmO ?_); (repeat' (first | exact True.intro | refine And.intro ?_ ?_)); all_goals (try (intro (hg_ : _ = true); (try simp only [isNilI, inB, reduceCtorEq, cds] at hg_); (repeat' (first | exact True.intro | refine And.intro ?_ ?_)))); all_goals (first | exact ob1 | exact rfl | skip))))
    rotate_right
    intro i hi_ hiI_
    dsimp only [rnCap, capSVs, Int.toNat_natCast, ro, Nat.reduceAdd, Nat.reduceMul, Nat.zero_add, List.map, putT, app, wrapG, gOb, argT, keys, slotOf, dropped, gAnd, wB, rnT, rnS, rnC, rnCs, rnSs, rnM, rnB, rnN, rn, lk, St.over, ded, delL, keepT, menT, menSs, menS, menCs, menC, hasN, resT, SV.cells]
    repeat' (refine ar_id ?_; first | refine st1 ?_ | (first | ((first | refine ar_region (id := 7) tt_ok (inps := [.elem (Tr.eI (cells.getD i 0))]) rfl ?_ ?_ | refine ar_region tt_ok (inps := []) rfl ?_ ?_); rotate_left; (try refine nrm ?_); rotate_right) | refine ret3 ?_ | refine end3 ?_) | (refine ar_cond rfl trivial ?_ ?_ <;> intro hc_ <;> (try simp only [isNilI, inB, reduceCtorEq, cds] at hc_) <;> (try (first | contradiction | (exfalso; omega)))) | refine ar_until (And.intro ?_ (wk3 ?_)))
    all_goals (first | refine ar_id ?_ | (try (focus ((try refine nrmO ?_); (repeat' (first | exact True.intro | refine And.intro ?_ ?_)); all_goals (try (intro (hg_ : _ = true); (try simp only [isNilI, inB, reduceCtorEq, cds] at hg_); (repeat' (first | exact True.intro | refine And.intro ?_ ?_)))); all_goals (first | exact ob1 | skip)))))
    · have hc := h3 _ (getD_in (l := cells) (i := i) (d := 0) (by omega))
      have hcl := cp_at (src := k.Machine.Frames.Cells.getD f []) (l := cells.take i) hc hg3
      refine ar_open 17000 g 0 90001 90002 (d := eIntS (cpRow (k.Machine.Frames.Cells.getD f []) (k.Machine.Frames.Cells.getD g []) (cells.take i))) ((cpRow (k.Machine.Frames.Cells.getD f []) (k.Machine.Frames.Cells.getD g []) (cells.take i)).map eI) rfl ?_ rfl ?_ rfl rfl rfl ?_
      · first | exact map_at (by omega) | assumption | exact set_at (by (try simp only [List.length_map, List.length_set]); omega) | (rw [List.getElem?_set_ne (by omega)]; exact map_at (by omega))
      · exact ⟨rfl, rfl, by intro e he; simp only [List.mem_map] at he; obtain ⟨_, _, rfl⟩ := he; rfl⟩
      intro A_90001 n_90001 c_90001
      try refine nrm ?_
      refine ar_draw (id := 8) (inps := [ .nest (.lit (Value.slice A_90001 n_90001 c_90001) .nil) [(0, 90002)], .elem (eIntS (k.Machine.Frames.Cells.getD f [])), .elem (eI ((k.Machine.Frames.Cells.getD f []).getD (cells.getD i 0).toNat 0)), .elem (eI ((cpRow (k.Machine.Frames.Cells.getD f []) (k.Machine.Frames.Cells.getD g []) (cells.take i)).getD (cells.getD i 0).toNat 0))]) tt_ok (by kernel_rfl) rfl rfl (by kernel_rfl) rfl rfl rfl rfl ?_ ?_
      rotate_left
      (try refine nrm ?_)
      refine ar_close 17000 g 0 90001 90002 rfl rfl rfl (set_at ?_) rfl rfl rfl ?_
      · (simp only [List.length_map, List.length_set]; omega)
      try refine nrm ?_
      repeat' (refine ar_id ?_; first | refine st1 ?_ | (first | ((first | refine ar_region tt_ok (inps := []) rfl ?_ ?_); rotate_left; (try refine nrm ?_); rotate_right) | refine ret3 ?_ | refine end3 ?_) | (refine ar_cond rfl trivial ?_ ?_ <;> intro hc_ <;> (try simp only [isNilI, inB, reduceCtorEq, cds] at hc_) <;> (try (first | contradiction | (exfalso; omega)))) | refine ar_until (And.intro ?_ (wk3 ?_)))
      all_goals (first | refine ar_id ?_ | (try (focus ((try refine nrmO ?_); (repeat' (first | exact True.intro | refine And.intro ?_ ?_)); all_goals (try (intro (hg_ : _ = true); (try simp only [isNilI, inB, reduceCtorEq, cds] at hg_); (repeat' (first | exact True.intro | refine And.intro ?_ ?_)))); all_goals (first | exact ob1 | skip)))))
      all_goals (try (focus ((try refine nrmO ?_); (repeat' (first | exact True.intro | refine And.intro ?_ ?_)); all_goals (try (intro (hg_ : _ = true); (try simp only [isNilI, inB, reduceCtorEq, cds] at hg_); (repeat' (first | exact True.intro | refine And.intro ?_ ?_)))); all_goals (first | exact ob1 | skip))))
      have hset : ∀ (R : List Int) (n : Nat) (o v : Int), (R.map eI).set n (dPut (eI o) 0 (D.lit (.int .i64 v) .nil)) = (R.set n v).map eI := fun R n o v => List.map_set.symm
      rw [hset, List.set_set, List.set_set, take_getD cells 0 (by omega), cpRow_snoc]
      rfl
    · rw [List.take_of_length_le (by omega)]; exact List.map_set.symm
    · rw [List.take_zero]
      show k.Machine.Frames.Cells.map eIntS = (k.Machine.Frames.Cells.map eIntS).set g (eIntS (k.Machine.Frames.Cells.getD g []))
      rw [← List.map_set]
      congr 1
      refine List.ext_getElem? fun j => ?_
      rw [List.getElem?_set]
      split
      · rename_i h; subst h; first | exact getD_at hg1 | (rw [if_pos hg1]; exact getD_at hg1)
      · rfl
  · have hV : pKCopy k a b cells = (k, false) := by
      unfold pKCopy pCells
      by_cases hC : canCall k
      · rw [if_pos hC, if_neg (fun h => hQ ⟨hC, h⟩)]
      · rw [if_neg hC]
    unfold modeOf at hQ
    refine fn_intro tt_ok Tryz.func148 rfl Tryz.call148 Tryz.ntmps148 Tryz.results148 rfl rfl rfl rfl ?_
    intro X ρ0 hb_ hgl_
    dsimp only [c_KCopyI]
    try refine nrm ?_
    rw [hV]
    repeat' (refine ar_id ?_; first | refine st1 ?_ | (first | ((first | refine ar_region (id := 1) tt_ok (inps := [.call (c_CopyKI k)]) rfl ?_ ?_ | refine ar_draw (id := 2) (inps := [.call (c_PageEntryI k.Machine.Table a), .call (c_PageEntryI k.Machine.Table b)]) tt_ok (by kernel_rfl) rfl rfl (by kernel_rfl) rfl rfl rfl rfl ?_ ?_ | refine ar_region (id := 3) tt_ok (inps := [.call (c_takes k), .call (c_isMapped (pPageEntry k.Machine.Table a).Mode (pPageEntry k.Machine.Table a).Frame), .call (c_isMapped (pPageEntry k.Machine.Table b).Mode (pPageEntry k.Machine.Table b).Frame), .call (c_cellsEx cells)]) rfl ?_ ?_ | refine ar_region tt_ok (inps := []) rfl ?_ ?_); rotate_left; (try dsimp only [c_CopyKI, c_PageEntryI, c_cellsEx, c_isMapped, c_takes]); (try refine nrm ?_); rotate_right) | refine ret3 ?_ | refine end3 ?_) | (refine ar_cond rfl trivial ?_ ?_ <;> intro hc_ <;> (try simp only [isNilI, inB, reduceCtorEq, cds] at hc_) <;> (try (first | contradiction | (exfalso; omega)))) | refine ar_until (And.intro ?_ (wk3 ?_)))
    all_goals (first | refine ar_id ?_ | (try (focus ((try refine nrmO ?_); (repeat' (first | exact True.intro | refine And.intro ?_ ?_)); all_goals (try (intro (hg_ : _ = true); (try simp only [isNilI, inB, reduceCtorEq, cds] at hg_); (repeat' (first | exact True.intro | refine And.intro ?_ ?_)))); all_goals (first | exact ob1 | exact fn_CopyKI _ hs | exact fn_takes _ hs | exact fn_PageEntryI _ _ hse | exact fn_isMapped _ _ | exact fn_cellsEx _ hl | skip)))))
    all_goals (first | rfl | (exfalso; grind))
end Eng
end Go.Proofs.YtlkkiopjknbomaaGreatDoor
namespace Go.Proofs.YtlkkiopjknbomaaGreatDoor
open Go.RowKit
set_option linter.unusedVariables false
set_option linter.unusedSimpArgs false
set_option maxRecDepth 100000
namespace Eng
open Tr
theorem szM_from {m : GMachine} (h : szM7 m) : szM m := ⟨h.c, h.u, h.r, h.e⟩
theorem szK_from {k : GKernel} (h : szK8 k) : szK k := ⟨szM_from h.m, h.r⟩
def c_KProR (k : GKernel) (page mode : Int) (k' : GKernel) (b : Bool) : CFD := ⟨147, [.agg [ro 33 1 eIntS k.Machine.Frames.Cells, ro 4 1 Tr.eB k.Machine.Frames.Used, ro 45 2 eEntry k.Machine.Table.Entries, (CV.lit (.int .i64 (k.Calls))), ro 3 1 Tr.eI k.Refuse], (SV.one (.lit (.int .i64 (page)))), (SV.one (.lit (.int .i64 (mode))))], [], .tup [.agg [.hd 0, .hd 1, .hd 2, (CV.lit (.int .i64 ((k').Calls))), .hd 3], (SV.one (.lit (.bool (b))))], [(0, some (.row 33 1 ((k').Machine.Frames.Cells.map eIntS))), (1, some (.row 4 1 ((k').Machine.Frames.Used.map Tr.eB))), (2, some (.row 45 2 ((k').Machine.Table.Entries.map eEntry))), (3, some (.row 3 1 ((k').Refuse.map Tr.eI)))], [0, 1, 2, 3], []⟩
theorem fn_KProR (k : GKernel) (page mode : Int) (k' : GKernel) (b : Bool) (hs : szK8 k) (hc : canCall k) (h : pProtect k page mode = (k', b)) : Fn Tryz.prog (c_KProR k page mode k' b) := by
  have := fn_KProtectI k page mode (szK_from hs)
  unfold c_KProtectI pKProtect at this
  rw [if_pos hc, h] at this
  exact this
def c_KOnR (k : GKernel) (page other : Int) (k' : GKernel) (b : Bool) : CFD := ⟨149, [.agg [ro 33 1 eIntS k.Machine.Frames.Cells, ro 4 1 Tr.eB k.Machine.Frames.Used, ro 45 2 eEntry k.Machine.Table.Entries, (CV.lit (.int .i64 (k.Calls))), ro 3 1 Tr.eI k.Refuse], (SV.one (.lit (.int .i64 (page)))), (SV.one (.lit (.int .i64 (other))))], [], .tup [.agg [.hd 0, .hd 1, .hd 2, (CV.lit (.int .i64 ((k').Calls))), .hd 3], (SV.one (.lit (.bool (b))))], [(0, some (.row 33 1 ((k').Machine.Frames.Cells.map eIntS))), (1, some (.row 4 1 ((k').Machine.Frames.Used.map Tr.eB))), (2, some (.row 45 2 ((k').Machine.Table.Entries.map eEntry))), (3, some (.row 3 1 ((k').Refuse.map Tr.eI)))], [0, 1, 2, 3], []⟩
theorem fn_KOnR (k : GKernel) (page other : Int) (k' : GKernel) (b : Bool) (hs : szK8 k) (hc : canCall k) (h : pOn k page other = (k', b)) : Fn Tryz.prog (c_KOnR k page other k' b) := by
  have := fn_KMapOnI k page other (szK_from hs)
  unfold c_KMapOnI pKMapOn at this
  rw [if_pos hc, h] at this
  exact this
def c_KCopR (k : GKernel) (a b : Int) (cells : List Int) (k' : GKernel) (r : Bool) : CFD := ⟨148, [.agg [ro 33 1 eIntS k.Machine.Frames.Cells, ro 4 1 Tr.eB k.Machine.Frames.Used, ro 45 2 eEntry k.Machine.Table.Entries, (CV.lit (.int .i64 (k.Calls))), ro 3 1 Tr.eI k.Refuse], (SV.one (.lit (.int .i64 (a)))), (SV.one (.lit (.int .i64 (b)))), .one (ro 3 1 Tr.eI cells)], [], .tup [.agg [.hd 0, .hd 1, .hd 2, (CV.lit (.int .i64 ((k').Calls))), .hd 3], (SV.one (.lit (.bool (r))))], [(0, some (.row 33 1 ((k').Machine.Frames.Cells.map eIntS))), (1, some (.row 4 1 ((k').Machine.Frames.Used.map Tr.eB))), (2, some (.row 45 2 ((k').Machine.Table.Entries.map eEntry))), (3, some (.row 3 1 ((k').Refuse.map Tr.eI)))], [0, 1, 2, 3], []⟩
theorem fn_KCopR (k : GKernel) (a b : Int) (cells : List Int) (k' : GKernel) (r : Bool) (hs : szK8 k) (hl : cells.length ≤ 1048576) (hc : canCall k) (h : pCells k a b cells = (k', r)) : Fn Tryz.prog (c_KCopR k a b cells k' r) := by
  have := fn_KCopyI k a b cells (szK_from hs) hl
  unfold c_KCopyI pKCopy at this
  rw [if_pos hc, h] at this
  exact this
def c_StoR (s : Se) (m : GMachine) (addr v : Int) (m' : GMachine) (x : Int) : CFD := ⟨150, [.agg [ro 33 1 eIntS m.Frames.Cells, ro 4 1 Tr.eB m.Frames.Used, ro 45 2 eEntry m.Table.Entries], (SV.one (.lit (.int .i64 (addr)))), (SV.one (.lit (.int .i64 (v))))], [], .tup [.agg [.hd 0, .hd 1, .hd 2], (SV.one (.lit (.int .i64 (x))))], [(0, some (.row 33 1 ((m').Frames.Cells.map eIntS))), (1, some (.row 4 1 ((m').Frames.Used.map Tr.eB))), (2, some (.row 45 2 ((m').Table.Entries.map eEntry)))], [0, 1, 2], s.gl⟩
theorem fn_StoR (s : Se) (m : GMachine) (addr v : Int) (m' : GMachine) (x : Int) (hs : szM7 m) (ha : okI addr) (h : pStore m addr v = (m', x)) : Fn Tryz.prog (c_StoR s m addr v m' x) := by
  have := fn_StoreI s m addr v (szM_from hs) ha
  unfold c_StoreI at this
  rw [h] at this
  exact this
def c_can (k : GKernel) (j : GJob) : CFD := ⟨69, [.agg [ro 33 1 eIntS k.Machine.Frames.Cells, ro 4 1 Tr.eB k.Machine.Frames.Used, ro 45 2 eEntry k.Machine.Table.Entries, (CV.lit (.int .i64 (k.Calls))), ro 3 1 Tr.eI k.Refuse], .agg [(CV.lit (.int .i64 (j.Plan.Keep))), (CV.lit (.int .i64 (j.Plan.Move))), ro 3 1 Tr.eI j.Plan.Cells, (CV.lit (.int .i64 (j.Phase))), (CV.lit (.int .i64 (j.Next)))]], [], (TV.sv (.one (.lit (.bool (decide (mayJ k j)))))), [], [], []⟩
theorem fn_can (k : GKernel) (j : GJob) (hs : szK8 k) (hl : j.Plan.Cells.length ≤ 1048576) : Fn Tryz.prog (c_can k j) := by
  have hF := hs.m.e
  refine fn_intro tt_ok Tryz.func69 rfl Tryz.call69 Tryz.ntmps69 Tryz.results69 rfl rfl rfl rfl ?_
  intro X ρ0 hb_ hgl_
  dsimp only [c_can]
  try refine nrm ?_
  repeat' (refine ar_id ?_; first | refine st1 ?_ | (refine ar_drawS (id := 1) tt_ok (by kernel_rfl) [.call (c_PageEntryI k.Machine.Table j.Plan.Keep), .call (c_PageEntryI k.Machine.Table j.Plan.Move)] ?_; refine ed_hide ?_; intro K_ hK_; repeat' (first | ((first | refine ed_call3 ?_ | refine ed_sure3 ?_ | refine ed_cons3 ?_); refine ed_hide ?_; intro K_ hK_; (try dsimp only [c_JobOkI, c_PageEntryI, c_isMapped, c_takes]); (try refine nrmE ?_)) | (refine ed_nil ?_; (repeat subst hK_); dsimp only; refine Exists.intro _ (And.intro rfl (And.intro (by kernel_rfl) (And.intro ?_ ?_))); rotate_left; (try dsimp only [c_JobOkI, c_PageEntryI, c_isMapped, c_takes]); (try refine nrm ?_); rotate_right))) | (first | ((first | refine ar_region (id := 2) tt_ok (inps := [.call (c_takes k), .call (c_JobOkI j), .call (c_isMapped (pPageEntry k.Machine.Table j.Plan.Keep).Mode (pPageEntry k.Machine.Table j.Plan.Keep).Frame), .call (c_isMapped (pPageEntry k.Machine.Table j.Plan.Move).Mode (pPageEntry k.Machine.Table j.Plan.Move).Frame)]) rfl ?_ ?_ | refine ar_region tt_ok (inps := []) rfl ?_ ?_); rotate_left; (try dsimp only [c_JobOkI, c_PageEntryI, c_isMapped, c_takes]); (try refine nrm ?_); rotate_right) | refine ret3 ?_ | refine end3 ?_) | (refine ar_cond rfl trivial ?_ ?_ <;> intro hc_ <;> (try simp only [isNilI, inB, reduceCtorEq, cds] at hc_) <;> (try (first | contradiction | (exfalso; omega)))) | refine ar_until (And.intro ?_ (wk3 ?_)))
  all_goals (first | refine ar_id ?_ | (try (focus ((try refine nrmO ?_); (repeat' (first | exact True.intro | refine And.intro ?_ ?_)); all_goals (try (intro (hg_ : _ = true); (try simp only [isNilI, inB, reduceCtorEq, cds] at hg_); (repeat' (first | exact True.intro | refine And.intro ?_ ?_)))); all_goals (first | exact ob1 | exact fn_PageEntryI _ _ hF | exact fn_takes k (szK_from hs) | exact fn_JobOkI j hl | exact fn_isMapped _ _ | skip)))))
  refine congrArg Value.bool ?_
  rw [Bool.eq_iff_iff, decide_eq_true_iff]
  simp only [Bool.cond_false_right, Bool.and_eq_true, decide_eq_true_eq, bne_iff_ne, pJobOk]
  exact ⟨fun h => ⟨h.1.1.1.1, h.1.1.1.2, h.1.1.2, h.1.2, h.2⟩, fun h => ⟨⟨⟨⟨h.1, h.2.1⟩, h.2.2.1⟩, h.2.2.2.1⟩, h.2.2.2.2⟩⟩
def c_phases : CFD := ⟨70, [], [], .sv (.agg [.lit (.func (.func 115) #[] #[]), .lit (.func (.func 116) #[] #[]), .lit (.func (.func 117) #[] #[]), .lit (.func (.func 118) #[] #[]), .lit (.func (.func 119) #[] #[]), .lit (.func (.func 119) #[] #[])]), [], [], []⟩
theorem fn_phases : Fn Tryz.prog c_phases := by
  refine fn_intro tt_ok Tryz.func70 rfl Tryz.call70 Tryz.ntmps70 Tryz.results70 rfl rfl rfl rfl ?_
  intro X ρ0 hb_ hgl_
  dsimp only [c_phases]
  try refine nrm ?_
  repeat' (refine ar_id ?_; first | refine st1 ?_ | (first | ((first | refine ar_region tt_ok (inps := []) rfl ?_ ?_); rotate_left; (try refine nrm ?_); rotate_right) | refine ret3 ?_ | refine end3 ?_) | (refine ar_cond rfl trivial ?_ ?_ <;> intro hc_ <;> (try simp only [isNilI, inB, reduceCtorEq, cds] at hc_) <;> (try (first | contradiction | (exfalso; omega)))) | refine ar_until (And.intro ?_ (wk3 ?_)))
  all_goals (first | refine ar_id ?_ | (try (focus ((try refine nrmO ?_); (repeat' (first | exact True.intro | refine And.intro ?_ ?_)); all_goals (try (intro (hg_ : _ = true); (try simp only [isNilI, inB, reduceCtorEq, cds] at hg_); (repeat' (first | exact True.intro | refine And.intro ?_ ?_)))); all_goals (first | exact ob1 | skip)))))
  all_goals trace_state
def c_protM (k : GKernel) (j : GJob) (k' : GKernel) (j' : GJob) : CFD := ⟨115, [.agg [.hd 901, .hd 902, .hd 903, (CV.lit (.int .i64 (k.Calls))), .hd 904], .agg [(CV.lit (.int .i64 (j.Plan.Keep))), (CV.lit (.int .i64 (j.Plan.Move))), .hd 906, (CV.lit (.int .i64 (j.Phase))), (CV.lit (.int .i64 (j.Next)))]], [(901, some (.row 33 1 (k.Machine.Frames.Cells.map eIntS))), (902, some (.row 4 1 (k.Machine.Frames.Used.map Tr.eB))), (903, some (.row 45 2 (k.Machine.Table.Entries.map eEntry))), (904, some (.row 3 1 (k.Refuse.map Tr.eI))), (906, some (.row 3 1 (j.Plan.Cells.map Tr.eI)))], .tup [.agg [.hd 911, .hd 912, .hd 913, (CV.lit (.int .i64 ((k').Calls))), .hd 914], .agg [(CV.lit (.int .i64 ((j').Plan.Keep))), (CV.lit (.int .i64 ((j').Plan.Move))), .hd 906, (CV.lit (.int .i64 ((j').Phase))), (CV.lit (.int .i64 ((j').Next)))]], [(911, some (.row 33 1 ((k').Machine.Frames.Cells.map eIntS))), (912, some (.row 4 1 ((k').Machine.Frames.Used.map Tr.eB))), (913, some (.row 45 2 ((k').Machine.Table.Entries.map eEntry))), (914, some (.row 3 1 ((k').Refuse.map Tr.eI))), (906, some (.row 3 1 ((j').Plan.Cells.map Tr.eI)))], [911, 912, 913, 914], []⟩
theorem fn_protM (k : GKernel) (j : GJob) (k' : GKernel) (j' : GJob) (hs : szK8 k) (hc : canCall k) (h : ((pProtect k j.Plan.Move 1).1, (⟨j.Plan, if (pProtect k j.Plan.Move 1).2 = true then 1 else 5, j.Next⟩ : GJob)) = (k', j')) : Fn Tryz.prog (c_protM k j k' j') := by
  obtain ⟨r, hr⟩ : ∃ r, pProtect k j.Plan.Move 1 = r := ⟨_, rfl⟩
  obtain ⟨k1, b⟩ := r
  rw [hr] at h
  obtain ⟨rfl, rfl⟩ := Prod.mk.inj h
  cases b with
  | true =>
    refine fn_intro tt_ok Tryz.func115 rfl Tryz.call115 Tryz.ntmps115 Tryz.results115 rfl rfl rfl rfl ?_
    intro X ρ0 hb_ hgl_
    dsimp only [c_protM]
    try refine nrm ?_
    repeat' (refine ar_id ?_; first | refine st1 ?_ | (refine ar_drawS (id := 5) tt_ok (by kernel_rfl) [] ?_; refine ed_hide ?_; intro K_ hK_; repeat' (first | ((first | refine ed_call3 ?_ | refine ed_sure3 ?_ | refine ed_cons3 ?_); refine ed_hide ?_; intro K_ hK_; (try dsimp only [c_KProR]); (try refine nrmE ?_)) | (refine ed_nil ?_; (repeat subst hK_); dsimp only; refine Exists.intro _ (And.intro rfl (And.intro (by kernel_rfl) (And.intro ?_ ?_))); rotate_left; (try dsimp only [c_KProR]); (try refine nrm ?_); rotate_right))) | (first | ((first | refine ar_region (id := 1) tt_ok (inps := [.call (c_KProR k j.Plan.Move 1 k1 true)]) rfl ?_ ?_ | refine ar_region tt_ok (inps := []) rfl ?_ ?_); rotate_left; (try dsimp only [c_KProR]); (try refine nrm ?_); rotate_right) | refine ret3 ?_ | refine end3 ?_) | (refine ar_cond rfl trivial ?_ ?_ <;> intro hc_ <;> (try simp only [isNilI, inB, reduceCtorEq, cds] at hc_) <;> (try (first | contradiction | (exfalso; omega)))) | refine ar_until (And.intro ?_ (wk3 ?_)))
    all_goals (first | refine ar_id ?_ | (try (focus ((try refine nrmO ?_); (repeat' (first | exact True.intro | refine And.intro ?_ ?_)); all_goals (try (intro (hg_ : _ = true); (try simp only [isNilI, inB, reduceCtorEq, cds] at hg_); (repeat' (first | exact True.intro | refine And.intro ?_ ?_)))); all_goals (first | exact ob1 | exact fn_KProR _ _ _ _ _ hs hc hr | skip)))))
    all_goals first | rfl | trace_state
  | false =>
    refine fn_intro tt_ok Tryz.func115 rfl Tryz.call115 Tryz.ntmps115 Tryz.results115 rfl rfl rfl rfl ?_
    intro X ρ0 hb_ hgl_
    dsimp only [c_protM]
    try refine nrm ?_
    repeat' (refine ar_id ?_; first | refine st1 ?_ | (refine ar_drawS (id := 5) tt_ok (by kernel_rfl) [] ?_; refine ed_hide ?_; intro K_ hK_; repeat' (first | ((first | refine ed_call3 ?_ | refine ed_sure3 ?_ | refine ed_cons3 ?_); refine ed_hide ?_; intro K_ hK_; (try dsimp only [c_KProR]); (try refine nrmE ?_)) | (refine ed_nil ?_; (repeat subst hK_); dsimp only; refine Exists.intro _ (And.intro rfl (And.intro (by kernel_rfl) (And.intro ?_ ?_))); rotate_left; (try dsimp only [c_KProR]); (try refine nrm ?_); rotate_right))) | (first | ((first | refine ar_region (id := 1) tt_ok (inps := [.call (c_KProR k j.Plan.Move 1 k1 false)]) rfl ?_ ?_ | refine ar_region tt_ok (inps := []) rfl ?_ ?_); rotate_left; (try dsimp only [c_KProR]); (try refine nrm ?_); rotate_right) | refine ret3 ?_ | refine end3 ?_) | (refine ar_cond rfl trivial ?_ ?_ <;> intro hc_ <;> (try simp only [isNilI, inB, reduceCtorEq, cds] at hc_) <;> (try (first | contradiction | (exfalso; omega)))) | refine ar_until (And.intro ?_ (wk3 ?_)))
    all_goals (first | refine ar_id ?_ | (try (focus ((try refine nrmO ?_); (repeat' (first | exact True.intro | refine And.intro ?_ ?_)); all_goals (try (intro (hg_ : _ = true); (try simp only [isNilI, inB, reduceCtorEq, cds] at hg_); (repeat' (first | exact True.intro | refine And.intro ?_ ?_)))); all_goals (first | exact ob1 | exact fn_KProR _ _ _ _ _ hs hc hr | skip)))))
    all_goals first | rfl | trace_state
def c_copyE (k : GKernel) (j : GJob) (j' : GJob) : CFD := ⟨116, [.agg [.hd 901, .hd 902, .hd 903, (CV.lit (.int .i64 (k.Calls))), .hd 904], .agg [(CV.lit (.int .i64 (j.Plan.Keep))), (CV.lit (.int .i64 (j.Plan.Move))), .hd 906, (CV.lit (.int .i64 (j.Phase))), (CV.lit (.int .i64 (j.Next)))]], [(901, some (.row 33 1 (k.Machine.Frames.Cells.map eIntS))), (902, some (.row 4 1 (k.Machine.Frames.Used.map Tr.eB))), (903, some (.row 45 2 (k.Machine.Table.Entries.map eEntry))), (904, some (.row 3 1 (k.Refuse.map Tr.eI))), (906, some (.row 3 1 (j.Plan.Cells.map Tr.eI)))], .tup [.agg [.hd 901, .hd 902, .hd 903, (CV.lit (.int .i64 (k.Calls))), .hd 904], .agg [(CV.lit (.int .i64 ((j').Plan.Keep))), (CV.lit (.int .i64 ((j').Plan.Move))), .hd 906, (CV.lit (.int .i64 ((j').Phase))), (CV.lit (.int .i64 ((j').Next)))]], [(901, some (.row 33 1 (k.Machine.Frames.Cells.map eIntS))), (902, some (.row 4 1 (k.Machine.Frames.Used.map Tr.eB))), (903, some (.row 45 2 (k.Machine.Table.Entries.map eEntry))), (904, some (.row 3 1 (k.Refuse.map Tr.eI))), (906, some (.row 3 1 ((j').Plan.Cells.map Tr.eI)))], [], []⟩
theorem fn_copyE (k : GKernel) (j : GJob) (hn : j.Next = (j.Plan.Cells.length : Int)) : Fn Tryz.prog (c_copyE k j ⟨j.Plan, 2, j.Next⟩) := by
  refine fn_intro tt_ok Tryz.func116 rfl Tryz.call116 Tryz.ntmps116 Tryz.results116 rfl rfl rfl rfl ?_
  intro X ρ0 hb_ hgl_
  dsimp only [c_copyE]
  try refine nrm ?_
  repeat' (refine ar_id ?_; first | refine st1 ?_ | (refine ar_drawS (id := 3) tt_ok (by kernel_rfl) [] ?_; refine ed_hide ?_; intro K_ hK_; repeat' (first | ((first | refine ed_call3 ?_ | refine ed_sure3 ?_ | refine ed_cons3 ?_); refine ed_hide ?_; intro K_ hK_; (try refine nrmE ?_)) | (refine ed_nil ?_; (repeat subst hK_); dsimp only; refine Exists.intro _ (And.intro rfl (And.intro (by kernel_rfl) (And.intro ?_ ?_))); rotate_left; (try refine nrm ?_); rotate_right))) | (first | ((first | refine ar_region tt_ok (inps := []) rfl ?_ ?_); rotate_left; (try refine nrm ?_); rotate_right) | refine ret3 ?_ | refine end3 ?_) | (refine ar_cond rfl trivial ?_ ?_ <;> intro hc_ <;> (try simp only [isNilI, inB, reduceCtorEq, cds] at hc_) <;> (try (first | contradiction | (exfalso; omega) | (exfalso; (rw [List.length_map] at hc_; omega))))) | refine ar_until (And.intro ?_ (wk3 ?_)))
  all_goals (first | refine ar_id ?_ | (try (focus ((try refine nrmO ?_); (repeat' (first | exact True.intro | refine And.intro ?_ ?_)); all_goals (try (intro (hg_ : _ = true); (try simp only [isNilI, inB, reduceCtorEq, cds] at hg_); (repeat' (first | exact True.intro | refine And.intro ?_ ?_)))); all_goals (first | exact ob1 | exact rfl | skip)))))
  all_goals first | rfl | trace_state
def c_copyN (k : GKernel) (j : GJob) (k' : GKernel) (j' : GJob) : CFD := ⟨116, [.agg [.hd 901, .hd 902, .hd 903, (CV.lit (.int .i64 (k.Calls))), .hd 904], .agg [(CV.lit (.int .i64 (j.Plan.Keep))), (CV.lit (.int .i64 (j.Plan.Move))), .hd 906, (CV.lit (.int .i64 (j.Phase))), (CV.lit (.int .i64 (j.Next)))]], [(901, some (.row 33 1 (k.Machine.Frames.Cells.map eIntS))), (902, some (.row 4 1 (k.Machine.Frames.Used.map Tr.eB))), (903, some (.row 45 2 (k.Machine.Table.Entries.map eEntry))), (904, some (.row 3 1 (k.Refuse.map Tr.eI))), (906, some (.row 3 1 (j.Plan.Cells.map Tr.eI)))], .tup [.agg [.hd 911, .hd 912, .hd 913, (CV.lit (.int .i64 ((k').Calls))), .hd 914], .agg [(CV.lit (.int .i64 ((j').Plan.Keep))), (CV.lit (.int .i64 ((j').Plan.Move))), .hd 906, (CV.lit (.int .i64 ((j').Phase))), (CV.lit (.int .i64 ((j').Next)))]], [(911, some (.row 33 1 ((k').Machine.Frames.Cells.map eIntS))), (912, some (.row 4 1 ((k').Machine.Frames.Used.map Tr.eB))), (913, some (.row 45 2 ((k').Machine.Table.Entries.map eEntry))), (914, some (.row 3 1 ((k').Refuse.map Tr.eI))), (906, some (.row 3 1 ((j').Plan.Cells.map Tr.eI)))], [911, 912, 913, 914], []⟩
theorem take_oneI {l : List Int} {n : Int} (h0 : 0 ≤ n) (h : n < (l.length : Int)) : ((l.map Tr.eI).take (n + 1).toNat).drop n.toNat = [l.getD n.toNat 0].map Tr.eI := by
  obtain ⟨i, rfl⟩ := Int.eq_ofNat_of_zero_le h0
  rw [show ((i : Int) + 1).toNat = i + 1 by omega, Int.toNat_natCast, ← List.map_take, take_getD l 0 (by omega), List.map_append, List.drop_append_of_le_length (by rw [List.length_map, List.length_take]; omega), List.drop_of_length_le (by rw [List.length_map, List.length_take]; omega)]
  rfl
theorem fn_copyN (k : GKernel) (j : GJob) (k1 : GKernel) (b : Bool) (hs : szK8 k) (hc : canCall k) (h0 : 0 ≤ j.Next) (hn : j.Next < (j.Plan.Cells.length : Int)) (hl : j.Plan.Cells.length ≤ 1048576) (hr : pCells k j.Plan.Move j.Plan.Keep [cellJ j j.Next] = (k1, b)) : Fn Tryz.prog (c_copyN k j k1 ⟨j.Plan, j.Phase, j.Next + 1⟩) := by
  have ht := take_oneI h0 hn
  rw [show (j.Next + 1).toNat = j.Next.toNat + ((j.Next + 1).toNat - j.Next.toNat) by omega] at ht
  have ht2 := congrArg D.cat ht
  have hF := fn_KCopR k j.Plan.Move j.Plan.Keep [cellJ j j.Next] k1 b hs (by show 1 ≤ 1048576; decide) hc hr
  refine fn_intro tt_ok Tryz.func116 rfl Tryz.call116 Tryz.ntmps116 Tryz.results116 rfl rfl rfl rfl ?_
  intro X ρ0 hb_ hgl_
  dsimp only [c_copyN]
  try refine nrm ?_
  repeat' (refine ar_id ?_; first | refine st1 ?_ | (refine ar_drawS (id := 4) tt_ok (by kernel_rfl) [.keep, .call (c_KCopR k j.Plan.Move j.Plan.Keep [cellJ j j.Next] k1 b)] ?_; refine ed_hide ?_; intro K_ hK_; repeat' (first | ((first | refine ed_call3 ?_ | refine ed_sure3 ?_ | refine ed_cons3 ?_); refine ed_hide ?_; intro K_ hK_; (try dsimp only [c_KCopR]); (try refine nrmE ?_)) | (refine ed_nil ?_; (repeat subst hK_); dsimp only; refine Exists.intro _ (And.intro rfl (And.intro (by kernel_rfl) (And.intro ?_ ?_))); rotate_left; (try dsimp only [c_KCopR]); (try refine nrm ?_); rotate_right))) | (refine ar_drawS (id := 6) tt_ok (by kernel_rfl) [] ?_; refine ed_hide ?_; intro K_ hK_; repeat' (first | ((first | refine ed_call3 ?_ | refine ed_sure3 ?_ | refine ed_cons3 ?_); refine ed_hide ?_; intro K_ hK_; (try dsimp only [c_KCopR]); (try refine nrmE ?_)) | (refine ed_nil ?_; (repeat subst hK_); dsimp only; refine Exists.intro _ (And.intro rfl (And.intro (by kernel_rfl) (And.intro ?_ ?_))); rotate_left; (try dsimp only [c_KCopR]); (try refine nrm ?_); rotate_right))) | (first | ((first | refine ar_region tt_ok (inps := []) rfl ?_ ?_); rotate_left; (try dsimp only [c_KCopR]); (try refine nrm ?_); rotate_right) | refine ret3 ?_ | refine end3 ?_) | (refine ar_cond rfl trivial ?_ ?_ <;> intro hc_ <;> (try simp only [isNilI, inB, reduceCtorEq, cds] at hc_) <;> (try (first | contradiction | (exfalso; omega) | (exfalso; (rw [List.length_map] at hc_; omega))))) | refine ar_until (And.intro ?_ (wk3 ?_)))
  all_goals (first | refine ar_id ?_ | (try (focus ((try refine nrmO ?_); (repeat' (first | exact True.intro | refine And.intro ?_ ?_)); all_goals (try (intro (hg_ : _ = true); (try simp only [isNilI, inB, reduceCtorEq, cds] at hg_); (repeat' (first | exact True.intro | refine And.intro ?_ ?_)))); all_goals (first | exact ob1 | exact hF | exact ht2 | skip)))))
  all_goals first | rfl | trace_state
def c_remap (k : GKernel) (j : GJob) (k' : GKernel) (j' : GJob) : CFD := ⟨117, [.agg [.hd 901, .hd 902, .hd 903, (CV.lit (.int .i64 (k.Calls))), .hd 904], .agg [(CV.lit (.int .i64 (j.Plan.Keep))), (CV.lit (.int .i64 (j.Plan.Move))), .hd 906, (CV.lit (.int .i64 (j.Phase))), (CV.lit (.int .i64 (j.Next)))]], [(901, some (.row 33 1 (k.Machine.Frames.Cells.map eIntS))), (902, some (.row 4 1 (k.Machine.Frames.Used.map Tr.eB))), (903, some (.row 45 2 (k.Machine.Table.Entries.map eEntry))), (904, some (.row 3 1 (k.Refuse.map Tr.eI))), (906, some (.row 3 1 (j.Plan.Cells.map Tr.eI)))], .tup [.agg [.hd 911, .hd 912, .hd 913, (CV.lit (.int .i64 ((k').Calls))), .hd 914], .agg [(CV.lit (.int .i64 ((j').Plan.Keep))), (CV.lit (.int .i64 ((j').Plan.Move))), .hd 906, (CV.lit (.int .i64 ((j').Phase))), (CV.lit (.int .i64 ((j').Next)))]], [(911, some (.row 33 1 ((k').Machine.Frames.Cells.map eIntS))), (912, some (.row 4 1 ((k').Machine.Frames.Used.map Tr.eB))), (913, some (.row 45 2 ((k').Machine.Table.Entries.map eEntry))), (914, some (.row 3 1 ((k').Refuse.map Tr.eI))), (906, some (.row 3 1 ((j').Plan.Cells.map Tr.eI)))], [911, 912, 913, 914], []⟩
theorem fn_remap (k : GKernel) (j : GJob) (k' : GKernel) (j' : GJob) (hs : szK8 k) (hc : canCall k) (h : ((pOn k j.Plan.Move j.Plan.Keep).1, (⟨j.Plan, if (pOn k j.Plan.Move j.Plan.Keep).2 = true then 4 else 3, j.Next⟩ : GJob)) = (k', j')) : Fn Tryz.prog (c_remap k j k' j') := by
  obtain ⟨r, hr⟩ : ∃ r, pOn k j.Plan.Move j.Plan.Keep = r := ⟨_, rfl⟩
  obtain ⟨k1, b⟩ := r
  rw [hr] at h
  obtain ⟨rfl, rfl⟩ := Prod.mk.inj h
  cases b with
  | true =>
    refine fn_intro tt_ok Tryz.func117 rfl Tryz.call117 Tryz.ntmps117 Tryz.results117 rfl rfl rfl rfl ?_
    intro X ρ0 hb_ hgl_
    dsimp only [c_remap]
    try refine nrm ?_
    repeat' (refine ar_id ?_; first | refine st1 ?_ | (refine ar_drawS (id := 5) tt_ok (by kernel_rfl) [] ?_; refine ed_hide ?_; intro K_ hK_; repeat' (first | ((first | refine ed_call3 ?_ | refine ed_sure3 ?_ | refine ed_cons3 ?_); refine ed_hide ?_; intro K_ hK_; (try dsimp only [c_KOnR]); (try refine nrmE ?_)) | (refine ed_nil ?_; (repeat subst hK_); dsimp only; refine Exists.intro _ (And.intro rfl (And.intro (by kernel_rfl) (And.intro ?_ ?_))); rotate_left; (try dsimp only [c_KOnR]); (try refine nrm ?_); rotate_right))) | (first | ((first | refine ar_region (id := 1) tt_ok (inps := [.call (c_KOnR k j.Plan.Move j.Plan.Keep k1 true)]) rfl ?_ ?_ | refine ar_region tt_ok (inps := []) rfl ?_ ?_); rotate_left; (try dsimp only [c_KOnR]); (try refine nrm ?_); rotate_right) | refine ret3 ?_ | refine end3 ?_) | (refine ar_cond rfl trivial ?_ ?_ <;> intro hc_ <;> (try simp only [isNilI, inB, reduceCtorEq, cds] at hc_) <;> (try (first | contradiction | (exfalso; omega)))) | refine ar_until (And.intro ?_ (wk3 ?_)))
    all_goals (first | refine ar_id ?_ | (try (focus ((try refine nrmO ?_); (repeat' (first | exact True.intro | refine And.intro ?_ ?_)); all_goals (try (intro (hg_ : _ = true); (try simp only [isNilI, inB, reduceCtorEq, cds] at hg_); (repeat' (first | exact True.intro | refine And.intro ?_ ?_)))); all_goals (first | exact ob1 | exact fn_KOnR _ _ _ _ _ hs hc hr | skip)))))
    all_goals first | rfl | trace_state
  | false =>
    refine fn_intro tt_ok Tryz.func117 rfl Tryz.call117 Tryz.ntmps117 Tryz.results117 rfl rfl rfl rfl ?_
    intro X ρ0 hb_ hgl_
    dsimp only [c_remap]
    try refine nrm ?_
    repeat' (refine ar_id ?_; first | refine st1 ?_ | (refine ar_drawS (id := 5) tt_ok (by kernel_rfl) [] ?_; refine ed_hide ?_; intro K_ hK_; repeat' (first | ((first | refine ed_call3 ?_ | refine ed_sure3 ?_ | refine ed_cons3 ?_); refine ed_hide ?_; intro K_ hK_; (try dsimp only [c_KOnR]); (try refine nrmE ?_)) | (refine ed_nil ?_; (repeat subst hK_); dsimp only; refine Exists.intro _ (And.intro rfl (And.intro (by kernel_rfl) (And.intro ?_ ?_))); rotate_left; (try dsimp only [c_KOnR]); (try refine nrm ?_); rotate_right))) | (first | ((first | refine ar_region (id := 1) tt_ok (inps := [.call (c_KOnR k j.Plan.Move j.Plan.Keep k1 false)]) rfl ?_ ?_ | refine ar_region tt_ok (inps := []) rfl ?_ ?_); rotate_left; (try dsimp only [c_KOnR]); (try refine nrm ?_); rotate_right) | refine ret3 ?_ | refine end3 ?_) | (refine ar_cond rfl trivial ?_ ?_ <;> intro hc_ <;> (try simp only [isNilI, inB, reduceCtorEq, cds] at hc_) <;> (try (first | contradiction | (exfalso; omega)))) | refine ar_until (And.intro ?_ (wk3 ?_)))
    all_goals (first | refine ar_id ?_ | (try (focus ((try refine nrmO ?_); (repeat' (first | exact True.intro | refine And.intro ?_ ?_)); all_goals (try (intro (hg_ : _ = true); (try simp only [isNilI, inB, reduceCtorEq, cds] at hg_); (repeat' (first | exact True.intro | refine And.intro ?_ ?_)))); all_goals (first | exact ob1 | exact fn_KOnR _ _ _ _ _ hs hc hr | skip)))))
    all_goals first | rfl | trace_state
def c_backN (k : GKernel) (j : GJob) (k' : GKernel) (j' : GJob) : CFD := ⟨118, [.agg [.hd 901, .hd 902, .hd 903, (CV.lit (.int .i64 (k.Calls))), .hd 904], .agg [(CV.lit (.int .i64 (j.Plan.Keep))), (CV.lit (.int .i64 (j.Plan.Move))), .hd 906, (CV.lit (.int .i64 (j.Phase))), (CV.lit (.int .i64 (j.Next)))]], [(901, some (.row 33 1 (k.Machine.Frames.Cells.map eIntS))), (902, some (.row 4 1 (k.Machine.Frames.Used.map Tr.eB))), (903, some (.row 45 2 (k.Machine.Table.Entries.map eEntry))), (904, some (.row 3 1 (k.Refuse.map Tr.eI))), (906, some (.row 3 1 (j.Plan.Cells.map Tr.eI)))], .tup [.agg [.hd 911, .hd 912, .hd 913, (CV.lit (.int .i64 ((k').Calls))), .hd 914], .agg [(CV.lit (.int .i64 ((j').Plan.Keep))), (CV.lit (.int .i64 ((j').Plan.Move))), .hd 906, (CV.lit (.int .i64 ((j').Phase))), (CV.lit (.int .i64 ((j').Next)))]], [(911, some (.row 33 1 ((k').Machine.Frames.Cells.map eIntS))), (912, some (.row 4 1 ((k').Machine.Frames.Used.map Tr.eB))), (913, some (.row 45 2 ((k').Machine.Table.Entries.map eEntry))), (914, some (.row 3 1 ((k').Refuse.map Tr.eI))), (906, some (.row 3 1 ((j').Plan.Cells.map Tr.eI)))], [911, 912, 913, 914], []⟩
theorem fn_backN (k : GKernel) (j : GJob) (k' : GKernel) (j' : GJob) (hs : szK8 k) (hc : canCall k) (hn : ¬ 0 < j.Next) (h : ((pProtect k j.Plan.Move 2).1, (⟨j.Plan, if (pProtect k j.Plan.Move 2).2 = true then 5 else j.Phase, j.Next⟩ : GJob)) = (k', j')) : Fn Tryz.prog (c_backN k j k' j') := by
  obtain ⟨r, hr⟩ : ∃ r, pProtect k j.Plan.Move 2 = r := ⟨_, rfl⟩
  obtain ⟨k1, b⟩ := r
  rw [hr] at h
  obtain ⟨rfl, rfl⟩ := Prod.mk.inj h
  cases b with
  | true =>
    refine fn_intro tt_ok Tryz.func118 rfl Tryz.call118 Tryz.ntmps118 Tryz.results118 rfl rfl rfl rfl ?_
    intro X ρ0 hb_ hgl_
    dsimp only [c_backN]
    try refine nrm ?_
    repeat' (refine ar_id ?_; first | refine st1 ?_ | (refine ar_drawS (id := 8) tt_ok (by kernel_rfl) [] ?_; refine ed_hide ?_; intro K_ hK_; repeat' (first | ((first | refine ed_call3 ?_ | refine ed_sure3 ?_ | refine ed_cons3 ?_); refine ed_hide ?_; intro K_ hK_; (try dsimp only [c_KProR]); (try refine nrmE ?_)) | (refine ed_nil ?_; (repeat subst hK_); dsimp only; refine Exists.intro _ (And.intro rfl (And.intro (by kernel_rfl) (And.intro ?_ ?_))); rotate_left; (try dsimp only [c_KProR]); (try refine nrm ?_); rotate_right))) | (first | ((first | refine ar_region (id := 5) tt_ok (inps := [.call (c_KProR k j.Plan.Move 2 k1 true)]) rfl ?_ ?_ | refine ar_region tt_ok (inps := []) rfl ?_ ?_); rotate_left; (try dsimp only [c_KProR]); (try refine nrm ?_); rotate_right) | refine ret3 ?_ | refine end3 ?_) | (refine ar_cond rfl trivial ?_ ?_ <;> intro hc_ <;> (try simp only [isNilI, inB, reduceCtorEq, cds] at hc_) <;> (try (first | contradiction | (exfalso; omega)))) | refine ar_until (And.intro ?_ (wk3 ?_)))
    all_goals (first | refine ar_id ?_ | (try (focus ((try refine nrmO ?_); (repeat' (first | exact True.intro | refine And.intro ?_ ?_)); all_goals (try (intro (hg_ : _ = true); (try simp only [isNilI, inB, reduceCtorEq, cds] at hg_); (repeat' (first | exact True.intro | refine And.intro ?_ ?_)))); all_goals (first | exact ob1 | exact fn_KProR _ _ _ _ _ hs hc hr | skip)))))
    all_goals first | rfl | trace_state
  | false =>
    refine fn_intro tt_ok Tryz.func118 rfl Tryz.call118 Tryz.ntmps118 Tryz.results118 rfl rfl rfl rfl ?_
    intro X ρ0 hb_ hgl_
    dsimp only [c_backN]
    try refine nrm ?_
    repeat' (refine ar_id ?_; first | refine st1 ?_ | (refine ar_drawS (id := 8) tt_ok (by kernel_rfl) [] ?_; refine ed_hide ?_; intro K_ hK_; repeat' (first | ((first | refine ed_call3 ?_ | refine ed_sure3 ?_ | refine ed_cons3 ?_); refine ed_hide ?_; intro K_ hK_; (try dsimp only [c_KProR]); (try refine nrmE ?_)) | (refine ed_nil ?_; (repeat subst hK_); dsimp only; refine Exists.intro _ (And.intro rfl (And.intro (by kernel_rfl) (And.intro ?_ ?_))); rotate_left; (try dsimp only [c_KProR]); (try refine nrm ?_); rotate_right))) | (first | ((first | refine ar_region (id := 5) tt_ok (inps := [.call (c_KProR k j.Plan.Move 2 k1 false)]) rfl ?_ ?_ | refine ar_region tt_ok (inps := []) rfl ?_ ?_); rotate_left; (try dsimp only [c_KProR]); (try refine nrm ?_); rotate_right) | refine ret3 ?_ | refine end3 ?_) | (refine ar_cond rfl trivial ?_ ?_ <;> intro hc_ <;> (try simp only [isNilI, inB, reduceCtorEq, cds] at hc_) <;> (try (first | contradiction | (exfalso; omega)))) | refine ar_until (And.intro ?_ (wk3 ?_)))
    all_goals (first | refine ar_id ?_ | (try (focus ((try refine nrmO ?_); (repeat' (first | exact True.intro | refine And.intro ?_ ?_)); all_goals (try (intro (hg_ : _ = true); (try simp only [isNilI, inB, reduceCtorEq, cds] at hg_); (repeat' (first | exact True.intro | refine And.intro ?_ ?_)))); all_goals (first | exact ob1 | exact fn_KProR _ _ _ _ _ hs hc hr | skip)))))
    all_goals first | rfl | trace_state
def c_backS (s : Se) (k : GKernel) (j : GJob) (k' : GKernel) (j' : GJob) : CFD := ⟨118, [.agg [.hd 901, .hd 902, .hd 903, (CV.lit (.int .i64 (k.Calls))), .hd 904], .agg [(CV.lit (.int .i64 (j.Plan.Keep))), (CV.lit (.int .i64 (j.Plan.Move))), .hd 906, (CV.lit (.int .i64 (j.Phase))), (CV.lit (.int .i64 (j.Next)))]], [(901, some (.row 33 1 (k.Machine.Frames.Cells.map eIntS))), (902, some (.row 4 1 (k.Machine.Frames.Used.map Tr.eB))), (903, some (.row 45 2 (k.Machine.Table.Entries.map eEntry))), (904, some (.row 3 1 (k.Refuse.map Tr.eI))), (906, some (.row 3 1 (j.Plan.Cells.map Tr.eI)))], .tup [.agg [.hd 911, .hd 912, .hd 913, (CV.lit (.int .i64 (k'.Calls))), .hd 904], .agg [(CV.lit (.int .i64 ((j').Plan.Keep))), (CV.lit (.int .i64 ((j').Plan.Move))), .hd 906, (CV.lit (.int .i64 ((j').Phase))), (CV.lit (.int .i64 ((j').Next)))]], [(911, some (.row 33 1 ((k'.Machine).Frames.Cells.map eIntS))), (912, some (.row 4 1 ((k'.Machine).Frames.Used.map Tr.eB))), (913, some (.row 45 2 ((k'.Machine).Table.Entries.map eEntry))), (904, some (.row 3 1 (k'.Refuse.map Tr.eI))), (906, some (.row 3 1 ((j').Plan.Cells.map Tr.eI)))], [911, 912, 913], s.gl⟩
theorem fn_backS (s : Se) (k : GKernel) (j : GJob) (k' : GKernel) (j' : GJob) (hs : szK8 k) (hl : j.Plan.Cells.length ≤ 1048576) (hj : okJ j) (hn : 0 < j.Next) (hk : ((⟨(pStore k.Machine (j.Plan.Keep * 16 + cellJ j (j.Next - 1)) 0).1, k.Calls, k.Refuse⟩ : GKernel), (⟨j.Plan, j.Phase, j.Next - 1⟩ : GJob)) = (k', j')) : Fn Tryz.prog (c_backS s k j k' j') := by
  obtain ⟨hp, hph, hn0, hn1⟩ := hj
  obtain ⟨r, hr⟩ : ∃ r, pStore k.Machine (j.Plan.Keep * 16 + cellJ j (j.Next - 1)) 0 = r := ⟨_, rfl⟩
  obtain ⟨m1, x⟩ := r
  rw [hr] at hk
  obtain ⟨rfl, rfl⟩ := Prod.mk.inj hk
  have hlt : (j.Next - 1).toNat < j.Plan.Cells.length := by omega
  have hc := asc_at hp.2.2.2 hlt
  have hel : (j.Plan.Cells.map Tr.eI)[(j.Next - 1).toNat]? = some (Tr.eI (cellJ j (j.Next - 1))) := map_at hlt
  unfold cellJ at hr hel
  generalize j.Plan.Cells.getD (j.Next - 1).toNat 0 = c at hr hel hc
  have hkp := hp.2.1
  refine fn_intro tt_ok Tryz.func118 rfl Tryz.call118 Tryz.ntmps118 Tryz.results118 rfl rfl rfl rfl ?_
  intro X ρ0 hb_ hgl_
  dsimp only [c_backS]
  try refine nrm ?_
  repeat' (refine ar_id ?_; first | refine st1 ?_ | (refine ar_drawS (id := 3) tt_ok (by kernel_rfl) [.elem (Tr.eI c), .call (c_StoR s k.Machine (j.Plan.Keep * 16 + c) 0 m1 x)] ?_; refine ed_hide ?_; intro K_ hK_; repeat' (first | ((first | refine ed_call3 ?_ | refine ed_sure3 ?_ | refine ed_cons3 ?_); refine ed_hide ?_; intro K_ hK_; (try dsimp only [c_StoR]); (try refine nrmE ?_)) | (refine ed_nil ?_; (repeat subst hK_); dsimp only; refine Exists.intro _ (And.intro rfl (And.intro (by kernel_rfl) (And.intro ?_ ?_))); rotate_left; (try dsimp only [c_StoR]); (try refine nrm ?_); rotate_right))) | (refine ar_drawS (id := 4) tt_ok (by kernel_rfl) [] ?_; refine ed_hide ?_; intro K_ hK_; repeat' (first | ((first | refine ed_call3 ?_ | refine ed_sure3 ?_ | refine ed_cons3 ?_); refine ed_hide ?_; intro K_ hK_; (try dsimp only [c_StoR]); (try refine nrmE ?_)) | (refine ed_nil ?_; (repeat subst hK_); dsimp only; refine Exists.intro _ (And.intro rfl (And.intro (by kernel_rfl) (And.intro ?_ ?_))); rotate_left; (try dsimp only [c_StoR]); (try refine nrm ?_); rotate_right))) | (first | ((first | refine ar_region tt_ok (inps := []) rfl ?_ ?_); rotate_left; (try dsimp only [c_StoR]); (try refine nrm ?_); rotate_right) | refine ret3 ?_ | refine end3 ?_) | (refine ar_cond rfl trivial ?_ ?_ <;> intro hc_ <;> (try simp only [isNilI, inB, reduceCtorEq, cds] at hc_) <;> (try (first | contradiction | (exfalso; omega)))) | refine ar_until (And.intro ?_ (wk3 ?_)))
  all_goals (first | refine ar_id ?_ | (try (focus ((try refine nrmO ?_); (repeat' (first | exact True.intro | refine And.intro ?_ ?_)); all_goals (try (intro (hg_ : _ = true); (try simp only [isNilI, inB, reduceCtorEq, cds] at hg_); (repeat' (first | exact True.intro | refine And.intro ?_ ?_)))); all_goals (first | exact ob1 | exact fn_StoR _ _ _ _ _ _ hs.m ⟨by omega, by omega⟩ hr | exact hel | exact hgl_.1 | exact hgl_.2.1 | exact hgl_.2.2.1 | exact hgl_.2.2.2.1 | exact hgl_.2.2.2.2.1 | exact hgl_.2.2.2.2.2.1 | exact hgl_.2.2.2.2.2.2.1 | exact hgl_.2.2.2.2.2.2.2.1 | exact hgl_ | exact rfl | exact one1 rfl | skip)))))
  all_goals first | rfl | trace_state
def c_stay (k : GKernel) (j : GJob) (j' : GJob) : CFD := ⟨119, [.agg [.hd 901, .hd 902, .hd 903, (CV.lit (.int .i64 (k.Calls))), .hd 904], .agg [(CV.lit (.int .i64 (j.Plan.Keep))), (CV.lit (.int .i64 (j.Plan.Move))), .hd 906, (CV.lit (.int .i64 (j.Phase))), (CV.lit (.int .i64 (j.Next)))]], [(901, some (.row 33 1 (k.Machine.Frames.Cells.map eIntS))), (902, some (.row 4 1 (k.Machine.Frames.Used.map Tr.eB))), (903, some (.row 45 2 (k.Machine.Table.Entries.map eEntry))), (904, some (.row 3 1 (k.Refuse.map Tr.eI))), (906, some (.row 3 1 (j.Plan.Cells.map Tr.eI)))], .tup [.agg [.hd 901, .hd 902, .hd 903, (CV.lit (.int .i64 (k.Calls))), .hd 904], .agg [(CV.lit (.int .i64 ((j').Plan.Keep))), (CV.lit (.int .i64 ((j').Plan.Move))), .hd 906, (CV.lit (.int .i64 ((j').Phase))), (CV.lit (.int .i64 ((j').Next)))]], [(901, some (.row 33 1 (k.Machine.Frames.Cells.map eIntS))), (902, some (.row 4 1 (k.Machine.Frames.Used.map Tr.eB))), (903, some (.row 45 2 (k.Machine.Table.Entries.map eEntry))), (904, some (.row 3 1 (k.Refuse.map Tr.eI))), (906, some (.row 3 1 ((j').Plan.Cells.map Tr.eI)))], [], []⟩
theorem fn_stay (k : GKernel) (j : GJob) : Fn Tryz.prog (c_stay k j j) := by
  refine fn_intro tt_ok Tryz.func119 rfl Tryz.call119 Tryz.ntmps119 Tryz.results119 rfl rfl rfl rfl ?_
  intro X ρ0 hb_ hgl_
  dsimp only [c_stay]
  try refine nrm ?_
  repeat' (refine ar_id ?_; first | refine st1 ?_ | (refine ar_drawS (id := 1) tt_ok (by kernel_rfl) [] ?_; refine ed_hide ?_; intro K_ hK_; repeat' (first | ((first | refine ed_call3 ?_ | refine ed_sure3 ?_ | refine ed_cons3 ?_); refine ed_hide ?_; intro K_ hK_; (try refine nrmE ?_)) | (refine ed_nil ?_; (repeat subst hK_); dsimp only; refine Exists.intro _ (And.intro rfl (And.intro (by kernel_rfl) (And.intro ?_ ?_))); rotate_left; (try refine nrm ?_); rotate_right))) | (first | ((first | refine ar_region tt_ok (inps := []) rfl ?_ ?_); rotate_left; (try refine nrm ?_); rotate_right) | refine ret3 ?_ | refine end3 ?_) | (refine ar_cond rfl trivial ?_ ?_ <;> intro hc_ <;> (try simp only [isNilI, inB, reduceCtorEq, cds] at hc_) <;> (try (first | contradiction | (exfalso; omega)))) | refine ar_until (And.intro ?_ (wk3 ?_)))
  all_goals (first | refine ar_id ?_ | (try (focus ((try refine nrmO ?_); (repeat' (first | exact True.intro | refine And.intro ?_ ?_)); all_goals (try (intro (hg_ : _ = true); (try simp only [isNilI, inB, reduceCtorEq, cds] at hg_); (repeat' (first | exact True.intro | refine And.intro ?_ ?_)))); all_goals (first | exact ob1 | skip)))))
  all_goals first | rfl | trace_state
end Eng
end Go.Proofs.YtlkkiopjknbomaaGreatDoor
namespace Go.Proofs.YtlkkiopjknbomaaGreatDoor
open Go.RowKit
set_option linter.unusedVariables false
set_option linter.unusedSimpArgs false
set_option maxRecDepth 100000
namespace Eng
open Tr
def c_JStepI (s : Se) (k : GKernel) (j : GJob) (k' : GKernel) (j' : GJob) : CFD := ⟨32, [.agg [ro 33 1 eIntS k.Machine.Frames.Cells, ro 4 1 Tr.eB k.Machine.Frames.Used, ro 45 2 eEntry k.Machine.Table.Entries, (CV.lit (.int .i64 (k.Calls))), ro 3 1 Tr.eI k.Refuse], .agg [(CV.lit (.int .i64 (j.Plan.Keep))), (CV.lit (.int .i64 (j.Plan.Move))), ro 3 1 Tr.eI j.Plan.Cells, (CV.lit (.int .i64 (j.Phase))), (CV.lit (.int .i64 (j.Next)))]], [], .tup [.agg [.hd 0, .hd 1, .hd 2, (CV.lit (.int .i64 ((k').Calls))), .hd 3], .agg [(CV.lit (.int .i64 ((j').Plan.Keep))), (CV.lit (.int .i64 ((j').Plan.Move))), .hd 4, (CV.lit (.int .i64 ((j').Phase))), (CV.lit (.int .i64 ((j').Next)))]], [(0, some (.row 33 1 ((k').Machine.Frames.Cells.map eIntS))), (1, some (.row 4 1 ((k').Machine.Frames.Used.map Tr.eB))), (2, some (.row 45 2 ((k').Machine.Table.Entries.map eEntry))), (3, some (.row 3 1 ((k').Refuse.map Tr.eI))), (4, some (.row 3 1 ((j').Plan.Cells.map Tr.eI)))], [0, 1, 2, 3, 4], s.gl⟩
set_option maxHeartbeats 8000000 in
theorem fn_JStepI (s : Se) (k : GKernel) (j : GJob) (k' : GKernel) (j' : GJob) (hs : szK8 k) (hl : j.Plan.Cells.length ≤ 1048576) (h : pJobStep k j = (k', j')) : Fn Tryz.prog (c_JStepI s k j k' j') := by
  have hcp := fn_CopyKI k (szK_from hs)
  unfold pJobStep at h
  by_cases hm : mayJ k j
  · rw [if_pos hm] at h
    have hd : decide (mayJ k j) = true := decide_eq_true hm
    have hcj := fn_copyJI j hl
    have hcan := fn_can k j hs hl
    have hc : canCall k := hm.1
    have hj := hm.2.1
    obtain ⟨pl, ph, nx⟩ := j
    have hph := hj.2.1
    unfold stepJ at h
    by_cases p0 : ph = 0
    · subst p0
      rw [if_pos rfl] at h
      refine fn_intro tt_ok Tryz.func32 rfl Tryz.call32 Tryz.ntmps32 Tryz.results32 rfl rfl rfl rfl ?_
      intro X ρ0 hb_ hgl_
      dsimp only [c_JStepI]
      try refine nrm ?_
      repeat' (refine ar_id ?_; first | refine st1 ?_ | (refine ar_drawS (id := 1) tt_ok (by kernel_rfl) [.call (c_CopyKI k), .call (c_copyJI ⟨pl, 0, nx⟩)] ?_; refine ed_hide ?_; intro K_ hK_; repeat' (first | ((first | refine ed_call3 ?_ | refine ed_sure3 ?_ | refine ed_cons3 ?_); refine ed_hide ?_; intro K_ hK_; (try dsimp only [c_CopyKI, c_can, c_copyJI, c_phases, c_protM]); (try refine nrmE ?_)) | (refine ed_nil ?_; (repeat subst hK_); dsimp only; refine Exists.intro _ (And.intro rfl (And.intro (by kernel_rfl) (And.intro ?_ ?_))); rotate_left; (try dsimp only [c_CopyKI, c_can, c_copyJI, c_phases, c_protM]); (try refine nrm ?_); rotate_right))) | (refine ar_drawS (id := 3) tt_ok (by kernel_rfl) [] ?_; refine ed_hide ?_; intro K_ hK_; repeat' (first | ((first | refine ed_call3 ?_ | refine ed_sure3 ?_ | refine ed_cons3 ?_); refine ed_hide ?_; intro K_ hK_; (try dsimp only [c_CopyKI, c_can, c_copyJI, c_phases, c_protM]); (try refine nrmE ?_)) | (refine ed_nil ?_; (repeat subst hK_); dsimp only; refine Exists.intro _ (And.intro rfl (And.intro (by kernel_rfl) (And.intro ?_ ?_))); rotate_left; (try dsimp only [c_CopyKI, c_can, c_copyJI, c_phases, c_protM]); (try refine nrm ?_); rotate_right))) | (refine ar_drawS (id := 4) tt_ok (by kernel_rfl) [.call (c_phases), .call (c_protM k ⟨pl, 0, nx⟩ k' j')] ?_; refine ed_hide ?_; intro K_ hK_; repeat' (first | ((first | refine ed_call3 ?_ | refine ed_sure3 ?_ | refine ed_cons3 ?_); refine ed_hide ?_; intro K_ hK_; (try dsimp only [c_CopyKI, c_can, c_copyJI, c_phases, c_protM]); (try refine nrmE ?_)) | (refine ed_nil ?_; (repeat subst hK_); dsimp only; refine Exists.intro _ (And.intro rfl (And.intro (by kernel_rfl) (And.intro ?_ ?_))); rotate_left; (try dsimp only [c_CopyKI, c_can, c_copyJI, c_phases, c_protM]); (try refine nrm ?_); rotate_right))) | (first | ((first | refine ar_region (id := 2) tt_ok (inps := [.call (c_can k ⟨pl, 0, nx⟩)]) rfl ?_ ?_ | refine ar_region tt_ok (inps := []) rfl ?_ ?_); rotate_left; (try dsimp only [c_CopyKI, c_can, c_copyJI, c_phases, c_protM]); (try refine nrm ?_); rotate_right) | refine ret3 ?_ | refine end3 ?_) | (refine ar_cond rfl trivial ?_ ?_ <;> intro hc_ <;> (try simp only [isNilI, inB, reduceCtorEq, cds] at hc_) <;> (try (first | contradiction | (exfalso; omega) | (exfalso; grind)))) | refine ar_until (And.intro ?_ (wk3 ?_)))
      all_goals (first | refine ar_id ?_ | (try (focus ((try refine nrmO ?_); (repeat' (first | exact True.intro | refine And.intro ?_ ?_)); all_goals (try (intro (hg_ : _ = true); (try simp only [isNilI, inB, reduceCtorEq, cds] at hg_); (repeat' (first | exact True.intro | refine And.intro ?_ ?_)))); all_goals (first | exact ob1 | exact hcp | exact hcj | exact hcan | exact fn_phases | exact fn_protM _ _ _ _ hs hc h | skip)))))
      all_goals trace_state
    rw [if_neg (show ¬ (⟨pl, ph, nx⟩ : GJob).Phase = 0 from p0)] at h
    by_cases p1 : ph = 1
    · subst p1
      rw [if_pos rfl] at h
      by_cases hl2 : nx = (pl.Cells.length : Int)
      · rw [if_pos (show (⟨pl, 1, nx⟩ : GJob).Next = ((⟨pl, 1, nx⟩ : GJob).Plan.Cells.length : Int) from hl2)] at h
        obtain ⟨rfl, rfl⟩ := Prod.mk.inj h
        refine fn_intro tt_ok Tryz.func32 rfl Tryz.call32 Tryz.ntmps32 Tryz.results32 rfl rfl rfl rfl ?_
        intro X ρ0 hb_ hgl_
        dsimp only [c_JStepI]
        try refine nrm ?_
        repeat' (refine ar_id ?_; first | refine st1 ?_ | (refine ar_drawS (id := 1) tt_ok (by kernel_rfl) [.call (c_CopyKI k), .call (c_copyJI ⟨pl, 1, nx⟩)] ?_; refine ed_hide ?_; intro K_ hK_; repeat' (first | ((first | refine ed_call3 ?_ | refine ed_sure3 ?_ | refine ed_cons3 ?_); refine ed_hide ?_; intro K_ hK_; (try dsimp only [c_CopyKI, c_can, c_copyE, c_copyJI, c_phases]); (try refine nrmE ?_)) | (refine ed_nil ?_; (repeat subst hK_); dsimp only; refine Exists.intro _ (And.intro rfl (And.intro (by kernel_rfl) (And.intro ?_ ?_))); rotate_left; (try dsimp only [c_CopyKI, c_can, c_copyE, c_copyJI, c_phases]); (try refine nrm ?_); rotate_right))) | (refine ar_drawS (id := 3) tt_ok (by kernel_rfl) [] ?_; refine ed_hide ?_; intro K_ hK_; repeat' (first | ((first | refine ed_call3 ?_ | refine ed_sure3 ?_ | refine ed_cons3 ?_); refine ed_hide ?_; intro K_ hK_; (try dsimp only [c_CopyKI, c_can, c_copyE, c_copyJI, c_phases]); (try refine nrmE ?_)) | (refine ed_nil ?_; (repeat subst hK_); dsimp only; refine Exists.intro _ (And.intro rfl (And.intro (by kernel_rfl) (And.intro ?_ ?_))); rotate_left; (try dsimp only [c_CopyKI, c_can, c_copyE, c_copyJI, c_phases]); (try refine nrm ?_); rotate_right))) | (refine ar_drawS (id := 4) tt_ok (by kernel_rfl) [.call (c_phases), .call (c_copyE k ⟨pl, 1, nx⟩ ⟨pl, 2, nx⟩)] ?_; refine ed_hide ?_; intro K_ hK_; repeat' (first | ((first | refine ed_call3 ?_ | refine ed_sure3 ?_ | refine ed_cons3 ?_); refine ed_hide ?_; intro K_ hK_; (try dsimp only [c_CopyKI, c_can, c_copyE, c_copyJI, c_phases]); (try refine nrmE ?_)) | (refine ed_nil ?_; (repeat subst hK_); dsimp only; refine Exists.intro _ (And.intro rfl (And.intro (by kernel_rfl) (And.intro ?_ ?_))); rotate_left; (try dsimp only [c_CopyKI, c_can, c_copyE, c_copyJI, c_phases]); (try refine nrm ?_); rotate_right))) | (first | ((first | refine ar_region (id := 2) tt_ok (inps := [.call (c_can k ⟨pl, 1, nx⟩)]) rfl ?_ ?_ | refine ar_region tt_ok (inps := []) rfl ?_ ?_); rotate_left; (try dsimp only [c_CopyKI, c_can, c_copyE, c_copyJI, c_phases]); (try refine nrm ?_); rotate_right) | refine ret3 ?_ | refine end3 ?_) | (refine ar_cond rfl trivial ?_ ?_ <;> intro hc_ <;> (try simp only [isNilI, inB, reduceCtorEq, cds] at hc_) <;> (try (first | contradiction | (exfalso; omega) | (exfalso; grind)))) | refine ar_until (And.intro ?_ (wk3 ?_)))
        all_goals (first | refine ar_id ?_ | (try (focus ((try refine nrmO ?_); (repeat' (first | exact True.intro | refine And.intro ?_ ?_)); all_goals (try (intro (hg_ : _ = true); (try simp only [isNilI, inB, reduceCtorEq, cds] at hg_); (repeat' (first | exact True.intro | refine And.intro ?_ ?_)))); all_goals (first | exact ob1 | exact hcp | exact hcj | exact hcan | exact fn_phases | exact fn_copyE k ⟨pl, 1, nx⟩ hl2 | skip)))))
        all_goals trace_state
      · rw [if_neg (show ¬ (⟨pl, 1, nx⟩ : GJob).Next = ((⟨pl, 1, nx⟩ : GJob).Plan.Cells.length : Int) from hl2)] at h
        obtain ⟨r, hr⟩ : ∃ r, pCells k pl.Move pl.Keep [cellJ ⟨pl, 1, nx⟩ nx] = r := ⟨_, rfl⟩
        obtain ⟨k1, b⟩ := r
        dsimp only at h
        rw [hr] at h
        obtain ⟨rfl, rfl⟩ := Prod.mk.inj h
        have hn0 : 0 ≤ nx := hj.2.2.1
        have hn1 : nx ≤ (pl.Cells.length : Int) := hj.2.2.2
        refine fn_intro tt_ok Tryz.func32 rfl Tryz.call32 Tryz.ntmps32 Tryz.results32 rfl rfl rfl rfl ?_
        intro X ρ0 hb_ hgl_
        dsimp only [c_JStepI]
        try refine nrm ?_
        repeat' (refine ar_id ?_; first | refine st1 ?_ | (refine ar_drawS (id := 1) tt_ok (by kernel_rfl) [.call (c_CopyKI k), .call (c_copyJI ⟨pl, 1, nx⟩)] ?_; refine ed_hide ?_; intro K_ hK_; repeat' (first | ((first | refine ed_call3 ?_ | refine ed_sure3 ?_ | refine ed_cons3 ?_); refine ed_hide ?_; intro K_ hK_; (try dsimp only [c_CopyKI, c_can, c_copyJI, c_copyN, c_phases]); (try refine nrmE ?_)) | (refine ed_nil ?_; (repeat subst hK_); dsimp only; refine Exists.intro _ (And.intro rfl (And.intro (by kernel_rfl) (And.intro ?_ ?_))); rotate_left; (try dsimp only [c_CopyKI, c_can, c_copyJI, c_copyN, c_phases]); (try refine nrm ?_); rotate_right))) | (refine ar_drawS (id := 3) tt_ok (by kernel_rfl) [] ?_; refine ed_hide ?_; intro K_ hK_; repeat' (first | ((first | refine ed_call3 ?_ | refine ed_sure3 ?_ | refine ed_cons3 ?_); refine ed_hide ?_; intro K_ hK_; (try dsimp only [c_CopyKI, c_can, c_copyJI, c_copyN, c_phases]); (try refine nrmE ?_)) | (refine ed_nil ?_; (repeat subst hK_); dsimp only; refine Exists.intro _ (And.intro rfl (And.intro (by kernel_rfl) (And.intro ?_ ?_))); rotate_left; (try dsimp only [c_CopyKI, c_can, c_copyJI, c_copyN, c_phases]); (try refine nrm ?_); rotate_right))) | (refine ar_drawS (id := 4) tt_ok (by kernel_rfl) [.call (c_phases), .call (c_copyN k ⟨pl, 1, nx⟩ k1 ⟨pl, 1, nx + 1⟩)] ?_; refine ed_hide ?_; intro K_ hK_; repeat' (first | ((first | refine ed_call3 ?_ | refine ed_sure3 ?_ | refine ed_cons3 ?_); refine ed_hide ?_; intro K_ hK_; (try dsimp only [c_CopyKI, c_can, c_copyJI, c_copyN, c_phases]); (try refine nrmE ?_)) | (refine ed_nil ?_; (repeat subst hK_); dsimp only; refine Exists.intro _ (And.intro rfl (And.intro (by kernel_rfl) (And.intro ?_ ?_))); rotate_left; (try dsimp only [c_CopyKI, c_can, c_copyJI, c_copyN, c_phases]); (try refine nrm ?_); rotate_right))) | (first | ((first | refine ar_region (id := 2) tt_ok (inps := [.call (c_can k ⟨pl, 1, nx⟩)]) rfl ?_ ?_ | refine ar_region tt_ok (inps := []) rfl ?_ ?_); rotate_left; (try dsimp only [c_CopyKI, c_can, c_copyJI, c_copyN, c_phases]); (try refine nrm ?_); rotate_right) | refine ret3 ?_ | refine end3 ?_) | (refine ar_cond rfl trivial ?_ ?_ <;> intro hc_ <;> (try simp only [isNilI, inB, reduceCtorEq, cds] at hc_) <;> (try (first | contradiction | (exfalso; omega) | (exfalso; grind)))) | refine ar_until (And.intro ?_ (wk3 ?_)))
        all_goals (first | refine ar_id ?_ | (try (focus ((try refine nrmO ?_); (repeat' (first | exact True.intro | refine And.intro ?_ ?_)); all_goals (try (intro (hg_ : _ = true); (try simp only [isNilI, inB, reduceCtorEq, cds] at hg_); (repeat' (first | exact True.intro | refine And.intro ?_ ?_)))); all_goals (first | exact ob1 | exact hcp | exact hcj | exact hcan | exact fn_phases | exact fn_copyN k ⟨pl, 1, nx⟩ k1 b hs hc hn0 (by dsimp only; omega) hl hr | skip)))))
        all_goals trace_state
    rw [if_neg (show ¬ (⟨pl, ph, nx⟩ : GJob).Phase = 1 from p1)] at h
    by_cases p2 : ph = 2
    · subst p2
      rw [if_pos rfl] at h
      refine fn_intro tt_ok Tryz.func32 rfl Tryz.call32 Tryz.ntmps32 Tryz.results32 rfl rfl rfl rfl ?_
      intro X ρ0 hb_ hgl_
      dsimp only [c_JStepI]
      try refine nrm ?_
      repeat' (refine ar_id ?_; first | refine st1 ?_ | (refine ar_drawS (id := 1) tt_ok (by kernel_rfl) [.call (c_CopyKI k), .call (c_copyJI ⟨pl, 2, nx⟩)] ?_; refine ed_hide ?_; intro K_ hK_; repeat' (first | ((first | refine ed_call3 ?_ | refine ed_sure3 ?_ | refine ed_cons3 ?_); refine ed_hide ?_; intro K_ hK_; (try dsimp only [c_CopyKI, c_can, c_copyJI, c_phases, c_remap]); (try refine nrmE ?_)) | (refine ed_nil ?_; (repeat subst hK_); dsimp only; refine Exists.intro _ (And.intro rfl (And.intro (by kernel_rfl) (And.intro ?_ ?_))); rotate_left; (try dsimp only [c_CopyKI, c_can, c_copyJI, c_phases, c_remap]); (try refine nrm ?_); rotate_right))) | (refine ar_drawS (id := 3) tt_ok (by kernel_rfl) [] ?_; refine ed_hide ?_; intro K_ hK_; repeat' (first | ((first | refine ed_call3 ?_ | refine ed_sure3 ?_ | refine ed_cons3 ?_); refine ed_hide ?_; intro K_ hK_; (try dsimp only [c_CopyKI, c_can, c_copyJI, c_phases, c_remap]); (try refine nrmE ?_)) | (refine ed_nil ?_; (repeat subst hK_); dsimp only; refine Exists.intro _ (And.intro rfl (And.intro (by kernel_rfl) (And.intro ?_ ?_))); rotate_left; (try dsimp only [c_CopyKI, c_can, c_copyJI, c_phases, c_remap]); (try refine nrm ?_); rotate_right))) | (refine ar_drawS (id := 4) tt_ok (by kernel_rfl) [.call (c_phases), .call (c_remap k ⟨pl, 2, nx⟩ k' j')] ?_; refine ed_hide ?_; intro K_ hK_; repeat' (first | ((first | refine ed_call3 ?_ | refine ed_sure3 ?_ | refine ed_cons3 ?_); refine ed_hide ?_; intro K_ hK_; (try dsimp only [c_CopyKI, c_can, c_copyJI, c_phases, c_remap]); (try refine nrmE ?_)) | (refine ed_nil ?_; (repeat subst hK_); dsimp only; refine Exists.intro _ (And.intro rfl (And.intro (by kernel_rfl) (And.intro ?_ ?_))); rotate_left; (try dsimp only [c_CopyKI, c_can, c_copyJI, c_phases, c_remap]); (try refine nrm ?_); rotate_right))) | (first | ((first | refine ar_region (id := 2) tt_ok (inps := [.call (c_can k ⟨pl, 2, nx⟩)]) rfl ?_ ?_ | refine ar_region tt_ok (inps := []) rfl ?_ ?_); rotate_left; (try dsimp only [c_CopyKI, c_can, c_copyJI, c_phases, c_remap]); (try refine nrm ?_); rotate_right) | refine ret3 ?_ | refine end3 ?_) | (refine ar_cond rfl trivial ?_ ?_ <;> intro hc_ <;> (try simp only [isNilI, inB, reduceCtorEq, cds] at hc_) <;> (try (first | contradiction | (exfalso; omega) | (exfalso; grind)))) | refine ar_until (And.intro ?_ (wk3 ?_)))
      all_goals (first | refine ar_id ?_ | (try (focus ((try refine nrmO ?_); (repeat' (first | exact True.intro | refine And.intro ?_ ?_)); all_goals (try (intro (hg_ : _ = true); (try simp only [isNilI, inB, reduceCtorEq, cds] at hg_); (repeat' (first | exact True.intro | refine And.intro ?_ ?_)))); all_goals (first | exact ob1 | exact hcp | exact hcj | exact hcan | exact fn_phases | exact fn_remap _ _ _ _ hs hc h | skip)))))
      all_goals trace_state
    rw [if_neg (show ¬ (⟨pl, ph, nx⟩ : GJob).Phase = 2 from p2)] at h
    by_cases p3 : ph = 3
    · subst p3
      rw [if_pos rfl] at h
      by_cases hB : 0 < nx
      · rw [if_pos (show 0 < (⟨pl, 3, nx⟩ : GJob).Next from hB)] at h
        refine fn_intro tt_ok Tryz.func32 rfl Tryz.call32 Tryz.ntmps32 Tryz.results32 rfl rfl rfl rfl ?_
        intro X ρ0 hb_ hgl_
        dsimp only [c_JStepI]
        try refine nrm ?_
        repeat' (refine ar_id ?_; first | refine st1 ?_ | (refine ar_drawS (id := 1) tt_ok (by kernel_rfl) [.call (c_CopyKI k), .call (c_copyJI ⟨pl, 3, nx⟩)] ?_; refine ed_hide ?_; intro K_ hK_; repeat' (first | ((first | refine ed_call3 ?_ | refine ed_sure3 ?_ | refine ed_cons3 ?_); refine ed_hide ?_; intro K_ hK_; (try dsimp only [c_CopyKI, c_backS, c_can, c_copyJI, c_phases]); (try refine nrmE ?_)) | (refine ed_nil ?_; (repeat subst hK_); dsimp only; refine Exists.intro _ (And.intro rfl (And.intro (by kernel_rfl) (And.intro ?_ ?_))); rotate_left; (try dsimp only [c_CopyKI, c_backS, c_can, c_copyJI, c_phases]); (try refine nrm ?_); rotate_right))) | (refine ar_drawS (id := 3) tt_ok (by kernel_rfl) [] ?_; refine ed_hide ?_; intro K_ hK_; repeat' (first | ((first | refine ed_call3 ?_ | refine ed_sure3 ?_ | refine ed_cons3 ?_); refine ed_hide ?_; intro K_ hK_; (try dsimp only [c_CopyKI, c_backS, c_can, c_copyJI, c_phases]); (try refine nrmE ?_)) | (refine ed_nil ?_; (repeat subst hK_); dsimp only; refine Exists.intro _ (And.intro rfl (And.intro (by kernel_rfl) (And.intro ?_ ?_))); rotate_left; (try dsimp only [c_CopyKI, c_backS, c_can, c_copyJI, c_phases]); (try refine nrm ?_); rotate_right))) | (refine ar_drawS (id := 4) tt_ok (by kernel_rfl) [.call (c_phases), .call (c_backS s k ⟨pl, 3, nx⟩ k' j')] ?_; refine ed_hide ?_; intro K_ hK_; repeat' (first | ((first | refine ed_call3 ?_ | refine ed_sure3 ?_ | refine ed_cons3 ?_); refine ed_hide ?_; intro K_ hK_; (try dsimp only [c_CopyKI, c_backS, c_can, c_copyJI, c_phases]); (try refine nrmE ?_)) | (refine ed_nil ?_; (repeat subst hK_); dsimp only; refine Exists.intro _ (And.intro rfl (And.intro (by kernel_rfl) (And.intro ?_ ?_))); rotate_left; (try dsimp only [c_CopyKI, c_backS, c_can, c_copyJI, c_phases]); (try refine nrm ?_); rotate_right))) | (first | ((first | refine ar_region (id := 2) tt_ok (inps := [.call (c_can k ⟨pl, 3, nx⟩)]) rfl ?_ ?_ | refine ar_region tt_ok (inps := []) rfl ?_ ?_); rotate_left; (try dsimp only [c_CopyKI, c_backS, c_can, c_copyJI, c_phases]); (try refine nrm ?_); rotate_right) | refine ret3 ?_ | refine end3 ?_) | (refine ar_cond rfl trivial ?_ ?_ <;> intro hc_ <;> (try simp only [isNilI, inB, reduceCtorEq, cds] at hc_) <;> (try (first | contradiction | (exfalso; omega) | (exfalso; grind)))) | refine ar_until (And.intro ?_ (wk3 ?_)))
        all_goals (first | refine ar_id ?_ | (try (focus ((try refine nrmO ?_); (repeat' (first | exact True.intro | refine And.intro ?_ ?_)); all_goals (try (intro (hg_ : _ = true); (try simp only [isNilI, inB, reduceCtorEq, cds] at hg_); (repeat' (first | exact True.intro | refine And.intro ?_ ?_)))); all_goals (first | exact ob1 | exact hcp | exact hcj | exact hcan | exact fn_phases | exact fn_backS s k ⟨pl, 3, nx⟩ k' j' hs hl hj hB h | exact hgl_.1 | exact hgl_.2.1 | exact hgl_.2.2.1 | exact hgl_.2.2.2.1 | exact hgl_.2.2.2.2.1 | exact hgl_.2.2.2.2.2.1 | exact hgl_.2.2.2.2.2.2.1 | exact hgl_.2.2.2.2.2.2.2.1 | exact hgl_ | exact rfl | exact one1 rfl | skip)))))
        all_goals trace_state
      · rw [if_neg (show ¬ 0 < (⟨pl, 3, nx⟩ : GJob).Next from hB)] at h
        refine fn_intro tt_ok Tryz.func32 rfl Tryz.call32 Tryz.ntmps32 Tryz.results32 rfl rfl rfl rfl ?_
        intro X ρ0 hb_ hgl_
        dsimp only [c_JStepI]
        try refine nrm ?_
        repeat' (refine ar_id ?_; first | refine st1 ?_ | (refine ar_drawS (id := 1) tt_ok (by kernel_rfl) [.call (c_CopyKI k), .call (c_copyJI ⟨pl, 3, nx⟩)] ?_; refine ed_hide ?_; intro K_ hK_; repeat' (first | ((first | refine ed_call3 ?_ | refine ed_sure3 ?_ | refine ed_cons3 ?_); refine ed_hide ?_; intro K_ hK_; (try dsimp only [c_CopyKI, c_backN, c_can, c_copyJI, c_phases]); (try refine nrmE ?_)) | (refine ed_nil ?_; (repeat subst hK_); dsimp only; refine Exists.intro _ (And.intro rfl (And.intro (by kernel_rfl) (And.intro ?_ ?_))); rotate_left; (try dsimp only [c_CopyKI, c_backN, c_can, c_copyJI, c_phases]); (try refine nrm ?_); rotate_right))) | (refine ar_drawS (id := 3) tt_ok (by kernel_rfl) [] ?_; refine ed_hide ?_; intro K_ hK_; repeat' (first | ((first | refine ed_call3 ?_ | refine ed_sure3 ?_ | refine ed_cons3 ?_); refine ed_hide ?_; intro K_ hK_; (try dsimp only [c_CopyKI, c_backN, c_can, c_copyJI, c_phases]); (try refine nrmE ?_)) | (refine ed_nil ?_; (repeat subst hK_); dsimp only; refine Exists.intro _ (And.intro rfl (And.intro (by kernel_rfl) (And.intro ?_ ?_))); rotate_left; (try dsimp only [c_CopyKI, c_backN, c_can, c_copyJI, c_phases]); (try refine nrm ?_); rotate_right))) | (refine ar_drawS (id := 4) tt_ok (by kernel_rfl) [.call (c_phases), .call (c_backN k ⟨pl, 3, nx⟩ k' j')] ?_; refine ed_hide ?_; intro K_ hK_; repeat' (first | ((first | refine ed_call3 ?_ | refine ed_sure3 ?_ | refine ed_cons3 ?_); refine ed_hide ?_; intro K_ hK_; (try dsimp only [c_CopyKI, c_backN, c_can, c_copyJI, c_phases]); (try refine nrmE ?_)) | (refine ed_nil ?_; (repeat subst hK_); dsimp only; refine Exists.intro _ (And.intro rfl (And.intro (by kernel_rfl) (And.intro ?_ ?_))); rotate_left; (try dsimp only [c_CopyKI, c_backN, c_can, c_copyJI, c_phases]); (try refine nrm ?_); rotate_right))) | (first | ((first | refine ar_region (id := 2) tt_ok (inps := [.call (c_can k ⟨pl, 3, nx⟩)]) rfl ?_ ?_ | refine ar_region tt_ok (inps := []) rfl ?_ ?_); rotate_left; (try dsimp only [c_CopyKI, c_backN, c_can, c_copyJI, c_phases]); (try refine nrm ?_); rotate_right) | refine ret3 ?_ | refine end3 ?_) | (refine ar_cond rfl trivial ?_ ?_ <;> intro hc_ <;> (try simp only [isNilI, inB, reduceCtorEq, cds] at hc_) <;> (try (first | contradiction | (exfalso; omega) | (exfalso; grind)))) | refine ar_until (And.intro ?_ (wk3 ?_)))
        all_goals (first | refine ar_id ?_ | (try (focus ((try refine nrmO ?_); (repeat' (first | exact True.intro | refine And.intro ?_ ?_)); all_goals (try (intro (hg_ : _ = true); (try simp only [isNilI, inB, reduceCtorEq, cds] at hg_); (repeat' (first | exact True.intro | refine And.intro ?_ ?_)))); all_goals (first | exact ob1 | exact hcp | exact hcj | exact hcan | exact fn_phases | exact fn_backN k ⟨pl, 3, nx⟩ k' j' hs hc hB h | skip)))))
        all_goals trace_state
    rw [if_neg (show ¬ (⟨pl, ph, nx⟩ : GJob).Phase = 3 from p3)] at h
    obtain ⟨rfl, rfl⟩ := Prod.mk.inj h
    by_cases p4 : ph = 4
    · subst p4
      refine fn_intro tt_ok Tryz.func32 rfl Tryz.call32 Tryz.ntmps32 Tryz.results32 rfl rfl rfl rfl ?_
      intro X ρ0 hb_ hgl_
      dsimp only [c_JStepI]
      try refine nrm ?_
      repeat' (refine ar_id ?_; first | refine st1 ?_ | (refine ar_drawS (id := 1) tt_ok (by kernel_rfl) [.call (c_CopyKI k), .call (c_copyJI ⟨pl, 4, nx⟩)] ?_; refine ed_hide ?_; intro K_ hK_; repeat' (first | ((first | refine ed_call3 ?_ | refine ed_sure3 ?_ | refine ed_cons3 ?_); refine ed_hide ?_; intro K_ hK_; (try dsimp only [c_CopyKI, c_can, c_copyJI, c_phases, c_stay]); (try refine nrmE ?_)) | (refine ed_nil ?_; (repeat subst hK_); dsimp only; refine Exists.intro _ (And.intro rfl (And.intro (by kernel_rfl) (And.intro ?_ ?_))); rotate_left; (try dsimp only [c_CopyKI, c_can, c_copyJI, c_phases, c_stay]); (try refine nrm ?_); rotate_right))) | (refine ar_drawS (id := 3) tt_ok (by kernel_rfl) [] ?_; refine ed_hide ?_; intro K_ hK_; repeat' (first | ((first | refine ed_call3 ?_ | refine ed_sure3 ?_ | refine ed_cons3 ?_); refine ed_hide ?_; intro K_ hK_; (try dsimp only [c_CopyKI, c_can, c_copyJI, c_phases, c_stay]); (try refine nrmE ?_)) | (refine ed_nil ?_; (repeat subst hK_); dsimp only; refine Exists.intro _ (And.intro rfl (And.intro (by kernel_rfl) (And.intro ?_ ?_))); rotate_left; (try dsimp only [c_CopyKI, c_can, c_copyJI, c_phases, c_stay]); (try refine nrm ?_); rotate_right))) | (refine ar_drawS (id := 4) tt_ok (by kernel_rfl) [.call (c_phases), .call (c_stay k ⟨pl, 4, nx⟩ ⟨pl, 4, nx⟩)] ?_; refine ed_hide ?_; intro K_ hK_; repeat' (first | ((first | refine ed_call3 ?_ | refine ed_sure3 ?_ | refine ed_cons3 ?_); refine ed_hide ?_; intro K_ hK_; (try dsimp only [c_CopyKI, c_can, c_copyJI, c_phases, c_stay]); (try refine nrmE ?_)) | (refine ed_nil ?_; (repeat subst hK_); dsimp only; refine Exists.intro _ (And.intro rfl (And.intro (by kernel_rfl) (And.intro ?_ ?_))); rotate_left; (try dsimp only [c_CopyKI, c_can, c_copyJI, c_phases, c_stay]); (try refine nrm ?_); rotate_right))) | (first | ((first | refine ar_region (id := 2) tt_ok (inps := [.call (c_can k ⟨pl, 4, nx⟩)]) rfl ?_ ?_ | refine ar_region tt_ok (inps := []) rfl ?_ ?_); rotate_left; (try dsimp only [c_CopyKI, c_can, c_copyJI, c_phases, c_stay]); (try refine nrm ?_); rotate_right) | refine ret3 ?_ | refine end3 ?_) | (refine ar_cond rfl trivial ?_ ?_ <;> intro hc_ <;> (try simp only [isNilI, inB, reduceCtorEq, cds] at hc_) <;> (try (first | contradiction | (exfalso; omega) | (exfalso; grind)))) | refine ar_until (And.intro ?_ (wk3 ?_)))
      all_goals (first | refine ar_id ?_ | (try (focus ((try refine nrmO ?_); (repeat' (first | exact True.intro | refine And.intro ?_ ?_)); all_goals (try (intro (hg_ : _ = true); (try simp only [isNilI, inB, reduceCtorEq, cds] at hg_); (repeat' (first | exact True.intro | refine And.intro ?_ ?_)))); all_goals (first | exact ob1 | exact hcp | exact hcj | exact hcan | exact fn_phases | exact fn_stay k ⟨pl, 4, nx⟩ | skip)))))
      all_goals trace_state
    · obtain rfl : ph = 5 := by have h1 : 0 ≤ ph := hph.1; have h2 : ph ≤ 5 := hph.2; omega
      refine fn_intro tt_ok Tryz.func32 rfl Tryz.call32 Tryz.ntmps32 Tryz.results32 rfl rfl rfl rfl ?_
      intro X ρ0 hb_ hgl_
      dsimp only [c_JStepI]
      try refine nrm ?_
      repeat' (refine ar_id ?_; first | refine st1 ?_ | (refine ar_drawS (id := 1) tt_ok (by kernel_rfl) [.call (c_CopyKI k), .call (c_copyJI ⟨pl, 5, nx⟩)] ?_; refine ed_hide ?_; intro K_ hK_; repeat' (first | ((first | refine ed_call3 ?_ | refine ed_sure3 ?_ | refine ed_cons3 ?_); refine ed_hide ?_; intro K_ hK_; (try dsimp only [c_CopyKI, c_can, c_copyJI, c_phases, c_stay]); (try refine nrmE ?_)) | (refine ed_nil ?_; (repeat subst hK_); dsimp only; refine Exists.intro _ (And.intro rfl (And.intro (by kernel_rfl) (And.intro ?_ ?_))); rotate_left; (try dsimp only [c_CopyKI, c_can, c_copyJI, c_phases, c_stay]); (try refine nrm ?_); rotate_right))) | (refine ar_drawS (id := 3) tt_ok (by kernel_rfl) [] ?_; refine ed_hide ?_; intro K_ hK_; repeat' (first | ((first | refine ed_call3 ?_ | refine ed_sure3 ?_ | refine ed_cons3 ?_); refine ed_hide ?_; intro K_ hK_; (try dsimp only [c_CopyKI, c_can, c_copyJI, c_phases, c_stay]); (try refine nrmE ?_)) | (refine ed_nil ?_; (repeat subst hK_); dsimp only; refine Exists.intro _ (And.intro rfl (And.intro (by kernel_rfl) (And.intro ?_ ?_))); rotate_left; (try dsimp only [c_CopyKI, c_can, c_copyJI, c_phases, c_stay]); (try refine nrm ?_); rotate_right))) | (refine ar_drawS (id := 4) tt_ok (by kernel_rfl) [.call (c_phases), .call (c_stay k ⟨pl, 5, nx⟩ ⟨pl, 5, nx⟩)] ?_; refine ed_hide ?_; intro K_ hK_; repeat' (first | ((first | refine ed_call3 ?_ | refine ed_sure3 ?_ | refine ed_cons3 ?_); refine ed_hide ?_; intro K_ hK_; (try dsimp only [c_CopyKI, c_can, c_copyJI, c_phases, c_stay]); (try refine nrmE ?_)) | (refine ed_nil ?_; (repeat subst hK_); dsimp only; refine Exists.intro _ (And.intro rfl (And.intro (by kernel_rfl) (And.intro ?_ ?_))); rotate_left; (try dsimp only [c_CopyKI, c_can, c_copyJI, c_phases, c_stay]); (try refine nrm ?_); rotate_right))) | (first | ((first | refine ar_region (id := 2) tt_ok (inps := [.call (c_can k ⟨pl, 5, nx⟩)]) rfl ?_ ?_ | refine ar_region tt_ok (inps := []) rfl ?_ ?_); rotate_left; (try dsimp only [c_CopyKI, c_can, c_copyJI, c_phases, c_stay]); (try refine nrm ?_); rotate_right) | refine ret3 ?_ | refine end3 ?_) | (refine ar_cond rfl trivial ?_ ?_ <;> intro hc_ <;> (try simp only [isNilI, inB, reduceCtorEq, cds] at hc_) <;> (try (first | contradiction | (exfalso; omega) | (exfalso; grind)))) | refine ar_until (And.intro ?_ (wk3 ?_)))
      all_goals (first | refine ar_id ?_ | (try (focus ((try refine nrmO ?_); (repeat' (first | exact True.intro | refine And.intro ?_ ?_)); all_goals (try (intro (hg_ : _ = true); (try simp only [isNilI, inB, reduceCtorEq, cds] at hg_); (repeat' (first | exact True.intro | refine And.intro ?_ ?_)))); all_goals (first | exact ob1 | exact hcp | exact hcj | exact hcan | exact fn_phases | exact fn_stay k ⟨pl, 5, nx⟩ | skip)))))
      all_goals trace_state
  · rw [if_neg hm] at h
    obtain ⟨rfl, rfl⟩ := Prod.mk.inj h
    have hd : decide (mayJ k j) = false := decide_eq_false hm
    refine fn_intro tt_ok Tryz.func32 rfl Tryz.call32 Tryz.ntmps32 Tryz.results32 rfl rfl rfl rfl ?_
    intro X ρ0 hb_ hgl_
    dsimp only [c_JStepI]
    try refine nrm ?_
    repeat' (refine ar_id ?_; first | refine st1 ?_ | (refine ar_drawS (id := 1) tt_ok (by kernel_rfl) [.call (c_CopyKI k), .call (c_copyJI j)] ?_; refine ed_hide ?_; intro K_ hK_; repeat' (first | ((first | refine ed_call3 ?_ | refine ed_sure3 ?_ | refine ed_cons3 ?_); refine ed_hide ?_; intro K_ hK_; (try dsimp only [c_CopyKI, c_can, c_copyJI]); (try refine nrmE ?_)) | (refine ed_nil ?_; (repeat subst hK_); dsimp only; refine Exists.intro _ (And.intro rfl (And.intro (by kernel_rfl) (And.intro ?_ ?_))); rotate_left; (try dsimp only [c_CopyKI, c_can, c_copyJI]); (try refine nrm ?_); rotate_right))) | (refine ar_drawS (id := 3) tt_ok (by kernel_rfl) [] ?_; refine ed_hide ?_; intro K_ hK_; repeat' (first | ((first | refine ed_call3 ?_ | refine ed_sure3 ?_ | refine ed_cons3 ?_); refine ed_hide ?_; intro K_ hK_; (try dsimp only [c_CopyKI, c_can, c_copyJI]); (try refine nrmE ?_)) | (refine ed_nil ?_; (repeat subst hK_); dsimp only; refine Exists.intro _ (And.intro rfl (And.intro (by kernel_rfl) (And.intro ?_ ?_))); rotate_left; (try dsimp only [c_CopyKI, c_can, c_copyJI]); (try refine nrm ?_); rotate_right))) | (first | ((first | refine ar_region (id := 2) tt_ok (inps := [.call (c_can k j)]) rfl ?_ ?_ | refine ar_region tt_ok (inps := []) rfl ?_ ?_); rotate_left; (try dsimp only [c_CopyKI, c_can, c_copyJI]); (try refine nrm ?_); rotate_right) | refine ret3 ?_ | refine end3 ?_) | (refine ar_cond rfl trivial ?_ ?_ <;> intro hc_ <;> (try simp only [isNilI, inB, reduceCtorEq, cds] at hc_) <;> (try (first | contradiction | (exfalso; omega) | (exfalso; grind)))) | refine ar_until (And.intro ?_ (wk3 ?_)))
    all_goals (first | refine ar_id ?_ | (try (focus ((try refine nrmO ?_); (repeat' (first | exact True.intro | refine And.intro ?_ ?_)); all_goals (try (intro (hg_ : _ = true); (try simp only [isNilI, inB, reduceCtorEq, cds] at hg_); (repeat' (first | exact True.intro | refine And.intro ?_ ?_)))); all_goals (first | exact ob1 | exact hcp | exact fn_copyJI j hl | exact fn_can k j hs hl | skip)))))
    all_goals trace_state
end Eng
end Go.Proofs.YtlkkiopjknbomaaGreatDoor
namespace Go.Proofs.YtlkkiopjknbomaaGreatDoor
open Go.RowKit
set_option linter.unusedVariables false
set_option linter.unusedSimpArgs false
set_option maxRecDepth 100000
namespace Eng
open Tr
theorem zKerI : List.map CV.lit ti35.z.cells.toList = [.lit (.slice none 0 0), .lit (.slice none 0 0), .lit (.slice none 0 0), (CV.lit (.int .i64 (0))), .lit (.slice none 0 0)] := rfl
theorem zJobI : List.map CV.lit ti41.z.cells.toList = [(CV.lit (.int .i64 (0))), (CV.lit (.int .i64 (0))), .lit (.slice none 0 0), (CV.lit (.int .i64 (0))), (CV.lit (.int .i64 (0)))] := rfl
def c_JRunI (s : Se) (k : GKernel) (j : GJob) (most : Int) (k' : GKernel) (j' : GJob) : CFD := ⟨12, [.agg [ro 33 1 eIntS k.Machine.Frames.Cells, ro 4 1 Tr.eB k.Machine.Frames.Used, ro 45 2 eEntry k.Machine.Table.Entries, (CV.lit (.int .i64 (k.Calls))), ro 3 1 Tr.eI k.Refuse], .agg [(CV.lit (.int .i64 (j.Plan.Keep))), (CV.lit (.int .i64 (j.Plan.Move))), ro 3 1 Tr.eI j.Plan.Cells, (CV.lit (.int .i64 (j.Phase))), (CV.lit (.int .i64 (j.Next)))], (SV.one (.lit (.int .i64 (most))))], [], .tup [.agg [.hd 0, .hd 1, .hd 2, (CV.lit (.int .i64 ((k').Calls))), .hd 3], .agg [(CV.lit (.int .i64 ((j').Plan.Keep))), (CV.lit (.int .i64 ((j').Plan.Move))), .hd 4, (CV.lit (.int .i64 ((j').Phase))), (CV.lit (.int .i64 ((j').Next)))]], [(0, some (.row 33 1 ((k').Machine.Frames.Cells.map eIntS))), (1, some (.row 4 1 ((k').Machine.Frames.Used.map Tr.eB))), (2, some (.row 45 2 ((k').Machine.Table.Entries.map eEntry))), (3, some (.row 3 1 ((k').Refuse.map Tr.eI))), (4, some (.row 3 1 ((j').Plan.Cells.map Tr.eI)))], [0, 1, 2, 3, 4], s.gl⟩
set_option maxHeartbeats 8000000 in
theorem fn_JRunI (s : Se) (k : GKernel) (j : GJob) (most : Int) (k' : GKernel) (j' : GJob) (hs : szK8 k) (hl : j.Plan.Cells.length ≤ 1048576) (h : pJobRun k j most = (k', j')) : Fn Tryz.prog (c_JRunI s k j most k' j') := by
  have hcp := fn_CopyKI k (szK_from hs)
  unfold pJobRun at h
  by_cases hm : 0 ≤ most ∧ most ≤ 200
  · rw [if_pos hm] at h
    obtain ⟨N, rfl⟩ := Int.eq_ofNat_of_zero_le hm.1
    rw [Int.toNat_natCast] at h
    have hz := sz_run k j
    have hsucc : ∀ n, ¬ overJ (runJ n (k, j)).2 → pJobStep (runJ n (k, j)).1 (runJ n (k, j)).2 = ((runJ (n + 1) (k, j)).1, (runJ (n + 1) (k, j)).2) := fun n ho => by
      rw [runJ_succ]
      unfold pJobStep
      by_cases hx : mayJ (runJ n (k, j)).1 (runJ n (k, j)).2
      · rw [if_pos hx, if_pos ⟨ho, hx⟩]
      · rw [if_neg hx, if_neg (fun hh => hx hh.2)]
    have hstop := fun n (hn : n ≤ N) (hx : overJ (runJ n (k, j)).2) => (show runJ N (k, j) = runJ n (k, j) by
      have := runJ_add n (N - n) (k, j)
      rw [show n + (N - n) = N by omega] at this
      rw [this, runJ_stop (fun hh => hh.1 hx)])
    have h0 : runJ 0 (k, j) = (k, j) := rfl
    generalize hS : (fun n => runJ n (k, j)) = S
    have hSn : ∀ n, runJ n (k, j) = S n := fun n => by rw [← hS]
    simp only [hSn] at hz hsucc hstop h0 h
    refine fn_intro tt_ok Tryz.func12 rfl Tryz.call12 Tryz.ntmps12 Tryz.results12 rfl rfl rfl rfl ?_
    intro X ρ0 hb_ hgl_
    dsimp only [c_JRunI]
    try refine nrm ?_
    repeat' (refine ar_id ?_; first | refine st1 ?_ | (refine ar_drawS (id := 1) tt_ok (by kernel_rfl) [.call (c_CopyKI k), .call (c_copyJI j)] ?_; refine ed_hide ?_; intro K_ hK_; repeat' (first | ((first | refine ed_call3 ?_ | refine ed_sure3 ?_ | refine ed_cons3 ?_); refine ed_hide ?_; intro K_ hK_; (try dsimp only [c_CopyKI, c_copyJI]); (try refine nrmE ?_)) | (refine ed_nil ?_; (repeat subst hK_); dsimp only; refine Exists.intro _ (And.intro rfl (And.intro (by kernel_rfl) (And.intro ?_ ?_))); rotate_left; (try dsimp only [c_CopyKI, c_copyJI]); (try refine nrm ?_); rotate_right))) | (first | ((first | refine ar_region tt_ok (inps := []) rfl ?_ ?_); rotate_left; (try dsimp only [c_CopyKI, c_copyJI]); (try refine nrm ?_); rotate_right) | refine ret3 ?_ | refine end3 ?_) | (refine ar_cond rfl trivial ?_ ?_ <;> intro hc_ <;> (try simp only [isNilI, inB, reduceCtorEq, cds] at hc_) <;> (try (first | contradiction | (exfalso; omega)))) | refine ar_until (And.intro ?_ (wk3 ?_)))
    all_goals (first | refine ar_id ?_ | (try (focus ((try refine nrmO ?_); (repeat' (first | exact True.intro | refine And.intro ?_ ?_)); all_goals (try (intro (hg_ : _ = true); (try simp only [isNilI, inB, reduceCtorEq, cds] at hg_); (repeat' (first | exact True.intro | refine And.intro ?_ ?_)))); all_goals (first | exact ob1 | exact hcp | exact fn_copyJI j hl | skip)))))
    dsimp only [zKerI, zJobI]
    refine ar_keep 12583903 (by dsimp only [keepS] <;> exact rfl) ?_
    refine ar_forM (N) (fun n => True) (fun n => [(23, (TV.sv (.one (.lit (.int .i64 (n))))))]) (fun n => [(8, some (.box 35 [.hd 12000, .hd 12001, .hd 12002, (CV.lit (.int .i64 (((S n).1).Calls))), .hd 12003])), (12000, some (.row 33 1 (((S n).1).Machine.Frames.Cells.map eIntS))), (12001, some (.row 4 1 (((S n).1).Machine.Frames.Used.map Tr.eB))), (12002, some (.row 45 2 (((S n).1).Machine.Table.Entries.map eEntry))), (12003, some (.row 3 1 (((S n).1).Refuse.map Tr.eI))), (9, some (.box 41 [(CV.lit (.int .i64 (((S n).2).Plan.Keep))), (CV.lit (.int .i64 (((S n).2).Plan.Move))), .hd 14000, (CV.lit (.int .i64 (((S n).2).Phase))), (CV.lit (.int .i64 (((S n).2).Next)))])), (14000, some (.row 3 1 (((S n).2).Plan.Cells.map Tr.eI)))]) ?_ ?_ ?_
    rotate_left
    · first | trivial | simp
    (dsimp only [rnCap, capSVs, Int.toNat_natCast, ro, Nat.reduceAdd, Nat.reduceMul, Nat.zero_add, List.map, putT, app, wrapG, gOb, argT, keys, slotOf, dropped, gAnd, wB, rnT, rnS, rnC, rnCs, rnSs, rnM, rnB, rnN, rn, lk, St.over, ded, delL, keepT, menT, menSs, menS, menCs, menC, hasN, resT, SV.cells]; refine wk3 ?_; (focus ((try refine nrmO ?_); (repeat' (first | exact True.intro | refine And.intro ?_ ?_)); all_goals (try (intro (hg_ : _ = true); (try simp only [isNilI, inB, reduceCtorEq, cds] at hg_); (repeat' (first | exact True.intro | refine And.intro ?_ ?_)))); all_goals (first | exact ob1 | exact rfl | skip))))
    rotate_right
    intro n hn_ hnI_
    dsimp only [rnCap, capSVs, Int.toNat_natCast, ro, Nat.reduceAdd, Nat.reduceMul, Nat.zero_add, List.map, putT, app, wrapG, gOb, argT, keys, slotOf, dropped, gAnd, wB, rnT, rnS, rnC, rnCs, rnSs, rnM, rnB, rnN, rn, lk, St.over, ded, delL, keepT, menT, menSs, menS, menCs, menC, hasN, resT, SV.cells]
    obtain ⟨z1, z2, z3⟩ := hz n
    have hfin : ((N : Int) ≤ (n : Int)) → S n = (k', j') := fun hc => by rw [← h, show n = N by omega]
    have hfin2 : overJ (S n).2 → S n = (k', j') := fun hc => by rw [← h, hstop n (by omega) hc]
    have hsn := szK8_same hs z1 z2
    have hln : (S n).2.Plan.Cells.length ≤ 1048576 := by rw [z3]; exact hl
    by_cases hR : overJ (S n).2
    · have hd : decide (overJ (S n).2) = true := decide_eq_true hR
      repeat' (refine ar_id ?_; first | refine st1 ?_ | (refine ar_drawS (id := 9) tt_ok (by kernel_rfl) [] ?_; refine ed_hide ?_; intro K_ hK_; repeat' (first | ((first | refine ed_call3 ?_ | refine ed_sure3 ?_ | refine ed_cons3 ?_); refine ed_hide ?_; intro K_ hK_; (try dsimp only [c_OverI]); (try refine nrmE ?_)) | (refine ed_nil ?_; (repeat subst hK_); dsimp only; refine Exists.intro _ (And.intro rfl (And.intro (by kernel_rfl) (And.intro ?_ ?_))); rotate_left; (try dsimp only [c_OverI]); (try refine nrm ?_); rotate_right))) | (first | ((first | refine ar_region (id := 6) tt_ok (inps := [.call (c_OverI (S n).2)]) rfl ?_ ?_ | refine ar_region tt_ok (inps := []) rfl ?_ ?_); rotate_left; (try dsimp only [c_OverI]); (try refine nrm ?_); rotate_right) | refine ret3 ?_ | refine end3 ?_) | (refine ar_cond rfl trivial ?_ ?_ <;> intro hc_ <;> (try simp only [isNilI, inB, reduceCtorEq, cds] at hc_) <;> (try (first | contradiction | (exfalso; omega) | (exfalso; grind)))) | refine ar_until (And.intro ?_ (wk3 ?_)))
      all_goals (first | refine ar_id ?_ | (try (focus ((try refine nrmO ?_); (repeat' (first | exact True.intro | refine And.intro ?_ ?_)); all_goals (try (intro (hg_ : _ = true); (try simp only [isNilI, inB, reduceCtorEq, cds] at hg_); (repeat' (first | exact True.intro | refine And.intro ?_ ?_)))); all_goals (first | exact ob1 | exact fn_OverI _ | skip)))))
      all_goals first | (rw [hfin hc_]; done) | (rw [hfin2 hc_]; done)
    · have hd : decide (overJ (S n).2) = false := decide_eq_false hR
      repeat' (refine ar_id ?_; first | refine st1 ?_ | (refine ar_drawS (id := 9) tt_ok (by kernel_rfl) [] ?_; refine ed_hide ?_; intro K_ hK_; repeat' (first | ((first | refine ed_call3 ?_ | refine ed_sure3 ?_ | refine ed_cons3 ?_); refine ed_hide ?_; intro K_ hK_; (try dsimp only [c_JStepI, c_OverI]); (try refine nrmE ?_)) | (refine ed_nil ?_; (repeat subst hK_); dsimp only; refine Exists.intro _ (And.intro rfl (And.intro (by kernel_rfl) (And.intro ?_ ?_))); rotate_left; (try dsimp only [c_JStepI, c_OverI]); (try refine nrm ?_); rotate_right))) | (first | ((first | refine ar_region (id := 6) tt_ok (inps := [.call (c_OverI (S n).2)]) rfl ?_ ?_ | refine ar_region (id := 7) tt_ok (inps := [.call (c_JStepI s (S n).1 (S n).2 (S (n + 1)).1 (S (n + 1)).2)]) rfl ?_ ?_ | refine ar_region tt_ok (inps := []) rfl ?_ ?_); rotate_left; (try dsimp only [c_JStepI, c_OverI]); (try refine nrm ?_); rotate_right) | refine ret3 ?_ | refine end3 ?_) | (refine ar_cond rfl trivial ?_ ?_ <;> intro hc_ <;> (try simp only [isNilI, inB, reduceCtorEq, cds] at hc_) <;> (try (first | contradiction | (exfalso; omega) | (exfalso; grind)))) | refine ar_until (And.intro ?_ (wk3 ?_)))
      all_goals (first | refine ar_id ?_ | (try (focus ((try refine nrmO ?_); (repeat' (first | exact True.intro | refine And.intro ?_ ?_)); all_goals (try (intro (hg_ : _ = true); (try simp only [isNilI, inB, reduceCtorEq, cds] at hg_); (repeat' (first | exact True.intro | refine And.intro ?_ ?_)))); all_goals (first | exact ob1 | exact fn_OverI _ | exact fn_JStepI s _ _ _ _ hsn hln (hsucc n hR) | exact hgl_.1 | exact hgl_.2.1 | exact hgl_.2.2.1 | exact hgl_.2.2.2.1 | exact hgl_.2.2.2.2.1 | exact hgl_.2.2.2.2.2.1 | exact hgl_.2.2.2.2.2.2.1 | exact hgl_.2.2.2.2.2.2.2.1 | exact hgl_ | exact rfl | exact one1 rfl | skip)))))
      all_goals first | (rw [hfin hc_]; done) | (rw [hfin2 hc_]; done)
    all_goals (rw [h0])
  · rw [if_neg hm] at h
    obtain ⟨rfl, rfl⟩ := Prod.mk.inj h
    refine fn_intro tt_ok Tryz.func12 rfl Tryz.call12 Tryz.ntmps12 Tryz.results12 rfl rfl rfl rfl ?_
    intro X ρ0 hb_ hgl_
    dsimp only [c_JRunI]
    try refine nrm ?_
    repeat' (refine ar_id ?_; first | refine st1 ?_ | (refine ar_drawS (id := 1) tt_ok (by kernel_rfl) [.call (c_CopyKI k), .call (c_copyJI j)] ?_; refine ed_hide ?_; intro K_ hK_; repeat' (first | ((first | refine ed_call3 ?_ | refine ed_sure3 ?_ | refine ed_cons3 ?_); refine ed_hide ?_; intro K_ hK_; (try dsimp only [c_CopyKI, c_copyJI]); (try refine nrmE ?_)) | (refine ed_nil ?_; (repeat subst hK_); dsimp only; refine Exists.intro _ (And.intro rfl (And.intro (by kernel_rfl) (And.intro ?_ ?_))); rotate_left; (try dsimp only [c_CopyKI, c_copyJI]); (try refine nrm ?_); rotate_right))) | (refine ar_drawS (id := 3) tt_ok (by kernel_rfl) [] ?_; refine ed_hide ?_; intro K_ hK_; repeat' (first | ((first | refine ed_call3 ?_ | refine ed_sure3 ?_ | refine ed_cons3 ?_); refine ed_hide ?_; intro K_ hK_; (try dsimp only [c_CopyKI, c_copyJI]); (try refine nrmE ?_)) | (refine ed_nil ?_; (repeat subst hK_); dsimp only; refine Exists.intro _ (And.intro rfl (And.intro (by kernel_rfl) (And.intro ?_ ?_))); rotate_left; (try dsimp only [c_CopyKI, c_copyJI]); (try refine nrm ?_); rotate_right))) | (first | ((first | refine ar_region tt_ok (inps := []) rfl ?_ ?_); rotate_left; (try dsimp only [c_CopyKI, c_copyJI]); (try refine nrm ?_); rotate_right) | refine ret3 ?_ | refine end3 ?_) | (refine ar_cond rfl trivial ?_ ?_ <;> intro hc_ <;> (try simp only [isNilI, inB, reduceCtorEq, cds] at hc_) <;> (try (first | contradiction | (exfalso; omega) | (exfalso; exact hm ⟨by omega, by omega⟩)))) | refine ar_until (And.intro ?_ (wk3 ?_)))
    all_goals (first | refine ar_id ?_ | (try (focus ((try refine nrmO ?_); (repeat' (first | exact True.intro | refine And.intro ?_ ?_)); all_goals (try (intro (hg_ : _ = true); (try simp only [isNilI, inB, reduceCtorEq, cds] at hg_); (repeat' (first | exact True.intro | refine And.intro ?_ ?_)))); all_goals (first | exact ob1 | exact hcp | exact fn_copyJI j hl | skip)))))
    all_goals trace_state
end Eng
end Go.Proofs.YtlkkiopjknbomaaGreatDoor
namespace Go.Proofs.YtlkkiopjknbomaaGreatDoor
open Go.RowKit
set_option linter.unusedVariables false
namespace Eng
open Tr
theorem okF_sz {f : GFrames} (h : okF f) : f.Cells.length ≤ 32 ∧ f.Used.length ≤ 32 ∧ ∀ r ∈ f.Cells, r.length ≤ 16 := by
  refine ⟨h.1.2, by have := h.1.2; have := h.2.1; omega, fun r hr => ?_⟩
  obtain ⟨i, hi⟩ := List.getElem?_of_mem hr
  have hl := (List.getElem?_eq_some_iff.1 hi).1
  have hu : f.Used[i]? = some (f.Used.getD i false) := getD_at (by have := h.2.1; omega)
  have := h.2.2 _ (List.mem_of_getElem? (zip_at hi hu))
  have := this.1
  show r.length ≤ 16
  simp only at this
  omega
theorem okK_sz {k : GKernel} (h : okK k) : szK k := by
  obtain ⟨h1, h2, h3⟩ := okF_sz h.1.1
  have h4 := h.1.2.1
  unfold pTableOk at h4
  have h5 := of_decide_eq_true h4
  exact ⟨⟨by omega, by omega, fun r hr => by have := h3 r hr; omega, by omega⟩, by have := h.2.2.2; omega⟩
end Eng
end Go.Proofs.YtlkkiopjknbomaaGreatDoor
namespace Go.Proofs.YtlkkiopjknbomaaGreatDoor
open Go.RowKit
set_option linter.unusedVariables false
set_option linter.unusedSimpArgs false
set_option maxRecDepth 100000
namespace Eng
open Tr
def c_PTextS (m : GMachine) (page : Int) (t : List Int) : CFD := ⟨15, [.agg [ro 33 1 eIntS m.Frames.Cells, ro 4 1 Tr.eB m.Frames.Used, ro 45 2 eEntry m.Table.Entries], (SV.one (.lit (.int .i64 (page))))], [], .sv (.one (.hd 0)), [(0, some (.row 3 1 (t.map Tr.eI)))], [0], []⟩
theorem fn_PTextS (m : GMachine) (page : Int) (t : List Int) (hs : szM7 m) (h : pPageText m page = t) : Fn Tryz.prog (c_PTextS m page t) := by
  unfold pPageText at h
  by_cases hcm : okM m ∧ (pPageEntry m.Table page).Mode ≠ 0
  · obtain ⟨f, hf, h1, h2, h3, h4⟩ := okM_entry hcm.1 hcm.2
    have hok : pMachineOk m = true := decide_eq_true hcm.1
    have hmd := hcm.2
    rw [if_pos hcm, hf, Int.toNat_natCast] at h
    rw [h] at h3 h4
    have hF : 0 ≤ (pPageEntry m.Table page).Frame ∧ (pPageEntry m.Table page).Frame < (m.Frames.Cells.length : Int) := by omega
    have h5 : m.Frames.Cells[(pPageEntry m.Table page).Frame.toNat]? = some t := by rw [hf, Int.toNat_natCast]; exact h4
    have hel : Elem (D.cat (m.Frames.Cells.map eIntS)) 1 m.Frames.Cells.length (pPageEntry m.Table page).Frame.toNat (eIntS t) := elem_map (fun _ => rfl) h5
    refine fn_intro tt_ok Tryz.func15 rfl Tryz.call15 Tryz.ntmps15 Tryz.results15 rfl rfl rfl rfl ?_
    intro X ρ0 hb_ hgl_
    dsimp only [c_PTextS]
    try refine nrm ?_
    repeat' (refine ar_id ?_; first | refine st1 ?_ | (first | ((first | refine ar_region (id := 1) tt_ok (inps := [.call (c_PageEntry m.Table page)]) rfl ?_ ?_ | refine ar_region (id := 2) tt_ok (inps := [.call (c_MOk m)]) rfl ?_ ?_ | refine ar_region (id := 4) tt_ok (inps := [.elem (eIntS t), .elems (t.map Tr.eI)]) rfl ?_ ?_ | refine ar_region tt_ok (inps := []) rfl ?_ ?_); rotate_left; (try dsimp only [c_MOk, c_PageEntry]); (try refine nrm ?_); rotate_right) | refine ret3 ?_ | refine end3 ?_) | (refine ar_cond rfl trivial ?_ ?_ <;> intro hc_ <;> (try simp only [isNilI, inB, reduceCtorEq, cds] at hc_) <;> (try (first | contradiction | (exfalso; omega) | (exfalso; grind)))) | refine ar_until (And.intro ?_ (wk3 ?_)))
    all_goals (first | refine ar_id ?_ | (try (focus ((try refine nrmO ?_); (repeat' (first | exact True.intro | refine And.intro ?_ ?_)); all_goals (try (intro (hg_ : _ = true); (try simp only [isNilI, inB, reduceCtorEq, cds] at hg_); (repeat' (first | exact True.intro | refine And.intro ?_ ?_)))); all_goals (first | exact ob1 | exact fn_PageEntry _ _ hs.e | exact fn_MOk m hs | exact hel | exact flat_map' t (fun x => ⟨rfl, rfl, trivial⟩) | skip)))))
    all_goals trace_state
  · rw [if_neg hcm] at h
    subst h
    have hcm' : ¬ (pMachineOk m = true ∧ (pPageEntry m.Table page).Mode ≠ 0) := fun hh => hcm ⟨of_decide_eq_true hh.1, hh.2⟩
    refine fn_intro tt_ok Tryz.func15 rfl Tryz.call15 Tryz.ntmps15 Tryz.results15 rfl rfl rfl rfl ?_
    intro X ρ0 hb_ hgl_
    dsimp only [c_PTextS]
    try refine nrm ?_
    repeat' (refine ar_id ?_; first | refine st1 ?_ | (first | ((first | refine ar_region (id := 1) tt_ok (inps := [.call (c_PageEntry m.Table page)]) rfl ?_ ?_ | refine ar_region (id := 2) tt_ok (inps := [.call (c_MOk m)]) rfl ?_ ?_ | refine ar_region tt_ok (inps := []) rfl ?_ ?_); rotate_left; (try dsimp only [c_MOk, c_PageEntry]); (try refine nrm ?_); rotate_right) | refine ret3 ?_ | refine end3 ?_) | (refine ar_cond rfl trivial ?_ ?_ <;> intro hc_ <;> (try simp only [isNilI, inB, reduceCtorEq, cds] at hc_) <;> (try (first | contradiction | (exfalso; omega) | (exfalso; exact hcm' ⟨by grind, by grind⟩)))) | refine ar_until (And.intro ?_ (wk3 ?_)))
    all_goals (first | refine ar_id ?_ | (try (focus ((try refine nrmO ?_); (repeat' (first | exact True.intro | refine And.intro ?_ ?_)); all_goals (try (intro (hg_ : _ = true); (try simp only [isNilI, inB, reduceCtorEq, cds] at hg_); (repeat' (first | exact True.intro | refine And.intro ?_ ?_)))); all_goals (first | exact ob1 | exact fn_PageEntry _ _ hs.e | exact fn_MOk m hs | skip)))))
    all_goals trace_state
end Eng
end Go.Proofs.YtlkkiopjknbomaaGreatDoor
namespace Go.Proofs.YtlkkiopjknbomaaGreatDoor
open Go.RowKit
set_option linter.unusedVariables false
set_option linter.unusedSimpArgs false
set_option maxRecDepth 100000
namespace Eng
open Tr
theorem szK8_of_ok {k : GKernel} (h : okK k) : szK8 k := by
  have := okK_sz h
  exact ⟨⟨this.m.c, this.m.u, this.m.r, this.m.e⟩, this.r⟩
def c_DrawPR (bs : List Int) (k : GKernel) (p : GPlan) : CFD := ⟨9, [.one (ro 5 1 eU bs)], [], .tup [.agg [.hd 0, .hd 1, .hd 2, (CV.lit (.int .i64 (k.Calls))), .hd 3], .agg [(CV.lit (.int .i64 (p.Keep))), (CV.lit (.int .i64 (p.Move))), .hd 4]], [(0, some (.row 33 1 (k.Machine.Frames.Cells.map eIntS))), (1, some (.row 4 1 (k.Machine.Frames.Used.map Tr.eB))), (2, some (.row 45 2 (k.Machine.Table.Entries.map eEntry))), (3, some (.row 3 1 (k.Refuse.map Tr.eI))), (4, some (.row 3 1 (p.Cells.map Tr.eI)))], [0, 1, 2, 3, 4], []⟩
theorem fn_DrawPR (bs : List Int) (k : GKernel) (p : GPlan) (hl : bs.length ≤ 2097152) (hb : ∀ x ∈ bs, 0 ≤ x ∧ x ≤ 255) (hk : (dPair bs (dNew bs)).1.1 = k) (hp : (dPair bs (dNew bs)).1.2 = p) : Fn Tryz.prog (c_DrawPR bs k p) := by
  obtain ⟨r, hr⟩ : ∃ r, dPair bs (dNew bs) = r := ⟨_, rfl⟩
  rw [hr] at hk hp
  subst hk hp
  refine fn_intro tt_ok Tryz.func9 rfl Tryz.call9 Tryz.ntmps9 Tryz.results9 rfl rfl rfl rfl ?_
  intro X ρ0 hb_ hgl_
  dsimp only [c_DrawPR]
  try refine nrm ?_
  repeat' (refine ar_id ?_; first | refine st1 ?_ | (first | ((first | refine ar_region (id := 1) tt_ok (inps := [.call (c_NewC bs), .call (c_PairR bs (dNew bs) r)]) rfl ?_ ?_ | refine ar_region tt_ok (inps := []) rfl ?_ ?_); rotate_left; (try dsimp only [c_NewC, c_PairR]); (try refine nrm ?_); rotate_right) | refine ret3 ?_ | refine end3 ?_) | (refine ar_cond rfl trivial ?_ ?_ <;> intro hc_ <;> (try simp only [isNilI, inB, reduceCtorEq, cds] at hc_) <;> (try (first | contradiction | (exfalso; omega)))) | refine ar_until (And.intro ?_ (wk3 ?_)))
  all_goals (first | refine ar_id ?_ | (try (focus ((try refine nrmO ?_); (repeat' (first | exact True.intro | refine And.intro ?_ ?_)); all_goals (try (intro (hg_ : _ = true); (try simp only [isNilI, inB, reduceCtorEq, cds] at hg_); (repeat' (first | exact True.intro | refine And.intro ?_ ?_)))); all_goals (first | exact ob1 | exact fn_NewC bs hl hb | exact fn_PairR _ _ _ (dNew_ok hl hb) hr | skip)))))
  all_goals trace_state
def c_JNewR (p : GPlan) (j : GJob) (b : Bool) : CFD := ⟨10, [.agg [(CV.lit (.int .i64 (p.Keep))), (CV.lit (.int .i64 (p.Move))), ro 3 1 Tr.eI p.Cells]], [], .tup [.agg [(CV.lit (.int .i64 (j.Plan.Keep))), (CV.lit (.int .i64 (j.Plan.Move))), .hd 0, (CV.lit (.int .i64 (j.Phase))), (CV.lit (.int .i64 (j.Next)))], (SV.one (.lit (.bool (b))))], [(0, some (.row 3 1 (j.Plan.Cells.map Tr.eI)))], [0], []⟩
theorem fn_JNewR (p : GPlan) (j : GJob) (b : Bool) (hl : p.Cells.length ≤ 1048576) (h : pJobNew p = (j, b)) : Fn Tryz.prog (c_JNewR p j b) := by
  have := fn_JobNewI p hl
  unfold c_JobNewI at this
  rw [h] at this
  exact this
def c_JNewSR (p : GPlan) (j : GJob) (b : Bool) : CFD := ⟨21, [.agg [(CV.lit (.int .i64 (p.Keep))), (CV.lit (.int .i64 (p.Move))), ro 3 1 Tr.eI p.Cells]], [], .tup [.agg [(CV.lit (.int .i64 (j.Plan.Keep))), (CV.lit (.int .i64 (j.Plan.Move))), .hd 0, (CV.lit (.int .i64 (j.Phase))), (CV.lit (.int .i64 (j.Next)))], (SV.one (.lit (.bool (b))))], [(0, some (.row 3 1 (j.Plan.Cells.map Tr.eI)))], [0], []⟩
theorem fn_JNewSR (p : GPlan) (j : GJob) (b : Bool) (hl : p.Cells.length ≤ 1048576) (h : pJobNew p = (j, b)) : Fn Tryz.prog (c_JNewSR p j b) := by
  have := fn_JobNewS p hl
  unfold c_JobNewS at this
  rw [h] at this
  exact this
def c_sameJ (a : GJob) : CFD := ⟨25, [.agg [(CV.lit (.int .i64 (a.Plan.Keep))), (CV.lit (.int .i64 (a.Plan.Move))), ro 3 1 Tr.eI a.Plan.Cells, (CV.lit (.int .i64 (a.Phase))), (CV.lit (.int .i64 (a.Next)))], .agg [(CV.lit (.int .i64 (a.Plan.Keep))), (CV.lit (.int .i64 (a.Plan.Move))), ro 3 1 Tr.eI a.Plan.Cells, (CV.lit (.int .i64 (a.Phase))), (CV.lit (.int .i64 (a.Next)))]], [], (TV.sv (.one (.lit (.bool (true))))), [], [], []⟩
theorem fn_sameJ (a : GJob) (hl : a.Plan.Cells.length ≤ 1048576) : Fn Tryz.prog (c_sameJ a) := by
  refine fn_intro tt_ok Tryz.func25 rfl Tryz.call25 Tryz.ntmps25 Tryz.results25 rfl rfl rfl rfl ?_
  intro X ρ0 hb_ hgl_
  dsimp only [c_sameJ]
  try refine nrm ?_
  repeat' (refine ar_id ?_; first | refine st1 ?_ | (first | ((first | refine ar_region (id := 1) tt_ok (inps := [.call (c_sameI a.Plan.Cells a.Plan.Cells)]) rfl ?_ ?_ | refine ar_region tt_ok (inps := []) rfl ?_ ?_); rotate_left; (try dsimp only [c_sameI]); (try refine nrm ?_); rotate_right) | refine ret3 ?_ | refine end3 ?_) | (refine ar_cond rfl trivial ?_ ?_ <;> intro hc_ <;> (try simp only [isNilI, inB, reduceCtorEq, cds] at hc_) <;> (try (first | contradiction | (exfalso; omega)))) | refine ar_until (And.intro ?_ (wk3 ?_)))
  all_goals (first | refine ar_id ?_ | (try (focus ((try refine nrmO ?_); (repeat' (first | exact True.intro | refine And.intro ?_ ?_)); all_goals (try (intro (hg_ : _ = true); (try simp only [isNilI, inB, reduceCtorEq, cds] at hg_); (repeat' (first | exact True.intro | refine And.intro ?_ ?_)))); all_goals (first | exact ob1 | exact fn_sameI _ _ hl | skip)))))
  all_goals (simp; done)
def c_JParts (s : Se) (bs : List Int) : CFD := ⟨5, [.one (ro 5 1 eU bs)], [], (TV.sv (.one (.lit (.bool (true))))), [], [], s.gl⟩
theorem run_most {k : GKernel} {j : GJob} {a : Int} (h0 : 0 ≤ a) (h1 : a ≤ 200) {s : GKernel × GJob} (hs : runJ a.toNat (k, j) = s) : pJobRun k j a = (s.1, s.2) := by
  unfold pJobRun
  rw [if_pos ⟨h0, h1⟩, hs]
set_option maxHeartbeats 4000000 in
theorem fn_JParts (s : Se) (bs : List Int) (hb : ∀ x ∈ bs, 0 ≤ x ∧ x ≤ 255) : Fn Tryz.prog (c_JParts s bs) := by
  by_cases hl : (1048576 : Int) < (bs.length : Int)
  · have hd := decide_eq_true hl
    refine fn_intro tt_ok Tryz.func5 rfl Tryz.call5 Tryz.ntmps5 Tryz.results5 rfl rfl rfl rfl ?_
    intro X ρ0 hb_ hgl_
    dsimp only [c_JParts]
    try refine nrm ?_
    repeat' (refine ar_id ?_; first | refine st1 ?_ | (first | ((first | refine ar_region (id := 1) tt_ok (inps := [.call (c_big bs)]) rfl ?_ ?_ | refine ar_region tt_ok (inps := []) rfl ?_ ?_); rotate_left; (try dsimp only [c_big]); (try refine nrm ?_); rotate_right) | refine ret3 ?_ | refine end3 ?_) | (refine ar_cond rfl trivial ?_ ?_ <;> intro hc_ <;> (try simp only [isNilI, inB, reduceCtorEq, cds] at hc_) <;> (try (first | contradiction | (exfalso; omega)))) | refine ar_until (And.intro ?_ (wk3 ?_)))
    all_goals (first | refine ar_id ?_ | (try (focus ((try refine nrmO ?_); (repeat' (first | exact True.intro | refine And.intro ?_ ?_)); all_goals (try (intro (hg_ : _ = true); (try simp only [isNilI, inB, reduceCtorEq, cds] at hg_); (repeat' (first | exact True.intro | refine And.intro ?_ ?_)))); all_goals (first | exact ob1 | exact fn_big bs | skip)))))
  · have hl' : bs.length ≤ 2097152 := by omega
    obtain ⟨p0, hp0⟩ : ∃ p, (places bs).getD 0 0 = p := ⟨_, rfl⟩
    obtain ⟨p1, hp1⟩ : ∃ p, (places bs).getD 1 0 = p := ⟨_, rfl⟩
    have hq0 : 0 ≤ p0 ∧ p0 < 10000 := hp0 ▸ plV_lt bs 0
    have hq1 : 0 ≤ p1 ∧ p1 < 10000 := hp1 ▸ plV_lt bs 1
    have hpl : (places bs).length = 12 := by unfold places; simp
    have e0 : ((places bs).map eI)[0]? = some (eI p0) := by rw [← hp0]; exact map_at (by omega)
    have e1 : ((places bs).map eI)[1]? = some (eI p1) := by rw [← hp1]; exact map_at (by omega)
    obtain ⟨g1, g2, g3, g4, g5⟩ := dPair_facts (dNew_ok hl' hb)
    obtain ⟨k, hk⟩ : ∃ k, (dPair bs (dNew bs)).1.1 = k := ⟨_, rfl⟩
    obtain ⟨p, hp⟩ : ∃ p, (dPair bs (dNew bs)).1.2 = p := ⟨_, rfl⟩
    have hdraw := fn_DrawPR bs k p hl' hb hk hp
    rw [hk] at g1 g2 g5
    rw [hp] at g3
    clear hk hp
    have hcl := asc_len g3.2.2.2
    have hjn : pJobNew p = (⟨p, 0, 0⟩, true) := if_pos g3
    obtain ⟨a, ha⟩ : ∃ a, p0.tmod 15 = a := ⟨_, rfl⟩
    obtain ⟨b, hb'⟩ : ∃ b, p1.tmod 15 = b := ⟨_, rfl⟩
    have ha0 : 0 ≤ a ∧ a < 15 := by rw [← ha, Int.tmod_eq_emod_of_nonneg hq0.1]; omega
    have hb0 : 0 ≤ b ∧ b < 15 := by rw [← hb', Int.tmod_eq_emod_of_nonneg hq1.1]; omega
    obtain ⟨s1, hs1⟩ : ∃ s1, runJ a.toNat (k, ⟨p, 0, 0⟩) = s1 := ⟨_, rfl⟩
    obtain ⟨s2, hs2⟩ : ∃ s2, runJ b.toNat (s1.1, s1.2) = s2 := ⟨_, rfl⟩
    have hs3 : runJ (a + b).toNat (k, ⟨p, 0, 0⟩) = s2 := by rw [show (a + b).toNat = a.toNat + b.toNat by omega, runJ_add, hs1]; exact hs2
    have z1 := sz_run k ⟨p, 0, 0⟩ a.toNat
    rw [hs1] at z1
    have z2 := sz_run k ⟨p, 0, 0⟩ (a + b).toNat
    rw [hs3] at z2
    have y1 := szK8_same g5 z1.1 z1.2.1
    have y2 := szK8_same g5 z2.1 z2.2.1
    have l1 : s1.2.Plan.Cells.length ≤ 1048576 := by rw [z1.2.2]; show p.Cells.length ≤ _; omega
    have l2 : s2.2.Plan.Cells.length ≤ 1048576 := by rw [z2.2.2]; show p.Cells.length ≤ _; omega
    have hact : pJobActive ⟨p, 1, 0⟩ = true := decide_eq_true ⟨⟨g3, ⟨(by decide : (0 : Int) ≤ 1), (by decide : (1 : Int) ≤ 5)⟩, Int.le_refl _, by dsimp only; omega⟩, (by decide : (1 : Int) ≤ 1), (by decide : (1 : Int) ≤ 3)⟩
    refine fn_intro tt_ok Tryz.func5 rfl Tryz.call5 Tryz.ntmps5 Tryz.results5 rfl rfl rfl rfl ?_
    intro X ρ0 hb_ hgl_
    dsimp only [c_JParts]
    try refine nrm ?_
    repeat' (refine ar_id ?_; first | refine st1 ?_ | (first | ((first | refine ar_region (id := 1) tt_ok (inps := [.call (c_big bs)]) rfl ?_ ?_ | refine ar_region (id := 3) tt_ok (inps := [.call (c_DrawPR bs k p)]) rfl ?_ ?_ | refine ar_region (id := 4) tt_ok (inps := [.call (c_Places bs)]) rfl ?_ ?_ | refine ar_region (id := 5) tt_ok (inps := [.call (c_JNewSR p ⟨p, 0, 0⟩ true)]) rfl ?_ ?_ | refine ar_region (id := 6) tt_ok (inps := [.elem (eI p0)]) rfl ?_ ?_ | refine ar_region (id := 7) tt_ok (inps := [.elem (eI p1)]) rfl ?_ ?_ | refine ar_region (id := 8) tt_ok (inps := [.call (c_JRunI s k ⟨p, 0, 0⟩ a s1.1 s1.2)]) rfl ?_ ?_ | refine ar_region (id := 9) tt_ok (inps := [.call (c_JRunI s s1.1 s1.2 b s2.1 s2.2)]) rfl ?_ ?_ | refine ar_region (id := 10) tt_ok (inps := [.call (c_JRunI s k ⟨p, 0, 0⟩ (a + b) s2.1 s2.2)]) rfl ?_ ?_ | refine ar_region (id := 11) tt_ok (inps := [.call (c_sameM s2.1.Machine s2.1.Machine), .call (c_sameJ s2.2), .call (c_ActI ⟨p, 1, 0⟩)]) rfl ?_ ?_ | refine ar_region tt_ok (inps := []) rfl ?_ ?_); rotate_left; (try dsimp only [c_ActI, c_DrawPR, c_JNewSR, c_JRunI, c_Places, c_big, c_sameJ, c_sameM]); (try refine nrm ?_); rotate_right) | refine ret3 ?_ | refine end3 ?_) | (refine ar_cond rfl trivial ?_ ?_ <;> intro hc_ <;> (try simp only [isNilI, inB, reduceCtorEq, cds] at hc_) <;> (try (first | contradiction | (exfalso; omega)))) | refine ar_until (And.intro ?_ (wk3 ?_)))
    all_goals (first | refine ar_id ?_ | (try (focus ((try refine nrmO ?_); (repeat' (first | exact True.intro | refine And.intro ?_ ?_)); all_goals (try (intro (hg_ : _ = true); (try simp only [isNilI, inB, reduceCtorEq, cds] at hg_); (repeat' (first | exact True.intro | refine And.intro ?_ ?_)))); all_goals (first | exact ob1 | exact fn_big bs | exact hdraw | exact fn_Places bs hl' hb | exact fn_JNewSR _ _ _ (by omega) hjn | exact e0 | exact e1 | exact congrArg (Value.int .i64) ha | exact congrArg (Value.int .i64) hb' | exact fn_JRunI s _ _ _ _ _ g5 (by show p.Cells.length ≤ _; omega) (run_most ha0.1 (by omega) hs1) | exact fn_JRunI s _ _ _ _ _ y1 l1 (run_most hb0.1 (by omega) hs2) | exact fn_JRunI s _ _ _ _ _ g5 (by show p.Cells.length ≤ _; omega) (run_most (by omega) (by omega) hs3) | exact fn_sameM _ _ y2.m.c y2.m.u y2.m.e y2.m.r | exact fn_sameJ _ l2 | exact fn_ActI ⟨p, 1, 0⟩ (by show p.Cells.length ≤ _; omega) | exact hgl_.1 | exact hgl_.2.1 | exact hgl_.2.2.1 | exact hgl_.2.2.2.1 | exact hgl_.2.2.2.2.1 | exact hgl_.2.2.2.2.2.1 | exact hgl_.2.2.2.2.2.2.1 | exact hgl_.2.2.2.2.2.2.2.1 | exact hgl_ | exact rfl | exact one1 rfl | skip)))))
    all_goals (rw [sameM_refl, hact, beq_self_eq_true]; rfl)
end Eng
end Go.Proofs.YtlkkiopjknbomaaGreatDoor
namespace Go.Proofs.YtlkkiopjknbomaaGreatDoor
open Go.RowKit Go.ChangeShapes
namespace LaidS
/-- a list that opens with sentinels: their pointers, all different, and the blocks that hold them -/
theorem vars {P : Program} {nm : String} {W : World} {ti tp te ts : TypeId} {ms : Array (String × TypeId)} {f : Field}
    (hi : P.underlying ti = some (.interface ms)) (hrow : ∀ u, P.typeName? 3 u = some nm → u = tp)
    (hp : P.underlying tp = some (.pointer te)) (he : P.underlying te = some (.struct #[f])) (hft : f.type = ts) (hfo : f.offset = 0) (hs : P.underlying ts = some .string) (hc : P.cellsOf te = 1) (hcs : P.cellsOf ts = 1) :
    ∀ (L : List (String × List UInt8 × Nat)) (r : List (String × DataW Unit)) (ps : List MemPlace), DataW.LaidVars P W (L.map (fun x => (x.1, .iface nm (.ptr (.agg [.lit (.string x.2.1)])))) ++ r) ps → ps.Nodup →
      (∀ b off, MemPlace.cell b off ∈ ps → (∃ c t, W.heap[b]? = some (.cells c t (0, 0))) ∧ ∀ u v, W.cell? ⟨b, off, none⟩ = some (.iface u v) → Value.okWide P W .any 0 u v) →
      (∀ x ∈ L, P.globalNamed x.1 = some x.2.2 ∧ (P.globals[x.2.2]?).map (·.type) = some ti) →
      ∃ as0 : List Addr, as0.length = L.length ∧ as0.Nodup ∧ (∀ a ∈ as0, MemPlace.cell a.block a.off ∈ ps) ∧
        ∀ (i : Nat) x a, L[i]? = some x → as0[i]? = some a → (∃ ty, W.heap[x.2.2]? = some (.cells #[.iface tp (.pointer (some a))] ty (0, 0))) ∧ ∃ c t, W.heap[a.block]? = some (.cells c t (0, 0))
  | [], _, _, _, _, _, _ => ⟨[], rfl, List.nodup_nil, fun _ h => (by cases h), fun i x a h => by simp at h⟩
  | (n, text, g) :: L, r, ps, hv, hnd, hrows, hg => by
    obtain ⟨g0, t0, cs0, f0, p0, q0, hg0, ht0, hv0, hd0, hq0, e0⟩ := hv
    obtain ⟨hg1, ht1⟩ := hg (n, text, g) (by simp)
    obtain rfl := Option.some.inj (hg1.symm.trans hg0)
    obtain rfl := Option.some.inj (ht1.symm.trans ht0)
    subst e0
    obtain ⟨l0⟩ := cs0
    have ok0 : ∀ u v, l0 = [.iface u v] → Value.okWide P W .any 0 u v := fun u v e => by
      subst e
      exact (hrows g 0 (by simp [MemPlace.row])).2 u v (by simpa using World.var?_cell hg0 hv0 0)
    obtain ⟨a0, s0, rfl, hc0, _, _, rfl⟩ := errorString_of_trod hi hrow hp he hft hfo hs hc hcs hd0 ok0
    have hr0 : MemPlace.row a0 1 = [MemPlace.cell a0.block a0.off] := by simp [MemPlace.row]
    rw [hr0] at hnd hrows
    rw [List.nodup_append] at hnd
    obtain ⟨_, hnd2, hnd3⟩ := hnd
    obtain ⟨as0, h1, h2, h3, h4⟩ := vars hi hrow hp he hft hfo hs hc hcs L r q0 hq0 hnd2 (fun b off hm => hrows b off (List.mem_append_right _ hm)) (fun x hx => hg x (by simp [hx]))
    refine ⟨a0 :: as0, by simp [h1], ?_, ?_, ?_⟩
    · rw [List.nodup_cons]
      exact ⟨fun hm => hnd3 _ (by simp) _ (h3 a0 hm) rfl, h2⟩
    · intro a ha
      rw [List.mem_cons] at ha
      rcases ha with rfl | ha
      · rw [hr0]; simp
      · exact List.mem_append_right _ (h3 a ha)
    · intro i x a hx ha
      cases i with
      | zero =>
        simp at hx ha
        subst hx ha
        refine ⟨?_, (hrows a0.block a0.off (by simp)).1⟩
        obtain ⟨c, t, hb⟩ := (hrows g 0 (by simp [MemPlace.row])).1
        have : c = #[.iface tp (.pointer (some a0))] := by
          have hv1 := hv0
          unfold World.var? at hv1
          rw [hg0, Option.bind_some, hb] at hv1
          exact Option.some.inj hv1
        exact ⟨t, this ▸ hb⟩
      | succ i => exact h4 i x a (by simpa using hx) (by simpa using ha)
/-- the sentinels that the variables' blocks gs hold -/
def At (tp : TypeId) (gs : List Nat) (w : World) : Prop :=
  ∃ as0 : List Addr, as0.length = gs.length ∧ as0.Nodup ∧ ∀ (i : Nat) g a, gs[i]? = some g → as0[i]? = some a → (∃ ty, w.heap[g]? = some (.cells #[.iface tp (.pointer (some a))] ty (0, 0))) ∧ ∃ c t, w.heap[a.block]? = some (.cells c t (0, 0))
theorem lt_of {w : World} {g : Nat} {o : Obj} (h : w.heap[g]? = some o) : g < w.heap.size := by
  rcases Nat.lt_or_ge g w.heap.size with h1 | h1
  · exact h1
  · rw [Array.getElem?_eq_none h1] at h; cases h
theorem at_of {P : Program} {nm : String} {W : World} {ti tp te ts : TypeId} {ms : Array (String × TypeId)} {f : Field} {L : List (String × List UInt8 × Nat)} {r : List (String × DataW Unit)}
    (h : laidMet P (L.map (fun x => (x.1, .iface nm (.ptr (.agg [.lit (.string x.2.1)])))) ++ r) W)
    (hi : P.underlying ti = some (.interface ms)) (hrow : ∀ u, P.typeName? 3 u = some nm → u = tp)
    (hp : P.underlying tp = some (.pointer te)) (he : P.underlying te = some (.struct #[f])) (hft : f.type = ts) (hfo : f.offset = 0) (hs : P.underlying ts = some .string) (hc : P.cellsOf te = 1) (hcs : P.cellsOf ts = 1)
    (hg : ∀ x ∈ L, P.globalNamed x.1 = some x.2.2 ∧ (P.globals[x.2.2]?).map (·.type) = some ti) : At tp (L.map (·.2.2)) W := by
  obtain ⟨ps, hv, hnd, hrows⟩ := h
  obtain ⟨as0, h1, h2, _, h4⟩ := vars hi hrow hp he hft hfo hs hc hcs L r ps hv hnd hrows hg
  refine ⟨as0, by simpa using h1, h2, fun i g a hgi ha => ?_⟩
  rw [List.getElem?_map] at hgi
  obtain ⟨x, hx, rfl⟩ := Option.map_eq_some_iff.1 hgi
  exact h4 i x a hx ha
end LaidS
end Go.Proofs.YtlkkiopjknbomaaGreatDoor
namespace Go.Proofs.YtlkkiopjknbomaaGreatDoor
open Go.RowKit
set_option linter.unusedVariables false
set_option maxRecDepth 100000
namespace Eng
open Tr
theorem gl_at {w : World} {g : Nat} {cs : List Value} {T : Nat} (h : w.heap[g]? = some (.cells cs.toArray T (0, 0))) : GlX (cxOf w) ⟨g, cs, T, (0, 0)⟩ := ⟨h, LaidS.lt_of h⟩
theorem gl_arr {w : World} {g : Nat} {c : Array Value} {T : Nat} (h : w.heap[g]? = some (.cells c T (0, 0))) : GlX (cxOf w) ⟨g, c.toList, T, (0, 0)⟩ := gl_at (by rw [Array.toArray_toList]; exact h)
theorem se3 {w : World} (h : LaidS.At 203 [0, 1, 2] w) : ∃ s : Se, GlAll (GlX (cxOf w)) s.gl := by
  obtain ⟨xs, h1, h2, h3⟩ := h
  match xs, h1, h2 with
  | [a, b, c], _, h2 =>
    obtain ⟨⟨t1, k1⟩, c1, u1, l1⟩ := h3 0 _ a rfl rfl
    obtain ⟨⟨t2, k2⟩, c2, u2, l2⟩ := h3 1 _ b rfl rfl
    obtain ⟨⟨t3, k3⟩, c3, u3, l3⟩ := h3 2 _ c rfl rfl
    simp only [List.nodup_cons, List.mem_cons, List.not_mem_nil, or_false, not_or] at h2
    exact ⟨⟨a, b, c, c1.toList, c2.toList, c3.toList, u1, u2, u3, t1, t2, t3, h2.1.1, h2.1.2, h2.2.1⟩, gl_at k1, gl_at k2, gl_at k3, gl_arr l1, gl_arr l2, gl_arr l3, trivial⟩
end Eng
end Go.Proofs.YtlkkiopjknbomaaGreatDoor
namespace Go.Proofs.YtlkkiopjknbomaaGreatDoor
open Go.RowKit
namespace Laid
def put (h : Array Obj) (g : Nat) (cs : Array Value) : Array Obj := h.modify g fun
  | .cells _ t frozen => .cells cs t frozen
  | o => o
noncomputable def world (os : Os) : World :=
  let w0 := World.holding Tryz.prog os ⟨#[.cells #[.string ⟨#[110, 111, 32, 112, 97, 103, 101, 32, 105, 115, 32, 109, 97, 112, 112, 101, 100, 32, 97, 116, 32, 116, 104, 101, 32, 97, 100, 100, 114, 101, 115, 115]⟩] 229, .cells #[.string ⟨#[116, 104, 101, 32, 112, 97, 103, 101, 32, 105, 115, 32, 109, 97, 112, 112, 101, 100, 32, 102, 111, 114, 32, 114, 101, 97, 100, 105, 110, 103, 32, 111, 110, 108, 121]⟩] 229, .cells #[.string ⟨#[116, 104, 101, 32, 118, 97, 108, 117, 101, 32, 105, 115, 32, 111, 117, 116, 32, 111, 102, 32, 114, 97, 110, 103, 101]⟩] 229], #[], []⟩
  let h0 := put w0.heap 0 #[.iface 203 (.pointer (some ⟨(World.settled Tryz.prog os).heap.size + 0, 0, none⟩))]
  let h1 := put h0 1 #[.iface 203 (.pointer (some ⟨(World.settled Tryz.prog os).heap.size + 1, 0, none⟩))]
  let h2 := put h1 2 #[.iface 203 (.pointer (some ⟨(World.settled Tryz.prog os).heap.size + 2, 0, none⟩))]
  { w0 with heap := h2 }
theorem laidOut : laidOutB Tryz.prog = true := by kernel_rfl
theorem vars_len {H : Type} {enc : TypeId × Value → H} {P : Program} {w : World} {sp : Nat → Bool} : ∀ {ns : List String} {gs : List (DataW H)} {ps : List MemPlace}, DataW.TrodVars enc P w sp ns gs ps → gs.length = ns.length
  | [], [], _, _ => rfl
  | [], _ :: _, _, h => h.elim
  | _ :: _, [], _, h => h.elim
  | _ :: _, _ :: _, _, h => by obtain ⟨_, _, _, _, _, _, _, _, _, _, h2, _⟩ := h; exact congrArg Nat.succ (vars_len h2)
theorem vars3 {H : Type} {enc : TypeId × Value → H} {P : Program} {w : World} {sp : Nat → Bool} {a b c : String} {gs : List (DataW H)} {ps : List MemPlace} (h : DataW.TrodVars enc P w sp [a, b, c] gs ps) : ∃ x y z, gs = [x, y, z] := by
  have e := vars_len h
  match gs, e with
  | [x, y, z], _ => exact ⟨x, y, z, rfl⟩
theorem star : "*" ++ "errors.errorString" = "*errors.errorString" := by decide
theorem rowStar (u : TypeId) (h : Tryz.prog.typeName? 3 u = some "*errors.errorString") : u = 203 :=
  typeName_ptr_named (nm := "errors.errorString") (by rw [star]; kernel_rfl) (by kernel_rfl) (by decide) u (by rw [star]; exact h)
structure LErrPageErrWriteErrValue (w : World) : Prop where
  sents : LaidS.At 203 [0, 1, 2] w
theorem has_0 {W : World} (h : laidMetH Tryz.prog [("loop.example/g00978/impl.errPage", Rows.laid_loop_example_g00978_impl_errPage), ("loop.example/g00978/impl.errWrite", Rows.laid_loop_example_g00978_impl_errWrite), ("loop.example/g00978/impl.errValue", Rows.laid_loop_example_g00978_impl_errValue)] W) : LErrPageErrWriteErrValue W := by
  have h' : laidMet Tryz.prog [("loop.example/g00978/impl.errPage", Rows.laid_loop_example_g00978_impl_errPage), ("loop.example/g00978/impl.errWrite", Rows.laid_loop_example_g00978_impl_errWrite), ("loop.example/g00978/impl.errValue", Rows.laid_loop_example_g00978_impl_errValue)] W := h
  have f_sents := LaidS.at_of (L := [("loop.example/g00978/impl.errPage", [110, 111, 32, 112, 97, 103, 101, 32, 105, 115, 32, 109, 97, 112, 112, 101, 100, 32, 97, 116, 32, 116, 104, 101, 32, 97, 100, 100, 114, 101, 115, 115], 0), ("loop.example/g00978/impl.errWrite", [116, 104, 101, 32, 112, 97, 103, 101, 32, 105, 115, 32, 109, 97, 112, 112, 101, 100, 32, 102, 111, 114, 32, 114, 101, 97, 100, 105, 110, 103, 32, 111, 110, 108, 121], 1), ("loop.example/g00978/impl.errValue", [116, 104, 101, 32, 118, 97, 108, 117, 101, 32, 105, 115, 32, 111, 117, 116, 32, 111, 102, 32, 114, 97, 110, 103, 101], 2)]) (r := []) h' Tryz.underlying92 rowStar Tryz.underlying203 Tryz.underlying229 rfl rfl Tryz.underlying9 (by kernel_rfl) (by kernel_rfl) (by intro x hx; simp only [List.mem_cons, List.not_mem_nil, or_false] at hx; rcases hx with rfl | rfl | rfl <;> exact ⟨by kernel_rfl, by kernel_rfl⟩)
  exact { sents := f_sents }
end Laid
end Go.Proofs.YtlkkiopjknbomaaGreatDoor
namespace Go.Proofs.YtlkkiopjknbomaaGreatDoor
open Go.RowKit
set_option linter.unusedVariables false
set_option linter.unusedSimpArgs false
set_option maxRecDepth 100000
namespace Eng
open Tr
/-- the page found for cell i among the plan's first n cells -/
def pgN (p : GPlan) (i : Int) : Nat → Int
  | 0 => p.Keep
  | n + 1 => if p.Cells.getD n 0 = i then p.Move else pgN p i n
theorem pgN_all (p : GPlan) (i : Nat) : ∀ n, ((∃ m, m < n ∧ p.Cells.getD m 0 = (i : Int)) ∧ pgN p i n = p.Move) ∨ ((¬ ∃ m, m < n ∧ p.Cells.getD m 0 = (i : Int)) ∧ pgN p i n = p.Keep)
  | 0 => .inr ⟨fun ⟨m, h, _⟩ => absurd h (Nat.not_lt_zero m), rfl⟩
  | n + 1 => by
    unfold pgN
    by_cases h : p.Cells.getD n 0 = (i : Int)
    · rw [if_pos h]
      exact .inl ⟨⟨n, Nat.lt_succ_self n, h⟩, rfl⟩
    · rw [if_neg h]
      rcases pgN_all p i n with ⟨⟨m, h1, h2⟩, h3⟩ | ⟨h1, h2⟩
      · exact .inl ⟨⟨m, Nat.lt_succ_of_lt h1, h2⟩, h3⟩
      · refine .inr ⟨?_, h2⟩
        rintro ⟨m, h3, h4⟩
        by_cases e : m = n
        · exact h (e ▸ h4)
        · exact h1 ⟨m, by omega, h4⟩
/-- what a run from the drawn pair leaves: valid, and the cells in use as0 they were -/
theorem run_visible {bs : List Int} {c : Cu} (hc : okCu bs c) {k : GKernel} {p : GPlan} (hk : (dPair bs c).1.1 = k) (hp : (dPair bs c).1.2 = p) {n : Nat} {s : GKernel × GJob} (hs : runJ n (k, ⟨p, 0, 0⟩) = s) :
    okK s.1 ∧ okJ s.2 ∧ ∀ i : Nat, i < 16 → pLoad s.1.Machine (16 * pgN p i p.Cells.length + (i : Int)) = pLoad k.Machine (16 * pgN p i p.Cells.length + (i : Int)) := by
  obtain ⟨g1, g2, g3, g4, g5⟩ := dPair_facts hc
  rw [hk] at g1 g2
  rw [hp] at g3
  by_cases hM : (pPageEntry k.Machine.Table p.Keep).Mode ≠ 0 ∧ (pPageEntry k.Machine.Table p.Move).Mode ≠ 0
  · obtain ⟨K, M, f, g, rf, rg, hPr⟩ := dPair_pr hc hk hp hM.1 hM.2
    obtain ⟨h1, h2, h3⟩ := run_at hPr n
    have hcalls := hPr.calls
    rw [hs] at h1 h2 h3
    refine ⟨h1.okKer hPr (by omega), h1.okJob hPr, fun i hi => ?_⟩
    obtain ⟨v1, v2⟩ := h1.visible hPr hi
    rcases pgN_all p i p.Cells.length with ⟨⟨m, h4, h5⟩, h6⟩ | ⟨h4, h6⟩
    · rw [h6]; exact v1 ⟨m, h4, h5⟩
    · rw [h6]; exact v2 (fun ⟨m, h7, h8⟩ => h4 ⟨m, h7, h8⟩)
  · have hno : ¬ mayJ k ⟨p, 0, 0⟩ := fun h => hM ⟨h.2.2.1, h.2.2.2.1⟩
    rw [runJ_stop (fun h => hno h.2)] at hs
    subst hs
    exact ⟨g1, ⟨g3, ⟨(by decide : (0 : Int) ≤ 0), (by decide : (0 : Int) ≤ 5)⟩, Int.le_refl _, by dsimp only; omega⟩, fun _ _ => rfl⟩
def c_LdS (m : GMachine) (addr v x : Int) : CFD := ⟨22, [.agg [ro 33 1 eIntS m.Frames.Cells, ro 4 1 Tr.eB m.Frames.Used, ro 45 2 eEntry m.Table.Entries], (SV.one (.lit (.int .i64 (addr))))], [], .tup [(SV.one (.lit (.int .i64 (v)))), (SV.one (.lit (.int .i64 (x))))], [], [], []⟩
theorem fn_LdS (m : GMachine) (addr v x : Int) (hs : szM7 m) (ha : addr ≤ 1000000) (h : pLoad m addr = (v, x)) : Fn Tryz.prog (c_LdS m addr v x) := by
  have := fn_Load7 m addr hs ha
  unfold c_Load7 at this
  rw [h] at this
  exact this
def c_LdI (s : Se) (m : GMachine) (addr v x : Int) : CFD := ⟨23, [.agg [ro 33 1 eIntS m.Frames.Cells, ro 4 1 Tr.eB m.Frames.Used, ro 45 2 eEntry m.Table.Entries], (SV.one (.lit (.int .i64 (addr))))], [], .tup [(SV.one (.lit (.int .i64 (v)))), (SV.one (.lit (.int .i64 (x))))], [], [], s.gl⟩
theorem fn_LdI (s : Se) (m : GMachine) (addr v x : Int) (hs : szM7 m) (ha : okI addr) (h : pLoad m addr = (v, x)) : Fn Tryz.prog (c_LdI s m addr v x) := by
  have := fn_LoadI s m addr (szM_from hs) ha
  unfold c_LoadI at this
  rw [h] at this
  exact this
def c_JVis (s : Se) (bs : List Int) : CFD := ⟨4, [.one (ro 5 1 eU bs)], [], (TV.sv (.one (.lit (.bool (true))))), [], [], s.gl⟩
set_option maxHeartbeats 4000000 in
theorem fn_JVis (s : Se) (bs : List Int) (hb : ∀ x ∈ bs, 0 ≤ x ∧ x ≤ 255) : Fn Tryz.prog (c_JVis s bs) := by
  by_cases hl : (1048576 : Int) < (bs.length : Int)
  · have hd := decide_eq_true hl
    refine fn_intro tt_ok Tryz.func4 rfl Tryz.call4 Tryz.ntmps4 Tryz.results4 rfl rfl rfl rfl ?_
    intro X ρ0 hb_ hgl_
    dsimp only [c_JVis]
    try refine nrm ?_
    repeat' (refine ar_id ?_; first | refine st1 ?_ | (first | ((first | refine ar_region (id := 1) tt_ok (inps := [.call (c_big bs)]) rfl ?_ ?_ | refine ar_region tt_ok (inps := []) rfl ?_ ?_); rotate_left; (try dsimp only [c_big]); (try refine nrm ?_); rotate_right) | refine ret3 ?_ | refine end3 ?_) | (refine ar_cond rfl trivial ?_ ?_ <;> intro hc_ <;> (try simp only [isNilI, inB, reduceCtorEq, cds] at hc_) <;> (try (first | contradiction | (exfalso; omega)))) | refine ar_until (And.intro ?_ (wk3 ?_)))
    all_goals (first | refine ar_id ?_ | (try (focus ((try refine nrmO ?_); (repeat' (first | exact True.intro | refine And.intro ?_ ?_)); all_goals (try (intro (hg_ : _ = true); (try simp only [isNilI, inB, reduceCtorEq, cds] at hg_); (repeat' (first | exact True.intro | refine And.intro ?_ ?_)))); all_goals (first | exact ob1 | exact fn_big bs | skip)))))
  · have hl' : bs.length ≤ 2097152 := by omega
    obtain ⟨p0, hp0⟩ : ∃ p, (places bs).getD 0 0 = p := ⟨_, rfl⟩
    have hq0 : 0 ≤ p0 ∧ p0 < 10000 := hp0 ▸ plV_lt bs 0
    have hpl : (places bs).length = 12 := by unfold places; simp
    have e0 : ((places bs).map eI)[0]? = some (eI p0) := by rw [← hp0]; exact map_at (by omega)
    obtain ⟨g1, g2, g3, g4, g5⟩ := dPair_facts (dNew_ok hl' hb)
    obtain ⟨k, hk⟩ : ∃ k, (dPair bs (dNew bs)).1.1 = k := ⟨_, rfl⟩
    obtain ⟨p, hp⟩ : ∃ p, (dPair bs (dNew bs)).1.2 = p := ⟨_, rfl⟩
    have hdraw := fn_DrawPR bs k p hl' hb hk hp
    obtain ⟨a, ha⟩ : ∃ a, p0.tmod 30 = a := ⟨_, rfl⟩
    have ha0 : 0 ≤ a ∧ a < 30 := by rw [← ha, Int.tmod_eq_emod_of_nonneg hq0.1]; omega
    obtain ⟨s1, hs1⟩ : ∃ s1, runJ a.toNat (k, ⟨p, 0, 0⟩) = s1 := ⟨_, rfl⟩
    obtain ⟨v1, v2, v3⟩ := run_visible (dNew_ok hl' hb) hk hp hs1
    rw [hk] at g1 g2 g5
    rw [hp] at g3
    clear hk hp
    have hcl := asc_len g3.2.2.2
    have hjn : pJobNew p = (⟨p, 0, 0⟩, true) := if_pos g3
    have y1 := szK8_of_ok v1
    have l1 : s1.2.Plan.Cells.length ≤ 1048576 := by have := asc_len v2.1.2.2.2; omega
    have hjo : pJobOk s1.2 = true := decide_eq_true v2
    have hko : pKernelOk s1.1 = true := decide_eq_true v1
    have hcel : ∀ n, n < p.Cells.length → 0 ≤ p.Cells.getD n 0 ∧ p.Cells.getD n 0 ≤ 15 := fun n hn => asc_at g3.2.2.2 hn
    have hpg : ∀ i n, 0 ≤ pgN p i n ∧ pgN p i n ≤ 31 := fun i n => by
      have h1 := g3.2.1
      have h2 := g3.2.2.1
      induction n with
      | zero => exact h1
      | succ n ih => unfold pgN; split
                     · exact h2
                     · exact ih
    have hrun := run_most ha0.1 (by omega) hs1
    refine fn_intro tt_ok Tryz.func4 rfl Tryz.call4 Tryz.ntmps4 Tryz.results4 rfl rfl rfl rfl ?_
    intro X ρ0 hb_ hgl_
    dsimp only [c_JVis]
    try refine nrm ?_
    repeat' (refine ar_id ?_; first | refine st1 ?_ | (refine ar_drawS (id := 6) tt_ok (by kernel_rfl) [.elem (eI p0), .call (c_JRunI s k ⟨p, 0, 0⟩ a s1.1 s1.2)] ?_; refine ed_hide ?_; intro K_ hK_; repeat' (first | ((first | refine ed_call3 ?_ | refine ed_sure3 ?_ | refine ed_cons3 ?_); refine ed_hide ?_; intro K_ hK_; (try dsimp only [c_DrawPR, c_JNewSR, c_JRunI, c_Places, c_big]); (try refine nrmE ?_)) | (refine ed_nil ?_; (repeat subst hK_); dsimp only; refine Exists.intro _ (And.intro rfl (And.intro (by kernel_rfl) (And.intro ?_ ?_))); rotate_left; (try dsimp only [c_DrawPR, c_JNewSR, c_JRunI, c_Places, c_big]); (try refine nrm ?_); rotate_right))) | (first | ((first | refine ar_region (id := 1) tt_ok (inps := [.call (c_big bs)]) rfl ?_ ?_ | refine ar_region (id := 3) tt_ok (inps := [.call (c_DrawPR bs k p)]) rfl ?_ ?_ | refine ar_region (id := 4) tt_ok (inps := [.call (c_Places bs)]) rfl ?_ ?_ | refine ar_region (id := 5) tt_ok (inps := [.call (c_JNewSR p ⟨p, 0, 0⟩ true)]) rfl ?_ ?_ | refine ar_region tt_ok (inps := []) rfl ?_ ?_); rotate_left; (try dsimp only [c_DrawPR, c_JNewSR, c_JRunI, c_Places, c_big]); (try refine nrm ?_); rotate_right) | refine ret3 ?_ | refine end3 ?_) | (refine ar_cond rfl trivial ?_ ?_ <;> intro hc_ <;> (try simp only [isNilI, inB, reduceCtorEq, cds] at hc_) <;> (try (first | contradiction | (exfalso; omega)))) | refine ar_until (And.intro ?_ (wk3 ?_)))
    all_goals (first | refine ar_id ?_ | (try (focus ((try refine nrmO ?_); (repeat' (first | exact True.intro | refine And.intro ?_ ?_)); all_goals (try (intro (hg_ : _ = true); (try simp only [isNilI, inB, reduceCtorEq, cds] at hg_); (repeat' (first | exact True.intro | refine And.intro ?_ ?_)))); all_goals (first | exact ob1 | exact fn_big bs | exact hdraw | exact fn_Places bs hl' hb | exact fn_JNewSR _ _ _ (by omega) hjn | exact e0 | exact congrArg (Value.int .i64) ha | exact fn_JRunI s _ _ _ _ _ g5 (by show p.Cells.length ≤ _; omega) hrun | exact hgl_.1 | exact hgl_.2.1 | exact hgl_.2.2.1 | exact hgl_.2.2.2.1 | exact hgl_.2.2.2.2.1 | exact hgl_.2.2.2.2.2.1 | exact hgl_.2.2.2.2.2.2.1 | exact hgl_.2.2.2.2.2.2.2.1 | exact hgl_ | exact rfl | exact one1 rfl | skip)))))
    refine ar_keep 130941 (by dsimp only [keepS] <;> exact rfl) ?_
    refine ar_forM (16) (fun i => True) (fun i => [(10, (TV.sv (.one (.lit (.int .i64 (i))))))]) (fun i => []) ?_ ?_ ?_
    rotate_left
    · first | trivial | simp
    (dsimp only [rnCap, capSVs, Int.toNat_natCast, ro, Nat.reduceAdd, Nat.reduceMul, Nat.zero_add, List.map, putT, app, wrapG, gOb, argT, keys, slotOf, dropped, gAnd, wB, rnT, rnS, rnC, rnCs, rnSs, rnM, rnB, rnN, rn, lk, St.over, ded, delL, keepT, menT, menSs, menS, menCs, menC, hasN, resT, SV.cells]; refine wk3 ?_; (focus ((try refine nrmO ?_); (repeat' (first | exact True.intro | refine And.intro ?_ ?_)); all_goals (try (intro (hg_ : _ = true); (try simp only [isNilI, inB, reduceCtorEq, cds] at hg_); (repeat' (first | exact True.intro | refine And.intro ?_ ?_)))); all_goals (first | exact ob1 | exact rfl | skip))))
    rotate_right
    intro i hi_ hiI_
    dsimp only [rnCap, capSVs, Int.toNat_natCast, ro, Nat.reduceAdd, Nat.reduceMul, Nat.zero_add, List.map, putT, app, wrapG, gOb, argT, keys, slotOf, dropped, gAnd, wB, rnT, rnS, rnC, rnCs, rnSs, rnM, rnB, rnN, rn, lk, St.over, ded, delL, keepT, menT, menSs, menS, menCs, menC, hasN, resT, SV.cells]
    repeat' (refine ar_id ?_; first | refine st1 ?_ | (first | ((first | refine ar_region tt_ok (inps := []) rfl ?_ ?_); rotate_left; (try refine nrm ?_); rotate_right) | refine ret3 ?_ | refine end3 ?_) | (refine ar_cond rfl trivial ?_ ?_ <;> intro hc_ <;> (try simp only [isNilI, inB, reduceCtorEq, cds] at hc_) <;> (try (first | contradiction | (exfalso; omega)))) | refine ar_until (And.intro ?_ (wk3 ?_)))
    all_goals (first | refine ar_id ?_ | (try (focus ((try refine nrmO ?_); (repeat' (first | exact True.intro | refine And.intro ?_ ?_)); all_goals (try (intro (hg_ : _ = true); (try simp only [isNilI, inB, reduceCtorEq, cds] at hg_); (repeat' (first | exact True.intro | refine And.intro ?_ ?_)))); all_goals (first | exact ob1 | skip)))))
    refine ar_keep 130941 (by dsimp only [keepS] <;> exact rfl) ?_
    refine ar_forM (p.Cells.length) (fun n => True) (fun n => [(12, (TV.sv (.one (.lit (.int .i64 (n)))))), (11, (TV.sv (.one (.lit (.int .i64 (pgN p i n))))))]) (fun n => []) ?_ ?_ ?_
    rotate_left
    · first | trivial | simp
    (dsimp only [rnCap, capSVs, Int.toNat_natCast, ro, Nat.reduceAdd, Nat.reduceMul, Nat.zero_add, List.map, putT, app, wrapG, gOb, argT, keys, slotOf, dropped, gAnd, wB, rnT, rnS, rnC, rnCs, rnSs, rnM, rnB, rnN, rn, lk, St.over, ded, delL, keepT, menT, menSs, menS, menCs, menC, hasN, resT, SV.cells]; refine wk3 ?_; (focus ((try refine nrmO ?_); (repeat' (first | exact True.intro | refine And.intro ?_ ?_)); all_goals (try (intro (hg_ : _ = true); (try simp only [isNilI, inB, reduceCtorEq, cds] at hg_); (repeat' (first | exact True.intro | refine And.intro ?_ ?_)))); all_goals (first | exact ob1 | exact rfl | skip))))
    rotate_right
    intro n hn_ hnI_
    dsimp only [rnCap, capSVs, Int.toNat_natCast, ro, Nat.reduceAdd, Nat.reduceMul, Nat.zero_add, List.map, putT, app, wrapG, gOb, argT, keys, slotOf, dropped, gAnd, wB, rnT, rnS, rnC, rnCs, rnSs, rnM, rnB, rnN, rn, lk, St.over, ded, delL, keepT, menT, menSs, menS, menCs, menC, hasN, resT, SV.cells]
    have hcn := hcel n
    have hS : pgN p i (n + 1) = if p.Cells.getD n 0 = (i : Int) then p.Move else pgN p i n := rfl
    repeat' (refine ar_id ?_; first | refine st1 ?_ | (first | ((first | refine ar_region (id := 14) tt_ok (inps := [.elem (eI (p.Cells.getD n 0))]) rfl ?_ ?_ | refine ar_region tt_ok (inps := []) rfl ?_ ?_); rotate_left; (try refine nrm ?_); rotate_right) | refine ret3 ?_ | refine end3 ?_) | (refine ar_cond rfl trivial ?_ ?_ <;> intro hc_ <;> (try simp only [isNilI, inB, reduceCtorEq, cds] at hc_) <;> (try (first | contradiction | (exfalso; omega)))) | refine ar_until (And.intro ?_ (wk3 ?_)))
    all_goals (first | refine ar_id ?_ | (try (focus ((try refine nrmO ?_); (repeat' (first | exact True.intro | refine And.intro ?_ ?_)); all_goals (try (intro (hg_ : _ = true); (try simp only [isNilI, inB, reduceCtorEq, cds] at hg_); (repeat' (first | exact True.intro | refine And.intro ?_ ?_)))); all_goals (first | exact ob1 | skip)))))
    · have hn : n = p.Cells.length := by omega
      obtain ⟨w, hw⟩ : ∃ w, pLoad k.Machine (16 * pgN p i n + (i : Int)) = w := ⟨_, rfl⟩
      have hw2 : pLoad s1.1.Machine (16 * pgN p i n + (i : Int)) = (w.1, w.2) := by rw [← hw, hn]; exact v3 i (by omega)
      have hpi := hpg i n
      repeat' (refine ar_id ?_; first | refine st1 ?_ | (first | ((first | refine ar_region (id := 16) tt_ok (inps := [.call (c_LdS k.Machine (16 * pgN p i n + (i : Int)) w.1 w.2)]) rfl ?_ ?_ | refine ar_region (id := 17) tt_ok (inps := [.call (c_LdI s s1.1.Machine (16 * pgN p i n + (i : Int)) w.1 w.2)]) rfl ?_ ?_ | refine ar_region tt_ok (inps := []) rfl ?_ ?_); rotate_left; (try dsimp only [c_LdI, c_LdS]); (try refine nrm ?_); rotate_right) | refine ret3 ?_ | refine end3 ?_) | (refine ar_cond rfl trivial ?_ ?_ <;> intro hc_ <;> (try simp only [isNilI, inB, reduceCtorEq, cds] at hc_) <;> (try (first | contradiction | (exfalso; omega) | (exfalso; grind)))) | refine ar_until (And.intro ?_ (wk3 ?_)))
      all_goals (first | refine ar_id ?_ | (try (focus ((try refine nrmO ?_); (repeat' (first | exact True.intro | refine And.intro ?_ ?_)); all_goals (try (intro (hg_ : _ = true); (try simp only [isNilI, inB, reduceCtorEq, cds] at hg_); (repeat' (first | exact True.intro | refine And.intro ?_ ?_)))); all_goals (first | exact ob1 | exact fn_LdS _ _ _ _ g5.m (by omega) hw | exact fn_LdI s _ _ _ _ y1.m ⟨by omega, by omega⟩ hw2 | exact hgl_.1 | exact hgl_.2.1 | exact hgl_.2.2.1 | exact hgl_.2.2.2.1 | exact hgl_.2.2.2.2.1 | exact hgl_.2.2.2.2.2.1 | exact hgl_.2.2.2.2.2.2.1 | exact hgl_.2.2.2.2.2.2.2.1 | exact hgl_ | exact rfl | exact one1 rfl | skip)))))
      all_goals trace_state
    · skip
      repeat' (refine ar_id ?_; first | refine st1 ?_ | (first | ((first | refine ar_region (id := 20) tt_ok (inps := [.call (c_JobOkI s1.2), .call (c_KOkI s1.1)]) rfl ?_ ?_ | refine ar_region tt_ok (inps := []) rfl ?_ ?_); rotate_left; (try dsimp only [c_JobOkI, c_KOkI]); (try refine nrm ?_); rotate_right) | refine ret3 ?_ | refine end3 ?_) | (refine ar_cond rfl trivial ?_ ?_ <;> intro hc_ <;> (try simp only [isNilI, inB, reduceCtorEq, cds] at hc_) <;> (try (first | contradiction | (exfalso; omega)))) | refine ar_until (And.intro ?_ (wk3 ?_)))
      all_goals (first | refine ar_id ?_ | (try (focus ((try refine nrmO ?_); (repeat' (first | exact True.intro | refine And.intro ?_ ?_)); all_goals (try (intro (hg_ : _ = true); (try simp only [isNilI, inB, reduceCtorEq, cds] at hg_); (repeat' (first | exact True.intro | refine And.intro ?_ ?_)))); all_goals (first | exact ob1 | exact fn_JobOkI _ l1 | exact fn_KOkI _ (szK_from y1) | skip)))))
      all_goals (rw [hjo, hko]; rfl)
end Eng
end Go.Proofs.YtlkkiopjknbomaaGreatDoor
namespace Go.Proofs.YtlkkiopjknbomaaGreatDoor
open Go.RowKit
set_option linter.unusedVariables false
set_option linter.unusedSimpArgs false
set_option maxRecDepth 100000
namespace Eng
open Tr
def c_LJobs (s : Se) (bs : List Int) : CFD := ⟨3, [.one (ro 5 1 eU bs)], [], (TV.sv (.one (.lit (.bool (true))))), [], [], s.gl⟩
def c_PTextR (a : Addr) (ty : Nat) (m : GMachine) (page : Int) (t : List Int) : CFD := ⟨16, [.agg [ro 33 1 eIntS m.Frames.Cells, ro 4 1 Tr.eB m.Frames.Used, ro 45 2 eEntry m.Table.Entries], (SV.one (.lit (.int .i64 (page))))], [], .sv (.one (.hd 0)), [(0, some (.row 3 1 (t.map Tr.eI)))], [0], [gP a ty]⟩
theorem fn_PTextR (a : Addr) (ty : Nat) (m : GMachine) (page : Int) (t : List Int) (hs : szM7 m) (h : pPageText m page = t) : Fn Tryz.prog (c_PTextR a ty m page t) := by
  have := fn_PageTextI a ty m page (szM_from hs)
  unfold c_PageTextI at this
  rw [h] at this
  exact this
def c_MgR (a b : List Int) (p : GPlan) (t : List Int) : CFD := ⟨18, [.one (ro 3 1 Tr.eI a), .one (ro 3 1 Tr.eI b), .agg [(CV.lit (.int .i64 (p.Keep))), (CV.lit (.int .i64 (p.Move))), ro 3 1 Tr.eI p.Cells]], [], .sv (.one (.hd 0)), [(0, some (.row 3 1 (t.map Tr.eI)))], [0], []⟩
theorem text_len (m : GMachine) (hm : okM m) (page : Int) : (pPageText m page).length ≤ 16 := by
  unfold pPageText
  split
  · rename_i h
    obtain ⟨f, hf, h1, h2, h3, h4⟩ := okM_entry h.1 h.2
    rw [hf, Int.toNat_natCast, h3]
    exact Nat.le_refl _
  · exact Nat.zero_le _
set_option maxHeartbeats 8000000 in
theorem fn_LJobs (s : Se) (bs : List Int) (hb : ∀ x ∈ bs, 0 ≤ x ∧ x ≤ 255) : Fn Tryz.prog (c_LJobs s bs) := by
  by_cases hl : (1048576 : Int) < (bs.length : Int)
  · have hd := decide_eq_true hl
    refine fn_intro tt_ok Tryz.func3 rfl Tryz.call3 Tryz.ntmps3 Tryz.results3 rfl rfl rfl rfl ?_
    intro X ρ0 hb_ hgl_
    dsimp only [c_LJobs]
    try refine nrm ?_
    repeat' (refine ar_id ?_; first | refine st1 ?_ | (first | ((first | refine ar_region (id := 1) tt_ok (inps := [.call (c_big bs)]) rfl ?_ ?_ | refine ar_region tt_ok (inps := []) rfl ?_ ?_); rotate_left; (try dsimp only [c_big]); (try refine nrm ?_); rotate_right) | refine ret3 ?_ | refine end3 ?_) | (refine ar_cond rfl trivial ?_ ?_ <;> intro hc_ <;> (try simp only [isNilI, inB, reduceCtorEq, cds] at hc_) <;> (try (first | contradiction | (exfalso; omega)))) | refine ar_until (And.intro ?_ (wk3 ?_)))
    all_goals (first | refine ar_id ?_ | (try (focus ((try refine nrmO ?_); (repeat' (first | exact True.intro | refine And.intro ?_ ?_)); all_goals (try (intro (hg_ : _ = true); (try simp only [isNilI, inB, reduceCtorEq, cds] at hg_); (repeat' (first | exact True.intro | refine And.intro ?_ ?_)))); all_goals (first | exact ob1 | exact fn_big bs | skip)))))
  · have hl' : bs.length ≤ 2097152 := by omega
    obtain ⟨g1, g2, g3, g4, g5⟩ := dPair_facts (dNew_ok hl' hb)
    obtain ⟨k, hk⟩ : ∃ k, (dPair bs (dNew bs)).1.1 = k := ⟨_, rfl⟩
    obtain ⟨p, hp⟩ : ∃ p, (dPair bs (dNew bs)).1.2 = p := ⟨_, rfl⟩
    have hdraw := fn_DrawPR bs k p hl' hb hk hp
    obtain ⟨s1, hs1⟩ : ∃ s1, runJ 200 (k, ⟨p, 0, 0⟩) = s1 := ⟨_, rfl⟩
    have hrun : pJobRun k ⟨p, 0, 0⟩ 200 = (s1.1, s1.2) := run_most (by decide) (by decide) hs1
    have hcl := asc_len g3.2.2.2
    rw [hk] at g1 g2 g5
    rw [hp] at g3 hcl
    have hjn : pJobNew p = (⟨p, 0, 0⟩, true) := if_pos g3
    have z1 := sz_run k ⟨p, 0, 0⟩ 200
    rw [hs1] at z1
    have y1 := szK8_same g5 z1.1 z1.2.1
    have hRI := fn_JRunI s k ⟨p, 0, 0⟩ 200 s1.1 s1.2 g5 (by show p.Cells.length ≤ _; omega) hrun
    by_cases hM : (pPageEntry k.Machine.Table p.Keep).Mode ≠ 0 ∧ (pPageEntry k.Machine.Table p.Move).Mode ≠ 0
    · obtain ⟨K, M, f, g, rf, rg, hPr⟩ := dPair_pr (dNew_ok hl' hb) hk hp hM.1 hM.2
      obtain ⟨e1, e2, e3⟩ := run_end hPr hs1
      clear hk hp
      have hko : pKernelOk s1.1 = true := decide_eq_true e1
      rcases e3 with ⟨ph, hm⟩ | ⟨ph, t1, t2, t3⟩
      · skip
        refine fn_intro tt_ok Tryz.func3 rfl Tryz.call3 Tryz.ntmps3 Tryz.results3 rfl rfl rfl rfl ?_
        intro X ρ0 hb_ hgl_
        dsimp only [c_LJobs]
        try refine nrm ?_
        repeat' (refine ar_id ?_; first | refine st1 ?_ | (first | ((first | refine ar_region (id := 1) tt_ok (inps := [.call (c_big bs)]) rfl ?_ ?_ | refine ar_region (id := 3) tt_ok (inps := [.call (c_DrawPR bs k p)]) rfl ?_ ?_ | refine ar_region (id := 4) tt_ok (inps := [.call (c_JNewR p ⟨p, 0, 0⟩ true)]) rfl ?_ ?_ | refine ar_region (id := 5) tt_ok (inps := [.call (c_PageEntry k.Machine.Table p.Keep), .call (c_PageEntry k.Machine.Table p.Move)]) rfl ?_ ?_ | refine ar_region (id := 8) tt_ok (inps := [.call (c_JRunI s k ⟨p, 0, 0⟩ 200 s1.1 s1.2)]) rfl ?_ ?_ | refine ar_region (id := 10) tt_ok (inps := [.call (c_sameM s1.1.Machine k.Machine), .call (c_KOkI s1.1)]) rfl ?_ ?_ | refine ar_region tt_ok (inps := []) rfl ?_ ?_); rotate_left; (try dsimp only [c_DrawPR, c_JNewR, c_JRunI, c_KOkI, c_PageEntry, c_big, c_sameM]); (try refine nrm ?_); rotate_right) | refine ret3 ?_ | refine end3 ?_) | (refine ar_cond rfl trivial ?_ ?_ <;> intro hc_ <;> (try simp only [isNilI, inB, reduceCtorEq, cds] at hc_) <;> (try (first | contradiction | (exfalso; omega) | (exfalso; grind)))) | refine ar_until (And.intro ?_ (wk3 ?_)))
        all_goals (first | refine ar_id ?_ | (try (focus ((try refine nrmO ?_); (repeat' (first | exact True.intro | refine And.intro ?_ ?_)); all_goals (try (intro (hg_ : _ = true); (try simp only [isNilI, inB, reduceCtorEq, cds] at hg_); (repeat' (first | exact True.intro | refine And.intro ?_ ?_)))); all_goals (first | exact ob1 | exact fn_big bs | exact hdraw | exact fn_JNewR _ _ _ (by omega) hjn | exact fn_PageEntry _ _ g5.m.e | exact hRI | exact fn_sameM _ _ y1.m.c y1.m.u y1.m.e y1.m.r | exact fn_KOkI _ (szK_from y1) | exact hgl_.1 | exact hgl_.2.1 | exact hgl_.2.2.1 | exact hgl_.2.2.2.1 | exact hgl_.2.2.2.2.1 | exact hgl_.2.2.2.2.2.1 | exact hgl_.2.2.2.2.2.2.1 | exact hgl_.2.2.2.2.2.2.2.1 | exact hgl_ | exact rfl | exact one1 rfl | skip)))))
        all_goals (rw [hm, sameM_refl, hko]; rfl)
      · obtain ⟨ta, hta⟩ : ∃ t, pPageText k.Machine p.Keep = t := ⟨_, rfl⟩
        obtain ⟨tb, htb⟩ : ∃ t, pPageText k.Machine p.Move = t := ⟨_, rfl⟩
        obtain ⟨tc, htc⟩ : ∃ t, pPageText s1.1.Machine p.Keep = t := ⟨_, rfl⟩
        have htd : pPageText s1.1.Machine p.Move = tc := by rw [t2, htc]
        have hlc : tc.length ≤ 1048576 := by have := text_len s1.1.Machine e1.1 p.Keep; rw [htc] at this; omega
        have hla : ta.length ≤ 1048576 := by have := text_len k.Machine g1.1 p.Keep; rw [hta] at this; omega
        have hlb : tb.length ≤ 1048576 := by have := text_len k.Machine g1.1 p.Move; rw [htb] at this; omega
        have hmg : pMergedText ta tb p = tc := by rw [← hta, ← htb, ← htc, t1]
        have hMg := fn_MergedS ta tb p hla hlb (by omega)
        unfold c_MergedS at hMg
        rw [hmg] at hMg
        have hG : (bif bif true then s1.2.Phase == 4 else false then pKernelOk s1.1 else false) = true := by rw [ph, hko]; rfl
        have hu := okF_sz g1.1.1
        have hin : inK .i64 (pUsedFrames k.Machine.Frames - 1) := by
          unfold pUsedFrames
          rw [if_pos g1.1.1]
          have := List.countP_le_length (p := fun u => u) (l := k.Machine.Frames.Used)
          exact i64_ok (by omega) (by omega)
        refine fn_intro tt_ok Tryz.func3 rfl Tryz.call3 Tryz.ntmps3 Tryz.results3 rfl rfl rfl rfl ?_
        intro X ρ0 hb_ hgl_
        dsimp only [c_LJobs]
        try refine nrm ?_
        repeat' (refine ar_id ?_; first | refine st1 ?_ | (refine ar_drawS (id := 15) tt_ok (by kernel_rfl) [.call (c_KOkI s1.1), .sure (c_MgR ta tb p tc), .call (c_sameI tc tc), .call (c_sameI tc tc), .call (c_UsedF s1.1.Machine.Frames), .call (c_UsedF k.Machine.Frames)] ?_; refine ed_hide ?_; intro K_ hK_; repeat' (first | ((first | refine ed_call3 ?_ | refine ed_sure3 ?_ | refine ed_cons3 ?_); refine ed_hide ?_; intro K_ hK_; (try dsimp only [c_DrawPR, c_JNewR, c_JRunI, c_KOkI, c_MgR, c_PTextR, c_PTextS, c_PageEntry, c_UsedF, c_big, c_sameI]); (try refine nrmE ?_)) | (refine ed_nil ?_; (repeat subst hK_); dsimp only; refine Exists.intro _ (And.intro rfl (And.intro (by kernel_rfl) (And.intro ?_ ?_))); rotate_left; (try dsimp only [c_DrawPR, c_JNewR, c_JRunI, c_KOkI, c_MgR, c_PTextR, c_PTextS, c_PageEntry, c_UsedF, c_big, c_sameI]); (try refine nrm ?_); rotate_right))) | (first | ((first | refine ar_region (id := 1) tt_ok (inps := [.call (c_big bs)]) rfl ?_ ?_ | refine ar_region (id := 3) tt_ok (inps := [.call (c_DrawPR bs k p)]) rfl ?_ ?_ | refine ar_region (id := 4) tt_ok (inps := [.call (c_JNewR p ⟨p, 0, 0⟩ true)]) rfl ?_ ?_ | refine ar_region (id := 5) tt_ok (inps := [.call (c_PageEntry k.Machine.Table p.Keep), .call (c_PageEntry k.Machine.Table p.Move)]) rfl ?_ ?_ | refine ar_region (id := 8) tt_ok (inps := [.call (c_JRunI s k ⟨p, 0, 0⟩ 200 s1.1 s1.2)]) rfl ?_ ?_ | refine ar_region (id := 11) tt_ok (inps := [.call (c_PTextS k.Machine p.Keep ta)]) rfl ?_ ?_ | refine ar_region (id := 12) tt_ok (inps := [.call (c_PTextS k.Machine p.Move tb)]) rfl ?_ ?_ | refine ar_region (id := 13) tt_ok (inps := [.call (c_PTextR s.aP s.uP s1.1.Machine p.Keep tc)]) rfl ?_ ?_ | refine ar_region (id := 14) tt_ok (inps := [.call (c_PTextR s.aP s.uP s1.1.Machine p.Move tc)]) rfl ?_ ?_ | refine ar_region tt_ok (inps := []) rfl ?_ ?_); rotate_left; (try dsimp only [c_DrawPR, c_JNewR, c_JRunI, c_KOkI, c_MgR, c_PTextR, c_PTextS, c_PageEntry, c_UsedF, c_big, c_sameI]); (try refine nrm ?_); rotate_right) | refine ret3 ?_ | refine end3 ?_) | (refine ar_cond rfl trivial ?_ ?_ <;> intro hc_ <;> (try simp only [isNilI, inB, reduceCtorEq, cds] at hc_) <;> (try (first | contradiction | (exfalso; omega) | (exfalso; grind)))) | refine ar_until (And.intro ?_ (wk3 ?_)))
        all_goals (first | refine ar_id ?_ | (try (focus ((try refine nrmO ?_); (repeat' (first | exact True.intro | refine And.intro ?_ ?_)); all_goals (try (intro (hg_ : _ = true); (try simp only [isNilI, inB, reduceCtorEq, cds] at hg_); (repeat' (first | exact True.intro | refine And.intro ?_ ?_)))); all_goals (first | exact ob1 | exact fn_big bs | exact hdraw | exact fn_JNewR _ _ _ (by omega) hjn | exact fn_PageEntry _ _ g5.m.e | exact hRI | exact fn_PTextS _ _ _ g5.m hta | exact fn_PTextS _ _ _ g5.m htb | exact fn_PTextR _ _ _ _ _ y1.m htc | exact fn_PTextR _ _ _ _ _ y1.m htd | exact fn_KOkI _ (szK_from y1) | exact hMg | exact fn_sameI _ _ hlc | exact fn_UsedF _ y1.m.c y1.m.u y1.m.r | exact fn_UsedF _ g5.m.c g5.m.u g5.m.r | exact hG | exact hin | exact hgl_.1 | exact hgl_.2.1 | exact hgl_.2.2.1 | exact hgl_.2.2.2.1 | exact hgl_.2.2.2.2.1 | exact hgl_.2.2.2.2.2.1 | exact hgl_.2.2.2.2.2.2.1 | exact hgl_.2.2.2.2.2.2.2.1 | exact hgl_ | exact rfl | exact one1 rfl | skip)))))
        all_goals (rw [hG, t3, beq_self_eq_true, decide_eq_true (rfl : tc = tc)]; rfl)
    · have hno : ¬ mayJ k ⟨p, 0, 0⟩ := fun h => hM ⟨h.2.2.1, h.2.2.2.1⟩
      rw [runJ_stop (fun h => hno h.2)] at hs1
      subst hs1
      refine fn_intro tt_ok Tryz.func3 rfl Tryz.call3 Tryz.ntmps3 Tryz.results3 rfl rfl rfl rfl ?_
      intro X ρ0 hb_ hgl_
      dsimp only [c_LJobs]
      try refine nrm ?_
      repeat' (refine ar_id ?_; first | refine st1 ?_ | (first | ((first | refine ar_region (id := 1) tt_ok (inps := [.call (c_big bs)]) rfl ?_ ?_ | refine ar_region (id := 3) tt_ok (inps := [.call (c_DrawPR bs k p)]) rfl ?_ ?_ | refine ar_region (id := 4) tt_ok (inps := [.call (c_JNewR p ⟨p, 0, 0⟩ true)]) rfl ?_ ?_ | refine ar_region (id := 5) tt_ok (inps := [.call (c_PageEntry k.Machine.Table p.Keep), .call (c_PageEntry k.Machine.Table p.Move)]) rfl ?_ ?_ | refine ar_region (id := 6) tt_ok (inps := [.call (c_JRunI s k ⟨p, 0, 0⟩ 200 k ⟨p, 0, 0⟩)]) rfl ?_ ?_ | refine ar_region (id := 7) tt_ok (inps := [.call (c_sameM k.Machine k.Machine)]) rfl ?_ ?_ | refine ar_region tt_ok (inps := []) rfl ?_ ?_); rotate_left; (try dsimp only [c_DrawPR, c_JNewR, c_JRunI, c_PageEntry, c_big, c_sameM]); (try refine nrm ?_); rotate_right) | refine ret3 ?_ | refine end3 ?_) | (refine ar_cond rfl trivial ?_ ?_ <;> intro hc_ <;> (try simp only [isNilI, inB, reduceCtorEq, cds] at hc_) <;> (try (first | contradiction | (exfalso; omega) | (exfalso; grind)))) | refine ar_until (And.intro ?_ (wk3 ?_)))
      all_goals (first | refine ar_id ?_ | (try (focus ((try refine nrmO ?_); (repeat' (first | exact True.intro | refine And.intro ?_ ?_)); all_goals (try (intro (hg_ : _ = true); (try simp only [isNilI, inB, reduceCtorEq, cds] at hg_); (repeat' (first | exact True.intro | refine And.intro ?_ ?_)))); all_goals (first | exact ob1 | exact fn_big bs | exact hdraw | exact fn_JNewR _ _ _ (by omega) hjn | exact fn_PageEntry _ _ g5.m.e | exact hRI | exact fn_sameM _ _ y1.m.c y1.m.u y1.m.e y1.m.r | exact hgl_.1 | exact hgl_.2.1 | exact hgl_.2.2.1 | exact hgl_.2.2.2.1 | exact hgl_.2.2.2.2.1 | exact hgl_.2.2.2.2.2.1 | exact hgl_.2.2.2.2.2.2.1 | exact hgl_.2.2.2.2.2.2.2.1 | exact hgl_ | exact rfl | exact one1 rfl | skip)))))
      all_goals (rw [sameM_refl]; rfl)
end Eng
end Go.Proofs.YtlkkiopjknbomaaGreatDoor

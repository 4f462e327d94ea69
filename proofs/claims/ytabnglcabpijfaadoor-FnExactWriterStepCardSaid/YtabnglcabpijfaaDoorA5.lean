/- Lemmas for the proofs, part 5 of 5: a symbolic run of the program, and what it needs. -/
import Derived.KernelRfl
import Derived.Test.YtabnglcabpijfaaDoorA4
namespace Go.Proofs.YtabnglcabpijfaaDoor
open Go.RowKit
set_option linter.unusedVariables false
set_option linter.unusedSimpArgs false
set_option maxRecDepth 100000
namespace Tr
/-- as0 large as0 before -/
structure sameSz (m m' : GMachine) : Prop where
  c : m'.Frames.Cells.length = m.Frames.Cells.length
  u : m'.Frames.Used.length = m.Frames.Used.length
  e : m'.Table.Entries.length = m.Table.Entries.length
  r : ∀ n, 16 ≤ n → (∀ r ∈ m.Frames.Cells, r.length ≤ n) → ∀ r ∈ m'.Frames.Cells, r.length ≤ n
theorem sameSz.refl (m : GMachine) : sameSz m m := ⟨rfl, rfl, rfl, fun _ _ h => h⟩
theorem sameSz.trans {a b c : GMachine} (h : sameSz a b) (h' : sameSz b c) : sameSz a c := ⟨h'.c.trans h.c, h'.u.trans h.u, h'.e.trans h.e, fun n hn hr => h'.r n hn (h.r n hn hr)⟩
theorem sz_cell (m : GMachine) (f k v : Int) : sameSz m (setCellOf m f k v) := by
  refine ⟨List.length_set, rfl, rfl, fun n hn h r hr => ?_⟩
  rcases List.mem_or_eq_of_mem_set hr with h1 | h1
  · exact h r h1
  · rw [h1, List.length_set]
    by_cases hf : f.toNat < m.Frames.Cells.length
    · refine h _ ?_
      rw [List.getD_eq_getElem?_getD, List.getElem?_eq_getElem hf]
      exact List.getElem_mem _
    · rw [List.getD_eq_getElem?_getD, List.getElem?_eq_none (by omega)]
      exact Nat.zero_le _
end Tr
end Go.Proofs.YtabnglcabpijfaaDoor
namespace Go.Proofs.YtabnglcabpijfaaDoor
open Go.RowKit
set_option linter.unusedVariables false
set_option linter.unusedSimpArgs false
set_option maxRecDepth 100000
namespace Eng
open Tr
/-- a kernel that can be read -/
structure szK8 (k : GKernel) : Prop where
  m : szM7 k.Machine
  r : k.Refuse.length ≤ 1048576
def c_KOk (k : GKernel) : CFD := ⟨16, [.agg [ro 31 1 eIntS k.Machine.Frames.Cells, ro 4 1 Tr.eB k.Machine.Frames.Used, ro 75 2 eEntry k.Machine.Table.Entries, (CV.lit (.int .i64 (k.Calls))), ro 3 1 Tr.eI k.Refuse]], [], (TV.sv (.one (.lit (.bool (pKernelOk k))))), [], [], []⟩
theorem fn_KOk (k : GKernel) (hs : szK8 k) : Fn Tryd.prog (c_KOk k) := by
  have hr := hs.r
  refine fn_intro tt_ok Tryd.func16 rfl Tryd.call16 Tryd.ntmps16 Tryd.results16 rfl rfl rfl rfl ?_
  intro X ρ0 hb_ hgl_
  dsimp only [c_KOk]
  try refine nrm ?_
  repeat' (refine ar_id ?_; first | refine st1 ?_ | (first | ((first | refine ar_region tt_ok (inps := []) rfl ?_ ?_); rotate_left; (try refine nrm ?_); rotate_right) | refine ret3 ?_ | refine end3 ?_) | (refine ar_cond rfl trivial ?_ ?_ <;> intro hc_ <;> (try simp only [isNilI, inB, reduceCtorEq, cds] at hc_) <;> (try (first | contradiction | (exfalso; omega)))) | refine ar_until (And.intro ?_ (wk3 ?_)))
  all_goals (first | refine ar_id ?_ | (try (focus ((try refine nrmO ?_); (repeat' (first | exact True.intro | refine And.intro ?_ ?_)); all_goals (try (intro (hg_ : _ = true); (try simp only [isNilI, inB, reduceCtorEq, cds] at hg_); (repeat' (first | exact True.intro | refine And.intro ?_ ?_)))); all_goals (first | exact ob1 | skip)))))
  refine ar_keep 15 (by dsimp only [keepS] <;> exact rfl) ?_
  refine ar_forM (k.Refuse.length) (fun i => ∀ y ∈ k.Refuse.take i, 0 ≤ y) (fun i => [(3, (TV.sv (.one (.lit (.int .i64 (i))))))]) (fun i => []) ?_ ?_ ?_
  rotate_left
  · first | trivial | simp
  (dsimp only [rnCap, capSVs, Int.toNat_natCast, ro, Nat.reduceAdd, Nat.reduceMul, Nat.zero_add, List.map, putT, app, wrapG, gOb, argT, keys, slotOf, dropped, gAnd, wB, rnT, rnS, rnC, rnCs, rnSs, rnM, rnB, rnN, rn, lk, St.over, ded, delL, keepT, menT, menSs, menS, menCs, menC, hasN, resT, SV.cells]; refine wk3 ?_; (focus ((try refine nrmO ?_); (repeat' (first | exact True.intro | refine And.intro ?_ ?_)); all_goals (try (intro (hg_ : _ = true); (try simp only [isNilI, inB, reduceCtorEq, cds] at hg_); (repeat' (first | exact True.intro | refine And.intro ?_ ?_)))); all_goals (first | exact ob1 | exact rfl | skip))))
  rotate_right
  intro i hi_ hiI_
  dsimp only [rnCap, capSVs, Int.toNat_natCast, ro, Nat.reduceAdd, Nat.reduceMul, Nat.zero_add, List.map, putT, app, wrapG, gOb, argT, keys, slotOf, dropped, gAnd, wB, rnT, rnS, rnC, rnCs, rnSs, rnM, rnB, rnN, rn, lk, St.over, ded, delL, keepT, menT, menSs, menS, menCs, menC, hasN, resT, SV.cells]
  repeat' (refine ar_id ?_; first | refine st1 ?_ | (first | ((first | refine ar_region (id := 4) tt_ok (inps := [.elem (Tr.eI (k.Refuse.getD i 0))]) rfl ?_ ?_ | refine ar_region (id := 6) tt_ok (inps := [.call (c_MOk k.Machine), .call (c_In k.Calls 0 100000)]) rfl ?_ ?_ | refine ar_region tt_ok (inps := []) rfl ?_ ?_); rotate_left; (try dsimp only [c_In, c_MOk]); (try refine nrm ?_); rotate_right) | refine ret3 ?_ | refine end3 ?_) | (refine ar_cond rfl trivial ?_ ?_ <;> intro hc_ <;> (try simp only [isNilI, inB, reduceCtorEq, cds] at hc_) <;> (try (first | contradiction | (exfalso; omega)))) | refine ar_until (And.intro ?_ (wk3 ?_)))
  all_goals (first | refine ar_id ?_ | (try (focus ((try refine nrmO ?_); (repeat' (first | exact True.intro | refine And.intro ?_ ?_)); all_goals (try (intro (hg_ : _ = true); (try simp only [isNilI, inB, reduceCtorEq, cds] at hg_); (repeat' (first | exact True.intro | refine And.intro ?_ ?_)))); all_goals (first | exact ob1 | exact fn_MOk _ hs.m | exact fn_In _ _ _ | skip)))))
  · exact bf fun h => by have := h.2.2.1 _ (getD_in (l := k.Refuse) (i := i) (d := 0) (by omega)); omega
  · exact all_take (d := 0) hiI_ (by omega) hc_
  · have hre := all_full hiI_ (by omega)
    refine congrArg Value.bool (Bool.eq_iff_iff.2 (Iff.trans ?_ (decide_eq_true_iff (p := okK k)).symm))
    simp only [decide_eq_true_eq, Bool.cond_false_right, Bool.and_eq_true, inB_iff, pMachineOk]
    exact ⟨fun h => ⟨h.1.1, h.1.2, hre, by omega⟩, fun h => ⟨⟨h.1, h.2.1⟩, by have := h.2.2.2; omega⟩⟩
def c_Copy8 (k : GKernel) : CFD := ⟨15, [.agg [ro 31 1 eIntS k.Machine.Frames.Cells, ro 4 1 Tr.eB k.Machine.Frames.Used, ro 75 2 eEntry k.Machine.Table.Entries, (CV.lit (.int .i64 (k.Calls))), ro 3 1 Tr.eI k.Refuse]], [], .sv (.agg [.hd 0, .hd 1, .hd 2, (CV.lit (.int .i64 (k.Calls))), .hd 3]), [(0, some (.row 31 1 (k.Machine.Frames.Cells.map eIntS))), (1, some (.row 4 1 (k.Machine.Frames.Used.map Tr.eB))), (2, some (.row 75 2 (k.Machine.Table.Entries.map eEntry))), (3, some (.row 3 1 (k.Refuse.map Tr.eI)))], [0, 1, 2, 3], []⟩
theorem fn_Copy8 (k : GKernel) (hs : szK8 k) : Fn Tryd.prog (c_Copy8 k) := by
  have hr := hs.r
  refine fn_intro tt_ok Tryd.func15 rfl Tryd.call15 Tryd.ntmps15 Tryd.results15 rfl rfl rfl rfl ?_
  intro X ρ0 hb_ hgl_
  dsimp only [c_Copy8]
  try refine nrm ?_
  repeat' (refine ar_id ?_; first | refine st1 ?_ | (first | ((first | refine ar_draw (id := 1) (inps := [.call (c_Copy7 k.Machine), .elems (k.Refuse.map Tr.eI)]) tt_ok (by kernel_rfl) rfl rfl (by kernel_rfl) rfl rfl rfl rfl ?_ ?_ | refine ar_region tt_ok (inps := []) rfl ?_ ?_); rotate_left; (try dsimp only [c_Copy7]); (try refine nrm ?_); rotate_right) | refine ret3 ?_ | refine end3 ?_) | (refine ar_cond rfl trivial ?_ ?_ <;> intro hc_ <;> (try simp only [isNilI, inB, reduceCtorEq, cds] at hc_) <;> (try (first | contradiction | (exfalso; omega)))) | refine ar_until (And.intro ?_ (wk3 ?_)))
  all_goals (first | refine ar_id ?_ | (try (focus ((try refine nrmO ?_); (repeat' (first | exact True.intro | refine And.intro ?_ ?_)); all_goals (try (intro (hg_ : _ = true); (try simp only [isNilI, inB, reduceCtorEq, cds] at hg_); (repeat' (first | exact True.intro | refine And.intro ?_ ?_)))); all_goals (first | exact ob1 | exact fn_Copy7 _ hs.m | exact flat_map' k.Refuse (fun x => ⟨rfl, rfl, trivial⟩) | exact (by simp only [lns]; omega) | skip)))))
end Eng
end Go.Proofs.YtabnglcabpijfaaDoor
namespace Go.Proofs.YtabnglcabpijfaaDoor
open Go.RowKit
set_option linter.unusedVariables false
set_option linter.unusedSimpArgs false
namespace Eng
open Tr
theorem cnt_leN {n : Nat} : ∀ {l : List (List Int)}, (∀ r ∈ l, r.length ≤ n) → cntII l ≤ l.length * n
  | [], _ => Nat.zero_le _
  | r :: l, h => by
    have h1 := h r (List.mem_cons_self ..)
    have h2 := cnt_leN (l := l) fun x hx => h x (List.mem_cons_of_mem _ hx)
    show r.length + cntII l ≤ (l.length + 1) * n
    rw [Nat.succ_mul]
    omega
theorem n_resN {k k' : GKernel} (hn : nK k ≤ 1048576) (hs : sameSz k.Machine k'.Machine) (hr : k'.Refuse = k.Refuse) (h : k' = k ∨ okK k) : nK k' ≤ 1048576 := by
  rcases h with rfl | h
  · exact hn
  · obtain ⟨h1, h2, h3⟩ := okF_sz h.1.1
    have h4 := h.2.2.2
    have h5 := h.1.2.1
    unfold pTableOk at h5
    have h6 := (of_decide_eq_true h5).2.2
    have h7 := cnt_leN (hs.r 16 (Nat.le_refl _) h3)
    have c1 := hs.c
    have c2 := hs.u
    have c3 := hs.e
    unfold nK nM nF nT
    rw [hr]
    omega
theorem szK8_smN {k : GKernel} (h : smK k) : szK8 k := ⟨⟨h.hMachine.hFrames.hCells.1, h.hMachine.hFrames.hUsed, h.hMachine.hFrames.hCells.2, h.hMachine.hTable.hEntries⟩, h.hRefuse⟩
end Eng
end Go.Proofs.YtabnglcabpijfaaDoor
namespace Go.Proofs.YtabnglcabpijfaaDoor
open Go.RowKit
set_option linter.unusedVariables false
set_option linter.unusedSimpArgs false
namespace Tr
/-- one step of a writer, in a valid kernel -/
def stepW (k : GKernel) (w : GWriter) : GKernel × GWriter :=
  if w.Done = true then (k, w)
  else if (pStore k.Machine w.Addr w.Value).2 = 2 then (k, ⟨w.Addr, w.Value, w.Done, IntKind.i64.wrap (w.Waits + 1)⟩)
  else (⟨(pStore k.Machine w.Addr w.Value).1, k.Calls, k.Refuse⟩, ⟨w.Addr, w.Value, true, w.Waits⟩)
def pWriterStep (k : GKernel) (w : GWriter) : GKernel × GWriter := if okK k then stepW k w else (k, w)
/-- kernel, job, writers -/
structure WSt where
  k : GKernel
  j : GJob
  ws : List GWriter
end Tr
end Go.Proofs.YtabnglcabpijfaaDoor
namespace Go.Proofs.YtabnglcabpijfaaDoor
open Go.RowKit
set_option linter.unusedVariables false
set_option linter.unusedSimpArgs false
namespace Tr
theorem sz_storeM (m : GMachine) (addr v : Int) : sameSz m (pStore m addr v).1 := by
  unfold pStore
  split
  · split
    · exact sameSz.refl _
    · split
      · exact sz_cell _ _ _ _
      · exact sameSz.refl _
  · exact sameSz.refl _
theorem sz_writer (k : GKernel) (w : GWriter) : sameSz k.Machine (pWriterStep k w).1.Machine ∧ (pWriterStep k w).1.Refuse = k.Refuse ∧ (pWriterStep k w).2.Addr = w.Addr := by
  unfold pWriterStep
  split
  · unfold stepW
    split
    · exact ⟨sameSz.refl _, rfl, rfl⟩
    · split
      · exact ⟨sameSz.refl _, rfl, rfl⟩
      · exact ⟨sz_storeM _ _ _, rfl, rfl⟩
  · exact ⟨sameSz.refl _, rfl, rfl⟩
/-- as0 large as0 before -/
structure sameS (a b : WSt) : Prop where
  m : sameSz a.k.Machine b.k.Machine
  r : b.k.Refuse = a.k.Refuse
  p : b.j.Plan = a.j.Plan
  n : b.ws.length = a.ws.length
  w : ∀ n, (b.ws.getD n noW).Addr = (a.ws.getD n noW).Addr
theorem sameS.refl (a : WSt) : sameS a a := ⟨sameSz.refl _, rfl, rfl, rfl, fun _ => rfl⟩
theorem sameS.trans {a b c : WSt} (h : sameS a b) (h' : sameS b c) : sameS a c := ⟨h.m.trans h'.m, h'.r.trans h.r, h'.p.trans h.p, h'.n.trans h.n, fun n => (h'.w n).trans (h.w n)⟩
/-- a kernel that is not valid stays -/
theorem keepW {k : GKernel} (h : ¬ okK k) (w : GWriter) : (pWriterStep k w).1 = k := by unfold pWriterStep; rw [if_neg h]
end Tr
end Go.Proofs.YtabnglcabpijfaaDoor
namespace Go.Proofs.YtabnglcabpijfaaDoor
open Go.RowKit
set_option linter.unusedVariables false
set_option linter.unusedSimpArgs false
set_option maxRecDepth 100000
namespace Eng
open Tr
def c_StoreS (m : GMachine) (addr v : Int) (m' : GMachine) (x : Int) : CFD := ⟨34, [.agg [ro 31 1 eIntS m.Frames.Cells, ro 4 1 Tr.eB m.Frames.Used, ro 75 2 eEntry m.Table.Entries], (SV.one (.lit (.int .i64 (addr)))), (SV.one (.lit (.int .i64 (v))))], [], .tup [.agg [.hd 0, .hd 1, .hd 2], (SV.one (.lit (.int .i64 (x))))], [(0, some (.row 31 1 ((m').Frames.Cells.map eIntS))), (1, some (.row 4 1 ((m').Frames.Used.map Tr.eB))), (2, some (.row 75 2 ((m').Table.Entries.map eEntry)))], [0, 1, 2], []⟩
theorem fn_StoreS (m : GMachine) (addr v : Int) (m' : GMachine) (x : Int) (hs : szM7 m) (ha : addr ≤ 9223372036854775807) (hx : pStore m addr v = (m', x)) : Fn Tryd.prog (c_StoreS m addr v m' x) := by
  unfold pStore at hx
  by_cases hC : canLoad m addr
  · have hok : pMachineOk m = true := decide_eq_true hC.1
    have hne := hC.2
    rw [if_pos hC] at hx
    by_cases h1 : (pEntry m addr).1.Mode = 1
    · rw [if_pos h1] at hx
      obtain ⟨rfl, rfl⟩ := Prod.mk.inj hx
      refine fn_intro tt_ok Tryd.func34 rfl Tryd.call34 Tryd.ntmps34 Tryd.results34 rfl rfl rfl rfl ?_
      intro X ρ0 hb_ hgl_
      dsimp only [c_StoreS]
      try refine nrm ?_
      repeat' (refine ar_id ?_; first | refine st1 ?_ | (first | ((first | refine ar_region (id := 1) tt_ok (inps := [.call (c_Copy7 m)]) rfl ?_ ?_ | refine ar_region (id := 2) tt_ok (inps := [.call (c_EntR m addr 1 (pEntry m addr).1.Frame (pEntry m addr).2)]) rfl ?_ ?_ | refine ar_region (id := 3) tt_ok (inps := [.call (c_MOk m)]) rfl ?_ ?_ | refine ar_region tt_ok (inps := []) rfl ?_ ?_); rotate_left; (try dsimp only [c_Copy7, c_EntR, c_MOk]); (try refine nrm ?_); rotate_right) | refine ret3 ?_ | refine end3 ?_) | (refine ar_cond rfl trivial ?_ ?_ <;> intro hc_ <;> (try simp only [isNilI, inB, reduceCtorEq, cds] at hc_) <;> (try (first | contradiction | (exfalso; omega) | (exfalso; grind)))) | refine ar_until (And.intro ?_ (wk3 ?_)))
      all_goals (first | refine ar_id ?_ | (try (focus ((try refine nrmO ?_); (repeat' (first | exact True.intro | refine And.intro ?_ ?_)); all_goals (try (intro (hg_ : _ = true); (try simp only [isNilI, inB, reduceCtorEq, cds] at hg_); (repeat' (first | exact True.intro | refine And.intro ?_ ?_)))); all_goals (first | exact ob1 | exact fn_Copy7 m hs | exact fn_EntR m addr _ _ _ hs ha h1 rfl rfl | exact fn_MOk m hs | skip)))))
    · rw [if_neg h1] at hx
      obtain ⟨_, f, k, r, hf, hk, k1, k2, _, k3, k4⟩ := load_at hC
      by_cases hv : 0 ≤ v ∧ v ≤ 999
      · rw [if_pos hv] at hx
        obtain ⟨rfl, rfl⟩ := Prod.mk.inj hx
        have h2 : (pEntry m addr).1.Mode = 2 := by
          have he : (pEntry m addr).1 ∈ m.Table.Entries ∨ (pEntry m addr).1 = ⟨0, 0⟩ := by
            unfold pEntry pPageEntry
            split
            · exact .inr rfl
            · dsimp only
              split
              · left
                rw [List.getD_eq_getElem?_getD, List.getElem?_eq_getElem (by omega)]
                exact List.getElem_mem _
              · exact .inr rfl
          rcases he with he | he
          · have h2 := hC.1.2.1
            unfold pTableOk at h2
            rcases (of_decide_eq_true h2).1 _ he with ⟨h0, _⟩ | ⟨h0, _⟩
            · exact absurd h0 hne
            · rcases h0 with h0 | h0
              · exact absurd h0 h1
              · exact h0
          · rw [he] at hne; exact absurd rfl hne
        exact fn_Store7 m addr v hs ha hC h2 hv
      · rw [if_neg hv] at hx
        obtain ⟨rfl, rfl⟩ := Prod.mk.inj hx
        have hb : inB v 0 999 = false := by cases hb : inB v 0 999 with | false => rfl | true => exact absurd (inB_iff.1 hb) hv
        refine fn_intro tt_ok Tryd.func34 rfl Tryd.call34 Tryd.ntmps34 Tryd.results34 rfl rfl rfl rfl ?_
        intro X ρ0 hb_ hgl_
        dsimp only [c_StoreS]
        try refine nrm ?_
        repeat' (refine ar_id ?_; first | refine st1 ?_ | (first | ((first | refine ar_region (id := 1) tt_ok (inps := [.call (c_Copy7 m)]) rfl ?_ ?_ | refine ar_region (id := 2) tt_ok (inps := [.call (c_EntR m addr (pEntry m addr).1.Mode (pEntry m addr).1.Frame (pEntry m addr).2)]) rfl ?_ ?_ | refine ar_region (id := 3) tt_ok (inps := [.call (c_MOk m)]) rfl ?_ ?_ | refine ar_region (id := 7) tt_ok (inps := [.call (c_In v 0 999)]) rfl ?_ ?_ | refine ar_region tt_ok (inps := []) rfl ?_ ?_); rotate_left; (try dsimp only [c_Copy7, c_EntR, c_In, c_MOk]); (try refine nrm ?_); rotate_right) | refine ret3 ?_ | refine end3 ?_) | (refine ar_cond rfl trivial ?_ ?_ <;> intro hc_ <;> (try simp only [isNilI, inB, reduceCtorEq, cds] at hc_) <;> (try (first | contradiction | (exfalso; omega) | (exfalso; grind)))) | refine ar_until (And.intro ?_ (wk3 ?_)))
        all_goals (first | refine ar_id ?_ | (try (focus ((try refine nrmO ?_); (repeat' (first | exact True.intro | refine And.intro ?_ ?_)); all_goals (try (intro (hg_ : _ = true); (try simp only [isNilI, inB, reduceCtorEq, cds] at hg_); (repeat' (first | exact True.intro | refine And.intro ?_ ?_)))); all_goals (first | exact ob1 | exact fn_Copy7 m hs | exact fn_EntR m addr _ _ _ hs ha rfl rfl rfl | exact fn_MOk m hs | exact fn_In _ _ _ | skip)))))
  · rw [if_neg hC] at hx
    obtain ⟨rfl, rfl⟩ := Prod.mk.inj hx
    have hC' : ¬ (pMachineOk m = true ∧ (pEntry m addr).1.Mode ≠ 0) := fun hh => hC ⟨of_decide_eq_true hh.1, hh.2⟩
    refine fn_intro tt_ok Tryd.func34 rfl Tryd.call34 Tryd.ntmps34 Tryd.results34 rfl rfl rfl rfl ?_
    intro X ρ0 hb_ hgl_
    dsimp only [c_StoreS]
    try refine nrm ?_
    repeat' (refine ar_id ?_; first | refine st1 ?_ | (first | ((first | refine ar_region (id := 1) tt_ok (inps := [.call (c_Copy7 m)]) rfl ?_ ?_ | refine ar_region (id := 2) tt_ok (inps := [.call (c_EntR m addr (pEntry m addr).1.Mode (pEntry m addr).1.Frame (pEntry m addr).2)]) rfl ?_ ?_ | refine ar_region (id := 3) tt_ok (inps := [.call (c_MOk m)]) rfl ?_ ?_ | refine ar_region tt_ok (inps := []) rfl ?_ ?_); rotate_left; (try dsimp only [c_Copy7, c_EntR, c_MOk]); (try refine nrm ?_); rotate_right) | refine ret3 ?_ | refine end3 ?_) | (refine ar_cond rfl trivial ?_ ?_ <;> intro hc_ <;> (try simp only [isNilI, inB, reduceCtorEq, cds] at hc_) <;> (try (first | contradiction | (exfalso; omega) | (exfalso; exact hC' ⟨by grind, by grind⟩)))) | refine ar_until (And.intro ?_ (wk3 ?_)))
    all_goals (first | refine ar_id ?_ | (try (focus ((try refine nrmO ?_); (repeat' (first | exact True.intro | refine And.intro ?_ ?_)); all_goals (try (intro (hg_ : _ = true); (try simp only [isNilI, inB, reduceCtorEq, cds] at hg_); (repeat' (first | exact True.intro | refine And.intro ?_ ?_)))); all_goals (first | exact ob1 | exact fn_Copy7 m hs | exact fn_EntR m addr _ _ _ hs ha rfl rfl rfl | exact fn_MOk m hs | skip)))))
end Eng
end Go.Proofs.YtabnglcabpijfaaDoor
namespace Go.Proofs.YtabnglcabpijfaaDoor
open Go.RowKit
set_option linter.unusedVariables false
set_option linter.unusedSimpArgs false
set_option maxRecDepth 100000
namespace Eng
open Tr
/-- the kernel stays -/
def c_WStA (k : GKernel) (w w' : GWriter) : CFD := ⟨17, [.one (.box 900 0), .agg [(CV.lit (.int .i64 (w.Addr))), (CV.lit (.int .i64 (w.Value))), (CV.lit (.bool (w.Done))), (CV.lit (.int .i64 (w.Waits)))]], [(900, some (.box 44 [.hd 901, .hd 902, .hd 903, (CV.lit (.int .i64 (k.Calls))), .hd 904])), (901, some (.row 31 1 (k.Machine.Frames.Cells.map eIntS))), (902, some (.row 4 1 (k.Machine.Frames.Used.map Tr.eB))), (903, some (.row 75 2 (k.Machine.Table.Entries.map eEntry))), (904, some (.row 3 1 (k.Refuse.map Tr.eI)))], .sv (.agg [(CV.lit (.int .i64 ((w').Addr))), (CV.lit (.int .i64 ((w').Value))), (CV.lit (.bool ((w').Done))), (CV.lit (.int .i64 ((w').Waits)))]), [(900, some (.box 44 [.hd 901, .hd 902, .hd 903, (CV.lit (.int .i64 (k.Calls))), .hd 904])), (901, some (.row 31 1 (k.Machine.Frames.Cells.map eIntS))), (902, some (.row 4 1 (k.Machine.Frames.Used.map Tr.eB))), (903, some (.row 75 2 (k.Machine.Table.Entries.map eEntry))), (904, some (.row 3 1 (k.Refuse.map Tr.eI)))], [], []⟩
theorem fn_WStA (k : GKernel) (w w' : GWriter) (hs : szK8 k) (ha : w.Addr ≤ 9223372036854775807) (hn : w.Done = true ∨ (pStore k.Machine w.Addr w.Value).2 = 2) (h : stepW k w = (k, w')) : Fn Tryd.prog (c_WStA k w w') := by
  unfold stepW at h
  by_cases hd : w.Done = true
  · rw [if_pos hd] at h
    obtain ⟨_, rfl⟩ := Prod.mk.inj h
    refine fn_intro tt_ok Tryd.func17 rfl Tryd.call17 Tryd.ntmps17 Tryd.results17 rfl rfl rfl rfl ?_
    intro X ρ0 hb_ hgl_
    dsimp only [c_WStA]
    try refine nrm ?_
    repeat' (refine ar_id ?_; first | refine st1 ?_ | (first | ((first | refine ar_region tt_ok (inps := []) rfl ?_ ?_); rotate_left; (try refine nrm ?_); rotate_right) | refine ret3 ?_ | refine end3 ?_) | (refine ar_cond rfl trivial ?_ ?_ <;> intro hc_ <;> (try simp only [isNilI, inB, reduceCtorEq, cds] at hc_) <;> (try (first | contradiction | (exfalso; omega)))) | refine ar_until (And.intro ?_ (wk3 ?_)))
    all_goals (first | refine ar_id ?_ | (try (focus ((try refine nrmO ?_); (repeat' (first | exact True.intro | refine And.intro ?_ ?_)); all_goals (try (intro (hg_ : _ = true); (try simp only [isNilI, inB, reduceCtorEq, cds] at hg_); (repeat' (first | exact True.intro | refine And.intro ?_ ?_)))); all_goals (first | exact ob1 | skip)))))
    all_goals exact absurd (hd.symm.trans hc_) (by decide)
  · have hf := hn.resolve_left hd
    rw [if_neg hd, if_pos hf] at h
    obtain ⟨_, rfl⟩ := Prod.mk.inj h
    obtain ⟨⟨m1, c⟩, hst⟩ : ∃ r, pStore k.Machine w.Addr w.Value = r := ⟨_, rfl⟩
    rw [hst] at hf
    have hf : c = 2 := hf
    subst hf
    refine fn_intro tt_ok Tryd.func17 rfl Tryd.call17 Tryd.ntmps17 Tryd.results17 rfl rfl rfl rfl ?_
    intro X ρ0 hb_ hgl_
    dsimp only [c_WStA]
    try refine nrm ?_
    repeat' (refine ar_id ?_; first | refine st1 ?_ | (refine ar_run (id := 5) [] ?_; generalize hQ_ : kont _ _ _ _ = Q_; repeat' (first | (focus ((first | refine as_call3 tt_ok ?_ ?_ | refine as_sure3 tt_ok ?_ ?_ | refine as_wrap3 ?_ ?_ | refine as_cons3 tt_ok ?_ ?_); (try dsimp only [c_StoreS]); (try refine nrm ?_); rotate_left)) | (subst hQ_; refine as_nil ?_))) | (refine ar_drawS (id := 3) tt_ok (by kernel_rfl) [.call (c_StoreS k.Machine w.Addr w.Value m1 2)] ?_; refine ed_hide ?_; intro K_ hK_; repeat' (first | ((first | refine ed_call3 ?_ | refine ed_sure3 ?_ | refine ed_cons3 ?_); refine ed_hide ?_; intro K_ hK_; (try dsimp only [c_StoreS]); (try refine nrmE ?_)) | (refine ed_nil ?_; (repeat subst hK_); dsimp only; refine Exists.intro _ (And.intro rfl (And.intro (by kernel_rfl) (And.intro ?_ ?_))); rotate_left; (try dsimp only [c_StoreS]); (try refine nrm ?_); rotate_right))) | (first | ((first | refine ar_region tt_ok (inps := []) rfl ?_ ?_); rotate_left; (try dsimp only [c_StoreS]); (try refine nrm ?_); rotate_right) | refine ret3 ?_ | refine end3 ?_) | (refine ar_cond rfl trivial ?_ ?_ <;> intro hc_ <;> (try simp only [isNilI, inB, reduceCtorEq, cds] at hc_) <;> (try (first | contradiction | (exfalso; omega) | (exfalso; grind)))) | refine ar_until (And.intro ?_ (wk3 ?_)))
    all_goals (first | refine ar_id ?_ | (try (focus ((try refine nrmO ?_); (repeat' (first | exact True.intro | refine And.intro ?_ ?_)); all_goals (try (intro (hg_ : _ = true); (try simp only [isNilI, inB, reduceCtorEq, cds] at hg_); (repeat' (first | exact True.intro | refine And.intro ?_ ?_)))); all_goals (first | exact ob1 | exact fn_StoreS _ _ _ _ _ hs.m ha hst | skip)))))
    all_goals trace_state
/-- the write is made (or has no effect) -/
def c_WStB (k : GKernel) (w : GWriter) (k' : GKernel) (w' : GWriter) : CFD := ⟨17, [.one (.box 900 0), .agg [(CV.lit (.int .i64 (w.Addr))), (CV.lit (.int .i64 (w.Value))), (CV.lit (.bool (w.Done))), (CV.lit (.int .i64 (w.Waits)))]], [(900, some (.box 44 [.hd 901, .hd 902, .hd 903, (CV.lit (.int .i64 (k.Calls))), .hd 904])), (901, some (.row 31 1 (k.Machine.Frames.Cells.map eIntS))), (902, some (.row 4 1 (k.Machine.Frames.Used.map Tr.eB))), (903, some (.row 75 2 (k.Machine.Table.Entries.map eEntry))), (904, some (.row 3 1 (k.Refuse.map Tr.eI)))], .sv (.agg [(CV.lit (.int .i64 ((w').Addr))), (CV.lit (.int .i64 ((w').Value))), (CV.lit (.bool ((w').Done))), (CV.lit (.int .i64 ((w').Waits)))]), [(900, some (.box 44 [.hd 911, .hd 912, .hd 913, (CV.lit (.int .i64 (k'.Calls))), .hd 904])), (911, some (.row 31 1 ((k'.Machine).Frames.Cells.map eIntS))), (912, some (.row 4 1 ((k'.Machine).Frames.Used.map Tr.eB))), (913, some (.row 75 2 ((k'.Machine).Table.Entries.map eEntry))), (904, some (.row 3 1 (k'.Refuse.map Tr.eI)))], [911, 912, 913], []⟩
theorem fn_WStB (k : GKernel) (w : GWriter) (k' : GKernel) (w' : GWriter) (hs : szK8 k) (ha : w.Addr ≤ 9223372036854775807) (hd : ¬ w.Done = true) (hf : (pStore k.Machine w.Addr w.Value).2 ≠ 2) (h : stepW k w = (k', w')) : Fn Tryd.prog (c_WStB k w k' w') := by
  unfold stepW at h
  rw [if_neg hd, if_neg hf] at h
  obtain ⟨⟨m1, c⟩, hst⟩ : ∃ r, pStore k.Machine w.Addr w.Value = r := ⟨_, rfl⟩
  rw [hst] at h hf
  obtain ⟨rfl, rfl⟩ := Prod.mk.inj h
  have hf : c ≠ 2 := hf
  refine fn_intro tt_ok Tryd.func17 rfl Tryd.call17 Tryd.ntmps17 Tryd.results17 rfl rfl rfl rfl ?_
  intro X ρ0 hb_ hgl_
  dsimp only [c_WStB]
  try refine nrm ?_
  repeat' (refine ar_id ?_; first | refine st1 ?_ | (refine ar_drawS (id := 3) tt_ok (by kernel_rfl) [.call (c_StoreS k.Machine w.Addr w.Value m1 c)] ?_; refine ed_hide ?_; intro K_ hK_; repeat' (first | ((first | refine ed_call3 ?_ | refine ed_sure3 ?_ | refine ed_cons3 ?_); refine ed_hide ?_; intro K_ hK_; (try dsimp only [c_StoreS]); (try refine nrmE ?_)) | (refine ed_nil ?_; (repeat subst hK_); dsimp only; refine Exists.intro _ (And.intro rfl (And.intro (by kernel_rfl) (And.intro ?_ ?_))); rotate_left; (try dsimp only [c_StoreS]); (try refine nrm ?_); rotate_right))) | (first | ((first | refine ar_region tt_ok (inps := []) rfl ?_ ?_); rotate_left; (try dsimp only [c_StoreS]); (try refine nrm ?_); rotate_right) | refine ret3 ?_ | refine end3 ?_) | (refine ar_cond rfl trivial ?_ ?_ <;> intro hc_ <;> (try simp only [isNilI, inB, reduceCtorEq, cds] at hc_) <;> (try (first | contradiction | (exfalso; omega) | (exfalso; grind)))) | refine ar_until (And.intro ?_ (wk3 ?_)))
  all_goals (first | refine ar_id ?_ | (try (focus ((try refine nrmO ?_); (repeat' (first | exact True.intro | refine And.intro ?_ ?_)); all_goals (try (intro (hg_ : _ = true); (try simp only [isNilI, inB, reduceCtorEq, cds] at hg_); (repeat' (first | exact True.intro | refine And.intro ?_ ?_)))); all_goals (first | exact ob1 | exact fn_StoreS _ _ _ _ _ hs.m ha hst | skip)))))
  all_goals trace_state
def c_WriterS (k : GKernel) (w : GWriter) (k' : GKernel) (w' : GWriter) : CFD := ⟨5, [.agg [ro 31 1 eIntS k.Machine.Frames.Cells, ro 4 1 Tr.eB k.Machine.Frames.Used, ro 75 2 eEntry k.Machine.Table.Entries, (CV.lit (.int .i64 (k.Calls))), ro 3 1 Tr.eI k.Refuse], .agg [(CV.lit (.int .i64 (w.Addr))), (CV.lit (.int .i64 (w.Value))), (CV.lit (.bool (w.Done))), (CV.lit (.int .i64 (w.Waits)))]], [], .tup [.agg [.hd 0, .hd 1, .hd 2, (CV.lit (.int .i64 ((k').Calls))), .hd 3], .agg [(CV.lit (.int .i64 ((w').Addr))), (CV.lit (.int .i64 ((w').Value))), (CV.lit (.bool ((w').Done))), (CV.lit (.int .i64 ((w').Waits)))]], [(0, some (.row 31 1 ((k').Machine.Frames.Cells.map eIntS))), (1, some (.row 4 1 ((k').Machine.Frames.Used.map Tr.eB))), (2, some (.row 75 2 ((k').Machine.Table.Entries.map eEntry))), (3, some (.row 3 1 ((k').Refuse.map Tr.eI)))], [0, 1, 2, 3], []⟩
theorem fn_WriterS (k : GKernel) (w : GWriter) (k' : GKernel) (w' : GWriter) (hs : szK8 k) (ha : w.Addr ≤ 9223372036854775807) (h : pWriterStep k w = (k', w')) : Fn Tryd.prog (c_WriterS k w k' w') := by
  unfold pWriterStep at h
  by_cases hok : okK k
  · have hk : pKernelOk k = true := decide_eq_true hok
    rw [if_pos hok] at h
    by_cases hA : w.Done = true ∨ (pStore k.Machine w.Addr w.Value).2 = 2
    · have hk' : k' = k := by
        unfold stepW at h
        by_cases hd : w.Done = true
        · rw [if_pos hd] at h; exact (Prod.mk.inj h).1.symm
        · rw [if_neg hd, if_pos (hA.resolve_left hd)] at h; exact (Prod.mk.inj h).1.symm
      subst hk'
      refine fn_intro tt_ok Tryd.func5 rfl Tryd.call5 Tryd.ntmps5 Tryd.results5 rfl rfl rfl rfl ?_
      intro X ρ0 hb_ hgl_
      dsimp only [c_WriterS]
      try refine nrm ?_
      repeat' (refine ar_id ?_; first | refine st1 ?_ | (refine ar_run (id := 4) [.call (c_WStA k' w w')] ?_; generalize hQ_ : kont _ _ _ _ = Q_; repeat' (first | (focus ((first | refine as_call3 tt_ok ?_ ?_ | refine as_sure3 tt_ok ?_ ?_ | refine as_cons3 tt_ok ?_ ?_); (try dsimp only [c_Copy8, c_KOk, c_WStA]); (try refine nrm ?_); rotate_left)) | (subst hQ_; refine as_nil ?_))) | (refine ar_drawS (id := 5) tt_ok (by kernel_rfl) [] ?_; refine ed_hide ?_; intro K_ hK_; repeat' (first | ((first | refine ed_call3 ?_ | refine ed_sure3 ?_ | refine ed_cons3 ?_); refine ed_hide ?_; intro K_ hK_; (try dsimp only [c_Copy8, c_KOk, c_WStA]); (try refine nrmE ?_)) | (refine ed_nil ?_; (repeat subst hK_); dsimp only; refine Exists.intro _ (And.intro rfl (And.intro (by kernel_rfl) (And.intro ?_ ?_))); rotate_left; (try dsimp only [c_Copy8, c_KOk, c_WStA]); (try refine nrm ?_); rotate_right))) | (first | ((first | refine ar_region (id := 1) tt_ok (inps := [.call (c_Copy8 k')]) rfl ?_ ?_ | refine ar_region (id := 2) tt_ok (inps := [.call (c_KOk k')]) rfl ?_ ?_ | refine ar_region tt_ok (inps := []) rfl ?_ ?_); rotate_left; (try dsimp only [c_Copy8, c_KOk, c_WStA]); (try refine nrm ?_); rotate_right) | refine ret3 ?_ | refine end3 ?_) | (refine ar_cond rfl trivial ?_ ?_ <;> intro hc_ <;> (try simp only [isNilI, inB, reduceCtorEq, cds] at hc_) <;> (try (first | contradiction | (exfalso; omega) | (exfalso; grind)))) | refine ar_until (And.intro ?_ (wk3 ?_)))
      all_goals (first | refine ar_id ?_ | (try (focus ((try refine nrmO ?_); (repeat' (first | exact True.intro | refine And.intro ?_ ?_)); all_goals (try (intro (hg_ : _ = true); (try simp only [isNilI, inB, reduceCtorEq, cds] at hg_); (repeat' (first | exact True.intro | refine And.intro ?_ ?_)))); all_goals (first | exact ob1 | exact fn_Copy8 k' hs | exact fn_KOk k' hs | exact fn_WStA k' w w' hs ha hA h | skip)))))
      all_goals trace_state
    · have hd : ¬ w.Done = true := fun hh => hA (.inl hh)
      have hf : (pStore k.Machine w.Addr w.Value).2 ≠ 2 := fun hh => hA (.inr hh)
      refine fn_intro tt_ok Tryd.func5 rfl Tryd.call5 Tryd.ntmps5 Tryd.results5 rfl rfl rfl rfl ?_
      intro X ρ0 hb_ hgl_
      dsimp only [c_WriterS]
      try refine nrm ?_
      repeat' (refine ar_id ?_; first | refine st1 ?_ | (refine ar_run (id := 4) [.call (c_WStB k w k' w')] ?_; generalize hQ_ : kont _ _ _ _ = Q_; repeat' (first | (focus ((first | refine as_call3 tt_ok ?_ ?_ | refine as_sure3 tt_ok ?_ ?_ | refine as_cons3 tt_ok ?_ ?_); (try dsimp only [c_Copy8, c_KOk, c_WStB]); (try refine nrm ?_); rotate_left)) | (subst hQ_; refine as_nil ?_))) | (refine ar_drawS (id := 5) tt_ok (by kernel_rfl) [] ?_; refine ed_hide ?_; intro K_ hK_; repeat' (first | ((first | refine ed_call3 ?_ | refine ed_sure3 ?_ | refine ed_cons3 ?_); refine ed_hide ?_; intro K_ hK_; (try dsimp only [c_Copy8, c_KOk, c_WStB]); (try refine nrmE ?_)) | (refine ed_nil ?_; (repeat subst hK_); dsimp only; refine Exists.intro _ (And.intro rfl (And.intro (by kernel_rfl) (And.intro ?_ ?_))); rotate_left; (try dsimp only [c_Copy8, c_KOk, c_WStB]); (try refine nrm ?_); rotate_right))) | (first | ((first | refine ar_region (id := 1) tt_ok (inps := [.call (c_Copy8 k)]) rfl ?_ ?_ | refine ar_region (id := 2) tt_ok (inps := [.call (c_KOk k)]) rfl ?_ ?_ | refine ar_region tt_ok (inps := []) rfl ?_ ?_); rotate_left; (try dsimp only [c_Copy8, c_KOk, c_WStB]); (try refine nrm ?_); rotate_right) | refine ret3 ?_ | refine end3 ?_) | (refine ar_cond rfl trivial ?_ ?_ <;> intro hc_ <;> (try simp only [isNilI, inB, reduceCtorEq, cds] at hc_) <;> (try (first | contradiction | (exfalso; omega) | (exfalso; grind)))) | refine ar_until (And.intro ?_ (wk3 ?_)))
      all_goals (first | refine ar_id ?_ | (try (focus ((try refine nrmO ?_); (repeat' (first | exact True.intro | refine And.intro ?_ ?_)); all_goals (try (intro (hg_ : _ = true); (try simp only [isNilI, inB, reduceCtorEq, cds] at hg_); (repeat' (first | exact True.intro | refine And.intro ?_ ?_)))); all_goals (first | exact ob1 | exact fn_Copy8 k hs | exact fn_KOk k hs | exact fn_WStB k w k' w' hs ha hd hf h | skip)))))
      all_goals trace_state
  · have hk : pKernelOk k = false := decide_eq_false hok
    rw [if_neg hok] at h
    obtain ⟨rfl, rfl⟩ := Prod.mk.inj h
    refine fn_intro tt_ok Tryd.func5 rfl Tryd.call5 Tryd.ntmps5 Tryd.results5 rfl rfl rfl rfl ?_
    intro X ρ0 hb_ hgl_
    dsimp only [c_WriterS]
    try refine nrm ?_
    repeat' (refine ar_id ?_; first | refine st1 ?_ | (refine ar_drawS (id := 3) tt_ok (by kernel_rfl) [] ?_; refine ed_hide ?_; intro K_ hK_; repeat' (first | ((first | refine ed_call3 ?_ | refine ed_sure3 ?_ | refine ed_cons3 ?_); refine ed_hide ?_; intro K_ hK_; (try dsimp only [c_Copy8, c_KOk]); (try refine nrmE ?_)) | (refine ed_nil ?_; (repeat subst hK_); dsimp only; refine Exists.intro _ (And.intro rfl (And.intro (by kernel_rfl) (And.intro ?_ ?_))); rotate_left; (try dsimp only [c_Copy8, c_KOk]); (try refine nrm ?_); rotate_right))) | (first | ((first | refine ar_region (id := 1) tt_ok (inps := [.call (c_Copy8 k)]) rfl ?_ ?_ | refine ar_region (id := 2) tt_ok (inps := [.call (c_KOk k)]) rfl ?_ ?_ | refine ar_region tt_ok (inps := []) rfl ?_ ?_); rotate_left; (try dsimp only [c_Copy8, c_KOk]); (try refine nrm ?_); rotate_right) | refine ret3 ?_ | refine end3 ?_) | (refine ar_cond rfl trivial ?_ ?_ <;> intro hc_ <;> (try simp only [isNilI, inB, reduceCtorEq, cds] at hc_) <;> (try (first | contradiction | (exfalso; omega) | (exfalso; grind)))) | refine ar_until (And.intro ?_ (wk3 ?_)))
    all_goals (first | refine ar_id ?_ | (try (focus ((try refine nrmO ?_); (repeat' (first | exact True.intro | refine And.intro ?_ ?_)); all_goals (try (intro (hg_ : _ = true); (try simp only [isNilI, inB, reduceCtorEq, cds] at hg_); (repeat' (first | exact True.intro | refine And.intro ?_ ?_)))); all_goals (first | exact ob1 | exact fn_Copy8 k hs | exact fn_KOk k hs | skip)))))
    all_goals trace_state
end Eng
end Go.Proofs.YtabnglcabpijfaaDoor
namespace Go.Proofs.YtabnglcabpijfaaDoor
open Go.RowKit
set_option linter.unusedVariables false
set_option linter.unusedSimpArgs false
set_option maxRecDepth 100000
namespace Eng
open Tr
theorem szM_from {m : GMachine} (h : szM7 m) : szM m := ⟨h.c, h.u, h.r, h.e⟩
theorem szK_from {k : GKernel} (h : szK8 k) : szK k := ⟨szM_from h.m, h.r⟩
def c_StoR (s : Se) (m : GMachine) (addr v : Int) (m' : GMachine) (x : Int) : CFD := ⟨22, [.agg [ro 31 1 eIntS m.Frames.Cells, ro 4 1 Tr.eB m.Frames.Used, ro 75 2 eEntry m.Table.Entries], (SV.one (.lit (.int .i64 (addr)))), (SV.one (.lit (.int .i64 (v))))], [], .tup [.agg [.hd 0, .hd 1, .hd 2], (SV.one (.lit (.int .i64 (x))))], [(0, some (.row 31 1 ((m').Frames.Cells.map eIntS))), (1, some (.row 4 1 ((m').Frames.Used.map Tr.eB))), (2, some (.row 75 2 ((m').Table.Entries.map eEntry)))], [0, 1, 2], s.gl⟩
theorem fn_StoR (s : Se) (m : GMachine) (addr v : Int) (m' : GMachine) (x : Int) (hs : szM7 m) (ha : okI addr) (h : pStore m addr v = (m', x)) : Fn Tryd.prog (c_StoR s m addr v m' x) := by
  have := fn_StoreI s m addr v (szM_from hs) ha
  unfold c_StoreI at this
  rw [h] at this
  exact this
end Eng
end Go.Proofs.YtabnglcabpijfaaDoor
namespace Go.Proofs.YtabnglcabpijfaaDoor
open Go.RowKit
set_option linter.unusedVariables false
set_option linter.unusedSimpArgs false
set_option maxRecDepth 100000
namespace Eng
open Tr
def c_WriterI (s : Se) (k : GKernel) (w : GWriter) (k' : GKernel) (w' : GWriter) : CFD := ⟨8, [.agg [ro 31 1 eIntS k.Machine.Frames.Cells, ro 4 1 Tr.eB k.Machine.Frames.Used, ro 75 2 eEntry k.Machine.Table.Entries, (CV.lit (.int .i64 (k.Calls))), ro 3 1 Tr.eI k.Refuse], .agg [(CV.lit (.int .i64 (w.Addr))), (CV.lit (.int .i64 (w.Value))), (CV.lit (.bool (w.Done))), (CV.lit (.int .i64 (w.Waits)))]], [], .tup [.agg [.hd 0, .hd 1, .hd 2, (CV.lit (.int .i64 ((k').Calls))), .hd 3], .agg [(CV.lit (.int .i64 ((w').Addr))), (CV.lit (.int .i64 ((w').Value))), (CV.lit (.bool ((w').Done))), (CV.lit (.int .i64 ((w').Waits)))]], [(0, some (.row 31 1 ((k').Machine.Frames.Cells.map eIntS))), (1, some (.row 4 1 ((k').Machine.Frames.Used.map Tr.eB))), (2, some (.row 75 2 ((k').Machine.Table.Entries.map eEntry))), (3, some (.row 3 1 ((k').Refuse.map Tr.eI)))], [0, 1, 2, 3], s.gl⟩
set_option maxHeartbeats 8000000 in
theorem fn_WriterI (s : Se) (k : GKernel) (w : GWriter) (k' : GKernel) (w' : GWriter) (hs : szK8 k) (ha : okI w.Addr) (h : pWriterStep k w = (k', w')) : Fn Tryd.prog (c_WriterI s k w k' w') := by
  have hcp := fn_CopyKI k (szK_from hs)
  have hko := fn_KOkI k (szK_from hs)
  unfold pWriterStep at h
  by_cases hok : okK k
  · have hk : pKernelOk k = true := decide_eq_true hok
    rw [if_pos hok] at h
    unfold stepW at h
    by_cases hd : w.Done = true
    · rw [if_pos hd] at h
      obtain ⟨rfl, rfl⟩ := Prod.mk.inj h
      refine fn_intro tt_ok Tryd.func8 rfl Tryd.call8 Tryd.ntmps8 Tryd.results8 rfl rfl rfl rfl ?_
      intro X ρ0 hb_ hgl_
      dsimp only [c_WriterI]
      try refine nrm ?_
      repeat' (refine ar_id ?_; first | refine st1 ?_ | (refine ar_drawS (id := 3) tt_ok (by kernel_rfl) [] ?_; refine ed_hide ?_; intro K_ hK_; repeat' (first | ((first | refine ed_call3 ?_ | refine ed_sure3 ?_ | refine ed_cons3 ?_); refine ed_hide ?_; intro K_ hK_; (try dsimp only [c_CopyKI, c_KOkI]); (try refine nrmE ?_)) | (refine ed_nil ?_; (repeat subst hK_); dsimp only; refine Exists.intro _ (And.intro rfl (And.intro (by kernel_rfl) (And.intro ?_ ?_))); rotate_left; (try dsimp only [c_CopyKI, c_KOkI]); (try refine nrm ?_); rotate_right))) | (first | ((first | refine ar_region (id := 1) tt_ok (inps := [.call (c_CopyKI k)]) rfl ?_ ?_ | refine ar_region (id := 2) tt_ok (inps := [.call (c_KOkI k)]) rfl ?_ ?_ | refine ar_region tt_ok (inps := []) rfl ?_ ?_); rotate_left; (try dsimp only [c_CopyKI, c_KOkI]); (try refine nrm ?_); rotate_right) | refine ret3 ?_ | refine end3 ?_) | (refine ar_cond rfl trivial ?_ ?_ <;> intro hc_ <;> (try simp only [isNilI, inB, reduceCtorEq, cds] at hc_) <;> (try (first | contradiction | (exfalso; omega) | (exfalso; grind)))) | refine ar_until (And.intro ?_ (wk3 ?_)))
      all_goals (first | refine ar_id ?_ | (try (focus ((try refine nrmO ?_); (repeat' (first | exact True.intro | refine And.intro ?_ ?_)); all_goals (try (intro (hg_ : _ = true); (try simp only [isNilI, inB, reduceCtorEq, cds] at hg_); (repeat' (first | exact True.intro | refine And.intro ?_ ?_)))); all_goals (first | exact ob1 | exact hcp | exact hko | skip)))))
      all_goals trace_state
    · rw [if_neg hd] at h
      obtain ⟨⟨m1, c⟩, hst⟩ : ∃ r, pStore k.Machine w.Addr w.Value = r := ⟨_, rfl⟩
      rw [hst] at h
      have hsto := fn_StoR s k.Machine w.Addr w.Value m1 c hs.m ha hst
      by_cases hc : c = 2
      · rw [if_pos (show (m1, c).2 = 2 from hc)] at h
        have hm : m1 = k.Machine := by
          unfold pStore at hst
          split at hst
          · split at hst
            · exact (Prod.mk.inj hst).1.symm
            · split at hst
              · have := (Prod.mk.inj hst).2; omega
              · exact (Prod.mk.inj hst).1.symm
          · exact (Prod.mk.inj hst).1.symm
        subst hm
        subst hc
        obtain ⟨rfl, rfl⟩ := Prod.mk.inj h
        refine fn_intro tt_ok Tryd.func8 rfl Tryd.call8 Tryd.ntmps8 Tryd.results8 rfl rfl rfl rfl ?_
        intro X ρ0 hb_ hgl_
        dsimp only [c_WriterI]
        try refine nrm ?_
        repeat' (refine ar_id ?_; first | refine st1 ?_ | (refine ar_run (id := 7) [] ?_; generalize hQ_ : kont _ _ _ _ = Q_; repeat' (first | (focus ((first | refine as_call3 tt_ok ?_ ?_ | refine as_sure3 tt_ok ?_ ?_ | refine as_wrap3 ?_ ?_ | refine as_cons3 tt_ok ?_ ?_); (try dsimp only [c_CopyKI, c_KOkI, c_StoR]); (try refine nrm ?_); rotate_left)) | (subst hQ_; refine as_nil ?_))) | (refine ar_drawS (id := 8) tt_ok (by kernel_rfl) [] ?_; refine ed_hide ?_; intro K_ hK_; repeat' (first | ((first | refine ed_call3 ?_ | refine ed_sure3 ?_ | refine ed_cons3 ?_); refine ed_hide ?_; intro K_ hK_; (try dsimp only [c_CopyKI, c_KOkI, c_StoR]); (try refine nrmE ?_)) | (refine ed_nil ?_; (repeat subst hK_); dsimp only; refine Exists.intro _ (And.intro rfl (And.intro (by kernel_rfl) (And.intro ?_ ?_))); rotate_left; (try dsimp only [c_CopyKI, c_KOkI, c_StoR]); (try refine nrm ?_); rotate_right))) | (first | ((first | refine ar_region (id := 1) tt_ok (inps := [.call (c_CopyKI k)]) rfl ?_ ?_ | refine ar_region (id := 2) tt_ok (inps := [.call (c_KOkI k)]) rfl ?_ ?_ | refine ar_region (id := 4) tt_ok (inps := [.call (c_StoR s k.Machine w.Addr w.Value k.Machine 2)]) rfl ?_ ?_ | refine ar_region tt_ok (inps := []) rfl ?_ ?_); rotate_left; (try dsimp only [c_CopyKI, c_KOkI, c_StoR]); (try refine nrm ?_); rotate_right) | refine ret3 ?_ | refine end3 ?_) | (refine ar_cond rfl trivial ?_ ?_ <;> intro hc_ <;> (try simp only [isNilI, inB, reduceCtorEq, cds] at hc_) <;> (try (first | contradiction | (exfalso; omega) | (exfalso; grind)))) | refine ar_until (And.intro ?_ (wk3 ?_)))
        all_goals (first | refine ar_id ?_ | (try (focus ((try refine nrmO ?_); (repeat' (first | exact True.intro | refine And.intro ?_ ?_)); all_goals (try (intro (hg_ : _ = true); (try simp only [isNilI, inB, reduceCtorEq, cds] at hg_); (repeat' (first | exact True.intro | refine And.intro ?_ ?_)))); all_goals (first | exact ob1 | exact hcp | exact hko | exact hsto | exact hgl_.1 | exact hgl_.2.1 | exact hgl_.2.2.1 | exact hgl_.2.2.2.1 | exact hgl_.2.2.2.2.1 | exact hgl_.2.2.2.2.2.1 | exact hgl_.2.2.2.2.2.2.1 | exact hgl_.2.2.2.2.2.2.2.1 | exact hgl_ | exact rfl | exact one1 rfl | skip)))))
        all_goals trace_state
      · rw [if_neg (show ¬ (m1, c).2 = 2 from hc)] at h
        obtain ⟨rfl, rfl⟩ := Prod.mk.inj h
        refine fn_intro tt_ok Tryd.func8 rfl Tryd.call8 Tryd.ntmps8 Tryd.results8 rfl rfl rfl rfl ?_
        intro X ρ0 hb_ hgl_
        dsimp only [c_WriterI]
        try refine nrm ?_
        repeat' (refine ar_id ?_; first | refine st1 ?_ | (refine ar_drawS (id := 10) tt_ok (by kernel_rfl) [] ?_; refine ed_hide ?_; intro K_ hK_; repeat' (first | ((first | refine ed_call3 ?_ | refine ed_sure3 ?_ | refine ed_cons3 ?_); refine ed_hide ?_; intro K_ hK_; (try dsimp only [c_CopyKI, c_KOkI, c_StoR]); (try refine nrmE ?_)) | (refine ed_nil ?_; (repeat subst hK_); dsimp only; refine Exists.intro _ (And.intro rfl (And.intro (by kernel_rfl) (And.intro ?_ ?_))); rotate_left; (try dsimp only [c_CopyKI, c_KOkI, c_StoR]); (try refine nrm ?_); rotate_right))) | (first | ((first | refine ar_region (id := 1) tt_ok (inps := [.call (c_CopyKI k)]) rfl ?_ ?_ | refine ar_region (id := 2) tt_ok (inps := [.call (c_KOkI k)]) rfl ?_ ?_ | refine ar_region (id := 4) tt_ok (inps := [.call (c_StoR s k.Machine w.Addr w.Value m1 c)]) rfl ?_ ?_ | refine ar_region tt_ok (inps := []) rfl ?_ ?_); rotate_left; (try dsimp only [c_CopyKI, c_KOkI, c_StoR]); (try refine nrm ?_); rotate_right) | refine ret3 ?_ | refine end3 ?_) | (refine ar_cond rfl trivial ?_ ?_ <;> intro hc_ <;> (try simp only [isNilI, inB, reduceCtorEq, cds] at hc_) <;> (try (first | contradiction | (exfalso; omega) | (exfalso; grind)))) | refine ar_until (And.intro ?_ (wk3 ?_)))
        all_goals (first | refine ar_id ?_ | (try (focus ((try refine nrmO ?_); (repeat' (first | exact True.intro | refine And.intro ?_ ?_)); all_goals (try (intro (hg_ : _ = true); (try simp only [isNilI, inB, reduceCtorEq, cds] at hg_); (repeat' (first | exact True.intro | refine And.intro ?_ ?_)))); all_goals (first | exact ob1 | exact hcp | exact hko | exact hsto | exact hgl_.1 | exact hgl_.2.1 | exact hgl_.2.2.1 | exact hgl_.2.2.2.1 | exact hgl_.2.2.2.2.1 | exact hgl_.2.2.2.2.2.1 | exact hgl_.2.2.2.2.2.2.1 | exact hgl_.2.2.2.2.2.2.2.1 | exact hgl_ | exact rfl | exact one1 rfl | skip)))))
        all_goals trace_state
  · have hk : pKernelOk k = false := decide_eq_false hok
    rw [if_neg hok] at h
    obtain ⟨rfl, rfl⟩ := Prod.mk.inj h
    refine fn_intro tt_ok Tryd.func8 rfl Tryd.call8 Tryd.ntmps8 Tryd.results8 rfl rfl rfl rfl ?_
    intro X ρ0 hb_ hgl_
    dsimp only [c_WriterI]
    try refine nrm ?_
    repeat' (refine ar_id ?_; first | refine st1 ?_ | (refine ar_drawS (id := 3) tt_ok (by kernel_rfl) [] ?_; refine ed_hide ?_; intro K_ hK_; repeat' (first | ((first | refine ed_call3 ?_ | refine ed_sure3 ?_ | refine ed_cons3 ?_); refine ed_hide ?_; intro K_ hK_; (try dsimp only [c_CopyKI, c_KOkI]); (try refine nrmE ?_)) | (refine ed_nil ?_; (repeat subst hK_); dsimp only; refine Exists.intro _ (And.intro rfl (And.intro (by kernel_rfl) (And.intro ?_ ?_))); rotate_left; (try dsimp only [c_CopyKI, c_KOkI]); (try refine nrm ?_); rotate_right))) | (first | ((first | refine ar_region (id := 1) tt_ok (inps := [.call (c_CopyKI k)]) rfl ?_ ?_ | refine ar_region (id := 2) tt_ok (inps := [.call (c_KOkI k)]) rfl ?_ ?_ | refine ar_region tt_ok (inps := []) rfl ?_ ?_); rotate_left; (try dsimp only [c_CopyKI, c_KOkI]); (try refine nrm ?_); rotate_right) | refine ret3 ?_ | refine end3 ?_) | (refine ar_cond rfl trivial ?_ ?_ <;> intro hc_ <;> (try simp only [isNilI, inB, reduceCtorEq, cds] at hc_) <;> (try (first | contradiction | (exfalso; omega) | (exfalso; grind)))) | refine ar_until (And.intro ?_ (wk3 ?_)))
    all_goals (first | refine ar_id ?_ | (try (focus ((try refine nrmO ?_); (repeat' (first | exact True.intro | refine And.intro ?_ ?_)); all_goals (try (intro (hg_ : _ = true); (try simp only [isNilI, inB, reduceCtorEq, cds] at hg_); (repeat' (first | exact True.intro | refine And.intro ?_ ?_)))); all_goals (first | exact ob1 | exact hcp | exact hko | skip)))))
    all_goals trace_state
end Eng
end Go.Proofs.YtabnglcabpijfaaDoor
namespace Go.Proofs.YtabnglcabpijfaaDoor
open Go.RowKit Go.ChangeShapes Go.WideShapes
namespace Tr
section
variable {H : Type} {enc : TypeId × Value → H} {w : World} {base : Nat} {spare : Nat → Bool} {held : Bool}
def okBoolS (l : List Bool) : Prop := ∀ x ∈ l, (fun _ => True) x
theorem opens_BoolS : Opens enc Tryd.prog w base spare held 23 eBoolS okBoolS := opens_slice Tryd.underlying23 (by kernel_rfl) (fun _ => rfl) (opens_bool Tryd.underlying4)
def okEntry (x : GEntry) : Prop := okI x.Mode ∧ okI x.Frame
theorem cells_Entry : Tryd.prog.cellsOf 110 = 2 := by kernel_rfl
set_option maxRecDepth 100000 in
theorem opens_Entry : Opens enc Tryd.prog w base spare held 110 eEntry okEntry := by
  intro fuel cs x h
  obtain ⟨ys, n, _, _, hl, hyl, hf⟩ := DataW.trod_struct Tryd.underlying110 h
  rw [cells_Entry] at hl
  match cs, hl, ys, hyl with
  | [c0, c1], _, [y0, y1], _ =>
  have h0 : DataW.trod enc Tryd.prog w base spare held n 3 ([c0, c1].drop 0 |>.take (Tryd.prog.cellsOf 3)) = some y0 := hf 0 _ rfl
  rw [show Tryd.prog.cellsOf 3 = 1 by kernel_rfl] at h0
  obtain ⟨a0, r0, k0⟩ := (opens_int Tryd.underlying3) _ _ _ h0
  have h1 : DataW.trod enc Tryd.prog w base spare held n 3 ([c0, c1].drop 1 |>.take (Tryd.prog.cellsOf 3)) = some y1 := hf 1 _ rfl
  rw [show Tryd.prog.cellsOf 3 = 1 by kernel_rfl] at h1
  obtain ⟨a1, r1, k1⟩ := (opens_int Tryd.underlying3) _ _ _ h1
  refine ⟨⟨a0, a1⟩, ?_, ⟨k0, k1⟩⟩
  exact (raw_app _ _).2 ⟨[c0], [c1], rfl, r0, r1⟩
def okEntryS (l : List GEntry) : Prop := ∀ x ∈ l, okEntry x
theorem opens_EntryS : Opens enc Tryd.prog w base spare held 26 eEntryS okEntryS := opens_slice Tryd.underlying26 (by kernel_rfl) (fun _ => rfl) opens_Entry
def okIntS (l : List Int) : Prop := ∀ x ∈ l, okI x
theorem opens_IntS : Opens enc Tryd.prog w base spare held 31 eIntS okIntS := opens_slice Tryd.underlying31 (by kernel_rfl) (fun _ => rfl) (opens_int Tryd.underlying3)
def okIntSS (l : List (List Int)) : Prop := ∀ x ∈ l, okIntS x
theorem opens_IntSS : Opens enc Tryd.prog w base spare held 22 eIntSS okIntSS := opens_slice Tryd.underlying22 (by kernel_rfl) (fun _ => rfl) opens_IntS
def okFrames (x : GFrames) : Prop := okIntSS x.Cells ∧ okBoolS x.Used
theorem cells_Frames : Tryd.prog.cellsOf 25 = 2 := by kernel_rfl
set_option maxRecDepth 100000 in
theorem opens_Frames : Opens enc Tryd.prog w base spare held 25 eFrames okFrames := by
  intro fuel cs x h
  obtain ⟨ys, n, _, _, hl, hyl, hf⟩ := DataW.trod_struct Tryd.underlying25 h
  rw [cells_Frames] at hl
  match cs, hl, ys, hyl with
  | [c0, c1], _, [y0, y1], _ =>
  have h0 : DataW.trod enc Tryd.prog w base spare held n 22 ([c0, c1].drop 0 |>.take (Tryd.prog.cellsOf 22)) = some y0 := hf 0 _ rfl
  rw [show Tryd.prog.cellsOf 22 = 1 by kernel_rfl] at h0
  obtain ⟨a0, r0, k0⟩ := opens_IntSS _ _ _ h0
  have h1 : DataW.trod enc Tryd.prog w base spare held n 23 ([c0, c1].drop 1 |>.take (Tryd.prog.cellsOf 23)) = some y1 := hf 1 _ rfl
  rw [show Tryd.prog.cellsOf 23 = 1 by kernel_rfl] at h1
  obtain ⟨a1, r1, k1⟩ := opens_BoolS _ _ _ h1
  refine ⟨⟨a0, a1⟩, ?_, ⟨k0, k1⟩⟩
  exact (raw_app _ _).2 ⟨[c0], [c1], rfl, r0, r1⟩
def okTable (x : GTable) : Prop := okEntryS x.Entries
theorem cells_Table : Tryd.prog.cellsOf 28 = 1 := by kernel_rfl
set_option maxRecDepth 100000 in
theorem opens_Table : Opens enc Tryd.prog w base spare held 28 eTable okTable := by
  intro fuel cs x h
  obtain ⟨ys, n, _, _, hl, hyl, hf⟩ := DataW.trod_struct Tryd.underlying28 h
  rw [cells_Table] at hl
  match cs, hl, ys, hyl with
  | [c0], _, [y0], _ =>
  have h0 : DataW.trod enc Tryd.prog w base spare held n 26 ([c0].drop 0 |>.take (Tryd.prog.cellsOf 26)) = some y0 := hf 0 _ rfl
  rw [show Tryd.prog.cellsOf 26 = 1 by kernel_rfl] at h0
  obtain ⟨a0, r0, k0⟩ := opens_EntryS _ _ _ h0
  refine ⟨⟨a0⟩, ?_, k0⟩
  exact r0
def okMachine (x : GMachine) : Prop := okFrames x.Frames ∧ okTable x.Table
theorem cells_Machine : Tryd.prog.cellsOf 30 = 3 := by kernel_rfl
set_option maxRecDepth 100000 in
theorem opens_Machine : Opens enc Tryd.prog w base spare held 30 eMachine okMachine := by
  intro fuel cs x h
  obtain ⟨ys, n, _, _, hl, hyl, hf⟩ := DataW.trod_struct Tryd.underlying30 h
  rw [cells_Machine] at hl
  match cs, hl, ys, hyl with
  | [c0, c1, c2], _, [y0, y1], _ =>
  have h0 : DataW.trod enc Tryd.prog w base spare held n 25 ([c0, c1, c2].drop 0 |>.take (Tryd.prog.cellsOf 25)) = some y0 := hf 0 _ rfl
  rw [show Tryd.prog.cellsOf 25 = 2 by kernel_rfl] at h0
  obtain ⟨a0, r0, k0⟩ := opens_Frames _ _ _ h0
  have h1 : DataW.trod enc Tryd.prog w base spare held n 28 ([c0, c1, c2].drop 2 |>.take (Tryd.prog.cellsOf 28)) = some y1 := hf 1 _ rfl
  rw [show Tryd.prog.cellsOf 28 = 1 by kernel_rfl] at h1
  obtain ⟨a1, r1, k1⟩ := opens_Table _ _ _ h1
  refine ⟨⟨a0, a1⟩, ?_, ⟨k0, k1⟩⟩
  exact (raw_app _ _).2 ⟨[c0, c1], [c2], rfl, r0, r1⟩
def okKernel (x : GKernel) : Prop := okMachine x.Machine ∧ okI x.Calls ∧ okIntS x.Refuse
theorem cells_Kernel : Tryd.prog.cellsOf 33 = 5 := by kernel_rfl
set_option maxRecDepth 100000 in
theorem opens_Kernel : Opens enc Tryd.prog w base spare held 33 eKernel okKernel := by
  intro fuel cs x h
  obtain ⟨ys, n, _, _, hl, hyl, hf⟩ := DataW.trod_struct Tryd.underlying33 h
  rw [cells_Kernel] at hl
  match cs, hl, ys, hyl with
  | [c0, c1, c2, c3, c4], _, [y0, y1, y2], _ =>
  have h0 : DataW.trod enc Tryd.prog w base spare held n 30 ([c0, c1, c2, c3, c4].drop 0 |>.take (Tryd.prog.cellsOf 30)) = some y0 := hf 0 _ rfl
  rw [show Tryd.prog.cellsOf 30 = 3 by kernel_rfl] at h0
  obtain ⟨a0, r0, k0⟩ := opens_Machine _ _ _ h0
  have h1 : DataW.trod enc Tryd.prog w base spare held n 3 ([c0, c1, c2, c3, c4].drop 3 |>.take (Tryd.prog.cellsOf 3)) = some y1 := hf 1 _ rfl
  rw [show Tryd.prog.cellsOf 3 = 1 by kernel_rfl] at h1
  obtain ⟨a1, r1, k1⟩ := (opens_int Tryd.underlying3) _ _ _ h1
  have h2 : DataW.trod enc Tryd.prog w base spare held n 31 ([c0, c1, c2, c3, c4].drop 4 |>.take (Tryd.prog.cellsOf 31)) = some y2 := hf 2 _ rfl
  rw [show Tryd.prog.cellsOf 31 = 1 by kernel_rfl] at h2
  obtain ⟨a2, r2, k2⟩ := opens_IntS _ _ _ h2
  refine ⟨⟨a0, a1, a2⟩, ?_, ⟨k0, k1, k2⟩⟩
  exact (raw_app _ _).2 ⟨[c0, c1, c2], [c3, c4], rfl, r0, (raw_app _ _).2 ⟨[c3], [c4], rfl, r1, r2⟩⟩
def okWriter (x : GWriter) : Prop := okI x.Addr ∧ okI x.Value ∧ (fun _ => True) x.Done ∧ okI x.Waits
theorem cells_Writer : Tryd.prog.cellsOf 35 = 4 := by kernel_rfl
set_option maxRecDepth 100000 in
theorem opens_Writer : Opens enc Tryd.prog w base spare held 35 eWriter okWriter := by
  intro fuel cs x h
  obtain ⟨ys, n, _, _, hl, hyl, hf⟩ := DataW.trod_struct Tryd.underlying35 h
  rw [cells_Writer] at hl
  match cs, hl, ys, hyl with
  | [c0, c1, c2, c3], _, [y0, y1, y2, y3], _ =>
  have h0 : DataW.trod enc Tryd.prog w base spare held n 3 ([c0, c1, c2, c3].drop 0 |>.take (Tryd.prog.cellsOf 3)) = some y0 := hf 0 _ rfl
  rw [show Tryd.prog.cellsOf 3 = 1 by kernel_rfl] at h0
  obtain ⟨a0, r0, k0⟩ := (opens_int Tryd.underlying3) _ _ _ h0
  have h1 : DataW.trod enc Tryd.prog w base spare held n 3 ([c0, c1, c2, c3].drop 1 |>.take (Tryd.prog.cellsOf 3)) = some y1 := hf 1 _ rfl
  rw [show Tryd.prog.cellsOf 3 = 1 by kernel_rfl] at h1
  obtain ⟨a1, r1, k1⟩ := (opens_int Tryd.underlying3) _ _ _ h1
  have h2 : DataW.trod enc Tryd.prog w base spare held n 4 ([c0, c1, c2, c3].drop 2 |>.take (Tryd.prog.cellsOf 4)) = some y2 := hf 2 _ rfl
  rw [show Tryd.prog.cellsOf 4 = 1 by kernel_rfl] at h2
  obtain ⟨a2, r2, k2⟩ := (opens_bool Tryd.underlying4) _ _ _ h2
  have h3 : DataW.trod enc Tryd.prog w base spare held n 3 ([c0, c1, c2, c3].drop 3 |>.take (Tryd.prog.cellsOf 3)) = some y3 := hf 3 _ rfl
  rw [show Tryd.prog.cellsOf 3 = 1 by kernel_rfl] at h3
  obtain ⟨a3, r3, k3⟩ := (opens_int Tryd.underlying3) _ _ _ h3
  refine ⟨⟨a0, a1, a2, a3⟩, ?_, ⟨k0, k1, k2, k3⟩⟩
  exact (raw_app _ _).2 ⟨[c0], [c1, c2, c3], rfl, r0, (raw_app _ _).2 ⟨[c1], [c2, c3], rfl, r1, (raw_app _ _).2 ⟨[c2], [c3], rfl, r2, r3⟩⟩⟩
end
end Tr
end Go.Proofs.YtabnglcabpijfaaDoor
namespace Go.Proofs.YtabnglcabpijfaaDoor
open Go.RowKit
set_option linter.unusedVariables false
set_option linter.unusedSimpArgs false
set_option maxRecDepth 100000
namespace Eng
open Tr
def c_SWriterStep (x0 : GKernel) (x1 : GWriter) (r0 : GKernel) (r1 : GWriter) : CFD := ⟨5, [.agg [ro 31 1 eIntS x0.Machine.Frames.Cells, ro 4 1 Tr.eB x0.Machine.Frames.Used, ro 75 2 eEntry x0.Machine.Table.Entries, (CV.lit (.int .i64 (x0.Calls))), ro 3 1 Tr.eI x0.Refuse], .agg [(CV.lit (.int .i64 (x1.Addr))), (CV.lit (.int .i64 (x1.Value))), (CV.lit (.bool (x1.Done))), (CV.lit (.int .i64 (x1.Waits)))]], [], .tup [.agg [.hd 0, .hd 1, .hd 2, (CV.lit (.int .i64 (r0.Calls))), .hd 3], .agg [(CV.lit (.int .i64 (r1.Addr))), (CV.lit (.int .i64 (r1.Value))), (CV.lit (.bool (r1.Done))), (CV.lit (.int .i64 (r1.Waits)))]], [(0, some (.row 31 1 (r0.Machine.Frames.Cells.map eIntS))), (1, some (.row 4 1 (r0.Machine.Frames.Used.map Tr.eB))), (2, some (.row 75 2 (r0.Machine.Table.Entries.map eEntry))), (3, some (.row 3 1 (r0.Refuse.map Tr.eI)))], [0, 1, 2, 3], []⟩
def c_IWriterStep (gl : List Glb) (x0 : GKernel) (x1 : GWriter) (r0 : GKernel) (r1 : GWriter) : CFD := ⟨8, [.agg [ro 31 1 eIntS x0.Machine.Frames.Cells, ro 4 1 Tr.eB x0.Machine.Frames.Used, ro 75 2 eEntry x0.Machine.Table.Entries, (CV.lit (.int .i64 (x0.Calls))), ro 3 1 Tr.eI x0.Refuse], .agg [(CV.lit (.int .i64 (x1.Addr))), (CV.lit (.int .i64 (x1.Value))), (CV.lit (.bool (x1.Done))), (CV.lit (.int .i64 (x1.Waits)))]], [], .tup [.agg [.hd 0, .hd 1, .hd 2, (CV.lit (.int .i64 (r0.Calls))), .hd 3], .agg [(CV.lit (.int .i64 (r1.Addr))), (CV.lit (.int .i64 (r1.Value))), (CV.lit (.bool (r1.Done))), (CV.lit (.int .i64 (r1.Waits)))]], [(0, some (.row 31 1 (r0.Machine.Frames.Cells.map eIntS))), (1, some (.row 4 1 (r0.Machine.Frames.Used.map Tr.eB))), (2, some (.row 75 2 (r0.Machine.Table.Entries.map eEntry))), (3, some (.row 3 1 (r0.Refuse.map Tr.eI)))], [0, 1, 2, 3], gl⟩
def c_XWriterStep (gl : List Glb) (x0 : GKernel) (x1 : GWriter) : CFD := ⟨3, [.agg [ro 31 1 eIntS x0.Machine.Frames.Cells, ro 4 1 Tr.eB x0.Machine.Frames.Used, ro 110 2 eEntry x0.Machine.Table.Entries, (CV.lit (.int .i64 (x0.Calls))), ro 3 1 Tr.eI x0.Refuse], .agg [(CV.lit (.int .i64 (x1.Addr))), (CV.lit (.int .i64 (x1.Value))), (CV.lit (.bool (x1.Done))), (CV.lit (.int .i64 (x1.Waits)))]], [], (TV.sv (.one (.lit (.bool (true))))), [], [], gl⟩
set_option maxHeartbeats 16000000 in
theorem fn_XWriterStep (gl : List Glb) (x0 : GKernel) (x1 : GWriter) (r0 : GKernel) (r1 : GWriter) (hm_x0 : mxK x0) (hR : nK x0 ≤ 1048576 → smK r0 ∧ cK r0 ≤ 50000000 ∧ Fn Tryd.prog (c_SWriterStep x0 x1 r0 r1) ∧ Fn Tryd.prog (c_IWriterStep gl x0 x1 r0 r1)) : Fn Tryd.prog (c_XWriterStep gl x0 x1) := by
  by_cases hz_x0 : 1048576 - ((nK x0 : Nat) : Int) < 0
  · skip
    refine fn_intro tt_ok Tryd.func3 rfl Tryd.call3 Tryd.ntmps3 Tryd.results3 rfl rfl rfl rfl ?_
    intro X ρ0 hb_ hgl_
    dsimp only [c_XWriterStep]
    try refine nrm ?_
    repeat' (refine ar_id ?_; first | refine st1 ?_ | (first | ((first | refine ar_region (id := 2) tt_ok (inps := [.call (c_szK x0 (1048576) (-1))]) rfl ?_ ?_ | refine ar_region tt_ok (inps := []) rfl ?_ ?_); rotate_left; (try dsimp only [c_szK]); (try refine nrm ?_); rotate_right) | refine ret3 ?_ | refine end3 ?_) | (refine ar_cond rfl trivial ?_ ?_ <;> intro hc_ <;> (try simp only [isNilI, inB, reduceCtorEq, cds] at hc_) <;> (try (first | contradiction | (exfalso; omega)))) | refine ar_until (And.intro ?_ (wk3 ?_)))
    all_goals (first | refine ar_id ?_ | (try (focus ((try refine nrmO ?_); (repeat' (first | exact True.intro | refine And.intro ?_ ?_)); all_goals (try (intro (hg_ : _ = true); (try simp only [isNilI, inB, reduceCtorEq, cds] at hg_); (repeat' (first | exact True.intro | refine And.intro ?_ ?_)))); all_goals (first | exact ob1 | exact fn_szK _ _ _ hm_x0 (by omega) (by rw [if_pos hz_x0]) | skip)))))
  have hs_x0 : smK x0 := K_sm (by omega)
  have hn_x0 := K_cn x0
  obtain ⟨hs_r0, hc_r, hS, hI⟩ := hR (by omega)
  refine fn_intro tt_ok Tryd.func3 rfl Tryd.call3 Tryd.ntmps3 Tryd.results3 rfl rfl rfl rfl ?_
  intro X ρ0 hb_ hgl_
  dsimp only [c_XWriterStep]
  try refine nrm ?_
  repeat' (refine ar_id ?_; first | refine st1 ?_ | (refine ar_drawS (id := 5) tt_ok (by kernel_rfl) [.call (c_toK x0), .call (c_toW x1), .call (c_SWriterStep x0 x1 r0 r1)] ?_; refine ed_hide ?_; intro K_ hK_; repeat' (first | ((first | refine ed_call3 ?_ | refine ed_sure3 ?_ | refine ed_cons3 ?_); refine ed_hide ?_; intro K_ hK_; (try dsimp only [c_IWriterStep, c_SWriterStep, c_eqK, c_eqW, c_heldK, c_markK, c_szK, c_toK, c_toW]); (try refine nrmE ?_)) | (refine ed_nil ?_; (repeat subst hK_); dsimp only; refine Exists.intro _ (And.intro rfl (And.intro (by kernel_rfl) (And.intro ?_ ?_))); rotate_left; (try dsimp only [c_IWriterStep, c_SWriterStep, c_eqK, c_eqW, c_heldK, c_markK, c_szK, c_toK, c_toW]); (try refine nrm ?_); rotate_right))) | (refine ar_drawS (id := 7) tt_ok (by kernel_rfl) [.call (c_toW x1), .call (c_IWriterStep gl x0 x1 r0 r1)] ?_; refine ed_hide ?_; intro K_ hK_; repeat' (first | ((first | refine ed_call3 ?_ | refine ed_sure3 ?_ | refine ed_cons3 ?_); refine ed_hide ?_; intro K_ hK_; (try dsimp only [c_IWriterStep, c_SWriterStep, c_eqK, c_eqW, c_heldK, c_markK, c_szK, c_toK, c_toW]); (try refine nrmE ?_)) | (refine ed_nil ?_; (repeat subst hK_); dsimp only; refine Exists.intro _ (And.intro rfl (And.intro (by kernel_rfl) (And.intro ?_ ?_))); rotate_left; (try dsimp only [c_IWriterStep, c_SWriterStep, c_eqK, c_eqW, c_heldK, c_markK, c_szK, c_toK, c_toW]); (try refine nrm ?_); rotate_right))) | (refine ar_drawS (id := 10) tt_ok (by kernel_rfl) [.call (c_toK x0), .call (c_eqK x0)] ?_; refine ed_hide ?_; intro K_ hK_; repeat' (first | ((first | refine ed_call3 ?_ | refine ed_sure3 ?_ | refine ed_cons3 ?_); refine ed_hide ?_; intro K_ hK_; (try dsimp only [c_IWriterStep, c_SWriterStep, c_eqK, c_eqW, c_heldK, c_markK, c_szK, c_toK, c_toW]); (try refine nrmE ?_)) | (refine ed_nil ?_; (repeat subst hK_); dsimp only; refine Exists.intro _ (And.intro rfl (And.intro (by kernel_rfl) (And.intro ?_ ?_))); rotate_left; (try dsimp only [c_IWriterStep, c_SWriterStep, c_eqK, c_eqW, c_heldK, c_markK, c_szK, c_toK, c_toW]); (try refine nrm ?_); rotate_right))) | (refine ar_drawS (id := 24) tt_ok (by kernel_rfl) [.call (c_toK x0), .call (c_toW x1), .call (c_IWriterStep gl x0 x1 r0 r1)] ?_; refine ed_hide ?_; intro K_ hK_; repeat' (first | ((first | refine ed_call3 ?_ | refine ed_sure3 ?_ | refine ed_cons3 ?_); refine ed_hide ?_; intro K_ hK_; (try dsimp only [c_IWriterStep, c_SWriterStep, c_eqK, c_eqW, c_heldK, c_markK, c_szK, c_toK, c_toW]); (try refine nrmE ?_)) | (refine ed_nil ?_; (repeat subst hK_); dsimp only; refine Exists.intro _ (And.intro rfl (And.intro (by kernel_rfl) (And.intro ?_ ?_))); rotate_left; (try dsimp only [c_IWriterStep, c_SWriterStep, c_eqK, c_eqW, c_heldK, c_markK, c_szK, c_toK, c_toW]); (try refine nrm ?_); rotate_right))) | (first | ((first | refine ar_region (id := 2) tt_ok (inps := [.call (c_szK x0 (1048576) (1048576 - ((nK x0 : Nat) : Int)))]) rfl ?_ ?_ | refine ar_region (id := 6) tt_ok (inps := [.call (c_toK x0)]) rfl ?_ ?_ | refine ar_region (id := 8) tt_ok (inps := [.call (c_eqK r0), .call (c_eqW r1)]) rfl ?_ ?_ | refine ar_region (id := 13) tt_ok (inps := [.call (c_markK x0 (1))]) rfl ?_ ?_ | refine ar_region (id := 14) tt_ok (inps := [.call (c_eqK r0), .call (c_eqW r1)]) rfl ?_ ?_ | refine ar_region (id := 17) tt_ok (inps := [.call (c_markK r0 (1))]) rfl ?_ ?_ | refine ar_region (id := 19) tt_ok (inps := [.call (c_heldK r0 (1))]) rfl ?_ ?_ | refine ar_region (id := 25) tt_ok (inps := [.call (c_eqK r0), .call (c_eqW r1)]) rfl ?_ ?_ | refine ar_region (id := 28) tt_ok (inps := [.call (c_heldK r0 (1))]) rfl ?_ ?_ | refine ar_region tt_ok (inps := []) rfl ?_ ?_); rotate_left; (try dsimp only [c_IWriterStep, c_SWriterStep, c_eqK, c_eqW, c_heldK, c_markK, c_szK, c_toK, c_toW]); (try refine nrm ?_); rotate_right) | refine ret3 ?_ | refine end3 ?_) | (refine ar_cond rfl trivial ?_ ?_ <;> intro hc_ <;> (try simp only [isNilI, inB, reduceCtorEq, cds] at hc_) <;> (try (first | contradiction | (exfalso; omega)))) | refine ar_until (And.intro ?_ (wk3 ?_)))
  all_goals (first | refine ar_id ?_ | (try (focus ((try refine nrmO ?_); (repeat' (first | exact True.intro | refine And.intro ?_ ?_)); all_goals (try (intro (hg_ : _ = true); (try simp only [isNilI, inB, reduceCtorEq, cds] at hg_); (repeat' (first | exact True.intro | refine And.intro ?_ ?_)))); all_goals (first | exact ob1 | exact fn_szK _ _ _ hm_x0 (by omega) (by rw [if_neg hz_x0]) | exact hS | exact hI | exact fn_toK _ hs_x0 | exact fn_eqK _ hs_x0 | exact fn_eqK _ hs_r0 | exact fn_markK _ _ hs_x0 (by omega) | exact fn_markK _ _ hs_r0 (by omega) | exact fn_heldK _ _ hs_r0 (by omega) | exact fn_eqW _ | exact fn_toW _ | exact hgl_.1 | exact hgl_.2.1 | exact hgl_.2.2.1 | exact hgl_.2.2.2.1 | exact hgl_.2.2.2.2.1 | exact hgl_.2.2.2.2.2.1 | exact hgl_.2.2.2.2.2.2.1 | exact hgl_.2.2.2.2.2.2.2.1 | exact hgl_ | exact rfl | exact one1 rfl | skip)))))
  all_goals (exfalso; (try simp only [or_false, false_or, not_true_eq_false] at hc_); omega)
theorem fn_LWriterStep (s : Se) (x0 : GKernel) (x1 : GWriter) (hm0 : mxK x0) (hok : okI x1.Addr) : Fn Tryd.prog (c_XWriterStep s.gl x0 x1) := by
  obtain ⟨⟨k', w'⟩, hs⟩ : ∃ r, pWriterStep x0 x1 = r := ⟨_, rfl⟩
  refine fn_XWriterStep s.gl x0 x1 k' w' hm0 (fun hn => ?_)
  have hs0 : smK x0 := K_sm (by omega)
  have z := sz_writer x0 x1
  rw [hs] at z
  have zk : k' = x0 ∨ okK x0 := by
    by_cases h : okK x0
    · exact .inr h
    · have := keepW h x1
      rw [hs] at this
      exact .inl this
  have hk := n_resN (k := x0) (k' := k') (by omega) z.1 z.2.1 zk
  have c1 := K_cn k'
  exact ⟨K_sm hk, by omega, fn_WriterS x0 x1 k' w' (szK8_smN hs0) hok.2 hs, fn_WriterI s x0 x1 k' w' (szK8_smN hs0) hok hs⟩
end Eng
end Go.Proofs.YtabnglcabpijfaaDoor
namespace Go.Proofs.YtabnglcabpijfaaDoor
open Go.RowKit
set_option linter.unusedVariables false
set_option linter.unusedSimpArgs false
namespace Eng
open Tr
theorem rarg_K {w : World} {x : GKernel} {c0 c1 c2 c4 : Value} (h : Raw w (eKernel x) [c0, c1, c2, .int .i64 x.Calls, c4]) : SRel (cxOf w) noEnv (.agg [ro 31 1 eIntS x.Machine.Frames.Cells, ro 4 1 Tr.eB x.Machine.Frames.Used, ro 110 2 eEntry x.Machine.Table.Entries, (CV.lit (.int .i64 (x.Calls))), ro 3 1 Tr.eI x.Refuse]) (.agg #[c0, c1, c2, .int .i64 x.Calls, c4]) ∧ mxK x := by
  have h0 := raw_head h
  have h1 := raw_head h0.2
  have h2 := raw_head h1.2
  have h3 := raw_tail h2.2
  have h4 := raw_head h3
  exact ⟨⟨_, rfl, raw_ro (by decide) (fun _ => kpos_row (by decide) (fun _ => trivial)) h0.1, raw_ro (by decide) (fun _ => trivial) h1.1, raw_ro (by decide) (fun _ => trivial) h2.1, raw_lit rfl, raw_ro (by decide) (fun _ => trivial) h4.1, trivial⟩,
    ⟨⟨⟨⟨raw_max h0.1, raw_max2 h0.1⟩, raw_max h1.1⟩, ⟨raw_max h2.1⟩⟩, raw_max h4.1⟩⟩
end Eng
end Go.Proofs.YtabnglcabpijfaaDoor
namespace Go.Proofs.YtabnglcabpijfaaDoor
open Go.RowKit
set_option linter.unusedVariables false
set_option maxRecDepth 100000
namespace Eng
open Tr
theorem gl_at {w : World} {g : Nat} {cs : List Value} {T : Nat} (h : w.heap[g]? = some (.cells cs.toArray T (0, 0))) : GlX (cxOf w) ⟨g, cs, T, (0, 0)⟩ := ⟨h, LaidS.lt_of h⟩
theorem gl_arr {w : World} {g : Nat} {c : Array Value} {T : Nat} (h : w.heap[g]? = some (.cells c T (0, 0))) : GlX (cxOf w) ⟨g, c.toList, T, (0, 0)⟩ := gl_at (by rw [Array.toArray_toList]; exact h)
theorem se3 {w : World} (h : LaidS.At 130 [2, 0, 1] w) : ∃ s : Se, GlAll (GlX (cxOf w)) s.gl := by
  obtain ⟨xs, h1, h2, h3⟩ := h
  match xs, h1, h2 with
  | [a, b, c], _, h2 =>
    obtain ⟨⟨t1, k1⟩, c1, u1, l1⟩ := h3 0 _ a rfl rfl
    obtain ⟨⟨t2, k2⟩, c2, u2, l2⟩ := h3 1 _ b rfl rfl
    obtain ⟨⟨t3, k3⟩, c3, u3, l3⟩ := h3 2 _ c rfl rfl
    simp only [List.nodup_cons, List.mem_cons, List.not_mem_nil, or_false, not_or] at h2
    exact ⟨⟨a, b, c, c1.toList, c2.toList, c3.toList, u1, u2, u3, t1, t2, t3, h2.1.1, h2.1.2, h2.2.1⟩, gl_at k1, gl_at k2, gl_at k3, gl_arr l1, gl_arr l2, gl_arr l3, trivial⟩
end Eng
end Go.Proofs.YtabnglcabpijfaaDoor

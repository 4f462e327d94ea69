/- Lemmas for the proofs, part 5 of 5: a symbolic run of the program, and what it needs. -/
import Derived.Conc.PipeWords
import Derived.Conc.Quits
import Derived.WalkKit
import Derived.LaidEql
import Derived.Stop.Asserts
import Derived.RowKitTokens
import Derived.KernelRfl
import Derived.Test.YtgeakpeodhhffaaDoorF4
namespace Go.Proofs.YtgeakpeodhhffaaDoor
open Go.RowKit
set_option linter.unusedVariables false
set_option linter.unusedSimpArgs false
set_option maxRecDepth 100000
namespace Eng
open Tr
theorem fr_addr {s : GSpan} {slot : Int} (h : pSpanOk s = true) (hh : Bm.has s.Bits slot = true) : pSpanAddr s slot = s.Page * 16 + slot * Cl.csz s.Class ∧ (pSpanAddr s slot).tmod 16 = slot * Cl.csz s.Class ∧ frAt s slot + (Cl.csz s.Class).toNat ≤ 16 ∧ ((frAt s slot : Nat) : Int) = slot * Cl.csz s.Class := by
  obtain ⟨h1, h2, ⟨h3, h4⟩, h5, h6⟩ := slot_bds h hh
  have hp := (span_parts h).1
  have e : pSpanAddr s slot = s.Page * 16 + slot * Cl.csz s.Class := if_pos ⟨h, h1, h2⟩
  refine ⟨e, ?_, ?_, ?_⟩
  · rw [e, Int.tmod_eq_emod_of_nonneg (by omega)]; omega
  · unfold frAt; omega
  · unfold frAt; omega
theorem row_set_self (l : List (List Int)) (f : Nat) : l.set f (l.getD f []) = l := by
  by_cases h : f < l.length
  · rw [List.getD_eq_getElem?_getD, List.getElem?_eq_getElem h]; exact List.set_getElem_self h
  · exact List.set_eq_of_length_le (by omega)
def c_lFr (k : GKernel) (s : GSpan) (slot : Int) (k2 : GKernel) (s2 : GSpan) (e : Int) : CFD := ⟨39, [.one (.box 500 0), .agg [(CV.lit (.int .i64 (s.Page))), (CV.lit (.int .i64 (s.Class))), (CV.lit (.int .i64 (s.Bits)))], (SV.one (.lit (.int .i64 (slot))))], [(500, some (.box 35 [.hd 501, .hd 502, .hd 503, (CV.lit (.int .i64 (k.Calls))), .hd 504])), (501, some (.row 33 1 (k.Machine.Frames.Cells.map eIntS))), (502, some (.row 4 1 (k.Machine.Frames.Used.map Tr.eB))), (503, some (.row 51 2 (k.Machine.Table.Entries.map eEntry))), (504, some (.row 3 1 (k.Refuse.map Tr.eI)))], .tup [.agg [(CV.lit (.int .i64 (s2.Page))), (CV.lit (.int .i64 (s2.Class))), (CV.lit (.int .i64 (s2.Bits)))], (SV.one (.lit (.int .i64 (e))))], [(500, some (.box 35 [.hd 501, .hd 502, .hd 503, (CV.lit (.int .i64 (k2.Calls))), .hd 504])), (501, some (.row 33 1 (k2.Machine.Frames.Cells.map eIntS))), (502, some (.row 4 1 (k2.Machine.Frames.Used.map Tr.eB))), (503, some (.row 51 2 (k2.Machine.Table.Entries.map eEntry))), (504, some (.row 3 1 (k2.Refuse.map Tr.eI)))], [], []⟩
def c_GiveR (s : GSpan) (k : Int) (r : GSpan) (b : Bool) : CFD := ⟨77, [.agg [(CV.lit (.int .i64 (s.Page))), (CV.lit (.int .i64 (s.Class))), (CV.lit (.int .i64 (s.Bits)))], (SV.one (.lit (.int .i64 (k))))], [], .tup [.agg [(CV.lit (.int .i64 (r.Page))), (CV.lit (.int .i64 (r.Class))), (CV.lit (.int .i64 (r.Bits)))], (SV.one (.lit (.bool (b))))], [], [], []⟩
theorem fn_GiveR (s : GSpan) (k : Int) (r : GSpan) (b : Bool) (h : pSpanGive s k = (r, b)) : Fn Tryd.prog (c_GiveR s k r b) := by
  have := fn_SpanGive s k
  unfold c_SpanGive at this
  rw [h] at this
  exact this
set_option maxHeartbeats 4000000 in
theorem fn_lFr (k : GKernel) (s : GSpan) (slot : Int) (k2 : GKernel) (s2 : GSpan) (e : Int) (hs : szK8 k) (h : pFreeSlot k s slot = (k2, s2, e)) : Fn Tryd.prog (c_lFr k s slot k2 s2 e) := by
  unfold pFreeSlot at h
  rcases fr_cases k s slot with ⟨hc, h1⟩ | ⟨hc, h1, h2⟩ | ⟨hc, h1, h2, h3⟩ | ⟨hc, h1, h2, h3, h4⟩
  · rw [hc, if_neg (by decide)] at h
    obtain ⟨e1, e2⟩ := Prod.mk.inj h
    obtain ⟨e3, e4⟩ := Prod.mk.inj e2
    subst e1 e3 e4
    have hG := fn_GiveR s slot s false (if_neg h1)
    refine fn_intro tt_ok Tryd.func39 rfl Tryd.call39 Tryd.ntmps39 Tryd.results39 rfl rfl rfl rfl ?_
    intro X ρ0 hb_ hgl_
    dsimp only [c_lFr]
    try refine nrm ?_
    repeat' (refine ar_id ?_; first | refine st1 ?_ | (first | ((first | refine ar_region (id := 1) tt_ok (inps := [.call (c_GiveR s slot s false)]) rfl ?_ ?_ | refine ar_region tt_ok (inps := []) rfl ?_ ?_); rotate_left; (try dsimp only [c_GiveR]); (try refine nrm ?_); rotate_right) | refine ret3 ?_ | refine end3 ?_) | (refine ar_cond rfl trivial ?_ ?_ <;> intro hc_ <;> (try simp only [isNilI, inB, reduceCtorEq, cds] at hc_) <;> (try (first | contradiction | (exfalso; omega) | (exfalso; grind)))) | refine ar_until (And.intro ?_ (wk3 ?_)))
    all_goals (first | refine ar_id ?_ | (try (focus ((try refine nrmO ?_); (repeat' (first | exact True.intro | refine And.intro ?_ ?_)); all_goals (try (intro (hg_ : _ = true); (try simp only [isNilI, inB, reduceCtorEq, cds] at hg_); (repeat' (first | exact True.intro | refine And.intro ?_ ?_)))); all_goals (first | exact ob1 | exact hG | skip)))))
    all_goals trace_state
  · rw [hc, if_neg (by decide)] at h
    obtain ⟨e1, e2⟩ := Prod.mk.inj h
    obtain ⟨e3, e4⟩ := Prod.mk.inj e2
    subst e1 e3 e4
    have hG := fn_GiveR s slot _ true (if_pos h1)
    by_cases h5 : okK k
    · have hm : modeOf k s.Page = 0 := h2.resolve_left (fun x => x h5)
      have hk : (!(!pKernelOk k)) = true := by rw [show pKernelOk k = true from decide_eq_true h5]; rfl
      refine fn_intro tt_ok Tryd.func39 rfl Tryd.call39 Tryd.ntmps39 Tryd.results39 rfl rfl rfl rfl ?_
      intro X ρ0 hb_ hgl_
      dsimp only [c_lFr]
      try refine nrm ?_
      repeat' (refine ar_id ?_; first | refine st1 ?_ | (first | ((first | refine ar_region (id := 1) tt_ok (inps := [.call (c_GiveR s slot ⟨s.Page, s.Class, Bm.unset s.Bits slot⟩ true)]) rfl ?_ ?_ | refine ar_region (id := 4) tt_ok (inps := [.call (c_KOk k), .sure (c_Mode k s.Page 0)]) rfl ?_ ?_ | refine ar_region tt_ok (inps := []) rfl ?_ ?_); rotate_left; (try dsimp only [c_GiveR, c_KOk, c_Mode]); (try refine nrm ?_); rotate_right) | refine ret3 ?_ | refine end3 ?_) | (refine ar_cond rfl trivial ?_ ?_ <;> intro hc_ <;> (try simp only [isNilI, inB, reduceCtorEq, cds] at hc_) <;> (try (first | contradiction | (exfalso; omega) | (exfalso; grind)))) | refine ar_until (And.intro ?_ (wk3 ?_)))
      all_goals (first | refine ar_id ?_ | (try (focus ((try refine nrmO ?_); (repeat' (first | exact True.intro | refine And.intro ?_ ?_)); all_goals (try (intro (hg_ : _ = true); (try simp only [isNilI, inB, reduceCtorEq, cds] at hg_); (repeat' (first | exact True.intro | refine And.intro ?_ ?_)))); all_goals (first | exact ob1 | exact hG | exact fn_KOk _ hs | exact fn_Mode _ _ _ hs hm | exact hk | skip)))))
      all_goals trace_state
    · have hk0 : pKernelOk k = false := decide_eq_false h5
      have hk : (!(!pKernelOk k)) = false := by rw [hk0]; rfl
      refine fn_intro tt_ok Tryd.func39 rfl Tryd.call39 Tryd.ntmps39 Tryd.results39 rfl rfl rfl rfl ?_
      intro X ρ0 hb_ hgl_
      dsimp only [c_lFr]
      try refine nrm ?_
      repeat' (refine ar_id ?_; first | refine st1 ?_ | (first | ((first | refine ar_region (id := 1) tt_ok (inps := [.call (c_GiveR s slot ⟨s.Page, s.Class, Bm.unset s.Bits slot⟩ true)]) rfl ?_ ?_ | refine ar_region (id := 4) tt_ok (inps := [.call (c_KOk k), .skip (SV.one (.lit (.int .i64 (0))))]) rfl ?_ ?_ | refine ar_region tt_ok (inps := []) rfl ?_ ?_); rotate_left; (try dsimp only [c_GiveR, c_KOk]); (try refine nrm ?_); rotate_right) | refine ret3 ?_ | refine end3 ?_) | (refine ar_cond rfl trivial ?_ ?_ <;> intro hc_ <;> (try simp only [isNilI, inB, reduceCtorEq, cds] at hc_) <;> (try (first | contradiction | (exfalso; omega) | (exfalso; grind)))) | refine ar_until (And.intro ?_ (wk3 ?_)))
      all_goals (first | refine ar_id ?_ | (try (focus ((try refine nrmO ?_); (repeat' (first | exact True.intro | refine And.intro ?_ ?_)); all_goals (try (intro (hg_ : _ = true); (try simp only [isNilI, inB, reduceCtorEq, cds] at hg_); (repeat' (first | exact True.intro | refine And.intro ?_ ?_)))); all_goals (first | exact ob1 | exact hG | exact fn_KOk _ hs | exact hk | exact hk.symm | skip)))))
      all_goals trace_state
  · rw [hc, if_neg (by decide)] at h
    obtain ⟨e1, e2⟩ := Prod.mk.inj h
    obtain ⟨e3, e4⟩ := Prod.mk.inj e2
    subst e1 e3 e4
    have hG := fn_GiveR s slot _ true (if_pos h1)
    have hk0 : pKernelOk k = true := decide_eq_true h2
    have hk : (!(!pKernelOk k)) = true := by rw [hk0]; rfl
    refine fn_intro tt_ok Tryd.func39 rfl Tryd.call39 Tryd.ntmps39 Tryd.results39 rfl rfl rfl rfl ?_
    intro X ρ0 hb_ hgl_
    dsimp only [c_lFr]
    try refine nrm ?_
    repeat' (refine ar_id ?_; first | refine st1 ?_ | (first | ((first | refine ar_region (id := 1) tt_ok (inps := [.call (c_GiveR s slot ⟨s.Page, s.Class, Bm.unset s.Bits slot⟩ true)]) rfl ?_ ?_ | refine ar_region (id := 4) tt_ok (inps := [.call (c_KOk k), .sure (c_Mode k s.Page 1)]) rfl ?_ ?_ | refine ar_region (id := 6) tt_ok (inps := [.call (c_Mode k s.Page 1)]) rfl ?_ ?_ | refine ar_region tt_ok (inps := []) rfl ?_ ?_); rotate_left; (try dsimp only [c_GiveR, c_KOk, c_Mode]); (try refine nrm ?_); rotate_right) | refine ret3 ?_ | refine end3 ?_) | (refine ar_cond rfl trivial ?_ ?_ <;> intro hc_ <;> (try simp only [isNilI, inB, reduceCtorEq, cds] at hc_) <;> (try (first | contradiction | (exfalso; omega) | (exfalso; grind)))) | refine ar_until (And.intro ?_ (wk3 ?_)))
    all_goals (first | refine ar_id ?_ | (try (focus ((try refine nrmO ?_); (repeat' (first | exact True.intro | refine And.intro ?_ ?_)); all_goals (try (intro (hg_ : _ = true); (try simp only [isNilI, inB, reduceCtorEq, cds] at hg_); (repeat' (first | exact True.intro | refine And.intro ?_ ?_)))); all_goals (first | exact ob1 | exact hG | exact fn_KOk _ hs | exact fn_Mode _ _ _ hs h3 | exact hk | skip)))))
    all_goals trace_state
  · rw [hc, if_pos rfl] at h
    obtain ⟨e1, e2⟩ := Prod.mk.inj h
    obtain ⟨e3, e4⟩ := Prod.mk.inj e2
    subst e1 e3 e4
    have hG := fn_GiveR s slot _ true (if_pos h1)
    have hk0 : pKernelOk k = true := decide_eq_true h2
    have hk : (!(!pKernelOk k)) = true := by rw [hk0]; rfl
    obtain ⟨m, hm⟩ : ∃ m, modeOf k s.Page = m := ⟨_, rfl⟩
    rw [hm] at h3 h4
    obtain ⟨hp1, hp2⟩ := mode_in (show modeOf k s.Page ≠ 0 by rw [hm]; exact h3)
    obtain ⟨f, hf, hf1, _, hf2, hf3⟩ := okM_entry h2.1 (show (pPageEntry k.Machine.Table s.Page).Mode ≠ 0 by exact (show modeOf k s.Page ≠ 0 by rw [hm]; exact h3))
    obtain ⟨a1, a2, a3, a4⟩ := fr_addr h1.1 h1.2
    have hcs := (slot_bds h1.1 h1.2).2.2.2
    have hpg := (span_parts h1.1).1
    have hfr : frFrame k s = f := by unfold frFrame; rw [hf]; rfl
    unfold frK wiped
    rw [hfr]
    rw [hp2] at hf
    obtain ⟨a, ha⟩ : ∃ a, frAt s slot = a := ⟨_, rfl⟩
    obtain ⟨n, hn⟩ : ∃ n, (Cl.csz s.Class).toNat = n := ⟨_, rfl⟩
    have hn' : Cl.csz s.Class = (n : Int) := by omega
    obtain ⟨R, hR⟩ : ∃ R, k.Machine.Frames.Cells.getD f [] = R := ⟨_, rfl⟩
    rw [hR] at hf2
    rw [ha] at a3 a4
    rw [hn] at a3
    rw [hn, ha, hR]
    have hCz := fn_CszS s.Class
    unfold c_CszS at hCz
    rw [hn'] at hCz
    have hcl := hs.m.c
    have hset0 : k.Machine.Frames.Cells.set f (wipe R a 0) = k.Machine.Frames.Cells := by rw [← hR]; exact row_set_self _ _
    refine fn_intro tt_ok Tryd.func39 rfl Tryd.call39 Tryd.ntmps39 Tryd.results39 rfl rfl rfl rfl ?_
    intro X ρ0 hb_ hgl_
    dsimp only [c_lFr]
    try refine nrm ?_
    repeat' (refine ar_id ?_; first | refine st1 ?_ | (first | ((first | refine ar_region (id := 1) tt_ok (inps := [.call (c_GiveR s slot ⟨s.Page, s.Class, Bm.unset s.Bits slot⟩ true)]) rfl ?_ ?_ | refine ar_region (id := 4) tt_ok (inps := [.call (c_KOk k), .sure (c_Mode k s.Page m)]) rfl ?_ ?_ | refine ar_region (id := 6) tt_ok (inps := [.call (c_Mode k s.Page m)]) rfl ?_ ?_ | refine ar_draw (id := 8) (inps := [.elem (eEntry (k.Machine.Table.Entries.getD s.Page.toNat ⟨0, 0⟩))]) tt_ok (by kernel_rfl) rfl rfl (by kernel_rfl) rfl rfl rfl rfl ?_ ?_ | refine ar_region (id := 9) tt_ok (inps := [.call (c_SpanAddr s slot)]) rfl ?_ ?_ | refine ar_region tt_ok (inps := []) rfl ?_ ?_); rotate_left; (try dsimp only [c_GiveR, c_KOk, c_Mode, c_SpanAddr]); (try refine nrm ?_); rotate_right) | refine ret3 ?_ | refine end3 ?_) | (refine ar_cond rfl trivial ?_ ?_ <;> intro hc_ <;> (try simp only [isNilI, inB, reduceCtorEq, cds] at hc_) <;> (try (first | contradiction | (exfalso; omega) | (exfalso; grind)))) | refine ar_until (And.intro ?_ (wk3 ?_)))
    all_goals (first | refine ar_id ?_ | (try (focus ((try refine nrmO ?_); (repeat' (first | exact True.intro | refine And.intro ?_ ?_)); all_goals (try (intro (hg_ : _ = true); (try simp only [isNilI, inB, reduceCtorEq, cds] at hg_); (repeat' (first | exact True.intro | refine And.intro ?_ ?_)))); all_goals (first | exact ob1 | exact hG | exact fn_KOk _ hs | exact fn_Mode _ _ _ hs hm | exact hk | exact fn_SpanAddr _ _ | skip)))))
    have a5 : (pSpanAddr s slot).tmod 16 = (a : Int) := by rw [a2, a4]
    refine ar_keep 8151 (by dsimp only [keepS] <;> exact rfl) ?_
    refine ar_forM (n) (fun i => True) (fun i => [(10, (TV.sv (.one (.lit (.int .i64 ((f : Int))))))), (11, (TV.sv (.one (.lit (.int .i64 ((a : Int))))))), (12, (TV.sv (.one (.lit (.int .i64 (i))))))]) (fun i => [(501, some (.row 33 1 ((k.Machine.Frames.Cells.set f (wipe R a i)).map eIntS)))]) ?_ ?_ ?_
    rotate_left
    · first | trivial | simp
    (dsimp only [rnCap, capSVs, Int.toNat_natCast, ro, Nat.reduceAdd, Nat.reduceMul, Nat.zero_add, List.map, putT, app, wrapG, gOb, argT, keys, slotOf, dropped, gAnd, wB, rnT, rnS, rnC, rnCs, rnSs, rnM, rnB, rnN, rn, lk, St.over, ded, delL, keepT, menT, menSs, menS, menCs, menC, hasN, resT, SV.cells]; refine wk3 ?_; (focus ((try refine nrmO ?_); (repeat' (first | exact True.intro | refine And.intro ?_ ?_)); all_goals (try (intro (hg_ : _ = true); (try simp only [isNilI, inB, reduceCtorEq, cds] at hg_); (repeat' (first | exact True.intro | refine And.intro ?_ ?_)))); all_goals (first | exact ob1 | exact rfl | skip))))
    rotate_right
    intro i hi_ hiI_
    dsimp only [rnCap, capSVs, Int.toNat_natCast, ro, Nat.reduceAdd, Nat.reduceMul, Nat.zero_add, List.map, putT, app, wrapG, gOb, argT, keys, slotOf, dropped, gAnd, wB, rnT, rnS, rnC, rnCs, rnSs, rnM, rnB, rnN, rn, lk, St.over, ded, delL, keepT, menT, menSs, menS, menCs, menC, hasN, resT, SV.cells]
    have hwl := wipe_len R a i
    have hrow : ((k.Machine.Frames.Cells.set f (wipe R a i)).map eIntS)[f]? = some (eIntS (wipe R a i)) := by rw [List.getElem?_map, List.getElem?_set_self hf1]; rfl
    repeat' (refine ar_id ?_; first | refine st1 ?_ | (first | ((first | refine ar_region (id := 11) tt_ok (inps := [.call (⟨52, [(SV.one (.lit (.int .i64 (s.Class))))], [], (TV.sv (.one (.lit (.int .i64 ((n : Int)))))), [], [], []⟩)]) rfl ?_ ?_ | refine ar_region tt_ok (inps := []) rfl ?_ ?_); rotate_left; (try refine nrm ?_); rotate_right) | refine ret3 ?_ | refine end3 ?_) | (refine ar_cond rfl trivial ?_ ?_ <;> intro hc_ <;> (try simp only [isNilI, inB, reduceCtorEq, cds] at hc_) <;> (try (first | contradiction | (exfalso; omega)))) | refine ar_until (And.intro ?_ (wk3 ?_)))
    all_goals (first | refine ar_id ?_ | (try (focus ((try refine nrmO ?_); (repeat' (first | exact True.intro | refine And.intro ?_ ?_)); all_goals (try (intro (hg_ : _ = true); (try simp only [isNilI, inB, reduceCtorEq, cds] at hg_); (repeat' (first | exact True.intro | refine And.intro ?_ ?_)))); all_goals (first | exact ob1 | exact hCz | skip)))))
    · skip
      refine ar_open 501 f 0 90001 90002 (d := eIntS (wipe R a i)) ((wipe R a i).map eI) rfl ?_ rfl ?_ rfl rfl rfl ?_
      · first | exact map_at (by omega) | assumption | exact set_at (by (try simp only [List.length_map, List.length_set]); omega) | (rw [List.getElem?_set_ne (by omega)]; exact map_at (by omega))
      · exact ⟨rfl, rfl, by intro e he; simp only [List.mem_map] at he; obtain ⟨_, _, rfl⟩ := he; rfl⟩
      intro A_90001 n_90001 c_90001
      try refine nrm ?_
      refine ar_region (id := 13) tt_ok (inps := [.nest (.lit (Value.slice A_90001 n_90001 c_90001) .nil) [(0, 90002)], .elem (eI ((wipe R a i).getD (a + i) 0))]) rfl ?_ ?_
      rotate_left
      (try refine nrm ?_)
      refine ar_close 501 f 0 90001 90002 rfl rfl rfl (set_at ?_) rfl rfl rfl ?_
      · (simp only [List.length_map, List.length_set]; omega)
      try refine nrm ?_
      repeat' (refine ar_id ?_; first | refine st1 ?_ | (first | ((first | refine ar_region tt_ok (inps := []) rfl ?_ ?_); rotate_left; (try refine nrm ?_); rotate_right) | refine ret3 ?_ | refine end3 ?_) | (refine ar_cond rfl trivial ?_ ?_ <;> intro hc_ <;> (try simp only [isNilI, inB, reduceCtorEq, cds] at hc_) <;> (try (first | contradiction | (exfalso; omega)))) | refine ar_until (And.intro ?_ (wk3 ?_)))
      all_goals (first | refine ar_id ?_ | (try (focus ((try refine nrmO ?_); (repeat' (first | exact True.intro | refine And.intro ?_ ?_)); all_goals (try (intro (hg_ : _ = true); (try simp only [isNilI, inB, reduceCtorEq, cds] at hg_); (repeat' (first | exact True.intro | refine And.intro ?_ ?_)))); all_goals (first | exact ob1 | skip)))))
      all_goals (try (focus ((try refine nrmO ?_); (repeat' (first | exact True.intro | refine And.intro ?_ ?_)); all_goals (try (intro (hg_ : _ = true); (try simp only [isNilI, inB, reduceCtorEq, cds] at hg_); (repeat' (first | exact True.intro | refine And.intro ?_ ?_)))); all_goals (first | exact ob1 | skip))))
      have hset : ∀ (o : Int), ((wipe R a i).map eI).set ((a : Int) + (i : Int)).toNat (dPut (eI o) 0 (D.lit (.int .i64 0) .nil)) = (wipe R a (i + 1)).map eI := fun o => by rw [show ((a : Int) + (i : Int)).toNat = a + i by omega]; exact List.map_set.symm
      rw [hset, List.set_set]
      show (List.map eIntS (k.Machine.Frames.Cells.set f (wipe R a i))).set f (eIntS (wipe R a (i + 1))) = _
      rw [← List.map_set, List.set_set]
    all_goals first | (rw [show i = n by omega]; done) | (rw [hset0]; done) | trace_state
end Eng
end Go.Proofs.YtgeakpeodhhffaaDoor
namespace Go.Proofs.YtgeakpeodhhffaaDoor
open Go.RowKit
set_option linter.unusedVariables false
set_option linter.unusedSimpArgs false
set_option maxRecDepth 100000
namespace Tr
end Tr
namespace Eng
open Tr
def c_FrS (k : GKernel) (s : GSpan) (slot : Int) (k2 : GKernel) (s2 : GSpan) (e : Int) : CFD := ⟨14, [.agg [ro 33 1 eIntS k.Machine.Frames.Cells, ro 4 1 Tr.eB k.Machine.Frames.Used, ro 51 2 eEntry k.Machine.Table.Entries, (CV.lit (.int .i64 (k.Calls))), ro 3 1 Tr.eI k.Refuse], .agg [(CV.lit (.int .i64 (s.Page))), (CV.lit (.int .i64 (s.Class))), (CV.lit (.int .i64 (s.Bits)))], (SV.one (.lit (.int .i64 (slot))))], [], .tup [.agg [.hd 0, .hd 1, .hd 2, (CV.lit (.int .i64 (k2.Calls))), .hd 3], .agg [(CV.lit (.int .i64 (s2.Page))), (CV.lit (.int .i64 (s2.Class))), (CV.lit (.int .i64 (s2.Bits)))], (SV.one (.lit (.int .i64 (e))))], [(0, some (.row 33 1 (k2.Machine.Frames.Cells.map eIntS))), (1, some (.row 4 1 (k2.Machine.Frames.Used.map Tr.eB))), (2, some (.row 51 2 (k2.Machine.Table.Entries.map eEntry))), (3, some (.row 3 1 (k2.Refuse.map Tr.eI)))], [0, 1, 2, 3], []⟩
theorem fn_FrS (k : GKernel) (s : GSpan) (slot : Int) (k2 : GKernel) (s2 : GSpan) (e : Int) (hs : szK8 k) (h : pFreeSlot k s slot = (k2, s2, e)) : Fn Tryd.prog (c_FrS k s slot k2 s2 e) := by
  refine fn_intro tt_ok Tryd.func14 rfl Tryd.call14 Tryd.ntmps14 Tryd.results14 rfl rfl rfl rfl ?_
  intro X ρ0 hb_ hgl_
  dsimp only [c_FrS]
  try refine nrm ?_
  repeat' (refine ar_id ?_; first | refine st1 ?_ | (refine ar_drawS (id := 3) tt_ok (by kernel_rfl) [] ?_; refine ed_hide ?_; intro K_ hK_; repeat' (first | ((first | refine ed_call3 ?_ | refine ed_sure3 ?_ | refine ed_cons3 ?_); refine ed_hide ?_; intro K_ hK_; (try dsimp only [c_Copy8, c_lFr]); (try refine nrmE ?_)) | (refine ed_nil ?_; (repeat subst hK_); dsimp only; refine Exists.intro _ (And.intro rfl (And.intro (by kernel_rfl) (And.intro ?_ ?_))); rotate_left; (try dsimp only [c_Copy8, c_lFr]); (try refine nrm ?_); rotate_right))) | (first | ((first | refine ar_region (id := 1) tt_ok (inps := [.call (c_Copy8 k)]) rfl ?_ ?_ | refine ar_region (id := 2) tt_ok (inps := [.call (c_lFr k s slot k2 s2 e)]) rfl ?_ ?_ | refine ar_region tt_ok (inps := []) rfl ?_ ?_); rotate_left; (try dsimp only [c_Copy8, c_lFr]); (try refine nrm ?_); rotate_right) | refine ret3 ?_ | refine end3 ?_) | (refine ar_cond rfl trivial ?_ ?_ <;> intro hc_ <;> (try simp only [isNilI, inB, reduceCtorEq, cds] at hc_) <;> (try (first | contradiction | (exfalso; omega)))) | refine ar_until (And.intro ?_ (wk3 ?_)))
  all_goals (first | refine ar_id ?_ | (try (focus ((try refine nrmO ?_); (repeat' (first | exact True.intro | refine And.intro ?_ ?_)); all_goals (try (intro (hg_ : _ = true); (try simp only [isNilI, inB, reduceCtorEq, cds] at hg_); (repeat' (first | exact True.intro | refine And.intro ?_ ?_)))); all_goals (first | exact ob1 | exact fn_Copy8 _ hs | exact fn_lFr _ _ _ _ _ _ hs h | skip)))))
  all_goals trace_state
end Eng
end Go.Proofs.YtgeakpeodhhffaaDoor
namespace Go.Proofs.YtgeakpeodhhffaaDoor
open Go.RowKit
set_option linter.unusedVariables false
set_option linter.unusedSimpArgs false
set_option maxRecDepth 100000
namespace Eng
open Tr
def c_CloneB (l : List Bool) : CFD := ⟨139, [.one (ro 4 1 Tr.eB l)], [], .sv (.one (.hd 0)), [(0, some (.row 4 1 (l.map Tr.eB)))], [0], []⟩
theorem fn_CloneB (l : List Bool) (hl : l.length ≤ 1048576) : Fn Tryd.prog (c_CloneB l) := by
  refine fn_intro tt_ok Tryd.func139 rfl Tryd.call139 Tryd.ntmps139 Tryd.results139 rfl rfl rfl rfl ?_
  intro X ρ0 hb_ hgl_
  dsimp only [c_CloneB]
  try refine nrm ?_
  repeat' (refine ar_id ?_; first | refine st1 ?_ | (first | ((first | refine ar_region tt_ok (inps := []) rfl ?_ ?_); rotate_left; (try refine nrm ?_); rotate_right) | refine ret3 ?_ | refine end3 ?_) | (refine ar_cond rfl trivial ?_ ?_ <;> intro hc_ <;> (try simp only [isNilI, inB, reduceCtorEq, cds] at hc_) <;> (try (first | contradiction | (exfalso; omega)))) | refine ar_until (And.intro ?_ (wk3 ?_)))
  all_goals (first | refine ar_id ?_ | (try (focus ((try refine nrmO ?_); (repeat' (first | exact True.intro | refine And.intro ?_ ?_)); all_goals (try (intro (hg_ : _ = true); (try simp only [isNilI, inB, reduceCtorEq, cds] at hg_); (repeat' (first | exact True.intro | refine And.intro ?_ ?_)))); all_goals (first | exact ob1 | skip)))))
  refine ar_split (s := 0) rfl ?_ ?_
  · intro hn hc
    repeat' (refine ar_id ?_; first | refine st1 ?_ | (first | ((first | refine ar_region tt_ok (inps := []) rfl ?_ ?_); rotate_left; (try refine nrm ?_); rotate_right) | refine ret3 ?_ | refine end3 ?_) | (refine ar_cond rfl trivial ?_ ?_ <;> intro hc_ <;> (try simp only [isNilI, inB, reduceCtorEq, cds] at hc_) <;> (try (first | contradiction | (exfalso; omega)))) | refine ar_until (And.intro ?_ (wk3 ?_)))
    all_goals (first | refine ar_id ?_ | (try (focus ((try refine nrmO ?_); (repeat' (first | exact True.intro | refine And.intro ?_ ?_)); all_goals (try (intro (hg_ : _ = true); (try simp only [isNilI, inB, reduceCtorEq, cds] at hg_); (repeat' (first | exact True.intro | refine And.intro ?_ ?_)))); all_goals (first | exact ob1 | skip)))))
    refine ar_nil (s := 2) (T := 4) (q := 1) (r := 90000) rfl rfl ?_
    repeat' (refine ar_id ?_; first | refine st1 ?_ | (first | ((first | refine ar_region tt_ok (inps := []) rfl ?_ ?_); rotate_left; (try refine nrm ?_); rotate_right) | refine ret3 ?_ | refine end3 ?_) | (refine ar_cond rfl trivial ?_ ?_ <;> intro hc_ <;> (try simp only [isNilI, inB, reduceCtorEq, cds] at hc_) <;> (try (first | contradiction | (exfalso; omega)))) | refine ar_until (And.intro ?_ (wk3 ?_)))
    all_goals (first | refine ar_id ?_ | (try (focus ((try refine nrmO ?_); (repeat' (first | exact True.intro | refine And.intro ?_ ?_)); all_goals (try (intro (hg_ : _ = true); (try simp only [isNilI, inB, reduceCtorEq, cds] at hg_); (repeat' (first | exact True.intro | refine And.intro ?_ ?_)))); all_goals (first | exact ob1 | skip)))))
    rw [List.length_eq_zero_iff.1 hn]; rfl
  · intro ad cap hr
    repeat' (refine ar_id ?_; first | refine st1 ?_ | (first | ((first | refine ar_region tt_ok (inps := []) rfl ?_ ?_); rotate_left; (try refine nrm ?_); rotate_right) | refine ret3 ?_ | refine end3 ?_) | (refine ar_cond rfl trivial ?_ ?_ <;> intro hc_ <;> (try simp only [isNilI, inB, reduceCtorEq, cds] at hc_) <;> (try (first | contradiction | (exfalso; omega)))) | refine ar_until (And.intro ?_ (wk3 ?_)))
    all_goals (first | refine ar_id ?_ | (try (focus ((try refine nrmO ?_); (repeat' (first | exact True.intro | refine And.intro ?_ ?_)); all_goals (try (intro (hg_ : _ = true); (try simp only [isNilI, inB, reduceCtorEq, cds] at hg_); (repeat' (first | exact True.intro | refine And.intro ?_ ?_)))); all_goals (first | exact ob1 | skip)))))
    refine ar_read (s := 0) hr rfl ?_
    repeat' (refine ar_id ?_; first | refine st1 ?_ | (first | ((first | refine ar_region (id := 3) tt_ok (inps := [.elems (l.map Tr.eB)]) rfl ?_ ?_ | refine ar_region tt_ok (inps := []) rfl ?_ ?_); rotate_left; (try refine nrm ?_); rotate_right) | refine ret3 ?_ | refine end3 ?_) | (refine ar_cond rfl trivial ?_ ?_ <;> intro hc_ <;> (try simp only [isNilI, inB, reduceCtorEq, cds] at hc_) <;> (try (first | contradiction | (exfalso; omega)))) | refine ar_until (And.intro ?_ (wk3 ?_)))
    all_goals (first | refine ar_id ?_ | (try (focus ((try refine nrmO ?_); (repeat' (first | exact True.intro | refine And.intro ?_ ?_)); all_goals (try (intro (hg_ : _ = true); (try simp only [isNilI, inB, reduceCtorEq, cds] at hg_); (repeat' (first | exact True.intro | refine And.intro ?_ ?_)))); all_goals (first | exact ob1 | exact flat_map' l (fun x => ⟨rfl, rfl, trivial⟩) | exact (by simp only [lns]; omega) | exact (by simp) | skip)))))
def c_CloneI (l : List Int) : CFD := ⟨69, [.one (ro 3 1 Tr.eI l)], [], .sv (.one (.hd 0)), [(0, some (.row 3 1 (l.map Tr.eI)))], [0], []⟩
theorem fn_CloneI (l : List Int) (hl : l.length ≤ 1048576) : Fn Tryd.prog (c_CloneI l) := by
  refine fn_intro tt_ok Tryd.func69 rfl Tryd.call69 Tryd.ntmps69 Tryd.results69 rfl rfl rfl rfl ?_
  intro X ρ0 hb_ hgl_
  dsimp only [c_CloneI]
  try refine nrm ?_
  repeat' (refine ar_id ?_; first | refine st1 ?_ | (first | ((first | refine ar_region tt_ok (inps := []) rfl ?_ ?_); rotate_left; (try refine nrm ?_); rotate_right) | refine ret3 ?_ | refine end3 ?_) | (refine ar_cond rfl trivial ?_ ?_ <;> intro hc_ <;> (try simp only [isNilI, inB, reduceCtorEq, cds] at hc_) <;> (try (first | contradiction | (exfalso; omega)))) | refine ar_until (And.intro ?_ (wk3 ?_)))
  all_goals (first | refine ar_id ?_ | (try (focus ((try refine nrmO ?_); (repeat' (first | exact True.intro | refine And.intro ?_ ?_)); all_goals (try (intro (hg_ : _ = true); (try simp only [isNilI, inB, reduceCtorEq, cds] at hg_); (repeat' (first | exact True.intro | refine And.intro ?_ ?_)))); all_goals (first | exact ob1 | skip)))))
  refine ar_split (s := 0) rfl ?_ ?_
  · intro hn hc
    repeat' (refine ar_id ?_; first | refine st1 ?_ | (first | ((first | refine ar_region tt_ok (inps := []) rfl ?_ ?_); rotate_left; (try refine nrm ?_); rotate_right) | refine ret3 ?_ | refine end3 ?_) | (refine ar_cond rfl trivial ?_ ?_ <;> intro hc_ <;> (try simp only [isNilI, inB, reduceCtorEq, cds] at hc_) <;> (try (first | contradiction | (exfalso; omega)))) | refine ar_until (And.intro ?_ (wk3 ?_)))
    all_goals (first | refine ar_id ?_ | (try (focus ((try refine nrmO ?_); (repeat' (first | exact True.intro | refine And.intro ?_ ?_)); all_goals (try (intro (hg_ : _ = true); (try simp only [isNilI, inB, reduceCtorEq, cds] at hg_); (repeat' (first | exact True.intro | refine And.intro ?_ ?_)))); all_goals (first | exact ob1 | skip)))))
    refine ar_nil (s := 2) (T := 3) (q := 1) (r := 90000) rfl rfl ?_
    repeat' (refine ar_id ?_; first | refine st1 ?_ | (first | ((first | refine ar_region tt_ok (inps := []) rfl ?_ ?_); rotate_left; (try refine nrm ?_); rotate_right) | refine ret3 ?_ | refine end3 ?_) | (refine ar_cond rfl trivial ?_ ?_ <;> intro hc_ <;> (try simp only [isNilI, inB, reduceCtorEq, cds] at hc_) <;> (try (first | contradiction | (exfalso; omega)))) | refine ar_until (And.intro ?_ (wk3 ?_)))
    all_goals (first | refine ar_id ?_ | (try (focus ((try refine nrmO ?_); (repeat' (first | exact True.intro | refine And.intro ?_ ?_)); all_goals (try (intro (hg_ : _ = true); (try simp only [isNilI, inB, reduceCtorEq, cds] at hg_); (repeat' (first | exact True.intro | refine And.intro ?_ ?_)))); all_goals (first | exact ob1 | skip)))))
    rw [List.length_eq_zero_iff.1 hn]; rfl
  · intro ad cap hr
    repeat' (refine ar_id ?_; first | refine st1 ?_ | (first | ((first | refine ar_region tt_ok (inps := []) rfl ?_ ?_); rotate_left; (try refine nrm ?_); rotate_right) | refine ret3 ?_ | refine end3 ?_) | (refine ar_cond rfl trivial ?_ ?_ <;> intro hc_ <;> (try simp only [isNilI, inB, reduceCtorEq, cds] at hc_) <;> (try (first | contradiction | (exfalso; omega)))) | refine ar_until (And.intro ?_ (wk3 ?_)))
    all_goals (first | refine ar_id ?_ | (try (focus ((try refine nrmO ?_); (repeat' (first | exact True.intro | refine And.intro ?_ ?_)); all_goals (try (intro (hg_ : _ = true); (try simp only [isNilI, inB, reduceCtorEq, cds] at hg_); (repeat' (first | exact True.intro | refine And.intro ?_ ?_)))); all_goals (first | exact ob1 | skip)))))
    refine ar_read (s := 0) hr rfl ?_
    repeat' (refine ar_id ?_; first | refine st1 ?_ | (first | ((first | refine ar_region (id := 3) tt_ok (inps := [.elems (l.map Tr.eI)]) rfl ?_ ?_ | refine ar_region tt_ok (inps := []) rfl ?_ ?_); rotate_left; (try refine nrm ?_); rotate_right) | refine ret3 ?_ | refine end3 ?_) | (refine ar_cond rfl trivial ?_ ?_ <;> intro hc_ <;> (try simp only [isNilI, inB, reduceCtorEq, cds] at hc_) <;> (try (first | contradiction | (exfalso; omega)))) | refine ar_until (And.intro ?_ (wk3 ?_)))
    all_goals (first | refine ar_id ?_ | (try (focus ((try refine nrmO ?_); (repeat' (first | exact True.intro | refine And.intro ?_ ?_)); all_goals (try (intro (hg_ : _ = true); (try simp only [isNilI, inB, reduceCtorEq, cds] at hg_); (repeat' (first | exact True.intro | refine And.intro ?_ ?_)))); all_goals (first | exact ob1 | exact flat_map' l (fun x => ⟨rfl, rfl, trivial⟩) | exact (by simp only [lns]; omega) | exact (by simp) | skip)))))
def c_CloneE (l : List GEntry) : CFD := ⟨107, [.one (ro 51 2 eEntry l)], [], .sv (.one (.hd 0)), [(0, some (.row 51 2 (l.map eEntry)))], [0], []⟩
theorem fn_CloneE (l : List GEntry) (hl : l.length ≤ 1048576) : Fn Tryd.prog (c_CloneE l) := by
  refine fn_intro tt_ok Tryd.func107 rfl Tryd.call107 Tryd.ntmps107 Tryd.results107 rfl rfl rfl rfl ?_
  intro X ρ0 hb_ hgl_
  dsimp only [c_CloneE]
  try refine nrm ?_
  repeat' (refine ar_id ?_; first | refine st1 ?_ | (first | ((first | refine ar_region tt_ok (inps := []) rfl ?_ ?_); rotate_left; (try refine nrm ?_); rotate_right) | refine ret3 ?_ | refine end3 ?_) | (refine ar_cond rfl trivial ?_ ?_ <;> intro hc_ <;> (try simp only [isNilI, inB, reduceCtorEq, cds] at hc_) <;> (try (first | contradiction | (exfalso; omega)))) | refine ar_until (And.intro ?_ (wk3 ?_)))
  all_goals (first | refine ar_id ?_ | (try (focus ((try refine nrmO ?_); (repeat' (first | exact True.intro | refine And.intro ?_ ?_)); all_goals (try (intro (hg_ : _ = true); (try simp only [isNilI, inB, reduceCtorEq, cds] at hg_); (repeat' (first | exact True.intro | refine And.intro ?_ ?_)))); all_goals (first | exact ob1 | skip)))))
  refine ar_split (s := 0) rfl ?_ ?_
  · intro hn hc
    repeat' (refine ar_id ?_; first | refine st1 ?_ | (first | ((first | refine ar_region tt_ok (inps := []) rfl ?_ ?_); rotate_left; (try refine nrm ?_); rotate_right) | refine ret3 ?_ | refine end3 ?_) | (refine ar_cond rfl trivial ?_ ?_ <;> intro hc_ <;> (try simp only [isNilI, inB, reduceCtorEq, cds] at hc_) <;> (try (first | contradiction | (exfalso; omega)))) | refine ar_until (And.intro ?_ (wk3 ?_)))
    all_goals (first | refine ar_id ?_ | (try (focus ((try refine nrmO ?_); (repeat' (first | exact True.intro | refine And.intro ?_ ?_)); all_goals (try (intro (hg_ : _ = true); (try simp only [isNilI, inB, reduceCtorEq, cds] at hg_); (repeat' (first | exact True.intro | refine And.intro ?_ ?_)))); all_goals (first | exact ob1 | skip)))))
    refine ar_nil (s := 2) (T := 51) (q := 2) (r := 90000) rfl rfl ?_
    repeat' (refine ar_id ?_; first | refine st1 ?_ | (first | ((first | refine ar_region tt_ok (inps := []) rfl ?_ ?_); rotate_left; (try refine nrm ?_); rotate_right) | refine ret3 ?_ | refine end3 ?_) | (refine ar_cond rfl trivial ?_ ?_ <;> intro hc_ <;> (try simp only [isNilI, inB, reduceCtorEq, cds] at hc_) <;> (try (first | contradiction | (exfalso; omega)))) | refine ar_until (And.intro ?_ (wk3 ?_)))
    all_goals (first | refine ar_id ?_ | (try (focus ((try refine nrmO ?_); (repeat' (first | exact True.intro | refine And.intro ?_ ?_)); all_goals (try (intro (hg_ : _ = true); (try simp only [isNilI, inB, reduceCtorEq, cds] at hg_); (repeat' (first | exact True.intro | refine And.intro ?_ ?_)))); all_goals (first | exact ob1 | skip)))))
    rw [List.length_eq_zero_iff.1 hn]; rfl
  · intro ad cap hr
    repeat' (refine ar_id ?_; first | refine st1 ?_ | (first | ((first | refine ar_region tt_ok (inps := []) rfl ?_ ?_); rotate_left; (try refine nrm ?_); rotate_right) | refine ret3 ?_ | refine end3 ?_) | (refine ar_cond rfl trivial ?_ ?_ <;> intro hc_ <;> (try simp only [isNilI, inB, reduceCtorEq, cds] at hc_) <;> (try (first | contradiction | (exfalso; omega)))) | refine ar_until (And.intro ?_ (wk3 ?_)))
    all_goals (first | refine ar_id ?_ | (try (focus ((try refine nrmO ?_); (repeat' (first | exact True.intro | refine And.intro ?_ ?_)); all_goals (try (intro (hg_ : _ = true); (try simp only [isNilI, inB, reduceCtorEq, cds] at hg_); (repeat' (first | exact True.intro | refine And.intro ?_ ?_)))); all_goals (first | exact ob1 | skip)))))
    refine ar_read (s := 0) hr rfl ?_
    repeat' (refine ar_id ?_; first | refine st1 ?_ | (first | ((first | refine ar_region (id := 3) tt_ok (inps := [.elems (l.map eEntry)]) rfl ?_ ?_ | refine ar_region tt_ok (inps := []) rfl ?_ ?_); rotate_left; (try refine nrm ?_); rotate_right) | refine ret3 ?_ | refine end3 ?_) | (refine ar_cond rfl trivial ?_ ?_ <;> intro hc_ <;> (try simp only [isNilI, inB, reduceCtorEq, cds] at hc_) <;> (try (first | contradiction | (exfalso; omega)))) | refine ar_until (And.intro ?_ (wk3 ?_)))
    all_goals (first | refine ar_id ?_ | (try (focus ((try refine nrmO ?_); (repeat' (first | exact True.intro | refine And.intro ?_ ?_)); all_goals (try (intro (hg_ : _ = true); (try simp only [isNilI, inB, reduceCtorEq, cds] at hg_); (repeat' (first | exact True.intro | refine And.intro ?_ ?_)))); all_goals (first | exact ob1 | exact flat_map' l (fun x => ⟨rfl, rfl, rfl, trivial⟩) | exact (by simp only [lns]; omega) | exact (by simp) | skip)))))
end Eng
end Go.Proofs.YtgeakpeodhhffaaDoor
namespace Go.Proofs.YtgeakpeodhhffaaDoor
open Go.RowKit
set_option linter.unusedVariables false
set_option linter.unusedSimpArgs false
set_option maxRecDepth 100000
namespace Eng
open Tr
def c_vir (v : Int) : CFD := ⟨140, [(SV.one (.lit (.int .i64 (v))))], [], (TV.sv (.one (.lit (.bool (inB v 0 999))))), [], [], []⟩
theorem fn_vir (v : Int) : Fn Tryd.prog (c_vir v) := by
  refine fn_intro tt_ok Tryd.func140 rfl Tryd.call140 Tryd.ntmps140 Tryd.results140 rfl rfl rfl rfl ?_
  intro X ρ0 hb_ hgl_
  dsimp only [c_vir]
  try refine nrm ?_
  repeat' (refine ar_id ?_; first | refine st1 ?_ | (first | ((first | refine ar_region tt_ok (inps := []) rfl ?_ ?_); rotate_left; (try refine nrm ?_); rotate_right) | refine ret3 ?_ | refine end3 ?_) | (refine ar_cond rfl trivial ?_ ?_ <;> intro hc_ <;> (try simp only [isNilI, inB, reduceCtorEq, cds] at hc_) <;> (try (first | contradiction | (exfalso; omega)))) | refine ar_until (And.intro ?_ (wk3 ?_)))
  all_goals (first | refine ar_id ?_ | (try (focus ((try refine nrmO ?_); (repeat' (first | exact True.intro | refine And.intro ?_ ?_)); all_goals (try (intro (hg_ : _ = true); (try simp only [isNilI, inB, reduceCtorEq, cds] at hg_); (repeat' (first | exact True.intro | refine And.intro ?_ ?_)))); all_goals (first | exact ob1 | skip)))))
  exact congrArg Value.bool (by unfold inB; cases h : decide (v ≥ 0) <;> simp_all)
def c_frameOk (r : List Int) (u : Bool) : CFD := ⟨108, [.one (ro 3 1 Tr.eI r), (SV.one (.lit (.bool (u))))], [], (TV.sv (.one (.lit (.bool (decide (okRow u r)))))), [], [], []⟩
theorem fn_frameOk (r : List Int) (u : Bool) (hl : r.length ≤ 1048576) : Fn Tryd.prog (c_frameOk r u) := by
  refine fn_intro tt_ok Tryd.func108 rfl Tryd.call108 Tryd.ntmps108 Tryd.results108 rfl rfl rfl rfl ?_
  intro X ρ0 hb_ hgl_
  dsimp only [c_frameOk]
  try refine nrm ?_
  repeat' (refine ar_id ?_; first | refine st1 ?_ | (first | ((first | refine ar_region tt_ok (inps := []) rfl ?_ ?_); rotate_left; (try refine nrm ?_); rotate_right) | refine ret3 ?_ | refine end3 ?_) | (refine ar_cond rfl trivial ?_ ?_ <;> intro hc_ <;> (try simp only [isNilI, inB, reduceCtorEq, cds] at hc_) <;> (try (first | contradiction | (exfalso; omega)))) | refine ar_until (And.intro ?_ (wk3 ?_)))
  all_goals (first | refine ar_id ?_ | (try (focus ((try refine nrmO ?_); (repeat' (first | exact True.intro | refine And.intro ?_ ?_)); all_goals (try (intro (hg_ : _ = true); (try simp only [isNilI, inB, reduceCtorEq, cds] at hg_); (repeat' (first | exact True.intro | refine And.intro ?_ ?_)))); all_goals (first | exact ob1 | skip)))))
  · exact bf fun h => hc_ (by rw [h.1]; rfl)
  have hlen := hc_
  refine ar_keep 7251 (by dsimp only [keepS] <;> exact rfl) ?_
  refine ar_forM (r.length) (fun i => ∀ v ∈ r.take i, okV u v) (fun i => [(12, (TV.sv (.one (.lit (.int .i64 (i))))))]) (fun i => []) ?_ ?_ ?_
  rotate_left
  · first | trivial | simp
  (dsimp only [rnCap, capSVs, Int.toNat_natCast, ro, Nat.reduceAdd, Nat.reduceMul, Nat.zero_add, List.map, putT, app, wrapG, gOb, argT, keys, slotOf, dropped, gAnd, wB, rnT, rnS, rnC, rnCs, rnSs, rnM, rnB, rnN, rn, lk, St.over, ded, delL, keepT, menT, menSs, menS, menCs, menC, hasN, resT, SV.cells]; refine wk3 ?_; (focus ((try refine nrmO ?_); (repeat' (first | exact True.intro | refine And.intro ?_ ?_)); all_goals (try (intro (hg_ : _ = true); (try simp only [isNilI, inB, reduceCtorEq, cds] at hg_); (repeat' (first | exact True.intro | refine And.intro ?_ ?_)))); all_goals (first | exact ob1 | exact rfl | skip))))
  rotate_right
  intro i hi_ hiI_
  dsimp only [rnCap, capSVs, Int.toNat_natCast, ro, Nat.reduceAdd, Nat.reduceMul, Nat.zero_add, List.map, putT, app, wrapG, gOb, argT, keys, slotOf, dropped, gAnd, wB, rnT, rnS, rnC, rnCs, rnSs, rnM, rnB, rnN, rn, lk, St.over, ded, delL, keepT, menT, menSs, menS, menCs, menC, hasN, resT, SV.cells]
  repeat' (refine ar_id ?_; first | refine st1 ?_ | (first | ((first | refine ar_region (id := 5) tt_ok (inps := [.elem (Tr.eI (r.getD i 0))]) rfl ?_ ?_ | refine ar_region (id := 6) tt_ok (inps := [.call (c_vir (r.getD i 0))]) rfl ?_ ?_ | refine ar_region tt_ok (inps := []) rfl ?_ ?_); rotate_left; (try dsimp only [c_vir]); (try refine nrm ?_); rotate_right) | refine ret3 ?_ | refine end3 ?_) | (refine ar_cond rfl trivial ?_ ?_ <;> intro hc_ <;> (try simp only [isNilI, inB, reduceCtorEq, cds] at hc_) <;> (try (first | contradiction | (exfalso; omega)))) | refine ar_until (And.intro ?_ (wk3 ?_)))
  all_goals (first | refine ar_id ?_ | (try (focus ((try refine nrmO ?_); (repeat' (first | exact True.intro | refine And.intro ?_ ?_)); all_goals (try (intro (hg_ : _ = true); (try simp only [isNilI, inB, reduceCtorEq, cds] at hg_); (repeat' (first | exact True.intro | refine And.intro ?_ ?_)))); all_goals (first | exact ob1 | exact fn_vir _ | skip)))))
  · refine bf fun h => ?_
    have := h.2 _ (getD_in (l := r) (i := i) (d := 0) (by omega))
    rcases hc_ with hc_ | ⟨h1, h2⟩
    · have := this.1; omega
    · rcases this.2 with h3 | h3
      · rw [h1] at h3; cases h3
      · exact h2 h3
  · exact all_take hiI_ (by omega) hc_
  · exact bt ⟨by omega, all_full hiI_ (by omega)⟩
theorem zip_getD {α β : Type} {l : List α} {m : List β} {i : Nat} {a : α} {b : β} (h1 : i < l.length) (h2 : i < m.length) : (l.zip m).getD i (a, b) = (l.getD i a, m.getD i b) := by
  have := zip_at (getD_at (x := a) h1) (getD_at (x := b) h2)
  rw [List.getD_eq_getElem?_getD, this]
  rfl
def c_FramesOkI (f : GFrames) : CFD := ⟨70, [.agg [ro 33 1 eIntS f.Cells, ro 4 1 Tr.eB f.Used]], [], (TV.sv (.one (.lit (.bool (pFramesOk f))))), [], [], []⟩
theorem fn_FramesOkI (f : GFrames) (hl : f.Cells.length ≤ 1048576) (hu : f.Used.length ≤ 1048576) (hc : ∀ r ∈ f.Cells, r.length ≤ 1048576) : Fn Tryd.prog (c_FramesOkI f) := by
  refine fn_intro tt_ok Tryd.func70 rfl Tryd.call70 Tryd.ntmps70 Tryd.results70 rfl rfl rfl rfl ?_
  intro X ρ0 hb_ hgl_
  dsimp only [c_FramesOkI]
  try refine nrm ?_
  repeat' (refine ar_id ?_; first | refine st1 ?_ | (first | ((first | refine ar_region tt_ok (inps := []) rfl ?_ ?_); rotate_left; (try refine nrm ?_); rotate_right) | refine ret3 ?_ | refine end3 ?_) | (refine ar_cond rfl trivial ?_ ?_ <;> intro hc_ <;> (try simp only [isNilI, inB, reduceCtorEq, cds] at hc_) <;> (try (first | contradiction | (exfalso; omega)))) | refine ar_until (And.intro ?_ (wk3 ?_)))
  all_goals (first | refine ar_id ?_ | (try (focus ((try refine nrmO ?_); (repeat' (first | exact True.intro | refine And.intro ?_ ?_)); all_goals (try (intro (hg_ : _ = true); (try simp only [isNilI, inB, reduceCtorEq, cds] at hg_); (repeat' (first | exact True.intro | refine And.intro ?_ ?_)))); all_goals (first | exact ob1 | skip)))))
  · exact bf fun h => by have := h.1; have := h.2.1; omega
  have hlen := hc_
  refine ar_keep 234881055 (by dsimp only [keepS] <;> exact rfl) ?_
  refine ar_forM (f.Cells.length) (fun i => ∀ p ∈ (f.Cells.zip f.Used).take i, okRow p.2 p.1) (fun i => [(27, (TV.sv (.one (.lit (.int .i64 (i))))))]) (fun i => []) ?_ ?_ ?_
  rotate_left
  · first | trivial | simp
  (dsimp only [rnCap, capSVs, Int.toNat_natCast, ro, Nat.reduceAdd, Nat.reduceMul, Nat.zero_add, List.map, putT, app, wrapG, gOb, argT, keys, slotOf, dropped, gAnd, wB, rnT, rnS, rnC, rnCs, rnSs, rnM, rnB, rnN, rn, lk, St.over, ded, delL, keepT, menT, menSs, menS, menCs, menC, hasN, resT, SV.cells]; refine wk3 ?_; (focus ((try refine nrmO ?_); (repeat' (first | exact True.intro | refine And.intro ?_ ?_)); all_goals (try (intro (hg_ : _ = true); (try simp only [isNilI, inB, reduceCtorEq, cds] at hg_); (repeat' (first | exact True.intro | refine And.intro ?_ ?_)))); all_goals (first | exact ob1 | exact rfl | skip))))
  rotate_right
  intro i hi_ hiI_
  dsimp only [rnCap, capSVs, Int.toNat_natCast, ro, Nat.reduceAdd, Nat.reduceMul, Nat.zero_add, List.map, putT, app, wrapG, gOb, argT, keys, slotOf, dropped, gAnd, wB, rnT, rnS, rnC, rnCs, rnSs, rnM, rnB, rnN, rn, lk, St.over, ded, delL, keepT, menT, menSs, menS, menCs, menC, hasN, resT, SV.cells]
  repeat' (refine ar_id ?_; first | refine st1 ?_ | (first | ((first | refine ar_region (id := 5) tt_ok (inps := [.elem (eIntS (f.Cells.getD i []))]) rfl ?_ ?_ | refine ar_region (id := 6) tt_ok (inps := [.elem (Tr.eB (f.Used.getD i false)), .call (c_frameOk (f.Cells.getD i []) (f.Used.getD i false))]) rfl ?_ ?_ | refine ar_region tt_ok (inps := []) rfl ?_ ?_); rotate_left; (try dsimp only [c_frameOk]); (try refine nrm ?_); rotate_right) | refine ret3 ?_ | refine end3 ?_) | (refine ar_cond rfl trivial ?_ ?_ <;> intro hc_ <;> (try simp only [isNilI, inB, reduceCtorEq, cds] at hc_) <;> (try (first | contradiction | (exfalso; omega)))) | refine ar_until (And.intro ?_ (wk3 ?_)))
  all_goals (first | refine ar_id ?_ | (try (focus ((try refine nrmO ?_); (repeat' (first | exact True.intro | refine And.intro ?_ ?_)); all_goals (try (intro (hg_ : _ = true); (try simp only [isNilI, inB, reduceCtorEq, cds] at hg_); (repeat' (first | exact True.intro | refine And.intro ?_ ?_)))); all_goals (first | exact ob1 | exact fn_frameOk _ _ (hc _ (getD_in (by omega))) | skip)))))
  · refine bf fun h => hc_ ?_
    have := h.2.2 _ (getD_in (l := f.Cells.zip f.Used) (i := i) (d := ([], false)) (by rw [List.length_zip]; omega))
    rwa [zip_getD (by omega) (by omega)] at this
  · exact all_take (d := ([], false)) hiI_ (by rw [List.length_zip]; omega) (by rw [zip_getD (by omega) (by omega)]; exact hc_)
  · exact bt ⟨by omega, by omega, all_full hiI_ (by rw [List.length_zip]; omega)⟩
def c_Copy5I (f : GFrames) : CFD := ⟨106, [.agg [ro 33 1 eIntS f.Cells, ro 4 1 Tr.eB f.Used]], [], .sv (.agg [.hd 0, .hd 1]),
  [(0, some (.row 33 1 (f.Cells.map eIntS))), (1, some (.row 4 1 (f.Used.map Tr.eB)))], [0, 1], []⟩
theorem fn_Copy5I (f : GFrames) (hl : f.Cells.length ≤ 1048576) (hu : f.Used.length ≤ 1048576) (hc : ∀ r ∈ f.Cells, r.length ≤ 1048576) : Fn Tryd.prog (c_Copy5I f) := by
  refine fn_intro tt_ok Tryd.func106 rfl Tryd.call106 Tryd.ntmps106 Tryd.results106 rfl rfl rfl rfl ?_
  intro X ρ0 hb_ hgl_
  dsimp only [c_Copy5I]
  try refine nrm ?_
  repeat' (refine ar_id ?_; first | refine st1 ?_ | (first | ((first | refine ar_region tt_ok (inps := []) rfl ?_ ?_); rotate_left; (try refine nrm ?_); rotate_right) | refine ret3 ?_ | refine end3 ?_) | (refine ar_cond rfl trivial ?_ ?_ <;> intro hc_ <;> (try simp only [isNilI, inB, reduceCtorEq, cds] at hc_) <;> (try (first | contradiction | (exfalso; omega)))) | refine ar_until (And.intro ?_ (wk3 ?_)))
  all_goals (first | refine ar_id ?_ | (try (focus ((try refine nrmO ?_); (repeat' (first | exact True.intro | refine And.intro ?_ ?_)); all_goals (try (intro (hg_ : _ = true); (try simp only [isNilI, inB, reduceCtorEq, cds] at hg_); (repeat' (first | exact True.intro | refine And.intro ?_ ?_)))); all_goals (first | exact ob1 | skip)))))
  refine ar_keep 3103 (by dsimp only [keepS] <;> exact rfl) ?_
  refine ar_forM (f.Cells.length) (fun i => True) (fun i => [(11, (TV.sv (.one (.lit (.int .i64 (i)))))), (3, (TV.sv (.one (.hd 8))))]) (fun i => [(8, some (.row 33 1 ((f.Cells.take i).map eIntS ++ List.replicate (f.Cells.length - i) (dOf [.slice none 0 0]))))]) ?_ ?_ ?_
  rotate_left
  · first | trivial | simp
  (dsimp only [rnCap, capSVs, Int.toNat_natCast, ro, Nat.reduceAdd, Nat.reduceMul, Nat.zero_add, List.map, putT, app, wrapG, gOb, argT, keys, slotOf, dropped, gAnd, wB, rnT, rnS, rnC, rnCs, rnSs, rnM, rnB, rnN, rn, lk, St.over, ded, delL, keepT, menT, menSs, menS, menCs, menC, hasN, resT, SV.cells]; refine wk3 ?_; (focus ((try refine nrmO ?_); (repeat' (first | exact True.intro | refine And.intro ?_ ?_)); all_goals (try (intro (hg_ : _ = true); (try simp only [isNilI, inB, reduceCtorEq, cds] at hg_); (repeat' (first | exact True.intro | refine And.intro ?_ ?_)))); all_goals (first | exact ob1 | exact rfl | skip))))
  rotate_right
  intro i hi_ hiI_
  dsimp only [rnCap, capSVs, Int.toNat_natCast, ro, Nat.reduceAdd, Nat.reduceMul, Nat.zero_add, List.map, putT, app, wrapG, gOb, argT, keys, slotOf, dropped, gAnd, wB, rnT, rnS, rnC, rnCs, rnSs, rnM, rnB, rnN, rn, lk, St.over, ded, delL, keepT, menT, menSs, menS, menCs, menC, hasN, resT, SV.cells]
  repeat' (refine ar_id ?_; first | refine st1 ?_ | (first | ((first | refine ar_region (id := 5) tt_ok (inps := [.elem (eIntS (f.Cells.getD i [])), .elem (dOf [.slice none 0 0])]) rfl ?_ ?_ | refine ar_region tt_ok (inps := []) rfl ?_ ?_); rotate_left; (try refine nrm ?_); rotate_right) | refine ret3 ?_ | refine end3 ?_) | (refine ar_cond rfl trivial ?_ ?_ <;> intro hc_ <;> (try simp only [isNilI, inB, reduceCtorEq, cds] at hc_) <;> (try (first | contradiction | (exfalso; omega)))) | refine ar_until (And.intro ?_ (wk3 ?_)))
  all_goals (first | refine ar_id ?_ | (try (focus ((try refine nrmO ?_); (repeat' (first | exact True.intro | refine And.intro ?_ ?_)); all_goals (try (intro (hg_ : _ = true); (try simp only [isNilI, inB, reduceCtorEq, cds] at hg_); (repeat' (first | exact True.intro | refine And.intro ?_ ?_)))); all_goals (first | exact ob1 | skip)))))
  · have := hc _ (getD_in (l := f.Cells) (i := i) (d := []) (by omega)); simp only [List.length_map]; omega
  · rw [Int.toNat_natCast]; exact fill_at _ _ _ (by omega)
  · have hlen : i < ((f.Cells.take i).map eIntS ++ List.replicate (f.Cells.length - i) (dOf [.slice none 0 0])).length := by rw [fill_len _ _ _ (by omega)]; omega
    refine ar_row 8 (((f.Cells.take i).map eIntS ++ List.replicate (f.Cells.length - i) (dOf [.slice none 0 0])).set i (eIntS (List.replicate (f.Cells.getD i []).length 0))) rfl ((congrArg (List.set _ i) (by show D.row _ _ _ _ _ = D.row _ _ _ _ _; rw [List.map_replicate, List.length_map]; rfl))) ?_
    refine ar_open 8 i 0 90001 90002 (d := eIntS (List.replicate (f.Cells.getD i []).length 0)) ((List.replicate (f.Cells.getD i []).length 0).map eI) rfl ?_ rfl ?_ rfl rfl rfl ?_
    · first | exact map_at (by omega) | assumption | exact set_at (by (try simp only [List.length_map, List.length_set]); omega) | (rw [List.getElem?_set_ne (by omega)]; exact map_at (by omega))
    · exact ⟨rfl, rfl, by intro e he; simp only [List.mem_map] at he; obtain ⟨_, _, rfl⟩ := he; rfl⟩
    intro A_90001 n_90001 c_90001
    try refine nrm ?_
    refine ar_draw (id := 6) (inps := [ .nest (.lit (Value.slice A_90001 n_90001 c_90001) .nil) [(0, 90002)], .elem (eIntS (f.Cells.getD i [])), .elems ((f.Cells.getD i []).map eI)]) tt_ok (by kernel_rfl) rfl rfl (by kernel_rfl) rfl rfl rfl rfl ?_ ?_
    rotate_left
    (try refine nrm ?_)
    refine ar_close 8 i 0 90001 90002 rfl rfl rfl (set_at ?_) rfl rfl rfl ?_
    · (simp only [List.length_map, List.length_set]; omega)
    try refine nrm ?_
    repeat' (refine ar_id ?_; first | refine st1 ?_ | (first | ((first | refine ar_region tt_ok (inps := []) rfl ?_ ?_); rotate_left; (try refine nrm ?_); rotate_right) | refine ret3 ?_ | refine end3 ?_) | (refine ar_cond rfl trivial ?_ ?_ <;> intro hc_ <;> (try simp only [isNilI, inB, reduceCtorEq, cds] at hc_) <;> (try (first | contradiction | (exfalso; omega)))) | refine ar_until (And.intro ?_ (wk3 ?_)))
    all_goals (first | refine ar_id ?_ | (try (focus ((try refine nrmO ?_); (repeat' (first | exact True.intro | refine And.intro ?_ ?_)); all_goals (try (intro (hg_ : _ = true); (try simp only [isNilI, inB, reduceCtorEq, cds] at hg_); (repeat' (first | exact True.intro | refine And.intro ?_ ?_)))); all_goals (first | exact ob1 | skip)))))
    all_goals (try (focus ((try refine nrmO ?_); (repeat' (first | exact True.intro | refine And.intro ?_ ?_)); all_goals (try (intro (hg_ : _ = true); (try simp only [isNilI, inB, reduceCtorEq, cds] at hg_); (repeat' (first | exact True.intro | refine And.intro ?_ ?_)))); all_goals (first | exact ob1 | exact flat_map' (f.Cells.getD i []) (fun x => ⟨rfl, rfl, trivial⟩) | exact (fun d hd => by obtain ⟨_, _, rfl⟩ := List.mem_map.1 hd; exact ⟨rfl, trivial⟩) | skip))))
    · rw [List.set_set, List.set_set]; exact fill_step eIntS f.Cells _ [] (by omega)
    · rw [List.length_map, List.length_map, List.length_replicate]
  · skip
    repeat' (refine ar_id ?_; first | refine st1 ?_ | (first | ((first | refine ar_region (id := 8) tt_ok (inps := [.call (c_CloneB f.Used)]) rfl ?_ ?_ | refine ar_region tt_ok (inps := []) rfl ?_ ?_); rotate_left; (try dsimp only [c_CloneB]); (try refine nrm ?_); rotate_right) | refine ret3 ?_ | refine end3 ?_) | (refine ar_cond rfl trivial ?_ ?_ <;> intro hc_ <;> (try simp only [isNilI, inB, reduceCtorEq, cds] at hc_) <;> (try (first | contradiction | (exfalso; omega)))) | refine ar_until (And.intro ?_ (wk3 ?_)))
    all_goals (first | refine ar_id ?_ | (try (focus ((try refine nrmO ?_); (repeat' (first | exact True.intro | refine And.intro ?_ ?_)); all_goals (try (intro (hg_ : _ = true); (try simp only [isNilI, inB, reduceCtorEq, cds] at hg_); (repeat' (first | exact True.intro | refine And.intro ?_ ?_)))); all_goals (first | exact ob1 | exact fn_CloneB _ hu | skip)))))
    exact fill_end eIntS f.Cells _ (by omega)
end Eng
end Go.Proofs.YtgeakpeodhhffaaDoor
namespace Go.Proofs.YtgeakpeodhhffaaDoor
open Go.RowKit
set_option linter.unusedVariables false
set_option linter.unusedSimpArgs false
set_option maxRecDepth 100000
namespace Eng
open Tr
def c_isMapped (md fr : Int) : CFD := ⟨85, [.agg [(CV.lit (.int .i64 (md))), (CV.lit (.int .i64 (fr)))]], [], (TV.sv (.one (.lit (.bool (md != 0))))), [], [], []⟩
theorem fn_isMapped (md fr : Int) : Fn Tryd.prog (c_isMapped md fr) := by
  refine fn_intro tt_ok Tryd.func85 rfl Tryd.call85 Tryd.ntmps85 Tryd.results85 rfl rfl rfl rfl ?_
  intro X ρ0 hb_ hgl_
  dsimp only [c_isMapped]
  try refine nrm ?_
  repeat' (refine ar_id ?_; first | refine st1 ?_ | (first | ((first | refine ar_region tt_ok (inps := []) rfl ?_ ?_); rotate_left; (try refine nrm ?_); rotate_right) | refine ret3 ?_ | refine end3 ?_) | (refine ar_cond rfl trivial ?_ ?_ <;> intro hc_ <;> (try simp only [isNilI, inB, reduceCtorEq, cds] at hc_) <;> (try (first | contradiction | (exfalso; omega)))) | refine ar_until (And.intro ?_ (wk3 ?_)))
  all_goals (first | refine ar_id ?_ | (try (focus ((try refine nrmO ?_); (repeat' (first | exact True.intro | refine And.intro ?_ ?_)); all_goals (try (intro (hg_ : _ = true); (try simp only [isNilI, inB, reduceCtorEq, cds] at hg_); (repeat' (first | exact True.intro | refine And.intro ?_ ?_)))); all_goals (first | exact ob1 | skip)))))
def okA (md fr : Int) : Prop := (md = 0 ∧ fr = 0) ∨ ((md = 1 ∨ md = 2) ∧ 0 ≤ fr)
instance (md fr : Int) : Decidable (okA md fr) := by unfold okA; infer_instance
def c_entryOk (md fr : Int) : CFD := ⟨109, [.agg [(CV.lit (.int .i64 (md))), (CV.lit (.int .i64 (fr)))]], [], (TV.sv (.one (.lit (.bool (decide (okA md fr)))))), [], [], []⟩
theorem fn_entryOk (md fr : Int) : Fn Tryd.prog (c_entryOk md fr) := by
  refine fn_intro tt_ok Tryd.func109 rfl Tryd.call109 Tryd.ntmps109 Tryd.results109 rfl rfl rfl rfl ?_
  intro X ρ0 hb_ hgl_
  dsimp only [c_entryOk]
  try refine nrm ?_
  repeat' (refine ar_id ?_; first | refine st1 ?_ | (first | ((first | refine ar_region (id := 1) tt_ok (inps := [.call (c_isMapped md fr)]) rfl ?_ ?_ | refine ar_region tt_ok (inps := []) rfl ?_ ?_); rotate_left; (try dsimp only [c_isMapped]); (try refine nrm ?_); rotate_right) | refine ret3 ?_ | refine end3 ?_) | (refine ar_cond rfl trivial ?_ ?_ <;> intro hc_ <;> (try simp only [isNilI, inB, reduceCtorEq, cds] at hc_) <;> (try (first | contradiction | (exfalso; omega)))) | refine ar_until (And.intro ?_ (wk3 ?_)))
  all_goals (first | refine ar_id ?_ | (try (focus ((try refine nrmO ?_); (repeat' (first | exact True.intro | refine And.intro ?_ ?_)); all_goals (try (intro (hg_ : _ = true); (try simp only [isNilI, inB, reduceCtorEq, cds] at hg_); (repeat' (first | exact True.intro | refine And.intro ?_ ?_)))); all_goals (first | exact ob1 | exact fn_isMapped _ _ | skip)))))
  · refine congrArg Value.bool ?_
    subst hc_
    by_cases h : fr = 0
    · subst h; rfl
    · simp [okA, h]
  · refine congrArg Value.bool ?_
    simp only [okA, cond_ite]
    rw [Bool.eq_iff_iff]
    split <;> split <;> simp_all <;> omega
def c_TableOkI (t : GTable) (frames : Int) : CFD := ⟨71, [.agg [ro 51 2 eEntry t.Entries], (SV.one (.lit (.int .i64 (frames))))], [], (TV.sv (.one (.lit (.bool (pTableOk t frames))))), [], [], []⟩
theorem fn_TableOkI (t : GTable) (frames : Int) (hl : t.Entries.length ≤ 1048576) : Fn Tryd.prog (c_TableOkI t frames) := by
  refine fn_intro tt_ok Tryd.func71 rfl Tryd.call71 Tryd.ntmps71 Tryd.results71 rfl rfl rfl rfl ?_
  intro X ρ0 hb_ hgl_
  dsimp only [c_TableOkI]
  try refine nrm ?_
  repeat' (refine ar_id ?_; first | refine st1 ?_ | (first | ((first | refine ar_region tt_ok (inps := []) rfl ?_ ?_); rotate_left; (try refine nrm ?_); rotate_right) | refine ret3 ?_ | refine end3 ?_) | (refine ar_cond rfl trivial ?_ ?_ <;> intro hc_ <;> (try simp only [isNilI, inB, reduceCtorEq, cds] at hc_) <;> (try (first | contradiction | (exfalso; omega)))) | refine ar_until (And.intro ?_ (wk3 ?_)))
  all_goals (first | refine ar_id ?_ | (try (focus ((try refine nrmO ?_); (repeat' (first | exact True.intro | refine And.intro ?_ ?_)); all_goals (try (intro (hg_ : _ = true); (try simp only [isNilI, inB, reduceCtorEq, cds] at hg_); (repeat' (first | exact True.intro | refine And.intro ?_ ?_)))); all_goals (first | exact ob1 | skip)))))
  · exact bf fun h => by have := h.2; omega
  have hlen := hc_
  refine ar_keep 1835095 (by dsimp only [keepS] <;> exact rfl) ?_
  refine ar_forM (t.Entries.length) (fun i => ∀ e ∈ t.Entries.take i, okE frames e) (fun i => [(20, (TV.sv (.one (.lit (.int .i64 (i))))))]) (fun i => []) ?_ ?_ ?_
  rotate_left
  · first | trivial | simp
  (dsimp only [rnCap, capSVs, Int.toNat_natCast, ro, Nat.reduceAdd, Nat.reduceMul, Nat.zero_add, List.map, putT, app, wrapG, gOb, argT, keys, slotOf, dropped, gAnd, wB, rnT, rnS, rnC, rnCs, rnSs, rnM, rnB, rnN, rn, lk, St.over, ded, delL, keepT, menT, menSs, menS, menCs, menC, hasN, resT, SV.cells]; refine wk3 ?_; (focus ((try refine nrmO ?_); (repeat' (first | exact True.intro | refine And.intro ?_ ?_)); all_goals (try (intro (hg_ : _ = true); (try simp only [isNilI, inB, reduceCtorEq, cds] at hg_); (repeat' (first | exact True.intro | refine And.intro ?_ ?_)))); all_goals (first | exact ob1 | exact rfl | skip))))
  rotate_right
  intro i hi_ hiI_
  dsimp only [rnCap, capSVs, Int.toNat_natCast, ro, Nat.reduceAdd, Nat.reduceMul, Nat.zero_add, List.map, putT, app, wrapG, gOb, argT, keys, slotOf, dropped, gAnd, wB, rnT, rnS, rnC, rnCs, rnSs, rnM, rnB, rnN, rn, lk, St.over, ded, delL, keepT, menT, menSs, menS, menCs, menC, hasN, resT, SV.cells]
  repeat' (refine ar_id ?_; first | refine st1 ?_ | (first | ((first | refine ar_region (id := 5) tt_ok (inps := [.elem (eEntry (t.Entries.getD i ⟨0, 0⟩))]) rfl ?_ ?_ | refine ar_region (id := 6) tt_ok (inps := [.call (c_entryOk (t.Entries.getD i ⟨0, 0⟩).Mode (t.Entries.getD i ⟨0, 0⟩).Frame), .call (c_isMapped (t.Entries.getD i ⟨0, 0⟩).Mode (t.Entries.getD i ⟨0, 0⟩).Frame)]) rfl ?_ ?_ | refine ar_region tt_ok (inps := []) rfl ?_ ?_); rotate_left; (try dsimp only [c_entryOk, c_isMapped]); (try refine nrm ?_); rotate_right) | refine ret3 ?_ | refine end3 ?_) | (refine ar_cond rfl trivial ?_ ?_ <;> intro hc_ <;> (try simp only [isNilI, inB, reduceCtorEq, cds] at hc_) <;> (try (first | contradiction | (exfalso; omega)))) | refine ar_until (And.intro ?_ (wk3 ?_)))
  all_goals (first | refine ar_id ?_ | (try (focus ((try refine nrmO ?_); (repeat' (first | exact True.intro | refine And.intro ?_ ?_)); all_goals (try (intro (hg_ : _ = true); (try simp only [isNilI, inB, reduceCtorEq, cds] at hg_); (repeat' (first | exact True.intro | refine And.intro ?_ ?_)))); all_goals (first | exact ob1 | exact fn_entryOk _ _ | exact fn_isMapped _ _ | skip)))))
  · refine bf fun h => ?_
    have := h.1 _ (getD_in (l := t.Entries) (i := i) (d := ⟨0, 0⟩) (by omega))
    unfold okE at this
    unfold okA at hc_
    omega
  · refine all_take (d := ⟨0, 0⟩) hiI_ (by omega) ?_
    unfold okE
    unfold okA at hc_
    omega
  · exact bt ⟨all_full hiI_ (by omega), by omega, by omega⟩
def c_pageExists (t : GTable) (page : Int) : CFD := ⟨118, [.agg [ro 51 2 eEntry t.Entries], (SV.one (.lit (.int .i64 (page))))], [], (TV.sv (.one (.lit (.bool (decide (0 ≤ page ∧ page < (t.Entries.length : Int))))))), [], [], []⟩
theorem fn_pageExists (t : GTable) (page : Int) (hl : t.Entries.length ≤ 1048576) : Fn Tryd.prog (c_pageExists t page) := by
  refine fn_intro tt_ok Tryd.func118 rfl Tryd.call118 Tryd.ntmps118 Tryd.results118 rfl rfl rfl rfl ?_
  intro X ρ0 hb_ hgl_
  dsimp only [c_pageExists]
  try refine nrm ?_
  repeat' (refine ar_id ?_; first | refine st1 ?_ | (first | ((first | refine ar_region tt_ok (inps := []) rfl ?_ ?_); rotate_left; (try refine nrm ?_); rotate_right) | refine ret3 ?_ | refine end3 ?_) | (refine ar_cond rfl trivial ?_ ?_ <;> intro hc_ <;> (try simp only [isNilI, inB, reduceCtorEq, cds] at hc_) <;> (try (first | contradiction | (exfalso; omega)))) | refine ar_until (And.intro ?_ (wk3 ?_)))
  all_goals (first | refine ar_id ?_ | (try (focus ((try refine nrmO ?_); (repeat' (first | exact True.intro | refine And.intro ?_ ?_)); all_goals (try (intro (hg_ : _ = true); (try simp only [isNilI, inB, reduceCtorEq, cds] at hg_); (repeat' (first | exact True.intro | refine And.intro ?_ ?_)))); all_goals (first | exact ob1 | skip)))))
  refine congrArg Value.bool ?_
  rw [cond_ite, Bool.eq_iff_iff]
  split <;> simp_all <;> omega
def c_PageEntryI (t : GTable) (page : Int) : CFD := ⟨82, [.agg [ro 51 2 eEntry t.Entries], (SV.one (.lit (.int .i64 (page))))], [], .sv (.agg [(CV.lit (.int .i64 ((pPageEntry t page).Mode))), (CV.lit (.int .i64 ((pPageEntry t page).Frame)))]), [], [], []⟩
theorem fn_PageEntryI (t : GTable) (page : Int) (hl : t.Entries.length ≤ 1048576) : Fn Tryd.prog (c_PageEntryI t page) := by
  refine fn_intro tt_ok Tryd.func82 rfl Tryd.call82 Tryd.ntmps82 Tryd.results82 rfl rfl rfl rfl ?_
  intro X ρ0 hb_ hgl_
  dsimp only [c_PageEntryI]
  try refine nrm ?_
  repeat' (refine ar_id ?_; first | refine st1 ?_ | (first | ((first | refine ar_region (id := 1) tt_ok (inps := [.call (c_pageExists t page)]) rfl ?_ ?_ | refine ar_region (id := 3) tt_ok (inps := [.elem (eEntry (t.Entries.getD page.toNat ⟨0, 0⟩))]) rfl ?_ ?_ | refine ar_region tt_ok (inps := []) rfl ?_ ?_); rotate_left; (try dsimp only [c_pageExists]); (try refine nrm ?_); rotate_right) | refine ret3 ?_ | refine end3 ?_) | (refine ar_cond rfl trivial ?_ ?_ <;> intro hc_ <;> (try simp only [isNilI, inB, reduceCtorEq, cds] at hc_) <;> (try (first | contradiction | (exfalso; omega)))) | refine ar_until (And.intro ?_ (wk3 ?_)))
  all_goals (first | refine ar_id ?_ | (try (focus ((try refine nrmO ?_); (repeat' (first | exact True.intro | refine And.intro ?_ ?_)); all_goals (try (intro (hg_ : _ = true); (try simp only [isNilI, inB, reduceCtorEq, cds] at hg_); (repeat' (first | exact True.intro | refine And.intro ?_ ?_)))); all_goals (first | exact ob1 | exact fn_pageExists _ _ hl | skip)))))
  all_goals unfold pPageEntry
  · rw [if_neg hc_]
  · rw [if_neg hc_]
  · rw [if_pos hc_]
  · rw [if_pos hc_]
end Eng
end Go.Proofs.YtgeakpeodhhffaaDoor
namespace Go.Proofs.YtgeakpeodhhffaaDoor
open Go Go.Conc
set_option linter.unusedVariables false
set_option linter.unusedSimpArgs false
namespace Co
def EvR (e : Event) : Prop := (∀ m, e.loc = .mark m → Neutral m) ∧ e.write = false
theorem EvR.toP {Pt : Nat → Prop} {e : Event} (h : EvR e) : EvP Pt e := ⟨h.1, fun hw => by rw [h.2] at hw; cases hw⟩
/-- a step that leaves the world as0 it is -/
def DQ (w w' : World) (es : Array Event) : Prop := w' = w ∧ ∀ e ∈ es, EvR e
/-- at the return -/
def Leave (P : Program) (f : FuncId) (v : Value) (cs : List Frame) (g : Goroutine) (_ : World) : Prop :=
  ∃ fr fn, g = G fr cs ∧ fr.fn = f ∧ fr.mode = .returning ∧ fr.defers = [] ∧ fr.kind = .normal ∧ P.funcs[f]? = some fn ∧ ∀ w₁, (results fn fr.tmps).run P w₁ = .ok v w₁
theorem goes_run {P : Program} {H Pt : Nat → Prop} (M : Sys P H Pt) {S : World → Prop} (hS : ∀ w w₁, Aside H w w₁ → S w → S w₁) {Stop : Goroutine → World → Prop} (hst : ∀ g w, S w → Stop g w → M.Run g w) : ∀ (n : Nat) (g : Goroutine) (w : World), S w → Goes P true (fun _ w₁ => S w₁) DQ Stop n g w → M.Run g w
  | 0, g, w, hw, h => hst g w hw (h w hw)
  | n + 1, g, w, hw, h => by
    rcases h with h | ⟨hs, h⟩
    · exact hst g w hw (h w hw)
    · refine M.step hs fun w₁ h₁ => ?_
      have hw₁ := hS _ _ (M.sub h₁) hw
      obtain ⟨g', w', es, e, ⟨rfl, hes⟩, h'⟩ := goes_elim (h w₁ hw₁)
      exact ⟨g', w', es, e, fun _ => ⟨fun _ _ => rfl, fun ev hev => (hes ev hev).toP⟩, goes_run M hS hst n g' w' hw₁ h'⟩
/-- the function, alone or in company -/
def StillG (P : Program) (f : FuncId) (args : Array Value) (S : World → Prop) (v : Value) : Prop := ∀ cs w, ∃ n, Goes P true (fun _ w₁ => S w₁) DQ (Leave P f v cs) n (G (Frame.enter P f args .normal) cs) w
theorem calls_still {P : Program} {H Pt : Nat → Prop} {f : FuncId} {args : Array Value} {S : World → Prop} {v : Value} {w : World} {R : Ending → World → Prop} (h : StillG P f args S v) (hS : ∀ w w₁, Aside H w w₁ → S w → S w₁) (hw : S w) (hR : ∀ w₁, Aside H w w₁ → R (.returned v) w₁) : CallsK P H Pt f args w R := by
  intro M cs hc
  obtain ⟨n, hn⟩ := h cs w
  let S' : World → Prop := fun w₁ => Aside H w w₁ ∧ S w₁
  have hn' : ∀ (n : Nat) (g : Goroutine) (w : World), Goes P true (fun _ w₁ => S w₁) DQ (Leave P f v cs) n g w → Goes P true (fun _ w₁ => S' w₁) DQ (Leave P f v cs) n g w := by
    intro n
    induction n with
    | zero => exact fun g w h w₁ h₁ => h w₁ h₁.2
    | succ n ih =>
      intro g w h
      rcases h with h | ⟨hs, h⟩
      · exact .inl fun w₁ h₁ => h w₁ h₁.2
      · refine .inr ⟨hs, fun w₁ h₁ => ?_⟩
        have := h w₁ h₁.2
        revert this
        cases stepG P true g w₁ <;> simp only [GStep.goes, imp_self]
        exact fun ⟨d, x⟩ => ⟨d, ih _ _ x⟩
  refine goes_run M (S := S') (fun w1 w2 h12 h => ⟨h.1.trans h12, hS _ _ h12 h.2⟩) (fun g w1 hS1 hst => ?_) n _ w ⟨Aside.refl _ _, hw⟩ (hn' n _ w hn)
  obtain ⟨fr, fn, rfl, h1, h2, h3, h4, h5, h6⟩ := hst
  exact hc fr w1 h1 ⟨h2, h3, h4, fn, by rw [h1]; exact h5, fun w₁ hr => ⟨v, h6 w₁, hR w₁ (hS1.1.trans (M.sub hr))⟩⟩
end Co
end Go.Proofs.YtgeakpeodhhffaaDoor
namespace Go.Proofs.YtgeakpeodhhffaaDoor
open Go.RowKit Go.Extern.Stop Go.Stop Go.Extern Go.Conc
set_option linter.unusedVariables false
set_option linter.unusedSimpArgs false
namespace Co
theorem noE {e : Event} {p : Prop} (h : e ∈ (#[] : Array Event)) : p := by simp at h
/-- it reads, or says which entry it has come to -/
def EvX (e : Event) : Prop := EvR e ∨ ∃ f, e.loc = .mark (.extern f)
def okX (e : Event) : Bool := match e.loc with | .mark (.extern _) => true | .mark _ => false | _ => !e.write
theorem evX_of {e : Event} (h : okX e = true) : EvX e := by
  unfold okX at h
  split at h
  · rename_i f hf; exact .inr ⟨f, hf⟩
  · cases h
  · rename_i h1 h2
    exact .inl ⟨fun m hm => absurd hm (h2 m), by simpa using h⟩
theorem evsX {es : Array Event} (h : es.all okX = true) : ∀ e ∈ es, EvX e := fun e he => evX_of (Array.all_eq_true'.1 h e he)
theorem seen_fold_ne (quiet : FuncId → Bool) : ∀ (l : List Event) (q : Bool) (kept : Array Event), (∀ e ∈ kept, ∀ f, e.loc ≠ .mark (.extern f)) → ∀ e ∈ (l.foldl (seenStep quiet) (q, kept)).2, ∀ f, e.loc ≠ .mark (.extern f) := by
  intro l
  induction l with
  | nil => exact fun _ _ h => h
  | cons a l ih =>
    intro q kept hk e h
    simp only [List.foldl_cons, seenStep] at h
    split at h
    · exact ih _ _ hk e h
    · rename_i hne
      refine ih _ _ ?_ e h
      split
      · exact hk
      · intro e he
        rcases Array.mem_push.1 he with h | rfl
        · exact hk e h
        · exact fun f hf => hne f hf
theorem listed_R {P : Program} {fn : FuncId} {a : Act} {o : Oper} {w : World} (h : ∀ e ∈ (execOp a.eval o).events P w #[], EvX e) : ∀ e ∈ listed P fn a o w, EvR e := by
  intro e he
  rcases h e (mem_listed he) with h | ⟨f, hf⟩
  · exact h
  · unfold listed at he
    rw [seen_def] at he
    exact absurd hf (seen_fold_ne _ _ _ #[] (by simp) e he f)
section
variable {P : Program} {S : World → Prop} {Stop : Goroutine → World → Prop} {n : Nat} {b : Frame} {a a' : Act} {k : List Item} {cs : List Frame} {ops : Array Oper} {i : Nat} {rest : List Nat} {o : Oper} {w : World} {v : Value}
theorem op_q (ho : ops[i]? = some o) (hw : Region.wanted o (yielded ops a.tmps) = true) (hk : b.kind ≠ .early) (hr : ∀ w₁, S w₁ → (execOp a.eval o).run P w₁ = .ok (.value v) w₁) (he : ∀ w₁, S w₁ → ∀ e ∈ (execOp a.eval o).events P w₁ #[], EvX e) (ha : a.put o.dst v = a')
    (h : ∀ w₁, Goes P true (fun _ w₁ => S w₁) DQ Stop n (G (b.at a' (.inRegion ops rest :: k)) cs) w₁) : Goes P true (fun _ w₁ => S w₁) DQ Stop (n + 1) (G (b.at a (.inRegion ops (i :: rest) :: k)) cs) w := by
  subst ha
  refine Goes.step rfl fun w₁ h₁ => ?_
  rw [stepG_value ho hw hk (hr w₁ h₁)]
  exact ⟨⟨rfl, listed_R (he w₁ h₁)⟩, h w₁⟩
theorem enter_q {f : FuncId} {args : Array Value} (ho : ops[i]? = some o) (hw : Region.wanted o (yielded ops a.tmps) = true) (hk : b.kind ≠ .early) (hr : ∀ w₁, S w₁ → (execOp a.eval o).run P w₁ = .ok (.enter f args) w₁) (he : ∀ w₁, S w₁ → ∀ e ∈ (execOp a.eval o).events P w₁ #[], EvX e)
    (h : ∀ w₁, Goes P true (fun _ w₁ => S w₁) DQ Stop n (G (Frame.enter P f args .normal) (b.at a (.inRegion ops (i :: rest) :: k) :: cs)) w₁) : Goes P true (fun _ w₁ => S w₁) DQ Stop (n + 1) (G (b.at a (.inRegion ops (i :: rest) :: k)) cs) w := by
  refine Goes.step rfl fun w₁ h₁ => ?_
  rw [stepG_enter ho hw hk (hr w₁ h₁)]
  exact ⟨⟨rfl, listed_R (he w₁ h₁)⟩, h w₁⟩
theorem ret_q (h : ∀ todo w₁, Goes P true (fun _ w₁ => S w₁) DQ Stop n (G { b.at a todo with mode := .returning } cs) w₁) : Goes P true (fun _ w₁ => S w₁) DQ Stop (n + 1) (G (b.at a (.code .ret :: k)) cs) w := by
  refine Goes.step rfl fun w₁ h₁ => ?_
  rw [stepG_ret']
  exact ⟨⟨rfl, by simp⟩, h _ w₁⟩
theorem leave_q {b₀ : Frame} {a₀ : Act} {fn : Func} {todo : List Item} (hn : b.kind = .normal) (hd : a.defers = []) (hf : P.funcs[b.fn]? = some fn) (hr : ∀ w₁, (results fn a.tmps).run P w₁ = .ok v w₁) (he : ∀ w₁, (results fn a.tmps).events P w₁ #[] = #[]) (ha : a₀.put ((ops[i]?).bind (·.dst)) v = a')
    (h : ∀ w₁, Goes P true (fun _ w₁ => S w₁) DQ Stop n (G (b₀.at a' (.inRegion ops rest :: k)) cs) w₁) : Goes P true (fun _ w₁ => S w₁) DQ Stop (n + 1) (G { b.at a todo with mode := .returning } (b₀.at a₀ (.inRegion ops (i :: rest) :: k) :: cs)) w := by
  subst ha
  refine Goes.step rfl fun w₁ h₁ => ?_
  rw [stepG_leave hn hd hf (hr w₁) (he w₁), Frame.finish_at]
  exact ⟨⟨rfl, by simp⟩, h w₁⟩
end
end Co
namespace IsG
open Co
theorem bin_run {P : Program} {s : Sem Value} {v : Value} {w : World} (h : s.run P w = .ok v w) : (do pure (.value (← s)) : Sem Next).run P w = .ok (.value v) w := by simp [Sem.run_bind, h]
theorem bin_ev {P : Program} {s : Sem Value} {w : World} (h : ∀ e ∈ s.events P w #[], EvX e) : ∀ e ∈ (do pure (.value (← s)) : Sem Next).events P w #[], EvX e := by
  have : (do pure (.value (← s)) : Sem Next).events P w #[] = s.events P w #[] := by
    rw [Sem.events_bind]
    cases s.run P w <;> rfl
  rw [this]; exact h
theorem lit22 (X Y : Value) : #[X, Y] ++ Array.replicate 20 undef = #[X, Y, undef, undef, undef, undef, undef, undef, undef, undef, undef, undef, undef, undef, undef, undef, undef, undef, undef, undef, undef, undef] := by
  apply Array.toList_inj.1
  simp [List.replicate]
theorem lit54 (X Y Z : Value) : #[X, Y, Z] ++ Array.replicate 51 undef = #[X, Y, Z, undef, undef, undef, undef, undef, undef, undef, undef, undef, undef, undef, undef, undef, undef, undef, undef, undef, undef, undef, undef, undef, undef, undef, undef, undef, undef, undef, undef, undef, undef, undef, undef, undef, undef, undef, undef, undef, undef, undef, undef, undef, undef, undef, undef, undef, undef, undef, undef, undef, undef, undef] := by
  apply Array.toList_inj.1
  simp [List.replicate]
theorem typeOf (v : Value) (w : World) : (Extern.ReflectliteType.typeOf #[.iface 188 v]).run Tryd.prog w = .ok (.iface 178 (.agg #[.pointer (some ⟨5, 188, none⟩)])) w := by kernel_rfl
theorem comparable (w : World) : (callFunc 164 #[.agg #[.pointer (some ⟨5, 188, none⟩)]]).run Tryd.prog w = .ok (.value (.bool true)) w := by kernel_rfl
set_option maxRecDepth 100000 in
set_option maxHeartbeats 2000000 in
theorem same (a : Addr) : StillG Tryd.prog 134 #[.iface 188 (.pointer (some a)), .iface 188 (.pointer (some a))] (fun _ => True) (.bool true) := by
  intro cs w
  obtain ⟨i, hi, hcmp⟩ := Option.map_eq_some_iff.1 (show (Tryd.prog.info? 188).map (·.comparable) = some true by kernel_rfl)
  obtain ⟨j, hj, hjs⟩ := Option.map_eq_some_iff.1 (show (Tryd.prog.info? 215).map (·.size) = some 1 by kernel_rfl)
  have h8 := @run_callFunc_extern Tryd.prog 143 _ Extern.ReflectliteType.typeOf Tryd.func143 (by kernel_rfl) (by kernel_rfl) (by kernel_rfl) (by kernel_rfl)
  have heq := fun w => run_eql_iface_ptr_same (P := Tryd.prog) w a Tryd.underlying141 Tryd.underlying188 hi hcmp hj
  have eqE : ∀ w₁ : World, ∀ e ∈ (binOp .eql 141 (Value.iface 188 (.pointer (some a))) (Value.iface 188 (.pointer (some a)))).events Tryd.prog w₁ #[], EvX e := fun w₁ e he => by
    have ht : Tame Tryd.prog (fun _ => False) (binOp .eql 141 (Value.iface 188 (.pointer (some a))) (Value.iface 188 (.pointer (some a)))) := tbinEql _ _ _ (by simp) (by simp) (by simp) (by simp)
    rcases (tame_run _ ht w₁ #[] (fun _ h => h.elim) _ _ (heq w₁)).1 e he with h | h
    · simp at h
    · refine .inl ⟨h.1, ?_⟩
      cases hw : e.write with
      | false => rfl
      | true => obtain ⟨_, _, hb⟩ := h.2 hw; exact hb.elim
  refine ⟨100, ?_⟩
  rw [show Frame.enter Tryd.prog 134 #[(Value.iface 188 (.pointer (some a))), (Value.iface 188 (.pointer (some a)))] .normal = (base 134).at ⟨#[(Value.iface 188 (.pointer (some a))), (Value.iface 188 (.pointer (some a))), undef, undef, undef, undef, undef, undef, undef, undef, undef, undef, undef, undef, undef, undef, undef, undef, undef, undef, undef, undef], []⟩ [.code (Tryd.f134.body.getD .skip)] from (enter_at #[(Value.iface 188 (.pointer (some a))), (Value.iface 188 (.pointer (some a)))] Tryd.func134 rfl).trans (by rw [← lit22]; rfl)]
  simp only [Tryd.f134, Option.getD_some]
  b_ctl
  b_ctl
  refine op_q (v := .bool false) (a' := ⟨#[(Value.iface 188 (.pointer (some a))), (Value.iface 188 (.pointer (some a))), undef, undef, .bool false, undef, undef, undef, undef, undef, undef, undef, undef, undef, undef, undef, undef, undef, undef, undef, undef, undef], []⟩) rfl rfl (by decide) (fun _ _ => rfl) (fun _ _ _ h => noE h) rfl (fun _ => ?_)
  b_ctl
  b_ctl
  b_ctl
  b_ctl
  refine op_q (v := (Value.iface 188 (.pointer (some a)))) (a' := ⟨#[(Value.iface 188 (.pointer (some a))), (Value.iface 188 (.pointer (some a))), undef, undef, .bool false, undef, (Value.iface 188 (.pointer (some a))), undef, undef, undef, undef, undef, undef, undef, undef, undef, undef, undef, undef, undef, undef, undef], []⟩) rfl rfl (by decide) (fun _ _ => rfl) (fun _ _ _ h => noE h) rfl (fun _ => ?_)
  refine op_q (v := .bool false) (a' := ⟨#[(Value.iface 188 (.pointer (some a))), (Value.iface 188 (.pointer (some a))), undef, undef, .bool false, undef, (Value.iface 188 (.pointer (some a))), .bool false, undef, undef, undef, undef, undef, undef, undef, undef, undef, undef, undef, undef, undef, undef], []⟩) rfl rfl (by decide) (fun w₁ _ => by kernel_rfl) (fun w₁ _ => evsX (by kernel_rfl)) rfl (fun _ => ?_)
  refine op_q (v := .bool false) (a' := ⟨#[(Value.iface 188 (.pointer (some a))), (Value.iface 188 (.pointer (some a))), undef, undef, .bool false, undef, (Value.iface 188 (.pointer (some a))), .bool false, .bool false, undef, undef, undef, undef, undef, undef, undef, undef, undef, undef, undef, undef, undef], []⟩) rfl rfl (by decide) (fun _ _ => rfl) (fun _ _ _ h => noE h) rfl (fun _ => ?_)
  refine op_q (v := (Value.iface 188 (.pointer (some a)))) (a' := ⟨#[(Value.iface 188 (.pointer (some a))), (Value.iface 188 (.pointer (some a))), undef, undef, .bool false, undef, (Value.iface 188 (.pointer (some a))), .bool false, .bool false, (Value.iface 188 (.pointer (some a))), undef, undef, undef, undef, undef, undef, undef, undef, undef, undef, undef, undef], []⟩) rfl rfl (by decide) (fun _ _ => rfl) (fun _ _ _ h => noE h) rfl (fun _ => ?_)
  refine op_q (v := .bool false) (a' := ⟨#[(Value.iface 188 (.pointer (some a))), (Value.iface 188 (.pointer (some a))), undef, undef, .bool false, undef, (Value.iface 188 (.pointer (some a))), .bool false, .bool false, (Value.iface 188 (.pointer (some a))), .bool false, undef, undef, undef, undef, undef, undef, undef, undef, undef, undef, undef], []⟩) rfl rfl (by decide) (fun w₁ _ => by kernel_rfl) (fun w₁ _ => evsX (by kernel_rfl)) rfl (fun _ => ?_)
  refine op_q (v := .bool false) (a' := ⟨#[(Value.iface 188 (.pointer (some a))), (Value.iface 188 (.pointer (some a))), undef, undef, .bool false, undef, (Value.iface 188 (.pointer (some a))), .bool false, .bool false, (Value.iface 188 (.pointer (some a))), .bool false, .bool false, undef, undef, undef, undef, undef, undef, undef, undef, undef, undef], []⟩) rfl rfl (by decide) (fun _ _ => rfl) (fun _ _ _ h => noE h) rfl (fun _ => ?_)
  b_ctl
  b_cond false
  b_ctl
  b_ctl
  b_ctl
  refine op_q (v := (Value.iface 188 (.pointer (some a)))) (a' := ⟨#[(Value.iface 188 (.pointer (some a))), (Value.iface 188 (.pointer (some a))), undef, undef, .bool false, undef, (Value.iface 188 (.pointer (some a))), .bool false, .bool false, (Value.iface 188 (.pointer (some a))), .bool false, .bool false, undef, undef, undef, (Value.iface 188 (.pointer (some a))), undef, undef, undef, undef, undef, undef], []⟩) rfl rfl (by decide) (fun _ _ => rfl) (fun _ _ _ h => noE h) rfl (fun _ => ?_)
  refine op_q (v := (Value.iface 178 (.agg #[.pointer (some ⟨5, 188, none⟩)]))) (a' := ⟨#[(Value.iface 188 (.pointer (some a))), (Value.iface 188 (.pointer (some a))), undef, undef, .bool false, undef, (Value.iface 188 (.pointer (some a))), .bool false, .bool false, (Value.iface 188 (.pointer (some a))), .bool false, .bool false, undef, undef, undef, (Value.iface 188 (.pointer (some a))), (Value.iface 178 (.agg #[.pointer (some ⟨5, 188, none⟩)])), undef, undef, undef, undef, undef], []⟩) rfl rfl (by decide) (fun w₁ _ => by kernel_rfl) (fun w₁ _ => evsX (by kernel_rfl)) rfl (fun _ => ?_)
  refine op_q (v := .bool true) (a' := ⟨#[(Value.iface 188 (.pointer (some a))), (Value.iface 188 (.pointer (some a))), undef, undef, .bool false, undef, (Value.iface 188 (.pointer (some a))), .bool false, .bool false, (Value.iface 188 (.pointer (some a))), .bool false, .bool false, undef, undef, undef, (Value.iface 188 (.pointer (some a))), (Value.iface 178 (.agg #[.pointer (some ⟨5, 188, none⟩)])), .bool true, undef, undef, undef, undef], []⟩) rfl rfl (by decide) (fun w₁ _ => by kernel_rfl) (fun w₁ _ => evsX (by kernel_rfl)) rfl (fun _ => ?_)
  refine op_q (v := .bool true) (a' := ⟨#[(Value.iface 188 (.pointer (some a))), (Value.iface 188 (.pointer (some a))), undef, undef, .bool false, .bool true, (Value.iface 188 (.pointer (some a))), .bool false, .bool false, (Value.iface 188 (.pointer (some a))), .bool false, .bool false, undef, undef, undef, (Value.iface 188 (.pointer (some a))), (Value.iface 178 (.agg #[.pointer (some ⟨5, 188, none⟩)])), .bool true, undef, undef, undef, undef], []⟩) rfl rfl (by decide) (fun _ _ => rfl) (fun _ _ _ h => noE h) rfl (fun _ => ?_)
  b_ctl
  b_ctl
  b_ctl
  refine op_q (v := (Value.iface 188 (.pointer (some a)))) (a' := ⟨#[(Value.iface 188 (.pointer (some a))), (Value.iface 188 (.pointer (some a))), undef, undef, .bool false, .bool true, (Value.iface 188 (.pointer (some a))), .bool false, .bool false, (Value.iface 188 (.pointer (some a))), .bool false, .bool false, undef, undef, undef, (Value.iface 188 (.pointer (some a))), (Value.iface 178 (.agg #[.pointer (some ⟨5, 188, none⟩)])), .bool true, (Value.iface 188 (.pointer (some a))), undef, undef, undef], []⟩) rfl rfl (by decide) (fun _ _ => rfl) (fun _ _ _ h => noE h) rfl (fun _ => ?_)
  refine op_q (v := (Value.iface 188 (.pointer (some a)))) (a' := ⟨#[(Value.iface 188 (.pointer (some a))), (Value.iface 188 (.pointer (some a))), undef, undef, .bool false, .bool true, (Value.iface 188 (.pointer (some a))), .bool false, .bool false, (Value.iface 188 (.pointer (some a))), .bool false, .bool false, undef, undef, undef, (Value.iface 188 (.pointer (some a))), (Value.iface 178 (.agg #[.pointer (some ⟨5, 188, none⟩)])), .bool true, (Value.iface 188 (.pointer (some a))), (Value.iface 188 (.pointer (some a))), undef, undef], []⟩) rfl rfl (by decide) (fun _ _ => rfl) (fun _ _ _ h => noE h) rfl (fun _ => ?_)
  refine op_q (v := .bool true) (a' := ⟨#[(Value.iface 188 (.pointer (some a))), (Value.iface 188 (.pointer (some a))), undef, undef, .bool false, .bool true, (Value.iface 188 (.pointer (some a))), .bool false, .bool false, (Value.iface 188 (.pointer (some a))), .bool false, .bool false, undef, undef, undef, (Value.iface 188 (.pointer (some a))), (Value.iface 178 (.agg #[.pointer (some ⟨5, 188, none⟩)])), .bool true, (Value.iface 188 (.pointer (some a))), (Value.iface 188 (.pointer (some a))), .bool true, undef], []⟩) rfl rfl (by decide) (fun _ _ => rfl) (fun _ _ _ h => noE h) rfl (fun _ => ?_)
  refine enter_q (f := 144) (args := #[(Value.iface 188 (.pointer (some a))), (Value.iface 188 (.pointer (some a))), .bool true]) rfl rfl (by decide) (fun w₁ _ => by kernel_rfl) (fun w₁ _ => evsX (by kernel_rfl)) (fun _ => ?_)
  rw [show Frame.enter Tryd.prog 144 #[(Value.iface 188 (.pointer (some a))), (Value.iface 188 (.pointer (some a))), .bool true] .normal = (base 144).at ⟨#[(Value.iface 188 (.pointer (some a))), (Value.iface 188 (.pointer (some a))), .bool true, undef, undef, undef, undef, undef, undef, undef, undef, undef, undef, undef, undef, undef, undef, undef, undef, undef, undef, undef, undef, undef, undef, undef, undef, undef, undef, undef, undef, undef, undef, undef, undef, undef, undef, undef, undef, undef, undef, undef, undef, undef, undef, undef, undef, undef, undef, undef, undef, undef, undef, undef], []⟩ [.code (Tryd.f144.body.getD .skip)] from (enter_at #[(Value.iface 188 (.pointer (some a))), (Value.iface 188 (.pointer (some a))), .bool true] Tryd.func144 rfl).trans (by rw [← lit54]; rfl)]
  simp only [Tryd.f144, Option.getD_some]
  b_ctl
  b_ctl
  refine op_q (v := .bool false) (a' := ⟨#[(Value.iface 188 (.pointer (some a))), (Value.iface 188 (.pointer (some a))), .bool true, undef, undef, undef, .bool false, undef, undef, undef, undef, undef, undef, undef, undef, undef, undef, undef, undef, undef, undef, undef, undef, undef, undef, undef, undef, undef, undef, undef, undef, undef, undef, undef, undef, undef, undef, undef, undef, undef, undef, undef, undef, undef, undef, undef, undef, undef, undef, undef, undef, undef, undef, undef], []⟩) rfl rfl (by decide) (fun _ _ => rfl) (fun _ _ _ h => noE h) rfl (fun _ => ?_)
  b_ctl
  b_ctl
  b_ctl
  b_ctl
  b_ctl
  b_ctl
  b_ctl
  refine op_q (v := .bool true) (a' := ⟨#[(Value.iface 188 (.pointer (some a))), (Value.iface 188 (.pointer (some a))), .bool true, undef, undef, undef, .bool false, undef, undef, undef, undef, undef, undef, undef, .bool true, undef, undef, undef, undef, undef, undef, undef, undef, undef, undef, undef, undef, undef, undef, undef, undef, undef, undef, undef, undef, undef, undef, undef, undef, undef, undef, undef, undef, undef, undef, undef, undef, undef, undef, undef, undef, undef, undef, undef], []⟩) rfl rfl (by decide) (fun _ _ => rfl) (fun _ _ _ h => noE h) rfl (fun _ => ?_)
  refine op_q (v := .bool true) (a' := ⟨#[(Value.iface 188 (.pointer (some a))), (Value.iface 188 (.pointer (some a))), .bool true, undef, undef, undef, .bool false, undef, undef, undef, undef, undef, undef, undef, .bool true, .bool true, undef, undef, undef, undef, undef, undef, undef, undef, undef, undef, undef, undef, undef, undef, undef, undef, undef, undef, undef, undef, undef, undef, undef, undef, undef, undef, undef, undef, undef, undef, undef, undef, undef, undef, undef, undef, undef, undef], []⟩) rfl rfl (by decide) (fun _ _ => rfl) (fun _ _ _ h => noE h) rfl (fun _ => ?_)
  refine op_q (v := (Value.iface 188 (.pointer (some a)))) (a' := ⟨#[(Value.iface 188 (.pointer (some a))), (Value.iface 188 (.pointer (some a))), .bool true, undef, undef, undef, .bool false, undef, undef, undef, undef, undef, undef, undef, .bool true, .bool true, (Value.iface 188 (.pointer (some a))), undef, undef, undef, undef, undef, undef, undef, undef, undef, undef, undef, undef, undef, undef, undef, undef, undef, undef, undef, undef, undef, undef, undef, undef, undef, undef, undef, undef, undef, undef, undef, undef, undef, undef, undef, undef, undef], []⟩) rfl rfl (by decide) (fun _ _ => rfl) (fun _ _ _ h => noE h) rfl (fun _ => ?_)
  refine op_q (v := (Value.iface 188 (.pointer (some a)))) (a' := ⟨#[(Value.iface 188 (.pointer (some a))), (Value.iface 188 (.pointer (some a))), .bool true, undef, undef, undef, .bool false, undef, undef, undef, undef, undef, undef, undef, .bool true, .bool true, (Value.iface 188 (.pointer (some a))), (Value.iface 188 (.pointer (some a))), undef, undef, undef, undef, undef, undef, undef, undef, undef, undef, undef, undef, undef, undef, undef, undef, undef, undef, undef, undef, undef, undef, undef, undef, undef, undef, undef, undef, undef, undef, undef, undef, undef, undef, undef, undef], []⟩) rfl rfl (by decide) (fun _ _ => rfl) (fun _ _ _ h => noE h) rfl (fun _ => ?_)
  refine op_q (v := .bool true) (a' := ⟨#[(Value.iface 188 (.pointer (some a))), (Value.iface 188 (.pointer (some a))), .bool true, undef, undef, undef, .bool false, undef, undef, undef, undef, undef, undef, undef, .bool true, .bool true, (Value.iface 188 (.pointer (some a))), (Value.iface 188 (.pointer (some a))), .bool true, undef, undef, undef, undef, undef, undef, undef, undef, undef, undef, undef, undef, undef, undef, undef, undef, undef, undef, undef, undef, undef, undef, undef, undef, undef, undef, undef, undef, undef, undef, undef, undef, undef, undef, undef], []⟩) rfl rfl (by decide) (fun w₁ _ => bin_run (s := binOp .eql 141 (Value.iface 188 (.pointer (some a))) (Value.iface 188 (.pointer (some a)))) (heq w₁)) (fun w₁ _ => bin_ev (s := binOp .eql 141 (Value.iface 188 (.pointer (some a))) (Value.iface 188 (.pointer (some a)))) (eqE w₁)) rfl (fun _ => ?_)
  refine op_q (v := .bool true) (a' := ⟨#[(Value.iface 188 (.pointer (some a))), (Value.iface 188 (.pointer (some a))), .bool true, undef, undef, undef, .bool false, undef, undef, undef, undef, undef, undef, undef, .bool true, .bool true, (Value.iface 188 (.pointer (some a))), (Value.iface 188 (.pointer (some a))), .bool true, .bool true, undef, undef, undef, undef, undef, undef, undef, undef, undef, undef, undef, undef, undef, undef, undef, undef, undef, undef, undef, undef, undef, undef, undef, undef, undef, undef, undef, undef, undef, undef, undef, undef, undef, undef], []⟩) rfl rfl (by decide) (fun _ _ => rfl) (fun _ _ _ h => noE h) rfl (fun _ => ?_)
  b_ctl
  b_cond true
  b_ctl
  b_ctl
  refine op_q (v := .bool true) (a' := ⟨#[(Value.iface 188 (.pointer (some a))), (Value.iface 188 (.pointer (some a))), .bool true, undef, undef, undef, .bool true, undef, undef, undef, undef, undef, undef, undef, .bool true, .bool true, (Value.iface 188 (.pointer (some a))), (Value.iface 188 (.pointer (some a))), .bool true, .bool true, undef, undef, undef, undef, undef, undef, undef, undef, undef, undef, undef, undef, undef, undef, undef, undef, undef, undef, undef, undef, undef, undef, undef, undef, undef, undef, undef, undef, undef, undef, undef, undef, undef, undef], []⟩) rfl rfl (by decide) (fun _ _ => rfl) (fun _ _ _ h => noE h) rfl (fun _ => ?_)
  b_ctl
  refine ret_q (fun _ _ => ?_)
  refine leave_q (v := .bool true) (a' := ⟨#[(Value.iface 188 (.pointer (some a))), (Value.iface 188 (.pointer (some a))), undef, undef, .bool false, .bool true, (Value.iface 188 (.pointer (some a))), .bool false, .bool false, (Value.iface 188 (.pointer (some a))), .bool false, .bool false, undef, undef, undef, (Value.iface 188 (.pointer (some a))), (Value.iface 178 (.agg #[.pointer (some ⟨5, 188, none⟩)])), .bool true, (Value.iface 188 (.pointer (some a))), (Value.iface 188 (.pointer (some a))), .bool true, .bool true], []⟩) rfl rfl Tryd.func144 (fun w₁ => results_tmp (t := 6) rfl _ Tryd.prog w₁) (fun w₁ => events_results_tmp (t := 6) rfl _ _) rfl (fun _ => ?_)
  refine op_q (v := .bool true) (a' := ⟨#[(Value.iface 188 (.pointer (some a))), (Value.iface 188 (.pointer (some a))), undef, undef, .bool true, .bool true, (Value.iface 188 (.pointer (some a))), .bool false, .bool false, (Value.iface 188 (.pointer (some a))), .bool false, .bool false, undef, undef, undef, (Value.iface 188 (.pointer (some a))), (Value.iface 178 (.agg #[.pointer (some ⟨5, 188, none⟩)])), .bool true, (Value.iface 188 (.pointer (some a))), (Value.iface 188 (.pointer (some a))), .bool true, .bool true], []⟩) rfl rfl (by decide) (fun _ _ => rfl) (fun _ _ _ h => noE h) rfl (fun _ => ?_)
  b_ctl
  refine ret_q (fun _ _ => ?_)
  exact Goes.stop fun _ _ => ⟨_, _, rfl, rfl, rfl, rfl, rfl, Tryd.func134, fun w₁ => results_tmp (t := 4) rfl _ Tryd.prog w₁⟩
end IsG
namespace Eng
open Tr
theorem still_mono {P : Program} {f : FuncId} {args : Array Value} {S S' : World → Prop} {v : Value} (h : Co.StillG P f args S v) (hS : ∀ w, S' w → S w) : Co.StillG P f args S' v := by
  intro cs w
  obtain ⟨n, hn⟩ := h cs w
  refine ⟨n, ?_⟩
  have key : ∀ (n : Nat) (g : Goroutine) (w : World), Goes P true (fun _ w₁ => S w₁) Co.DQ (Co.Leave P f v cs) n g w → Goes P true (fun _ w₁ => S' w₁) Co.DQ (Co.Leave P f v cs) n g w := by
    intro n
    induction n with
    | zero => exact fun g w h w₁ h₁ => h w₁ (hS _ h₁)
    | succ n ih =>
      intro g w h
      rcases h with h | ⟨hs, h⟩
      · exact .inl fun w₁ h₁ => h w₁ (hS _ h₁)
      · refine .inr ⟨hs, fun w₁ h₁ => ?_⟩
        have := h w₁ (hS _ h₁)
        revert this
        cases stepG P true g w₁ <;> simp only [GStep.goes, imp_self]
        exact fun ⟨d, x⟩ => ⟨d, ih _ _ x⟩
  exact key n _ w hn
theorem glAll_nh {X : Cx} : ∀ {l : List Glb}, GlAll (GlX X) l → ∀ x ∈ l, ¬ X.H x.g
  | _ :: _, h, x, hx => by
    rw [List.mem_cons] at hx
    rcases hx with rfl | hx
    · exact h.1.nh
    · exact glAll_nh h.2 x hx
/-- a call that leaves the world as0 it is, and whose result is known: alone or in company -/
theorem fn_stillG {P : Program} {f : Nat} {fn : Func} {code : Code} {vs : List Value} {v : Value} {gl : List Glb} {S : World → Prop} (hv : v.oneCell' = true) (hf : P.funcs[f]? = some fn) (hb : fn.body = some code) (hS : ∀ w, (∀ x ∈ gl, w.heap[x.g]? = some (.cells x.cs.toArray x.T x.fz)) → S w) (h : Co.StillG P f vs.toArray S v) (hc : ∀ args w, (callFunc f args).run P w = .ok (.enter f args) w) :
    Fn P ⟨f, vs.map (fun v => .one (.lit v)), [], .sv (.one (.lit v)), [], [], gl⟩ := by
  refine ⟨fun X ρ xs hds hgl hM hk hx => ?_, hc, fun _ args w => by
    unfold callFunc
    simp only [Sem.events_bind, run_program, Result.evThen_ok, events_program, hf, hb, Option.isNone_some, Bool.false_eq_true, if_false]
    split <;> rfl⟩
  obtain rfl := still_args hx
  have h' := still_mono h hS
  refine Co.calls_still h' (fun w w₁ ha hw x hx => (ha.blk _ (glAll_nh hgl x hx)).trans (hw x hx)) (still_gl hgl) (fun w₁ ha => ?_)
  exact ⟨v, ρ, rfl, ⟨rfl, hv⟩, Ext.refl ρ, fun q y hq => .inl (hk q y hq), hM.aside ha, (show WRel X X.w0 from ⟨rfl, rfl, rfl, Nat.le_refl _, fun _ _ _ => rfl⟩).aside ha⟩
end Eng
end Go.Proofs.YtgeakpeodhhffaaDoor
namespace Go.Proofs.YtgeakpeodhhffaaDoor
open Go.RowKit
set_option linter.unusedVariables false
set_option linter.unusedSimpArgs false
set_option maxRecDepth 100000
namespace Eng
open Tr
/-- for each of n frames: a page is mapped to it -/
def fwL (l : List GEntry) (n : Nat) : List Bool := (List.range n).map fun i : Nat => decide (∃ e ∈ l, e.Mode ≠ 0 ∧ e.Frame = (i : Int))
theorem fwL_nil (n : Nat) : fwL [] n = List.replicate n false := by
  unfold fwL
  rw [List.eq_replicate_iff]
  simp
theorem fwL_len (l : List GEntry) (n : Nat) : (fwL l n).length = n := by simp [fwL]
theorem fwL_snoc (l : List GEntry) (e : GEntry) (n : Nat) : fwL (l ++ [e]) n = if e.Mode ≠ 0 ∧ 0 ≤ e.Frame then (fwL l n).set e.Frame.toNat true else fwL l n := by
  refine List.ext_getElem? fun i => ?_
  have h0 : ∀ (l : List GEntry), (fwL l n)[i]? = if i < n then some (decide (∃ e ∈ l, e.Mode ≠ 0 ∧ e.Frame = (i : Int))) else none := by
    intro l
    unfold fwL
    rw [List.getElem?_map]
    split
    · rw [List.getElem?_range (by assumption)]; rfl
    · rw [List.getElem?_eq_none (by simp; omega)]; rfl
  rw [h0]
  by_cases hi : i < n
  · rw [if_pos hi]
    by_cases he : e.Mode ≠ 0 ∧ 0 ≤ e.Frame
    · rw [if_pos he, List.getElem?_set, fwL_len]
      by_cases hf : e.Frame.toNat = i
      · rw [if_pos hf, if_pos (by omega), decide_eq_true ⟨e, by simp, he.1, by omega⟩]
      · rw [if_neg hf, h0, if_pos hi]
        congr 1
        rw [decide_eq_decide]
        constructor
        · rintro ⟨x, hx, h1, h2⟩
          rw [List.mem_append, List.mem_singleton] at hx
          rcases hx with hx | rfl
          · exact ⟨x, hx, h1, h2⟩
          · omega
        · rintro ⟨x, hx, h1, h2⟩; exact ⟨x, by simp [hx], h1, h2⟩
    · rw [if_neg he, h0, if_pos hi]
      congr 1
      rw [decide_eq_decide]
      constructor
      · rintro ⟨x, hx, h1, h2⟩
        rw [List.mem_append, List.mem_singleton] at hx
        rcases hx with hx | rfl
        · exact ⟨x, hx, h1, h2⟩
        · exact absurd ⟨h1, by omega⟩ he
      · rintro ⟨x, hx, h1, h2⟩; exact ⟨x, by simp [hx], h1, h2⟩
  · rw [if_neg hi]
    split
    · rw [List.getElem?_set, fwL_len, h0]
      split <;> (try split) <;> first | rfl | omega
    · rw [h0, if_neg hi]
def c_fwp (t : GTable) (n : Nat) : CFD := ⟨73, [.agg [ro 51 2 eEntry t.Entries], (SV.one (.lit (.int .i64 ((n : Int)))))], [], .sv (.one (.hd 0)), [(0, some (.row 4 1 ((fwL t.Entries n).map Tr.eB)))], [0], []⟩
theorem fn_fwp (t : GTable) (n : Nat) (hl : t.Entries.length ≤ 1048576) (hn : n ≤ 1048576) (hok : ∀ e ∈ t.Entries, okE n e) : Fn Tryd.prog (c_fwp t n) := by
  refine fn_intro tt_ok Tryd.func73 rfl Tryd.call73 Tryd.ntmps73 Tryd.results73 rfl rfl rfl rfl ?_
  intro X ρ0 hb_ hgl_
  dsimp only [c_fwp]
  try refine nrm ?_
  repeat' (refine ar_id ?_; first | refine st1 ?_ | (first | ((first | refine ar_region tt_ok (inps := []) rfl ?_ ?_); rotate_left; (try refine nrm ?_); rotate_right) | refine ret3 ?_ | refine end3 ?_) | (refine ar_cond rfl trivial ?_ ?_ <;> intro hc_ <;> (try simp only [isNilI, inB, reduceCtorEq, cds] at hc_) <;> (try (first | contradiction | (exfalso; omega)))) | refine ar_until (And.intro ?_ (wk3 ?_)))
  all_goals (first | refine ar_id ?_ | (try (focus ((try refine nrmO ?_); (repeat' (first | exact True.intro | refine And.intro ?_ ?_)); all_goals (try (intro (hg_ : _ = true); (try simp only [isNilI, inB, reduceCtorEq, cds] at hg_); (repeat' (first | exact True.intro | refine And.intro ?_ ?_)))); all_goals (first | exact ob1 | skip)))))
  refine ar_keep 14519 (by dsimp only [keepS] <;> exact rfl) ?_
  refine ar_forM (t.Entries.length) (fun i => True) (fun i => [(13, (TV.sv (.one (.lit (.int .i64 (i)))))), (5, (TV.sv (.one (.hd 9))))]) (fun i => [(9, some (.row 4 1 ((fwL (t.Entries.take i) n).map Tr.eB)))]) ?_ ?_ ?_
  rotate_left
  · first | trivial | simp
  (dsimp only [rnCap, capSVs, Int.toNat_natCast, ro, Nat.reduceAdd, Nat.reduceMul, Nat.zero_add, List.map, putT, app, wrapG, gOb, argT, keys, slotOf, dropped, gAnd, wB, rnT, rnS, rnC, rnCs, rnSs, rnM, rnB, rnN, rn, lk, St.over, ded, delL, keepT, menT, menSs, menS, menCs, menC, hasN, resT, SV.cells]; refine wk3 ?_; (focus ((try refine nrmO ?_); (repeat' (first | exact True.intro | refine And.intro ?_ ?_)); all_goals (try (intro (hg_ : _ = true); (try simp only [isNilI, inB, reduceCtorEq, cds] at hg_); (repeat' (first | exact True.intro | refine And.intro ?_ ?_)))); all_goals (first | exact ob1 | exact rfl | skip))))
  rotate_right
  intro i hi_ hiI_
  dsimp only [rnCap, capSVs, Int.toNat_natCast, ro, Nat.reduceAdd, Nat.reduceMul, Nat.zero_add, List.map, putT, app, wrapG, gOb, argT, keys, slotOf, dropped, gAnd, wB, rnT, rnS, rnC, rnCs, rnSs, rnM, rnB, rnN, rn, lk, St.over, ded, delL, keepT, menT, menSs, menS, menCs, menC, hasN, resT, SV.cells]
  repeat' (refine ar_id ?_; first | refine st1 ?_ | (first | ((first | refine ar_region (id := 4) tt_ok (inps := [.elem (eEntry (t.Entries.getD i ⟨0, 0⟩))]) rfl ?_ ?_ | refine ar_region (id := 5) tt_ok (inps := [.call (c_isMapped (t.Entries.getD i ⟨0, 0⟩).Mode (t.Entries.getD i ⟨0, 0⟩).Frame)]) rfl ?_ ?_ | refine ar_region (id := 6) tt_ok (inps := [.elem (Tr.eB ((fwL (t.Entries.take i) n).getD (t.Entries.getD i ⟨0, 0⟩).Frame.toNat false))]) rfl ?_ ?_ | refine ar_region tt_ok (inps := []) rfl ?_ ?_); rotate_left; (try dsimp only [c_isMapped]); (try refine nrm ?_); rotate_right) | refine ret3 ?_ | refine end3 ?_) | (refine ar_cond rfl trivial ?_ ?_ <;> intro hc_ <;> (try simp only [isNilI, inB, reduceCtorEq, cds] at hc_) <;> (try (first | contradiction | (exfalso; omega)))) | refine ar_until (And.intro ?_ (wk3 ?_)))
  all_goals (first | refine ar_id ?_ | (try (focus ((try refine nrmO ?_); (repeat' (first | exact True.intro | refine And.intro ?_ ?_)); all_goals (try (intro (hg_ : _ = true); (try simp only [isNilI, inB, reduceCtorEq, cds] at hg_); (repeat' (first | exact True.intro | refine And.intro ?_ ?_)))); all_goals (first | exact ob1 | exact fn_isMapped _ _ | skip)))))
  · have := hok _ (getD_in (l := t.Entries) (i := i) (d := ⟨0, 0⟩) (by omega)); unfold okE at this; omega
  · have := hok _ (getD_in (l := t.Entries) (i := i) (d := ⟨0, 0⟩) (by omega)); unfold okE at this; rw [List.length_map, fwL_len]; omega
  · have := hok _ (getD_in (l := t.Entries) (i := i) (d := ⟨0, 0⟩) (by omega)); unfold okE at this; exact map_at (by rw [fwL_len]; omega)
  · have := hok _ (getD_in (l := t.Entries) (i := i) (d := ⟨0, 0⟩) (by omega)); unfold okE at this
    rw [take_getD _ ⟨0, 0⟩ (by omega), fwL_snoc, if_pos ⟨hc_, by omega⟩]
    exact List.map_set.symm
  · rw [take_getD _ ⟨0, 0⟩ (by omega), fwL_snoc, if_neg (fun h => h.1 hc_)]
  · rw [List.take_of_length_le (by omega)]
  · rw [List.take_zero, fwL_nil, List.map_replicate]; rfl
def c_EqualB (a b : List Bool) : CFD := ⟨72, [.one (ro 4 1 Tr.eB a), .one (ro 4 1 Tr.eB b)], [], (TV.sv (.one (.lit (.bool (decide (a = b)))))), [], [], []⟩
theorem fn_EqualB (a b : List Bool) (hl : a.length ≤ 1048576) (hb : b.length ≤ 1048576) : Fn Tryd.prog (c_EqualB a b) := by
  refine fn_intro tt_ok Tryd.func72 rfl Tryd.call72 Tryd.ntmps72 Tryd.results72 rfl rfl rfl rfl ?_
  intro X ρ0 hb_ hgl_
  dsimp only [c_EqualB]
  try refine nrm ?_
  repeat' (refine ar_id ?_; first | refine st1 ?_ | (first | ((first | refine ar_region tt_ok (inps := []) rfl ?_ ?_); rotate_left; (try refine nrm ?_); rotate_right) | refine ret3 ?_ | refine end3 ?_) | (refine ar_cond rfl trivial ?_ ?_ <;> intro hc_ <;> (try simp only [isNilI, inB, reduceCtorEq, cds] at hc_) <;> (try (first | contradiction | (exfalso; omega)))) | refine ar_until (And.intro ?_ (wk3 ?_)))
  all_goals (first | refine ar_id ?_ | (try (focus ((try refine nrmO ?_); (repeat' (first | exact True.intro | refine And.intro ?_ ?_)); all_goals (try (intro (hg_ : _ = true); (try simp only [isNilI, inB, reduceCtorEq, cds] at hg_); (repeat' (first | exact True.intro | refine And.intro ?_ ?_)))); all_goals (first | exact ob1 | skip)))))
  · exact bf fun h => hc_ (by rw [h])
  have hlen := hc_
  refine ar_keep 12339 (by dsimp only [keepS] <;> exact rfl) ?_
  refine ar_forM (a.length) (fun i => a.take i = b.take i) (fun i => [(13, (TV.sv (.one (.lit (.int .i64 (i))))))]) (fun i => []) ?_ ?_ ?_
  rotate_left
  · first | trivial | simp
  (dsimp only [rnCap, capSVs, Int.toNat_natCast, ro, Nat.reduceAdd, Nat.reduceMul, Nat.zero_add, List.map, putT, app, wrapG, gOb, argT, keys, slotOf, dropped, gAnd, wB, rnT, rnS, rnC, rnCs, rnSs, rnM, rnB, rnN, rn, lk, St.over, ded, delL, keepT, menT, menSs, menS, menCs, menC, hasN, resT, SV.cells]; refine wk3 ?_; (focus ((try refine nrmO ?_); (repeat' (first | exact True.intro | refine And.intro ?_ ?_)); all_goals (try (intro (hg_ : _ = true); (try simp only [isNilI, inB, reduceCtorEq, cds] at hg_); (repeat' (first | exact True.intro | refine And.intro ?_ ?_)))); all_goals (first | exact ob1 | exact rfl | skip))))
  rotate_right
  intro i hi_ hiI_
  dsimp only [rnCap, capSVs, Int.toNat_natCast, ro, Nat.reduceAdd, Nat.reduceMul, Nat.zero_add, List.map, putT, app, wrapG, gOb, argT, keys, slotOf, dropped, gAnd, wB, rnT, rnS, rnC, rnCs, rnSs, rnM, rnB, rnN, rn, lk, St.over, ded, delL, keepT, menT, menSs, menS, menCs, menC, hasN, resT, SV.cells]
  repeat' (refine ar_id ?_; first | refine st1 ?_ | (first | ((first | refine ar_draw (id := 6) (inps := [.elem (Tr.eB (a.getD i false)), .elem (Tr.eB (b.getD i false))]) tt_ok (by kernel_rfl) rfl rfl (by kernel_rfl) rfl rfl rfl rfl ?_ ?_ | refine ar_region tt_ok (inps := []) rfl ?_ ?_); rotate_left; (try refine nrm ?_); rotate_right) | refine ret3 ?_ | refine end3 ?_) | (refine ar_cond rfl trivial ?_ ?_ <;> intro hc_ <;> (try simp only [isNilI, inB, reduceCtorEq, cds] at hc_) <;> (try (first | contradiction | (exfalso; omega)))) | refine ar_until (And.intro ?_ (wk3 ?_)))
  all_goals (first | refine ar_id ?_ | (try (focus ((try refine nrmO ?_); (repeat' (first | exact True.intro | refine And.intro ?_ ?_)); all_goals (try (intro (hg_ : _ = true); (try simp only [isNilI, inB, reduceCtorEq, cds] at hg_); (repeat' (first | exact True.intro | refine And.intro ?_ ?_)))); all_goals (first | exact ob1 | skip)))))
  · refine bf fun h => ?_
    subst h
    simp at hc_
  · rw [take_getD a false (by omega), take_getD b false (by omega), hiI_]
    simpa using hc_
  · refine bt ?_
    rw [List.take_of_length_le (by omega), List.take_of_length_le (by omega)] at hiI_
    exact hiI_
theorem onFrame_pos (f : Int) : ∀ (i : Nat) (l : List GEntry), 0 < (onFrame f i l).length ↔ ∃ e ∈ l, e.Mode ≠ 0 ∧ e.Frame = f
  | _, [] => by simp [onFrame]
  | i, e :: l => by
    have ih := onFrame_pos f (i + 1) l
    show 0 < (_ ++ onFrame f (i + 1) l).length ↔ _
    rw [List.length_append]
    by_cases h : e.Mode ≠ 0 ∧ e.Frame = f
    · rw [if_pos h]
      exact ⟨fun _ => ⟨e, by simp, h⟩, fun _ => by simp; omega⟩
    · rw [if_neg h]
      simp only [List.length_nil, Nat.zero_add, ih]
      constructor
      · rintro ⟨x, hx, h1⟩; exact ⟨x, by simp [hx], h1⟩
      · rintro ⟨x, hx, h1⟩
        rw [List.mem_cons] at hx
        rcases hx with rfl | hx
        · exact absurd h1 h
        · exact ⟨x, hx, h1⟩
theorem used_iff (m : GMachine) : usedAre m ↔ m.Frames.Used = fwL m.Table.Entries m.Frames.Used.length := by
  have h0 : ∀ i, i < m.Frames.Used.length → (fwL m.Table.Entries m.Frames.Used.length)[i]? = some (decide (0 < (pPagesOn m.Table (i : Int)).length)) := by
    intro i hi
    unfold fwL pPagesOn
    rw [List.getElem?_map, List.getElem?_range hi, Option.map_some]
    congr 1
    rw [decide_eq_decide, onFrame_pos]
  constructor
  · intro h
    refine List.ext_getElem? fun i => ?_
    rcases Nat.lt_or_ge i m.Frames.Used.length with hi | hi
    · rw [h i hi, h0 i hi]
    · rw [List.getElem?_eq_none hi, List.getElem?_eq_none (by rw [fwL_len]; exact hi)]
  · intro h i hi
    rw [← h0 i hi, ← h]
/-- a machine that can be read: its slices are not too long -/
structure szM (m : GMachine) : Prop where
  c : m.Frames.Cells.length ≤ 1048576
  u : m.Frames.Used.length ≤ 1048576
  r : ∀ r ∈ m.Frames.Cells, r.length ≤ 1048576
  e : m.Table.Entries.length ≤ 1048576
def c_MOkI (m : GMachine) : CFD := ⟨35, [.agg [ro 33 1 eIntS m.Frames.Cells, ro 4 1 Tr.eB m.Frames.Used, ro 51 2 eEntry m.Table.Entries]], [], (TV.sv (.one (.lit (.bool (pMachineOk m))))), [], [], []⟩
theorem fn_MOkI (m : GMachine) (hs : szM m) : Fn Tryd.prog (c_MOkI m) := by
  refine fn_intro tt_ok Tryd.func35 rfl Tryd.call35 Tryd.ntmps35 Tryd.results35 rfl rfl rfl rfl ?_
  intro X ρ0 hb_ hgl_
  dsimp only [c_MOkI]
  try refine nrm ?_
  repeat' (refine ar_id ?_; first | refine st1 ?_ | (first | ((first | refine ar_region (id := 1) tt_ok (inps := [.call (c_FramesOkI m.Frames), .call (c_TableOkI m.Table m.Frames.Used.length)]) rfl ?_ ?_ | refine ar_region tt_ok (inps := []) rfl ?_ ?_); rotate_left; (try dsimp only [c_FramesOkI, c_TableOkI]); (try refine nrm ?_); rotate_right) | refine ret3 ?_ | refine end3 ?_) | (refine ar_cond rfl trivial ?_ ?_ <;> intro hc_ <;> (try simp only [isNilI, inB, reduceCtorEq, cds] at hc_) <;> (try (first | contradiction | (exfalso; omega)))) | refine ar_until (And.intro ?_ (wk3 ?_)))
  all_goals (first | refine ar_id ?_ | (try (focus ((try refine nrmO ?_); (repeat' (first | exact True.intro | refine And.intro ?_ ?_)); all_goals (try (intro (hg_ : _ = true); (try simp only [isNilI, inB, reduceCtorEq, cds] at hg_); (repeat' (first | exact True.intro | refine And.intro ?_ ?_)))); all_goals (first | exact ob1 | exact fn_FramesOkI _ hs.c hs.u hs.r | exact fn_TableOkI _ _ hs.e | skip)))))
  · refine bf fun h => ?_
    rcases hc_ with hc_ | hc_
    · rw [show pFramesOk m.Frames = true from decide_eq_true h.1] at hc_; cases hc_
    · rw [h.1.2.1, h.2.1] at hc_; cases hc_
  have hok := of_decide_eq_true hc_.1
  repeat' (refine ar_id ?_; first | refine st1 ?_ | (first | ((first | refine ar_draw (id := 3) (inps := [.call (c_fwp m.Table m.Frames.Used.length), .call (c_EqualB m.Frames.Used (fwL m.Table.Entries m.Frames.Used.length))]) tt_ok (by kernel_rfl) rfl rfl (by kernel_rfl) rfl rfl rfl rfl ?_ ?_ | refine ar_region tt_ok (inps := []) rfl ?_ ?_); rotate_left; (try dsimp only [c_EqualB, c_fwp]); (try refine nrm ?_); rotate_right) | refine ret3 ?_ | refine end3 ?_) | (refine ar_cond rfl trivial ?_ ?_ <;> intro hc_ <;> (try simp only [isNilI, inB, reduceCtorEq, cds] at hc_) <;> (try (first | contradiction | (exfalso; omega)))) | refine ar_until (And.intro ?_ (wk3 ?_)))
  all_goals (first | refine ar_id ?_ | (try (focus ((try refine nrmO ?_); (repeat' (first | exact True.intro | refine And.intro ?_ ?_)); all_goals (try (intro (hg_ : _ = true); (try simp only [isNilI, inB, reduceCtorEq, cds] at hg_); (repeat' (first | exact True.intro | refine And.intro ?_ ?_)))); all_goals (first | exact ob1 | exact fn_EqualB _ _ hs.u (by rw [fwL_len]; exact hs.u) | exact fn_fwp _ _ hs.e hs.u (of_decide_eq_true hc_.2).1 | skip)))))
  refine congrArg Value.bool ?_
  show _ = decide (okM m)
  rw [decide_eq_decide]
  exact ⟨fun h => ⟨hok, by rw [← hok.2.1]; exact hc_.2, (used_iff m).2 h⟩, fun h => (used_iff m).1 h.2.2⟩
def c_CopyMI (m : GMachine) : CFD := ⟨68, [.agg [ro 33 1 eIntS m.Frames.Cells, ro 4 1 Tr.eB m.Frames.Used, ro 51 2 eEntry m.Table.Entries]], [], .sv (.agg [.hd 0, .hd 1, .hd 2]),
  [(0, some (.row 33 1 (m.Frames.Cells.map eIntS))), (1, some (.row 4 1 (m.Frames.Used.map Tr.eB))), (2, some (.row 51 2 (m.Table.Entries.map eEntry)))], [0, 1, 2], []⟩
theorem fn_CopyMI (m : GMachine) (hs : szM m) : Fn Tryd.prog (c_CopyMI m) := by
  refine fn_intro tt_ok Tryd.func68 rfl Tryd.call68 Tryd.ntmps68 Tryd.results68 rfl rfl rfl rfl ?_
  intro X ρ0 hb_ hgl_
  dsimp only [c_CopyMI]
  try refine nrm ?_
  repeat' (refine ar_id ?_; first | refine st1 ?_ | (first | ((first | refine ar_draw (id := 1) (inps := [.call (c_Copy5I m.Frames), .call (c_CloneE m.Table.Entries)]) tt_ok (by kernel_rfl) rfl rfl (by kernel_rfl) rfl rfl rfl rfl ?_ ?_ | refine ar_region tt_ok (inps := []) rfl ?_ ?_); rotate_left; (try dsimp only [c_CloneE, c_Copy5I]); (try refine nrm ?_); rotate_right) | refine ret3 ?_ | refine end3 ?_) | (refine ar_cond rfl trivial ?_ ?_ <;> intro hc_ <;> (try simp only [isNilI, inB, reduceCtorEq, cds] at hc_) <;> (try (first | contradiction | (exfalso; omega)))) | refine ar_until (And.intro ?_ (wk3 ?_)))
  all_goals (first | refine ar_id ?_ | (try (focus ((try refine nrmO ?_); (repeat' (first | exact True.intro | refine And.intro ?_ ?_)); all_goals (try (intro (hg_ : _ = true); (try simp only [isNilI, inB, reduceCtorEq, cds] at hg_); (repeat' (first | exact True.intro | refine And.intro ?_ ?_)))); all_goals (first | exact ob1 | exact fn_Copy5I _ hs.c hs.u hs.r | exact fn_CloneE _ hs.e | skip)))))
/-- the sentinel of a page that is not mapped -/
def eP (a : Addr) : Value := .iface 188 (.pointer (some a))
def gP (a : Addr) (ty : Nat) : Glb := ⟨1, [eP a], ty, (0, 0)⟩
def canMap (m : GMachine) (page : Int) : Prop := okM m ∧ (pPageEntry m.Table page).Mode ≠ 0
instance (m : GMachine) (page : Int) : Decidable (canMap m page) := by unfold canMap; infer_instance
def mapE (m : GMachine) (page : Int) : GEntry := if canMap m page then pPageEntry m.Table page else ⟨0, 0⟩
def errP (a : Addr) (m : GMachine) (page : Int) : Value := if canMap m page then .nilIface else eP a
def c_mapped (a : Addr) (ty : Nat) (m : GMachine) (page : Int) : CFD := ⟨98, [.agg [ro 33 1 eIntS m.Frames.Cells, ro 4 1 Tr.eB m.Frames.Used, ro 51 2 eEntry m.Table.Entries], (SV.one (.lit (.int .i64 (page))))], [],
  .tup [.agg [(CV.lit (.int .i64 ((mapE m page).Mode))), (CV.lit (.int .i64 ((mapE m page).Frame)))], .one (.lit (errP a m page))], [], [], [gP a ty]⟩
theorem fn_mapped (a : Addr) (ty : Nat) (m : GMachine) (page : Int) (hs : szM m) : Fn Tryd.prog (c_mapped a ty m page) := by
  refine fn_intro tt_ok Tryd.func98 rfl Tryd.call98 Tryd.ntmps98 Tryd.results98 rfl rfl rfl rfl ?_
  intro X ρ0 hb_ hgl_
  dsimp only [c_mapped]
  try refine nrm ?_
  repeat' (refine ar_id ?_; first | refine st1 ?_ | (first | ((first | refine ar_region (id := 1) tt_ok (inps := [.call (c_PageEntryI m.Table page)]) rfl ?_ ?_ | refine ar_region (id := 2) tt_ok (inps := [.call (c_MOkI m), .call (c_isMapped (pPageEntry m.Table page).Mode (pPageEntry m.Table page).Frame)]) rfl ?_ ?_ | refine ar_draw (id := 3) (inps := [.glob (gP a ty) [eP a]]) tt_ok (by kernel_rfl) rfl rfl (by kernel_rfl) rfl rfl rfl rfl ?_ ?_ | refine ar_region tt_ok (inps := []) rfl ?_ ?_); rotate_left; (try dsimp only [c_MOkI, c_PageEntryI, c_isMapped]); (try refine nrm ?_); rotate_right) | refine ret3 ?_ | refine end3 ?_) | (refine ar_cond rfl trivial ?_ ?_ <;> intro hc_ <;> (try simp only [isNilI, inB, reduceCtorEq, cds] at hc_) <;> (try (first | contradiction | (exfalso; omega)))) | refine ar_until (And.intro ?_ (wk3 ?_)))
  all_goals (first | refine ar_id ?_ | (try (focus ((try refine nrmO ?_); (repeat' (first | exact True.intro | refine And.intro ?_ ?_)); all_goals (try (intro (hg_ : _ = true); (try simp only [isNilI, inB, reduceCtorEq, cds] at hg_); (repeat' (first | exact True.intro | refine And.intro ?_ ?_)))); all_goals (first | exact ob1 | exact fn_PageEntryI _ _ hs.e | exact fn_MOkI _ hs | exact fn_isMapped _ _ | exact hgl_.1 | exact rfl | exact one1 rfl | skip)))))
  all_goals (try (
    have hcm : ¬ canMap m page := fun h => by
      rcases hc_ with hc_ | hc_
      · rw [show pMachineOk m = true from decide_eq_true h.1] at hc_; cases hc_
      · exact h.2 hc_
    unfold mapE
    rw [if_neg hcm]; done))
  · exact (if_neg (fun h => by
      rcases hc_ with hc_ | hc_
      · rw [show pMachineOk m = true from decide_eq_true h.1] at hc_; cases hc_
      · exact h.2 hc_)).symm
  all_goals have hcm : canMap m page := ⟨of_decide_eq_true hc_.1, hc_.2⟩
  · unfold mapE; rw [if_pos hcm]
  · unfold mapE; rw [if_pos hcm]
  · exact (if_pos hcm).symm
def pgOf (addr : Int) : Int := if addr < 0 then -1 else addr.tdiv 16
def c_pageOf (addr : Int) : CFD := ⟨99, [(SV.one (.lit (.int .i64 (addr))))], [], (TV.sv (.one (.lit (.int .i64 (pgOf addr))))), [], [], []⟩
theorem fn_pageOf (addr : Int) (h : okI addr) : Fn Tryd.prog (c_pageOf addr) := by
  refine fn_intro tt_ok Tryd.func99 rfl Tryd.call99 Tryd.ntmps99 Tryd.results99 rfl rfl rfl rfl ?_
  intro X ρ0 hb_ hgl_
  dsimp only [c_pageOf]
  try refine nrm ?_
  repeat' (refine ar_id ?_; first | refine st1 ?_ | (first | ((first | refine ar_region tt_ok (inps := []) rfl ?_ ?_); rotate_left; (try refine nrm ?_); rotate_right) | refine ret3 ?_ | refine end3 ?_) | (refine ar_cond rfl trivial ?_ ?_ <;> intro hc_ <;> (try simp only [isNilI, inB, reduceCtorEq, cds] at hc_) <;> (try (first | contradiction | (exfalso; omega)))) | refine ar_until (And.intro ?_ (wk3 ?_)))
  all_goals (first | refine ar_id ?_ | (try (focus ((try refine nrmO ?_); (repeat' (first | exact True.intro | refine And.intro ?_ ?_)); all_goals (try (intro (hg_ : _ = true); (try simp only [isNilI, inB, reduceCtorEq, cds] at hg_); (repeat' (first | exact True.intro | refine And.intro ?_ ?_)))); all_goals (first | exact ob1 | skip)))))
  · unfold pgOf; rw [if_pos hc_]
  · have h1 := h.1; have h2 := h.2; rw [Int.tdiv_eq_ediv_of_nonneg hc_]; exact i64_ok (by omega) (by omega)
  · unfold pgOf; rw [if_neg (by omega)]
/-- the page is mapped; it is not -/
def c_mapY (a : Addr) (ty : Nat) (m : GMachine) (page : Int) : CFD := ⟨98, [.agg [ro 33 1 eIntS m.Frames.Cells, ro 4 1 Tr.eB m.Frames.Used, ro 51 2 eEntry m.Table.Entries], (SV.one (.lit (.int .i64 (page))))], [],
  .tup [.agg [(CV.lit (.int .i64 ((pPageEntry m.Table page).Mode))), (CV.lit (.int .i64 ((pPageEntry m.Table page).Frame)))], .one (.lit .nilIface)], [], [], [gP a ty]⟩
def c_mapN (a : Addr) (ty : Nat) (m : GMachine) (page : Int) : CFD := ⟨98, [.agg [ro 33 1 eIntS m.Frames.Cells, ro 4 1 Tr.eB m.Frames.Used, ro 51 2 eEntry m.Table.Entries], (SV.one (.lit (.int .i64 (page))))], [],
  .tup [.agg [(CV.lit (.int .i64 (0))), (CV.lit (.int .i64 (0)))], .one (.lit (.iface 188 (.pointer (some a))))], [], [], [gP a ty]⟩
theorem fn_mapY (a : Addr) (ty : Nat) (m : GMachine) (page : Int) (hs : szM m) (h : canMap m page) : Fn Tryd.prog (c_mapY a ty m page) := by
  have := fn_mapped a ty m page hs
  unfold c_mapped mapE errP at this
  rw [if_pos h, if_pos h] at this
  exact this
theorem fn_mapN (a : Addr) (ty : Nat) (m : GMachine) (page : Int) (hs : szM m) (h : ¬ canMap m page) : Fn Tryd.prog (c_mapN a ty m page) := by
  have := fn_mapped a ty m page hs
  unfold c_mapped mapE errP at this
  rw [if_neg h, if_neg h] at this
  exact this
theorem canMap_frame {m : GMachine} {page : Int} (h : canMap m page) : 0 ≤ (pPageEntry m.Table page).Frame ∧ (pPageEntry m.Table page).Frame < (m.Frames.Cells.length : Int) ∧ (m.Frames.Cells.getD (pPageEntry m.Table page).Frame.toNat []).length = 16 ∧ m.Frames.Cells[(pPageEntry m.Table page).Frame.toNat]? = some (m.Frames.Cells.getD (pPageEntry m.Table page).Frame.toNat []) := by
  obtain ⟨f, hf, h1, h2, h3, h4⟩ := okM_entry h.1 h.2
  rw [hf, Int.toNat_natCast]
  exact ⟨by omega, by omega, h3, h4⟩
/-- the three sentinels -/
structure Se where
  (aP aW aV : Addr)
  (cP cW cV : List Value)
  (tP tW tV uP uW uV : Nat)
  n1 : aP ≠ aW
  n2 : aP ≠ aV
  n3 : aW ≠ aV
def gW (a : Addr) (ty : Nat) : Glb := ⟨2, [eP a], ty, (0, 0)⟩
def gV (a : Addr) (ty : Nat) : Glb := ⟨3, [eP a], ty, (0, 0)⟩
def Se.gl (s : Se) : List Glb := [gP s.aP s.uP, gW s.aW s.uW, gV s.aV s.uV, ⟨s.aP.block, s.cP, s.tP, (0, 0)⟩, ⟨s.aW.block, s.cW, s.tW, (0, 0)⟩, ⟨s.aV.block, s.cV, s.tV, (0, 0)⟩]
def c_Is (s : Se) (x y : Addr) (b : Bool) : CFD := ⟨134, [.one (.lit (.iface 188 (.pointer (some x)))), .one (.lit (.iface 188 (.pointer (some y))))], [], (TV.sv (.one (.lit (.bool (b))))), [], [], s.gl⟩
theorem fn_IsT (s : Se) (x : Addr) : Fn Tryd.prog (c_Is s x x true) :=
  fn_stillG (vs := [.iface 188 (.pointer (some x)), .iface 188 (.pointer (some x))]) rfl Tryd.func134 rfl (fun _ _ => True.intro) (IsG.same x) Tryd.call134
def c_fault (s : Se) (x : Addr) (k : Int) : CFD := ⟨100, [.one (.lit (.iface 188 (.pointer (some x))))], [], (TV.sv (.one (.lit (.int .i64 (k))))), [], [], s.gl⟩
theorem fn_faultP (s : Se) : Fn Tryd.prog (c_fault s s.aP 1) := by
  refine fn_intro tt_ok Tryd.func100 rfl Tryd.call100 Tryd.ntmps100 Tryd.results100 rfl rfl rfl rfl ?_
  intro X ρ0 hb_ hgl_
  dsimp only [c_fault]
  try refine nrm ?_
  repeat' (refine ar_id ?_; first | refine st1 ?_ | (first | ((first | refine ar_region (id := 1) tt_ok (inps := [.glob (gP s.aP s.uP) [.iface 188 (.pointer (some s.aP))], .call (c_Is s s.aP s.aP true)]) rfl ?_ ?_ | refine ar_region tt_ok (inps := []) rfl ?_ ?_); rotate_left; (try dsimp only [c_Is]); (try refine nrm ?_); rotate_right) | refine ret3 ?_ | refine end3 ?_) | (refine ar_cond rfl trivial ?_ ?_ <;> intro hc_ <;> (try simp only [isNilI, inB, reduceCtorEq, cds] at hc_) <;> (try (first | contradiction | (exfalso; omega)))) | refine ar_until (And.intro ?_ (wk3 ?_)))
  all_goals (first | refine ar_id ?_ | (try (focus ((try refine nrmO ?_); (repeat' (first | exact True.intro | refine And.intro ?_ ?_)); all_goals (try (intro (hg_ : _ = true); (try simp only [isNilI, inB, reduceCtorEq, cds] at hg_); (repeat' (first | exact True.intro | refine And.intro ?_ ?_)))); all_goals (first | exact ob1 | exact hgl_.1 | exact hgl_.2.1 | exact hgl_.2.2.1 | exact hgl_.2.2.2.1 | exact hgl_.2.2.2.2.1 | exact hgl_.2.2.2.2.2.1 | exact hgl_.2.2.2.2.2.2.1 | exact hgl_.2.2.2.2.2.2.2.1 | exact hgl_ | exact rfl | exact one1 rfl | exact fn_IsT _ _ | skip)))))
theorem pgOf_eq {addr : Int} (h : ¬ addr < 0) : pgOf addr = addr / 16 := by unfold pgOf; rw [if_neg h, Int.tdiv_eq_ediv_of_nonneg (by omega)]
theorem entry_eq (m : GMachine) (addr : Int) : (pEntry m addr).1 = pPageEntry m.Table (pgOf addr) := by
  unfold pEntry
  by_cases h : addr < 0
  · rw [if_pos h]
    unfold pgOf pPageEntry
    rw [if_pos h, if_neg (by omega)]
  · rw [if_neg h, pgOf_eq h]
theorem canLoad_iff (m : GMachine) (addr : Int) : canLoad m addr ↔ canMap m (pgOf addr) := by unfold canLoad canMap; rw [entry_eq]
theorem canMap_nonneg {m : GMachine} {addr : Int} (h : canMap m (pgOf addr)) : ¬ addr < 0 := fun hn => by
  have := h.2
  unfold pgOf pPageEntry at this
  rw [if_pos hn, if_neg (by omega)] at this
  exact this rfl
theorem load_val {m : GMachine} {addr : Int} (h : canMap m (pgOf addr)) : pLoad m addr = ((m.Frames.Cells.getD (pPageEntry m.Table (pgOf addr)).Frame.toNat []).getD (addr % 16).toNat 0, 0) := by
  unfold pLoad cellOf
  have hn := canMap_nonneg h
  rw [if_pos ((canLoad_iff m addr).2 h), entry_eq, show (pEntry m addr).2 = addr % 16 by unfold pEntry; rw [if_neg hn]]
def c_LoadI (s : Se) (m : GMachine) (addr : Int) : CFD := ⟨56, [.agg [ro 33 1 eIntS m.Frames.Cells, ro 4 1 Tr.eB m.Frames.Used, ro 51 2 eEntry m.Table.Entries], (SV.one (.lit (.int .i64 (addr))))], [],
  .tup [(SV.one (.lit (.int .i64 ((pLoad m addr).1)))), (SV.one (.lit (.int .i64 ((pLoad m addr).2))))], [], [], s.gl⟩
theorem fn_LoadI (s : Se) (m : GMachine) (addr : Int) (hs : szM m) (ha : okI addr) : Fn Tryd.prog (c_LoadI s m addr) := by
  by_cases hcm : canMap m (pgOf addr)
  · obtain ⟨f0, f1, f2, f3⟩ := canMap_frame hcm
    have hn := canMap_nonneg hcm
    have ht : addr.tmod 16 = addr % 16 := Int.tmod_eq_emod_of_nonneg (by omega)
    refine fn_intro tt_ok Tryd.func56 rfl Tryd.call56 Tryd.ntmps56 Tryd.results56 rfl rfl rfl rfl ?_
    intro X ρ0 hb_ hgl_
    dsimp only [c_LoadI]
    try refine nrm ?_
    repeat' (refine ar_id ?_; first | refine st1 ?_ | (first | ((first | refine ar_draw (id := 1) (inps := [.call (c_pageOf addr), .call (c_mapY s.aP s.uP m (pgOf addr))]) tt_ok (by kernel_rfl) rfl rfl (by kernel_rfl) rfl rfl rfl rfl ?_ ?_ | refine ar_region (id := 4) tt_ok (inps := [.elem (eIntS (m.Frames.Cells.getD (pPageEntry m.Table (pgOf addr)).Frame.toNat [])), .elem (Tr.eI ((m.Frames.Cells.getD (pPageEntry m.Table (pgOf addr)).Frame.toNat []).getD (addr.tmod 16).toNat 0))]) rfl ?_ ?_ | refine ar_region tt_ok (inps := []) rfl ?_ ?_); rotate_left; (try dsimp only [c_mapY, c_pageOf]); (try refine nrm ?_); rotate_right) | refine ret3 ?_ | refine end3 ?_) | (refine ar_cond rfl trivial ?_ ?_ <;> intro hc_ <;> (try simp only [isNilI, inB, reduceCtorEq, cds] at hc_) <;> (try (first | contradiction | (exfalso; omega)))) | refine ar_until (And.intro ?_ (wk3 ?_)))
    all_goals (first | refine ar_id ?_ | (try (focus ((try refine nrmO ?_); (repeat' (first | exact True.intro | refine And.intro ?_ ?_)); all_goals (try (intro (hg_ : _ = true); (try simp only [isNilI, inB, reduceCtorEq, cds] at hg_); (repeat' (first | exact True.intro | refine And.intro ?_ ?_)))); all_goals (first | exact ob1 | exact fn_pageOf _ ha | exact fn_mapY _ _ _ _ hs hcm | exact hgl_.1 | exact hgl_.2.1 | exact hgl_.2.2.1 | exact hgl_.2.2.2.1 | exact hgl_.2.2.2.2.1 | exact hgl_.2.2.2.2.2.1 | exact hgl_.2.2.2.2.2.2.1 | exact hgl_.2.2.2.2.2.2.2.1 | exact hgl_ | exact rfl | exact one1 rfl | exact trivial | exact elem_map (fun _ => rfl) f3 | skip)))))
    all_goals first
      | exact ⟨(m.Frames.Cells.getD (pPageEntry m.Table (pgOf addr)).Frame.toNat []).map eI, rfl, rfl, len_map (E := eI) (k := 1) (fun _ => rfl), map_at (by omega)⟩
      | (rw [load_val hcm, ht]; done)
      | (rw [load_val hcm]; done)
      | trace_state
  · skip
    refine fn_intro tt_ok Tryd.func56 rfl Tryd.call56 Tryd.ntmps56 Tryd.results56 rfl rfl rfl rfl ?_
    intro X ρ0 hb_ hgl_
    dsimp only [c_LoadI]
    try refine nrm ?_
    repeat' (refine ar_id ?_; first | refine st1 ?_ | (first | ((first | refine ar_draw (id := 1) (inps := [.call (c_pageOf addr), .call (c_mapN s.aP s.uP m (pgOf addr))]) tt_ok (by kernel_rfl) rfl rfl (by kernel_rfl) rfl rfl rfl rfl ?_ ?_ | refine ar_region (id := 3) tt_ok (inps := [.call (c_fault s s.aP 1)]) rfl ?_ ?_ | refine ar_region tt_ok (inps := []) rfl ?_ ?_); rotate_left; (try dsimp only [c_fault, c_mapN, c_pageOf]); (try refine nrm ?_); rotate_right) | refine ret3 ?_ | refine end3 ?_) | (refine ar_cond rfl trivial ?_ ?_ <;> intro hc_ <;> (try simp only [isNilI, inB, reduceCtorEq, cds] at hc_) <;> (try (first | contradiction | (exfalso; omega)))) | refine ar_until (And.intro ?_ (wk3 ?_)))
    all_goals (first | refine ar_id ?_ | (try (focus ((try refine nrmO ?_); (repeat' (first | exact True.intro | refine And.intro ?_ ?_)); all_goals (try (intro (hg_ : _ = true); (try simp only [isNilI, inB, reduceCtorEq, cds] at hg_); (repeat' (first | exact True.intro | refine And.intro ?_ ?_)))); all_goals (first | exact ob1 | exact fn_pageOf _ ha | exact fn_mapN _ _ _ _ hs hcm | exact hgl_.1 | exact hgl_.2.1 | exact hgl_.2.2.1 | exact hgl_.2.2.2.1 | exact hgl_.2.2.2.2.1 | exact hgl_.2.2.2.2.2.1 | exact hgl_.2.2.2.2.2.2.1 | exact hgl_.2.2.2.2.2.2.2.1 | exact hgl_ | exact rfl | exact one1 rfl | exact trivial | exact fn_faultP _ | skip)))))
    · unfold pLoad; rw [if_neg (fun h => hcm ((canLoad_iff m addr).1 h))]
    · unfold pLoad; rw [if_neg (fun h => hcm ((canLoad_iff m addr).1 h))]
end Eng
end Go.Proofs.YtgeakpeodhhffaaDoor
namespace Go.Proofs.YtgeakpeodhhffaaDoor
open Go.RowKit
set_option linter.unusedVariables false
set_option linter.unusedSimpArgs false
set_option maxRecDepth 100000
namespace Eng
open Tr
/-- a kernel that can be read -/
structure szK (k : GKernel) : Prop where
  m : szM k.Machine
  r : k.Refuse.length ≤ 1048576
def c_KOkI (k : GKernel) : CFD := ⟨12, [.agg [ro 33 1 eIntS k.Machine.Frames.Cells, ro 4 1 Tr.eB k.Machine.Frames.Used, ro 51 2 eEntry k.Machine.Table.Entries, (CV.lit (.int .i64 (k.Calls))), ro 3 1 Tr.eI k.Refuse]], [], (TV.sv (.one (.lit (.bool (pKernelOk k))))), [], [], []⟩
theorem fn_KOkI (k : GKernel) (hs : szK k) : Fn Tryd.prog (c_KOkI k) := by
  have hr := hs.r
  refine fn_intro tt_ok Tryd.func12 rfl Tryd.call12 Tryd.ntmps12 Tryd.results12 rfl rfl rfl rfl ?_
  intro X ρ0 hb_ hgl_
  dsimp only [c_KOkI]
  try refine nrm ?_
  repeat' (refine ar_id ?_; first | refine st1 ?_ | (first | ((first | refine ar_region (id := 1) tt_ok (inps := [.call (c_MOkI k.Machine)]) rfl ?_ ?_ | refine ar_region tt_ok (inps := []) rfl ?_ ?_); rotate_left; (try dsimp only [c_MOkI]); (try refine nrm ?_); rotate_right) | refine ret3 ?_ | refine end3 ?_) | (refine ar_cond rfl trivial ?_ ?_ <;> intro hc_ <;> (try simp only [isNilI, inB, reduceCtorEq, cds] at hc_) <;> (try (first | contradiction | (exfalso; omega)))) | refine ar_until (And.intro ?_ (wk3 ?_)))
  all_goals (first | refine ar_id ?_ | (try (focus ((try refine nrmO ?_); (repeat' (first | exact True.intro | refine And.intro ?_ ?_)); all_goals (try (intro (hg_ : _ = true); (try simp only [isNilI, inB, reduceCtorEq, cds] at hg_); (repeat' (first | exact True.intro | refine And.intro ?_ ?_)))); all_goals (first | exact ob1 | exact fn_MOkI _ hs.m | skip)))))
  · refine bf fun h => ?_
    rcases hc_ with ((hc_ | hc_) | hc_) | hc_
    · exact of_decide_eq_false hc_ h.1
    · have := h.2.1.1; omega
    · have := h.2.1.2; omega
    · have := h.2.2.2; omega
  have hc1 := hc_
  refine ar_keep 469762071 (by dsimp only [keepS] <;> exact rfl) ?_
  refine ar_forM (k.Refuse.length) (fun i => ∀ y ∈ k.Refuse.take i, 0 ≤ y) (fun i => [(28, (TV.sv (.one (.lit (.int .i64 (i))))))]) (fun i => []) ?_ ?_ ?_
  rotate_left
  · first | trivial | simp
  (dsimp only [rnCap, capSVs, Int.toNat_natCast, ro, Nat.reduceAdd, Nat.reduceMul, Nat.zero_add, List.map, putT, app, wrapG, gOb, argT, keys, slotOf, dropped, gAnd, wB, rnT, rnS, rnC, rnCs, rnSs, rnM, rnB, rnN, rn, lk, St.over, ded, delL, keepT, menT, menSs, menS, menCs, menC, hasN, resT, SV.cells]; refine wk3 ?_; (focus ((try refine nrmO ?_); (repeat' (first | exact True.intro | refine And.intro ?_ ?_)); all_goals (try (intro (hg_ : _ = true); (try simp only [isNilI, inB, reduceCtorEq, cds] at hg_); (repeat' (first | exact True.intro | refine And.intro ?_ ?_)))); all_goals (first | exact ob1 | exact rfl | skip))))
  rotate_right
  intro i hi_ hiI_
  dsimp only [rnCap, capSVs, Int.toNat_natCast, ro, Nat.reduceAdd, Nat.reduceMul, Nat.zero_add, List.map, putT, app, wrapG, gOb, argT, keys, slotOf, dropped, gAnd, wB, rnT, rnS, rnC, rnCs, rnSs, rnM, rnB, rnN, rn, lk, St.over, ded, delL, keepT, menT, menSs, menS, menCs, menC, hasN, resT, SV.cells]
  repeat' (refine ar_id ?_; first | refine st1 ?_ | (first | ((first | refine ar_region (id := 5) tt_ok (inps := [.elem (Tr.eI (k.Refuse.getD i 0))]) rfl ?_ ?_ | refine ar_region tt_ok (inps := []) rfl ?_ ?_); rotate_left; (try refine nrm ?_); rotate_right) | refine ret3 ?_ | refine end3 ?_) | (refine ar_cond rfl trivial ?_ ?_ <;> intro hc_ <;> (try simp only [isNilI, inB, reduceCtorEq, cds] at hc_) <;> (try (first | contradiction | (exfalso; omega)))) | refine ar_until (And.intro ?_ (wk3 ?_)))
  all_goals (first | refine ar_id ?_ | (try (focus ((try refine nrmO ?_); (repeat' (first | exact True.intro | refine And.intro ?_ ?_)); all_goals (try (intro (hg_ : _ = true); (try simp only [isNilI, inB, reduceCtorEq, cds] at hg_); (repeat' (first | exact True.intro | refine And.intro ?_ ?_)))); all_goals (first | exact ob1 | skip)))))
  · exact bf fun h => by have := h.2.2.1 _ (getD_in (l := k.Refuse) (i := i) (d := 0) (by omega)); omega
  · exact all_take (d := 0) hiI_ (by omega) hc_
  · exact bt ⟨of_decide_eq_true hc1.1.1.1, ⟨hc1.1.1.2, hc1.1.2⟩, all_full hiI_ (by omega), by omega⟩
def c_CopyKI (k : GKernel) : CFD := ⟨28, [.agg [ro 33 1 eIntS k.Machine.Frames.Cells, ro 4 1 Tr.eB k.Machine.Frames.Used, ro 51 2 eEntry k.Machine.Table.Entries, (CV.lit (.int .i64 (k.Calls))), ro 3 1 Tr.eI k.Refuse]], [], .sv (.agg [.hd 0, .hd 1, .hd 2, (CV.lit (.int .i64 (k.Calls))), .hd 3]), [(0, some (.row 33 1 (k.Machine.Frames.Cells.map eIntS))), (1, some (.row 4 1 (k.Machine.Frames.Used.map Tr.eB))), (2, some (.row 51 2 (k.Machine.Table.Entries.map eEntry))), (3, some (.row 3 1 (k.Refuse.map Tr.eI)))], [0, 1, 2, 3], []⟩
theorem fn_CopyKI (k : GKernel) (hs : szK k) : Fn Tryd.prog (c_CopyKI k) := by
  have hr := hs.r
  refine fn_intro tt_ok Tryd.func28 rfl Tryd.call28 Tryd.ntmps28 Tryd.results28 rfl rfl rfl rfl ?_
  intro X ρ0 hb_ hgl_
  dsimp only [c_CopyKI]
  try refine nrm ?_
  repeat' (refine ar_id ?_; first | refine st1 ?_ | (first | ((first | refine ar_draw (id := 1) (inps := [.call (c_CopyMI k.Machine), .call (c_CloneI k.Refuse)]) tt_ok (by kernel_rfl) rfl rfl (by kernel_rfl) rfl rfl rfl rfl ?_ ?_ | refine ar_region tt_ok (inps := []) rfl ?_ ?_); rotate_left; (try dsimp only [c_CloneI, c_CopyMI]); (try refine nrm ?_); rotate_right) | refine ret3 ?_ | refine end3 ?_) | (refine ar_cond rfl trivial ?_ ?_ <;> intro hc_ <;> (try simp only [isNilI, inB, reduceCtorEq, cds] at hc_) <;> (try (first | contradiction | (exfalso; omega)))) | refine ar_until (And.intro ?_ (wk3 ?_)))
  all_goals (first | refine ar_id ?_ | (try (focus ((try refine nrmO ?_); (repeat' (first | exact True.intro | refine And.intro ?_ ?_)); all_goals (try (intro (hg_ : _ = true); (try simp only [isNilI, inB, reduceCtorEq, cds] at hg_); (repeat' (first | exact True.intro | refine And.intro ?_ ?_)))); all_goals (first | exact ob1 | exact fn_CopyMI _ hs.m | exact fn_CloneI _ hs.r | skip)))))
end Eng
end Go.Proofs.YtgeakpeodhhffaaDoor
namespace Go.Proofs.YtgeakpeodhhffaaDoor
open Go.RowKit
set_option linter.unusedVariables false
set_option linter.unusedSimpArgs false
set_option maxRecDepth 100000
namespace Eng
open Tr
theorem szK_from16 {k : GKernel} (h : szK8 k) : szK k := ⟨⟨h.m.c, h.m.u, h.m.r, h.m.e⟩, h.r⟩
def c_code (t : Tb) (k : GKernel) (s : GSpan) (slot e : Int) : CFD := ⟨42, [.agg [ro 33 1 eIntS k.Machine.Frames.Cells, ro 4 1 Tr.eB k.Machine.Frames.Used, ro 51 2 eEntry k.Machine.Table.Entries, (CV.lit (.int .i64 (k.Calls))), ro 3 1 Tr.eI k.Refuse], .agg [(CV.lit (.int .i64 (s.Page))), (CV.lit (.int .i64 (s.Class))), (CV.lit (.int .i64 (s.Bits)))], (SV.one (.lit (.int .i64 (slot))))], [], (TV.sv (.one (.lit (.int .i64 (e))))), [], [], t.both⟩
set_option maxHeartbeats 2000000 in
theorem fn_code (t : Tb) (k : GKernel) (s : GSpan) (slot e : Int) (hs : szK8 k) (h : frCode k s slot = e) : Fn Tryd.prog (c_code t k s slot e) := by
  have hen := hs.m.e
  obtain ⟨E, hE⟩ : ∃ E, pPageEntry k.Machine.Table s.Page = E := ⟨_, rfl⟩
  have hm : modeOf k s.Page = E.Mode := by unfold modeOf; rw [hE]
  have hP := fn_PageEntryI k.Machine.Table s.Page hen
  unfold c_PageEntryI at hP
  rw [hE] at hP
  rcases fr_cases k s slot with ⟨hc, h1⟩ | ⟨hc, h1, h2⟩ | ⟨hc, h1, h2, h3⟩ | ⟨hc, h1, h2, h3, h4⟩
  · obtain rfl := hc.symm.trans h
    by_cases h5 : pSpanOk s = true
    · have hb := bits_bd h5
      have hG : (!(!pSpanOk s)) = true := by rw [h5]; rfl
      refine fn_intro tt_ok Tryd.func42 rfl Tryd.call42 Tryd.ntmps42 Tryd.results42 rfl rfl rfl rfl ?_
      intro X ρ0 hb_ hgl_
      dsimp only [c_code]
      try refine nrm ?_
      repeat' (refine ar_id ?_; first | refine st1 ?_ | (first | ((first | refine ar_region (id := 1) tt_ok (inps := [.call (⟨82, [.agg [ro 51 2 eEntry k.Machine.Table.Entries], (SV.one (.lit (.int .i64 (s.Page))))], [], .sv (.agg [(CV.lit (.int .i64 (E.Mode))), (CV.lit (.int .i64 (E.Frame)))]), [], [], []⟩)]) rfl ?_ ?_ | refine ar_region (id := 2) tt_ok (inps := [.call (c_SpanOkI t s), .sure (c_HasI t s.Bits slot)]) rfl ?_ ?_ | refine ar_region tt_ok (inps := []) rfl ?_ ?_); rotate_left; (try dsimp only [c_HasI, c_SpanOkI]); (try refine nrm ?_); rotate_right) | refine ret3 ?_ | refine end3 ?_) | (refine ar_cond rfl trivial ?_ ?_ <;> intro hc_ <;> (try simp only [isNilI, inB, reduceCtorEq, cds] at hc_) <;> (try (first | contradiction | (exfalso; omega) | (exfalso; grind)))) | refine ar_until (And.intro ?_ (wk3 ?_)))
      all_goals (first | refine ar_id ?_ | (try (focus ((try refine nrmO ?_); (repeat' (first | exact True.intro | refine And.intro ?_ ?_)); all_goals (try (intro (hg_ : _ = true); (try simp only [isNilI, inB, reduceCtorEq, cds] at hg_); (repeat' (first | exact True.intro | refine And.intro ?_ ?_)))); all_goals (first | exact ob1 | exact hP | exact fn_SpanOkI _ _ | exact fn_HasI _ _ _ (by omega) | exact hG | exact hgl_.1 | exact hgl_.2.1 | exact hgl_.2.2.1 | exact hgl_.2.2.2.1 | exact hgl_.2.2.2.2.1 | exact hgl_.2.2.2.2.2.1 | exact hgl_.2.2.2.2.2.2.1 | exact hgl_.2.2.2.2.2.2.2.1 | exact hgl_ | exact rfl | exact one1 rfl | skip)))))
      all_goals trace_state
    · have h5' : pSpanOk s = false := by simpa using h5
      have hG : (!(!pSpanOk s)) = false := by rw [h5']; rfl
      refine fn_intro tt_ok Tryd.func42 rfl Tryd.call42 Tryd.ntmps42 Tryd.results42 rfl rfl rfl rfl ?_
      intro X ρ0 hb_ hgl_
      dsimp only [c_code]
      try refine nrm ?_
      repeat' (refine ar_id ?_; first | refine st1 ?_ | (first | ((first | refine ar_region (id := 1) tt_ok (inps := [.call (⟨82, [.agg [ro 51 2 eEntry k.Machine.Table.Entries], (SV.one (.lit (.int .i64 (s.Page))))], [], .sv (.agg [(CV.lit (.int .i64 (E.Mode))), (CV.lit (.int .i64 (E.Frame)))]), [], [], []⟩)]) rfl ?_ ?_ | refine ar_region (id := 2) tt_ok (inps := [.call (c_SpanOkI t s), .skip (SV.one (.lit (.bool (false))))]) rfl ?_ ?_ | refine ar_region tt_ok (inps := []) rfl ?_ ?_); rotate_left; (try dsimp only [c_SpanOkI]); (try refine nrm ?_); rotate_right) | refine ret3 ?_ | refine end3 ?_) | (refine ar_cond rfl trivial ?_ ?_ <;> intro hc_ <;> (try simp only [isNilI, inB, reduceCtorEq, cds] at hc_) <;> (try (first | contradiction | (exfalso; omega) | (exfalso; grind)))) | refine ar_until (And.intro ?_ (wk3 ?_)))
      all_goals (first | refine ar_id ?_ | (try (focus ((try refine nrmO ?_); (repeat' (first | exact True.intro | refine And.intro ?_ ?_)); all_goals (try (intro (hg_ : _ = true); (try simp only [isNilI, inB, reduceCtorEq, cds] at hg_); (repeat' (first | exact True.intro | refine And.intro ?_ ?_)))); all_goals (first | exact ob1 | exact hP | exact fn_SpanOkI _ _ | exact hG | exact hG.symm | exact hgl_.1 | exact hgl_.2.1 | exact hgl_.2.2.1 | exact hgl_.2.2.2.1 | exact hgl_.2.2.2.2.1 | exact hgl_.2.2.2.2.2.1 | exact hgl_.2.2.2.2.2.2.1 | exact hgl_.2.2.2.2.2.2.2.1 | exact hgl_ | exact rfl | exact one1 rfl | skip)))))
      all_goals trace_state
  all_goals
    have hb := bits_bd h1.1
    have hG : (!(!pSpanOk s)) = true := by rw [h1.1]; rfl
    obtain rfl := hc.symm.trans h
    refine fn_intro tt_ok Tryd.func42 rfl Tryd.call42 Tryd.ntmps42 Tryd.results42 rfl rfl rfl rfl ?_
    intro X ρ0 hb_ hgl_
    dsimp only [c_code]
    try refine nrm ?_
    repeat' (refine ar_id ?_; first | refine st1 ?_ | (first | ((first | refine ar_region (id := 1) tt_ok (inps := [.call (⟨82, [.agg [ro 51 2 eEntry k.Machine.Table.Entries], (SV.one (.lit (.int .i64 (s.Page))))], [], .sv (.agg [(CV.lit (.int .i64 (E.Mode))), (CV.lit (.int .i64 (E.Frame)))]), [], [], []⟩)]) rfl ?_ ?_ | refine ar_region (id := 2) tt_ok (inps := [.call (c_SpanOkI t s), .sure (c_HasI t s.Bits slot)]) rfl ?_ ?_ | refine ar_region (id := 4) tt_ok (inps := [.call (c_KOkI k), .call (c_isMapped E.Mode E.Frame)]) rfl ?_ ?_ | refine ar_region tt_ok (inps := []) rfl ?_ ?_); rotate_left; (try dsimp only [c_HasI, c_KOkI, c_SpanOkI, c_isMapped]); (try refine nrm ?_); rotate_right) | refine ret3 ?_ | refine end3 ?_) | (refine ar_cond rfl trivial ?_ ?_ <;> intro hc_ <;> (try simp only [isNilI, inB, reduceCtorEq, cds] at hc_) <;> (try (first | contradiction | (exfalso; omega) | (exfalso; first | grind | (unfold pKernelOk at *; simp only [decide_eq_true_eq, decide_eq_false_iff_not] at *; grind))))) | refine ar_until (And.intro ?_ (wk3 ?_)))
    all_goals (first | refine ar_id ?_ | (try (focus ((try refine nrmO ?_); (repeat' (first | exact True.intro | refine And.intro ?_ ?_)); all_goals (try (intro (hg_ : _ = true); (try simp only [isNilI, inB, reduceCtorEq, cds] at hg_); (repeat' (first | exact True.intro | refine And.intro ?_ ?_)))); all_goals (first | exact ob1 | exact hP | exact fn_SpanOkI _ _ | exact fn_HasI _ _ _ (by omega) | exact fn_KOkI _ (szK_from16 hs) | exact fn_isMapped _ _ | exact hG | exact hgl_.1 | exact hgl_.2.1 | exact hgl_.2.2.1 | exact hgl_.2.2.2.1 | exact hgl_.2.2.2.2.1 | exact hgl_.2.2.2.2.2.1 | exact hgl_.2.2.2.2.2.2.1 | exact hgl_.2.2.2.2.2.2.2.1 | exact hgl_ | exact rfl | exact one1 rfl | skip)))))
    all_goals trace_state
/-- a part of the cells of a slot's frame, that are known as0 the slice A n c -/
def c_slotC (t : Tb) (m : GMachine) (f : Nat) (s : GSpan) (slot : Int) (A : Option Addr) (n c : Nat) : CFD := ⟨43, [.agg [.ro 33 1 m.Frames.Cells.length (D.cat ((m.Frames.Cells.map eIntS).set f (.lit (.slice A n c) .nil))), ro 4 1 Tr.eB m.Frames.Used, ro 51 2 eEntry m.Table.Entries], .agg [(CV.lit (.int .i64 (s.Page))), (CV.lit (.int .i64 (s.Class))), (CV.lit (.int .i64 (s.Bits)))], (SV.one (.lit (.int .i64 (slot))))], [], .sv (.one (.lit (.slice (A.map (·.add (frAt s slot * 1))) (Cl.csz s.Class).toNat (c - frAt s slot)))), [], [], t.both⟩
set_option maxHeartbeats 2000000 in
theorem fn_slotC (t : Tb) (m : GMachine) (f : Nat) (s : GSpan) (slot : Int) (A : Option Addr) (n c : Nat) (hs : szM7 m) (hf : (pPageEntry m.Table s.Page).Frame = (f : Int)) (hf1 : f < m.Frames.Cells.length) (hn : 16 ≤ n) (hc : n ≤ c) (h1 : pSpanOk s = true) (h2 : Bm.has s.Bits slot = true) : Fn Tryd.prog (c_slotC t m f s slot A n c) := by
  have hen := hs.e
  obtain ⟨E, hE⟩ : ∃ E, pPageEntry m.Table s.Page = E := ⟨_, rfl⟩
  have hP := fn_PageEntryI m.Table s.Page hen
  unfold c_PageEntryI at hP
  rw [hE] at hP hf
  obtain ⟨b1, b2, ⟨b3, b4⟩, b5, b6⟩ := slot_bds h1 h2
  obtain ⟨_, _, a3, a4⟩ := fr_addr h1 h2
  obtain ⟨a, ha⟩ : ∃ a, frAt s slot = a := ⟨_, rfl⟩
  obtain ⟨z, hz⟩ : ∃ z, (Cl.csz s.Class).toNat = z := ⟨_, rfl⟩
  have hz' : Cl.csz s.Class = (z : Int) := by omega
  have hCz := fn_CszI t s.Class
  unfold c_CszI at hCz
  rw [hz'] at hCz a4 b3 b4
  rw [ha] at a3 a4
  rw [hz] at a3
  have hsl : ((m.Frames.Cells.map eIntS).set f (.lit (.slice A n c) .nil))[f]? = some (.lit (.slice A n c) .nil) := List.getElem?_set_self (by rw [List.length_map]; exact hf1)
  have hel : Elem (D.cat ((m.Frames.Cells.map eIntS).set f (.lit (.slice A n c) .nil))) 1 m.Frames.Cells.length (E.Frame).toNat (.lit (.slice A n c) .nil) := ⟨_, rfl, by simp, fun d hd => by
    rcases List.mem_or_eq_of_mem_set hd with h | rfl
    · obtain ⟨_, _, rfl⟩ := List.mem_map.1 h; rfl
    · rfl, by rw [hf, Int.toNat_natCast]; exact hsl⟩
  have e1 : (slot * (z : Int)).toNat = a := by omega
  have e2 : ((slot + 1) * (z : Int)).toNat - (slot * (z : Int)).toNat = z := by rw [Int.add_mul, Int.one_mul]; omega
  have g1 : (slot + 1) * (z : Int) = slot * (z : Int) + z := by rw [Int.add_mul, Int.one_mul]
  have hsb := slots_bd s.Class
  refine fn_intro tt_ok Tryd.func43 rfl Tryd.call43 Tryd.ntmps43 Tryd.results43 rfl rfl rfl rfl ?_
  intro X ρ0 hb_ hgl_
  dsimp only [c_slotC]
  try refine nrm ?_
  rw [ha, hz]
  repeat' (refine ar_id ?_; first | refine st1 ?_ | (first | ((first | refine ar_region (id := 1) tt_ok (inps := [.call (⟨55, [(SV.one (.lit (.int .i64 (s.Class))))], [], (TV.sv (.one (.lit (.int .i64 ((z : Int)))))), [], [], [t.gS]⟩)]) rfl ?_ ?_ | refine ar_region (id := 2) tt_ok (inps := [.call (⟨82, [.agg [ro 51 2 eEntry m.Table.Entries], (SV.one (.lit (.int .i64 (s.Page))))], [], .sv (.agg [(CV.lit (.int .i64 (E.Mode))), (CV.lit (.int .i64 (E.Frame)))]), [], [], []⟩)]) rfl ?_ ?_ | refine ar_region (id := 3) tt_ok (inps := [.elem (.lit (.slice A n c) .nil), .keep]) rfl ?_ ?_ | refine ar_region tt_ok (inps := []) rfl ?_ ?_); rotate_left; (try refine nrm ?_); rotate_right) | refine ret3 ?_ | refine end3 ?_) | (refine ar_cond rfl trivial ?_ ?_ <;> intro hc_ <;> (try simp only [isNilI, inB, reduceCtorEq, cds] at hc_) <;> (try (first | contradiction | (exfalso; omega) | (exfalso; omega)))) | refine ar_until (And.intro ?_ (wk3 ?_)))
  all_goals (first | refine ar_id ?_ | (try (focus ((try refine nrmO ?_); (repeat' (first | exact True.intro | refine And.intro ?_ ?_)); all_goals (try (intro (hg_ : _ = true); (try simp only [isNilI, inB, reduceCtorEq, cds] at hg_); (repeat' (first | exact True.intro | refine And.intro ?_ ?_)))); all_goals (first | exact ob1 | exact hCz | exact hP | exact hel | exact i64_ok (by omega) (by omega) | exact hgl_.1 | exact hgl_.2.1 | exact hgl_.2.2.1 | exact hgl_.2.2.2.1 | exact hgl_.2.2.2.2.1 | exact hgl_.2.2.2.2.2.1 | exact hgl_.2.2.2.2.2.2.1 | exact hgl_.2.2.2.2.2.2.2.1 | exact hgl_ | exact rfl | exact one1 rfl | skip)))))
  rw [e2, e1]
  rfl
def c_FrI (t : Tb) (k : GKernel) (s : GSpan) (slot : Int) (k2 : GKernel) (s2 : GSpan) (e : Int) : CFD := ⟨17, [.agg [ro 33 1 eIntS k.Machine.Frames.Cells, ro 4 1 Tr.eB k.Machine.Frames.Used, ro 51 2 eEntry k.Machine.Table.Entries, (CV.lit (.int .i64 (k.Calls))), ro 3 1 Tr.eI k.Refuse], .agg [(CV.lit (.int .i64 (s.Page))), (CV.lit (.int .i64 (s.Class))), (CV.lit (.int .i64 (s.Bits)))], (SV.one (.lit (.int .i64 (slot))))], [], .tup [.agg [.hd 0, .hd 1, .hd 2, (CV.lit (.int .i64 (k2.Calls))), .hd 3], .agg [(CV.lit (.int .i64 (s2.Page))), (CV.lit (.int .i64 (s2.Class))), (CV.lit (.int .i64 (s2.Bits)))], (SV.one (.lit (.int .i64 (e))))], [(0, some (.row 33 1 (k2.Machine.Frames.Cells.map eIntS))), (1, some (.row 4 1 (k2.Machine.Frames.Used.map Tr.eB))), (2, some (.row 51 2 (k2.Machine.Table.Entries.map eEntry))), (3, some (.row 3 1 (k2.Refuse.map Tr.eI)))], [0, 1, 2, 3], t.both⟩
set_option maxHeartbeats 2000000 in
theorem fn_FrI (t : Tb) (k : GKernel) (s : GSpan) (slot : Int) (k2 : GKernel) (s2 : GSpan) (e : Int) (hs : szK8 k) (h : pFreeSlot k s slot = (k2, s2, e)) : Fn Tryd.prog (c_FrI t k s slot k2 s2 e) := by
  unfold pFreeSlot at h
  by_cases hc : frCode k s slot = 0
  · rw [if_pos hc] at h
    obtain ⟨e1, e2⟩ := Prod.mk.inj h
    obtain ⟨e3, e4⟩ := Prod.mk.inj e2
    subst e1 e3 e4
    obtain ⟨h1, h2, h3, h4⟩ : (pSpanOk s = true ∧ Bm.has s.Bits slot = true) ∧ okK k ∧ modeOf k s.Page ≠ 0 ∧ modeOf k s.Page ≠ 1 := by
      rcases fr_cases k s slot with ⟨h, _⟩ | ⟨h, _⟩ | ⟨h, _⟩ | ⟨_, h⟩
      · rw [h] at hc; cases hc
      · rw [h] at hc; cases hc
      · rw [h] at hc; cases hc
      · exact h
    obtain ⟨f, hf, hf1, _, hf2, hf3⟩ := okM_entry h2.1 (show (pPageEntry k.Machine.Table s.Page).Mode ≠ 0 from h3)
    have hfr : frFrame k s = f := by unfold frFrame; rw [hf]; rfl
    obtain ⟨_, _, a3, a4⟩ := fr_addr h1.1 h1.2
    have hcs := (slot_bds h1.1 h1.2).2.2.2
    have hb := bits_bd h1.1
    unfold frK wiped
    rw [hfr]
    have hcode := fn_code t k s slot 0 hs hc
    have hgive := fn_sGive t s slot hb.1 hb.2
    obtain ⟨R, hR⟩ : ∃ R, k.Machine.Frames.Cells.getD f [] = R := ⟨_, rfl⟩
    rw [hR] at hf2
    have hrow : (k.Machine.Frames.Cells.map eIntS)[f]? = some (eIntS R) := by rw [← hR]; exact map_at hf1
    have hw := wipe_eq R (frAt s slot) (Cl.csz s.Class).toNat (by omega)
    have hcl := hs.m.c
    refine fn_intro tt_ok Tryd.func17 rfl Tryd.call17 Tryd.ntmps17 Tryd.results17 rfl rfl rfl rfl ?_
    intro X ρ0 hb_ hgl_
    dsimp only [c_FrI]
    try refine nrm ?_
    rw [hR]
    repeat' (refine ar_id ?_; first | refine st1 ?_ | (first | ((first | refine ar_region (id := 1) tt_ok (inps := [.call (c_CopyKI k)]) rfl ?_ ?_ | refine ar_region (id := 2) tt_ok (inps := [.call (c_code t k s slot 0)]) rfl ?_ ?_ | refine ar_region tt_ok (inps := []) rfl ?_ ?_); rotate_left; (try dsimp only [c_CopyKI, c_code]); (try refine nrm ?_); rotate_right) | refine ret3 ?_ | refine end3 ?_) | (refine ar_cond rfl trivial ?_ ?_ <;> intro hc_ <;> (try simp only [isNilI, inB, reduceCtorEq, cds] at hc_) <;> (try (first | contradiction | (exfalso; omega) | (exfalso; grind)))) | refine ar_until (And.intro ?_ (wk3 ?_)))
    all_goals (first | refine ar_id ?_ | (try (focus ((try refine nrmO ?_); (repeat' (first | exact True.intro | refine And.intro ?_ ?_)); all_goals (try (intro (hg_ : _ = true); (try simp only [isNilI, inB, reduceCtorEq, cds] at hg_); (repeat' (first | exact True.intro | refine And.intro ?_ ?_)))); all_goals (first | exact ob1 | exact fn_CopyKI _ (szK_from16 hs) | exact hcode | exact hgl_.1 | exact hgl_.2.1 | exact hgl_.2.2.1 | exact hgl_.2.2.2.1 | exact hgl_.2.2.2.2.1 | exact hgl_.2.2.2.2.2.1 | exact hgl_.2.2.2.2.2.2.1 | exact hgl_.2.2.2.2.2.2.2.1 | exact hgl_ | exact rfl | exact one1 rfl | skip)))))
    refine ar_open2 13000 f 0 90001 90002 (d := eIntS R) (R.map eI) rfl ?_ rfl ?_ rfl rfl rfl ?_
    · first | exact map_at (by omega) | assumption | exact set_at (by (try simp only [List.length_map, List.length_set]); omega) | (rw [List.getElem?_set_ne (by omega)]; exact map_at (by omega))
    · exact ⟨rfl, rfl, by intro e he; simp only [List.mem_map] at he; obtain ⟨_, _, rfl⟩ := he; rfl⟩
    intro A_90001 n_90001 c_90001 hn_90001 hc_90001
    try refine nrm ?_
    rw [List.length_map] at hn_90001
    have hsc := fn_slotC t k.Machine f s slot A_90001 n_90001 c_90001 hs.m hf hf1 (by omega) hc_90001 h1.1 h1.2
    refine ar_region (id := 5) tt_ok (inps := [.call (c_slotC t k.Machine f s slot A_90001 n_90001 c_90001), .nest .nil [(frAt s slot, 90002)]]) rfl ?_ ?_
    rotate_left
    (try dsimp only [c_slotC]); (try refine nrm ?_)
    refine ar_close 13000 f 0 90001 90002 rfl rfl rfl (set_at ?_) rfl rfl rfl ?_
    · (simp only [List.length_map, List.length_set]; omega)
    try refine nrm ?_
    repeat' (refine ar_id ?_; first | refine st1 ?_ | (first | ((first | refine ar_draw (id := 6) (inps := [.call (c_sGive t s slot)]) tt_ok (by kernel_rfl) rfl rfl (by kernel_rfl) rfl rfl rfl rfl ?_ ?_ | refine ar_region tt_ok (inps := []) rfl ?_ ?_); rotate_left; (try dsimp only [c_sGive]); (try refine nrm ?_); rotate_right) | refine ret3 ?_ | refine end3 ?_) | (refine ar_cond rfl trivial ?_ ?_ <;> intro hc_ <;> (try simp only [isNilI, inB, reduceCtorEq, cds] at hc_) <;> (try (first | contradiction | (exfalso; omega)))) | refine ar_until (And.intro ?_ (wk3 ?_)))
    all_goals (first | refine ar_id ?_ | (try (focus ((try refine nrmO ?_); (repeat' (first | exact True.intro | refine And.intro ?_ ?_)); all_goals (try (intro (hg_ : _ = true); (try simp only [isNilI, inB, reduceCtorEq, cds] at hg_); (repeat' (first | exact True.intro | refine And.intro ?_ ?_)))); all_goals (first | exact ob1 | exact hgive | exact hgl_.1 | exact hgl_.2.1 | exact hgl_.2.2.1 | exact hgl_.2.2.2.1 | exact hgl_.2.2.2.2.1 | exact hgl_.2.2.2.2.2.1 | exact hgl_.2.2.2.2.2.2.1 | exact hgl_.2.2.2.2.2.2.2.1 | exact hgl_ | exact rfl | exact one1 rfl | skip)))))
    all_goals (try (focus ((try refine nrmO ?_); (repeat' (first | exact True.intro | refine And.intro ?_ ?_)); all_goals (try (intro (hg_ : _ = true); (try simp only [isNilI, inB, reduceCtorEq, cds] at hg_); (repeat' (first | exact True.intro | refine And.intro ?_ ?_)))); all_goals (first | exact ob1 | exact hsc | exact hgl_.1 | exact hgl_.2.1 | exact hgl_.2.2.1 | exact hgl_.2.2.2.1 | exact hgl_.2.2.2.2.1 | exact hgl_.2.2.2.2.2.1 | exact hgl_.2.2.2.2.2.2.1 | exact hgl_.2.2.2.2.2.2.2.1 | exact hgl_ | exact rfl | exact one1 rfl | skip))))
    · have hwm : (R.map eI).take (frAt s slot) ++ (List.replicate (Cl.csz s.Class).toNat (D.lit ti3.z .nil) ++ (R.map eI).drop (frAt s slot + (Cl.csz s.Class).toNat)) = (wipe R (frAt s slot) (Cl.csz s.Class).toNat).map eI := by
        rw [← hw, List.map_append, List.map_append, List.map_take, List.map_drop, List.map_replicate]; rfl
      rw [hwm, List.set_set]
      show (List.map eIntS k.Machine.Frames.Cells).set f (eIntS (wipe R (frAt s slot) (Cl.csz s.Class).toNat)) = _
      exact List.map_set.symm
    · rw [List.length_set, List.length_map]
    · intro d hd
      obtain ⟨_, _, rfl⟩ := List.mem_map.1 hd
      exact ⟨rfl, trivial⟩
  · rw [if_neg hc] at h
    obtain ⟨e1, e2⟩ := Prod.mk.inj h
    obtain ⟨e3, e4⟩ := Prod.mk.inj e2
    subst e1 e3
    have hcode := fn_code t k s slot e hs e4
    rw [e4] at hc
    refine fn_intro tt_ok Tryd.func17 rfl Tryd.call17 Tryd.ntmps17 Tryd.results17 rfl rfl rfl rfl ?_
    intro X ρ0 hb_ hgl_
    dsimp only [c_FrI]
    try refine nrm ?_
    repeat' (refine ar_id ?_; first | refine st1 ?_ | (refine ar_drawS (id := 4) tt_ok (by kernel_rfl) [] ?_; refine ed_hide ?_; intro K_ hK_; repeat' (first | ((first | refine ed_call3 ?_ | refine ed_sure3 ?_ | refine ed_cons3 ?_); refine ed_hide ?_; intro K_ hK_; (try dsimp only [c_CopyKI, c_code]); (try refine nrmE ?_)) | (refine ed_nil ?_; (repeat subst hK_); dsimp only; refine Exists.intro _ (And.intro rfl (And.intro (by kernel_rfl) (And.intro ?_ ?_))); rotate_left; (try dsimp only [c_CopyKI, c_code]); (try refine nrm ?_); rotate_right))) | (first | ((first | refine ar_region (id := 1) tt_ok (inps := [.call (c_CopyKI k)]) rfl ?_ ?_ | refine ar_region (id := 2) tt_ok (inps := [.call (c_code t k s slot e)]) rfl ?_ ?_ | refine ar_region tt_ok (inps := []) rfl ?_ ?_); rotate_left; (try dsimp only [c_CopyKI, c_code]); (try refine nrm ?_); rotate_right) | refine ret3 ?_ | refine end3 ?_) | (refine ar_cond rfl trivial ?_ ?_ <;> intro hc_ <;> (try simp only [isNilI, inB, reduceCtorEq, cds] at hc_) <;> (try (first | contradiction | (exfalso; omega) | (exfalso; grind)))) | refine ar_until (And.intro ?_ (wk3 ?_)))
    all_goals (first | refine ar_id ?_ | (try (focus ((try refine nrmO ?_); (repeat' (first | exact True.intro | refine And.intro ?_ ?_)); all_goals (try (intro (hg_ : _ = true); (try simp only [isNilI, inB, reduceCtorEq, cds] at hg_); (repeat' (first | exact True.intro | refine And.intro ?_ ?_)))); all_goals (first | exact ob1 | exact fn_CopyKI _ (szK_from16 hs) | exact hcode | exact hgl_.1 | exact hgl_.2.1 | exact hgl_.2.2.1 | exact hgl_.2.2.2.1 | exact hgl_.2.2.2.2.1 | exact hgl_.2.2.2.2.2.1 | exact hgl_.2.2.2.2.2.2.1 | exact hgl_.2.2.2.2.2.2.2.1 | exact hgl_ | exact rfl | exact one1 rfl | skip)))))
    all_goals trace_state
end Eng
end Go.Proofs.YtgeakpeodhhffaaDoor
namespace Go.Proofs.YtgeakpeodhhffaaDoor
open Go.RowKit Go.ChangeShapes Go.WideShapes
namespace Tr
section
variable {H : Type} {enc : TypeId × Value → H} {w : World} {base : Nat} {spare : Nat → Bool} {held : Bool}
def okBoolS (l : List Bool) : Prop := ∀ x ∈ l, (fun _ => True) x
theorem opens_BoolS : Opens enc Tryd.prog w base spare held 25 eBoolS okBoolS := opens_slice Tryd.underlying25 (by kernel_rfl) (fun _ => rfl) (opens_bool Tryd.underlying4)
def okEntry (x : GEntry) : Prop := okI x.Mode ∧ okI x.Frame
theorem cells_Entry : Tryd.prog.cellsOf 169 = 2 := by kernel_rfl
set_option maxRecDepth 100000 in
theorem opens_Entry : Opens enc Tryd.prog w base spare held 169 eEntry okEntry := by
  intro fuel cs x h
  obtain ⟨ys, n, _, _, hl, hyl, hf⟩ := DataW.trod_struct Tryd.underlying169 h
  rw [cells_Entry] at hl
  match cs, hl, ys, hyl with
  | [c0, c1], _, [y0, y1], _ =>
  have h0 : DataW.trod enc Tryd.prog w base spare held n 3 ([c0, c1].drop 0 |>.take (Tryd.prog.cellsOf 3)) = some y0 := hf 0 _ rfl
  rw [show Tryd.prog.cellsOf 3 = 1 by kernel_rfl] at h0
  obtain ⟨a0, r0, k0⟩ := (opens_int Tryd.underlying3) _ _ _ h0
  have h1 : DataW.trod enc Tryd.prog w base spare held n 3 ([c0, c1].drop 1 |>.take (Tryd.prog.cellsOf 3)) = some y1 := hf 1 _ rfl
  rw [show Tryd.prog.cellsOf 3 = 1 by kernel_rfl] at h1
  obtain ⟨a1, r1, k1⟩ := (opens_int Tryd.underlying3) _ _ _ h1
  refine ⟨⟨a0, a1⟩, ?_, ⟨k0, k1⟩⟩
  exact (raw_app _ _).2 ⟨[c0], [c1], rfl, r0, r1⟩
def okEntryS (l : List GEntry) : Prop := ∀ x ∈ l, okEntry x
theorem opens_EntryS : Opens enc Tryd.prog w base spare held 55 eEntryS okEntryS := opens_slice Tryd.underlying55 (by kernel_rfl) (fun _ => rfl) opens_Entry
def okIntS (l : List Int) : Prop := ∀ x ∈ l, okI x
theorem opens_IntS : Opens enc Tryd.prog w base spare held 33 eIntS okIntS := opens_slice Tryd.underlying33 (by kernel_rfl) (fun _ => rfl) (opens_int Tryd.underlying3)
def okIntSS (l : List (List Int)) : Prop := ∀ x ∈ l, okIntS x
theorem opens_IntSS : Opens enc Tryd.prog w base spare held 24 eIntSS okIntSS := opens_slice Tryd.underlying24 (by kernel_rfl) (fun _ => rfl) opens_IntS
def okFrames (x : GFrames) : Prop := okIntSS x.Cells ∧ okBoolS x.Used
theorem cells_Frames : Tryd.prog.cellsOf 54 = 2 := by kernel_rfl
set_option maxRecDepth 100000 in
theorem opens_Frames : Opens enc Tryd.prog w base spare held 54 eFrames okFrames := by
  intro fuel cs x h
  obtain ⟨ys, n, _, _, hl, hyl, hf⟩ := DataW.trod_struct Tryd.underlying54 h
  rw [cells_Frames] at hl
  match cs, hl, ys, hyl with
  | [c0, c1], _, [y0, y1], _ =>
  have h0 : DataW.trod enc Tryd.prog w base spare held n 24 ([c0, c1].drop 0 |>.take (Tryd.prog.cellsOf 24)) = some y0 := hf 0 _ rfl
  rw [show Tryd.prog.cellsOf 24 = 1 by kernel_rfl] at h0
  obtain ⟨a0, r0, k0⟩ := opens_IntSS _ _ _ h0
  have h1 : DataW.trod enc Tryd.prog w base spare held n 25 ([c0, c1].drop 1 |>.take (Tryd.prog.cellsOf 25)) = some y1 := hf 1 _ rfl
  rw [show Tryd.prog.cellsOf 25 = 1 by kernel_rfl] at h1
  obtain ⟨a1, r1, k1⟩ := opens_BoolS _ _ _ h1
  refine ⟨⟨a0, a1⟩, ?_, ⟨k0, k1⟩⟩
  exact (raw_app _ _).2 ⟨[c0], [c1], rfl, r0, r1⟩
def okTable (x : GTable) : Prop := okEntryS x.Entries
theorem cells_Table : Tryd.prog.cellsOf 57 = 1 := by kernel_rfl
set_option maxRecDepth 100000 in
theorem opens_Table : Opens enc Tryd.prog w base spare held 57 eTable okTable := by
  intro fuel cs x h
  obtain ⟨ys, n, _, _, hl, hyl, hf⟩ := DataW.trod_struct Tryd.underlying57 h
  rw [cells_Table] at hl
  match cs, hl, ys, hyl with
  | [c0], _, [y0], _ =>
  have h0 : DataW.trod enc Tryd.prog w base spare held n 55 ([c0].drop 0 |>.take (Tryd.prog.cellsOf 55)) = some y0 := hf 0 _ rfl
  rw [show Tryd.prog.cellsOf 55 = 1 by kernel_rfl] at h0
  obtain ⟨a0, r0, k0⟩ := opens_EntryS _ _ _ h0
  refine ⟨⟨a0⟩, ?_, k0⟩
  exact r0
def okMachine (x : GMachine) : Prop := okFrames x.Frames ∧ okTable x.Table
theorem cells_Machine : Tryd.prog.cellsOf 59 = 3 := by kernel_rfl
set_option maxRecDepth 100000 in
theorem opens_Machine : Opens enc Tryd.prog w base spare held 59 eMachine okMachine := by
  intro fuel cs x h
  obtain ⟨ys, n, _, _, hl, hyl, hf⟩ := DataW.trod_struct Tryd.underlying59 h
  rw [cells_Machine] at hl
  match cs, hl, ys, hyl with
  | [c0, c1, c2], _, [y0, y1], _ =>
  have h0 : DataW.trod enc Tryd.prog w base spare held n 54 ([c0, c1, c2].drop 0 |>.take (Tryd.prog.cellsOf 54)) = some y0 := hf 0 _ rfl
  rw [show Tryd.prog.cellsOf 54 = 2 by kernel_rfl] at h0
  obtain ⟨a0, r0, k0⟩ := opens_Frames _ _ _ h0
  have h1 : DataW.trod enc Tryd.prog w base spare held n 57 ([c0, c1, c2].drop 2 |>.take (Tryd.prog.cellsOf 57)) = some y1 := hf 1 _ rfl
  rw [show Tryd.prog.cellsOf 57 = 1 by kernel_rfl] at h1
  obtain ⟨a1, r1, k1⟩ := opens_Table _ _ _ h1
  refine ⟨⟨a0, a1⟩, ?_, ⟨k0, k1⟩⟩
  exact (raw_app _ _).2 ⟨[c0, c1], [c2], rfl, r0, r1⟩
def okKernel (x : GKernel) : Prop := okMachine x.Machine ∧ okI x.Calls ∧ okIntS x.Refuse
theorem cells_Kernel : Tryd.prog.cellsOf 61 = 5 := by kernel_rfl
set_option maxRecDepth 100000 in
theorem opens_Kernel : Opens enc Tryd.prog w base spare held 61 eKernel okKernel := by
  intro fuel cs x h
  obtain ⟨ys, n, _, _, hl, hyl, hf⟩ := DataW.trod_struct Tryd.underlying61 h
  rw [cells_Kernel] at hl
  match cs, hl, ys, hyl with
  | [c0, c1, c2, c3, c4], _, [y0, y1, y2], _ =>
  have h0 : DataW.trod enc Tryd.prog w base spare held n 59 ([c0, c1, c2, c3, c4].drop 0 |>.take (Tryd.prog.cellsOf 59)) = some y0 := hf 0 _ rfl
  rw [show Tryd.prog.cellsOf 59 = 3 by kernel_rfl] at h0
  obtain ⟨a0, r0, k0⟩ := opens_Machine _ _ _ h0
  have h1 : DataW.trod enc Tryd.prog w base spare held n 3 ([c0, c1, c2, c3, c4].drop 3 |>.take (Tryd.prog.cellsOf 3)) = some y1 := hf 1 _ rfl
  rw [show Tryd.prog.cellsOf 3 = 1 by kernel_rfl] at h1
  obtain ⟨a1, r1, k1⟩ := (opens_int Tryd.underlying3) _ _ _ h1
  have h2 : DataW.trod enc Tryd.prog w base spare held n 33 ([c0, c1, c2, c3, c4].drop 4 |>.take (Tryd.prog.cellsOf 33)) = some y2 := hf 2 _ rfl
  rw [show Tryd.prog.cellsOf 33 = 1 by kernel_rfl] at h2
  obtain ⟨a2, r2, k2⟩ := opens_IntS _ _ _ h2
  refine ⟨⟨a0, a1, a2⟩, ?_, ⟨k0, k1, k2⟩⟩
  exact (raw_app _ _).2 ⟨[c0, c1, c2], [c3, c4], rfl, r0, (raw_app _ _).2 ⟨[c3], [c4], rfl, r1, r2⟩⟩
def okSpan (x : GSpan) : Prop := okI x.Page ∧ okI x.Class ∧ okI x.Bits
theorem cells_Span : Tryd.prog.cellsOf 62 = 3 := by kernel_rfl
set_option maxRecDepth 100000 in
theorem opens_Span : Opens enc Tryd.prog w base spare held 62 eSpan okSpan := by
  intro fuel cs x h
  obtain ⟨ys, n, _, _, hl, hyl, hf⟩ := DataW.trod_struct Tryd.underlying62 h
  rw [cells_Span] at hl
  match cs, hl, ys, hyl with
  | [c0, c1, c2], _, [y0, y1, y2], _ =>
  have h0 : DataW.trod enc Tryd.prog w base spare held n 3 ([c0, c1, c2].drop 0 |>.take (Tryd.prog.cellsOf 3)) = some y0 := hf 0 _ rfl
  rw [show Tryd.prog.cellsOf 3 = 1 by kernel_rfl] at h0
  obtain ⟨a0, r0, k0⟩ := (opens_int Tryd.underlying3) _ _ _ h0
  have h1 : DataW.trod enc Tryd.prog w base spare held n 3 ([c0, c1, c2].drop 1 |>.take (Tryd.prog.cellsOf 3)) = some y1 := hf 1 _ rfl
  rw [show Tryd.prog.cellsOf 3 = 1 by kernel_rfl] at h1
  obtain ⟨a1, r1, k1⟩ := (opens_int Tryd.underlying3) _ _ _ h1
  have h2 : DataW.trod enc Tryd.prog w base spare held n 3 ([c0, c1, c2].drop 2 |>.take (Tryd.prog.cellsOf 3)) = some y2 := hf 2 _ rfl
  rw [show Tryd.prog.cellsOf 3 = 1 by kernel_rfl] at h2
  obtain ⟨a2, r2, k2⟩ := (opens_int Tryd.underlying3) _ _ _ h2
  refine ⟨⟨a0, a1, a2⟩, ?_, ⟨k0, k1, k2⟩⟩
  exact (raw_app _ _).2 ⟨[c0], [c1, c2], rfl, r0, (raw_app _ _).2 ⟨[c1], [c2], rfl, r1, r2⟩⟩
end
end Tr
end Go.Proofs.YtgeakpeodhhffaaDoor
namespace Go.Proofs.YtgeakpeodhhffaaDoor
open Go.RowKit
set_option linter.unusedVariables false
set_option linter.unusedSimpArgs false
namespace Eng
open Tr
theorem rarg_K {w : World} {x : GKernel} {c0 c1 c2 c4 : Value} (h : Raw w (eKernel x) [c0, c1, c2, .int .i64 x.Calls, c4]) : SRel (cxOf w) noEnv (.agg [ro 33 1 eIntS x.Machine.Frames.Cells, ro 4 1 Tr.eB x.Machine.Frames.Used, ro 169 2 eEntry x.Machine.Table.Entries, (CV.lit (.int .i64 (x.Calls))), ro 3 1 Tr.eI x.Refuse]) (.agg #[c0, c1, c2, .int .i64 x.Calls, c4]) ∧ mxK x := by
  have h0 := raw_head h
  have h1 := raw_head h0.2
  have h2 := raw_head h1.2
  have h3 := raw_tail h2.2
  have h4 := raw_head h3
  exact ⟨⟨_, rfl, raw_ro (by decide) (fun _ => kpos_row (by decide) (fun _ => trivial)) h0.1, raw_ro (by decide) (fun _ => trivial) h1.1, raw_ro (by decide) (fun _ => trivial) h2.1, raw_lit rfl, raw_ro (by decide) (fun _ => trivial) h4.1, trivial⟩,
    ⟨⟨⟨⟨raw_max h0.1, raw_max2 h0.1⟩, raw_max h1.1⟩, ⟨raw_max h2.1⟩⟩, raw_max h4.1⟩⟩
end Eng
end Go.Proofs.YtgeakpeodhhffaaDoor
namespace Go.Proofs.YtgeakpeodhhffaaDoor
open Go.RowKit
set_option linter.unusedVariables false
set_option linter.unusedSimpArgs false
set_option maxRecDepth 100000
namespace Eng
open Tr
def c_SFreeSlot (x0 : GKernel) (x1 : GSpan) (x2 : Int) (r0 : GKernel) (r1 : GSpan) (r2 : Int) : CFD := ⟨14, [.agg [ro 33 1 eIntS x0.Machine.Frames.Cells, ro 4 1 Tr.eB x0.Machine.Frames.Used, ro 51 2 eEntry x0.Machine.Table.Entries, (CV.lit (.int .i64 (x0.Calls))), ro 3 1 Tr.eI x0.Refuse], .agg [(CV.lit (.int .i64 (x1.Page))), (CV.lit (.int .i64 (x1.Class))), (CV.lit (.int .i64 (x1.Bits)))], (SV.one (.lit (.int .i64 (x2))))], [], .tup [.agg [.hd 0, .hd 1, .hd 2, (CV.lit (.int .i64 (r0.Calls))), .hd 3], .agg [(CV.lit (.int .i64 (r1.Page))), (CV.lit (.int .i64 (r1.Class))), (CV.lit (.int .i64 (r1.Bits)))], (SV.one (.lit (.int .i64 (r2))))], [(0, some (.row 33 1 (r0.Machine.Frames.Cells.map eIntS))), (1, some (.row 4 1 (r0.Machine.Frames.Used.map Tr.eB))), (2, some (.row 51 2 (r0.Machine.Table.Entries.map eEntry))), (3, some (.row 3 1 (r0.Refuse.map Tr.eI)))], [0, 1, 2, 3], []⟩
def c_IFreeSlot (gl : List Glb) (x0 : GKernel) (x1 : GSpan) (x2 : Int) (r0 : GKernel) (r1 : GSpan) (r2 : Int) : CFD := ⟨17, [.agg [ro 33 1 eIntS x0.Machine.Frames.Cells, ro 4 1 Tr.eB x0.Machine.Frames.Used, ro 51 2 eEntry x0.Machine.Table.Entries, (CV.lit (.int .i64 (x0.Calls))), ro 3 1 Tr.eI x0.Refuse], .agg [(CV.lit (.int .i64 (x1.Page))), (CV.lit (.int .i64 (x1.Class))), (CV.lit (.int .i64 (x1.Bits)))], (SV.one (.lit (.int .i64 (x2))))], [], .tup [.agg [.hd 0, .hd 1, .hd 2, (CV.lit (.int .i64 (r0.Calls))), .hd 3], .agg [(CV.lit (.int .i64 (r1.Page))), (CV.lit (.int .i64 (r1.Class))), (CV.lit (.int .i64 (r1.Bits)))], (SV.one (.lit (.int .i64 (r2))))], [(0, some (.row 33 1 (r0.Machine.Frames.Cells.map eIntS))), (1, some (.row 4 1 (r0.Machine.Frames.Used.map Tr.eB))), (2, some (.row 51 2 (r0.Machine.Table.Entries.map eEntry))), (3, some (.row 3 1 (r0.Refuse.map Tr.eI)))], [0, 1, 2, 3], gl⟩
def c_XFreeSlot (gl : List Glb) (x0 : GKernel) (x1 : GSpan) (x2 : Int) : CFD := ⟨4, [.agg [ro 33 1 eIntS x0.Machine.Frames.Cells, ro 4 1 Tr.eB x0.Machine.Frames.Used, ro 169 2 eEntry x0.Machine.Table.Entries, (CV.lit (.int .i64 (x0.Calls))), ro 3 1 Tr.eI x0.Refuse], .agg [(CV.lit (.int .i64 (x1.Page))), (CV.lit (.int .i64 (x1.Class))), (CV.lit (.int .i64 (x1.Bits)))], (SV.one (.lit (.int .i64 (x2))))], [], (TV.sv (.one (.lit (.bool (true))))), [], [], gl⟩
set_option maxHeartbeats 16000000 in
theorem fn_XFreeSlot (gl : List Glb) (x0 : GKernel) (x1 : GSpan) (x2 : Int) (r0 : GKernel) (r1 : GSpan) (r2 : Int) (hm_x0 : mxK x0) (hR : nK x0 ≤ 1048576 → smK r0 ∧ cK r0 ≤ 50000000 ∧ Fn Tryd.prog (c_SFreeSlot x0 x1 x2 r0 r1 r2) ∧ Fn Tryd.prog (c_IFreeSlot gl x0 x1 x2 r0 r1 r2)) : Fn Tryd.prog (c_XFreeSlot gl x0 x1 x2) := by
  by_cases hz_x0 : 1048576 - ((nK x0 : Nat) : Int) < 0
  · skip
    refine fn_intro tt_ok Tryd.func4 rfl Tryd.call4 Tryd.ntmps4 Tryd.results4 rfl rfl rfl rfl ?_
    intro X ρ0 hb_ hgl_
    dsimp only [c_XFreeSlot]
    try refine nrm ?_
    repeat' (refine ar_id ?_; first | refine st1 ?_ | (first | ((first | refine ar_region (id := 2) tt_ok (inps := [.call (c_szK x0 (1048576) (-1))]) rfl ?_ ?_ | refine ar_region tt_ok (inps := []) rfl ?_ ?_); rotate_left; (try dsimp only [c_szK]); (try refine nrm ?_); rotate_right) | refine ret3 ?_ | refine end3 ?_) | (refine ar_cond rfl trivial ?_ ?_ <;> intro hc_ <;> (try simp only [isNilI, inB, reduceCtorEq, cds] at hc_) <;> (try (first | contradiction | (exfalso; omega)))) | refine ar_until (And.intro ?_ (wk3 ?_)))
    all_goals (first | refine ar_id ?_ | (try (focus ((try refine nrmO ?_); (repeat' (first | exact True.intro | refine And.intro ?_ ?_)); all_goals (try (intro (hg_ : _ = true); (try simp only [isNilI, inB, reduceCtorEq, cds] at hg_); (repeat' (first | exact True.intro | refine And.intro ?_ ?_)))); all_goals (first | exact ob1 | exact fn_szK _ _ _ hm_x0 (by omega) (by rw [if_pos hz_x0]) | skip)))))
  have hs_x0 : smK x0 := K_sm (by omega)
  have hn_x0 := K_cn x0
  obtain ⟨hs_r0, hc_r, hS, hI⟩ := hR (by omega)
  refine fn_intro tt_ok Tryd.func4 rfl Tryd.call4 Tryd.ntmps4 Tryd.results4 rfl rfl rfl rfl ?_
  intro X ρ0 hb_ hgl_
  dsimp only [c_XFreeSlot]
  try refine nrm ?_
  repeat' (refine ar_id ?_; first | refine st1 ?_ | (refine ar_drawS (id := 5) tt_ok (by kernel_rfl) [.call (c_toK x0), .call (c_toSp x1), .call (c_SFreeSlot x0 x1 x2 r0 r1 r2)] ?_; refine ed_hide ?_; intro K_ hK_; repeat' (first | ((first | refine ed_call3 ?_ | refine ed_sure3 ?_ | refine ed_cons3 ?_); refine ed_hide ?_; intro K_ hK_; (try dsimp only [c_IFreeSlot, c_SFreeSlot, c_eqK, c_eqSp, c_heldK, c_markK, c_szK, c_toK, c_toSp]); (try refine nrmE ?_)) | (refine ed_nil ?_; (repeat subst hK_); dsimp only; refine Exists.intro _ (And.intro rfl (And.intro (by kernel_rfl) (And.intro ?_ ?_))); rotate_left; (try dsimp only [c_IFreeSlot, c_SFreeSlot, c_eqK, c_eqSp, c_heldK, c_markK, c_szK, c_toK, c_toSp]); (try refine nrm ?_); rotate_right))) | (refine ar_drawS (id := 7) tt_ok (by kernel_rfl) [.call (c_toSp x1), .call (c_IFreeSlot gl x0 x1 x2 r0 r1 r2)] ?_; refine ed_hide ?_; intro K_ hK_; repeat' (first | ((first | refine ed_call3 ?_ | refine ed_sure3 ?_ | refine ed_cons3 ?_); refine ed_hide ?_; intro K_ hK_; (try dsimp only [c_IFreeSlot, c_SFreeSlot, c_eqK, c_eqSp, c_heldK, c_markK, c_szK, c_toK, c_toSp]); (try refine nrmE ?_)) | (refine ed_nil ?_; (repeat subst hK_); dsimp only; refine Exists.intro _ (And.intro rfl (And.intro (by kernel_rfl) (And.intro ?_ ?_))); rotate_left; (try dsimp only [c_IFreeSlot, c_SFreeSlot, c_eqK, c_eqSp, c_heldK, c_markK, c_szK, c_toK, c_toSp]); (try refine nrm ?_); rotate_right))) | (refine ar_drawS (id := 10) tt_ok (by kernel_rfl) [.call (c_toK x0), .call (c_eqK x0)] ?_; refine ed_hide ?_; intro K_ hK_; repeat' (first | ((first | refine ed_call3 ?_ | refine ed_sure3 ?_ | refine ed_cons3 ?_); refine ed_hide ?_; intro K_ hK_; (try dsimp only [c_IFreeSlot, c_SFreeSlot, c_eqK, c_eqSp, c_heldK, c_markK, c_szK, c_toK, c_toSp]); (try refine nrmE ?_)) | (refine ed_nil ?_; (repeat subst hK_); dsimp only; refine Exists.intro _ (And.intro rfl (And.intro (by kernel_rfl) (And.intro ?_ ?_))); rotate_left; (try dsimp only [c_IFreeSlot, c_SFreeSlot, c_eqK, c_eqSp, c_heldK, c_markK, c_szK, c_toK, c_toSp]); (try refine nrm ?_); rotate_right))) | (refine ar_drawS (id := 24) tt_ok (by kernel_rfl) [.call (c_toK x0), .call (c_toSp x1), .call (c_IFreeSlot gl x0 x1 x2 r0 r1 r2)] ?_; refine ed_hide ?_; intro K_ hK_; repeat' (first | ((first | refine ed_call3 ?_ | refine ed_sure3 ?_ | refine ed_cons3 ?_); refine ed_hide ?_; intro K_ hK_; (try dsimp only [c_IFreeSlot, c_SFreeSlot, c_eqK, c_eqSp, c_heldK, c_markK, c_szK, c_toK, c_toSp]); (try refine nrmE ?_)) | (refine ed_nil ?_; (repeat subst hK_); dsimp only; refine Exists.intro _ (And.intro rfl (And.intro (by kernel_rfl) (And.intro ?_ ?_))); rotate_left; (try dsimp only [c_IFreeSlot, c_SFreeSlot, c_eqK, c_eqSp, c_heldK, c_markK, c_szK, c_toK, c_toSp]); (try refine nrm ?_); rotate_right))) | (first | ((first | refine ar_region (id := 2) tt_ok (inps := [.call (c_szK x0 (1048576) (1048576 - ((nK x0 : Nat) : Int)))]) rfl ?_ ?_ | refine ar_region (id := 6) tt_ok (inps := [.call (c_toK x0)]) rfl ?_ ?_ | refine ar_region (id := 8) tt_ok (inps := [.call (c_eqK r0), .call (c_eqSp r1)]) rfl ?_ ?_ | refine ar_region (id := 13) tt_ok (inps := [.call (c_markK x0 (1))]) rfl ?_ ?_ | refine ar_region (id := 14) tt_ok (inps := [.call (c_eqK r0), .call (c_eqSp r1)]) rfl ?_ ?_ | refine ar_region (id := 17) tt_ok (inps := [.call (c_markK r0 (1))]) rfl ?_ ?_ | refine ar_region (id := 19) tt_ok (inps := [.call (c_heldK r0 (1))]) rfl ?_ ?_ | refine ar_region (id := 25) tt_ok (inps := [.call (c_eqK r0), .call (c_eqSp r1)]) rfl ?_ ?_ | refine ar_region (id := 28) tt_ok (inps := [.call (c_heldK r0 (1))]) rfl ?_ ?_ | refine ar_region tt_ok (inps := []) rfl ?_ ?_); rotate_left; (try dsimp only [c_IFreeSlot, c_SFreeSlot, c_eqK, c_eqSp, c_heldK, c_markK, c_szK, c_toK, c_toSp]); (try refine nrm ?_); rotate_right) | refine ret3 ?_ | refine end3 ?_) | (refine ar_cond rfl trivial ?_ ?_ <;> intro hc_ <;> (try simp only [isNilI, inB, reduceCtorEq, cds] at hc_) <;> (try (first | contradiction | (exfalso; omega)))) | refine ar_until (And.intro ?_ (wk3 ?_)))
  all_goals (first | refine ar_id ?_ | (try (focus ((try refine nrmO ?_); (repeat' (first | exact True.intro | refine And.intro ?_ ?_)); all_goals (try (intro (hg_ : _ = true); (try simp only [isNilI, inB, reduceCtorEq, cds] at hg_); (repeat' (first | exact True.intro | refine And.intro ?_ ?_)))); all_goals (first | exact ob1 | exact fn_szK _ _ _ hm_x0 (by omega) (by rw [if_neg hz_x0]) | exact hS | exact hI | exact fn_toK _ hs_x0 | exact fn_eqK _ hs_x0 | exact fn_eqK _ hs_r0 | exact fn_markK _ _ hs_x0 (by omega) | exact fn_markK _ _ hs_r0 (by omega) | exact fn_heldK _ _ hs_r0 (by omega) | exact fn_eqSp _ | exact fn_toSp _ | exact hgl_.1 | exact hgl_.2.1 | exact hgl_.2.2.1 | exact hgl_.2.2.2.1 | exact hgl_.2.2.2.2.1 | exact hgl_.2.2.2.2.2.1 | exact hgl_.2.2.2.2.2.2.1 | exact hgl_.2.2.2.2.2.2.2.1 | exact hgl_ | exact rfl | exact one1 rfl | skip)))))
  all_goals (exfalso; (try simp only [or_false, false_or, not_true_eq_false] at hc_); omega)
theorem fn_LFreeSlot (G : List Glb) (hI : ∀ k s slot k2 s2 e, szK8 k → pFreeSlot k s slot = (k2, s2, e) → Fn Tryd.prog (c_IFreeSlot G k s slot k2 s2 e)) (x0 : GKernel) (x1 : GSpan) (x2 : Int) (hm0 : mxK x0) : Fn Tryd.prog (c_XFreeSlot G x0 x1 x2) := by
  obtain ⟨⟨k2, s2, e⟩, hr⟩ : ∃ r, pFreeSlot x0 x1 x2 = r := ⟨_, rfl⟩
  refine fn_XFreeSlot G x0 x1 x2 k2 s2 e hm0 (fun hn => ?_)
  have hs0 : smK x0 := K_sm (by omega)
  have hi := kept_fr x0 x1 x2
  rw [hr] at hi
  have hk := n_kept hi
  have c1 := K_cn k2
  dsimp only at hk
  exact ⟨K_sm (by omega), by omega, fn_FrS x0 x1 x2 k2 s2 e (szK8_sm16 hs0) hr, hI x0 x1 x2 k2 s2 e (szK8_sm16 hs0) hr⟩
theorem arg_Sp16 {w : World} (s : GSpan) : SRel (cxOf w) noEnv (.agg [(CV.lit (.int .i64 (s.Page))), (CV.lit (.int .i64 (s.Class))), (CV.lit (.int .i64 (s.Bits)))]) (.agg #[.int .i64 s.Page, .int .i64 s.Class, .int .i64 s.Bits]) :=
  arg_lits (vs := [.int .i64 s.Page, .int .i64 s.Class, .int .i64 s.Bits]) rfl (by intro v hv; simp only [List.mem_cons, List.not_mem_nil, or_false] at hv; rcases hv with rfl | rfl | rfl <;> rfl)
end Eng
end Go.Proofs.YtgeakpeodhhffaaDoor
namespace Go.Proofs.YtgeakpeodhhffaaDoor
open Go.RowKit
set_option linter.unusedVariables false
set_option maxRecDepth 100000
namespace Eng
open Tr
theorem gl_at {w : World} {g : Nat} {cs : List Value} {T : Nat} (h : w.heap[g]? = some (.cells cs.toArray T (0, 0))) : GlX (cxOf w) ⟨g, cs, T, (0, 0)⟩ := ⟨h, LaidS.lt_of h, fun h => h⟩
theorem gl_arr {w : World} {g : Nat} {c : Array Value} {T : Nat} (h : w.heap[g]? = some (.cells c T (0, 0))) : GlX (cxOf w) ⟨g, c.toList, T, (0, 0)⟩ := gl_at (by rw [Array.toArray_toList]; exact h)
theorem se3 {w : World} (h : LaidS.At 188 [1, 2, 3] w) : ∃ s : Se, GlAll (GlX (cxOf w)) s.gl := by
  obtain ⟨xs, h1, h2, h3⟩ := h
  match xs, h1, h2 with
  | [a, b, c], _, h2 =>
    obtain ⟨⟨t1, k1⟩, c1, u1, l1⟩ := h3 0 _ a rfl rfl
    obtain ⟨⟨t2, k2⟩, c2, u2, l2⟩ := h3 1 _ b rfl rfl
    obtain ⟨⟨t3, k3⟩, c3, u3, l3⟩ := h3 2 _ c rfl rfl
    simp only [List.nodup_cons, List.mem_cons, List.not_mem_nil, or_false, not_or] at h2
    exact ⟨⟨a, b, c, c1.toList, c2.toList, c3.toList, u1, u2, u3, t1, t2, t3, h2.1.1, h2.1.2, h2.2.1⟩, gl_at k1, gl_at k2, gl_at k3, gl_arr l1, gl_arr l2, gl_arr l3, trivial⟩
end Eng
end Go.Proofs.YtgeakpeodhhffaaDoor
namespace Go.Proofs.YtgeakpeodhhffaaDoor
open Go.RowKit
set_option linter.unusedVariables false
namespace Tr
def clearTo (m : GMachine) (a : Int) (n : Nat) : Prop := ∀ j, j < n → pLoad m (a + ((j : Nat) : Int)) = (0, 0)
def pSlotClear (k : GKernel) (s : GSpan) (slot : Int) : Prop := 0 ≤ pSpanAddr s slot ∧ clearTo k.Machine (pSpanAddr s slot) (Cl.csz s.Class).toNat
theorem clear_succ {m : GMachine} {a : Int} {n : Nat} (h : clearTo m a n) (h2 : pLoad m (a + (n : Int)) = (0, 0)) : clearTo m a (n + 1) := fun j hj => by
  rcases Nat.lt_or_eq_of_le (Nat.lt_succ_iff.1 hj) with h3 | rfl
  · exact h j h3
  · exact h2
theorem addr_bd (s : GSpan) (slot : Int) : -1 ≤ pSpanAddr s slot ∧ pSpanAddr s slot ≤ 1000 := by
  unfold pSpanAddr
  split
  · rename_i h
    have h1 := (span_parts h.1).1
    have h2 := slots_bd s.Class
    have h3 := csz_bd s.Class
    have h4 : slot * Cl.csz s.Class ≤ 16 * 8 := Int.mul_le_mul (by omega) (by omega) (by omega) (by omega)
    have h5 : 0 ≤ slot * Cl.csz s.Class := Int.mul_nonneg (by omega) (by omega)
    omega
  · omega
instance (m : GMachine) (a : Int) (n : Nat) : Decidable (clearTo m a n) := by unfold clearTo; infer_instance
instance (k : GKernel) (s : GSpan) (slot : Int) : Decidable (pSlotClear k s slot) := by unfold pSlotClear; infer_instance
end Tr
end Go.Proofs.YtgeakpeodhhffaaDoor
namespace Go.Proofs.YtgeakpeodhhffaaDoor
open Go.RowKit
set_option linter.unusedVariables false
set_option linter.unusedSimpArgs false
set_option maxRecDepth 100000
namespace Eng
open Tr
def c_LdR (m : GMachine) (addr v x : Int) : CFD := ⟨53, [.agg [ro 33 1 eIntS m.Frames.Cells, ro 4 1 Tr.eB m.Frames.Used, ro 51 2 eEntry m.Table.Entries], (SV.one (.lit (.int .i64 (addr))))], [], .tup [(SV.one (.lit (.int .i64 (v)))), (SV.one (.lit (.int .i64 (x))))], [], [], []⟩
theorem fn_LdR (m : GMachine) (addr v x : Int) (hs : szM7 m) (ha : addr ≤ 9223372036854775807) (h : pLoad m addr = (v, x)) : Fn Tryd.prog (c_LdR m addr v x) := by
  have := fn_Load7 m addr hs ha
  unfold c_Load7 at this
  rw [h] at this
  exact this
def c_ClrS (k : GKernel) (s : GSpan) (slot : Int) (b : Bool) : CFD := ⟨22, [.agg [ro 33 1 eIntS k.Machine.Frames.Cells, ro 4 1 Tr.eB k.Machine.Frames.Used, ro 51 2 eEntry k.Machine.Table.Entries, (CV.lit (.int .i64 (k.Calls))), ro 3 1 Tr.eI k.Refuse], .agg [(CV.lit (.int .i64 (s.Page))), (CV.lit (.int .i64 (s.Class))), (CV.lit (.int .i64 (s.Bits)))], (SV.one (.lit (.int .i64 (slot))))], [], (TV.sv (.one (.lit (.bool (b))))), [], [], []⟩
set_option maxHeartbeats 2000000 in
theorem fn_ClrS (k : GKernel) (s : GSpan) (slot : Int) (b : Bool) (hs : szK8 k) (h : b = true ↔ pSlotClear k s slot) : Fn Tryd.prog (c_ClrS k s slot b) := by
  obtain ⟨a, ha⟩ : ∃ a, pSpanAddr s slot = a := ⟨_, rfl⟩
  have hab := addr_bd s slot
  have hA := fn_SpanAddr s slot
  unfold c_SpanAddr at hA
  have hcb := csz_bd s.Class
  obtain ⟨n, hn⟩ : ∃ n, (Cl.csz s.Class).toNat = n := ⟨_, rfl⟩
  have hn' : Cl.csz s.Class = (n : Int) := by omega
  have hCz := fn_CszS s.Class
  unfold c_CszS at hCz
  unfold pSlotClear at h
  rw [hn'] at hCz
  rw [ha] at hA hab h
  rw [hn] at h
  obtain rfl : decide (0 ≤ a ∧ clearTo k.Machine a n) = b := by rw [Bool.eq_iff_iff, decide_eq_true_iff]; exact h.symm
  have h0c : clearTo k.Machine a 0 := fun j hj => absurd hj (Nat.not_lt_zero j)
  by_cases h0 : a < 0
  · have hV : decide (0 ≤ a ∧ clearTo k.Machine a n) = false := decide_eq_false (fun h => by omega)
    refine fn_intro tt_ok Tryd.func22 rfl Tryd.call22 Tryd.ntmps22 Tryd.results22 rfl rfl rfl rfl ?_
    intro X ρ0 hb_ hgl_
    dsimp only [c_ClrS]
    try refine nrm ?_
    rw [hV]
    repeat' (refine ar_id ?_; first | refine st1 ?_ | (first | ((first | refine ar_region (id := 1) tt_ok (inps := [.call (⟨51, [.agg [(CV.lit (.int .i64 (s.Page))), (CV.lit (.int .i64 (s.Class))), (CV.lit (.int .i64 (s.Bits)))], (SV.one (.lit (.int .i64 (slot))))], [], (TV.sv (.one (.lit (.int .i64 (a))))), [], [], []⟩)]) rfl ?_ ?_ | refine ar_region tt_ok (inps := []) rfl ?_ ?_); rotate_left; (try refine nrm ?_); rotate_right) | refine ret3 ?_ | refine end3 ?_) | (refine ar_cond rfl trivial ?_ ?_ <;> intro hc_ <;> (try simp only [isNilI, inB, reduceCtorEq, cds] at hc_) <;> (try (first | contradiction | (exfalso; omega) | (exfalso; omega)))) | refine ar_until (And.intro ?_ (wk3 ?_)))
    all_goals (first | refine ar_id ?_ | (try (focus ((try refine nrmO ?_); (repeat' (first | exact True.intro | refine And.intro ?_ ?_)); all_goals (try (intro (hg_ : _ = true); (try simp only [isNilI, inB, reduceCtorEq, cds] at hg_); (repeat' (first | exact True.intro | refine And.intro ?_ ?_)))); all_goals (first | exact ob1 | exact hA | skip)))))
    all_goals trace_state
  · skip
    refine fn_intro tt_ok Tryd.func22 rfl Tryd.call22 Tryd.ntmps22 Tryd.results22 rfl rfl rfl rfl ?_
    intro X ρ0 hb_ hgl_
    dsimp only [c_ClrS]
    try refine nrm ?_
    repeat' (refine ar_id ?_; first | refine st1 ?_ | (first | ((first | refine ar_region (id := 1) tt_ok (inps := [.call (⟨51, [.agg [(CV.lit (.int .i64 (s.Page))), (CV.lit (.int .i64 (s.Class))), (CV.lit (.int .i64 (s.Bits)))], (SV.one (.lit (.int .i64 (slot))))], [], (TV.sv (.one (.lit (.int .i64 (a))))), [], [], []⟩)]) rfl ?_ ?_ | refine ar_region tt_ok (inps := []) rfl ?_ ?_); rotate_left; (try refine nrm ?_); rotate_right) | refine ret3 ?_ | refine end3 ?_) | (refine ar_cond rfl trivial ?_ ?_ <;> intro hc_ <;> (try simp only [isNilI, inB, reduceCtorEq, cds] at hc_) <;> (try (first | contradiction | (exfalso; omega) | (exfalso; omega)))) | refine ar_until (And.intro ?_ (wk3 ?_)))
    all_goals (first | refine ar_id ?_ | (try (focus ((try refine nrmO ?_); (repeat' (first | exact True.intro | refine And.intro ?_ ?_)); all_goals (try (intro (hg_ : _ = true); (try simp only [isNilI, inB, reduceCtorEq, cds] at hg_); (repeat' (first | exact True.intro | refine And.intro ?_ ?_)))); all_goals (first | exact ob1 | exact hA | skip)))))
    refine ar_keep 2015 (by dsimp only [keepS] <;> exact rfl) ?_
    refine ar_forM (n) (fun i => clearTo k.Machine a i) (fun i => [(8, (TV.sv (.one (.lit (.int .i64 (i))))))]) (fun i => []) ?_ ?_ ?_
    rotate_left
    · first | trivial | simp
    (dsimp only [rnCap, capSVs, Int.toNat_natCast, ro, Nat.reduceAdd, Nat.reduceMul, Nat.zero_add, List.map, putT, app, wrapG, gOb, argT, keys, slotOf, dropped, gAnd, wB, rnT, rnS, rnC, rnCs, rnSs, rnM, rnB, rnN, rn, lk, St.over, ded, delL, keepT, menT, menSs, menS, menCs, menC, hasN, resT, SV.cells]; refine wk3 ?_; (focus ((try refine nrmO ?_); (repeat' (first | exact True.intro | refine And.intro ?_ ?_)); all_goals (try (intro (hg_ : _ = true); (try simp only [isNilI, inB, reduceCtorEq, cds] at hg_); (repeat' (first | exact True.intro | refine And.intro ?_ ?_)))); all_goals (first | exact ob1 | exact rfl | skip))))
    rotate_right
    intro i hi_ hiI_
    dsimp only [rnCap, capSVs, Int.toNat_natCast, ro, Nat.reduceAdd, Nat.reduceMul, Nat.zero_add, List.map, putT, app, wrapG, gOb, argT, keys, slotOf, dropped, gAnd, wB, rnT, rnS, rnC, rnCs, rnSs, rnM, rnB, rnN, rn, lk, St.over, ded, delL, keepT, menT, menSs, menS, menCs, menC, hasN, resT, SV.cells]
    obtain ⟨⟨v, x⟩, hl⟩ : ∃ r, pLoad k.Machine (a + ((i : Nat) : Int)) = r := ⟨_, rfl⟩
    have hL := fn_LdR k.Machine (a + (i : Int)) v x hs.m (by omega) hl
    repeat' (refine ar_id ?_; first | refine st1 ?_ | (first | ((first | refine ar_region (id := 5) tt_ok (inps := [.call (⟨52, [(SV.one (.lit (.int .i64 (s.Class))))], [], (TV.sv (.one (.lit (.int .i64 ((n : Int)))))), [], [], []⟩)]) rfl ?_ ?_ | refine ar_region (id := 7) tt_ok (inps := [.call (c_LdR k.Machine (a + (i : Int)) v x)]) rfl ?_ ?_ | refine ar_region tt_ok (inps := []) rfl ?_ ?_); rotate_left; (try dsimp only [c_LdR]); (try refine nrm ?_); rotate_right) | refine ret3 ?_ | refine end3 ?_) | (refine ar_cond rfl trivial ?_ ?_ <;> intro hc_ <;> (try simp only [isNilI, inB, reduceCtorEq, cds] at hc_) <;> (try (first | contradiction | (exfalso; omega)))) | refine ar_until (And.intro ?_ (wk3 ?_)))
    all_goals (first | refine ar_id ?_ | (try (focus ((try refine nrmO ?_); (repeat' (first | exact True.intro | refine And.intro ?_ ?_)); all_goals (try (intro (hg_ : _ = true); (try simp only [isNilI, inB, reduceCtorEq, cds] at hg_); (repeat' (first | exact True.intro | refine And.intro ?_ ?_)))); all_goals (first | exact ob1 | exact hCz | exact hL | exact i64_ok (by omega) (by omega) | skip)))))
    · refine bf fun h => ?_
      have h2 := h.2 i (by omega)
      rw [hl] at h2
      obtain ⟨e1, e2⟩ := Prod.mk.inj h2
      rcases hc_ with hc_ | hc_
      · exact hc_ e1
      · exact hc_ e2
    · exact clear_succ hiI_ (by rw [hl, hc_.1, hc_.2])
    · exact bt ⟨by omega, by rw [show n = i by omega]; exact hiI_⟩
    all_goals first | (intro j hj; omega) | trace_state
end Eng
end Go.Proofs.YtgeakpeodhhffaaDoor
namespace Go.Proofs.YtgeakpeodhhffaaDoor
open Go.RowKit
set_option linter.unusedVariables false
set_option linter.unusedSimpArgs false
set_option maxRecDepth 100000
namespace Eng
open Tr
def c_LdI (S : Se) (m : GMachine) (addr v x : Int) : CFD := ⟨56, [.agg [ro 33 1 eIntS m.Frames.Cells, ro 4 1 Tr.eB m.Frames.Used, ro 51 2 eEntry m.Table.Entries], (SV.one (.lit (.int .i64 (addr))))], [], .tup [(SV.one (.lit (.int .i64 (v)))), (SV.one (.lit (.int .i64 (x))))], [], [], S.gl⟩
theorem fn_LdI (S : Se) (m : GMachine) (addr v x : Int) (hs : szM7 m) (ha : okI addr) (h : pLoad m addr = (v, x)) : Fn Tryd.prog (c_LdI S m addr v x) := by
  have := fn_LoadI S m addr ⟨hs.c, hs.u, hs.r, hs.e⟩ ha
  unfold c_LoadI at this
  rw [h] at this
  exact this
def c_ClrI (t : Tb) (S : Se) (k : GKernel) (s : GSpan) (slot : Int) (b : Bool) : CFD := ⟨23, [.agg [ro 33 1 eIntS k.Machine.Frames.Cells, ro 4 1 Tr.eB k.Machine.Frames.Used, ro 51 2 eEntry k.Machine.Table.Entries, (CV.lit (.int .i64 (k.Calls))), ro 3 1 Tr.eI k.Refuse], .agg [(CV.lit (.int .i64 (s.Page))), (CV.lit (.int .i64 (s.Class))), (CV.lit (.int .i64 (s.Bits)))], (SV.one (.lit (.int .i64 (slot))))], [], (TV.sv (.one (.lit (.bool (b))))), [], [], t.gS :: S.gl⟩
set_option maxHeartbeats 2000000 in
theorem fn_ClrI (t : Tb) (S : Se) (k : GKernel) (s : GSpan) (slot : Int) (b : Bool) (hs : szK8 k) (h : b = true ↔ pSlotClear k s slot) : Fn Tryd.prog (c_ClrI t S k s slot b) := by
  obtain ⟨a, ha⟩ : ∃ a, pSpanAddr s slot = a := ⟨_, rfl⟩
  have hab := addr_bd s slot
  have hA := fn_SpanAddrI t s slot
  unfold c_SpanAddrI at hA
  have hcb := csz_bd s.Class
  obtain ⟨n, hn⟩ : ∃ n, (Cl.csz s.Class).toNat = n := ⟨_, rfl⟩
  have hn' : Cl.csz s.Class = (n : Int) := by omega
  have hCz := fn_CszI t s.Class
  unfold c_CszI at hCz
  unfold pSlotClear at h
  rw [hn'] at hCz
  rw [ha] at hA hab h
  rw [hn] at h
  obtain rfl : decide (0 ≤ a ∧ clearTo k.Machine a n) = b := by rw [Bool.eq_iff_iff, decide_eq_true_iff]; exact h.symm
  have h0c : clearTo k.Machine a 0 := fun j hj => absurd hj (Nat.not_lt_zero j)
  by_cases h0 : a < 0
  · have hV : decide (0 ≤ a ∧ clearTo k.Machine a n) = false := decide_eq_false (fun h => by omega)
    refine fn_intro tt_ok Tryd.func23 rfl Tryd.call23 Tryd.ntmps23 Tryd.results23 rfl rfl rfl rfl ?_
    intro X ρ0 hb_ hgl_
    dsimp only [c_ClrI]
    try refine nrm ?_
    rw [hV]
    repeat' (refine ar_id ?_; first | refine st1 ?_ | (first | ((first | refine ar_region (id := 1) tt_ok (inps := [.call (⟨54, [.agg [(CV.lit (.int .i64 (s.Page))), (CV.lit (.int .i64 (s.Class))), (CV.lit (.int .i64 (s.Bits)))], (SV.one (.lit (.int .i64 (slot))))], [], (TV.sv (.one (.lit (.int .i64 (a))))), [], [], [t.gS]⟩)]) rfl ?_ ?_ | refine ar_region tt_ok (inps := []) rfl ?_ ?_); rotate_left; (try refine nrm ?_); rotate_right) | refine ret3 ?_ | refine end3 ?_) | (refine ar_cond rfl trivial ?_ ?_ <;> intro hc_ <;> (try simp only [isNilI, inB, reduceCtorEq, cds] at hc_) <;> (try (first | contradiction | (exfalso; omega) | (exfalso; omega)))) | refine ar_until (And.intro ?_ (wk3 ?_)))
    all_goals (first | refine ar_id ?_ | (try (focus ((try refine nrmO ?_); (repeat' (first | exact True.intro | refine And.intro ?_ ?_)); all_goals (try (intro (hg_ : _ = true); (try simp only [isNilI, inB, reduceCtorEq, cds] at hg_); (repeat' (first | exact True.intro | refine And.intro ?_ ?_)))); all_goals (first | exact ob1 | exact hA | exact hgl_.1 | exact hgl_.1 | exact hgl_.2.1 | exact hgl_.2.2.1 | exact hgl_.2.2.2.1 | exact hgl_.2.2.2.2.1 | exact hgl_.2.2.2.2.2.1 | exact hgl_.2.2.2.2.2.2.1 | exact hgl_.2.2.2.2.2.2.2.1 | exact hgl_ | exact rfl | exact one1 rfl | skip)))))
    all_goals trace_state
  · skip
    refine fn_intro tt_ok Tryd.func23 rfl Tryd.call23 Tryd.ntmps23 Tryd.results23 rfl rfl rfl rfl ?_
    intro X ρ0 hb_ hgl_
    dsimp only [c_ClrI]
    try refine nrm ?_
    repeat' (refine ar_id ?_; first | refine st1 ?_ | (first | ((first | refine ar_region (id := 1) tt_ok (inps := [.call (⟨54, [.agg [(CV.lit (.int .i64 (s.Page))), (CV.lit (.int .i64 (s.Class))), (CV.lit (.int .i64 (s.Bits)))], (SV.one (.lit (.int .i64 (slot))))], [], (TV.sv (.one (.lit (.int .i64 (a))))), [], [], [t.gS]⟩)]) rfl ?_ ?_ | refine ar_region (id := 4) tt_ok (inps := [.call (⟨55, [(SV.one (.lit (.int .i64 (s.Class))))], [], (TV.sv (.one (.lit (.int .i64 ((n : Int)))))), [], [], [t.gS]⟩)]) rfl ?_ ?_ | refine ar_region tt_ok (inps := []) rfl ?_ ?_); rotate_left; (try refine nrm ?_); rotate_right) | refine ret3 ?_ | refine end3 ?_) | (refine ar_cond rfl trivial ?_ ?_ <;> intro hc_ <;> (try simp only [isNilI, inB, reduceCtorEq, cds] at hc_) <;> (try (first | contradiction | (exfalso; omega) | (exfalso; omega)))) | refine ar_until (And.intro ?_ (wk3 ?_)))
    all_goals (first | refine ar_id ?_ | (try (focus ((try refine nrmO ?_); (repeat' (first | exact True.intro | refine And.intro ?_ ?_)); all_goals (try (intro (hg_ : _ = true); (try simp only [isNilI, inB, reduceCtorEq, cds] at hg_); (repeat' (first | exact True.intro | refine And.intro ?_ ?_)))); all_goals (first | exact ob1 | exact hA | exact hCz | exact hgl_.1 | exact hgl_.1 | exact hgl_.2.1 | exact hgl_.2.2.1 | exact hgl_.2.2.2.1 | exact hgl_.2.2.2.2.1 | exact hgl_.2.2.2.2.2.1 | exact hgl_.2.2.2.2.2.2.1 | exact hgl_.2.2.2.2.2.2.2.1 | exact hgl_ | exact rfl | exact one1 rfl | skip)))))
    refine ar_keep 788447 (by dsimp only [keepS] <;> exact rfl) ?_
    refine ar_forM (n) (fun i => clearTo k.Machine a i) (fun i => [(19, (TV.sv (.one (.lit (.int .i64 (i))))))]) (fun i => []) ?_ ?_ ?_
    rotate_left
    · first | trivial | simp
    (dsimp only [rnCap, capSVs, Int.toNat_natCast, ro, Nat.reduceAdd, Nat.reduceMul, Nat.zero_add, List.map, putT, app, wrapG, gOb, argT, keys, slotOf, dropped, gAnd, wB, rnT, rnS, rnC, rnCs, rnSs, rnM, rnB, rnN, rn, lk, St.over, ded, delL, keepT, menT, menSs, menS, menCs, menC, hasN, resT, SV.cells]; refine wk3 ?_; (focus ((try refine nrmO ?_); (repeat' (first | exact True.intro | refine And.intro ?_ ?_)); all_goals (try (intro (hg_ : _ = true); (try simp only [isNilI, inB, reduceCtorEq, cds] at hg_); (repeat' (first | exact True.intro | refine And.intro ?_ ?_)))); all_goals (first | exact ob1 | exact rfl | skip))))
    rotate_right
    intro i hi_ hiI_
    dsimp only [rnCap, capSVs, Int.toNat_natCast, ro, Nat.reduceAdd, Nat.reduceMul, Nat.zero_add, List.map, putT, app, wrapG, gOb, argT, keys, slotOf, dropped, gAnd, wB, rnT, rnS, rnC, rnCs, rnSs, rnM, rnB, rnN, rn, lk, St.over, ded, delL, keepT, menT, menSs, menS, menCs, menC, hasN, resT, SV.cells]
    obtain ⟨⟨v, x⟩, hl⟩ : ∃ r, pLoad k.Machine (a + ((i : Nat) : Int)) = r := ⟨_, rfl⟩
    have hL := fn_LdI S k.Machine (a + (i : Int)) v x hs.m ⟨by omega, by omega⟩ hl
    repeat' (refine ar_id ?_; first | refine st1 ?_ | (first | ((first | refine ar_region (id := 7) tt_ok (inps := [.call (c_LdI S k.Machine (a + (i : Int)) v x)]) rfl ?_ ?_ | refine ar_region tt_ok (inps := []) rfl ?_ ?_); rotate_left; (try dsimp only [c_LdI]); (try refine nrm ?_); rotate_right) | refine ret3 ?_ | refine end3 ?_) | (refine ar_cond rfl trivial ?_ ?_ <;> intro hc_ <;> (try simp only [isNilI, inB, reduceCtorEq, cds] at hc_) <;> (try (first | contradiction | (exfalso; omega)))) | refine ar_until (And.intro ?_ (wk3 ?_)))
    all_goals (first | refine ar_id ?_ | (try (focus ((try refine nrmO ?_); (repeat' (first | exact True.intro | refine And.intro ?_ ?_)); all_goals (try (intro (hg_ : _ = true); (try simp only [isNilI, inB, reduceCtorEq, cds] at hg_); (repeat' (first | exact True.intro | refine And.intro ?_ ?_)))); all_goals (first | exact ob1 | exact hL | exact i64_ok (by omega) (by omega) | exact hgl_.2 | exact hgl_.1 | exact hgl_.2.1 | exact hgl_.2.2.1 | exact hgl_.2.2.2.1 | exact hgl_.2.2.2.2.1 | exact hgl_.2.2.2.2.2.1 | exact hgl_.2.2.2.2.2.2.1 | exact hgl_.2.2.2.2.2.2.2.1 | exact hgl_ | exact rfl | exact one1 rfl | skip)))))
    · refine bf fun h => ?_
      have h2 := h.2 i (by omega)
      rw [hl] at h2
      obtain ⟨e1, e2⟩ := Prod.mk.inj h2
      rcases hc_ with hc_ | hc_
      · exact hc_ e2
      · exact hc_ e1
    · exact clear_succ hiI_ (by rw [hl, hc_.1, hc_.2])
    · exact bt ⟨by omega, by rw [show n = i by omega]; exact hiI_⟩
    all_goals first | (intro j hj; omega) | trace_state
end Eng
end Go.Proofs.YtgeakpeodhhffaaDoor
namespace Go.Proofs.YtgeakpeodhhffaaDoor
open Go.RowKit
set_option linter.unusedVariables false
set_option linter.unusedSimpArgs false
set_option maxRecDepth 100000
namespace Eng
open Tr
def c_SSlotClear (x0 : GKernel) (x1 : GSpan) (x2 : Int) (r0 : Bool) : CFD := ⟨22, [.agg [ro 33 1 eIntS x0.Machine.Frames.Cells, ro 4 1 Tr.eB x0.Machine.Frames.Used, ro 51 2 eEntry x0.Machine.Table.Entries, (CV.lit (.int .i64 (x0.Calls))), ro 3 1 Tr.eI x0.Refuse], .agg [(CV.lit (.int .i64 (x1.Page))), (CV.lit (.int .i64 (x1.Class))), (CV.lit (.int .i64 (x1.Bits)))], (SV.one (.lit (.int .i64 (x2))))], [], .sv ((SV.one (.lit (.bool (r0))))), [], [], []⟩
def c_ISlotClear (gl : List Glb) (x0 : GKernel) (x1 : GSpan) (x2 : Int) (r0 : Bool) : CFD := ⟨23, [.agg [ro 33 1 eIntS x0.Machine.Frames.Cells, ro 4 1 Tr.eB x0.Machine.Frames.Used, ro 51 2 eEntry x0.Machine.Table.Entries, (CV.lit (.int .i64 (x0.Calls))), ro 3 1 Tr.eI x0.Refuse], .agg [(CV.lit (.int .i64 (x1.Page))), (CV.lit (.int .i64 (x1.Class))), (CV.lit (.int .i64 (x1.Bits)))], (SV.one (.lit (.int .i64 (x2))))], [], .sv ((SV.one (.lit (.bool (r0))))), [], [], gl⟩
def c_XSlotClear (gl : List Glb) (x0 : GKernel) (x1 : GSpan) (x2 : Int) : CFD := ⟨5, [.agg [ro 33 1 eIntS x0.Machine.Frames.Cells, ro 4 1 Tr.eB x0.Machine.Frames.Used, ro 169 2 eEntry x0.Machine.Table.Entries, (CV.lit (.int .i64 (x0.Calls))), ro 3 1 Tr.eI x0.Refuse], .agg [(CV.lit (.int .i64 (x1.Page))), (CV.lit (.int .i64 (x1.Class))), (CV.lit (.int .i64 (x1.Bits)))], (SV.one (.lit (.int .i64 (x2))))], [], (TV.sv (.one (.lit (.bool (true))))), [], [], gl⟩
set_option maxHeartbeats 16000000 in
theorem fn_XSlotClear (gl : List Glb) (x0 : GKernel) (x1 : GSpan) (x2 : Int) (r0 : Bool) (hm_x0 : mxK x0) (hR : nK x0 ≤ 1048576 → Fn Tryd.prog (c_SSlotClear x0 x1 x2 r0) ∧ Fn Tryd.prog (c_ISlotClear gl x0 x1 x2 r0)) : Fn Tryd.prog (c_XSlotClear gl x0 x1 x2) := by
  by_cases hz_x0 : 1048576 - ((nK x0 : Nat) : Int) < 0
  · skip
    refine fn_intro tt_ok Tryd.func5 rfl Tryd.call5 Tryd.ntmps5 Tryd.results5 rfl rfl rfl rfl ?_
    intro X ρ0 hb_ hgl_
    dsimp only [c_XSlotClear]
    try refine nrm ?_
    repeat' (refine ar_id ?_; first | refine st1 ?_ | (first | ((first | refine ar_region (id := 2) tt_ok (inps := [.call (c_szK x0 (1048576) (-1))]) rfl ?_ ?_ | refine ar_region tt_ok (inps := []) rfl ?_ ?_); rotate_left; (try dsimp only [c_szK]); (try refine nrm ?_); rotate_right) | refine ret3 ?_ | refine end3 ?_) | (refine ar_cond rfl trivial ?_ ?_ <;> intro hc_ <;> (try simp only [isNilI, inB, reduceCtorEq, cds] at hc_) <;> (try (first | contradiction | (exfalso; omega)))) | refine ar_until (And.intro ?_ (wk3 ?_)))
    all_goals (first | refine ar_id ?_ | (try (focus ((try refine nrmO ?_); (repeat' (first | exact True.intro | refine And.intro ?_ ?_)); all_goals (try (intro (hg_ : _ = true); (try simp only [isNilI, inB, reduceCtorEq, cds] at hg_); (repeat' (first | exact True.intro | refine And.intro ?_ ?_)))); all_goals (first | exact ob1 | exact fn_szK _ _ _ hm_x0 (by omega) (by rw [if_pos hz_x0]) | skip)))))
  have hs_x0 : smK x0 := K_sm (by omega)
  have hn_x0 := K_cn x0
  obtain ⟨hS, hI⟩ := hR (by omega)
  have hne_r0 : (r0 != r0) = false := by simp
  refine fn_intro tt_ok Tryd.func5 rfl Tryd.call5 Tryd.ntmps5 Tryd.results5 rfl rfl rfl rfl ?_
  intro X ρ0 hb_ hgl_
  dsimp only [c_XSlotClear]
  try refine nrm ?_
  repeat' (refine ar_id ?_; first | refine st1 ?_ | (refine ar_drawS (id := 5) tt_ok (by kernel_rfl) [.call (c_toK x0), .call (c_toSp x1), .call (c_SSlotClear x0 x1 x2 r0)] ?_; refine ed_hide ?_; intro K_ hK_; repeat' (first | ((first | refine ed_call3 ?_ | refine ed_sure3 ?_ | refine ed_cons3 ?_); refine ed_hide ?_; intro K_ hK_; (try dsimp only [c_ISlotClear, c_SSlotClear, c_eqK, c_szK, c_toK, c_toSp]); (try refine nrmE ?_)) | (refine ed_nil ?_; (repeat subst hK_); dsimp only; refine Exists.intro _ (And.intro rfl (And.intro (by kernel_rfl) (And.intro ?_ ?_))); rotate_left; (try dsimp only [c_ISlotClear, c_SSlotClear, c_eqK, c_szK, c_toK, c_toSp]); (try refine nrm ?_); rotate_right))) | (refine ar_drawS (id := 7) tt_ok (by kernel_rfl) [.call (c_toSp x1), .call (c_ISlotClear gl x0 x1 x2 r0)] ?_; refine ed_hide ?_; intro K_ hK_; repeat' (first | ((first | refine ed_call3 ?_ | refine ed_sure3 ?_ | refine ed_cons3 ?_); refine ed_hide ?_; intro K_ hK_; (try dsimp only [c_ISlotClear, c_SSlotClear, c_eqK, c_szK, c_toK, c_toSp]); (try refine nrmE ?_)) | (refine ed_nil ?_; (repeat subst hK_); dsimp only; refine Exists.intro _ (And.intro rfl (And.intro (by kernel_rfl) (And.intro ?_ ?_))); rotate_left; (try dsimp only [c_ISlotClear, c_SSlotClear, c_eqK, c_szK, c_toK, c_toSp]); (try refine nrm ?_); rotate_right))) | (refine ar_drawS (id := 10) tt_ok (by kernel_rfl) [.call (c_toK x0), .call (c_eqK x0)] ?_; refine ed_hide ?_; intro K_ hK_; repeat' (first | ((first | refine ed_call3 ?_ | refine ed_sure3 ?_ | refine ed_cons3 ?_); refine ed_hide ?_; intro K_ hK_; (try dsimp only [c_ISlotClear, c_SSlotClear, c_eqK, c_szK, c_toK, c_toSp]); (try refine nrmE ?_)) | (refine ed_nil ?_; (repeat subst hK_); dsimp only; refine Exists.intro _ (And.intro rfl (And.intro (by kernel_rfl) (And.intro ?_ ?_))); rotate_left; (try dsimp only [c_ISlotClear, c_SSlotClear, c_eqK, c_szK, c_toK, c_toSp]); (try refine nrm ?_); rotate_right))) | (first | ((first | refine ar_region (id := 2) tt_ok (inps := [.call (c_szK x0 (1048576) (1048576 - ((nK x0 : Nat) : Int)))]) rfl ?_ ?_ | refine ar_region (id := 6) tt_ok (inps := [.call (c_toK x0)]) rfl ?_ ?_ | refine ar_region tt_ok (inps := []) rfl ?_ ?_); rotate_left; (try dsimp only [c_ISlotClear, c_SSlotClear, c_eqK, c_szK, c_toK, c_toSp]); (try refine nrm ?_); rotate_right) | refine ret3 ?_ | refine end3 ?_) | (refine ar_cond rfl trivial ?_ ?_ <;> intro hc_ <;> (try simp only [isNilI, inB, reduceCtorEq, cds] at hc_) <;> (try (first | contradiction | (exfalso; omega) | (exfalso; (simp only [hne_r0] at hc_; cases hc_))))) | refine ar_until (And.intro ?_ (wk3 ?_)))
  all_goals (first | refine ar_id ?_ | (try (focus ((try refine nrmO ?_); (repeat' (first | exact True.intro | refine And.intro ?_ ?_)); all_goals (try (intro (hg_ : _ = true); (try simp only [isNilI, inB, reduceCtorEq, cds] at hg_); (repeat' (first | exact True.intro | refine And.intro ?_ ?_)))); all_goals (first | exact ob1 | exact fn_szK _ _ _ hm_x0 (by omega) (by rw [if_neg hz_x0]) | exact hS | exact hI | exact fn_toK _ hs_x0 | exact fn_eqK _ hs_x0 | exact fn_markK _ _ hs_x0 (by omega) | exact fn_toSp _ | exact hgl_.1 | exact hgl_.2.1 | exact hgl_.2.2.1 | exact hgl_.2.2.2.1 | exact hgl_.2.2.2.2.1 | exact hgl_.2.2.2.2.2.1 | exact hgl_.2.2.2.2.2.2.1 | exact hgl_.2.2.2.2.2.2.2.1 | exact hgl_ | exact rfl | exact one1 rfl | skip)))))
  all_goals (exfalso; (try simp only [or_false, false_or, not_true_eq_false] at hc_); omega)
theorem fn_LSlotClear (G : List Glb) (hI : ∀ k s slot b, szK8 k → (b = true ↔ pSlotClear k s slot) → Fn Tryd.prog (c_ISlotClear G k s slot b)) (x0 : GKernel) (x1 : GSpan) (x2 : Int) (hm0 : mxK x0) : Fn Tryd.prog (c_XSlotClear G x0 x1 x2) := by
  have hb : (decide (pSlotClear x0 x1 x2) = true ↔ pSlotClear x0 x1 x2) := decide_eq_true_iff
  refine fn_XSlotClear G x0 x1 x2 (decide (pSlotClear x0 x1 x2)) hm0 (fun hn => ?_)
  have hs0 : smK x0 := K_sm (by omega)
  exact ⟨fn_ClrS x0 x1 x2 _ (szK8_sm16 hs0) hb, hI x0 x1 x2 _ (szK8_sm16 hs0) hb⟩
end Eng
end Go.Proofs.YtgeakpeodhhffaaDoor

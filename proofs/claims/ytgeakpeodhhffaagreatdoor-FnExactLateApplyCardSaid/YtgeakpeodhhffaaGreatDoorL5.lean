/- Lemmas for the proofs, part 5 of 5: a symbolic run of the program, and what it needs. -/
import Derived.Conc.PipeWords
import Derived.Conc.Quits
import Derived.WalkKit
import Derived.LaidEql
import Derived.Stop.Asserts
import Derived.RowKitTokens
import Derived.Conc.DeferLaws
import Derived.KernelRfl
import Derived.Test.YtgeakpeodhhffaaGreatDoorL4
namespace Go.Proofs.YtgeakpeodhhffaaGreatDoor
open Go.RowKit
set_option linter.unusedVariables false
namespace Tr
open Bm Cl
theorem getD_set_row (l : List (List Int)) (f : Nat) (r : List Int) (g : Nat) : (l.set f r).getD g [] = if f = g ∧ g < l.length then r else l.getD g [] := by
  simp only [List.getD_eq_getElem?_getD, List.getElem?_set]
  by_cases e : f = g
  · subst e
    by_cases h : f < l.length
    · rw [if_pos rfl, if_pos h, if_pos ⟨rfl, h⟩]; rfl
    · rw [if_pos rfl, if_neg h, if_neg (fun x => h x.2), List.getElem?_eq_none (by omega)]
  · rw [if_neg e, if_neg (fun x => e x.1)]
theorem okRow_wipe {u : Bool} {r : List Int} (h : okRow u r) (a n : Nat) : okRow u (wipe r a n) := by
  refine ⟨(wipe_len r a n).trans h.1, fun v hv => ?_⟩
  rcases wipe_mem hv with hv | rfl
  · exact h.2 v hv
  · exact ⟨⟨by decide, by decide⟩, .inr rfl⟩
theorem okF_wipe {f : GFrames} (h : okF f) (i a n : Nat) : okF ⟨f.Cells.set i (wipe (f.Cells.getD i []) a n), f.Used⟩ := by
  obtain ⟨h1, h2, h3⟩ := h
  refine ⟨by show 1 ≤ (f.Cells.set i _).length ∧ (f.Cells.set i _).length ≤ 32; rw [List.length_set]; exact h1, by show f.Used.length = (f.Cells.set i _).length; rw [List.length_set]; exact h2, fun p hp => ?_⟩
  obtain ⟨j, hj⟩ := List.getElem?_of_mem hp
  obtain ⟨c1, c2⟩ := List.getElem?_zip_eq_some.1 hj
  have hjl : j < f.Cells.length := by
    have := (List.getElem?_eq_some_iff.1 c1).1
    rwa [List.length_set] at this
  have h0 : f.Cells[j]? = some (f.Cells.getD j []) := by rw [List.getD_eq_getElem?_getD, List.getElem?_eq_getElem hjl]; rfl
  have hr := h3 _ (List.mem_of_getElem? (zip_at h0 c2))
  change (f.Cells.set i (wipe (f.Cells.getD i []) a n))[j]? = some p.1 at c1
  rw [List.getElem?_set] at c1
  by_cases e : i = j
  · subst e
    rw [if_pos rfl, if_pos hjl] at c1
    rw [← Option.some.inj c1]
    exact okRow_wipe hr a n
  · rw [if_neg e, h0] at c1
    rw [← Option.some.inj c1]
    exact hr
theorem okM_wiped {m : GMachine} (h : okM m) (f a n : Nat) : okM (wiped m f a n) := by
  obtain ⟨h1, h2, h3⟩ := h
  refine ⟨okF_wipe h1 f a n, ?_, h3⟩
  show pTableOk m.Table ((m.Frames.Cells.set f _).length : Int) = true
  rw [List.length_set]; exact h2
/-- what a free leaves as0 it is -/
structure Kept (k k' : GKernel) : Prop where
  ok : okK k' ↔ okK k
  t : k'.Machine.Table = k.Machine.Table
  u : k'.Machine.Frames.Used = k.Machine.Frames.Used
  l : k'.Machine.Frames.Cells.length = k.Machine.Frames.Cells.length
  r : ∀ g, (k'.Machine.Frames.Cells.getD g []).length = (k.Machine.Frames.Cells.getD g []).length
  c : k'.Calls = k.Calls
  f : k'.Refuse = k.Refuse
theorem Kept.refl (k : GKernel) : Kept k k := ⟨Iff.rfl, rfl, rfl, rfl, fun _ => rfl, rfl, rfl⟩
theorem Kept.trans {a b c : GKernel} (h : Kept a b) (g : Kept b c) : Kept a c := ⟨g.ok.trans h.ok, g.t.trans h.t, g.u.trans h.u, g.l.trans h.l, fun i => (g.r i).trans (h.r i), g.c.trans h.c, g.f.trans h.f⟩
theorem Kept.mode {k k' : GKernel} (h : Kept k k') (p : Int) : modeOf k' p = modeOf k p := by unfold modeOf; rw [h.t]
theorem Kept.code {k k' : GKernel} (h : Kept k k') (s : GSpan) (slot : Int) : frCode k' s slot = frCode k s slot := by
  unfold frCode
  rw [h.mode]
  simp only [show (¬ okK k') = (¬ okK k) from propext (not_congr h.ok)]
theorem kept_fr (k : GKernel) (s : GSpan) (slot : Int) : Kept k (pFreeSlot k s slot).1 := by
  unfold pFreeSlot
  split
  · rename_i h
    have hk : okK k := by
      rcases fr_cases k s slot with ⟨e, _⟩ | ⟨e, _⟩ | ⟨e, _⟩ | ⟨_, _, h1, _⟩
      · rw [e] at h; cases h
      · rw [e] at h; cases h
      · rw [e] at h; cases h
      · exact h1
    refine ⟨⟨fun _ => hk, fun h => ⟨okM_wiped h.1 _ _ _, h.2⟩⟩, rfl, rfl, ?_, fun g => ?_, rfl, rfl⟩
    · show (k.Machine.Frames.Cells.set _ _).length = _
      rw [List.length_set]
    · show ((k.Machine.Frames.Cells.set _ _).getD g []).length = _
      rw [getD_set_row]
      split
      · rename_i e; rw [wipe_len, e.1]
      · rfl
  · exact Kept.refl k
/-- where a run of frees stands, against its beginning -/
structure LInv (k0 : GKernel) (ss0 : List GSpan) (s : LSt) : Prop where
  k : Kept k0 s.k
  n : s.ss.length = ss0.length
  p : ∀ j, (s.ss.getD j noSp).Page = (ss0.getD j noSp).Page ∧ (s.ss.getD j noSp).Class = (ss0.getD j noSp).Class
  r : ∀ j, modeOf k0 (ss0.getD j noSp).Page = 1 → s.ss.getD j noSp = ss0.getD j noSp
theorem getD_setS (l : List GSpan) (i : Nat) (x : GSpan) (j : Nat) : (l.set i x).getD j noSp = if i = j ∧ j < l.length then x else l.getD j noSp := by
  simp only [List.getD_eq_getElem?_getD, List.getElem?_set]
  by_cases e : i = j
  · subst e
    by_cases h : i < l.length
    · rw [if_pos rfl, if_pos h, if_pos ⟨rfl, h⟩]; rfl
    · rw [if_pos rfl, if_neg h, if_neg (fun x => h x.2), List.getElem?_eq_none (by omega)]
  · rw [if_neg e, if_neg (fun x => e x.1)]
theorem fr_span (k : GKernel) (s : GSpan) (slot : Int) : (pFreeSlot k s slot).2.1.Page = s.Page ∧ (pFreeSlot k s slot).2.1.Class = s.Class ∧ (modeOf k s.Page = 1 → (pFreeSlot k s slot).2.1 = s) := by
  unfold pFreeSlot
  split
  · rename_i h
    refine ⟨rfl, rfl, fun hm => ?_⟩
    rcases fr_cases k s slot with ⟨e, _⟩ | ⟨e, _⟩ | ⟨e, _⟩ | ⟨_, _, _, _, h1⟩
    · rw [e] at h; cases h
    · rw [e] at h; cases h
    · rw [e] at h; cases h
    · exact absurd hm h1
  · exact ⟨rfl, rfl, fun _ => rfl⟩
theorem linv_step {k0 : GKernel} {ss0 : List GSpan} {s : LSt} (h : LInv k0 ss0 s) (x : GLate) : LInv k0 ss0 (lateStep s x) := by
  unfold lateStep
  split
  · rename_i hi
    obtain ⟨q1, q2, q3⟩ := fr_span s.k (s.ss.getD x.Index.toNat noSp) x.Slot
    refine ⟨h.k.trans (kept_fr _ _ _), by show (s.ss.set _ _).length = _; rw [List.length_set]; exact h.n, fun j => ?_, fun j hm => ?_⟩
    · show ((s.ss.set _ _).getD j noSp).Page = _ ∧ ((s.ss.set _ _).getD j noSp).Class = _
      rw [getD_setS]
      split
      · rename_i e
        rw [q1, q2, e.1]; exact h.p j
      · exact h.p j
    · show (s.ss.set _ _).getD j noSp = _
      rw [getD_setS]
      split
      · rename_i e
        rw [e.1] at q3 ⊢
        rw [q3 (by rw [h.k.mode, (h.p j).1]; exact hm)]
        exact h.r j hm
      · exact h.r j hm
  · exact h
theorem linv_run {k0 : GKernel} {ss0 : List GSpan} : ∀ (l : List GLate) {s : LSt}, LInv k0 ss0 s → LInv k0 ss0 (lateRun s l)
  | [], _, h => h
  | x :: l, _, h => linv_run l (linv_step h x)
theorem linv_start (k : GKernel) (ss : List GSpan) (w : List GLate) : LInv k ss ⟨k, ss, w⟩ := ⟨Kept.refl k, rfl, fun _ => ⟨rfl, rfl⟩, fun _ _ => rfl⟩
theorem code_two {k : GKernel} {s : GSpan} {slot : Int} : frCode k s slot = 2 ↔ (pSpanOk s = true ∧ Bm.has s.Bits slot = true) ∧ okK k ∧ modeOf k s.Page = 1 := by
  rcases fr_cases k s slot with ⟨e, h⟩ | ⟨e, _, h⟩ | ⟨e, h1, h2, h3⟩ | ⟨e, _, _, _, h⟩
  · rw [e]; exact ⟨fun x => (by cases x), fun x => absurd x.1 h⟩
  · rw [e]; exact ⟨fun x => (by cases x), fun x => h.elim (fun h => absurd x.2.1 h) (fun h => absurd (h.symm.trans x.2.2) (by decide))⟩
  · rw [e]; exact ⟨fun _ => ⟨h1, h2, h3⟩, fun _ => rfl⟩
  · rw [e]; exact ⟨fun x => (by cases x), fun x => absurd x.2.2 h⟩
theorem waits_same {k0 : GKernel} {ss0 : List GSpan} {s : LSt} (h : LInv k0 ss0 s) (x : GLate) : waits s.k s.ss x ↔ waits k0 ss0 x := by
  unfold waits
  rw [h.n, h.k.code, code_two, code_two, (h.p _).1]
  constructor
  · rintro ⟨h1, h2, h3, h4⟩
    rw [h.r _ h4] at h2
    exact ⟨h1, h2, h3, h4⟩
  · rintro ⟨h1, h2, h3, h4⟩
    rw [h.r _ h4]
    exact ⟨h1, h2, h3, h4⟩
theorem run_waits {k0 : GKernel} {ss0 : List GSpan} : ∀ (l : List GLate) {s : LSt}, LInv k0 ss0 s → (lateRun s l).w = s.w ++ pStill k0 ss0 l
  | [], s, _ => (List.append_nil _).symm
  | x :: l, s, h => by
    show (lateRun (lateStep s x) l).w = _
    rw [run_waits l (linv_step h x)]
    have hw := waits_same h x
    unfold pStill
    by_cases e : waits k0 ss0 x
    · have e2 := hw.2 e
      rw [List.filter_cons_of_pos (by simpa using e)]
      have : (lateStep s x).w = s.w ++ [x] := by
        unfold lateStep
        rw [if_pos e2.1]
        show (if (pFreeSlot _ _ _).2.2 = 2 then _ else _) = _
        rw [if_pos ?_]
        unfold pFreeSlot
        rw [if_neg (by rw [e2.2]; decide)]
        exact e2.2
      rw [this, List.append_assoc]; rfl
    · have e2 := mt hw.1 e
      rw [List.filter_cons_of_neg (by simpa using e)]
      have : (lateStep s x).w = s.w := by
        unfold lateStep
        split
        · rename_i hi
          show (if (pFreeSlot _ _ _).2.2 = 2 then _ else _) = _
          rw [if_neg ?_]
          unfold pFreeSlot
          split
          · show ¬ (0 : Int) = 2
            decide
          · exact fun h => e2 ⟨hi, h⟩
        · rfl
      rw [this]
theorem still_run (k : GKernel) (ss : List GSpan) (l : List GLate) : pStill (pLateApply k ss l).k (pLateApply k ss l).ss l = (pLateApply k ss l).w := by
  have h := linv_run l (linv_start k ss [])
  unfold pLateApply
  rw [run_waits l (linv_start k ss []), List.nil_append]
  unfold pStill
  congr 1
  funext x
  exact decide_eq_decide.2 (waits_same h x)
theorem lateRun_snoc (s : LSt) (l : List GLate) (x : GLate) : lateRun s (l ++ [x]) = lateStep (lateRun s l) x := by unfold lateRun; rw [List.foldl_append]; rfl
theorem lateRun_take (s : LSt) {l : List GLate} {i : Nat} (h : i < l.length) : lateRun s (l.take (i + 1)) = lateStep (lateRun s (l.take i)) (l.getD i noLt) := by
  rw [List.take_add_one, List.getElem?_eq_getElem h, List.getD_eq_getElem?_getD, List.getElem?_eq_getElem h]
  exact lateRun_snoc _ _ _
theorem still_take (k : GKernel) (ss : List GSpan) {l : List GLate} {i : Nat} (h : i < l.length) : pStill k ss (l.take (i + 1)) = pStill k ss (l.take i) ++ if waits k ss (l.getD i noLt) then [l.getD i noLt] else [] := by
  unfold pStill
  rw [List.take_add_one, List.getElem?_eq_getElem h, List.getD_eq_getElem?_getD, List.getElem?_eq_getElem h, List.filter_append]
  congr 1
  show List.filter _ [l[i]] = _
  by_cases e : waits k ss l[i]
  · rw [List.filter_cons_of_pos (by simpa using e)]; simp [e]
  · rw [List.filter_cons_of_neg (by simpa using e)]; simp [e]
end Tr
end Go.Proofs.YtgeakpeodhhffaaGreatDoor
namespace Go.Proofs.YtgeakpeodhhffaaGreatDoor
open Go.RowKit
set_option linter.unusedVariables false
set_option linter.unusedSimpArgs false
set_option maxRecDepth 100000
namespace Eng
open Tr
/-- a kernel that can be read -/
structure szK8 (k : GKernel) : Prop where
  m : szM7 k.Machine
  r : k.Refuse.length ≤ 1048576
def c_KOk (k : GKernel) : CFD := ⟨102, [.agg [ro 33 1 eIntS k.Machine.Frames.Cells, ro 4 1 Tr.eB k.Machine.Frames.Used, ro 47 2 eEntry k.Machine.Table.Entries, (CV.lit (.int .i64 (k.Calls))), ro 3 1 Tr.eI k.Refuse]], [], (TV.sv (.one (.lit (.bool (pKernelOk k))))), [], [], []⟩
theorem fn_KOk (k : GKernel) (hs : szK8 k) : Fn Tryz.prog (c_KOk k) := by
  have hr := hs.r
  refine fn_intro tt_ok Tryz.func102 rfl Tryz.call102 Tryz.ntmps102 Tryz.results102 rfl rfl rfl rfl ?_
  intro X ρ0 hb_ hgl_
  dsimp only [c_KOk]
  try refine nrm ?_
  repeat' (refine ar_id ?_; first | refine st1 ?_ | (first | ((first | refine ar_region tt_ok (inps := []) rfl ?_ ?_); rotate_left; (try refine nrm ?_); rotate_right) | refine ret3 ?_ | refine end3 ?_) | (refine ar_cond rfl trivial ?_ ?_ <;> intro hc_ <;> (try simp only [isNilI, inB, reduceCtorEq, cds] at hc_) <;> (try (first | contradiction | (exfalso; omega)))) | refine ar_until (And.intro ?_ (wk3 ?_)))
  all_goals (first | refine ar_id ?_ | (try (focus ((try refine nrmO ?_); (repeat' (first | exact True.intro | refine And.intro ?_ ?_)); all_goals (try (intro (hg_ : _ = true); (try simp only [isNilI, inB, reduceCtorEq, cds] at hg_); (repeat' (first | exact True.intro | refine And.intro ?_ ?_)))); all_goals (first | exact ob1 | skip)))))
  refine ar_keep 15 (by dsimp only [keepS] <;> exact rfl) ?_
  refine ar_forM (k.Refuse.length) (fun i => ∀ y ∈ k.Refuse.take i, 0 ≤ y) (fun i => [(3, (TV.sv (.one (.lit (.int .i64 (i))))))]) (fun i => []) ?_ ?_ ?_
  rotate_left
  · first | trivial | simp
  (dsimp only [rnCap, capSVs, Int.toNat_natCast, ro, Nat.reduceAdd, Nat.reduceMul, Nat.zero_add, List.map, putT, app, wrapG, gOb, argT, keys, slotOf, dropped, gAnd, wB, rnT, rnS, rnC, rnCs, rnSs, rnM, rnB, rnN, rn, lk, St.over, ded, delL, keepT, menT, menSs, menS, menCs, menC, hasN, resT, SV.cells]; refine wk3 ?_; (focus ((try refine nrmO ?_); (repeat' (first | exact True.intro | refine And.intro ?_ ?_)); all_goals (try (intro (hg_ : _ = true); (try simp only [isNilI, inB, reduceCtorEq, cds] at hg_); (repeat' (first | exact True.intro | refine And.intro ?_ ?_)))); all_goals (first | exact ob1 | exact rfl | skip))))
  rotate_right
  intro i hi_ hiI_
  dsimp only [rnCap, capSVs, Int.toNat_natCast, ro, Nat.reduceAdd, Nat.reduceMul, Nat.zero_add, List.map, putT, app, wrapG, gOb, argT, keys, slotOf, dropped, gAnd, wB, rnT, rnS, rnC, rnCs, rnSs, rnM, rnB, rnN, rn, lk, St.over, ded, delL, keepT, menT, menSs, menS, menCs, menC, hasN, resT, SV.cells]
  repeat' (refine ar_id ?_; first | refine st1 ?_ | (first | ((first | refine ar_region (id := 4) tt_ok (inps := [.elem (Tr.eI (k.Refuse.getD i 0))]) rfl ?_ ?_ | refine ar_region (id := 6) tt_ok (inps := [.call (c_MOk k.Machine), .call (c_In k.Calls 0 100000)]) rfl ?_ ?_ | refine ar_region tt_ok (inps := []) rfl ?_ ?_); rotate_left; (try dsimp only [c_In, c_MOk]); (try refine nrm ?_); rotate_right) | refine ret3 ?_ | refine end3 ?_) | (refine ar_cond rfl trivial ?_ ?_ <;> intro hc_ <;> (try simp only [isNilI, inB, reduceCtorEq, cds] at hc_) <;> (try (first | contradiction | (exfalso; omega)))) | refine ar_until (And.intro ?_ (wk3 ?_)))
  all_goals (first | refine ar_id ?_ | (try (focus ((try refine nrmO ?_); (repeat' (first | exact True.intro | refine And.intro ?_ ?_)); all_goals (try (intro (hg_ : _ = true); (try simp only [isNilI, inB, reduceCtorEq, cds] at hg_); (repeat' (first | exact True.intro | refine And.intro ?_ ?_)))); all_goals (first | exact ob1 | exact fn_MOk _ hs.m | exact fn_In _ _ _ | skip)))))
  · exact bf fun h => by have := h.2.2.1 _ (getD_in (l := k.Refuse) (i := i) (d := 0) (by omega)); omega
  · exact all_take (d := 0) hiI_ (by omega) hc_
  · have hre := all_full hiI_ (by omega)
    refine congrArg Value.bool (Bool.eq_iff_iff.2 (Iff.trans ?_ (decide_eq_true_iff (p := okK k)).symm))
    simp only [decide_eq_true_eq, Bool.cond_false_right, Bool.and_eq_true, inB_iff, pMachineOk]
    exact ⟨fun h => ⟨h.1.1, h.1.2, hre, by omega⟩, fun h => ⟨⟨h.1, h.2.1⟩, by have := h.2.2.2; omega⟩⟩
def c_Copy8 (k : GKernel) : CFD := ⟨54, [.agg [ro 33 1 eIntS k.Machine.Frames.Cells, ro 4 1 Tr.eB k.Machine.Frames.Used, ro 47 2 eEntry k.Machine.Table.Entries, (CV.lit (.int .i64 (k.Calls))), ro 3 1 Tr.eI k.Refuse]], [], .sv (.agg [.hd 0, .hd 1, .hd 2, (CV.lit (.int .i64 (k.Calls))), .hd 3]), [(0, some (.row 33 1 (k.Machine.Frames.Cells.map eIntS))), (1, some (.row 4 1 (k.Machine.Frames.Used.map Tr.eB))), (2, some (.row 47 2 (k.Machine.Table.Entries.map eEntry))), (3, some (.row 3 1 (k.Refuse.map Tr.eI)))], [0, 1, 2, 3], []⟩
theorem fn_Copy8 (k : GKernel) (hs : szK8 k) : Fn Tryz.prog (c_Copy8 k) := by
  have hr := hs.r
  refine fn_intro tt_ok Tryz.func54 rfl Tryz.call54 Tryz.ntmps54 Tryz.results54 rfl rfl rfl rfl ?_
  intro X ρ0 hb_ hgl_
  dsimp only [c_Copy8]
  try refine nrm ?_
  repeat' (refine ar_id ?_; first | refine st1 ?_ | (first | ((first | refine ar_draw (id := 1) (inps := [.call (c_Copy7 k.Machine), .elems (k.Refuse.map Tr.eI)]) tt_ok (by kernel_rfl) rfl rfl (by kernel_rfl) rfl rfl rfl rfl ?_ ?_ | refine ar_region tt_ok (inps := []) rfl ?_ ?_); rotate_left; (try dsimp only [c_Copy7]); (try refine nrm ?_); rotate_right) | refine ret3 ?_ | refine end3 ?_) | (refine ar_cond rfl trivial ?_ ?_ <;> intro hc_ <;> (try simp only [isNilI, inB, reduceCtorEq, cds] at hc_) <;> (try (first | contradiction | (exfalso; omega)))) | refine ar_until (And.intro ?_ (wk3 ?_)))
  all_goals (first | refine ar_id ?_ | (try (focus ((try refine nrmO ?_); (repeat' (first | exact True.intro | refine And.intro ?_ ?_)); all_goals (try (intro (hg_ : _ = true); (try simp only [isNilI, inB, reduceCtorEq, cds] at hg_); (repeat' (first | exact True.intro | refine And.intro ?_ ?_)))); all_goals (first | exact ob1 | exact fn_Copy7 _ hs.m | exact flat_map' k.Refuse (fun x => ⟨rfl, rfl, trivial⟩) | exact (by simp only [lns]; omega) | skip)))))
def c_Mode (k : GKernel) (page v : Int) : CFD := ⟨103, [.one (.box 0 0), (SV.one (.lit (.int .i64 (page))))], [(0, some (.box 35 [.hd 1, .hd 2, .hd 3, (CV.lit (.int .i64 (k.Calls))), .hd 4])), (1, some (.row 33 1 (k.Machine.Frames.Cells.map eIntS))), (2, some (.row 4 1 (k.Machine.Frames.Used.map Tr.eB))), (3, some (.row 47 2 (k.Machine.Table.Entries.map eEntry))), (4, some (.row 3 1 (k.Refuse.map Tr.eI)))], (TV.sv (.one (.lit (.int .i64 (v))))), [(0, some (.box 35 [.hd 1, .hd 2, .hd 3, (CV.lit (.int .i64 (k.Calls))), .hd 4])), (1, some (.row 33 1 (k.Machine.Frames.Cells.map eIntS))), (2, some (.row 4 1 (k.Machine.Frames.Used.map Tr.eB))), (3, some (.row 47 2 (k.Machine.Table.Entries.map eEntry))), (4, some (.row 3 1 (k.Refuse.map Tr.eI)))], [], []⟩
theorem fn_Mode (k : GKernel) (page v : Int) (hs : szK8 k) (hv : modeOf k page = v) : Fn Tryz.prog (c_Mode k page v) := by
  refine fn_intro tt_ok Tryz.func103 rfl Tryz.call103 Tryz.ntmps103 Tryz.results103 rfl rfl rfl rfl ?_
  intro X ρ0 hb_ hgl_
  dsimp only [c_Mode]
  try refine nrm ?_
  repeat' (refine ar_id ?_; first | refine st1 ?_ | (first | ((first | refine ar_region (id := 1) tt_ok (inps := [.call (c_PageEntry k.Machine.Table page)]) rfl ?_ ?_ | refine ar_region tt_ok (inps := []) rfl ?_ ?_); rotate_left; (try dsimp only [c_PageEntry]); (try refine nrm ?_); rotate_right) | refine ret3 ?_ | refine end3 ?_) | (refine ar_cond rfl trivial ?_ ?_ <;> intro hc_ <;> (try simp only [isNilI, inB, reduceCtorEq, cds] at hc_) <;> (try (first | contradiction | (exfalso; omega)))) | refine ar_until (And.intro ?_ (wk3 ?_)))
  all_goals (first | refine ar_id ?_ | (try (focus ((try refine nrmO ?_); (repeat' (first | exact True.intro | refine And.intro ?_ ?_)); all_goals (try (intro (hg_ : _ = true); (try simp only [isNilI, inB, reduceCtorEq, cds] at hg_); (repeat' (first | exact True.intro | refine And.intro ?_ ?_)))); all_goals (first | exact ob1 | exact fn_PageEntry _ _ hs.m.e | exact congrArg (Value.int .i64) hv | skip)))))
end Eng
end Go.Proofs.YtgeakpeodhhffaaGreatDoor
namespace Go.Proofs.YtgeakpeodhhffaaGreatDoor
open Go.RowKit
set_option linter.unusedVariables false
namespace Eng
open Tr
theorem cnt_same16 : ∀ {l l' : List (List Int)}, l'.length = l.length → (∀ g, (l'.getD g []).length = (l.getD g []).length) → cntII l' = cntII l
  | [], [], _, _ => rfl
  | [], _ :: _, h, _ => by cases h
  | _ :: _, [], h, _ => by cases h
  | a :: l, b :: l', h, hg => by
    show b.length + cntII l' = a.length + cntII l
    rw [cnt_same16 (by simpa using h) (fun g => by simpa using hg (g + 1))]
    have := hg 0
    simp at this
    rw [this]
theorem n_kept {k k' : GKernel} (h : Kept k k') : nK k' = nK k := by
  unfold nK nM nF nT
  rw [h.f, h.t, h.u, h.l, cnt_same16 h.l h.r]
theorem szK8_sm16 {k : GKernel} (h : smK k) : szK8 k := ⟨⟨h.hMachine.hFrames.hCells.1, h.hMachine.hFrames.hUsed, h.hMachine.hFrames.hCells.2, h.hMachine.hTable.hEntries⟩, h.hRefuse⟩
end Eng
end Go.Proofs.YtgeakpeodhhffaaGreatDoor
namespace Go.Proofs.YtgeakpeodhhffaaGreatDoor
open Go.RowKit
set_option linter.unusedVariables false
set_option linter.unusedSimpArgs false
set_option maxRecDepth 100000
namespace Eng
open Tr
theorem mode_in {k : GKernel} {page : Int} (h : modeOf k page ≠ 0) : (0 ≤ page ∧ page < k.Machine.Table.Entries.length) ∧ pPageEntry k.Machine.Table page = k.Machine.Table.Entries.getD page.toNat ⟨0, 0⟩ := by
  unfold modeOf at h
  unfold pPageEntry at h ⊢
  by_cases h2 : 0 ≤ page ∧ page < k.Machine.Table.Entries.length
  · exact ⟨h2, by rw [if_pos h2]⟩
  · rw [if_neg h2] at h; exact absurd rfl h
end Eng
end Go.Proofs.YtgeakpeodhhffaaGreatDoor
namespace Go.Proofs.YtgeakpeodhhffaaGreatDoor
open Go.RowKit
set_option linter.unusedVariables false
set_option linter.unusedSimpArgs false
set_option maxRecDepth 100000
namespace Eng
open Tr
end Eng
end Go.Proofs.YtgeakpeodhhffaaGreatDoor
namespace Go.Proofs.YtgeakpeodhhffaaGreatDoor
open Go.RowKit
set_option linter.unusedVariables false
set_option linter.unusedSimpArgs false
set_option maxRecDepth 100000
namespace Eng
open Tr
theorem spanOk_b (s : GSpan) : (bif inB s.Page 0 31 then Bm.isMap (Cl.slots s.Class) s.Bits else false) = pSpanOk s := by
  rw [Bool.cond_false_right]
  unfold pSpanOk inB
  rw [Bool.decide_and]
def c_SpanOk (s : GSpan) : CFD := ⟨116, [.agg [(CV.lit (.int .i64 (s.Page))), (CV.lit (.int .i64 (s.Class))), (CV.lit (.int .i64 (s.Bits)))]], [], (TV.sv (.one (.lit (.bool (pSpanOk s))))), [], [], []⟩
theorem fn_SpanOk (s : GSpan) : Fn Tryz.prog (c_SpanOk s) := by
  refine fn_intro tt_ok Tryz.func116 rfl Tryz.call116 Tryz.ntmps116 Tryz.results116 rfl rfl rfl rfl ?_
  intro X ρ0 hb_ hgl_
  dsimp only [c_SpanOk]
  try refine nrm ?_
  repeat' (refine ar_id ?_; first | refine st1 ?_ | (first | ((first | refine ar_draw (id := 1) (inps := [.call (c_In s.Page 0 31), .call (c_SlotsS s.Class), .call (c_BmOkS (Cl.slots s.Class) s.Bits)]) tt_ok (by kernel_rfl) rfl rfl (by kernel_rfl) rfl rfl rfl rfl ?_ ?_ | refine ar_region tt_ok (inps := []) rfl ?_ ?_); rotate_left; (try dsimp only [c_BmOkS, c_In, c_SlotsS]); (try refine nrm ?_); rotate_right) | refine ret3 ?_ | refine end3 ?_) | (refine ar_cond rfl trivial ?_ ?_ <;> intro hc_ <;> (try simp only [isNilI, inB, reduceCtorEq, cds] at hc_) <;> (try (first | contradiction | (exfalso; omega)))) | refine ar_until (And.intro ?_ (wk3 ?_)))
  all_goals (first | refine ar_id ?_ | (try (focus ((try refine nrmO ?_); (repeat' (first | exact True.intro | refine And.intro ?_ ?_)); all_goals (try (intro (hg_ : _ = true); (try simp only [isNilI, inB, reduceCtorEq, cds] at hg_); (repeat' (first | exact True.intro | refine And.intro ?_ ?_)))); all_goals (first | exact ob1 | exact fn_In _ _ _ | exact fn_SlotsS _ | exact fn_BmOkS _ _ | skip)))))
  rw [spanOk_b]
def c_SpanGive (s : GSpan) (k : Int) : CFD := ⟨101, [.agg [(CV.lit (.int .i64 (s.Page))), (CV.lit (.int .i64 (s.Class))), (CV.lit (.int .i64 (s.Bits)))], (SV.one (.lit (.int .i64 (k))))], [], .tup [.agg [(CV.lit (.int .i64 (((pSpanGive s k).1).Page))), (CV.lit (.int .i64 (((pSpanGive s k).1).Class))), (CV.lit (.int .i64 (((pSpanGive s k).1).Bits)))], (SV.one (.lit (.bool ((pSpanGive s k).2))))], [], [], []⟩
theorem fn_SpanGive (s : GSpan) (k : Int) : Fn Tryz.prog (c_SpanGive s k) := by
  by_cases h : pSpanOk s = true ∧ Bm.has s.Bits k = true
  · have hb := bits_bd h.1
    have hV : pSpanGive s k = (⟨s.Page, s.Class, Bm.unset s.Bits k⟩, true) := if_pos h
    refine fn_intro tt_ok Tryz.func101 rfl Tryz.call101 Tryz.ntmps101 Tryz.results101 rfl rfl rfl rfl ?_
    intro X ρ0 hb_ hgl_
    dsimp only [c_SpanGive]
    try refine nrm ?_
    rw [hV]
    repeat' (refine ar_id ?_; first | refine st1 ?_ | (first | ((first | refine ar_region (id := 1) tt_ok (inps := [.call (c_SpanOk s), .call (c_HasS s.Bits k)]) rfl ?_ ?_ | refine ar_region (id := 3) tt_ok (inps := [.call (c_WithoutS s.Bits k)]) rfl ?_ ?_ | refine ar_region tt_ok (inps := []) rfl ?_ ?_); rotate_left; (try dsimp only [c_HasS, c_SpanOk, c_WithoutS]); (try refine nrm ?_); rotate_right) | refine ret3 ?_ | refine end3 ?_) | (refine ar_cond rfl trivial ?_ ?_ <;> intro hc_ <;> (try simp only [isNilI, inB, reduceCtorEq, cds] at hc_) <;> (try (first | contradiction | (exfalso; omega) | (exfalso; grind)))) | refine ar_until (And.intro ?_ (wk3 ?_)))
    all_goals (first | refine ar_id ?_ | (try (focus ((try refine nrmO ?_); (repeat' (first | exact True.intro | refine And.intro ?_ ?_)); all_goals (try (intro (hg_ : _ = true); (try simp only [isNilI, inB, reduceCtorEq, cds] at hg_); (repeat' (first | exact True.intro | refine And.intro ?_ ?_)))); all_goals (first | exact ob1 | exact fn_SpanOk _ | exact fn_HasS _ _ (by omega) | exact fn_WithoutS _ _ (by omega) | skip)))))
  · have hV : pSpanGive s k = (s, false) := if_neg h
    by_cases h1 : pSpanOk s = true
    · have hb := bits_bd h1
      refine fn_intro tt_ok Tryz.func101 rfl Tryz.call101 Tryz.ntmps101 Tryz.results101 rfl rfl rfl rfl ?_
      intro X ρ0 hb_ hgl_
      dsimp only [c_SpanGive]
      try refine nrm ?_
      rw [hV]
      repeat' (refine ar_id ?_; first | refine st1 ?_ | (first | ((first | refine ar_region (id := 1) tt_ok (inps := [.call (c_SpanOk s), .call (c_HasS s.Bits k)]) rfl ?_ ?_ | refine ar_region tt_ok (inps := []) rfl ?_ ?_); rotate_left; (try dsimp only [c_HasS, c_SpanOk]); (try refine nrm ?_); rotate_right) | refine ret3 ?_ | refine end3 ?_) | (refine ar_cond rfl trivial ?_ ?_ <;> intro hc_ <;> (try simp only [isNilI, inB, reduceCtorEq, cds] at hc_) <;> (try (first | contradiction | (exfalso; omega) | (exfalso; grind)))) | refine ar_until (And.intro ?_ (wk3 ?_)))
      all_goals (first | refine ar_id ?_ | (try (focus ((try refine nrmO ?_); (repeat' (first | exact True.intro | refine And.intro ?_ ?_)); all_goals (try (intro (hg_ : _ = true); (try simp only [isNilI, inB, reduceCtorEq, cds] at hg_); (repeat' (first | exact True.intro | refine And.intro ?_ ?_)))); all_goals (first | exact ob1 | exact fn_SpanOk _ | exact fn_HasS _ _ (by omega) | skip)))))
    · have h1' : pSpanOk s = false := by simpa using h1
      refine fn_intro tt_ok Tryz.func101 rfl Tryz.call101 Tryz.ntmps101 Tryz.results101 rfl rfl rfl rfl ?_
      intro X ρ0 hb_ hgl_
      dsimp only [c_SpanGive]
      try refine nrm ?_
      rw [hV]
      repeat' (refine ar_id ?_; first | refine st1 ?_ | (first | ((first | refine ar_region (id := 1) tt_ok (inps := [.call (c_SpanOk s), .skip (SV.one (.lit (.bool (false))))]) rfl ?_ ?_ | refine ar_region tt_ok (inps := []) rfl ?_ ?_); rotate_left; (try dsimp only [c_SpanOk]); (try refine nrm ?_); rotate_right) | refine ret3 ?_ | refine end3 ?_) | (refine ar_cond rfl trivial ?_ ?_ <;> intro hc_ <;> (try simp only [isNilI, inB, reduceCtorEq, cds] at hc_) <;> (try (first | contradiction | (exfalso; omega) | (exfalso; grind)))) | refine ar_until (And.intro ?_ (wk3 ?_)))
      all_goals (first | refine ar_id ?_ | (try (focus ((try refine nrmO ?_); (repeat' (first | exact True.intro | refine And.intro ?_ ?_)); all_goals (try (intro (hg_ : _ = true); (try simp only [isNilI, inB, reduceCtorEq, cds] at hg_); (repeat' (first | exact True.intro | refine And.intro ?_ ?_)))); all_goals (first | exact ob1 | exact fn_SpanOk _ | exact (by rw [h1'] <;> rfl) | skip)))))
def c_SpanAddr (s : GSpan) (k : Int) : CFD := ⟨104, [.agg [(CV.lit (.int .i64 (s.Page))), (CV.lit (.int .i64 (s.Class))), (CV.lit (.int .i64 (s.Bits)))], (SV.one (.lit (.int .i64 (k))))], [], (TV.sv (.one (.lit (.int .i64 (pSpanAddr s k))))), [], [], []⟩
theorem fn_SpanAddr (s : GSpan) (k : Int) : Fn Tryz.prog (c_SpanAddr s k) := by
  have hsl := slots_bd s.Class
  have hcz := csz_bd s.Class
  by_cases h : pSpanOk s = true ∧ 0 ≤ k ∧ k < Cl.slots s.Class
  · have hp := (span_parts h.1).1
    have hV : pSpanAddr s k = s.Page * 16 + k * Cl.csz s.Class := if_pos h
    have hm1 : k * Cl.csz s.Class ≤ 16 * 8 := Int.mul_le_mul (by omega) (by omega) (by omega) (by omega)
    have hm0 : 0 ≤ k * Cl.csz s.Class := Int.mul_nonneg (by omega) (by omega)
    refine fn_intro tt_ok Tryz.func104 rfl Tryz.call104 Tryz.ntmps104 Tryz.results104 rfl rfl rfl rfl ?_
    intro X ρ0 hb_ hgl_
    dsimp only [c_SpanAddr]
    try refine nrm ?_
    rw [hV]
    repeat' (refine ar_id ?_; first | refine st1 ?_ | (first | ((first | refine ar_region (id := 1) tt_ok (inps := [.call (c_SpanOk s), .call (c_SlotsS s.Class), .call (c_In k 0 (Cl.slots s.Class - 1))]) rfl ?_ ?_ | refine ar_draw (id := 3) (inps := [.call (c_CszS s.Class)]) tt_ok (by kernel_rfl) rfl rfl (by kernel_rfl) rfl rfl rfl rfl ?_ ?_ | refine ar_region tt_ok (inps := []) rfl ?_ ?_); rotate_left; (try dsimp only [c_CszS, c_In, c_SlotsS, c_SpanOk]); (try refine nrm ?_); rotate_right) | refine ret3 ?_ | refine end3 ?_) | (refine ar_cond rfl trivial ?_ ?_ <;> intro hc_ <;> (try simp only [isNilI, inB, reduceCtorEq, cds] at hc_) <;> (try (first | contradiction | (exfalso; omega) | (exfalso; grind)))) | refine ar_until (And.intro ?_ (wk3 ?_)))
    all_goals (first | refine ar_id ?_ | (try (focus ((try refine nrmO ?_); (repeat' (first | exact True.intro | refine And.intro ?_ ?_)); all_goals (try (intro (hg_ : _ = true); (try simp only [isNilI, inB, reduceCtorEq, cds] at hg_); (repeat' (first | exact True.intro | refine And.intro ?_ ?_)))); all_goals (first | exact ob1 | exact fn_SpanOk _ | exact fn_SlotsS _ | exact fn_In _ _ _ | exact fn_CszS _ | skip)))))
    all_goals trace_state
  · have hV : pSpanAddr s k = -1 := if_neg h
    refine fn_intro tt_ok Tryz.func104 rfl Tryz.call104 Tryz.ntmps104 Tryz.results104 rfl rfl rfl rfl ?_
    intro X ρ0 hb_ hgl_
    dsimp only [c_SpanAddr]
    try refine nrm ?_
    rw [hV]
    repeat' (refine ar_id ?_; first | refine st1 ?_ | (first | ((first | refine ar_region (id := 1) tt_ok (inps := [.call (c_SpanOk s), .call (c_SlotsS s.Class), .call (c_In k 0 (Cl.slots s.Class - 1))]) rfl ?_ ?_ | refine ar_region tt_ok (inps := []) rfl ?_ ?_); rotate_left; (try dsimp only [c_In, c_SlotsS, c_SpanOk]); (try refine nrm ?_); rotate_right) | refine ret3 ?_ | refine end3 ?_) | (refine ar_cond rfl trivial ?_ ?_ <;> intro hc_ <;> (try simp only [isNilI, inB, reduceCtorEq, cds] at hc_) <;> (try (first | contradiction | (exfalso; omega) | (exfalso; grind)))) | refine ar_until (And.intro ?_ (wk3 ?_)))
    all_goals (first | refine ar_id ?_ | (try (focus ((try refine nrmO ?_); (repeat' (first | exact True.intro | refine And.intro ?_ ?_)); all_goals (try (intro (hg_ : _ = true); (try simp only [isNilI, inB, reduceCtorEq, cds] at hg_); (repeat' (first | exact True.intro | refine And.intro ?_ ?_)))); all_goals (first | exact ob1 | exact fn_SpanOk _ | exact fn_SlotsS _ | exact fn_In _ _ _ | skip)))))
    all_goals trace_state
end Eng
end Go.Proofs.YtgeakpeodhhffaaGreatDoor
namespace Go.Proofs.YtgeakpeodhhffaaGreatDoor
open Go.RowKit
set_option linter.unusedVariables false
set_option linter.unusedSimpArgs false
set_option maxRecDepth 100000
namespace Eng
open Tr
end Eng
end Go.Proofs.YtgeakpeodhhffaaGreatDoor
namespace Go.Proofs.YtgeakpeodhhffaaGreatDoor
open Go.RowKit
set_option linter.unusedVariables false
set_option linter.unusedSimpArgs false
set_option maxRecDepth 100000
namespace Eng
open Tr
def c_SpanOkI (t : Tb) (s : GSpan) : CFD := ⟨84, [.agg [(CV.lit (.int .i64 (s.Page))), (CV.lit (.int .i64 (s.Class))), (CV.lit (.int .i64 (s.Bits)))]], [], (TV.sv (.one (.lit (.bool (pSpanOk s))))), [], [], [t.gS]⟩
theorem fn_SpanOkI (t : Tb) (s : GSpan) : Fn Tryz.prog (c_SpanOkI t s) := by
  refine fn_intro tt_ok Tryz.func84 rfl Tryz.call84 Tryz.ntmps84 Tryz.results84 rfl rfl rfl rfl ?_
  intro X ρ0 hb_ hgl_
  dsimp only [c_SpanOkI]
  try refine nrm ?_
  repeat' (refine ar_id ?_; first | refine st1 ?_ | (first | ((first | refine ar_draw (id := 1) (inps := [.call (c_SlotsI t s.Class), .call (c_BmOkI (Cl.slots s.Class) s.Bits)]) tt_ok (by kernel_rfl) rfl rfl (by kernel_rfl) rfl rfl rfl rfl ?_ ?_ | refine ar_region tt_ok (inps := []) rfl ?_ ?_); rotate_left; (try dsimp only [c_BmOkI, c_SlotsI]); (try refine nrm ?_); rotate_right) | refine ret3 ?_ | refine end3 ?_) | (refine ar_cond rfl trivial ?_ ?_ <;> intro hc_ <;> (try simp only [isNilI, inB, reduceCtorEq, cds] at hc_) <;> (try (first | contradiction | (exfalso; omega)))) | refine ar_until (And.intro ?_ (wk3 ?_)))
  all_goals (first | refine ar_id ?_ | (try (focus ((try refine nrmO ?_); (repeat' (first | exact True.intro | refine And.intro ?_ ?_)); all_goals (try (intro (hg_ : _ = true); (try simp only [isNilI, inB, reduceCtorEq, cds] at hg_); (repeat' (first | exact True.intro | refine And.intro ?_ ?_)))); all_goals (first | exact ob1 | exact fn_SlotsI _ _ | exact fn_BmOkI _ _ | exact hgl_.1 | exact hgl_.2.1 | exact hgl_.2.2.1 | exact hgl_.2.2.2.1 | exact hgl_.2.2.2.2.1 | exact hgl_.2.2.2.2.2.1 | exact hgl_.2.2.2.2.2.2.1 | exact hgl_.2.2.2.2.2.2.2.1 | exact hgl_ | exact rfl | exact one1 rfl | skip)))))
  refine congrArg Value.bool ?_
  rw [Bool.cond_false_right, Bool.cond_false_right]
  unfold pSpanOk
  rw [← Bool.decide_and]
  congr 1
  exact decide_eq_decide.2 (by omega)
def c_sGive (t : Tb) (s : GSpan) (k : Int) : CFD := ⟨40, [.agg [(CV.lit (.int .i64 (s.Page))), (CV.lit (.int .i64 (s.Class))), (CV.lit (.int .i64 (s.Bits)))], (SV.one (.lit (.int .i64 (k))))], [], .sv (.agg [(CV.lit (.int .i64 (s.Page))), (CV.lit (.int .i64 (s.Class))), (CV.lit (.int .i64 (Bm.unset s.Bits k)))]), [], [], [t.gM]⟩
theorem fn_sGive (t : Tb) (s : GSpan) (k : Int) (h0 : 0 ≤ s.Bits) (h1 : s.Bits < 65536) : Fn Tryz.prog (c_sGive t s k) := by
  refine fn_intro tt_ok Tryz.func40 rfl Tryz.call40 Tryz.ntmps40 Tryz.results40 rfl rfl rfl rfl ?_
  intro X ρ0 hb_ hgl_
  dsimp only [c_sGive]
  try refine nrm ?_
  repeat' (refine ar_id ?_; first | refine st1 ?_ | (first | ((first | refine ar_region (id := 1) tt_ok (inps := [.call (c_WithoutI t s.Bits k)]) rfl ?_ ?_ | refine ar_region tt_ok (inps := []) rfl ?_ ?_); rotate_left; (try dsimp only [c_WithoutI]); (try refine nrm ?_); rotate_right) | refine ret3 ?_ | refine end3 ?_) | (refine ar_cond rfl trivial ?_ ?_ <;> intro hc_ <;> (try simp only [isNilI, inB, reduceCtorEq, cds] at hc_) <;> (try (first | contradiction | (exfalso; omega)))) | refine ar_until (And.intro ?_ (wk3 ?_)))
  all_goals (first | refine ar_id ?_ | (try (focus ((try refine nrmO ?_); (repeat' (first | exact True.intro | refine And.intro ?_ ?_)); all_goals (try (intro (hg_ : _ = true); (try simp only [isNilI, inB, reduceCtorEq, cds] at hg_); (repeat' (first | exact True.intro | refine And.intro ?_ ?_)))); all_goals (first | exact ob1 | exact fn_WithoutI t _ _ (by omega) (by omega) | exact hgl_.1 | exact hgl_.2.1 | exact hgl_.2.2.1 | exact hgl_.2.2.2.1 | exact hgl_.2.2.2.2.1 | exact hgl_.2.2.2.2.2.1 | exact hgl_.2.2.2.2.2.2.1 | exact hgl_.2.2.2.2.2.2.2.1 | exact hgl_ | exact rfl | exact one1 rfl | skip)))))
end Eng
end Go.Proofs.YtgeakpeodhhffaaGreatDoor
namespace Go.Proofs.YtgeakpeodhhffaaGreatDoor
open Go.RowKit
set_option linter.unusedVariables false
set_option linter.unusedSimpArgs false
set_option maxRecDepth 100000
namespace Eng
open Tr
theorem fr_addr {s : GSpan} {slot : Int} (h : pSpanOk s = true) (hh : Bm.has s.Bits slot = true) : pSpanAddr s slot = s.Page * 16 + slot * Cl.csz s.Class ∧ (pSpanAddr s slot).tmod 16 = slot * Cl.csz s.Class ∧ frAt s slot + (Cl.csz s.Class).toNat ≤ 16 ∧ ((frAt s slot : Nat) : Int) = slot * Cl.csz s.Class := by
  obtain ⟨h1, h2, ⟨h3, h4⟩, h5, h6⟩ := slot_bds h hh
  have hp := (span_parts h).1
  have e : pSpanAddr s slot = s.Page * 16 + slot * Cl.csz s.Class := if_pos ⟨h, h1, h2⟩
  refine ⟨e, ?_, ?_, ?_⟩
  · rw [e, Int.tmod_eq_emod_of_nonneg (by omega)]; omega
  · unfold frAt; omega
  · unfold frAt; omega
theorem row_set_self (l : List (List Int)) (f : Nat) : l.set f (l.getD f []) = l := by
  by_cases h : f < l.length
  · rw [List.getD_eq_getElem?_getD, List.getElem?_eq_getElem h]; exact List.set_getElem_self h
  · exact List.set_eq_of_length_le (by omega)
def c_lFr (k : GKernel) (s : GSpan) (slot : Int) (k2 : GKernel) (s2 : GSpan) (e : Int) : CFD := ⟨55, [.one (.box 500 0), .agg [(CV.lit (.int .i64 (s.Page))), (CV.lit (.int .i64 (s.Class))), (CV.lit (.int .i64 (s.Bits)))], (SV.one (.lit (.int .i64 (slot))))], [(500, some (.box 35 [.hd 501, .hd 502, .hd 503, (CV.lit (.int .i64 (k.Calls))), .hd 504])), (501, some (.row 33 1 (k.Machine.Frames.Cells.map eIntS))), (502, some (.row 4 1 (k.Machine.Frames.Used.map Tr.eB))), (503, some (.row 47 2 (k.Machine.Table.Entries.map eEntry))), (504, some (.row 3 1 (k.Refuse.map Tr.eI)))], .tup [.agg [(CV.lit (.int .i64 (s2.Page))), (CV.lit (.int .i64 (s2.Class))), (CV.lit (.int .i64 (s2.Bits)))], (SV.one (.lit (.int .i64 (e))))], [(500, some (.box 35 [.hd 501, .hd 502, .hd 503, (CV.lit (.int .i64 (k2.Calls))), .hd 504])), (501, some (.row 33 1 (k2.Machine.Frames.Cells.map eIntS))), (502, some (.row 4 1 (k2.Machine.Frames.Used.map Tr.eB))), (503, some (.row 47 2 (k2.Machine.Table.Entries.map eEntry))), (504, some (.row 3 1 (k2.Refuse.map Tr.eI)))], [], []⟩
def c_GiveR (s : GSpan) (k : Int) (r : GSpan) (b : Bool) : CFD := ⟨101, [.agg [(CV.lit (.int .i64 (s.Page))), (CV.lit (.int .i64 (s.Class))), (CV.lit (.int .i64 (s.Bits)))], (SV.one (.lit (.int .i64 (k))))], [], .tup [.agg [(CV.lit (.int .i64 (r.Page))), (CV.lit (.int .i64 (r.Class))), (CV.lit (.int .i64 (r.Bits)))], (SV.one (.lit (.bool (b))))], [], [], []⟩
theorem fn_GiveR (s : GSpan) (k : Int) (r : GSpan) (b : Bool) (h : pSpanGive s k = (r, b)) : Fn Tryz.prog (c_GiveR s k r b) := by
  have := fn_SpanGive s k
  unfold c_SpanGive at this
  rw [h] at this
  exact this
set_option maxHeartbeats 4000000 in
theorem fn_lFr (k : GKernel) (s : GSpan) (slot : Int) (k2 : GKernel) (s2 : GSpan) (e : Int) (hs : szK8 k) (h : pFreeSlot k s slot = (k2, s2, e)) : Fn Tryz.prog (c_lFr k s slot k2 s2 e) := by
  unfold pFreeSlot at h
  rcases fr_cases k s slot with ⟨hc, h1⟩ | ⟨hc, h1, h2⟩ | ⟨hc, h1, h2, h3⟩ | ⟨hc, h1, h2, h3, h4⟩
  · rw [hc, if_neg (by decide)] at h
    obtain ⟨e1, e2⟩ := Prod.mk.inj h
    obtain ⟨e3, e4⟩ := Prod.mk.inj e2
    subst e1 e3 e4
    have hG := fn_GiveR s slot s false (if_neg h1)
    refine fn_intro tt_ok Tryz.func55 rfl Tryz.call55 Tryz.ntmps55 Tryz.results55 rfl rfl rfl rfl ?_
    intro X ρ0 hb_ hgl_
    dsimp only [c_lFr]
    try refine nrm ?_
    repeat' (refine ar_id ?_; first | refine st1 ?_ | (first | ((first | refine ar_region (id := 1) tt_ok (inps := [.call (c_GiveR s slot s false)]) rfl ?_ ?_ | refine ar_region tt_ok (inps := []) rfl ?_ ?_); rotate_left; (try dsimp only [c_GiveR]); (try refine nrm ?_); rotate_right) | refine ret3 ?_ | refine end3 ?_) | (refine ar_cond rfl trivial ?_ ?_ <;> intro hc_ <;> (try simp only [isNilI, inB, reduceCtorEq, cds] at hc_) <;> (try (first | contradiction | (exfalso; omega) | (exfalso; grind)))) | refine ar_until (And.intro ?_ (wk3 ?_)))
    all_goals (first | refine ar_id ?_ | (try (focus ((try refine nrmO ?_); (repeat' (first | exact True.intro | refine And.intro ?_ ?_)); all_goals (try (intro (hg_ : _ = true); (try simp only [isNilI, inB, reduceCtorEq, cds] at hg_); (repeat' (first | exact True.intro | refine And.intro ?_ ?_)))); all_goals (first | exact ob1 | exact hG | skip)))))
    all_goals trace_state
  · rw [hc, if_neg (by decide)] at h
    obtain ⟨e1, e2⟩ := Prod.mk.inj h
    obtain ⟨e3, e4⟩ := Prod.mk.inj e2
    subst e1 e3 e4
    have hG := fn_GiveR s slot _ true (if_pos h1)
    by_cases h5 : okK k
    · have hm : modeOf k s.Page = 0 := h2.resolve_left (fun x => x h5)
      have hk : (!(!pKernelOk k)) = true := by rw [show pKernelOk k = true from decide_eq_true h5]; rfl
      refine fn_intro tt_ok Tryz.func55 rfl Tryz.call55 Tryz.ntmps55 Tryz.results55 rfl rfl rfl rfl ?_
      intro X ρ0 hb_ hgl_
      dsimp only [c_lFr]
      try refine nrm ?_
      repeat' (refine ar_id ?_; first | refine st1 ?_ | (first | ((first | refine ar_region (id := 1) tt_ok (inps := [.call (c_GiveR s slot ⟨s.Page, s.Class, Bm.unset s.Bits slot⟩ true)]) rfl ?_ ?_ | refine ar_region (id := 4) tt_ok (inps := [.call (c_KOk k), .sure (c_Mode k s.Page 0)]) rfl ?_ ?_ | refine ar_region tt_ok (inps := []) rfl ?_ ?_); rotate_left; (try dsimp only [c_GiveR, c_KOk, c_Mode]); (try refine nrm ?_); rotate_right) | refine ret3 ?_ | refine end3 ?_) | (refine ar_cond rfl trivial ?_ ?_ <;> intro hc_ <;> (try simp only [isNilI, inB, reduceCtorEq, cds] at hc_) <;> (try (first | contradiction | (exfalso; omega) | (exfalso; grind)))) | refine ar_until (And.intro ?_ (wk3 ?_)))
      all_goals (first | refine ar_id ?_ | (try (focus ((try refine nrmO ?_); (repeat' (first | exact True.intro | refine And.intro ?_ ?_)); all_goals (try (intro (hg_ : _ = true); (try simp only [isNilI, inB, reduceCtorEq, cds] at hg_); (repeat' (first | exact True.intro | refine And.intro ?_ ?_)))); all_goals (first | exact ob1 | exact hG | exact fn_KOk _ hs | exact fn_Mode _ _ _ hs hm | exact hk | skip)))))
      all_goals trace_state
    · have hk0 : pKernelOk k = false := decide_eq_false h5
      have hk : (!(!pKernelOk k)) = false := by rw [hk0]; rfl
      refine fn_intro tt_ok Tryz.func55 rfl Tryz.call55 Tryz.ntmps55 Tryz.results55 rfl rfl rfl rfl ?_
      intro X ρ0 hb_ hgl_
      dsimp only [c_lFr]
      try refine nrm ?_
      repeat' (refine ar_id ?_; first | refine st1 ?_ | (first | ((first | refine ar_region (id := 1) tt_ok (inps := [.call (c_GiveR s slot ⟨s.Page, s.Class, Bm.unset s.Bits slot⟩ true)]) rfl ?_ ?_ | refine ar_region (id := 4) tt_ok (inps := [.call (c_KOk k), .skip (SV.one (.lit (.int .i64 (0))))]) rfl ?_ ?_ | refine ar_region tt_ok (inps := []) rfl ?_ ?_); rotate_left; (try dsimp only [c_GiveR, c_KOk]); (try refine nrm ?_); rotate_right) | refine ret3 ?_ | refine end3 ?_) | (refine ar_cond rfl trivial ?_ ?_ <;> intro hc_ <;> (try simp only [isNilI, inB, reduceCtorEq, cds] at hc_) <;> (try (first | contradiction | (exfalso; omega) | (exfalso; grind)))) | refine ar_until (And.intro ?_ (wk3 ?_)))
      all_goals (first | refine ar_id ?_ | (try (focus ((try refine nrmO ?_); (repeat' (first | exact True.intro | refine And.intro ?_ ?_)); all_goals (try (intro (hg_ : _ = true); (try simp only [isNilI, inB, reduceCtorEq, cds] at hg_); (repeat' (first | exact True.intro | refine And.intro ?_ ?_)))); all_goals (first | exact ob1 | exact hG | exact fn_KOk _ hs | exact hk | exact hk.symm | skip)))))
      all_goals trace_state
  · rw [hc, if_neg (by decide)] at h
    obtain ⟨e1, e2⟩ := Prod.mk.inj h
    obtain ⟨e3, e4⟩ := Prod.mk.inj e2
    subst e1 e3 e4
    have hG := fn_GiveR s slot _ true (if_pos h1)
    have hk0 : pKernelOk k = true := decide_eq_true h2
    have hk : (!(!pKernelOk k)) = true := by rw [hk0]; rfl
    refine fn_intro tt_ok Tryz.func55 rfl Tryz.call55 Tryz.ntmps55 Tryz.results55 rfl rfl rfl rfl ?_
    intro X ρ0 hb_ hgl_
    dsimp only [c_lFr]
    try refine nrm ?_
    repeat' (refine ar_id ?_; first | refine st1 ?_ | (first | ((first | refine ar_region (id := 1) tt_ok (inps := [.call (c_GiveR s slot ⟨s.Page, s.Class, Bm.unset s.Bits slot⟩ true)]) rfl ?_ ?_ | refine ar_region (id := 4) tt_ok (inps := [.call (c_KOk k), .sure (c_Mode k s.Page 1)]) rfl ?_ ?_ | refine ar_region (id := 6) tt_ok (inps := [.call (c_Mode k s.Page 1)]) rfl ?_ ?_ | refine ar_region tt_ok (inps := []) rfl ?_ ?_); rotate_left; (try dsimp only [c_GiveR, c_KOk, c_Mode]); (try refine nrm ?_); rotate_right) | refine ret3 ?_ | refine end3 ?_) | (refine ar_cond rfl trivial ?_ ?_ <;> intro hc_ <;> (try simp only [isNilI, inB, reduceCtorEq, cds] at hc_) <;> (try (first | contradiction | (exfalso; omega) | (exfalso; grind)))) | refine ar_until (And.intro ?_ (wk3 ?_)))
    all_goals (first | refine ar_id ?_ | (try (focus ((try refine nrmO ?_); (repeat' (first | exact True.intro | refine And.intro ?_ ?_)); all_goals (try (intro (hg_ : _ = true); (try simp only [isNilI, inB, reduceCtorEq, cds] at hg_); (repeat' (first | exact True.intro | refine And.intro ?_ ?_)))); all_goals (first | exact ob1 | exact hG | exact fn_KOk _ hs | exact fn_Mode _ _ _ hs h3 | exact hk | skip)))))
    all_goals trace_state
  · rw [hc, if_pos rfl] at h
    obtain ⟨e1, e2⟩ := Prod.mk.inj h
    obtain ⟨e3, e4⟩ := Prod.mk.inj e2
    subst e1 e3 e4
    have hG := fn_GiveR s slot _ true (if_pos h1)
    have hk0 : pKernelOk k = true := decide_eq_true h2
    have hk : (!(!pKernelOk k)) = true := by rw [hk0]; rfl
    obtain ⟨m, hm⟩ : ∃ m, modeOf k s.Page = m := ⟨_, rfl⟩
    rw [hm] at h3 h4
    obtain ⟨hp1, hp2⟩ := mode_in (show modeOf k s.Page ≠ 0 by rw [hm]; exact h3)
    obtain ⟨f, hf, hf1, _, hf2, hf3⟩ := okM_entry h2.1 (show (pPageEntry k.Machine.Table s.Page).Mode ≠ 0 by exact (show modeOf k s.Page ≠ 0 by rw [hm]; exact h3))
    obtain ⟨a1, a2, a3, a4⟩ := fr_addr h1.1 h1.2
    have hcs := (slot_bds h1.1 h1.2).2.2.2
    have hpg := (span_parts h1.1).1
    have hfr : frFrame k s = f := by unfold frFrame; rw [hf]; rfl
    unfold frK wiped
    rw [hfr]
    rw [hp2] at hf
    obtain ⟨a, ha⟩ : ∃ a, frAt s slot = a := ⟨_, rfl⟩
    obtain ⟨n, hn⟩ : ∃ n, (Cl.csz s.Class).toNat = n := ⟨_, rfl⟩
    have hn' : Cl.csz s.Class = (n : Int) := by omega
    obtain ⟨R, hR⟩ : ∃ R, k.Machine.Frames.Cells.getD f [] = R := ⟨_, rfl⟩
    rw [hR] at hf2
    rw [ha] at a3 a4
    rw [hn] at a3
    rw [hn, ha, hR]
    have hCz := fn_CszS s.Class
    unfold c_CszS at hCz
    rw [hn'] at hCz
    have hcl := hs.m.c
    have hset0 : k.Machine.Frames.Cells.set f (wipe R a 0) = k.Machine.Frames.Cells := by rw [← hR]; exact row_set_self _ _
    refine fn_intro tt_ok Tryz.func55 rfl Tryz.call55 Tryz.ntmps55 Tryz.results55 rfl rfl rfl rfl ?_
    intro X ρ0 hb_ hgl_
    dsimp only [c_lFr]
    try refine nrm ?_
    repeat' (refine ar_id ?_; first | refine st1 ?_ | (first | ((first | refine ar_region (id := 1) tt_ok (inps := [.call (c_GiveR s slot ⟨s.Page, s.Class, Bm.unset s.Bits slot⟩ true)]) rfl ?_ ?_ | refine ar_region (id := 4) tt_ok (inps := [.call (c_KOk k), .sure (c_Mode k s.Page m)]) rfl ?_ ?_ | refine ar_region (id := 6) tt_ok (inps := [.call (c_Mode k s.Page m)]) rfl ?_ ?_ | refine ar_draw (id := 8) (inps := [.elem (eEntry (k.Machine.Table.Entries.getD s.Page.toNat ⟨0, 0⟩))]) tt_ok (by kernel_rfl) rfl rfl (by kernel_rfl) rfl rfl rfl rfl ?_ ?_ | refine ar_region (id := 9) tt_ok (inps := [.call (c_SpanAddr s slot)]) rfl ?_ ?_ | refine ar_region tt_ok (inps := []) rfl ?_ ?_); rotate_left; (try dsimp only [c_GiveR, c_KOk, c_Mode, c_SpanAddr]); (try refine nrm ?_); rotate_right) | refine ret3 ?_ | refine end3 ?_) | (refine ar_cond rfl trivial ?_ ?_ <;> intro hc_ <;> (try simp only [isNilI, inB, reduceCtorEq, cds] at hc_) <;> (try (first | contradiction | (exfalso; omega) | (exfalso; grind)))) | refine ar_until (And.intro ?_ (wk3 ?_)))
    all_goals (first | refine ar_id ?_ | (try (focus ((try refine nrmO ?_); (repeat' (first | exact True.intro | refine And.intro ?_ ?_)); all_goals (try (intro (hg_ : _ = true); (try simp only [isNilI, inB, reduceCtorEq, cds] at hg_); (repeat' (first | exact True.intro | refine And.intro ?_ ?_)))); all_goals (first | exact ob1 | exact hG | exact fn_KOk _ hs | exact fn_Mode _ _ _ hs hm | exact hk | exact fn_SpanAddr _ _ | skip)))))
    have a5 : (pSpanAddr s slot).tmod 16 = (a : Int) := by rw [a2, a4]
    refine ar_keep 8151 (by dsimp only [keepS] <;> exact rfl) ?_
    refine ar_forM (n) (fun i => True) (fun i => [(10, (TV.sv (.one (.lit (.int .i64 ((f : Int))))))), (11, (TV.sv (.one (.lit (.int .i64 ((a : Int))))))), (12, (TV.sv (.one (.lit (.int .i64 (i))))))]) (fun i => [(501, some (.row 33 1 ((k.Machine.Frames.Cells.set f (wipe R a i)).map eIntS)))]) ?_ ?_ ?_
    rotate_left
    · first | trivial | simp
    (dsimp only [rnCap, capSVs, Int.toNat_natCast, ro, Nat.reduceAdd, Nat.reduceMul, Nat.zero_add, List.map, putT, app, wrapG, gOb, argT, keys, slotOf, dropped, gAnd, wB, rnT, rnS, rnC, rnCs, rnSs, rnM, rnB, rnN, rn, lk, St.over, ded, delL, keepT, menT, menSs, menS, menCs, menC, hasN, resT, SV.cells]; refine wk3 ?_; (focus ((try refine nrmO ?_); (repeat' (first | exact True.intro | refine And.intro ?_ ?_)); all_goals (try (intro (hg_ : _ = true); (try simp only [isNilI, inB, reduceCtorEq, cds] at hg_); (repeat' (first | exact True.intro | refine And.intro ?_ ?_)))); all_goals (first | exact ob1 | exact rfl | skip))))
    rotate_right
    intro i hi_ hiI_
    dsimp only [rnCap, capSVs, Int.toNat_natCast, ro, Nat.reduceAdd, Nat.reduceMul, Nat.zero_add, List.map, putT, app, wrapG, gOb, argT, keys, slotOf, dropped, gAnd, wB, rnT, rnS, rnC, rnCs, rnSs, rnM, rnB, rnN, rn, lk, St.over, ded, delL, keepT, menT, menSs, menS, menCs, menC, hasN, resT, SV.cells]
    have hwl := wipe_len R a i
    have hrow : ((k.Machine.Frames.Cells.set f (wipe R a i)).map eIntS)[f]? = some (eIntS (wipe R a i)) := by rw [List.getElem?_map, List.getElem?_set_self hf1]; rfl
    repeat' (refine ar_id ?_; first | refine st1 ?_ | (first | ((first | refine ar_region (id := 11) tt_ok (inps := [.call (⟨16, [(SV.one (.lit (.int .i64 (s.Class))))], [], (TV.sv (.one (.lit (.int .i64 ((n : Int)))))), [], [], []⟩)]) rfl ?_ ?_ | refine ar_region tt_ok (inps := []) rfl ?_ ?_); rotate_left; (try refine nrm ?_); rotate_right) | refine ret3 ?_ | refine end3 ?_) | (refine ar_cond rfl trivial ?_ ?_ <;> intro hc_ <;> (try simp only [isNilI, inB, reduceCtorEq, cds] at hc_) <;> (try (first | contradiction | (exfalso; omega)))) | refine ar_until (And.intro ?_ (wk3 ?_)))
    all_goals (first | refine ar_id ?_ | (try (focus ((try refine nrmO ?_); (repeat' (first | exact True.intro | refine And.intro ?_ ?_)); all_goals (try (intro (hg_ : _ = true); (try simp only [isNilI, inB, reduceCtorEq, cds] at hg_); (repeat' (first | exact True.intro | refine And.intro ?_ ?_)))); all_goals (first | exact ob1 | exact hCz | skip)))))
    · skip
      refine ar_open 501 f 0 90001 90002 (d := eIntS (wipe R a i)) ((wipe R a i).map eI) rfl ?_ rfl ?_ rfl rfl rfl ?_
      · first | exact map_at (by omega) | assumption | exact set_at (by (try simp only [List.length_map, List.length_set]); omega) | (rw [List.getElem?_set_ne (by omega)]; exact map_at (by omega))
      · exact ⟨rfl, rfl, by intro e he; simp only [List.mem_map] at he; obtain ⟨_, _, rfl⟩ := he; rfl⟩
      intro A_90001 n_90001 c_90001
      try refine nrm ?_
      refine ar_region (id := 13) tt_ok (inps := [.nest (.lit (Value.slice A_90001 n_90001 c_90001) .nil) [(0, 90002)], .elem (eI ((wipe R a i).getD (a + i) 0))]) rfl ?_ ?_
      rotate_left
      (try refine nrm ?_)
      refine ar_close 501 f 0 90001 90002 rfl rfl rfl (set_at ?_) rfl rfl rfl ?_
      · (simp only [List.length_map, List.length_set]; omega)
      try refine nrm ?_
      repeat' (refine ar_id ?_; first | refine st1 ?_ | (first | ((first | refine ar_region tt_ok (inps := []) rfl ?_ ?_); rotate_left; (try refine nrm ?_); rotate_right) | refine ret3 ?_ | refine end3 ?_) | (refine ar_cond rfl trivial ?_ ?_ <;> intro hc_ <;> (try simp only [isNilI, inB, reduceCtorEq, cds] at hc_) <;> (try (first | contradiction | (exfalso; omega)))) | refine ar_until (And.intro ?_ (wk3 ?_)))
      all_goals (first | refine ar_id ?_ | (try (focus ((try refine nrmO ?_); (repeat' (first | exact True.intro | refine And.intro ?_ ?_)); all_goals (try (intro (hg_ : _ = true); (try simp only [isNilI, inB, reduceCtorEq, cds] at hg_); (repeat' (first | exact True.intro | refine And.intro ?_ ?_)))); all_goals (first | exact ob1 | skip)))))
      all_goals (try (focus ((try refine nrmO ?_); (repeat' (first | exact True.intro | refine And.intro ?_ ?_)); all_goals (try (intro (hg_ : _ = true); (try simp only [isNilI, inB, reduceCtorEq, cds] at hg_); (repeat' (first | exact True.intro | refine And.intro ?_ ?_)))); all_goals (first | exact ob1 | skip))))
      have hset : ∀ (o : Int), ((wipe R a i).map eI).set ((a : Int) + (i : Int)).toNat (dPut (eI o) 0 (D.lit (.int .i64 0) .nil)) = (wipe R a (i + 1)).map eI := fun o => by rw [show ((a : Int) + (i : Int)).toNat = a + i by omega]; exact List.map_set.symm
      rw [hset, List.set_set]
      show (List.map eIntS (k.Machine.Frames.Cells.set f (wipe R a i))).set f (eIntS (wipe R a (i + 1))) = _
      rw [← List.map_set, List.set_set]
    all_goals first | (rw [show i = n by omega]; done) | (rw [hset0]; done) | trace_state
end Eng
end Go.Proofs.YtgeakpeodhhffaaGreatDoor
namespace Go.Proofs.YtgeakpeodhhffaaGreatDoor
open Go.RowKit
set_option linter.unusedVariables false
set_option linter.unusedSimpArgs false
set_option maxRecDepth 100000
namespace Tr
theorem run_len (s : LSt) : ∀ l : List GLate, (lateRun s l).w.length ≤ s.w.length + l.length
  | l => by
    have h := run_waits l (linv_start s.k s.ss s.w)
    have e : (⟨s.k, s.ss, s.w⟩ : LSt) = s := rfl
    rw [e] at h
    rw [h, List.length_append]
    exact Nat.add_le_add_left (List.length_filter_le _ _) _
end Tr
namespace Eng
open Tr
theorem szK8_kept {k k' : GKernel} (h : szK8 k) (hk : Kept k k') : szK8 k' := by
  refine ⟨⟨by rw [hk.l]; exact h.m.c, by rw [hk.u]; exact h.m.u, fun r hr => ?_, by rw [hk.t]; exact h.m.e⟩, by rw [hk.f]; exact h.r⟩
  obtain ⟨i, hi⟩ := List.getElem?_of_mem hr
  have hil := (List.getElem?_eq_some_iff.1 hi).1
  have e : k'.Machine.Frames.Cells.getD i [] = r := by rw [List.getD_eq_getElem?_getD, hi]; rfl
  have := hk.r i
  rw [e] at this
  rw [this]
  rw [hk.l] at hil
  exact h.m.r _ (getD_in hil)
def c_LApS (k : GKernel) (ss : List GSpan) (l : List GLate) (r : LSt) : CFD := ⟨20, [.agg [ro 33 1 eIntS k.Machine.Frames.Cells, ro 4 1 Tr.eB k.Machine.Frames.Used, ro 47 2 eEntry k.Machine.Table.Entries, (CV.lit (.int .i64 (k.Calls))), ro 3 1 Tr.eI k.Refuse], .one (ro 41 3 eSpan ss), .one (ro 103 2 eLate l)], [], .tup [.agg [.hd 0, .hd 1, .hd 2, (CV.lit (.int .i64 (r.k.Calls))), .hd 3], .one (.hd 4), .one (.hd 5)], [(0, some (.row 33 1 (r.k.Machine.Frames.Cells.map eIntS))), (1, some (.row 4 1 (r.k.Machine.Frames.Used.map Tr.eB))), (2, some (.row 47 2 (r.k.Machine.Table.Entries.map eEntry))), (3, some (.row 3 1 (r.k.Refuse.map Tr.eI))), (4, some (.row 41 3 (r.ss.map eSpan))), (5, some (.row 103 2 (r.w.map eLate)))], [0, 1, 2, 3, 4, 5], []⟩
set_option maxHeartbeats 4000000 in
theorem fn_LApS (k : GKernel) (ss : List GSpan) (l : List GLate) (r : LSt) (hs : szK8 k) (hss : ss.length ≤ 1048576) (hl : l.length ≤ 1048576) (h : pLateApply k ss l = r) : Fn Tryz.prog (c_LApS k ss l r) := by
  obtain ⟨T, hT⟩ : ∃ T : Nat → LSt, ∀ i, T i = lateRun ⟨k, ss, []⟩ (l.take i) := ⟨_, fun _ => rfl⟩
  have h0 : T 0 = ⟨k, ss, []⟩ := by rw [hT]; rfl
  have hN : T l.length = r := by rw [hT, List.take_length]; exact h
  have hsucc : ∀ i, i < l.length → T (i + 1) = lateStep (T i) (l.getD i noLt) := fun i hi => by rw [hT, hT]; exact lateRun_take _ hi
  have hinv : ∀ i, LInv k ss (T i) := fun i => by rw [hT]; exact linv_run _ (linv_start _ _ _)
  have hwl : ∀ i, (T i).w.length ≤ i := fun i => by
    rw [hT]
    have := run_len ⟨k, ss, []⟩ (l.take i)
    rw [List.length_take] at this
    have h2 : ([] : List GLate).length = 0 := rfl
    exact Nat.le_trans this (by show 0 + _ ≤ i; omega)
  clear hT
  refine fn_intro tt_ok Tryz.func20 rfl Tryz.call20 Tryz.ntmps20 Tryz.results20 rfl rfl rfl rfl ?_
  intro X ρ0 hb_ hgl_
  dsimp only [c_LApS]
  try refine nrm ?_
  rw [← hN]
  repeat' (refine ar_id ?_; first | refine st1 ?_ | (first | ((first | refine ar_region (id := 1) tt_ok (inps := [.call (c_Copy8 k)]) rfl ?_ ?_ | refine ar_region (id := 2) tt_ok (inps := [.elems (ss.map eSpan)]) rfl ?_ ?_ | refine ar_region tt_ok (inps := []) rfl ?_ ?_); rotate_left; (try dsimp only [c_Copy8]); (try refine nrm ?_); rotate_right) | refine ret3 ?_ | refine end3 ?_) | (refine ar_cond rfl trivial ?_ ?_ <;> intro hc_ <;> (try simp only [isNilI, inB, reduceCtorEq, cds] at hc_) <;> (try (first | contradiction | (exfalso; omega)))) | refine ar_until (And.intro ?_ (wk3 ?_)))
  all_goals (first | refine ar_id ?_ | (try (focus ((try refine nrmO ?_); (repeat' (first | exact True.intro | refine And.intro ?_ ?_)); all_goals (try (intro (hg_ : _ = true); (try simp only [isNilI, inB, reduceCtorEq, cds] at hg_); (repeat' (first | exact True.intro | refine And.intro ?_ ?_)))); all_goals (first | exact ob1 | exact fn_Copy8 _ hs | exact flat_map' ss (fun x => ⟨rfl, rfl, rfl, rfl, trivial⟩) | skip)))))
  refine ar_keep 65487 (by dsimp only [keepS] <;> exact rfl) ?_
  refine ar_forM (l.length) (fun i => True) (fun i => [(12, (TV.sv (.one (.lit (.int .i64 (i)))))), (10, (TV.sv (.one (.hd 20)))), (11, (TV.sv (.one (.hd 21))))]) (fun i => [(9, some (.box 35 [.hd 18000, .hd 18001, .hd 18002, (CV.lit (.int .i64 (((T i).k).Calls))), .hd 18003])), (18000, some (.row 33 1 (((T i).k).Machine.Frames.Cells.map eIntS))), (18001, some (.row 4 1 (((T i).k).Machine.Frames.Used.map Tr.eB))), (18002, some (.row 47 2 (((T i).k).Machine.Table.Entries.map eEntry))), (18003, some (.row 3 1 (((T i).k).Refuse.map Tr.eI))), (20, some (.row 41 3 ((T i).ss.map eSpan))), (21, some (.row 103 2 ((T i).w.map eLate)))]) ?_ ?_ ?_
  rotate_left
  · first | trivial | simp
  (dsimp only [rnCap, capSVs, Int.toNat_natCast, ro, Nat.reduceAdd, Nat.reduceMul, Nat.zero_add, List.map, putT, app, wrapG, gOb, argT, keys, slotOf, dropped, gAnd, wB, rnT, rnS, rnC, rnCs, rnSs, rnM, rnB, rnN, rn, lk, St.over, ded, delL, keepT, menT, menSs, menS, menCs, menC, hasN, resT, SV.cells]; refine wk3 ?_; (focus ((try refine nrmO ?_); (repeat' (first | exact True.intro | refine And.intro ?_ ?_)); all_goals (try (intro (hg_ : _ = true); (try simp only [isNilI, inB, reduceCtorEq, cds] at hg_); (repeat' (first | exact True.intro | refine And.intro ?_ ?_)))); all_goals (first | exact ob1 | exact rfl | skip))))
  rotate_right
  intro i hi_ hiI_
  dsimp only [rnCap, capSVs, Int.toNat_natCast, ro, Nat.reduceAdd, Nat.reduceMul, Nat.zero_add, List.map, putT, app, wrapG, gOb, argT, keys, slotOf, dropped, gAnd, wB, rnT, rnS, rnC, rnCs, rnSs, rnM, rnB, rnN, rn, lk, St.over, ded, delL, keepT, menT, menSs, menS, menCs, menC, hasN, resT, SV.cells]
  have hIi := hinv i
  have hsi := szK8_kept hs hIi.k
  have hni := hIi.n
  have hwi := hwl i
  obtain ⟨x, hx⟩ : ∃ x, l.getD i noLt = x := ⟨_, rfl⟩
  by_cases hi : i < l.length
  · have hst := hsucc i hi
    rw [hx] at hst
    have hel : Elem (D.cat (l.map eLate)) 2 l.length ((i : Int)).toNat (eLate x) := elem_map (fun _ => rfl) (show l[i]? = some x by rw [← hx]; exact getD_at hi)
    have hnk : inK .i64 ((((T i).ss.map eSpan).length : Int) - 1) := i64_ok (by rw [List.length_map]; omega) (by rw [List.length_map]; omega)
    by_cases hin : isIn x (T i).ss.length
    · obtain ⟨⟨k2, s2, e⟩, hr⟩ : ∃ r, pFreeSlot (T i).k ((T i).ss.getD x.Index.toNat noSp) x.Slot = r := ⟨_, rfl⟩
      unfold lateStep at hst
      rw [if_pos hin, hr] at hst
      have hes : ((T i).ss.map eSpan)[x.Index.toNat]? = some (eSpan ((T i).ss.getD x.Index.toNat noSp)) := map_at (by have := hin.1; have := hin.2; omega)
      have hk1 : (T (i + 1)).k = k2 := by rw [hst]
      have hs1 : (T (i + 1)).ss = (T i).ss.set x.Index.toNat s2 := by rw [hst]
      have hi1 := hin.1
      have hi2 := hin.2
      have hF := fn_lFr _ _ _ _ _ _ hsi hr
      by_cases he : e = 2
      · subst he
        have hw1 : (T (i + 1)).w = (T i).w ++ [x] := by rw [hst] <;> rfl
        repeat' (refine ar_id ?_; first | refine st1 ?_ | (refine ar_drawS (id := 9) tt_ok (by kernel_rfl) [.elem (eSpan ((T i).ss.getD x.Index.toNat noSp)), .call (c_lFr (T i).k ((T i).ss.getD x.Index.toNat noSp) x.Slot k2 s2 2)] ?_; refine ed_hide ?_; intro K_ hK_; repeat' (first | ((first | refine ed_call3 ?_ | refine ed_sure3 ?_ | refine ed_cons3 ?_); refine ed_hide ?_; intro K_ hK_; (try dsimp only [c_In, c_lFr]); (try refine nrmE ?_)) | (refine ed_nil ?_; (repeat subst hK_); dsimp only; refine Exists.intro _ (And.intro rfl (And.intro (by kernel_rfl) (And.intro ?_ ?_))); rotate_left; (try dsimp only [c_In, c_lFr]); (try refine nrm ?_); rotate_right))) | (first | ((first | refine ar_region (id := 7) tt_ok (inps := [.elem (eLate x)]) rfl ?_ ?_ | refine ar_region (id := 8) tt_ok (inps := [.call (c_In x.Index 0 ((T i).ss.length - 1))]) rfl ?_ ?_ | refine ar_region (id := 10) tt_ok (inps := [.elem (eSpan ((T i).ss.getD x.Index.toNat noSp))]) rfl ?_ ?_ | refine ar_region tt_ok (inps := []) rfl ?_ ?_); rotate_left; (try dsimp only [c_In, c_lFr]); (try refine nrm ?_); rotate_right) | refine ret3 ?_ | refine end3 ?_) | (refine ar_cond rfl trivial ?_ ?_ <;> intro hc_ <;> (try simp only [isNilI, inB, reduceCtorEq, cds] at hc_) <;> (try (first | contradiction | (exfalso; omega) | (exfalso; omega)))) | refine ar_until (And.intro ?_ (wk3 ?_)))
        all_goals (first | refine ar_id ?_ | (try (focus ((try refine nrmO ?_); (repeat' (first | exact True.intro | refine And.intro ?_ ?_)); all_goals (try (intro (hg_ : _ = true); (try simp only [isNilI, inB, reduceCtorEq, cds] at hg_); (repeat' (first | exact True.intro | refine And.intro ?_ ?_)))); all_goals (first | exact ob1 | exact hel | exact hnk | exact fn_In _ _ _ | exact hes | exact hF | skip)))))
        all_goals first | (rw [hk1]; done) | (rw [hs1, List.map_set]; rfl) | (rw [hw1, List.map_append, app_eq]; rfl) | trace_state
      · have hw1 : (T (i + 1)).w = (T i).w := by rw [hst]; exact if_neg he
        repeat' (refine ar_id ?_; first | refine st1 ?_ | (refine ar_drawS (id := 9) tt_ok (by kernel_rfl) [.elem (eSpan ((T i).ss.getD x.Index.toNat noSp)), .call (c_lFr (T i).k ((T i).ss.getD x.Index.toNat noSp) x.Slot k2 s2 e)] ?_; refine ed_hide ?_; intro K_ hK_; repeat' (first | ((first | refine ed_call3 ?_ | refine ed_sure3 ?_ | refine ed_cons3 ?_); refine ed_hide ?_; intro K_ hK_; (try dsimp only [c_In, c_lFr]); (try refine nrmE ?_)) | (refine ed_nil ?_; (repeat subst hK_); dsimp only; refine Exists.intro _ (And.intro rfl (And.intro (by kernel_rfl) (And.intro ?_ ?_))); rotate_left; (try dsimp only [c_In, c_lFr]); (try refine nrm ?_); rotate_right))) | (first | ((first | refine ar_region (id := 7) tt_ok (inps := [.elem (eLate x)]) rfl ?_ ?_ | refine ar_region (id := 8) tt_ok (inps := [.call (c_In x.Index 0 ((T i).ss.length - 1))]) rfl ?_ ?_ | refine ar_region (id := 10) tt_ok (inps := [.elem (eSpan ((T i).ss.getD x.Index.toNat noSp))]) rfl ?_ ?_ | refine ar_region tt_ok (inps := []) rfl ?_ ?_); rotate_left; (try dsimp only [c_In, c_lFr]); (try refine nrm ?_); rotate_right) | refine ret3 ?_ | refine end3 ?_) | (refine ar_cond rfl trivial ?_ ?_ <;> intro hc_ <;> (try simp only [isNilI, inB, reduceCtorEq, cds] at hc_) <;> (try (first | contradiction | (exfalso; omega) | (exfalso; omega)))) | refine ar_until (And.intro ?_ (wk3 ?_)))
        all_goals (first | refine ar_id ?_ | (try (focus ((try refine nrmO ?_); (repeat' (first | exact True.intro | refine And.intro ?_ ?_)); all_goals (try (intro (hg_ : _ = true); (try simp only [isNilI, inB, reduceCtorEq, cds] at hg_); (repeat' (first | exact True.intro | refine And.intro ?_ ?_)))); all_goals (first | exact ob1 | exact hel | exact hnk | exact fn_In _ _ _ | exact hes | exact hF | skip)))))
        all_goals first | (rw [hk1]; done) | (rw [hs1, List.map_set]; rfl) | (rw [hw1]; done) | trace_state
    · unfold lateStep at hst
      rw [if_neg hin] at hst
      repeat' (refine ar_id ?_; first | refine st1 ?_ | (first | ((first | refine ar_region (id := 7) tt_ok (inps := [.elem (eLate x)]) rfl ?_ ?_ | refine ar_region (id := 8) tt_ok (inps := [.call (c_In x.Index 0 ((T i).ss.length - 1))]) rfl ?_ ?_ | refine ar_region tt_ok (inps := []) rfl ?_ ?_); rotate_left; (try dsimp only [c_In]); (try refine nrm ?_); rotate_right) | refine ret3 ?_ | refine end3 ?_) | (refine ar_cond rfl trivial ?_ ?_ <;> intro hc_ <;> (try simp only [isNilI, inB, reduceCtorEq, cds] at hc_) <;> (try (first | contradiction | (exfalso; omega) | (exfalso; first | omega | exact hin ⟨by omega, by omega⟩)))) | refine ar_until (And.intro ?_ (wk3 ?_)))
      all_goals (first | refine ar_id ?_ | (try (focus ((try refine nrmO ?_); (repeat' (first | exact True.intro | refine And.intro ?_ ?_)); all_goals (try (intro (hg_ : _ = true); (try simp only [isNilI, inB, reduceCtorEq, cds] at hg_); (repeat' (first | exact True.intro | refine And.intro ?_ ?_)))); all_goals (first | exact ob1 | exact hel | exact hnk | exact fn_In _ _ _ | skip)))))
      all_goals first | (rw [hst] <;> rfl) | trace_state
  · have hie : i = l.length := by omega
    subst hie
    repeat' (refine ar_id ?_; first | refine st1 ?_ | (first | ((first | refine ar_region tt_ok (inps := []) rfl ?_ ?_); rotate_left; (try refine nrm ?_); rotate_right) | refine ret3 ?_ | refine end3 ?_) | (refine ar_cond rfl trivial ?_ ?_ <;> intro hc_ <;> (try simp only [isNilI, inB, reduceCtorEq, cds] at hc_) <;> (try (first | contradiction | (exfalso; omega) | (exfalso; omega)))) | refine ar_until (And.intro ?_ (wk3 ?_)))
    all_goals (first | refine ar_id ?_ | (try (focus ((try refine nrmO ?_); (repeat' (first | exact True.intro | refine And.intro ?_ ?_)); all_goals (try (intro (hg_ : _ = true); (try simp only [isNilI, inB, reduceCtorEq, cds] at hg_); (repeat' (first | exact True.intro | refine And.intro ?_ ?_)))); all_goals (first | exact ob1 | skip)))))
    all_goals trace_state
  all_goals first | (rw [h0] <;> rfl) | trace_state
end Eng
end Go.Proofs.YtgeakpeodhhffaaGreatDoor
namespace Go.Proofs.YtgeakpeodhhffaaGreatDoor
open Go.RowKit
set_option linter.unusedVariables false
set_option linter.unusedSimpArgs false
set_option maxRecDepth 100000
namespace Eng
open Tr
def c_CloneB (l : List Bool) : CFD := ⟨151, [.one (ro 4 1 Tr.eB l)], [], .sv (.one (.hd 0)), [(0, some (.row 4 1 (l.map Tr.eB)))], [0], []⟩
theorem fn_CloneB (l : List Bool) (hl : l.length ≤ 1048576) : Fn Tryz.prog (c_CloneB l) := by
  refine fn_intro tt_ok Tryz.func151 rfl Tryz.call151 Tryz.ntmps151 Tryz.results151 rfl rfl rfl rfl ?_
  intro X ρ0 hb_ hgl_
  dsimp only [c_CloneB]
  try refine nrm ?_
  repeat' (refine ar_id ?_; first | refine st1 ?_ | (first | ((first | refine ar_region tt_ok (inps := []) rfl ?_ ?_); rotate_left; (try refine nrm ?_); rotate_right) | refine ret3 ?_ | refine end3 ?_) | (refine ar_cond rfl trivial ?_ ?_ <;> intro hc_ <;> (try simp only [isNilI, inB, reduceCtorEq, cds] at hc_) <;> (try (first | contradiction | (exfalso; omega)))) | refine ar_until (And.intro ?_ (wk3 ?_)))
  all_goals (first | refine ar_id ?_ | (try (focus ((try refine nrmO ?_); (repeat' (first | exact True.intro | refine And.intro ?_ ?_)); all_goals (try (intro (hg_ : _ = true); (try simp only [isNilI, inB, reduceCtorEq, cds] at hg_); (repeat' (first | exact True.intro | refine And.intro ?_ ?_)))); all_goals (first | exact ob1 | skip)))))
  refine ar_split (s := 0) rfl ?_ ?_
  · intro hn hc
    repeat' (refine ar_id ?_; first | refine st1 ?_ | (first | ((first | refine ar_region tt_ok (inps := []) rfl ?_ ?_); rotate_left; (try refine nrm ?_); rotate_right) | refine ret3 ?_ | refine end3 ?_) | (refine ar_cond rfl trivial ?_ ?_ <;> intro hc_ <;> (try simp only [isNilI, inB, reduceCtorEq, cds] at hc_) <;> (try (first | contradiction | (exfalso; omega)))) | refine ar_until (And.intro ?_ (wk3 ?_)))
    all_goals (first | refine ar_id ?_ | (try (focus ((try refine nrmO ?_); (repeat' (first | exact True.intro | refine And.intro ?_ ?_)); all_goals (try (intro (hg_ : _ = true); (try simp only [isNilI, inB, reduceCtorEq, cds] at hg_); (repeat' (first | exact True.intro | refine And.intro ?_ ?_)))); all_goals (first | exact ob1 | skip)))))
    refine ar_nil (s := 2) (T := 4) (q := 1) (r := 90000) rfl rfl ?_
    repeat' (refine ar_id ?_; first | refine st1 ?_ | (first | ((first | refine ar_region tt_ok (inps := []) rfl ?_ ?_); rotate_left; (try refine nrm ?_); rotate_right) | refine ret3 ?_ | refine end3 ?_) | (refine ar_cond rfl trivial ?_ ?_ <;> intro hc_ <;> (try simp only [isNilI, inB, reduceCtorEq, cds] at hc_) <;> (try (first | contradiction | (exfalso; omega)))) | refine ar_until (And.intro ?_ (wk3 ?_)))
    all_goals (first | refine ar_id ?_ | (try (focus ((try refine nrmO ?_); (repeat' (first | exact True.intro | refine And.intro ?_ ?_)); all_goals (try (intro (hg_ : _ = true); (try simp only [isNilI, inB, reduceCtorEq, cds] at hg_); (repeat' (first | exact True.intro | refine And.intro ?_ ?_)))); all_goals (first | exact ob1 | skip)))))
    rw [List.length_eq_zero_iff.1 hn]; rfl
  · intro ad cap hr
    repeat' (refine ar_id ?_; first | refine st1 ?_ | (first | ((first | refine ar_region tt_ok (inps := []) rfl ?_ ?_); rotate_left; (try refine nrm ?_); rotate_right) | refine ret3 ?_ | refine end3 ?_) | (refine ar_cond rfl trivial ?_ ?_ <;> intro hc_ <;> (try simp only [isNilI, inB, reduceCtorEq, cds] at hc_) <;> (try (first | contradiction | (exfalso; omega)))) | refine ar_until (And.intro ?_ (wk3 ?_)))
    all_goals (first | refine ar_id ?_ | (try (focus ((try refine nrmO ?_); (repeat' (first | exact True.intro | refine And.intro ?_ ?_)); all_goals (try (intro (hg_ : _ = true); (try simp only [isNilI, inB, reduceCtorEq, cds] at hg_); (repeat' (first | exact True.intro | refine And.intro ?_ ?_)))); all_goals (first | exact ob1 | skip)))))
    refine ar_read (s := 0) hr rfl ?_
    repeat' (refine ar_id ?_; first | refine st1 ?_ | (first | ((first | refine ar_region (id := 3) tt_ok (inps := [.elems (l.map Tr.eB)]) rfl ?_ ?_ | refine ar_region tt_ok (inps := []) rfl ?_ ?_); rotate_left; (try refine nrm ?_); rotate_right) | refine ret3 ?_ | refine end3 ?_) | (refine ar_cond rfl trivial ?_ ?_ <;> intro hc_ <;> (try simp only [isNilI, inB, reduceCtorEq, cds] at hc_) <;> (try (first | contradiction | (exfalso; omega)))) | refine ar_until (And.intro ?_ (wk3 ?_)))
    all_goals (first | refine ar_id ?_ | (try (focus ((try refine nrmO ?_); (repeat' (first | exact True.intro | refine And.intro ?_ ?_)); all_goals (try (intro (hg_ : _ = true); (try simp only [isNilI, inB, reduceCtorEq, cds] at hg_); (repeat' (first | exact True.intro | refine And.intro ?_ ?_)))); all_goals (first | exact ob1 | exact flat_map' l (fun x => ⟨rfl, rfl, trivial⟩) | exact (by simp only [lns]; omega) | exact (by simp) | skip)))))
def c_CloneI (l : List Int) : CFD := ⟨82, [.one (ro 3 1 Tr.eI l)], [], .sv (.one (.hd 0)), [(0, some (.row 3 1 (l.map Tr.eI)))], [0], []⟩
theorem fn_CloneI (l : List Int) (hl : l.length ≤ 1048576) : Fn Tryz.prog (c_CloneI l) := by
  refine fn_intro tt_ok Tryz.func82 rfl Tryz.call82 Tryz.ntmps82 Tryz.results82 rfl rfl rfl rfl ?_
  intro X ρ0 hb_ hgl_
  dsimp only [c_CloneI]
  try refine nrm ?_
  repeat' (refine ar_id ?_; first | refine st1 ?_ | (first | ((first | refine ar_region tt_ok (inps := []) rfl ?_ ?_); rotate_left; (try refine nrm ?_); rotate_right) | refine ret3 ?_ | refine end3 ?_) | (refine ar_cond rfl trivial ?_ ?_ <;> intro hc_ <;> (try simp only [isNilI, inB, reduceCtorEq, cds] at hc_) <;> (try (first | contradiction | (exfalso; omega)))) | refine ar_until (And.intro ?_ (wk3 ?_)))
  all_goals (first | refine ar_id ?_ | (try (focus ((try refine nrmO ?_); (repeat' (first | exact True.intro | refine And.intro ?_ ?_)); all_goals (try (intro (hg_ : _ = true); (try simp only [isNilI, inB, reduceCtorEq, cds] at hg_); (repeat' (first | exact True.intro | refine And.intro ?_ ?_)))); all_goals (first | exact ob1 | skip)))))
  refine ar_split (s := 0) rfl ?_ ?_
  · intro hn hc
    repeat' (refine ar_id ?_; first | refine st1 ?_ | (first | ((first | refine ar_region tt_ok (inps := []) rfl ?_ ?_); rotate_left; (try refine nrm ?_); rotate_right) | refine ret3 ?_ | refine end3 ?_) | (refine ar_cond rfl trivial ?_ ?_ <;> intro hc_ <;> (try simp only [isNilI, inB, reduceCtorEq, cds] at hc_) <;> (try (first | contradiction | (exfalso; omega)))) | refine ar_until (And.intro ?_ (wk3 ?_)))
    all_goals (first | refine ar_id ?_ | (try (focus ((try refine nrmO ?_); (repeat' (first | exact True.intro | refine And.intro ?_ ?_)); all_goals (try (intro (hg_ : _ = true); (try simp only [isNilI, inB, reduceCtorEq, cds] at hg_); (repeat' (first | exact True.intro | refine And.intro ?_ ?_)))); all_goals (first | exact ob1 | skip)))))
    refine ar_nil (s := 2) (T := 3) (q := 1) (r := 90000) rfl rfl ?_
    repeat' (refine ar_id ?_; first | refine st1 ?_ | (first | ((first | refine ar_region tt_ok (inps := []) rfl ?_ ?_); rotate_left; (try refine nrm ?_); rotate_right) | refine ret3 ?_ | refine end3 ?_) | (refine ar_cond rfl trivial ?_ ?_ <;> intro hc_ <;> (try simp only [isNilI, inB, reduceCtorEq, cds] at hc_) <;> (try (first | contradiction | (exfalso; omega)))) | refine ar_until (And.intro ?_ (wk3 ?_)))
    all_goals (first | refine ar_id ?_ | (try (focus ((try refine nrmO ?_); (repeat' (first | exact True.intro | refine And.intro ?_ ?_)); all_goals (try (intro (hg_ : _ = true); (try simp only [isNilI, inB, reduceCtorEq, cds] at hg_); (repeat' (first | exact True.intro | refine And.intro ?_ ?_)))); all_goals (first | exact ob1 | skip)))))
    rw [List.length_eq_zero_iff.1 hn]; rfl
  · intro ad cap hr
    repeat' (refine ar_id ?_; first | refine st1 ?_ | (first | ((first | refine ar_region tt_ok (inps := []) rfl ?_ ?_); rotate_left; (try refine nrm ?_); rotate_right) | refine ret3 ?_ | refine end3 ?_) | (refine ar_cond rfl trivial ?_ ?_ <;> intro hc_ <;> (try simp only [isNilI, inB, reduceCtorEq, cds] at hc_) <;> (try (first | contradiction | (exfalso; omega)))) | refine ar_until (And.intro ?_ (wk3 ?_)))
    all_goals (first | refine ar_id ?_ | (try (focus ((try refine nrmO ?_); (repeat' (first | exact True.intro | refine And.intro ?_ ?_)); all_goals (try (intro (hg_ : _ = true); (try simp only [isNilI, inB, reduceCtorEq, cds] at hg_); (repeat' (first | exact True.intro | refine And.intro ?_ ?_)))); all_goals (first | exact ob1 | skip)))))
    refine ar_read (s := 0) hr rfl ?_
    repeat' (refine ar_id ?_; first | refine st1 ?_ | (first | ((first | refine ar_region (id := 3) tt_ok (inps := [.elems (l.map Tr.eI)]) rfl ?_ ?_ | refine ar_region tt_ok (inps := []) rfl ?_ ?_); rotate_left; (try refine nrm ?_); rotate_right) | refine ret3 ?_ | refine end3 ?_) | (refine ar_cond rfl trivial ?_ ?_ <;> intro hc_ <;> (try simp only [isNilI, inB, reduceCtorEq, cds] at hc_) <;> (try (first | contradiction | (exfalso; omega)))) | refine ar_until (And.intro ?_ (wk3 ?_)))
    all_goals (first | refine ar_id ?_ | (try (focus ((try refine nrmO ?_); (repeat' (first | exact True.intro | refine And.intro ?_ ?_)); all_goals (try (intro (hg_ : _ = true); (try simp only [isNilI, inB, reduceCtorEq, cds] at hg_); (repeat' (first | exact True.intro | refine And.intro ?_ ?_)))); all_goals (first | exact ob1 | exact flat_map' l (fun x => ⟨rfl, rfl, trivial⟩) | exact (by simp only [lns]; omega) | exact (by simp) | skip)))))
def c_CloneE (l : List GEntry) : CFD := ⟨118, [.one (ro 47 2 eEntry l)], [], .sv (.one (.hd 0)), [(0, some (.row 47 2 (l.map eEntry)))], [0], []⟩
theorem fn_CloneE (l : List GEntry) (hl : l.length ≤ 1048576) : Fn Tryz.prog (c_CloneE l) := by
  refine fn_intro tt_ok Tryz.func118 rfl Tryz.call118 Tryz.ntmps118 Tryz.results118 rfl rfl rfl rfl ?_
  intro X ρ0 hb_ hgl_
  dsimp only [c_CloneE]
  try refine nrm ?_
  repeat' (refine ar_id ?_; first | refine st1 ?_ | (first | ((first | refine ar_region tt_ok (inps := []) rfl ?_ ?_); rotate_left; (try refine nrm ?_); rotate_right) | refine ret3 ?_ | refine end3 ?_) | (refine ar_cond rfl trivial ?_ ?_ <;> intro hc_ <;> (try simp only [isNilI, inB, reduceCtorEq, cds] at hc_) <;> (try (first | contradiction | (exfalso; omega)))) | refine ar_until (And.intro ?_ (wk3 ?_)))
  all_goals (first | refine ar_id ?_ | (try (focus ((try refine nrmO ?_); (repeat' (first | exact True.intro | refine And.intro ?_ ?_)); all_goals (try (intro (hg_ : _ = true); (try simp only [isNilI, inB, reduceCtorEq, cds] at hg_); (repeat' (first | exact True.intro | refine And.intro ?_ ?_)))); all_goals (first | exact ob1 | skip)))))
  refine ar_split (s := 0) rfl ?_ ?_
  · intro hn hc
    repeat' (refine ar_id ?_; first | refine st1 ?_ | (first | ((first | refine ar_region tt_ok (inps := []) rfl ?_ ?_); rotate_left; (try refine nrm ?_); rotate_right) | refine ret3 ?_ | refine end3 ?_) | (refine ar_cond rfl trivial ?_ ?_ <;> intro hc_ <;> (try simp only [isNilI, inB, reduceCtorEq, cds] at hc_) <;> (try (first | contradiction | (exfalso; omega)))) | refine ar_until (And.intro ?_ (wk3 ?_)))
    all_goals (first | refine ar_id ?_ | (try (focus ((try refine nrmO ?_); (repeat' (first | exact True.intro | refine And.intro ?_ ?_)); all_goals (try (intro (hg_ : _ = true); (try simp only [isNilI, inB, reduceCtorEq, cds] at hg_); (repeat' (first | exact True.intro | refine And.intro ?_ ?_)))); all_goals (first | exact ob1 | skip)))))
    refine ar_nil (s := 2) (T := 47) (q := 2) (r := 90000) rfl rfl ?_
    repeat' (refine ar_id ?_; first | refine st1 ?_ | (first | ((first | refine ar_region tt_ok (inps := []) rfl ?_ ?_); rotate_left; (try refine nrm ?_); rotate_right) | refine ret3 ?_ | refine end3 ?_) | (refine ar_cond rfl trivial ?_ ?_ <;> intro hc_ <;> (try simp only [isNilI, inB, reduceCtorEq, cds] at hc_) <;> (try (first | contradiction | (exfalso; omega)))) | refine ar_until (And.intro ?_ (wk3 ?_)))
    all_goals (first | refine ar_id ?_ | (try (focus ((try refine nrmO ?_); (repeat' (first | exact True.intro | refine And.intro ?_ ?_)); all_goals (try (intro (hg_ : _ = true); (try simp only [isNilI, inB, reduceCtorEq, cds] at hg_); (repeat' (first | exact True.intro | refine And.intro ?_ ?_)))); all_goals (first | exact ob1 | skip)))))
    rw [List.length_eq_zero_iff.1 hn]; rfl
  · intro ad cap hr
    repeat' (refine ar_id ?_; first | refine st1 ?_ | (first | ((first | refine ar_region tt_ok (inps := []) rfl ?_ ?_); rotate_left; (try refine nrm ?_); rotate_right) | refine ret3 ?_ | refine end3 ?_) | (refine ar_cond rfl trivial ?_ ?_ <;> intro hc_ <;> (try simp only [isNilI, inB, reduceCtorEq, cds] at hc_) <;> (try (first | contradiction | (exfalso; omega)))) | refine ar_until (And.intro ?_ (wk3 ?_)))
    all_goals (first | refine ar_id ?_ | (try (focus ((try refine nrmO ?_); (repeat' (first | exact True.intro | refine And.intro ?_ ?_)); all_goals (try (intro (hg_ : _ = true); (try simp only [isNilI, inB, reduceCtorEq, cds] at hg_); (repeat' (first | exact True.intro | refine And.intro ?_ ?_)))); all_goals (first | exact ob1 | skip)))))
    refine ar_read (s := 0) hr rfl ?_
    repeat' (refine ar_id ?_; first | refine st1 ?_ | (first | ((first | refine ar_region (id := 3) tt_ok (inps := [.elems (l.map eEntry)]) rfl ?_ ?_ | refine ar_region tt_ok (inps := []) rfl ?_ ?_); rotate_left; (try refine nrm ?_); rotate_right) | refine ret3 ?_ | refine end3 ?_) | (refine ar_cond rfl trivial ?_ ?_ <;> intro hc_ <;> (try simp only [isNilI, inB, reduceCtorEq, cds] at hc_) <;> (try (first | contradiction | (exfalso; omega)))) | refine ar_until (And.intro ?_ (wk3 ?_)))
    all_goals (first | refine ar_id ?_ | (try (focus ((try refine nrmO ?_); (repeat' (first | exact True.intro | refine And.intro ?_ ?_)); all_goals (try (intro (hg_ : _ = true); (try simp only [isNilI, inB, reduceCtorEq, cds] at hg_); (repeat' (first | exact True.intro | refine And.intro ?_ ?_)))); all_goals (first | exact ob1 | exact flat_map' l (fun x => ⟨rfl, rfl, rfl, trivial⟩) | exact (by simp only [lns]; omega) | exact (by simp) | skip)))))
end Eng
end Go.Proofs.YtgeakpeodhhffaaGreatDoor
namespace Go.Proofs.YtgeakpeodhhffaaGreatDoor
open Go.RowKit
set_option linter.unusedVariables false
set_option linter.unusedSimpArgs false
set_option maxRecDepth 100000
namespace Eng
open Tr
def c_vir (v : Int) : CFD := ⟨156, [(SV.one (.lit (.int .i64 (v))))], [], (TV.sv (.one (.lit (.bool (inB v 0 999))))), [], [], []⟩
theorem fn_vir (v : Int) : Fn Tryz.prog (c_vir v) := by
  refine fn_intro tt_ok Tryz.func156 rfl Tryz.call156 Tryz.ntmps156 Tryz.results156 rfl rfl rfl rfl ?_
  intro X ρ0 hb_ hgl_
  dsimp only [c_vir]
  try refine nrm ?_
  repeat' (refine ar_id ?_; first | refine st1 ?_ | (first | ((first | refine ar_region tt_ok (inps := []) rfl ?_ ?_); rotate_left; (try refine nrm ?_); rotate_right) | refine ret3 ?_ | refine end3 ?_) | (refine ar_cond rfl trivial ?_ ?_ <;> intro hc_ <;> (try simp only [isNilI, inB, reduceCtorEq, cds] at hc_) <;> (try (first | contradiction | (exfalso; omega)))) | refine ar_until (And.intro ?_ (wk3 ?_)))
  all_goals (first | refine ar_id ?_ | (try (focus ((try refine nrmO ?_); (repeat' (first | exact True.intro | refine And.intro ?_ ?_)); all_goals (try (intro (hg_ : _ = true); (try simp only [isNilI, inB, reduceCtorEq, cds] at hg_); (repeat' (first | exact True.intro | refine And.intro ?_ ?_)))); all_goals (first | exact ob1 | skip)))))
  exact congrArg Value.bool (by unfold inB; cases h : decide (v ≥ 0) <;> simp_all)
def c_frameOk (r : List Int) (u : Bool) : CFD := ⟨152, [.one (ro 3 1 Tr.eI r), (SV.one (.lit (.bool (u))))], [], (TV.sv (.one (.lit (.bool (decide (okRow u r)))))), [], [], []⟩
theorem fn_frameOk (r : List Int) (u : Bool) (hl : r.length ≤ 1048576) : Fn Tryz.prog (c_frameOk r u) := by
  refine fn_intro tt_ok Tryz.func152 rfl Tryz.call152 Tryz.ntmps152 Tryz.results152 rfl rfl rfl rfl ?_
  intro X ρ0 hb_ hgl_
  dsimp only [c_frameOk]
  try refine nrm ?_
  repeat' (refine ar_id ?_; first | refine st1 ?_ | (first | ((first | refine ar_region tt_ok (inps := []) rfl ?_ ?_); rotate_left; (try refine nrm ?_); rotate_right) | refine ret3 ?_ | refine end3 ?_) | (refine ar_cond rfl trivial ?_ ?_ <;> intro hc_ <;> (try simp only [isNilI, inB, reduceCtorEq, cds] at hc_) <;> (try (first | contradiction | (exfalso; omega)))) | refine ar_until (And.intro ?_ (wk3 ?_)))
  all_goals (first | refine ar_id ?_ | (try (focus ((try refine nrmO ?_); (repeat' (first | exact True.intro | refine And.intro ?_ ?_)); all_goals (try (intro (hg_ : _ = true); (try simp only [isNilI, inB, reduceCtorEq, cds] at hg_); (repeat' (first | exact True.intro | refine And.intro ?_ ?_)))); all_goals (first | exact ob1 | skip)))))
  · exact bf fun h => hc_ (by rw [h.1]; rfl)
  have hlen := hc_
  refine ar_keep 7251 (by dsimp only [keepS] <;> exact rfl) ?_
  refine ar_forM (r.length) (fun i => ∀ v ∈ r.take i, okV u v) (fun i => [(12, (TV.sv (.one (.lit (.int .i64 (i))))))]) (fun i => []) ?_ ?_ ?_
  rotate_left
  · first | trivial | simp
  (dsimp only [rnCap, capSVs, Int.toNat_natCast, ro, Nat.reduceAdd, Nat.reduceMul, Nat.zero_add, List.map, putT, app, wrapG, gOb, argT, keys, slotOf, dropped, gAnd, wB, rnT, rnS, rnC, rnCs, rnSs, rnM, rnB, rnN, rn, lk, St.over, ded, delL, keepT, menT, menSs, menS, menCs, menC, hasN, resT, SV.cells]; refine wk3 ?_; (focus ((try refine nrmO ?_); (repeat' (first | exact True.intro | refine And.intro ?_ ?_)); all_goals (try (intro (hg_ : _ = true); (try simp only [isNilI, inB, reduceCtorEq, cds] at hg_); (repeat' (first | exact True.intro | refine And.intro ?_ ?_)))); all_goals (first | exact ob1 | exact rfl | skip))))
  rotate_right
  intro i hi_ hiI_
  dsimp only [rnCap, capSVs, Int.toNat_natCast, ro, Nat.reduceAdd, Nat.reduceMul, Nat.zero_add, List.map, putT, app, wrapG, gOb, argT, keys, slotOf, dropped, gAnd, wB, rnT, rnS, rnC, rnCs, rnSs, rnM, rnB, rnN, rn, lk, St.over, ded, delL, keepT, menT, menSs, menS, menCs, menC, hasN, resT, SV.cells]
  repeat' (refine ar_id ?_; first | refine st1 ?_ | (first | ((first | refine ar_region (id := 5) tt_ok (inps := [.elem (Tr.eI (r.getD i 0))]) rfl ?_ ?_ | refine ar_region (id := 6) tt_ok (inps := [.call (c_vir (r.getD i 0))]) rfl ?_ ?_ | refine ar_region tt_ok (inps := []) rfl ?_ ?_); rotate_left; (try dsimp only [c_vir]); (try refine nrm ?_); rotate_right) | refine ret3 ?_ | refine end3 ?_) | (refine ar_cond rfl trivial ?_ ?_ <;> intro hc_ <;> (try simp only [isNilI, inB, reduceCtorEq, cds] at hc_) <;> (try (first | contradiction | (exfalso; omega)))) | refine ar_until (And.intro ?_ (wk3 ?_)))
  all_goals (first | refine ar_id ?_ | (try (focus ((try refine nrmO ?_); (repeat' (first | exact True.intro | refine And.intro ?_ ?_)); all_goals (try (intro (hg_ : _ = true); (try simp only [isNilI, inB, reduceCtorEq, cds] at hg_); (repeat' (first | exact True.intro | refine And.intro ?_ ?_)))); all_goals (first | exact ob1 | exact fn_vir _ | skip)))))
  · refine bf fun h => ?_
    have := h.2 _ (getD_in (l := r) (i := i) (d := 0) (by omega))
    rcases hc_ with hc_ | ⟨h1, h2⟩
    · have := this.1; omega
    · rcases this.2 with h3 | h3
      · rw [h1] at h3; cases h3
      · exact h2 h3
  · exact all_take hiI_ (by omega) hc_
  · exact bt ⟨by omega, all_full hiI_ (by omega)⟩
theorem zip_getD {α β : Type} {l : List α} {m : List β} {i : Nat} {a : α} {b : β} (h1 : i < l.length) (h2 : i < m.length) : (l.zip m).getD i (a, b) = (l.getD i a, m.getD i b) := by
  have := zip_at (getD_at (x := a) h1) (getD_at (x := b) h2)
  rw [List.getD_eq_getElem?_getD, this]
  rfl
def c_FramesOkI (f : GFrames) : CFD := ⟨123, [.agg [ro 33 1 eIntS f.Cells, ro 4 1 Tr.eB f.Used]], [], (TV.sv (.one (.lit (.bool (pFramesOk f))))), [], [], []⟩
theorem fn_FramesOkI (f : GFrames) (hl : f.Cells.length ≤ 1048576) (hu : f.Used.length ≤ 1048576) (hc : ∀ r ∈ f.Cells, r.length ≤ 1048576) : Fn Tryz.prog (c_FramesOkI f) := by
  refine fn_intro tt_ok Tryz.func123 rfl Tryz.call123 Tryz.ntmps123 Tryz.results123 rfl rfl rfl rfl ?_
  intro X ρ0 hb_ hgl_
  dsimp only [c_FramesOkI]
  try refine nrm ?_
  repeat' (refine ar_id ?_; first | refine st1 ?_ | (first | ((first | refine ar_region tt_ok (inps := []) rfl ?_ ?_); rotate_left; (try refine nrm ?_); rotate_right) | refine ret3 ?_ | refine end3 ?_) | (refine ar_cond rfl trivial ?_ ?_ <;> intro hc_ <;> (try simp only [isNilI, inB, reduceCtorEq, cds] at hc_) <;> (try (first | contradiction | (exfalso; omega)))) | refine ar_until (And.intro ?_ (wk3 ?_)))
  all_goals (first | refine ar_id ?_ | (try (focus ((try refine nrmO ?_); (repeat' (first | exact True.intro | refine And.intro ?_ ?_)); all_goals (try (intro (hg_ : _ = true); (try simp only [isNilI, inB, reduceCtorEq, cds] at hg_); (repeat' (first | exact True.intro | refine And.intro ?_ ?_)))); all_goals (first | exact ob1 | skip)))))
  · exact bf fun h => by have := h.1; have := h.2.1; omega
  have hlen := hc_
  refine ar_keep 234881055 (by dsimp only [keepS] <;> exact rfl) ?_
  refine ar_forM (f.Cells.length) (fun i => ∀ p ∈ (f.Cells.zip f.Used).take i, okRow p.2 p.1) (fun i => [(27, (TV.sv (.one (.lit (.int .i64 (i))))))]) (fun i => []) ?_ ?_ ?_
  rotate_left
  · first | trivial | simp
  (dsimp only [rnCap, capSVs, Int.toNat_natCast, ro, Nat.reduceAdd, Nat.reduceMul, Nat.zero_add, List.map, putT, app, wrapG, gOb, argT, keys, slotOf, dropped, gAnd, wB, rnT, rnS, rnC, rnCs, rnSs, rnM, rnB, rnN, rn, lk, St.over, ded, delL, keepT, menT, menSs, menS, menCs, menC, hasN, resT, SV.cells]; refine wk3 ?_; (focus ((try refine nrmO ?_); (repeat' (first | exact True.intro | refine And.intro ?_ ?_)); all_goals (try (intro (hg_ : _ = true); (try simp only [isNilI, inB, reduceCtorEq, cds] at hg_); (repeat' (first | exact True.intro | refine And.intro ?_ ?_)))); all_goals (first | exact ob1 | exact rfl | skip))))
  rotate_right
  intro i hi_ hiI_
  dsimp only [rnCap, capSVs, Int.toNat_natCast, ro, Nat.reduceAdd, Nat.reduceMul, Nat.zero_add, List.map, putT, app, wrapG, gOb, argT, keys, slotOf, dropped, gAnd, wB, rnT, rnS, rnC, rnCs, rnSs, rnM, rnB, rnN, rn, lk, St.over, ded, delL, keepT, menT, menSs, menS, menCs, menC, hasN, resT, SV.cells]
  repeat' (refine ar_id ?_; first | refine st1 ?_ | (first | ((first | refine ar_region (id := 5) tt_ok (inps := [.elem (eIntS (f.Cells.getD i []))]) rfl ?_ ?_ | refine ar_region (id := 6) tt_ok (inps := [.elem (Tr.eB (f.Used.getD i false)), .call (c_frameOk (f.Cells.getD i []) (f.Used.getD i false))]) rfl ?_ ?_ | refine ar_region tt_ok (inps := []) rfl ?_ ?_); rotate_left; (try dsimp only [c_frameOk]); (try refine nrm ?_); rotate_right) | refine ret3 ?_ | refine end3 ?_) | (refine ar_cond rfl trivial ?_ ?_ <;> intro hc_ <;> (try simp only [isNilI, inB, reduceCtorEq, cds] at hc_) <;> (try (first | contradiction | (exfalso; omega)))) | refine ar_until (And.intro ?_ (wk3 ?_)))
  all_goals (first | refine ar_id ?_ | (try (focus ((try refine nrmO ?_); (repeat' (first | exact True.intro | refine And.intro ?_ ?_)); all_goals (try (intro (hg_ : _ = true); (try simp only [isNilI, inB, reduceCtorEq, cds] at hg_); (repeat' (first | exact True.intro | refine And.intro ?_ ?_)))); all_goals (first | exact ob1 | exact fn_frameOk _ _ (hc _ (getD_in (by omega))) | skip)))))
  · refine bf fun h => hc_ ?_
    have := h.2.2 _ (getD_in (l := f.Cells.zip f.Used) (i := i) (d := ([], false)) (by rw [List.length_zip]; omega))
    rwa [zip_getD (by omega) (by omega)] at this
  · exact all_take (d := ([], false)) hiI_ (by rw [List.length_zip]; omega) (by rw [zip_getD (by omega) (by omega)]; exact hc_)
  · exact bt ⟨by omega, by omega, all_full hiI_ (by rw [List.length_zip]; omega)⟩
def c_Copy5I (f : GFrames) : CFD := ⟨117, [.agg [ro 33 1 eIntS f.Cells, ro 4 1 Tr.eB f.Used]], [], .sv (.agg [.hd 0, .hd 1]),
  [(0, some (.row 33 1 (f.Cells.map eIntS))), (1, some (.row 4 1 (f.Used.map Tr.eB)))], [0, 1], []⟩
theorem fn_Copy5I (f : GFrames) (hl : f.Cells.length ≤ 1048576) (hu : f.Used.length ≤ 1048576) (hc : ∀ r ∈ f.Cells, r.length ≤ 1048576) : Fn Tryz.prog (c_Copy5I f) := by
  refine fn_intro tt_ok Tryz.func117 rfl Tryz.call117 Tryz.ntmps117 Tryz.results117 rfl rfl rfl rfl ?_
  intro X ρ0 hb_ hgl_
  dsimp only [c_Copy5I]
  try refine nrm ?_
  repeat' (refine ar_id ?_; first | refine st1 ?_ | (first | ((first | refine ar_region tt_ok (inps := []) rfl ?_ ?_); rotate_left; (try refine nrm ?_); rotate_right) | refine ret3 ?_ | refine end3 ?_) | (refine ar_cond rfl trivial ?_ ?_ <;> intro hc_ <;> (try simp only [isNilI, inB, reduceCtorEq, cds] at hc_) <;> (try (first | contradiction | (exfalso; omega)))) | refine ar_until (And.intro ?_ (wk3 ?_)))
  all_goals (first | refine ar_id ?_ | (try (focus ((try refine nrmO ?_); (repeat' (first | exact True.intro | refine And.intro ?_ ?_)); all_goals (try (intro (hg_ : _ = true); (try simp only [isNilI, inB, reduceCtorEq, cds] at hg_); (repeat' (first | exact True.intro | refine And.intro ?_ ?_)))); all_goals (first | exact ob1 | skip)))))
  refine ar_keep 3103 (by dsimp only [keepS] <;> exact rfl) ?_
  refine ar_forM (f.Cells.length) (fun i => True) (fun i => [(11, (TV.sv (.one (.lit (.int .i64 (i)))))), (3, (TV.sv (.one (.hd 8))))]) (fun i => [(8, some (.row 33 1 ((f.Cells.take i).map eIntS ++ List.replicate (f.Cells.length - i) (dOf [.slice none 0 0]))))]) ?_ ?_ ?_
  rotate_left
  · first | trivial | simp
  (dsimp only [rnCap, capSVs, Int.toNat_natCast, ro, Nat.reduceAdd, Nat.reduceMul, Nat.zero_add, List.map, putT, app, wrapG, gOb, argT, keys, slotOf, dropped, gAnd, wB, rnT, rnS, rnC, rnCs, rnSs, rnM, rnB, rnN, rn, lk, St.over, ded, delL, keepT, menT, menSs, menS, menCs, menC, hasN, resT, SV.cells]; refine wk3 ?_; (focus ((try refine nrmO ?_); (repeat' (first | exact True.intro | refine And.intro ?_ ?_)); all_goals (try (intro (hg_ : _ = true); (try simp only [isNilI, inB, reduceCtorEq, cds] at hg_); (repeat' (first | exact True.intro | refine And.intro ?_ ?_)))); all_goals (first | exact ob1 | exact rfl | skip))))
  rotate_right
  intro i hi_ hiI_
  dsimp only [rnCap, capSVs, Int.toNat_natCast, ro, Nat.reduceAdd, Nat.reduceMul, Nat.zero_add, List.map, putT, app, wrapG, gOb, argT, keys, slotOf, dropped, gAnd, wB, rnT, rnS, rnC, rnCs, rnSs, rnM, rnB, rnN, rn, lk, St.over, ded, delL, keepT, menT, menSs, menS, menCs, menC, hasN, resT, SV.cells]
  repeat' (refine ar_id ?_; first | refine st1 ?_ | (first | ((first | refine ar_region (id := 5) tt_ok (inps := [.elem (eIntS (f.Cells.getD i [])), .elem (dOf [.slice none 0 0])]) rfl ?_ ?_ | refine ar_region tt_ok (inps := []) rfl ?_ ?_); rotate_left; (try refine nrm ?_); rotate_right) | refine ret3 ?_ | refine end3 ?_) | (refine ar_cond rfl trivial ?_ ?_ <;> intro hc_ <;> (try simp only [isNilI, inB, reduceCtorEq, cds] at hc_) <;> (try (first | contradiction | (exfalso; omega)))) | refine ar_until (And.intro ?_ (wk3 ?_)))
  all_goals (first | refine ar_id ?_ | (try (focus ((try refine nrmO ?_); (repeat' (first | exact True.intro | refine And.intro ?_ ?_)); all_goals (try (intro (hg_ : _ = true); (try simp only [isNilI, inB, reduceCtorEq, cds] at hg_); (repeat' (first | exact True.intro | refine And.intro ?_ ?_)))); all_goals (first | exact ob1 | skip)))))
  · have := hc _ (getD_in (l := f.Cells) (i := i) (d := []) (by omega)); simp only [List.length_map]; omega
  · rw [Int.toNat_natCast]; exact fill_at _ _ _ (by omega)
  · have hlen : i < ((f.Cells.take i).map eIntS ++ List.replicate (f.Cells.length - i) (dOf [.slice none 0 0])).length := by rw [fill_len _ _ _ (by omega)]; omega
    refine ar_row 8 (((f.Cells.take i).map eIntS ++ List.replicate (f.Cells.length - i) (dOf [.slice none 0 0])).set i (eIntS (List.replicate (f.Cells.getD i []).length 0))) rfl ((congrArg (List.set _ i) (by show D.row _ _ _ _ _ = D.row _ _ _ _ _; rw [List.map_replicate, List.length_map]; rfl))) ?_
    refine ar_open 8 i 0 90001 90002 (d := eIntS (List.replicate (f.Cells.getD i []).length 0)) ((List.replicate (f.Cells.getD i []).length 0).map eI) rfl ?_ rfl ?_ rfl rfl rfl ?_
    · first | exact map_at (by omega) | assumption | exact set_at (by (try simp only [List.length_map, List.length_set]); omega) | (rw [List.getElem?_set_ne (by omega)]; exact map_at (by omega))
    · exact ⟨rfl, rfl, by intro e he; simp only [List.mem_map] at he; obtain ⟨_, _, rfl⟩ := he; rfl⟩
    intro A_90001 n_90001 c_90001
    try refine nrm ?_
    refine ar_draw (id := 6) (inps := [ .nest (.lit (Value.slice A_90001 n_90001 c_90001) .nil) [(0, 90002)], .elem (eIntS (f.Cells.getD i [])), .elems ((f.Cells.getD i []).map eI)]) tt_ok (by kernel_rfl) rfl rfl (by kernel_rfl) rfl rfl rfl rfl ?_ ?_
    rotate_left
    (try refine nrm ?_)
    refine ar_close 8 i 0 90001 90002 rfl rfl rfl (set_at ?_) rfl rfl rfl ?_
    · (simp only [List.length_map, List.length_set]; omega)
    try refine nrm ?_
    repeat' (refine ar_id ?_; first | refine st1 ?_ | (first | ((first | refine ar_region tt_ok (inps := []) rfl ?_ ?_); rotate_left; (try refine nrm ?_); rotate_right) | refine ret3 ?_ | refine end3 ?_) | (refine ar_cond rfl trivial ?_ ?_ <;> intro hc_ <;> (try simp only [isNilI, inB, reduceCtorEq, cds] at hc_) <;> (try (first | contradiction | (exfalso; omega)))) | refine ar_until (And.intro ?_ (wk3 ?_)))
    all_goals (first | refine ar_id ?_ | (try (focus ((try refine nrmO ?_); (repeat' (first | exact True.intro | refine And.intro ?_ ?_)); all_goals (try (intro (hg_ : _ = true); (try simp only [isNilI, inB, reduceCtorEq, cds] at hg_); (repeat' (first | exact True.intro | refine And.intro ?_ ?_)))); all_goals (first | exact ob1 | skip)))))
    all_goals (try (focus ((try refine nrmO ?_); (repeat' (first | exact True.intro | refine And.intro ?_ ?_)); all_goals (try (intro (hg_ : _ = true); (try simp only [isNilI, inB, reduceCtorEq, cds] at hg_); (repeat' (first | exact True.intro | refine And.intro ?_ ?_)))); all_goals (first | exact ob1 | exact flat_map' (f.Cells.getD i []) (fun x => ⟨rfl, rfl, trivial⟩) | exact (fun d hd => by obtain ⟨_, _, rfl⟩ := List.mem_map.1 hd; exact ⟨rfl, trivial⟩) | skip))))
    · rw [List.set_set, List.set_set]; exact fill_step eIntS f.Cells _ [] (by omega)
    · rw [List.length_map, List.length_map, List.length_replicate]
  · skip
    repeat' (refine ar_id ?_; first | refine st1 ?_ | (first | ((first | refine ar_region (id := 8) tt_ok (inps := [.call (c_CloneB f.Used)]) rfl ?_ ?_ | refine ar_region tt_ok (inps := []) rfl ?_ ?_); rotate_left; (try dsimp only [c_CloneB]); (try refine nrm ?_); rotate_right) | refine ret3 ?_ | refine end3 ?_) | (refine ar_cond rfl trivial ?_ ?_ <;> intro hc_ <;> (try simp only [isNilI, inB, reduceCtorEq, cds] at hc_) <;> (try (first | contradiction | (exfalso; omega)))) | refine ar_until (And.intro ?_ (wk3 ?_)))
    all_goals (first | refine ar_id ?_ | (try (focus ((try refine nrmO ?_); (repeat' (first | exact True.intro | refine And.intro ?_ ?_)); all_goals (try (intro (hg_ : _ = true); (try simp only [isNilI, inB, reduceCtorEq, cds] at hg_); (repeat' (first | exact True.intro | refine And.intro ?_ ?_)))); all_goals (first | exact ob1 | exact fn_CloneB _ hu | skip)))))
    exact fill_end eIntS f.Cells _ (by omega)
end Eng
end Go.Proofs.YtgeakpeodhhffaaGreatDoor
namespace Go.Proofs.YtgeakpeodhhffaaGreatDoor
open Go.RowKit
set_option linter.unusedVariables false
set_option linter.unusedSimpArgs false
set_option maxRecDepth 100000
namespace Eng
open Tr
def c_isMapped (md fr : Int) : CFD := ⟨87, [.agg [(CV.lit (.int .i64 (md))), (CV.lit (.int .i64 (fr)))]], [], (TV.sv (.one (.lit (.bool (md != 0))))), [], [], []⟩
theorem fn_isMapped (md fr : Int) : Fn Tryz.prog (c_isMapped md fr) := by
  refine fn_intro tt_ok Tryz.func87 rfl Tryz.call87 Tryz.ntmps87 Tryz.results87 rfl rfl rfl rfl ?_
  intro X ρ0 hb_ hgl_
  dsimp only [c_isMapped]
  try refine nrm ?_
  repeat' (refine ar_id ?_; first | refine st1 ?_ | (first | ((first | refine ar_region tt_ok (inps := []) rfl ?_ ?_); rotate_left; (try refine nrm ?_); rotate_right) | refine ret3 ?_ | refine end3 ?_) | (refine ar_cond rfl trivial ?_ ?_ <;> intro hc_ <;> (try simp only [isNilI, inB, reduceCtorEq, cds] at hc_) <;> (try (first | contradiction | (exfalso; omega)))) | refine ar_until (And.intro ?_ (wk3 ?_)))
  all_goals (first | refine ar_id ?_ | (try (focus ((try refine nrmO ?_); (repeat' (first | exact True.intro | refine And.intro ?_ ?_)); all_goals (try (intro (hg_ : _ = true); (try simp only [isNilI, inB, reduceCtorEq, cds] at hg_); (repeat' (first | exact True.intro | refine And.intro ?_ ?_)))); all_goals (first | exact ob1 | skip)))))
def okA (md fr : Int) : Prop := (md = 0 ∧ fr = 0) ∨ ((md = 1 ∨ md = 2) ∧ 0 ≤ fr)
instance (md fr : Int) : Decidable (okA md fr) := by unfold okA; infer_instance
def c_entryOk (md fr : Int) : CFD := ⟨153, [.agg [(CV.lit (.int .i64 (md))), (CV.lit (.int .i64 (fr)))]], [], (TV.sv (.one (.lit (.bool (decide (okA md fr)))))), [], [], []⟩
theorem fn_entryOk (md fr : Int) : Fn Tryz.prog (c_entryOk md fr) := by
  refine fn_intro tt_ok Tryz.func153 rfl Tryz.call153 Tryz.ntmps153 Tryz.results153 rfl rfl rfl rfl ?_
  intro X ρ0 hb_ hgl_
  dsimp only [c_entryOk]
  try refine nrm ?_
  repeat' (refine ar_id ?_; first | refine st1 ?_ | (first | ((first | refine ar_region (id := 1) tt_ok (inps := [.call (c_isMapped md fr)]) rfl ?_ ?_ | refine ar_region tt_ok (inps := []) rfl ?_ ?_); rotate_left; (try dsimp only [c_isMapped]); (try refine nrm ?_); rotate_right) | refine ret3 ?_ | refine end3 ?_) | (refine ar_cond rfl trivial ?_ ?_ <;> intro hc_ <;> (try simp only [isNilI, inB, reduceCtorEq, cds] at hc_) <;> (try (first | contradiction | (exfalso; omega)))) | refine ar_until (And.intro ?_ (wk3 ?_)))
  all_goals (first | refine ar_id ?_ | (try (focus ((try refine nrmO ?_); (repeat' (first | exact True.intro | refine And.intro ?_ ?_)); all_goals (try (intro (hg_ : _ = true); (try simp only [isNilI, inB, reduceCtorEq, cds] at hg_); (repeat' (first | exact True.intro | refine And.intro ?_ ?_)))); all_goals (first | exact ob1 | exact fn_isMapped _ _ | skip)))))
  · refine congrArg Value.bool ?_
    subst hc_
    by_cases h : fr = 0
    · subst h; rfl
    · simp [okA, h]
  · refine congrArg Value.bool ?_
    simp only [okA, cond_ite]
    rw [Bool.eq_iff_iff]
    split <;> split <;> simp_all <;> omega
def c_TableOkI (t : GTable) (frames : Int) : CFD := ⟨124, [.agg [ro 47 2 eEntry t.Entries], (SV.one (.lit (.int .i64 (frames))))], [], (TV.sv (.one (.lit (.bool (pTableOk t frames))))), [], [], []⟩
theorem fn_TableOkI (t : GTable) (frames : Int) (hl : t.Entries.length ≤ 1048576) : Fn Tryz.prog (c_TableOkI t frames) := by
  refine fn_intro tt_ok Tryz.func124 rfl Tryz.call124 Tryz.ntmps124 Tryz.results124 rfl rfl rfl rfl ?_
  intro X ρ0 hb_ hgl_
  dsimp only [c_TableOkI]
  try refine nrm ?_
  repeat' (refine ar_id ?_; first | refine st1 ?_ | (first | ((first | refine ar_region tt_ok (inps := []) rfl ?_ ?_); rotate_left; (try refine nrm ?_); rotate_right) | refine ret3 ?_ | refine end3 ?_) | (refine ar_cond rfl trivial ?_ ?_ <;> intro hc_ <;> (try simp only [isNilI, inB, reduceCtorEq, cds] at hc_) <;> (try (first | contradiction | (exfalso; omega)))) | refine ar_until (And.intro ?_ (wk3 ?_)))
  all_goals (first | refine ar_id ?_ | (try (focus ((try refine nrmO ?_); (repeat' (first | exact True.intro | refine And.intro ?_ ?_)); all_goals (try (intro (hg_ : _ = true); (try simp only [isNilI, inB, reduceCtorEq, cds] at hg_); (repeat' (first | exact True.intro | refine And.intro ?_ ?_)))); all_goals (first | exact ob1 | skip)))))
  · exact bf fun h => by have := h.2; omega
  have hlen := hc_
  refine ar_keep 1835095 (by dsimp only [keepS] <;> exact rfl) ?_
  refine ar_forM (t.Entries.length) (fun i => ∀ e ∈ t.Entries.take i, okE frames e) (fun i => [(20, (TV.sv (.one (.lit (.int .i64 (i))))))]) (fun i => []) ?_ ?_ ?_
  rotate_left
  · first | trivial | simp
  (dsimp only [rnCap, capSVs, Int.toNat_natCast, ro, Nat.reduceAdd, Nat.reduceMul, Nat.zero_add, List.map, putT, app, wrapG, gOb, argT, keys, slotOf, dropped, gAnd, wB, rnT, rnS, rnC, rnCs, rnSs, rnM, rnB, rnN, rn, lk, St.over, ded, delL, keepT, menT, menSs, menS, menCs, menC, hasN, resT, SV.cells]; refine wk3 ?_; (focus ((try refine nrmO ?_); (repeat' (first | exact True.intro | refine And.intro ?_ ?_)); all_goals (try (intro (hg_ : _ = true); (try simp only [isNilI, inB, reduceCtorEq, cds] at hg_); (repeat' (first | exact True.intro | refine And.intro ?_ ?_)))); all_goals (first | exact ob1 | exact rfl | skip))))
  rotate_right
  intro i hi_ hiI_
  dsimp only [rnCap, capSVs, Int.toNat_natCast, ro, Nat.reduceAdd, Nat.reduceMul, Nat.zero_add, List.map, putT, app, wrapG, gOb, argT, keys, slotOf, dropped, gAnd, wB, rnT, rnS, rnC, rnCs, rnSs, rnM, rnB, rnN, rn, lk, St.over, ded, delL, keepT, menT, menSs, menS, menCs, menC, hasN, resT, SV.cells]
  repeat' (refine ar_id ?_; first | refine st1 ?_ | (first | ((first | refine ar_region (id := 5) tt_ok (inps := [.elem (eEntry (t.Entries.getD i ⟨0, 0⟩))]) rfl ?_ ?_ | refine ar_region (id := 6) tt_ok (inps := [.call (c_entryOk (t.Entries.getD i ⟨0, 0⟩).Mode (t.Entries.getD i ⟨0, 0⟩).Frame), .call (c_isMapped (t.Entries.getD i ⟨0, 0⟩).Mode (t.Entries.getD i ⟨0, 0⟩).Frame)]) rfl ?_ ?_ | refine ar_region tt_ok (inps := []) rfl ?_ ?_); rotate_left; (try dsimp only [c_entryOk, c_isMapped]); (try refine nrm ?_); rotate_right) | refine ret3 ?_ | refine end3 ?_) | (refine ar_cond rfl trivial ?_ ?_ <;> intro hc_ <;> (try simp only [isNilI, inB, reduceCtorEq, cds] at hc_) <;> (try (first | contradiction | (exfalso; omega)))) | refine ar_until (And.intro ?_ (wk3 ?_)))
  all_goals (first | refine ar_id ?_ | (try (focus ((try refine nrmO ?_); (repeat' (first | exact True.intro | refine And.intro ?_ ?_)); all_goals (try (intro (hg_ : _ = true); (try simp only [isNilI, inB, reduceCtorEq, cds] at hg_); (repeat' (first | exact True.intro | refine And.intro ?_ ?_)))); all_goals (first | exact ob1 | exact fn_entryOk _ _ | exact fn_isMapped _ _ | skip)))))
  · refine bf fun h => ?_
    have := h.1 _ (getD_in (l := t.Entries) (i := i) (d := ⟨0, 0⟩) (by omega))
    unfold okE at this
    unfold okA at hc_
    omega
  · refine all_take (d := ⟨0, 0⟩) hiI_ (by omega) ?_
    unfold okE
    unfold okA at hc_
    omega
  · exact bt ⟨all_full hiI_ (by omega), by omega, by omega⟩
def c_pageExists (t : GTable) (page : Int) : CFD := ⟨119, [.agg [ro 47 2 eEntry t.Entries], (SV.one (.lit (.int .i64 (page))))], [], (TV.sv (.one (.lit (.bool (decide (0 ≤ page ∧ page < (t.Entries.length : Int))))))), [], [], []⟩
theorem fn_pageExists (t : GTable) (page : Int) (hl : t.Entries.length ≤ 1048576) : Fn Tryz.prog (c_pageExists t page) := by
  refine fn_intro tt_ok Tryz.func119 rfl Tryz.call119 Tryz.ntmps119 Tryz.results119 rfl rfl rfl rfl ?_
  intro X ρ0 hb_ hgl_
  dsimp only [c_pageExists]
  try refine nrm ?_
  repeat' (refine ar_id ?_; first | refine st1 ?_ | (first | ((first | refine ar_region tt_ok (inps := []) rfl ?_ ?_); rotate_left; (try refine nrm ?_); rotate_right) | refine ret3 ?_ | refine end3 ?_) | (refine ar_cond rfl trivial ?_ ?_ <;> intro hc_ <;> (try simp only [isNilI, inB, reduceCtorEq, cds] at hc_) <;> (try (first | contradiction | (exfalso; omega)))) | refine ar_until (And.intro ?_ (wk3 ?_)))
  all_goals (first | refine ar_id ?_ | (try (focus ((try refine nrmO ?_); (repeat' (first | exact True.intro | refine And.intro ?_ ?_)); all_goals (try (intro (hg_ : _ = true); (try simp only [isNilI, inB, reduceCtorEq, cds] at hg_); (repeat' (first | exact True.intro | refine And.intro ?_ ?_)))); all_goals (first | exact ob1 | skip)))))
  refine congrArg Value.bool ?_
  rw [cond_ite, Bool.eq_iff_iff]
  split <;> simp_all <;> omega
def c_PageEntryI (t : GTable) (page : Int) : CFD := ⟨83, [.agg [ro 47 2 eEntry t.Entries], (SV.one (.lit (.int .i64 (page))))], [], .sv (.agg [(CV.lit (.int .i64 ((pPageEntry t page).Mode))), (CV.lit (.int .i64 ((pPageEntry t page).Frame)))]), [], [], []⟩
theorem fn_PageEntryI (t : GTable) (page : Int) (hl : t.Entries.length ≤ 1048576) : Fn Tryz.prog (c_PageEntryI t page) := by
  refine fn_intro tt_ok Tryz.func83 rfl Tryz.call83 Tryz.ntmps83 Tryz.results83 rfl rfl rfl rfl ?_
  intro X ρ0 hb_ hgl_
  dsimp only [c_PageEntryI]
  try refine nrm ?_
  repeat' (refine ar_id ?_; first | refine st1 ?_ | (first | ((first | refine ar_region (id := 1) tt_ok (inps := [.call (c_pageExists t page)]) rfl ?_ ?_ | refine ar_region (id := 3) tt_ok (inps := [.elem (eEntry (t.Entries.getD page.toNat ⟨0, 0⟩))]) rfl ?_ ?_ | refine ar_region tt_ok (inps := []) rfl ?_ ?_); rotate_left; (try dsimp only [c_pageExists]); (try refine nrm ?_); rotate_right) | refine ret3 ?_ | refine end3 ?_) | (refine ar_cond rfl trivial ?_ ?_ <;> intro hc_ <;> (try simp only [isNilI, inB, reduceCtorEq, cds] at hc_) <;> (try (first | contradiction | (exfalso; omega)))) | refine ar_until (And.intro ?_ (wk3 ?_)))
  all_goals (first | refine ar_id ?_ | (try (focus ((try refine nrmO ?_); (repeat' (first | exact True.intro | refine And.intro ?_ ?_)); all_goals (try (intro (hg_ : _ = true); (try simp only [isNilI, inB, reduceCtorEq, cds] at hg_); (repeat' (first | exact True.intro | refine And.intro ?_ ?_)))); all_goals (first | exact ob1 | exact fn_pageExists _ _ hl | skip)))))
  all_goals unfold pPageEntry
  · rw [if_neg hc_]
  · rw [if_neg hc_]
  · rw [if_pos hc_]
  · rw [if_pos hc_]
end Eng
end Go.Proofs.YtgeakpeodhhffaaGreatDoor
namespace Go.Proofs.YtgeakpeodhhffaaGreatDoor
open Go Go.Conc
set_option linter.unusedVariables false
set_option linter.unusedSimpArgs false
namespace Co
def EvR (e : Event) : Prop := (∀ m, e.loc = .mark m → Neutral m) ∧ e.write = false
/-- a step that leaves the world as0 it is -/
def DQ (w w' : World) (es : Array Event) : Prop := w' = w ∧ ∀ e ∈ es, EvR e
/-- at the return -/
def Leave (P : Program) (f : FuncId) (v : Value) (cs : List Frame) (g : Goroutine) (_ : World) : Prop :=
  ∃ fr fn, g = G fr cs ∧ fr.fn = f ∧ fr.mode = .returning ∧ fr.defers = [] ∧ fr.kind = .normal ∧ P.funcs[f]? = some fn ∧ ∀ w₁, (results fn fr.tmps).run P w₁ = .ok v w₁
/-- the function, alone or in company -/
def StillG (P : Program) (f : FuncId) (args : Array Value) (S : World → Prop) (v : Value) : Prop := ∀ cs w, ∃ n, Goes P true (fun _ w₁ => S w₁) DQ (Leave P f v cs) n (G (Frame.enter P f args .normal) cs) w
end Co
end Go.Proofs.YtgeakpeodhhffaaGreatDoor
namespace Go.Proofs.YtgeakpeodhhffaaGreatDoor
open Go.RowKit Go.Extern.Stop Go.Stop Go.Extern Go.Conc
set_option linter.unusedVariables false
set_option linter.unusedSimpArgs false
namespace Co
theorem noE {e : Event} {p : Prop} (h : e ∈ (#[] : Array Event)) : p := by simp at h
/-- it reads, or says which entry it has come to -/
def EvX (e : Event) : Prop := EvR e ∨ ∃ f, e.loc = .mark (.extern f)
def okX (e : Event) : Bool := match e.loc with | .mark (.extern _) => true | .mark _ => false | _ => !e.write
theorem evX_of {e : Event} (h : okX e = true) : EvX e := by
  unfold okX at h
  split at h
  · rename_i f hf; exact .inr ⟨f, hf⟩
  · cases h
  · rename_i h1 h2
    exact .inl ⟨fun m hm => absurd hm (h2 m), by simpa using h⟩
theorem evsX {es : Array Event} (h : es.all okX = true) : ∀ e ∈ es, EvX e := fun e he => evX_of (Array.all_eq_true'.1 h e he)
theorem seen_fold_ne (quiet : FuncId → Bool) : ∀ (l : List Event) (q : Bool) (kept : Array Event), (∀ e ∈ kept, ∀ f, e.loc ≠ .mark (.extern f)) → ∀ e ∈ (l.foldl (seenStep quiet) (q, kept)).2, ∀ f, e.loc ≠ .mark (.extern f) := by
  intro l
  induction l with
  | nil => exact fun _ _ h => h
  | cons a l ih =>
    intro q kept hk e h
    simp only [List.foldl_cons, seenStep] at h
    split at h
    · exact ih _ _ hk e h
    · rename_i hne
      refine ih _ _ ?_ e h
      split
      · exact hk
      · intro e he
        rcases Array.mem_push.1 he with h | rfl
        · exact hk e h
        · exact fun f hf => hne f hf
theorem listed_R {P : Program} {fn : FuncId} {a : Act} {o : Oper} {w : World} (h : ∀ e ∈ (execOp a.eval o).events P w #[], EvX e) : ∀ e ∈ listed P fn a o w, EvR e := by
  intro e he
  rcases h e (mem_listed he) with h | ⟨f, hf⟩
  · exact h
  · unfold listed at he
    rw [seen_def] at he
    exact absurd hf (seen_fold_ne _ _ _ #[] (by simp) e he f)
section
variable {P : Program} {S : World → Prop} {Stop : Goroutine → World → Prop} {n : Nat} {b : Frame} {a a' : Act} {k : List Item} {cs : List Frame} {ops : Array Oper} {i : Nat} {rest : List Nat} {o : Oper} {w : World} {v : Value}
theorem op_q (ho : ops[i]? = some o) (hw : Region.wanted o (yielded ops a.tmps) = true) (hk : b.kind ≠ .early) (hr : ∀ w₁, S w₁ → (execOp a.eval o).run P w₁ = .ok (.value v) w₁) (he : ∀ w₁, S w₁ → ∀ e ∈ (execOp a.eval o).events P w₁ #[], EvX e) (ha : a.put o.dst v = a')
    (h : ∀ w₁, Goes P true (fun _ w₁ => S w₁) DQ Stop n (G (b.at a' (.inRegion ops rest :: k)) cs) w₁) : Goes P true (fun _ w₁ => S w₁) DQ Stop (n + 1) (G (b.at a (.inRegion ops (i :: rest) :: k)) cs) w := by
  subst ha
  refine Goes.step rfl fun w₁ h₁ => ?_
  rw [stepG_value ho hw hk (hr w₁ h₁)]
  exact ⟨⟨rfl, listed_R (he w₁ h₁)⟩, h w₁⟩
theorem enter_q {f : FuncId} {args : Array Value} (ho : ops[i]? = some o) (hw : Region.wanted o (yielded ops a.tmps) = true) (hk : b.kind ≠ .early) (hr : ∀ w₁, S w₁ → (execOp a.eval o).run P w₁ = .ok (.enter f args) w₁) (he : ∀ w₁, S w₁ → ∀ e ∈ (execOp a.eval o).events P w₁ #[], EvX e)
    (h : ∀ w₁, Goes P true (fun _ w₁ => S w₁) DQ Stop n (G (Frame.enter P f args .normal) (b.at a (.inRegion ops (i :: rest) :: k) :: cs)) w₁) : Goes P true (fun _ w₁ => S w₁) DQ Stop (n + 1) (G (b.at a (.inRegion ops (i :: rest) :: k)) cs) w := by
  refine Goes.step rfl fun w₁ h₁ => ?_
  rw [stepG_enter ho hw hk (hr w₁ h₁)]
  exact ⟨⟨rfl, listed_R (he w₁ h₁)⟩, h w₁⟩
theorem ret_q (h : ∀ todo w₁, Goes P true (fun _ w₁ => S w₁) DQ Stop n (G { b.at a todo with mode := .returning } cs) w₁) : Goes P true (fun _ w₁ => S w₁) DQ Stop (n + 1) (G (b.at a (.code .ret :: k)) cs) w := by
  refine Goes.step rfl fun w₁ h₁ => ?_
  rw [stepG_ret']
  exact ⟨⟨rfl, by simp⟩, h _ w₁⟩
theorem leave_q {b₀ : Frame} {a₀ : Act} {fn : Func} {todo : List Item} (hn : b.kind = .normal) (hd : a.defers = []) (hf : P.funcs[b.fn]? = some fn) (hr : ∀ w₁, (results fn a.tmps).run P w₁ = .ok v w₁) (he : ∀ w₁, (results fn a.tmps).events P w₁ #[] = #[]) (ha : a₀.put ((ops[i]?).bind (·.dst)) v = a')
    (h : ∀ w₁, Goes P true (fun _ w₁ => S w₁) DQ Stop n (G (b₀.at a' (.inRegion ops rest :: k)) cs) w₁) : Goes P true (fun _ w₁ => S w₁) DQ Stop (n + 1) (G { b.at a todo with mode := .returning } (b₀.at a₀ (.inRegion ops (i :: rest) :: k) :: cs)) w := by
  subst ha
  refine Goes.step rfl fun w₁ h₁ => ?_
  rw [stepG_leave hn hd hf (hr w₁) (he w₁), Frame.finish_at]
  exact ⟨⟨rfl, by simp⟩, h w₁⟩
end
end Co
namespace IsG
open Co
theorem bin_run {P : Program} {s : Sem Value} {v : Value} {w : World} (h : s.run P w = .ok v w) : (do pure (.value (← s)) : Sem Next).run P w = .ok (.value v) w := by simp [Sem.run_bind, h]
theorem bin_ev {P : Program} {s : Sem Value} {w : World} (h : ∀ e ∈ s.events P w #[], EvX e) : ∀ e ∈ (do pure (.value (← s)) : Sem Next).events P w #[], EvX e := by
  have : (do pure (.value (← s)) : Sem Next).events P w #[] = s.events P w #[] := by
    rw [Sem.events_bind]
    cases s.run P w <;> rfl
  rw [this]; exact h
theorem lit22 (X Y : Value) : #[X, Y] ++ Array.replicate 20 undef = #[X, Y, undef, undef, undef, undef, undef, undef, undef, undef, undef, undef, undef, undef, undef, undef, undef, undef, undef, undef, undef, undef] := by
  apply Array.toList_inj.1
  simp [List.replicate]
theorem lit54 (X Y Z : Value) : #[X, Y, Z] ++ Array.replicate 51 undef = #[X, Y, Z, undef, undef, undef, undef, undef, undef, undef, undef, undef, undef, undef, undef, undef, undef, undef, undef, undef, undef, undef, undef, undef, undef, undef, undef, undef, undef, undef, undef, undef, undef, undef, undef, undef, undef, undef, undef, undef, undef, undef, undef, undef, undef, undef, undef, undef, undef, undef, undef, undef, undef, undef] := by
  apply Array.toList_inj.1
  simp [List.replicate]
theorem typeOf (v : Value) (w : World) : (Extern.ReflectliteType.typeOf #[.iface 196 v]).run Tryz.prog w = .ok (.iface 183 (.agg #[.pointer (some ⟨5, 196, none⟩)])) w := by kernel_rfl
theorem comparable (w : World) : (callFunc 176 #[.agg #[.pointer (some ⟨5, 196, none⟩)]]).run Tryz.prog w = .ok (.value (.bool true)) w := by kernel_rfl
set_option maxRecDepth 100000 in
set_option maxHeartbeats 2000000 in
theorem same (a : Addr) : StillG Tryz.prog 95 #[.iface 196 (.pointer (some a)), .iface 196 (.pointer (some a))] (fun _ => True) (.bool true) := by
  intro cs w
  obtain ⟨i, hi, hcmp⟩ := Option.map_eq_some_iff.1 (show (Tryz.prog.info? 196).map (·.comparable) = some true by kernel_rfl)
  obtain ⟨j, hj, hjs⟩ := Option.map_eq_some_iff.1 (show (Tryz.prog.info? 223).map (·.size) = some 1 by kernel_rfl)
  have h8 := @run_callFunc_extern Tryz.prog 127 _ Extern.ReflectliteType.typeOf Tryz.func127 (by kernel_rfl) (by kernel_rfl) (by kernel_rfl) (by kernel_rfl)
  have heq := fun w => run_eql_iface_ptr_same (P := Tryz.prog) w a Tryz.underlying95 Tryz.underlying196 hi hcmp hj
  have eqE : ∀ w₁ : World, ∀ e ∈ (binOp .eql 95 (Value.iface 196 (.pointer (some a))) (Value.iface 196 (.pointer (some a)))).events Tryz.prog w₁ #[], EvX e := fun w₁ e he => by
    have ht : Tame Tryz.prog (fun _ => False) (binOp .eql 95 (Value.iface 196 (.pointer (some a))) (Value.iface 196 (.pointer (some a)))) := tbinEql _ _ _ (by simp) (by simp) (by simp) (by simp)
    rcases (tame_run _ ht w₁ #[] (fun _ h => h.elim) _ _ (heq w₁)).1 e he with h | h
    · simp at h
    · refine .inl ⟨h.1, ?_⟩
      cases hw : e.write with
      | false => rfl
      | true => obtain ⟨_, _, hb⟩ := h.2 hw; exact hb.elim
  refine ⟨100, ?_⟩
  rw [show Frame.enter Tryz.prog 95 #[(Value.iface 196 (.pointer (some a))), (Value.iface 196 (.pointer (some a)))] .normal = (base 95).at ⟨#[(Value.iface 196 (.pointer (some a))), (Value.iface 196 (.pointer (some a))), undef, undef, undef, undef, undef, undef, undef, undef, undef, undef, undef, undef, undef, undef, undef, undef, undef, undef, undef, undef], []⟩ [.code (Tryz.f95.body.getD .skip)] from (enter_at #[(Value.iface 196 (.pointer (some a))), (Value.iface 196 (.pointer (some a)))] Tryz.func95 rfl).trans (by rw [← lit22]; rfl)]
  simp only [Tryz.f95, Option.getD_some]
  b_ctl
  b_ctl
  refine op_q (v := .bool false) (a' := ⟨#[(Value.iface 196 (.pointer (some a))), (Value.iface 196 (.pointer (some a))), undef, undef, .bool false, undef, undef, undef, undef, undef, undef, undef, undef, undef, undef, undef, undef, undef, undef, undef, undef, undef], []⟩) rfl rfl (by decide) (fun _ _ => rfl) (fun _ _ _ h => noE h) rfl (fun _ => ?_)
  b_ctl
  b_ctl
  b_ctl
  b_ctl
  refine op_q (v := (Value.iface 196 (.pointer (some a)))) (a' := ⟨#[(Value.iface 196 (.pointer (some a))), (Value.iface 196 (.pointer (some a))), undef, undef, .bool false, undef, (Value.iface 196 (.pointer (some a))), undef, undef, undef, undef, undef, undef, undef, undef, undef, undef, undef, undef, undef, undef, undef], []⟩) rfl rfl (by decide) (fun _ _ => rfl) (fun _ _ _ h => noE h) rfl (fun _ => ?_)
  refine op_q (v := .bool false) (a' := ⟨#[(Value.iface 196 (.pointer (some a))), (Value.iface 196 (.pointer (some a))), undef, undef, .bool false, undef, (Value.iface 196 (.pointer (some a))), .bool false, undef, undef, undef, undef, undef, undef, undef, undef, undef, undef, undef, undef, undef, undef], []⟩) rfl rfl (by decide) (fun w₁ _ => by kernel_rfl) (fun w₁ _ => evsX (by kernel_rfl)) rfl (fun _ => ?_)
  refine op_q (v := .bool false) (a' := ⟨#[(Value.iface 196 (.pointer (some a))), (Value.iface 196 (.pointer (some a))), undef, undef, .bool false, undef, (Value.iface 196 (.pointer (some a))), .bool false, .bool false, undef, undef, undef, undef, undef, undef, undef, undef, undef, undef, undef, undef, undef], []⟩) rfl rfl (by decide) (fun _ _ => rfl) (fun _ _ _ h => noE h) rfl (fun _ => ?_)
  refine op_q (v := (Value.iface 196 (.pointer (some a)))) (a' := ⟨#[(Value.iface 196 (.pointer (some a))), (Value.iface 196 (.pointer (some a))), undef, undef, .bool false, undef, (Value.iface 196 (.pointer (some a))), .bool false, .bool false, (Value.iface 196 (.pointer (some a))), undef, undef, undef, undef, undef, undef, undef, undef, undef, undef, undef, undef], []⟩) rfl rfl (by decide) (fun _ _ => rfl) (fun _ _ _ h => noE h) rfl (fun _ => ?_)
  refine op_q (v := .bool false) (a' := ⟨#[(Value.iface 196 (.pointer (some a))), (Value.iface 196 (.pointer (some a))), undef, undef, .bool false, undef, (Value.iface 196 (.pointer (some a))), .bool false, .bool false, (Value.iface 196 (.pointer (some a))), .bool false, undef, undef, undef, undef, undef, undef, undef, undef, undef, undef, undef], []⟩) rfl rfl (by decide) (fun w₁ _ => by kernel_rfl) (fun w₁ _ => evsX (by kernel_rfl)) rfl (fun _ => ?_)
  refine op_q (v := .bool false) (a' := ⟨#[(Value.iface 196 (.pointer (some a))), (Value.iface 196 (.pointer (some a))), undef, undef, .bool false, undef, (Value.iface 196 (.pointer (some a))), .bool false, .bool false, (Value.iface 196 (.pointer (some a))), .bool false, .bool false, undef, undef, undef, undef, undef, undef, undef, undef, undef, undef], []⟩) rfl rfl (by decide) (fun _ _ => rfl) (fun _ _ _ h => noE h) rfl (fun _ => ?_)
  b_ctl
  b_cond false
  b_ctl
  b_ctl
  b_ctl
  refine op_q (v := (Value.iface 196 (.pointer (some a)))) (a' := ⟨#[(Value.iface 196 (.pointer (some a))), (Value.iface 196 (.pointer (some a))), undef, undef, .bool false, undef, (Value.iface 196 (.pointer (some a))), .bool false, .bool false, (Value.iface 196 (.pointer (some a))), .bool false, .bool false, undef, undef, undef, (Value.iface 196 (.pointer (some a))), undef, undef, undef, undef, undef, undef], []⟩) rfl rfl (by decide) (fun _ _ => rfl) (fun _ _ _ h => noE h) rfl (fun _ => ?_)
  refine op_q (v := (Value.iface 183 (.agg #[.pointer (some ⟨5, 196, none⟩)]))) (a' := ⟨#[(Value.iface 196 (.pointer (some a))), (Value.iface 196 (.pointer (some a))), undef, undef, .bool false, undef, (Value.iface 196 (.pointer (some a))), .bool false, .bool false, (Value.iface 196 (.pointer (some a))), .bool false, .bool false, undef, undef, undef, (Value.iface 196 (.pointer (some a))), (Value.iface 183 (.agg #[.pointer (some ⟨5, 196, none⟩)])), undef, undef, undef, undef, undef], []⟩) rfl rfl (by decide) (fun w₁ _ => by kernel_rfl) (fun w₁ _ => evsX (by kernel_rfl)) rfl (fun _ => ?_)
  refine op_q (v := .bool true) (a' := ⟨#[(Value.iface 196 (.pointer (some a))), (Value.iface 196 (.pointer (some a))), undef, undef, .bool false, undef, (Value.iface 196 (.pointer (some a))), .bool false, .bool false, (Value.iface 196 (.pointer (some a))), .bool false, .bool false, undef, undef, undef, (Value.iface 196 (.pointer (some a))), (Value.iface 183 (.agg #[.pointer (some ⟨5, 196, none⟩)])), .bool true, undef, undef, undef, undef], []⟩) rfl rfl (by decide) (fun w₁ _ => by kernel_rfl) (fun w₁ _ => evsX (by kernel_rfl)) rfl (fun _ => ?_)
  refine op_q (v := .bool true) (a' := ⟨#[(Value.iface 196 (.pointer (some a))), (Value.iface 196 (.pointer (some a))), undef, undef, .bool false, .bool true, (Value.iface 196 (.pointer (some a))), .bool false, .bool false, (Value.iface 196 (.pointer (some a))), .bool false, .bool false, undef, undef, undef, (Value.iface 196 (.pointer (some a))), (Value.iface 183 (.agg #[.pointer (some ⟨5, 196, none⟩)])), .bool true, undef, undef, undef, undef], []⟩) rfl rfl (by decide) (fun _ _ => rfl) (fun _ _ _ h => noE h) rfl (fun _ => ?_)
  b_ctl
  b_ctl
  b_ctl
  refine op_q (v := (Value.iface 196 (.pointer (some a)))) (a' := ⟨#[(Value.iface 196 (.pointer (some a))), (Value.iface 196 (.pointer (some a))), undef, undef, .bool false, .bool true, (Value.iface 196 (.pointer (some a))), .bool false, .bool false, (Value.iface 196 (.pointer (some a))), .bool false, .bool false, undef, undef, undef, (Value.iface 196 (.pointer (some a))), (Value.iface 183 (.agg #[.pointer (some ⟨5, 196, none⟩)])), .bool true, (Value.iface 196 (.pointer (some a))), undef, undef, undef], []⟩) rfl rfl (by decide) (fun _ _ => rfl) (fun _ _ _ h => noE h) rfl (fun _ => ?_)
  refine op_q (v := (Value.iface 196 (.pointer (some a)))) (a' := ⟨#[(Value.iface 196 (.pointer (some a))), (Value.iface 196 (.pointer (some a))), undef, undef, .bool false, .bool true, (Value.iface 196 (.pointer (some a))), .bool false, .bool false, (Value.iface 196 (.pointer (some a))), .bool false, .bool false, undef, undef, undef, (Value.iface 196 (.pointer (some a))), (Value.iface 183 (.agg #[.pointer (some ⟨5, 196, none⟩)])), .bool true, (Value.iface 196 (.pointer (some a))), (Value.iface 196 (.pointer (some a))), undef, undef], []⟩) rfl rfl (by decide) (fun _ _ => rfl) (fun _ _ _ h => noE h) rfl (fun _ => ?_)
  refine op_q (v := .bool true) (a' := ⟨#[(Value.iface 196 (.pointer (some a))), (Value.iface 196 (.pointer (some a))), undef, undef, .bool false, .bool true, (Value.iface 196 (.pointer (some a))), .bool false, .bool false, (Value.iface 196 (.pointer (some a))), .bool false, .bool false, undef, undef, undef, (Value.iface 196 (.pointer (some a))), (Value.iface 183 (.agg #[.pointer (some ⟨5, 196, none⟩)])), .bool true, (Value.iface 196 (.pointer (some a))), (Value.iface 196 (.pointer (some a))), .bool true, undef], []⟩) rfl rfl (by decide) (fun _ _ => rfl) (fun _ _ _ h => noE h) rfl (fun _ => ?_)
  refine enter_q (f := 128) (args := #[(Value.iface 196 (.pointer (some a))), (Value.iface 196 (.pointer (some a))), .bool true]) rfl rfl (by decide) (fun w₁ _ => by kernel_rfl) (fun w₁ _ => evsX (by kernel_rfl)) (fun _ => ?_)
  rw [show Frame.enter Tryz.prog 128 #[(Value.iface 196 (.pointer (some a))), (Value.iface 196 (.pointer (some a))), .bool true] .normal = (base 128).at ⟨#[(Value.iface 196 (.pointer (some a))), (Value.iface 196 (.pointer (some a))), .bool true, undef, undef, undef, undef, undef, undef, undef, undef, undef, undef, undef, undef, undef, undef, undef, undef, undef, undef, undef, undef, undef, undef, undef, undef, undef, undef, undef, undef, undef, undef, undef, undef, undef, undef, undef, undef, undef, undef, undef, undef, undef, undef, undef, undef, undef, undef, undef, undef, undef, undef, undef], []⟩ [.code (Tryz.f128.body.getD .skip)] from (enter_at #[(Value.iface 196 (.pointer (some a))), (Value.iface 196 (.pointer (some a))), .bool true] Tryz.func128 rfl).trans (by rw [← lit54]; rfl)]
  simp only [Tryz.f128, Option.getD_some]
  b_ctl
  b_ctl
  refine op_q (v := .bool false) (a' := ⟨#[(Value.iface 196 (.pointer (some a))), (Value.iface 196 (.pointer (some a))), .bool true, undef, undef, undef, .bool false, undef, undef, undef, undef, undef, undef, undef, undef, undef, undef, undef, undef, undef, undef, undef, undef, undef, undef, undef, undef, undef, undef, undef, undef, undef, undef, undef, undef, undef, undef, undef, undef, undef, undef, undef, undef, undef, undef, undef, undef, undef, undef, undef, undef, undef, undef, undef], []⟩) rfl rfl (by decide) (fun _ _ => rfl) (fun _ _ _ h => noE h) rfl (fun _ => ?_)
  b_ctl
  b_ctl
  b_ctl
  b_ctl
  b_ctl
  b_ctl
  b_ctl
  refine op_q (v := .bool true) (a' := ⟨#[(Value.iface 196 (.pointer (some a))), (Value.iface 196 (.pointer (some a))), .bool true, undef, undef, undef, .bool false, undef, undef, undef, undef, undef, undef, undef, .bool true, undef, undef, undef, undef, undef, undef, undef, undef, undef, undef, undef, undef, undef, undef, undef, undef, undef, undef, undef, undef, undef, undef, undef, undef, undef, undef, undef, undef, undef, undef, undef, undef, undef, undef, undef, undef, undef, undef, undef], []⟩) rfl rfl (by decide) (fun _ _ => rfl) (fun _ _ _ h => noE h) rfl (fun _ => ?_)
  refine op_q (v := .bool true) (a' := ⟨#[(Value.iface 196 (.pointer (some a))), (Value.iface 196 (.pointer (some a))), .bool true, undef, undef, undef, .bool false, undef, undef, undef, undef, undef, undef, undef, .bool true, .bool true, undef, undef, undef, undef, undef, undef, undef, undef, undef, undef, undef, undef, undef, undef, undef, undef, undef, undef, undef, undef, undef, undef, undef, undef, undef, undef, undef, undef, undef, undef, undef, undef, undef, undef, undef, undef, undef, undef], []⟩) rfl rfl (by decide) (fun _ _ => rfl) (fun _ _ _ h => noE h) rfl (fun _ => ?_)
  refine op_q (v := (Value.iface 196 (.pointer (some a)))) (a' := ⟨#[(Value.iface 196 (.pointer (some a))), (Value.iface 196 (.pointer (some a))), .bool true, undef, undef, undef, .bool false, undef, undef, undef, undef, undef, undef, undef, .bool true, .bool true, (Value.iface 196 (.pointer (some a))), undef, undef, undef, undef, undef, undef, undef, undef, undef, undef, undef, undef, undef, undef, undef, undef, undef, undef, undef, undef, undef, undef, undef, undef, undef, undef, undef, undef, undef, undef, undef, undef, undef, undef, undef, undef, undef], []⟩) rfl rfl (by decide) (fun _ _ => rfl) (fun _ _ _ h => noE h) rfl (fun _ => ?_)
  refine op_q (v := (Value.iface 196 (.pointer (some a)))) (a' := ⟨#[(Value.iface 196 (.pointer (some a))), (Value.iface 196 (.pointer (some a))), .bool true, undef, undef, undef, .bool false, undef, undef, undef, undef, undef, undef, undef, .bool true, .bool true, (Value.iface 196 (.pointer (some a))), (Value.iface 196 (.pointer (some a))), undef, undef, undef, undef, undef, undef, undef, undef, undef, undef, undef, undef, undef, undef, undef, undef, undef, undef, undef, undef, undef, undef, undef, undef, undef, undef, undef, undef, undef, undef, undef, undef, undef, undef, undef, undef], []⟩) rfl rfl (by decide) (fun _ _ => rfl) (fun _ _ _ h => noE h) rfl (fun _ => ?_)
  refine op_q (v := .bool true) (a' := ⟨#[(Value.iface 196 (.pointer (some a))), (Value.iface 196 (.pointer (some a))), .bool true, undef, undef, undef, .bool false, undef, undef, undef, undef, undef, undef, undef, .bool true, .bool true, (Value.iface 196 (.pointer (some a))), (Value.iface 196 (.pointer (some a))), .bool true, undef, undef, undef, undef, undef, undef, undef, undef, undef, undef, undef, undef, undef, undef, undef, undef, undef, undef, undef, undef, undef, undef, undef, undef, undef, undef, undef, undef, undef, undef, undef, undef, undef, undef, undef], []⟩) rfl rfl (by decide) (fun w₁ _ => bin_run (s := binOp .eql 95 (Value.iface 196 (.pointer (some a))) (Value.iface 196 (.pointer (some a)))) (heq w₁)) (fun w₁ _ => bin_ev (s := binOp .eql 95 (Value.iface 196 (.pointer (some a))) (Value.iface 196 (.pointer (some a)))) (eqE w₁)) rfl (fun _ => ?_)
  refine op_q (v := .bool true) (a' := ⟨#[(Value.iface 196 (.pointer (some a))), (Value.iface 196 (.pointer (some a))), .bool true, undef, undef, undef, .bool false, undef, undef, undef, undef, undef, undef, undef, .bool true, .bool true, (Value.iface 196 (.pointer (some a))), (Value.iface 196 (.pointer (some a))), .bool true, .bool true, undef, undef, undef, undef, undef, undef, undef, undef, undef, undef, undef, undef, undef, undef, undef, undef, undef, undef, undef, undef, undef, undef, undef, undef, undef, undef, undef, undef, undef, undef, undef, undef, undef, undef], []⟩) rfl rfl (by decide) (fun _ _ => rfl) (fun _ _ _ h => noE h) rfl (fun _ => ?_)
  b_ctl
  b_cond true
  b_ctl
  b_ctl
  refine op_q (v := .bool true) (a' := ⟨#[(Value.iface 196 (.pointer (some a))), (Value.iface 196 (.pointer (some a))), .bool true, undef, undef, undef, .bool true, undef, undef, undef, undef, undef, undef, undef, .bool true, .bool true, (Value.iface 196 (.pointer (some a))), (Value.iface 196 (.pointer (some a))), .bool true, .bool true, undef, undef, undef, undef, undef, undef, undef, undef, undef, undef, undef, undef, undef, undef, undef, undef, undef, undef, undef, undef, undef, undef, undef, undef, undef, undef, undef, undef, undef, undef, undef, undef, undef, undef], []⟩) rfl rfl (by decide) (fun _ _ => rfl) (fun _ _ _ h => noE h) rfl (fun _ => ?_)
  b_ctl
  refine ret_q (fun _ _ => ?_)
  refine leave_q (v := .bool true) (a' := ⟨#[(Value.iface 196 (.pointer (some a))), (Value.iface 196 (.pointer (some a))), undef, undef, .bool false, .bool true, (Value.iface 196 (.pointer (some a))), .bool false, .bool false, (Value.iface 196 (.pointer (some a))), .bool false, .bool false, undef, undef, undef, (Value.iface 196 (.pointer (some a))), (Value.iface 183 (.agg #[.pointer (some ⟨5, 196, none⟩)])), .bool true, (Value.iface 196 (.pointer (some a))), (Value.iface 196 (.pointer (some a))), .bool true, .bool true], []⟩) rfl rfl Tryz.func128 (fun w₁ => results_tmp (t := 6) rfl _ Tryz.prog w₁) (fun w₁ => events_results_tmp (t := 6) rfl _ _) rfl (fun _ => ?_)
  refine op_q (v := .bool true) (a' := ⟨#[(Value.iface 196 (.pointer (some a))), (Value.iface 196 (.pointer (some a))), undef, undef, .bool true, .bool true, (Value.iface 196 (.pointer (some a))), .bool false, .bool false, (Value.iface 196 (.pointer (some a))), .bool false, .bool false, undef, undef, undef, (Value.iface 196 (.pointer (some a))), (Value.iface 183 (.agg #[.pointer (some ⟨5, 196, none⟩)])), .bool true, (Value.iface 196 (.pointer (some a))), (Value.iface 196 (.pointer (some a))), .bool true, .bool true], []⟩) rfl rfl (by decide) (fun _ _ => rfl) (fun _ _ _ h => noE h) rfl (fun _ => ?_)
  b_ctl
  refine ret_q (fun _ _ => ?_)
  exact Goes.stop fun _ _ => ⟨_, _, rfl, rfl, rfl, rfl, rfl, Tryz.func95, fun w₁ => results_tmp (t := 4) rfl _ Tryz.prog w₁⟩
end IsG
namespace Eng
open Tr
end Eng
end Go.Proofs.YtgeakpeodhhffaaGreatDoor
namespace Go.Proofs.YtgeakpeodhhffaaGreatDoor
open Go.RowKit
set_option linter.unusedVariables false
set_option linter.unusedSimpArgs false
set_option maxRecDepth 100000
namespace Eng
open Tr
/-- for each of n frames: a page is mapped to it -/
def fwL (l : List GEntry) (n : Nat) : List Bool := (List.range n).map fun i : Nat => decide (∃ e ∈ l, e.Mode ≠ 0 ∧ e.Frame = (i : Int))
theorem fwL_nil (n : Nat) : fwL [] n = List.replicate n false := by
  unfold fwL
  rw [List.eq_replicate_iff]
  simp
theorem fwL_len (l : List GEntry) (n : Nat) : (fwL l n).length = n := by simp [fwL]
theorem fwL_snoc (l : List GEntry) (e : GEntry) (n : Nat) : fwL (l ++ [e]) n = if e.Mode ≠ 0 ∧ 0 ≤ e.Frame then (fwL l n).set e.Frame.toNat true else fwL l n := by
  refine List.ext_getElem? fun i => ?_
  have h0 : ∀ (l : List GEntry), (fwL l n)[i]? = if i < n then some (decide (∃ e ∈ l, e.Mode ≠ 0 ∧ e.Frame = (i : Int))) else none := by
    intro l
    unfold fwL
    rw [List.getElem?_map]
    split
    · rw [List.getElem?_range (by assumption)]; rfl
    · rw [List.getElem?_eq_none (by simp; omega)]; rfl
  rw [h0]
  by_cases hi : i < n
  · rw [if_pos hi]
    by_cases he : e.Mode ≠ 0 ∧ 0 ≤ e.Frame
    · rw [if_pos he, List.getElem?_set, fwL_len]
      by_cases hf : e.Frame.toNat = i
      · rw [if_pos hf, if_pos (by omega), decide_eq_true ⟨e, by simp, he.1, by omega⟩]
      · rw [if_neg hf, h0, if_pos hi]
        congr 1
        rw [decide_eq_decide]
        constructor
        · rintro ⟨x, hx, h1, h2⟩
          rw [List.mem_append, List.mem_singleton] at hx
          rcases hx with hx | rfl
          · exact ⟨x, hx, h1, h2⟩
          · omega
        · rintro ⟨x, hx, h1, h2⟩; exact ⟨x, by simp [hx], h1, h2⟩
    · rw [if_neg he, h0, if_pos hi]
      congr 1
      rw [decide_eq_decide]
      constructor
      · rintro ⟨x, hx, h1, h2⟩
        rw [List.mem_append, List.mem_singleton] at hx
        rcases hx with hx | rfl
        · exact ⟨x, hx, h1, h2⟩
        · exact absurd ⟨h1, by omega⟩ he
      · rintro ⟨x, hx, h1, h2⟩; exact ⟨x, by simp [hx], h1, h2⟩
  · rw [if_neg hi]
    split
    · rw [List.getElem?_set, fwL_len, h0]
      split <;> (try split) <;> first | rfl | omega
    · rw [h0, if_neg hi]
def c_fwp (t : GTable) (n : Nat) : CFD := ⟨126, [.agg [ro 47 2 eEntry t.Entries], (SV.one (.lit (.int .i64 ((n : Int)))))], [], .sv (.one (.hd 0)), [(0, some (.row 4 1 ((fwL t.Entries n).map Tr.eB)))], [0], []⟩
theorem fn_fwp (t : GTable) (n : Nat) (hl : t.Entries.length ≤ 1048576) (hn : n ≤ 1048576) (hok : ∀ e ∈ t.Entries, okE n e) : Fn Tryz.prog (c_fwp t n) := by
  refine fn_intro tt_ok Tryz.func126 rfl Tryz.call126 Tryz.ntmps126 Tryz.results126 rfl rfl rfl rfl ?_
  intro X ρ0 hb_ hgl_
  dsimp only [c_fwp]
  try refine nrm ?_
  repeat' (refine ar_id ?_; first | refine st1 ?_ | (first | ((first | refine ar_region tt_ok (inps := []) rfl ?_ ?_); rotate_left; (try refine nrm ?_); rotate_right) | refine ret3 ?_ | refine end3 ?_) | (refine ar_cond rfl trivial ?_ ?_ <;> intro hc_ <;> (try simp only [isNilI, inB, reduceCtorEq, cds] at hc_) <;> (try (first | contradiction | (exfalso; omega)))) | refine ar_until (And.intro ?_ (wk3 ?_)))
  all_goals (first | refine ar_id ?_ | (try (focus ((try refine nrmO ?_); (repeat' (first | exact True.intro | refine And.intro ?_ ?_)); all_goals (try (intro (hg_ : _ = true); (try simp only [isNilI, inB, reduceCtorEq, cds] at hg_); (repeat' (first | exact True.intro | refine And.intro ?_ ?_)))); all_goals (first | exact ob1 | skip)))))
  refine ar_keep 14519 (by dsimp only [keepS] <;> exact rfl) ?_
  refine ar_forM (t.Entries.length) (fun i => True) (fun i => [(13, (TV.sv (.one (.lit (.int .i64 (i)))))), (5, (TV.sv (.one (.hd 9))))]) (fun i => [(9, some (.row 4 1 ((fwL (t.Entries.take i) n).map Tr.eB)))]) ?_ ?_ ?_
  rotate_left
  · first | trivial | simp
  (dsimp only [rnCap, capSVs, Int.toNat_natCast, ro, Nat.reduceAdd, Nat.reduceMul, Nat.zero_add, List.map, putT, app, wrapG, gOb, argT, keys, slotOf, dropped, gAnd, wB, rnT, rnS, rnC, rnCs, rnSs, rnM, rnB, rnN, rn, lk, St.over, ded, delL, keepT, menT, menSs, menS, menCs, menC, hasN, resT, SV.cells]; refine wk3 ?_; (focus ((try refine nrmO ?_); (repeat' (first | exact True.intro | refine And.intro ?_ ?_)); all_goals (try (intro (hg_ : _ = true); (try simp only [isNilI, inB, reduceCtorEq, cds] at hg_); (repeat' (first | exact True.intro | refine And.intro ?_ ?_)))); all_goals (first | exact ob1 | exact rfl | skip))))
  rotate_right
  intro i hi_ hiI_
  dsimp only [rnCap, capSVs, Int.toNat_natCast, ro, Nat.reduceAdd, Nat.reduceMul, Nat.zero_add, List.map, putT, app, wrapG, gOb, argT, keys, slotOf, dropped, gAnd, wB, rnT, rnS, rnC, rnCs, rnSs, rnM, rnB, rnN, rn, lk, St.over, ded, delL, keepT, menT, menSs, menS, menCs, menC, hasN, resT, SV.cells]
  repeat' (refine ar_id ?_; first | refine st1 ?_ | (first | ((first | refine ar_region (id := 4) tt_ok (inps := [.elem (eEntry (t.Entries.getD i ⟨0, 0⟩))]) rfl ?_ ?_ | refine ar_region (id := 5) tt_ok (inps := [.call (c_isMapped (t.Entries.getD i ⟨0, 0⟩).Mode (t.Entries.getD i ⟨0, 0⟩).Frame)]) rfl ?_ ?_ | refine ar_region (id := 6) tt_ok (inps := [.elem (Tr.eB ((fwL (t.Entries.take i) n).getD (t.Entries.getD i ⟨0, 0⟩).Frame.toNat false))]) rfl ?_ ?_ | refine ar_region tt_ok (inps := []) rfl ?_ ?_); rotate_left; (try dsimp only [c_isMapped]); (try refine nrm ?_); rotate_right) | refine ret3 ?_ | refine end3 ?_) | (refine ar_cond rfl trivial ?_ ?_ <;> intro hc_ <;> (try simp only [isNilI, inB, reduceCtorEq, cds] at hc_) <;> (try (first | contradiction | (exfalso; omega)))) | refine ar_until (And.intro ?_ (wk3 ?_)))
  all_goals (first | refine ar_id ?_ | (try (focus ((try refine nrmO ?_); (repeat' (first | exact True.intro | refine And.intro ?_ ?_)); all_goals (try (intro (hg_ : _ = true); (try simp only [isNilI, inB, reduceCtorEq, cds] at hg_); (repeat' (first | exact True.intro | refine And.intro ?_ ?_)))); all_goals (first | exact ob1 | exact fn_isMapped _ _ | skip)))))
  · have := hok _ (getD_in (l := t.Entries) (i := i) (d := ⟨0, 0⟩) (by omega)); unfold okE at this; omega
  · have := hok _ (getD_in (l := t.Entries) (i := i) (d := ⟨0, 0⟩) (by omega)); unfold okE at this; rw [List.length_map, fwL_len]; omega
  · have := hok _ (getD_in (l := t.Entries) (i := i) (d := ⟨0, 0⟩) (by omega)); unfold okE at this; exact map_at (by rw [fwL_len]; omega)
  · have := hok _ (getD_in (l := t.Entries) (i := i) (d := ⟨0, 0⟩) (by omega)); unfold okE at this
    rw [take_getD _ ⟨0, 0⟩ (by omega), fwL_snoc, if_pos ⟨hc_, by omega⟩]
    exact List.map_set.symm
  · rw [take_getD _ ⟨0, 0⟩ (by omega), fwL_snoc, if_neg (fun h => h.1 hc_)]
  · rw [List.take_of_length_le (by omega)]
  · rw [List.take_zero, fwL_nil, List.map_replicate]; rfl
def c_EqualB (a b : List Bool) : CFD := ⟨125, [.one (ro 4 1 Tr.eB a), .one (ro 4 1 Tr.eB b)], [], (TV.sv (.one (.lit (.bool (decide (a = b)))))), [], [], []⟩
theorem fn_EqualB (a b : List Bool) (hl : a.length ≤ 1048576) (hb : b.length ≤ 1048576) : Fn Tryz.prog (c_EqualB a b) := by
  refine fn_intro tt_ok Tryz.func125 rfl Tryz.call125 Tryz.ntmps125 Tryz.results125 rfl rfl rfl rfl ?_
  intro X ρ0 hb_ hgl_
  dsimp only [c_EqualB]
  try refine nrm ?_
  repeat' (refine ar_id ?_; first | refine st1 ?_ | (first | ((first | refine ar_region tt_ok (inps := []) rfl ?_ ?_); rotate_left; (try refine nrm ?_); rotate_right) | refine ret3 ?_ | refine end3 ?_) | (refine ar_cond rfl trivial ?_ ?_ <;> intro hc_ <;> (try simp only [isNilI, inB, reduceCtorEq, cds] at hc_) <;> (try (first | contradiction | (exfalso; omega)))) | refine ar_until (And.intro ?_ (wk3 ?_)))
  all_goals (first | refine ar_id ?_ | (try (focus ((try refine nrmO ?_); (repeat' (first | exact True.intro | refine And.intro ?_ ?_)); all_goals (try (intro (hg_ : _ = true); (try simp only [isNilI, inB, reduceCtorEq, cds] at hg_); (repeat' (first | exact True.intro | refine And.intro ?_ ?_)))); all_goals (first | exact ob1 | skip)))))
  · exact bf fun h => hc_ (by rw [h])
  have hlen := hc_
  refine ar_keep 12339 (by dsimp only [keepS] <;> exact rfl) ?_
  refine ar_forM (a.length) (fun i => a.take i = b.take i) (fun i => [(13, (TV.sv (.one (.lit (.int .i64 (i))))))]) (fun i => []) ?_ ?_ ?_
  rotate_left
  · first | trivial | simp
  (dsimp only [rnCap, capSVs, Int.toNat_natCast, ro, Nat.reduceAdd, Nat.reduceMul, Nat.zero_add, List.map, putT, app, wrapG, gOb, argT, keys, slotOf, dropped, gAnd, wB, rnT, rnS, rnC, rnCs, rnSs, rnM, rnB, rnN, rn, lk, St.over, ded, delL, keepT, menT, menSs, menS, menCs, menC, hasN, resT, SV.cells]; refine wk3 ?_; (focus ((try refine nrmO ?_); (repeat' (first | exact True.intro | refine And.intro ?_ ?_)); all_goals (try (intro (hg_ : _ = true); (try simp only [isNilI, inB, reduceCtorEq, cds] at hg_); (repeat' (first | exact True.intro | refine And.intro ?_ ?_)))); all_goals (first | exact ob1 | exact rfl | skip))))
  rotate_right
  intro i hi_ hiI_
  dsimp only [rnCap, capSVs, Int.toNat_natCast, ro, Nat.reduceAdd, Nat.reduceMul, Nat.zero_add, List.map, putT, app, wrapG, gOb, argT, keys, slotOf, dropped, gAnd, wB, rnT, rnS, rnC, rnCs, rnSs, rnM, rnB, rnN, rn, lk, St.over, ded, delL, keepT, menT, menSs, menS, menCs, menC, hasN, resT, SV.cells]
  repeat' (refine ar_id ?_; first | refine st1 ?_ | (first | ((first | refine ar_draw (id := 6) (inps := [.elem (Tr.eB (a.getD i false)), .elem (Tr.eB (b.getD i false))]) tt_ok (by kernel_rfl) rfl rfl (by kernel_rfl) rfl rfl rfl rfl ?_ ?_ | refine ar_region tt_ok (inps := []) rfl ?_ ?_); rotate_left; (try refine nrm ?_); rotate_right) | refine ret3 ?_ | refine end3 ?_) | (refine ar_cond rfl trivial ?_ ?_ <;> intro hc_ <;> (try simp only [isNilI, inB, reduceCtorEq, cds] at hc_) <;> (try (first | contradiction | (exfalso; omega)))) | refine ar_until (And.intro ?_ (wk3 ?_)))
  all_goals (first | refine ar_id ?_ | (try (focus ((try refine nrmO ?_); (repeat' (first | exact True.intro | refine And.intro ?_ ?_)); all_goals (try (intro (hg_ : _ = true); (try simp only [isNilI, inB, reduceCtorEq, cds] at hg_); (repeat' (first | exact True.intro | refine And.intro ?_ ?_)))); all_goals (first | exact ob1 | skip)))))
  · refine bf fun h => ?_
    subst h
    simp at hc_
  · rw [take_getD a false (by omega), take_getD b false (by omega), hiI_]
    simpa using hc_
  · refine bt ?_
    rw [List.take_of_length_le (by omega), List.take_of_length_le (by omega)] at hiI_
    exact hiI_
theorem onFrame_pos (f : Int) : ∀ (i : Nat) (l : List GEntry), 0 < (onFrame f i l).length ↔ ∃ e ∈ l, e.Mode ≠ 0 ∧ e.Frame = f
  | _, [] => by simp [onFrame]
  | i, e :: l => by
    have ih := onFrame_pos f (i + 1) l
    show 0 < (_ ++ onFrame f (i + 1) l).length ↔ _
    rw [List.length_append]
    by_cases h : e.Mode ≠ 0 ∧ e.Frame = f
    · rw [if_pos h]
      exact ⟨fun _ => ⟨e, by simp, h⟩, fun _ => by simp; omega⟩
    · rw [if_neg h]
      simp only [List.length_nil, Nat.zero_add, ih]
      constructor
      · rintro ⟨x, hx, h1⟩; exact ⟨x, by simp [hx], h1⟩
      · rintro ⟨x, hx, h1⟩
        rw [List.mem_cons] at hx
        rcases hx with rfl | hx
        · exact absurd h1 h
        · exact ⟨x, hx, h1⟩
theorem used_iff (m : GMachine) : usedAre m ↔ m.Frames.Used = fwL m.Table.Entries m.Frames.Used.length := by
  have h0 : ∀ i, i < m.Frames.Used.length → (fwL m.Table.Entries m.Frames.Used.length)[i]? = some (decide (0 < (pPagesOn m.Table (i : Int)).length)) := by
    intro i hi
    unfold fwL pPagesOn
    rw [List.getElem?_map, List.getElem?_range hi, Option.map_some]
    congr 1
    rw [decide_eq_decide, onFrame_pos]
  constructor
  · intro h
    refine List.ext_getElem? fun i => ?_
    rcases Nat.lt_or_ge i m.Frames.Used.length with hi | hi
    · rw [h i hi, h0 i hi]
    · rw [List.getElem?_eq_none hi, List.getElem?_eq_none (by rw [fwL_len]; exact hi)]
  · intro h i hi
    rw [← h0 i hi, ← h]
/-- a machine that can be read: its slices are not too long -/
structure szM (m : GMachine) : Prop where
  c : m.Frames.Cells.length ≤ 1048576
  u : m.Frames.Used.length ≤ 1048576
  r : ∀ r ∈ m.Frames.Cells, r.length ≤ 1048576
  e : m.Table.Entries.length ≤ 1048576
def c_MOkI (m : GMachine) : CFD := ⟨94, [.agg [ro 33 1 eIntS m.Frames.Cells, ro 4 1 Tr.eB m.Frames.Used, ro 47 2 eEntry m.Table.Entries]], [], (TV.sv (.one (.lit (.bool (pMachineOk m))))), [], [], []⟩
theorem fn_MOkI (m : GMachine) (hs : szM m) : Fn Tryz.prog (c_MOkI m) := by
  refine fn_intro tt_ok Tryz.func94 rfl Tryz.call94 Tryz.ntmps94 Tryz.results94 rfl rfl rfl rfl ?_
  intro X ρ0 hb_ hgl_
  dsimp only [c_MOkI]
  try refine nrm ?_
  repeat' (refine ar_id ?_; first | refine st1 ?_ | (first | ((first | refine ar_region (id := 1) tt_ok (inps := [.call (c_FramesOkI m.Frames), .call (c_TableOkI m.Table m.Frames.Used.length)]) rfl ?_ ?_ | refine ar_region tt_ok (inps := []) rfl ?_ ?_); rotate_left; (try dsimp only [c_FramesOkI, c_TableOkI]); (try refine nrm ?_); rotate_right) | refine ret3 ?_ | refine end3 ?_) | (refine ar_cond rfl trivial ?_ ?_ <;> intro hc_ <;> (try simp only [isNilI, inB, reduceCtorEq, cds] at hc_) <;> (try (first | contradiction | (exfalso; omega)))) | refine ar_until (And.intro ?_ (wk3 ?_)))
  all_goals (first | refine ar_id ?_ | (try (focus ((try refine nrmO ?_); (repeat' (first | exact True.intro | refine And.intro ?_ ?_)); all_goals (try (intro (hg_ : _ = true); (try simp only [isNilI, inB, reduceCtorEq, cds] at hg_); (repeat' (first | exact True.intro | refine And.intro ?_ ?_)))); all_goals (first | exact ob1 | exact fn_FramesOkI _ hs.c hs.u hs.r | exact fn_TableOkI _ _ hs.e | skip)))))
  · refine bf fun h => ?_
    rcases hc_ with hc_ | hc_
    · rw [show pFramesOk m.Frames = true from decide_eq_true h.1] at hc_; cases hc_
    · rw [h.1.2.1, h.2.1] at hc_; cases hc_
  have hok := of_decide_eq_true hc_.1
  repeat' (refine ar_id ?_; first | refine st1 ?_ | (first | ((first | refine ar_draw (id := 3) (inps := [.call (c_fwp m.Table m.Frames.Used.length), .call (c_EqualB m.Frames.Used (fwL m.Table.Entries m.Frames.Used.length))]) tt_ok (by kernel_rfl) rfl rfl (by kernel_rfl) rfl rfl rfl rfl ?_ ?_ | refine ar_region tt_ok (inps := []) rfl ?_ ?_); rotate_left; (try dsimp only [c_EqualB, c_fwp]); (try refine nrm ?_); rotate_right) | refine ret3 ?_ | refine end3 ?_) | (refine ar_cond rfl trivial ?_ ?_ <;> intro hc_ <;> (try simp only [isNilI, inB, reduceCtorEq, cds] at hc_) <;> (try (first | contradiction | (exfalso; omega)))) | refine ar_until (And.intro ?_ (wk3 ?_)))
  all_goals (first | refine ar_id ?_ | (try (focus ((try refine nrmO ?_); (repeat' (first | exact True.intro | refine And.intro ?_ ?_)); all_goals (try (intro (hg_ : _ = true); (try simp only [isNilI, inB, reduceCtorEq, cds] at hg_); (repeat' (first | exact True.intro | refine And.intro ?_ ?_)))); all_goals (first | exact ob1 | exact fn_EqualB _ _ hs.u (by rw [fwL_len]; exact hs.u) | exact fn_fwp _ _ hs.e hs.u (of_decide_eq_true hc_.2).1 | skip)))))
  refine congrArg Value.bool ?_
  show _ = decide (okM m)
  rw [decide_eq_decide]
  exact ⟨fun h => ⟨hok, by rw [← hok.2.1]; exact hc_.2, (used_iff m).2 h⟩, fun h => (used_iff m).1 h.2.2⟩
def c_CopyMI (m : GMachine) : CFD := ⟨81, [.agg [ro 33 1 eIntS m.Frames.Cells, ro 4 1 Tr.eB m.Frames.Used, ro 47 2 eEntry m.Table.Entries]], [], .sv (.agg [.hd 0, .hd 1, .hd 2]),
  [(0, some (.row 33 1 (m.Frames.Cells.map eIntS))), (1, some (.row 4 1 (m.Frames.Used.map Tr.eB))), (2, some (.row 47 2 (m.Table.Entries.map eEntry)))], [0, 1, 2], []⟩
theorem fn_CopyMI (m : GMachine) (hs : szM m) : Fn Tryz.prog (c_CopyMI m) := by
  refine fn_intro tt_ok Tryz.func81 rfl Tryz.call81 Tryz.ntmps81 Tryz.results81 rfl rfl rfl rfl ?_
  intro X ρ0 hb_ hgl_
  dsimp only [c_CopyMI]
  try refine nrm ?_
  repeat' (refine ar_id ?_; first | refine st1 ?_ | (first | ((first | refine ar_draw (id := 1) (inps := [.call (c_Copy5I m.Frames), .call (c_CloneE m.Table.Entries)]) tt_ok (by kernel_rfl) rfl rfl (by kernel_rfl) rfl rfl rfl rfl ?_ ?_ | refine ar_region tt_ok (inps := []) rfl ?_ ?_); rotate_left; (try dsimp only [c_CloneE, c_Copy5I]); (try refine nrm ?_); rotate_right) | refine ret3 ?_ | refine end3 ?_) | (refine ar_cond rfl trivial ?_ ?_ <;> intro hc_ <;> (try simp only [isNilI, inB, reduceCtorEq, cds] at hc_) <;> (try (first | contradiction | (exfalso; omega)))) | refine ar_until (And.intro ?_ (wk3 ?_)))
  all_goals (first | refine ar_id ?_ | (try (focus ((try refine nrmO ?_); (repeat' (first | exact True.intro | refine And.intro ?_ ?_)); all_goals (try (intro (hg_ : _ = true); (try simp only [isNilI, inB, reduceCtorEq, cds] at hg_); (repeat' (first | exact True.intro | refine And.intro ?_ ?_)))); all_goals (first | exact ob1 | exact fn_Copy5I _ hs.c hs.u hs.r | exact fn_CloneE _ hs.e | skip)))))
/-- the sentinel of a page that is not mapped -/
def eP (a : Addr) : Value := .iface 196 (.pointer (some a))
def gP (a : Addr) (ty : Nat) : Glb := ⟨0, [eP a], ty, (0, 0)⟩
def canMap (m : GMachine) (page : Int) : Prop := okM m ∧ (pPageEntry m.Table page).Mode ≠ 0
instance (m : GMachine) (page : Int) : Decidable (canMap m page) := by unfold canMap; infer_instance
/-- the three sentinels -/
structure Se where
  (aP aW aV : Addr)
  (cP cW cV : List Value)
  (tP tW tV uP uW uV : Nat)
  n1 : aP ≠ aW
  n2 : aP ≠ aV
  n3 : aW ≠ aV
def gW (a : Addr) (ty : Nat) : Glb := ⟨1, [eP a], ty, (0, 0)⟩
def gV (a : Addr) (ty : Nat) : Glb := ⟨2, [eP a], ty, (0, 0)⟩
def Se.gl (s : Se) : List Glb := [gP s.aP s.uP, gW s.aW s.uW, gV s.aV s.uV, ⟨s.aP.block, s.cP, s.tP, (0, 0)⟩, ⟨s.aW.block, s.cW, s.tW, (0, 0)⟩, ⟨s.aV.block, s.cV, s.tV, (0, 0)⟩]
end Eng
end Go.Proofs.YtgeakpeodhhffaaGreatDoor
namespace Go.Proofs.YtgeakpeodhhffaaGreatDoor
open Go.RowKit
set_option linter.unusedVariables false
set_option linter.unusedSimpArgs false
set_option maxRecDepth 100000
namespace Eng
open Tr
/-- a kernel that can be read -/
structure szK (k : GKernel) : Prop where
  m : szM k.Machine
  r : k.Refuse.length ≤ 1048576
def c_KOkI (k : GKernel) : CFD := ⟨86, [.agg [ro 33 1 eIntS k.Machine.Frames.Cells, ro 4 1 Tr.eB k.Machine.Frames.Used, ro 47 2 eEntry k.Machine.Table.Entries, (CV.lit (.int .i64 (k.Calls))), ro 3 1 Tr.eI k.Refuse]], [], (TV.sv (.one (.lit (.bool (pKernelOk k))))), [], [], []⟩
theorem fn_KOkI (k : GKernel) (hs : szK k) : Fn Tryz.prog (c_KOkI k) := by
  have hr := hs.r
  refine fn_intro tt_ok Tryz.func86 rfl Tryz.call86 Tryz.ntmps86 Tryz.results86 rfl rfl rfl rfl ?_
  intro X ρ0 hb_ hgl_
  dsimp only [c_KOkI]
  try refine nrm ?_
  repeat' (refine ar_id ?_; first | refine st1 ?_ | (first | ((first | refine ar_region (id := 1) tt_ok (inps := [.call (c_MOkI k.Machine)]) rfl ?_ ?_ | refine ar_region tt_ok (inps := []) rfl ?_ ?_); rotate_left; (try dsimp only [c_MOkI]); (try refine nrm ?_); rotate_right) | refine ret3 ?_ | refine end3 ?_) | (refine ar_cond rfl trivial ?_ ?_ <;> intro hc_ <;> (try simp only [isNilI, inB, reduceCtorEq, cds] at hc_) <;> (try (first | contradiction | (exfalso; omega)))) | refine ar_until (And.intro ?_ (wk3 ?_)))
  all_goals (first | refine ar_id ?_ | (try (focus ((try refine nrmO ?_); (repeat' (first | exact True.intro | refine And.intro ?_ ?_)); all_goals (try (intro (hg_ : _ = true); (try simp only [isNilI, inB, reduceCtorEq, cds] at hg_); (repeat' (first | exact True.intro | refine And.intro ?_ ?_)))); all_goals (first | exact ob1 | exact fn_MOkI _ hs.m | skip)))))
  · refine bf fun h => ?_
    rcases hc_ with ((hc_ | hc_) | hc_) | hc_
    · exact of_decide_eq_false hc_ h.1
    · have := h.2.1.1; omega
    · have := h.2.1.2; omega
    · have := h.2.2.2; omega
  have hc1 := hc_
  refine ar_keep 469762071 (by dsimp only [keepS] <;> exact rfl) ?_
  refine ar_forM (k.Refuse.length) (fun i => ∀ y ∈ k.Refuse.take i, 0 ≤ y) (fun i => [(28, (TV.sv (.one (.lit (.int .i64 (i))))))]) (fun i => []) ?_ ?_ ?_
  rotate_left
  · first | trivial | simp
  (dsimp only [rnCap, capSVs, Int.toNat_natCast, ro, Nat.reduceAdd, Nat.reduceMul, Nat.zero_add, List.map, putT, app, wrapG, gOb, argT, keys, slotOf, dropped, gAnd, wB, rnT, rnS, rnC, rnCs, rnSs, rnM, rnB, rnN, rn, lk, St.over, ded, delL, keepT, menT, menSs, menS, menCs, menC, hasN, resT, SV.cells]; refine wk3 ?_; (focus ((try refine nrmO ?_); (repeat' (first | exact True.intro | refine And.intro ?_ ?_)); all_goals (try (intro (hg_ : _ = true); (try simp only [isNilI, inB, reduceCtorEq, cds] at hg_); (repeat' (first | exact True.intro | refine And.intro ?_ ?_)))); all_goals (first | exact ob1 | exact rfl | skip))))
  rotate_right
  intro i hi_ hiI_
  dsimp only [rnCap, capSVs, Int.toNat_natCast, ro, Nat.reduceAdd, Nat.reduceMul, Nat.zero_add, List.map, putT, app, wrapG, gOb, argT, keys, slotOf, dropped, gAnd, wB, rnT, rnS, rnC, rnCs, rnSs, rnM, rnB, rnN, rn, lk, St.over, ded, delL, keepT, menT, menSs, menS, menCs, menC, hasN, resT, SV.cells]
  repeat' (refine ar_id ?_; first | refine st1 ?_ | (first | ((first | refine ar_region (id := 5) tt_ok (inps := [.elem (Tr.eI (k.Refuse.getD i 0))]) rfl ?_ ?_ | refine ar_region tt_ok (inps := []) rfl ?_ ?_); rotate_left; (try refine nrm ?_); rotate_right) | refine ret3 ?_ | refine end3 ?_) | (refine ar_cond rfl trivial ?_ ?_ <;> intro hc_ <;> (try simp only [isNilI, inB, reduceCtorEq, cds] at hc_) <;> (try (first | contradiction | (exfalso; omega)))) | refine ar_until (And.intro ?_ (wk3 ?_)))
  all_goals (first | refine ar_id ?_ | (try (focus ((try refine nrmO ?_); (repeat' (first | exact True.intro | refine And.intro ?_ ?_)); all_goals (try (intro (hg_ : _ = true); (try simp only [isNilI, inB, reduceCtorEq, cds] at hg_); (repeat' (first | exact True.intro | refine And.intro ?_ ?_)))); all_goals (first | exact ob1 | skip)))))
  · exact bf fun h => by have := h.2.2.1 _ (getD_in (l := k.Refuse) (i := i) (d := 0) (by omega)); omega
  · exact all_take (d := 0) hiI_ (by omega) hc_
  · exact bt ⟨of_decide_eq_true hc1.1.1.1, ⟨hc1.1.1.2, hc1.1.2⟩, all_full hiI_ (by omega), by omega⟩
def c_CopyKI (k : GKernel) : CFD := ⟨37, [.agg [ro 33 1 eIntS k.Machine.Frames.Cells, ro 4 1 Tr.eB k.Machine.Frames.Used, ro 47 2 eEntry k.Machine.Table.Entries, (CV.lit (.int .i64 (k.Calls))), ro 3 1 Tr.eI k.Refuse]], [], .sv (.agg [.hd 0, .hd 1, .hd 2, (CV.lit (.int .i64 (k.Calls))), .hd 3]), [(0, some (.row 33 1 (k.Machine.Frames.Cells.map eIntS))), (1, some (.row 4 1 (k.Machine.Frames.Used.map Tr.eB))), (2, some (.row 47 2 (k.Machine.Table.Entries.map eEntry))), (3, some (.row 3 1 (k.Refuse.map Tr.eI)))], [0, 1, 2, 3], []⟩
theorem fn_CopyKI (k : GKernel) (hs : szK k) : Fn Tryz.prog (c_CopyKI k) := by
  have hr := hs.r
  refine fn_intro tt_ok Tryz.func37 rfl Tryz.call37 Tryz.ntmps37 Tryz.results37 rfl rfl rfl rfl ?_
  intro X ρ0 hb_ hgl_
  dsimp only [c_CopyKI]
  try refine nrm ?_
  repeat' (refine ar_id ?_; first | refine st1 ?_ | (first | ((first | refine ar_draw (id := 1) (inps := [.call (c_CopyMI k.Machine), .call (c_CloneI k.Refuse)]) tt_ok (by kernel_rfl) rfl rfl (by kernel_rfl) rfl rfl rfl rfl ?_ ?_ | refine ar_region tt_ok (inps := []) rfl ?_ ?_); rotate_left; (try dsimp only [c_CloneI, c_CopyMI]); (try refine nrm ?_); rotate_right) | refine ret3 ?_ | refine end3 ?_) | (refine ar_cond rfl trivial ?_ ?_ <;> intro hc_ <;> (try simp only [isNilI, inB, reduceCtorEq, cds] at hc_) <;> (try (first | contradiction | (exfalso; omega)))) | refine ar_until (And.intro ?_ (wk3 ?_)))
  all_goals (first | refine ar_id ?_ | (try (focus ((try refine nrmO ?_); (repeat' (first | exact True.intro | refine And.intro ?_ ?_)); all_goals (try (intro (hg_ : _ = true); (try simp only [isNilI, inB, reduceCtorEq, cds] at hg_); (repeat' (first | exact True.intro | refine And.intro ?_ ?_)))); all_goals (first | exact ob1 | exact fn_CopyMI _ hs.m | exact fn_CloneI _ hs.r | skip)))))
end Eng
end Go.Proofs.YtgeakpeodhhffaaGreatDoor
namespace Go.Proofs.YtgeakpeodhhffaaGreatDoor
open Go.RowKit
set_option linter.unusedVariables false
set_option linter.unusedSimpArgs false
set_option maxRecDepth 100000
namespace Eng
open Tr
theorem szK_from16 {k : GKernel} (h : szK8 k) : szK k := ⟨⟨h.m.c, h.m.u, h.m.r, h.m.e⟩, h.r⟩
def c_code (t : Tb) (k : GKernel) (s : GSpan) (slot e : Int) : CFD := ⟨38, [.agg [ro 33 1 eIntS k.Machine.Frames.Cells, ro 4 1 Tr.eB k.Machine.Frames.Used, ro 47 2 eEntry k.Machine.Table.Entries, (CV.lit (.int .i64 (k.Calls))), ro 3 1 Tr.eI k.Refuse], .agg [(CV.lit (.int .i64 (s.Page))), (CV.lit (.int .i64 (s.Class))), (CV.lit (.int .i64 (s.Bits)))], (SV.one (.lit (.int .i64 (slot))))], [], (TV.sv (.one (.lit (.int .i64 (e))))), [], [], t.both⟩
set_option maxHeartbeats 2000000 in
theorem fn_code (t : Tb) (k : GKernel) (s : GSpan) (slot e : Int) (hs : szK8 k) (h : frCode k s slot = e) : Fn Tryz.prog (c_code t k s slot e) := by
  have hen := hs.m.e
  obtain ⟨E, hE⟩ : ∃ E, pPageEntry k.Machine.Table s.Page = E := ⟨_, rfl⟩
  have hm : modeOf k s.Page = E.Mode := by unfold modeOf; rw [hE]
  have hP := fn_PageEntryI k.Machine.Table s.Page hen
  unfold c_PageEntryI at hP
  rw [hE] at hP
  rcases fr_cases k s slot with ⟨hc, h1⟩ | ⟨hc, h1, h2⟩ | ⟨hc, h1, h2, h3⟩ | ⟨hc, h1, h2, h3, h4⟩
  · obtain rfl := hc.symm.trans h
    by_cases h5 : pSpanOk s = true
    · have hb := bits_bd h5
      have hG : (!(!pSpanOk s)) = true := by rw [h5]; rfl
      refine fn_intro tt_ok Tryz.func38 rfl Tryz.call38 Tryz.ntmps38 Tryz.results38 rfl rfl rfl rfl ?_
      intro X ρ0 hb_ hgl_
      dsimp only [c_code]
      try refine nrm ?_
      repeat' (refine ar_id ?_; first | refine st1 ?_ | (first | ((first | refine ar_region (id := 1) tt_ok (inps := [.call (⟨83, [.agg [ro 47 2 eEntry k.Machine.Table.Entries], (SV.one (.lit (.int .i64 (s.Page))))], [], .sv (.agg [(CV.lit (.int .i64 (E.Mode))), (CV.lit (.int .i64 (E.Frame)))]), [], [], []⟩)]) rfl ?_ ?_ | refine ar_region (id := 2) tt_ok (inps := [.call (c_SpanOkI t s), .sure (c_HasI t s.Bits slot)]) rfl ?_ ?_ | refine ar_region tt_ok (inps := []) rfl ?_ ?_); rotate_left; (try dsimp only [c_HasI, c_SpanOkI]); (try refine nrm ?_); rotate_right) | refine ret3 ?_ | refine end3 ?_) | (refine ar_cond rfl trivial ?_ ?_ <;> intro hc_ <;> (try simp only [isNilI, inB, reduceCtorEq, cds] at hc_) <;> (try (first | contradiction | (exfalso; omega) | (exfalso; grind)))) | refine ar_until (And.intro ?_ (wk3 ?_)))
      all_goals (first | refine ar_id ?_ | (try (focus ((try refine nrmO ?_); (repeat' (first | exact True.intro | refine And.intro ?_ ?_)); all_goals (try (intro (hg_ : _ = true); (try simp only [isNilI, inB, reduceCtorEq, cds] at hg_); (repeat' (first | exact True.intro | refine And.intro ?_ ?_)))); all_goals (first | exact ob1 | exact hP | exact fn_SpanOkI _ _ | exact fn_HasI _ _ _ (by omega) | exact hG | exact hgl_.1 | exact hgl_.2.1 | exact hgl_.2.2.1 | exact hgl_.2.2.2.1 | exact hgl_.2.2.2.2.1 | exact hgl_.2.2.2.2.2.1 | exact hgl_.2.2.2.2.2.2.1 | exact hgl_.2.2.2.2.2.2.2.1 | exact hgl_ | exact rfl | exact one1 rfl | skip)))))
      all_goals trace_state
    · have h5' : pSpanOk s = false := by simpa using h5
      have hG : (!(!pSpanOk s)) = false := by rw [h5']; rfl
      refine fn_intro tt_ok Tryz.func38 rfl Tryz.call38 Tryz.ntmps38 Tryz.results38 rfl rfl rfl rfl ?_
      intro X ρ0 hb_ hgl_
      dsimp only [c_code]
      try refine nrm ?_
      repeat' (refine ar_id ?_; first | refine st1 ?_ | (first | ((first | refine ar_region (id := 1) tt_ok (inps := [.call (⟨83, [.agg [ro 47 2 eEntry k.Machine.Table.Entries], (SV.one (.lit (.int .i64 (s.Page))))], [], .sv (.agg [(CV.lit (.int .i64 (E.Mode))), (CV.lit (.int .i64 (E.Frame)))]), [], [], []⟩)]) rfl ?_ ?_ | refine ar_region (id := 2) tt_ok (inps := [.call (c_SpanOkI t s), .skip (SV.one (.lit (.bool (false))))]) rfl ?_ ?_ | refine ar_region tt_ok (inps := []) rfl ?_ ?_); rotate_left; (try dsimp only [c_SpanOkI]); (try refine nrm ?_); rotate_right) | refine ret3 ?_ | refine end3 ?_) | (refine ar_cond rfl trivial ?_ ?_ <;> intro hc_ <;> (try simp only [isNilI, inB, reduceCtorEq, cds] at hc_) <;> (try (first | contradiction | (exfalso; omega) | (exfalso; grind)))) | refine ar_until (And.intro ?_ (wk3 ?_)))
      all_goals (first | refine ar_id ?_ | (try (focus ((try refine nrmO ?_); (repeat' (first | exact True.intro | refine And.intro ?_ ?_)); all_goals (try (intro (hg_ : _ = true); (try simp only [isNilI, inB, reduceCtorEq, cds] at hg_); (repeat' (first | exact True.intro | refine And.intro ?_ ?_)))); all_goals (first | exact ob1 | exact hP | exact fn_SpanOkI _ _ | exact hG | exact hG.symm | exact hgl_.1 | exact hgl_.2.1 | exact hgl_.2.2.1 | exact hgl_.2.2.2.1 | exact hgl_.2.2.2.2.1 | exact hgl_.2.2.2.2.2.1 | exact hgl_.2.2.2.2.2.2.1 | exact hgl_.2.2.2.2.2.2.2.1 | exact hgl_ | exact rfl | exact one1 rfl | skip)))))
      all_goals trace_state
  all_goals
    have hb := bits_bd h1.1
    have hG : (!(!pSpanOk s)) = true := by rw [h1.1]; rfl
    obtain rfl := hc.symm.trans h
    refine fn_intro tt_ok Tryz.func38 rfl Tryz.call38 Tryz.ntmps38 Tryz.results38 rfl rfl rfl rfl ?_
    intro X ρ0 hb_ hgl_
    dsimp only [c_code]
    try refine nrm ?_
    repeat' (refine ar_id ?_; first | refine st1 ?_ | (first | ((first | refine ar_region (id := 1) tt_ok (inps := [.call (⟨83, [.agg [ro 47 2 eEntry k.Machine.Table.Entries], (SV.one (.lit (.int .i64 (s.Page))))], [], .sv (.agg [(CV.lit (.int .i64 (E.Mode))), (CV.lit (.int .i64 (E.Frame)))]), [], [], []⟩)]) rfl ?_ ?_ | refine ar_region (id := 2) tt_ok (inps := [.call (c_SpanOkI t s), .sure (c_HasI t s.Bits slot)]) rfl ?_ ?_ | refine ar_region (id := 4) tt_ok (inps := [.call (c_KOkI k), .call (c_isMapped E.Mode E.Frame)]) rfl ?_ ?_ | refine ar_region tt_ok (inps := []) rfl ?_ ?_); rotate_left; (try dsimp only [c_HasI, c_KOkI, c_SpanOkI, c_isMapped]); (try refine nrm ?_); rotate_right) | refine ret3 ?_ | refine end3 ?_) | (refine ar_cond rfl trivial ?_ ?_ <;> intro hc_ <;> (try simp only [isNilI, inB, reduceCtorEq, cds] at hc_) <;> (try (first | contradiction | (exfalso; omega) | (exfalso; first | grind | (unfold pKernelOk at *; simp only [decide_eq_true_eq, decide_eq_false_iff_not] at *; grind))))) | refine ar_until (And.intro ?_ (wk3 ?_)))
    all_goals (first | refine ar_id ?_ | (try (focus ((try refine nrmO ?_); (repeat' (first | exact True.intro | refine And.intro ?_ ?_)); all_goals (try (intro (hg_ : _ = true); (try simp only [isNilI, inB, reduceCtorEq, cds] at hg_); (repeat' (first | exact True.intro | refine And.intro ?_ ?_)))); all_goals (first | exact ob1 | exact hP | exact fn_SpanOkI _ _ | exact fn_HasI _ _ _ (by omega) | exact fn_KOkI _ (szK_from16 hs) | exact fn_isMapped _ _ | exact hG | exact hgl_.1 | exact hgl_.2.1 | exact hgl_.2.2.1 | exact hgl_.2.2.2.1 | exact hgl_.2.2.2.2.1 | exact hgl_.2.2.2.2.2.1 | exact hgl_.2.2.2.2.2.2.1 | exact hgl_.2.2.2.2.2.2.2.1 | exact hgl_ | exact rfl | exact one1 rfl | skip)))))
    all_goals trace_state
/-- a part of the cells of a slot's frame, that are known as0 the slice A n c -/
def c_slotC (t : Tb) (m : GMachine) (f : Nat) (s : GSpan) (slot : Int) (A : Option Addr) (n c : Nat) : CFD := ⟨39, [.agg [.ro 33 1 m.Frames.Cells.length (D.cat ((m.Frames.Cells.map eIntS).set f (.lit (.slice A n c) .nil))), ro 4 1 Tr.eB m.Frames.Used, ro 47 2 eEntry m.Table.Entries], .agg [(CV.lit (.int .i64 (s.Page))), (CV.lit (.int .i64 (s.Class))), (CV.lit (.int .i64 (s.Bits)))], (SV.one (.lit (.int .i64 (slot))))], [], .sv (.one (.lit (.slice (A.map (·.add (frAt s slot * 1))) (Cl.csz s.Class).toNat (c - frAt s slot)))), [], [], t.both⟩
set_option maxHeartbeats 2000000 in
theorem fn_slotC (t : Tb) (m : GMachine) (f : Nat) (s : GSpan) (slot : Int) (A : Option Addr) (n c : Nat) (hs : szM7 m) (hf : (pPageEntry m.Table s.Page).Frame = (f : Int)) (hf1 : f < m.Frames.Cells.length) (hn : 16 ≤ n) (hc : n ≤ c) (h1 : pSpanOk s = true) (h2 : Bm.has s.Bits slot = true) : Fn Tryz.prog (c_slotC t m f s slot A n c) := by
  have hen := hs.e
  obtain ⟨E, hE⟩ : ∃ E, pPageEntry m.Table s.Page = E := ⟨_, rfl⟩
  have hP := fn_PageEntryI m.Table s.Page hen
  unfold c_PageEntryI at hP
  rw [hE] at hP hf
  obtain ⟨b1, b2, ⟨b3, b4⟩, b5, b6⟩ := slot_bds h1 h2
  obtain ⟨_, _, a3, a4⟩ := fr_addr h1 h2
  obtain ⟨a, ha⟩ : ∃ a, frAt s slot = a := ⟨_, rfl⟩
  obtain ⟨z, hz⟩ : ∃ z, (Cl.csz s.Class).toNat = z := ⟨_, rfl⟩
  have hz' : Cl.csz s.Class = (z : Int) := by omega
  have hCz := fn_CszI t s.Class
  unfold c_CszI at hCz
  rw [hz'] at hCz a4 b3 b4
  rw [ha] at a3 a4
  rw [hz] at a3
  have hsl : ((m.Frames.Cells.map eIntS).set f (.lit (.slice A n c) .nil))[f]? = some (.lit (.slice A n c) .nil) := List.getElem?_set_self (by rw [List.length_map]; exact hf1)
  have hel : Elem (D.cat ((m.Frames.Cells.map eIntS).set f (.lit (.slice A n c) .nil))) 1 m.Frames.Cells.length (E.Frame).toNat (.lit (.slice A n c) .nil) := ⟨_, rfl, by simp, fun d hd => by
    rcases List.mem_or_eq_of_mem_set hd with h | rfl
    · obtain ⟨_, _, rfl⟩ := List.mem_map.1 h; rfl
    · rfl, by rw [hf, Int.toNat_natCast]; exact hsl⟩
  have e1 : (slot * (z : Int)).toNat = a := by omega
  have e2 : ((slot + 1) * (z : Int)).toNat - (slot * (z : Int)).toNat = z := by rw [Int.add_mul, Int.one_mul]; omega
  have g1 : (slot + 1) * (z : Int) = slot * (z : Int) + z := by rw [Int.add_mul, Int.one_mul]
  have hsb := slots_bd s.Class
  refine fn_intro tt_ok Tryz.func39 rfl Tryz.call39 Tryz.ntmps39 Tryz.results39 rfl rfl rfl rfl ?_
  intro X ρ0 hb_ hgl_
  dsimp only [c_slotC]
  try refine nrm ?_
  rw [ha, hz]
  repeat' (refine ar_id ?_; first | refine st1 ?_ | (first | ((first | refine ar_region (id := 1) tt_ok (inps := [.call (⟨51, [(SV.one (.lit (.int .i64 (s.Class))))], [], (TV.sv (.one (.lit (.int .i64 ((z : Int)))))), [], [], [t.gS]⟩)]) rfl ?_ ?_ | refine ar_region (id := 2) tt_ok (inps := [.call (⟨83, [.agg [ro 47 2 eEntry m.Table.Entries], (SV.one (.lit (.int .i64 (s.Page))))], [], .sv (.agg [(CV.lit (.int .i64 (E.Mode))), (CV.lit (.int .i64 (E.Frame)))]), [], [], []⟩)]) rfl ?_ ?_ | refine ar_region (id := 3) tt_ok (inps := [.elem (.lit (.slice A n c) .nil), .keep]) rfl ?_ ?_ | refine ar_region tt_ok (inps := []) rfl ?_ ?_); rotate_left; (try refine nrm ?_); rotate_right) | refine ret3 ?_ | refine end3 ?_) | (refine ar_cond rfl trivial ?_ ?_ <;> intro hc_ <;> (try simp only [isNilI, inB, reduceCtorEq, cds] at hc_) <;> (try (first | contradiction | (exfalso; omega) | (exfalso; omega)))) | refine ar_until (And.intro ?_ (wk3 ?_)))
  all_goals (first | refine ar_id ?_ | (try (focus ((try refine nrmO ?_); (repeat' (first | exact True.intro | refine And.intro ?_ ?_)); all_goals (try (intro (hg_ : _ = true); (try simp only [isNilI, inB, reduceCtorEq, cds] at hg_); (repeat' (first | exact True.intro | refine And.intro ?_ ?_)))); all_goals (first | exact ob1 | exact hCz | exact hP | exact hel | exact i64_ok (by omega) (by omega) | exact hgl_.1 | exact hgl_.2.1 | exact hgl_.2.2.1 | exact hgl_.2.2.2.1 | exact hgl_.2.2.2.2.1 | exact hgl_.2.2.2.2.2.1 | exact hgl_.2.2.2.2.2.2.1 | exact hgl_.2.2.2.2.2.2.2.1 | exact hgl_ | exact rfl | exact one1 rfl | skip)))))
  rw [e2, e1]
  rfl
def c_FrI (t : Tb) (k : GKernel) (s : GSpan) (slot : Int) (k2 : GKernel) (s2 : GSpan) (e : Int) : CFD := ⟨8, [.agg [ro 33 1 eIntS k.Machine.Frames.Cells, ro 4 1 Tr.eB k.Machine.Frames.Used, ro 47 2 eEntry k.Machine.Table.Entries, (CV.lit (.int .i64 (k.Calls))), ro 3 1 Tr.eI k.Refuse], .agg [(CV.lit (.int .i64 (s.Page))), (CV.lit (.int .i64 (s.Class))), (CV.lit (.int .i64 (s.Bits)))], (SV.one (.lit (.int .i64 (slot))))], [], .tup [.agg [.hd 0, .hd 1, .hd 2, (CV.lit (.int .i64 (k2.Calls))), .hd 3], .agg [(CV.lit (.int .i64 (s2.Page))), (CV.lit (.int .i64 (s2.Class))), (CV.lit (.int .i64 (s2.Bits)))], (SV.one (.lit (.int .i64 (e))))], [(0, some (.row 33 1 (k2.Machine.Frames.Cells.map eIntS))), (1, some (.row 4 1 (k2.Machine.Frames.Used.map Tr.eB))), (2, some (.row 47 2 (k2.Machine.Table.Entries.map eEntry))), (3, some (.row 3 1 (k2.Refuse.map Tr.eI)))], [0, 1, 2, 3], t.both⟩
set_option maxHeartbeats 2000000 in
theorem fn_FrI (t : Tb) (k : GKernel) (s : GSpan) (slot : Int) (k2 : GKernel) (s2 : GSpan) (e : Int) (hs : szK8 k) (h : pFreeSlot k s slot = (k2, s2, e)) : Fn Tryz.prog (c_FrI t k s slot k2 s2 e) := by
  unfold pFreeSlot at h
  by_cases hc : frCode k s slot = 0
  · rw [if_pos hc] at h
    obtain ⟨e1, e2⟩ := Prod.mk.inj h
    obtain ⟨e3, e4⟩ := Prod.mk.inj e2
    subst e1 e3 e4
    obtain ⟨h1, h2, h3, h4⟩ : (pSpanOk s = true ∧ Bm.has s.Bits slot = true) ∧ okK k ∧ modeOf k s.Page ≠ 0 ∧ modeOf k s.Page ≠ 1 := by
      rcases fr_cases k s slot with ⟨h, _⟩ | ⟨h, _⟩ | ⟨h, _⟩ | ⟨_, h⟩
      · rw [h] at hc; cases hc
      · rw [h] at hc; cases hc
      · rw [h] at hc; cases hc
      · exact h
    obtain ⟨f, hf, hf1, _, hf2, hf3⟩ := okM_entry h2.1 (show (pPageEntry k.Machine.Table s.Page).Mode ≠ 0 from h3)
    have hfr : frFrame k s = f := by unfold frFrame; rw [hf]; rfl
    obtain ⟨_, _, a3, a4⟩ := fr_addr h1.1 h1.2
    have hcs := (slot_bds h1.1 h1.2).2.2.2
    have hb := bits_bd h1.1
    unfold frK wiped
    rw [hfr]
    have hcode := fn_code t k s slot 0 hs hc
    have hgive := fn_sGive t s slot hb.1 hb.2
    obtain ⟨R, hR⟩ : ∃ R, k.Machine.Frames.Cells.getD f [] = R := ⟨_, rfl⟩
    rw [hR] at hf2
    have hrow : (k.Machine.Frames.Cells.map eIntS)[f]? = some (eIntS R) := by rw [← hR]; exact map_at hf1
    have hw := wipe_eq R (frAt s slot) (Cl.csz s.Class).toNat (by omega)
    have hcl := hs.m.c
    refine fn_intro tt_ok Tryz.func8 rfl Tryz.call8 Tryz.ntmps8 Tryz.results8 rfl rfl rfl rfl ?_
    intro X ρ0 hb_ hgl_
    dsimp only [c_FrI]
    try refine nrm ?_
    rw [hR]
    repeat' (refine ar_id ?_; first | refine st1 ?_ | (first | ((first | refine ar_region (id := 1) tt_ok (inps := [.call (c_CopyKI k)]) rfl ?_ ?_ | refine ar_region (id := 2) tt_ok (inps := [.call (c_code t k s slot 0)]) rfl ?_ ?_ | refine ar_region tt_ok (inps := []) rfl ?_ ?_); rotate_left; (try dsimp only [c_CopyKI, c_code]); (try refine nrm ?_); rotate_right) | refine ret3 ?_ | refine end3 ?_) | (refine ar_cond rfl trivial ?_ ?_ <;> intro hc_ <;> (try simp only [isNilI, inB, reduceCtorEq, cds] at hc_) <;> (try (first | contradiction | (exfalso; omega) | (exfalso; grind)))) | refine ar_until (And.intro ?_ (wk3 ?_)))
    all_goals (first | refine ar_id ?_ | (try (focus ((try refine nrmO ?_); (repeat' (first | exact True.intro | refine And.intro ?_ ?_)); all_goals (try (intro (hg_ : _ = true); (try simp only [isNilI, inB, reduceCtorEq, cds] at hg_); (repeat' (first | exact True.intro | refine And.intro ?_ ?_)))); all_goals (first | exact ob1 | exact fn_CopyKI _ (szK_from16 hs) | exact hcode | exact hgl_.1 | exact hgl_.2.1 | exact hgl_.2.2.1 | exact hgl_.2.2.2.1 | exact hgl_.2.2.2.2.1 | exact hgl_.2.2.2.2.2.1 | exact hgl_.2.2.2.2.2.2.1 | exact hgl_.2.2.2.2.2.2.2.1 | exact hgl_ | exact rfl | exact one1 rfl | skip)))))
    refine ar_open2 13000 f 0 90001 90002 (d := eIntS R) (R.map eI) rfl ?_ rfl ?_ rfl rfl rfl ?_
    · first | exact map_at (by omega) | assumption | exact set_at (by (try simp only [List.length_map, List.length_set]); omega) | (rw [List.getElem?_set_ne (by omega)]; exact map_at (by omega))
    · exact ⟨rfl, rfl, by intro e he; simp only [List.mem_map] at he; obtain ⟨_, _, rfl⟩ := he; rfl⟩
    intro A_90001 n_90001 c_90001 hn_90001 hc_90001
    try refine nrm ?_
    rw [List.length_map] at hn_90001
    have hsc := fn_slotC t k.Machine f s slot A_90001 n_90001 c_90001 hs.m hf hf1 (by omega) hc_90001 h1.1 h1.2
    refine ar_region (id := 5) tt_ok (inps := [.call (c_slotC t k.Machine f s slot A_90001 n_90001 c_90001), .nest .nil [(frAt s slot, 90002)]]) rfl ?_ ?_
    rotate_left
    (try dsimp only [c_slotC]); (try refine nrm ?_)
    refine ar_close 13000 f 0 90001 90002 rfl rfl rfl (set_at ?_) rfl rfl rfl ?_
    · (simp only [List.length_map, List.length_set]; omega)
    try refine nrm ?_
    repeat' (refine ar_id ?_; first | refine st1 ?_ | (first | ((first | refine ar_draw (id := 6) (inps := [.call (c_sGive t s slot)]) tt_ok (by kernel_rfl) rfl rfl (by kernel_rfl) rfl rfl rfl rfl ?_ ?_ | refine ar_region tt_ok (inps := []) rfl ?_ ?_); rotate_left; (try dsimp only [c_sGive]); (try refine nrm ?_); rotate_right) | refine ret3 ?_ | refine end3 ?_) | (refine ar_cond rfl trivial ?_ ?_ <;> intro hc_ <;> (try simp only [isNilI, inB, reduceCtorEq, cds] at hc_) <;> (try (first | contradiction | (exfalso; omega)))) | refine ar_until (And.intro ?_ (wk3 ?_)))
    all_goals (first | refine ar_id ?_ | (try (focus ((try refine nrmO ?_); (repeat' (first | exact True.intro | refine And.intro ?_ ?_)); all_goals (try (intro (hg_ : _ = true); (try simp only [isNilI, inB, reduceCtorEq, cds] at hg_); (repeat' (first | exact True.intro | refine And.intro ?_ ?_)))); all_goals (first | exact ob1 | exact hgive | exact hgl_.1 | exact hgl_.2.1 | exact hgl_.2.2.1 | exact hgl_.2.2.2.1 | exact hgl_.2.2.2.2.1 | exact hgl_.2.2.2.2.2.1 | exact hgl_.2.2.2.2.2.2.1 | exact hgl_.2.2.2.2.2.2.2.1 | exact hgl_ | exact rfl | exact one1 rfl | skip)))))
    all_goals (try (focus ((try refine nrmO ?_); (repeat' (first | exact True.intro | refine And.intro ?_ ?_)); all_goals (try (intro (hg_ : _ = true); (try simp only [isNilI, inB, reduceCtorEq, cds] at hg_); (repeat' (first | exact True.intro | refine And.intro ?_ ?_)))); all_goals (first | exact ob1 | exact hsc | exact hgl_.1 | exact hgl_.2.1 | exact hgl_.2.2.1 | exact hgl_.2.2.2.1 | exact hgl_.2.2.2.2.1 | exact hgl_.2.2.2.2.2.1 | exact hgl_.2.2.2.2.2.2.1 | exact hgl_.2.2.2.2.2.2.2.1 | exact hgl_ | exact rfl | exact one1 rfl | skip))))
    · have hwm : (R.map eI).take (frAt s slot) ++ (List.replicate (Cl.csz s.Class).toNat (D.lit ti3.z .nil) ++ (R.map eI).drop (frAt s slot + (Cl.csz s.Class).toNat)) = (wipe R (frAt s slot) (Cl.csz s.Class).toNat).map eI := by
        rw [← hw, List.map_append, List.map_append, List.map_take, List.map_drop, List.map_replicate]; rfl
      rw [hwm, List.set_set]
      show (List.map eIntS k.Machine.Frames.Cells).set f (eIntS (wipe R (frAt s slot) (Cl.csz s.Class).toNat)) = _
      exact List.map_set.symm
    · rw [List.length_set, List.length_map]
    · intro d hd
      obtain ⟨_, _, rfl⟩ := List.mem_map.1 hd
      exact ⟨rfl, trivial⟩
  · rw [if_neg hc] at h
    obtain ⟨e1, e2⟩ := Prod.mk.inj h
    obtain ⟨e3, e4⟩ := Prod.mk.inj e2
    subst e1 e3
    have hcode := fn_code t k s slot e hs e4
    rw [e4] at hc
    refine fn_intro tt_ok Tryz.func8 rfl Tryz.call8 Tryz.ntmps8 Tryz.results8 rfl rfl rfl rfl ?_
    intro X ρ0 hb_ hgl_
    dsimp only [c_FrI]
    try refine nrm ?_
    repeat' (refine ar_id ?_; first | refine st1 ?_ | (refine ar_drawS (id := 4) tt_ok (by kernel_rfl) [] ?_; refine ed_hide ?_; intro K_ hK_; repeat' (first | ((first | refine ed_call3 ?_ | refine ed_sure3 ?_ | refine ed_cons3 ?_); refine ed_hide ?_; intro K_ hK_; (try dsimp only [c_CopyKI, c_code]); (try refine nrmE ?_)) | (refine ed_nil ?_; (repeat subst hK_); dsimp only; refine Exists.intro _ (And.intro rfl (And.intro (by kernel_rfl) (And.intro ?_ ?_))); rotate_left; (try dsimp only [c_CopyKI, c_code]); (try refine nrm ?_); rotate_right))) | (first | ((first | refine ar_region (id := 1) tt_ok (inps := [.call (c_CopyKI k)]) rfl ?_ ?_ | refine ar_region (id := 2) tt_ok (inps := [.call (c_code t k s slot e)]) rfl ?_ ?_ | refine ar_region tt_ok (inps := []) rfl ?_ ?_); rotate_left; (try dsimp only [c_CopyKI, c_code]); (try refine nrm ?_); rotate_right) | refine ret3 ?_ | refine end3 ?_) | (refine ar_cond rfl trivial ?_ ?_ <;> intro hc_ <;> (try simp only [isNilI, inB, reduceCtorEq, cds] at hc_) <;> (try (first | contradiction | (exfalso; omega) | (exfalso; grind)))) | refine ar_until (And.intro ?_ (wk3 ?_)))
    all_goals (first | refine ar_id ?_ | (try (focus ((try refine nrmO ?_); (repeat' (first | exact True.intro | refine And.intro ?_ ?_)); all_goals (try (intro (hg_ : _ = true); (try simp only [isNilI, inB, reduceCtorEq, cds] at hg_); (repeat' (first | exact True.intro | refine And.intro ?_ ?_)))); all_goals (first | exact ob1 | exact fn_CopyKI _ (szK_from16 hs) | exact hcode | exact hgl_.1 | exact hgl_.2.1 | exact hgl_.2.2.1 | exact hgl_.2.2.2.1 | exact hgl_.2.2.2.2.1 | exact hgl_.2.2.2.2.2.1 | exact hgl_.2.2.2.2.2.2.1 | exact hgl_.2.2.2.2.2.2.2.1 | exact hgl_ | exact rfl | exact one1 rfl | skip)))))
    all_goals trace_state
def c_isIn (x : GLate) (ss : List GSpan) : CFD := ⟨63, [.agg [(CV.lit (.int .i64 (x.Index))), (CV.lit (.int .i64 (x.Slot)))], .one (ro 41 3 eSpan ss)], [], (TV.sv (.one (.lit (.bool (decide (isIn x ss.length)))))), [], [], []⟩
theorem fn_isIn (x : GLate) (ss : List GSpan) : Fn Tryz.prog (c_isIn x ss) := by
  refine fn_intro tt_ok Tryz.func63 rfl Tryz.call63 Tryz.ntmps63 Tryz.results63 rfl rfl rfl rfl ?_
  intro X ρ0 hb_ hgl_
  dsimp only [c_isIn]
  try refine nrm ?_
  repeat' (refine ar_id ?_; first | refine st1 ?_ | (first | ((first | refine ar_region tt_ok (inps := []) rfl ?_ ?_); rotate_left; (try refine nrm ?_); rotate_right) | refine ret3 ?_ | refine end3 ?_) | (refine ar_cond rfl trivial ?_ ?_ <;> intro hc_ <;> (try simp only [isNilI, inB, reduceCtorEq, cds] at hc_) <;> (try (first | contradiction | (exfalso; omega)))) | refine ar_until (And.intro ?_ (wk3 ?_)))
  all_goals (first | refine ar_id ?_ | (try (focus ((try refine nrmO ?_); (repeat' (first | exact True.intro | refine And.intro ?_ ?_)); all_goals (try (intro (hg_ : _ = true); (try simp only [isNilI, inB, reduceCtorEq, cds] at hg_); (repeat' (first | exact True.intro | refine And.intro ?_ ?_)))); all_goals (first | exact ob1 | skip)))))
  refine congrArg Value.bool ?_
  rw [Bool.eq_iff_iff, decide_eq_true_iff]
  unfold isIn
  simp only [Bool.cond_false_right, Bool.and_eq_true, decide_eq_true_eq]
  all_goals omega
def c_CloneSp (l : List GSpan) : CFD := ⟨60, [.one (ro 41 3 eSpan l)], [], .sv (.one (.hd 0)), [(0, some (.row 41 3 (l.map eSpan)))], [0], []⟩
theorem fn_CloneSp (l : List GSpan) (hl : l.length ≤ 1048576) : Fn Tryz.prog (c_CloneSp l) := by
  refine fn_intro tt_ok Tryz.func60 rfl Tryz.call60 Tryz.ntmps60 Tryz.results60 rfl rfl rfl rfl ?_
  intro X ρ0 hb_ hgl_
  dsimp only [c_CloneSp]
  try refine nrm ?_
  repeat' (refine ar_id ?_; first | refine st1 ?_ | (first | ((first | refine ar_region tt_ok (inps := []) rfl ?_ ?_); rotate_left; (try refine nrm ?_); rotate_right) | refine ret3 ?_ | refine end3 ?_) | (refine ar_cond rfl trivial ?_ ?_ <;> intro hc_ <;> (try simp only [isNilI, inB, reduceCtorEq, cds] at hc_) <;> (try (first | contradiction | (exfalso; omega)))) | refine ar_until (And.intro ?_ (wk3 ?_)))
  all_goals (first | refine ar_id ?_ | (try (focus ((try refine nrmO ?_); (repeat' (first | exact True.intro | refine And.intro ?_ ?_)); all_goals (try (intro (hg_ : _ = true); (try simp only [isNilI, inB, reduceCtorEq, cds] at hg_); (repeat' (first | exact True.intro | refine And.intro ?_ ?_)))); all_goals (first | exact ob1 | skip)))))
  refine ar_split (s := 0) rfl ?_ ?_
  · intro hn hc
    repeat' (refine ar_id ?_; first | refine st1 ?_ | (first | ((first | refine ar_region tt_ok (inps := []) rfl ?_ ?_); rotate_left; (try refine nrm ?_); rotate_right) | refine ret3 ?_ | refine end3 ?_) | (refine ar_cond rfl trivial ?_ ?_ <;> intro hc_ <;> (try simp only [isNilI, inB, reduceCtorEq, cds] at hc_) <;> (try (first | contradiction | (exfalso; omega)))) | refine ar_until (And.intro ?_ (wk3 ?_)))
    all_goals (first | refine ar_id ?_ | (try (focus ((try refine nrmO ?_); (repeat' (first | exact True.intro | refine And.intro ?_ ?_)); all_goals (try (intro (hg_ : _ = true); (try simp only [isNilI, inB, reduceCtorEq, cds] at hg_); (repeat' (first | exact True.intro | refine And.intro ?_ ?_)))); all_goals (first | exact ob1 | skip)))))
    refine ar_nil (s := 2) (T := 41) (q := 3) (r := 90000) rfl rfl ?_
    repeat' (refine ar_id ?_; first | refine st1 ?_ | (first | ((first | refine ar_region tt_ok (inps := []) rfl ?_ ?_); rotate_left; (try refine nrm ?_); rotate_right) | refine ret3 ?_ | refine end3 ?_) | (refine ar_cond rfl trivial ?_ ?_ <;> intro hc_ <;> (try simp only [isNilI, inB, reduceCtorEq, cds] at hc_) <;> (try (first | contradiction | (exfalso; omega)))) | refine ar_until (And.intro ?_ (wk3 ?_)))
    all_goals (first | refine ar_id ?_ | (try (focus ((try refine nrmO ?_); (repeat' (first | exact True.intro | refine And.intro ?_ ?_)); all_goals (try (intro (hg_ : _ = true); (try simp only [isNilI, inB, reduceCtorEq, cds] at hg_); (repeat' (first | exact True.intro | refine And.intro ?_ ?_)))); all_goals (first | exact ob1 | skip)))))
    rw [List.length_eq_zero_iff.1 hn]; rfl
  · intro ad cap hr
    repeat' (refine ar_id ?_; first | refine st1 ?_ | (first | ((first | refine ar_region tt_ok (inps := []) rfl ?_ ?_); rotate_left; (try refine nrm ?_); rotate_right) | refine ret3 ?_ | refine end3 ?_) | (refine ar_cond rfl trivial ?_ ?_ <;> intro hc_ <;> (try simp only [isNilI, inB, reduceCtorEq, cds] at hc_) <;> (try (first | contradiction | (exfalso; omega)))) | refine ar_until (And.intro ?_ (wk3 ?_)))
    all_goals (first | refine ar_id ?_ | (try (focus ((try refine nrmO ?_); (repeat' (first | exact True.intro | refine And.intro ?_ ?_)); all_goals (try (intro (hg_ : _ = true); (try simp only [isNilI, inB, reduceCtorEq, cds] at hg_); (repeat' (first | exact True.intro | refine And.intro ?_ ?_)))); all_goals (first | exact ob1 | skip)))))
    refine ar_read (s := 0) hr rfl ?_
    repeat' (refine ar_id ?_; first | refine st1 ?_ | (first | ((first | refine ar_region (id := 3) tt_ok (inps := [.elems (l.map eSpan)]) rfl ?_ ?_ | refine ar_region tt_ok (inps := []) rfl ?_ ?_); rotate_left; (try refine nrm ?_); rotate_right) | refine ret3 ?_ | refine end3 ?_) | (refine ar_cond rfl trivial ?_ ?_ <;> intro hc_ <;> (try simp only [isNilI, inB, reduceCtorEq, cds] at hc_) <;> (try (first | contradiction | (exfalso; omega)))) | refine ar_until (And.intro ?_ (wk3 ?_)))
    all_goals (first | refine ar_id ?_ | (try (focus ((try refine nrmO ?_); (repeat' (first | exact True.intro | refine And.intro ?_ ?_)); all_goals (try (intro (hg_ : _ = true); (try simp only [isNilI, inB, reduceCtorEq, cds] at hg_); (repeat' (first | exact True.intro | refine And.intro ?_ ?_)))); all_goals (first | exact ob1 | exact flat_map' l (fun x => ⟨rfl, rfl, rfl, rfl, trivial⟩) | exact (by simp only [lns]; omega) | exact (by simp) | skip)))))
def c_still (t : Tb) (k : GKernel) (ss : List GSpan) (l r : List GLate) : CFD := ⟨62, [.agg [ro 33 1 eIntS k.Machine.Frames.Cells, ro 4 1 Tr.eB k.Machine.Frames.Used, ro 47 2 eEntry k.Machine.Table.Entries, (CV.lit (.int .i64 (k.Calls))), ro 3 1 Tr.eI k.Refuse], .one (ro 41 3 eSpan ss), .one (ro 103 2 eLate l)], [], .sv (.one (.hd 0)), [(0, some (.row 103 2 (r.map eLate)))], [0], t.both⟩
set_option maxHeartbeats 2000000 in
theorem fn_still16 (t : Tb) (k : GKernel) (ss : List GSpan) (l r : List GLate) (hs : szK8 k) (hl : l.length ≤ 1048576) (h : pStill k ss l = r) : Fn Tryz.prog (c_still t k ss l r) := by
  have hpl : ∀ i, (pStill k ss (l.take i)).length ≤ i := fun i => by
    have := List.length_filter_le (fun x => decide (waits k ss x)) (l.take i)
    rw [List.length_take] at this
    exact Nat.le_trans this (by omega)
  refine fn_intro tt_ok Tryz.func62 rfl Tryz.call62 Tryz.ntmps62 Tryz.results62 rfl rfl rfl rfl ?_
  intro X ρ0 hb_ hgl_
  dsimp only [c_still]
  try refine nrm ?_
  repeat' (refine ar_id ?_; first | refine st1 ?_ | (first | ((first | refine ar_region tt_ok (inps := []) rfl ?_ ?_); rotate_left; (try refine nrm ?_); rotate_right) | refine ret3 ?_ | refine end3 ?_) | (refine ar_cond rfl trivial ?_ ?_ <;> intro hc_ <;> (try simp only [isNilI, inB, reduceCtorEq, cds] at hc_) <;> (try (first | contradiction | (exfalso; omega)))) | refine ar_until (And.intro ?_ (wk3 ?_)))
  all_goals (first | refine ar_id ?_ | (try (focus ((try refine nrmO ?_); (repeat' (first | exact True.intro | refine And.intro ?_ ?_)); all_goals (try (intro (hg_ : _ = true); (try simp only [isNilI, inB, reduceCtorEq, cds] at hg_); (repeat' (first | exact True.intro | refine And.intro ?_ ?_)))); all_goals (first | exact ob1 | skip)))))
  refine ar_nil (s := 7) (T := 103) (q := 2) (r := 90000) rfl rfl ?_
  repeat' (refine ar_id ?_; first | refine st1 ?_ | (first | ((first | refine ar_region tt_ok (inps := []) rfl ?_ ?_); rotate_left; (try refine nrm ?_); rotate_right) | refine ret3 ?_ | refine end3 ?_) | (refine ar_cond rfl trivial ?_ ?_ <;> intro hc_ <;> (try simp only [isNilI, inB, reduceCtorEq, cds] at hc_) <;> (try (first | contradiction | (exfalso; omega)))) | refine ar_until (And.intro ?_ (wk3 ?_)))
  all_goals (first | refine ar_id ?_ | (try (focus ((try refine nrmO ?_); (repeat' (first | exact True.intro | refine And.intro ?_ ?_)); all_goals (try (intro (hg_ : _ = true); (try simp only [isNilI, inB, reduceCtorEq, cds] at hg_); (repeat' (first | exact True.intro | refine And.intro ?_ ?_)))); all_goals (first | exact ob1 | skip)))))
  refine ar_keep 7887 (by dsimp only [keepS] <;> exact rfl) ?_
  refine ar_forM (l.length) (fun i => True) (fun i => [(12, (TV.sv (.one (.lit (.int .i64 (i)))))), (7, (TV.sv (.one (.hd 90000))))]) (fun i => [(90000, some (.row 103 2 ((pStill k ss (l.take i)).map eLate)))]) ?_ ?_ ?_
  rotate_left
  · first | trivial | simp
  (dsimp only [rnCap, capSVs, Int.toNat_natCast, ro, Nat.reduceAdd, Nat.reduceMul, Nat.zero_add, List.map, putT, app, wrapG, gOb, argT, keys, slotOf, dropped, gAnd, wB, rnT, rnS, rnC, rnCs, rnSs, rnM, rnB, rnN, rn, lk, St.over, ded, delL, keepT, menT, menSs, menS, menCs, menC, hasN, resT, SV.cells]; refine wk3 ?_; (focus ((try refine nrmO ?_); (repeat' (first | exact True.intro | refine And.intro ?_ ?_)); all_goals (try (intro (hg_ : _ = true); (try simp only [isNilI, inB, reduceCtorEq, cds] at hg_); (repeat' (first | exact True.intro | refine And.intro ?_ ?_)))); all_goals (first | exact ob1 | exact rfl | skip))))
  rotate_right
  intro i hi_ hiI_
  dsimp only [rnCap, capSVs, Int.toNat_natCast, ro, Nat.reduceAdd, Nat.reduceMul, Nat.zero_add, List.map, putT, app, wrapG, gOb, argT, keys, slotOf, dropped, gAnd, wB, rnT, rnS, rnC, rnCs, rnSs, rnM, rnB, rnN, rn, lk, St.over, ded, delL, keepT, menT, menSs, menS, menCs, menC, hasN, resT, SV.cells]
  have hpi := hpl i
  obtain ⟨x, hx⟩ : ∃ x, l.getD i noLt = x := ⟨_, rfl⟩
  by_cases hi : i < l.length
  · have hst := still_take k ss hi
    rw [hx] at hst
    have hel : Elem (D.cat (l.map eLate)) 2 l.length ((i : Int)).toNat (eLate x) := elem_map (fun _ => rfl) (show l[i]? = some x by rw [← hx]; exact getD_at hi)
    by_cases hin : isIn x ss.length
    · have hi1 := hin.1
      have hi2 := hin.2
      have hG : (decide (isIn x ss.length)) = true := decide_eq_true hin
      obtain ⟨e, he⟩ : ∃ e, frCode k (ss.getD x.Index.toNat noSp) x.Slot = e := ⟨_, rfl⟩
      have hcode := fn_code t k (ss.getD x.Index.toNat noSp) x.Slot e hs he
      have hes : Elem (D.cat (ss.map eSpan)) 3 ss.length (x.Index).toNat (eSpan (ss.getD x.Index.toNat noSp)) := elem_map (fun _ => rfl) (getD_at (by omega))
      by_cases h2 : e = 2
      · subst h2
        rw [if_pos ⟨hin, he⟩] at hst
        repeat' (refine ar_id ?_; first | refine st1 ?_ | (refine ar_drawS (id := 5) tt_ok (by kernel_rfl) [.call (c_isIn x ss), .elem (eSpan (ss.getD x.Index.toNat noSp)), .sure (c_code t k (ss.getD x.Index.toNat noSp) x.Slot 2)] ?_; refine ed_hide ?_; intro K_ hK_; repeat' (first | ((first | refine ed_call3 ?_ | refine ed_sure3 ?_ | refine ed_cons3 ?_); refine ed_hide ?_; intro K_ hK_; (try dsimp only [c_code, c_isIn]); (try refine nrmE ?_)) | (refine ed_nil ?_; (repeat subst hK_); dsimp only; refine Exists.intro _ (And.intro rfl (And.intro (by kernel_rfl) (And.intro ?_ ?_))); rotate_left; (try dsimp only [c_code, c_isIn]); (try refine nrm ?_); rotate_right))) | (first | ((first | refine ar_region (id := 4) tt_ok (inps := [.elem (eLate x)]) rfl ?_ ?_ | refine ar_region tt_ok (inps := []) rfl ?_ ?_); rotate_left; (try dsimp only [c_code, c_isIn]); (try refine nrm ?_); rotate_right) | refine ret3 ?_ | refine end3 ?_) | (refine ar_cond rfl trivial ?_ ?_ <;> intro hc_ <;> (try simp only [isNilI, inB, reduceCtorEq, cds] at hc_) <;> (try (first | contradiction | (exfalso; omega) | (exfalso; grind)))) | refine ar_until (And.intro ?_ (wk3 ?_)))
        all_goals (first | refine ar_id ?_ | (try (focus ((try refine nrmO ?_); (repeat' (first | exact True.intro | refine And.intro ?_ ?_)); all_goals (try (intro (hg_ : _ = true); (try simp only [isNilI, inB, reduceCtorEq, cds] at hg_); (repeat' (first | exact True.intro | refine And.intro ?_ ?_)))); all_goals (first | exact ob1 | exact hel | exact fn_isIn _ _ | exact hes | exact hcode | exact hG | exact hgl_.1 | exact hgl_.2.1 | exact hgl_.2.2.1 | exact hgl_.2.2.2.1 | exact hgl_.2.2.2.2.1 | exact hgl_.2.2.2.2.2.1 | exact hgl_.2.2.2.2.2.2.1 | exact hgl_.2.2.2.2.2.2.2.1 | exact hgl_ | exact rfl | exact one1 rfl | skip)))))
        all_goals first | (rw [hst, List.map_append, app_eq]; rfl) | trace_state
      · rw [if_neg (fun w => h2 (he.symm.trans w.2)), List.append_nil] at hst
        repeat' (refine ar_id ?_; first | refine st1 ?_ | (refine ar_drawS (id := 5) tt_ok (by kernel_rfl) [.call (c_isIn x ss), .elem (eSpan (ss.getD x.Index.toNat noSp)), .sure (c_code t k (ss.getD x.Index.toNat noSp) x.Slot e)] ?_; refine ed_hide ?_; intro K_ hK_; repeat' (first | ((first | refine ed_call3 ?_ | refine ed_sure3 ?_ | refine ed_cons3 ?_); refine ed_hide ?_; intro K_ hK_; (try dsimp only [c_code, c_isIn]); (try refine nrmE ?_)) | (refine ed_nil ?_; (repeat subst hK_); dsimp only; refine Exists.intro _ (And.intro rfl (And.intro (by kernel_rfl) (And.intro ?_ ?_))); rotate_left; (try dsimp only [c_code, c_isIn]); (try refine nrm ?_); rotate_right))) | (first | ((first | refine ar_region (id := 4) tt_ok (inps := [.elem (eLate x)]) rfl ?_ ?_ | refine ar_region tt_ok (inps := []) rfl ?_ ?_); rotate_left; (try dsimp only [c_code, c_isIn]); (try refine nrm ?_); rotate_right) | refine ret3 ?_ | refine end3 ?_) | (refine ar_cond rfl trivial ?_ ?_ <;> intro hc_ <;> (try simp only [isNilI, inB, reduceCtorEq, cds] at hc_) <;> (try (first | contradiction | (exfalso; omega) | (exfalso; grind)))) | refine ar_until (And.intro ?_ (wk3 ?_)))
        all_goals (first | refine ar_id ?_ | (try (focus ((try refine nrmO ?_); (repeat' (first | exact True.intro | refine And.intro ?_ ?_)); all_goals (try (intro (hg_ : _ = true); (try simp only [isNilI, inB, reduceCtorEq, cds] at hg_); (repeat' (first | exact True.intro | refine And.intro ?_ ?_)))); all_goals (first | exact ob1 | exact hel | exact fn_isIn _ _ | exact hes | exact hcode | exact hG | exact hgl_.1 | exact hgl_.2.1 | exact hgl_.2.2.1 | exact hgl_.2.2.2.1 | exact hgl_.2.2.2.2.1 | exact hgl_.2.2.2.2.2.1 | exact hgl_.2.2.2.2.2.2.1 | exact hgl_.2.2.2.2.2.2.2.1 | exact hgl_ | exact rfl | exact one1 rfl | skip)))))
        all_goals first | (rw [hst]; done) | trace_state
    · have hG : (decide (isIn x ss.length)) = false := decide_eq_false hin
      rw [if_neg (fun w => hin w.1), List.append_nil] at hst
      repeat' (refine ar_id ?_; first | refine st1 ?_ | (refine ar_drawS (id := 5) tt_ok (by kernel_rfl) [.call (c_isIn x ss), .elem (eSpan (ss.getD x.Index.toNat noSp)), .skip (SV.one (.lit (.int .i64 (0))))] ?_; refine ed_hide ?_; intro K_ hK_; repeat' (first | ((first | refine ed_call3 ?_ | refine ed_sure3 ?_ | refine ed_cons3 ?_); refine ed_hide ?_; intro K_ hK_; (try dsimp only [c_isIn]); (try refine nrmE ?_)) | (refine ed_nil ?_; (repeat subst hK_); dsimp only; refine Exists.intro _ (And.intro rfl (And.intro (by kernel_rfl) (And.intro ?_ ?_))); rotate_left; (try dsimp only [c_isIn]); (try refine nrm ?_); rotate_right))) | (first | ((first | refine ar_region (id := 4) tt_ok (inps := [.elem (eLate x)]) rfl ?_ ?_ | refine ar_region tt_ok (inps := []) rfl ?_ ?_); rotate_left; (try dsimp only [c_isIn]); (try refine nrm ?_); rotate_right) | refine ret3 ?_ | refine end3 ?_) | (refine ar_cond rfl trivial ?_ ?_ <;> intro hc_ <;> (try simp only [isNilI, inB, reduceCtorEq, cds] at hc_) <;> (try (first | contradiction | (exfalso; omega) | (exfalso; grind)))) | refine ar_until (And.intro ?_ (wk3 ?_)))
      all_goals (first | refine ar_id ?_ | (try (focus ((try refine nrmO ?_); (repeat' (first | exact True.intro | refine And.intro ?_ ?_)); all_goals (try (intro (hg_ : _ = true); (try simp only [isNilI, inB, reduceCtorEq, cds] at hg_); (repeat' (first | exact True.intro | refine And.intro ?_ ?_)))); all_goals (first | exact ob1 | exact hel | exact fn_isIn _ _ | exact hG | exact hG.symm | exact absurd hg_ hin | exact hgl_.1 | exact hgl_.2.1 | exact hgl_.2.2.1 | exact hgl_.2.2.2.1 | exact hgl_.2.2.2.2.1 | exact hgl_.2.2.2.2.2.1 | exact hgl_.2.2.2.2.2.2.1 | exact hgl_.2.2.2.2.2.2.2.1 | exact hgl_ | exact rfl | exact one1 rfl | skip)))))
      all_goals first | (rw [hst]; done) | trace_state
  · have hie : i = l.length := by omega
    subst hie
    repeat' (refine ar_id ?_; first | refine st1 ?_ | (first | ((first | refine ar_region tt_ok (inps := []) rfl ?_ ?_); rotate_left; (try refine nrm ?_); rotate_right) | refine ret3 ?_ | refine end3 ?_) | (refine ar_cond rfl trivial ?_ ?_ <;> intro hc_ <;> (try simp only [isNilI, inB, reduceCtorEq, cds] at hc_) <;> (try (first | contradiction | (exfalso; omega) | (exfalso; omega)))) | refine ar_until (And.intro ?_ (wk3 ?_)))
    all_goals (first | refine ar_id ?_ | (try (focus ((try refine nrmO ?_); (repeat' (first | exact True.intro | refine And.intro ?_ ?_)); all_goals (try (intro (hg_ : _ = true); (try simp only [isNilI, inB, reduceCtorEq, cds] at hg_); (repeat' (first | exact True.intro | refine And.intro ?_ ?_)))); all_goals (first | exact ob1 | skip)))))
    all_goals (rw [List.take_length, h])
end Eng
end Go.Proofs.YtgeakpeodhhffaaGreatDoor
namespace Go.Proofs.YtgeakpeodhhffaaGreatDoor
open Go Go.Conc
set_option linter.unusedVariables false
set_option linter.unusedSimpArgs false
namespace Co
section
variable {P : Program} {H Pt : Nat → Prop} {a : Act} {w : World}
theorem stepG_put_off {main : Bool} {b : Frame} {k : List Item} {cs : List Frame} {ops : Array Oper} {i : Nat} {rest : List Nat} {o : Oper} {d : Deferred} (ho : ops[i]? = some o) (hw : Region.wanted o (yielded ops a.tmps) = true) (hk : b.kind ≠ .early)
    (hr : (execOp a.eval o).run P w = .ok (.defer d) w) (he : (execOp a.eval o).events P w #[] = #[]) :
    stepG P main (G (b.at a (.inRegion ops (i :: rest) :: k)) cs) w = .go (G (b.at (Act.put ⟨a.tmps, d :: a.defers⟩ o.dst undef) (.inRegion ops rest :: k)) cs) w #[] := by
  have hfin : (b.at ⟨a.tmps, d :: a.defers⟩ (.inRegion ops (i :: rest) :: k)).finish undef = b.at (Act.put ⟨a.tmps, d :: a.defers⟩ o.dst undef) (.inRegion ops rest :: k) := by rw [Frame.finish_at, ho]; rfl
  have hk' : (b.kind == CallKind.early) = false := by simpa using hk
  rw [stepG_oper ho hw, ← hfin]
  simp [stepG.apply, hr, he, G, Frame.at, hk', GStep.after, seen_none]
theorem opK_defer {o : Oper} {d : Deferred} {K : Act → World → Prop} (h : ∀ w₁, Aside H w w₁ → (execOp a.eval o).run P w₁ = .ok (.defer d) w₁ ∧ (execOp a.eval o).events P w₁ #[] = #[] ∧ K (Act.put ⟨a.tmps, d :: a.defers⟩ o.dst undef) w₁) : OpK P H Pt o a w K := by
  intro M b ops i rest k cs hk ho hw hc
  refine M.step rfl fun w₁ h₁ => ?_
  obtain ⟨hr, he, hK⟩ := h w₁ (M.sub h₁)
  exact ⟨_, w₁, #[], stepG_put_off ho hw hk hr he, fun _ => Done.idle _ _, hc _ _ hK⟩
/-- a function that was put off, at its return -/
structure LeavesD (P : Program) (Rl : World → World → Prop) (fr : Frame) (w : World) (R : Ending → World → Prop) : Prop where
  mode : fr.mode = .returning
  defers : fr.defers = []
  kind : fr.kind = .deferred
  fn : ∃ fn, P.funcs[fr.fn]? = some fn ∧ ∀ w₁, Rl w w₁ → ∃ v, (results fn fr.tmps).run P w₁ = .ok v w₁ ∧ R (.returned v) w₁
/-- a call that was put off -/
def CallsD (P : Program) (H Pt : Nat → Prop) (f : FuncId) (args : Array Value) (w : World) (R : Ending → World → Prop) : Prop :=
  ∀ (M : Sys P H Pt) (cs : List Frame), (∀ fr w', fr.fn = f → LeavesD P M.Rl fr w' R → M.Run (G fr cs) w') → M.Run (G (Frame.enter P f args .deferred) cs) w
theorem CallsD.mono {f : FuncId} {args : Array Value} {R R' : Ending → World → Prop} (h : CallsD P H Pt f args w R) (hr : ∀ v w', R (.returned v) w' → R' (.returned v) w') : CallsD P H Pt f args w R' :=
  fun M cs hc => h M cs fun fr w' h1 h2 => hc fr w' h1 ⟨h2.mode, h2.defers, h2.kind, let ⟨fn, h3, h4⟩ := h2.fn; ⟨fn, h3, fun w₁ hw => let ⟨v, h5, h6⟩ := h4 w₁ hw; ⟨v, h5, hr _ _ h6⟩⟩⟩
theorem callsD_of {f : FuncId} {fn : Func} {c : Code} {args : Array Value} {R : Ending → World → Prop} (hf : P.funcs[f]? = some fn) (hb : fn.body = some c)
    (h : wpK P H Pt c (bodyK P H fn R) { tmps := args ++ Array.replicate (fn.ntmps - args.size) undef, defers := [] } w) : CallsD P H Pt f args w R := by
  intro M cs hc
  rw [enter_atD args hf hb]
  refine h M (baseD f) [] cs (by simp [baseD]) fun e a' w' q => ?_
  cases e with
  | normal => exact M.go rfl (fun _ => stepG_end) (hc _ _ rfl ⟨rfl, q.1, rfl, fn, hf, fun w₁ hw => q.2 w₁ (M.sub hw)⟩)
  | ret => exact fun todo => hc _ _ rfl ⟨rfl, q.1, rfl, fn, hf, fun w₁ hw => q.2 w₁ (M.sub hw)⟩
  | exit id => exact q.elim
  | goto l => exact q.elim
  | panic ch => exact q.elim
  | outgrown => exact q.elim
/-- at the end of the body: one call was put off; what it and the results come to -/
def DefK (P : Program) (H Pt : Nat → Prop) (fn : Func) (R : Ending → World → Prop) (a : Act) (w : World) : Prop :=
  ∃ (g : FuncId) (vs : Array Value), a.defers = [{ target := .fn (.func g) vs, args := #[] }] ∧ (∀ w₁, (callFunc g vs).run P w₁ = .ok (.enter g vs) w₁ ∧ (¬ Lone → (callFunc g vs).events P w₁ #[] = #[])) ∧
    ∀ w₁, Aside H w w₁ → CallsD P H Pt g vs w₁ (fun e w' => ∀ w₂, Aside H w' w₂ → ∃ v, (results fn a.tmps).run P w₂ = .ok v w₂ ∧ R (.returned v) w₂)
def bodyD (P : Program) (H Pt : Nat → Prop) (fn : Func) (R : Ending → World → Prop) : Exit → Act → World → Prop
  | .normal, a, w | .ret, a, w => DefK P H Pt fn R a w
  | _, _, _ => False
theorem callsK_ofD {f : FuncId} {fn : Func} {c : Code} {args : Array Value} {R : Ending → World → Prop} (hf : P.funcs[f]? = some fn) (hb : fn.body = some c)
    (h : wpK P H Pt c (bodyD P H Pt fn R) { tmps := args ++ Array.replicate (fn.ntmps - args.size) undef, defers := [] } w) : CallsK P H Pt f args w R := by
  intro M cs hc
  rw [enter_at args hf hb]
  have key : ∀ (a' : Act) (w' : World) (todo : List Item), DefK P H Pt fn R a' w' → M.Run (G { (base f).at a' todo with mode := .returning } cs) w' := by
    rintro a' w' todo ⟨g, vs, hd, hcall, hD⟩
    refine M.step rfl fun w₁ h₁ => ?_
    refine ⟨G (Frame.enter P g vs .deferred) ({ (base f).at ⟨a'.tmps, []⟩ todo with mode := .returning } :: cs), w₁, seen P f ((callFunc g vs).events P w₁ #[]), ?_, fun hl => ⟨fun _ _ => rfl, fun e he => ?_⟩, ?_⟩
    · simp [G, stepG, unwind, callDeferred, Frame.at, hd, invoke, (hcall w₁).1, Sem.runT_eq, GStep.after, base]
    · have := mem_seen he
      rw [(hcall w₁).2 hl] at this
      simp at this
    · refine hD w₁ (M.sub h₁) M _ fun fr w2 hfn hl => ?_
      refine M.step (show (G fr _).status = .running from rfl) fun w₃ h₃ => ?_
      obtain ⟨fn', hf', hr⟩ := hl.fn
      obtain ⟨v, h4, h5⟩ := hr w₃ h₃
      refine ⟨G { (base f).at ⟨a'.tmps, []⟩ todo with mode := .returning } cs, w₃, seen P fr.fn ((results fn' fr.tmps).events P w₃ #[]), ?_, fun _ => ⟨fun _ _ => rfl, fun e he => ?_⟩, ?_⟩
      · simp [G, stepG, unwind, doReturn, hl.mode, hl.defers, hl.kind, hf', h4, Sem.runT_eq, GStep.after, Frame.at]
      · have := (tame_run (Bk := fun _ => False) _ (tresults fn' fr.tmps) w₃ #[] (fun _ h => h.elim) v w₃ h4).1 e (mem_seen he)
        rcases this with h | h
        · simp at h
        · exact evK_P h (fun _ h => h.elim)
      · exact hc _ _ rfl ⟨rfl, rfl, rfl, fn, hf, fun w₄ h₄ => h5 w₄ (M.sub h₄)⟩
  refine h M (base f) [] cs (by simp [base]) fun e a' w' q => ?_
  cases e with
  | normal => exact M.go rfl (fun _ => stepG_end) (key a' w' [] q)
  | ret => exact fun todo => key a' w' todo q
  | exit id => exact q.elim
  | goto l => exact q.elim
  | panic ch => exact q.elim
  | outgrown => exact q.elim
end
end Co
namespace Eng
open Tr
/-- the contract of a function that is put off -/
structure FnD (P : Program) (c : CFD) : Prop where
  fn : ∀ (X : Cx) (ρ : Env) (xs : List Value), X.ds = [] → GlAll (GlX X) c.gl → MRel X ρ X.w0 c.pre → (∀ q y, ρ q = some y → q ∈ keys c.pre) → SsRel X ρ c.args xs → Co.CallsD P X.H X.Pt c.f xs.toArray X.w0 (CPost X ρ c)
  call : ∀ args w, (callFunc c.f args).run P w = .ok (.enter c.f args) w
  ev : ¬ Co.Lone → ∀ args w, (callFunc c.f args).events P w #[] = #[]
section
variable {P : Program} {tt : TT}
theorem fnd_intro (htt : TTok P tt) {c : CFD} {fn : Func} {code : Code} {n : Nat} {base : List Nat} {rs : List ResultVar} {t0 : TL} {m0 : ML} (hf : P.funcs[c.f]? = some fn) (hb : fn.body = some code) (hcall : ∀ args w, (callFunc c.f args).run P w = .ok (.enter c.f args) w) (hn0 : fn.ntmps = n) (hrs : fn.results = ⟨rs⟩) (hbase : keys c.pre = base) (hm0 : c.pre = m0) (ht0 : argT 0 c.args = t0) (hn : Nat.ble (lenL c.args) n = true)
    (h : ∀ (X : Cx) (ρ0 : Env) (hb : ∀ q y, ρ0 q = some y → q ∈ base), GlAll (GlX X) c.gl → AR P ⟨X, ρ0, base, n, hb⟩ (Fin tt rs c) [.code code] ⟨t0, m0, base⟩) : FnD P c := by
  subst hn0 hbase hm0 ht0
  obtain rfl : rs = fn.results.toList := by rw [hrs]
  refine ⟨fun X ρ xs hds hgl hM hk hx => Co.callsD_of hf hb (fn_wp htt hn h hds hgl hM hk hx), hcall, fun _ args w => by
    unfold callFunc
    simp only [Sem.events_bind, run_program, Result.evThen_ok, events_program, hf, hb, Option.isNone_some, Bool.false_eq_true, if_false]
    split <;> rfl⟩
/-- what is still to do, until Q -/
def kontQ (P : Program) (H Pt : Nat → Prop) (Q : Exit → Act → World → Prop) : List It → Exit → Act → World → Prop
  | [], e, a, w => Q e a w
  | .code c :: k, e, a, w => match e with
    | .normal => Co.wpK P H Pt c (kontQ P H Pt Q k) a w
    | e => kontQ P H Pt Q k e a w
  | .blk id :: k, e, a, w => match e with
    | .exit id' => if id' = id then kontQ P H Pt Q k .normal a w else kontQ P H Pt Q k (.exit id') a w
    | e => kontQ P H Pt Q k e a w
  | .scp :: k, e, a, w => match e with
    | .goto _ => False
    | e => kontQ P H Pt Q k e a w
  | .until _ :: _, _, _, _ => False
def AQ (P : Program) (F : Fr) (Q : Exit → Act → World → Prop) (k : List It) (σ : St) : Prop := ∀ a w, StRel F σ a w → kontQ P F.X.H F.X.Pt Q k .normal a w
variable {F : Fr} {Q : Exit → Act → World → Prop} {k : List It} {σ : St}
theorem aq_seq {x y : Code} (h : AQ P F Q (.code x :: .code y :: k) σ) : AQ P F Q (.code (.seq x y) :: k) σ := by
  intro a w hS
  refine Co.wpK_seq (Co.wpK_mono (h a w hS) ?_)
  intro e a' w' hq
  cases e <;> exact hq
/-- a piece by an ordinary walk: it ends in 'refine ar_until ?_' -/
theorem aq_cut {x : Code} (h : AR P F (fun _ => False) [.code x, .until (AQ P F Q k)] σ) : AQ P F Q (.code x :: k) σ := by
  intro a w hS
  refine Co.wpK_mono (h a w hS) ?_
  intro e a' w' hq
  cases e with
  | normal => obtain ⟨σ', h1, h2⟩ := hq; exact h1 a' w' h2
  | ret => obtain ⟨_, h1, _⟩ := hq; exact h1.elim
  | exit id => exact hq.elim
  | goto l => exact hq.elim
  | panic ch => exact hq.elim
  | outgrown => exact hq.elim
theorem aq_run {id : Nat} {ops : List Oper} {t : TL} {m : ML} {u : List Nat} (inps : List Inp) (h : AS P F (kontQ P F.X.H F.X.Pt Q k) ops ops inps t m u) : AQ P F Q (.code (.region id ⟨ops⟩ false) :: k) ⟨t, m, u⟩ :=
  fun a w hS => Co.wpK_region (h a w hS)
def noUntil : List It → Bool
  | [] => true
  | .until _ :: _ => false
  | _ :: k => noUntil k
theorem kont_Q {R : St → Prop} (hQ : ∀ a w, (∃ σ, R σ ∧ StRel F σ a w) → Q .ret a w ∧ Q .normal a w) : ∀ {k : List It}, noUntil k = true → ∀ {e : Exit} {a : Act} {w : World}, kont P F R k e a w → kontQ P F.X.H F.X.Pt Q k e a w
  | [], _, e, a, w, h => by
    cases e with
    | ret => exact (hQ a w h).1
    | normal => exact (hQ a w h).2
    | exit id => exact h.elim
    | goto l => exact h.elim
    | panic ch => exact h.elim
    | outgrown => exact h.elim
  | .code c :: k, hu, e, a, w, h => by
    cases e with
    | normal => exact Co.wpK_mono h fun e a w q => kont_Q hQ (k := k) hu q
    | exit id => exact kont_Q hQ (k := k) hu (e := .exit id) h
    | ret => exact kont_Q hQ (k := k) hu (e := .ret) h
    | goto l => exact kont_Q hQ (k := k) hu (e := .goto l) h
    | panic ch => exact kont_Q hQ (k := k) hu (e := .panic ch) h
    | outgrown => exact kont_Q hQ (k := k) hu (e := .outgrown) h
  | .blk id :: k, hu, e, a, w, h => by
    cases e with
    | exit id' =>
      change (if id' = id then kont P F R k .normal a w else kont P F R k (.exit id') a w) at h
      show if id' = id then kontQ P F.X.H F.X.Pt Q k .normal a w else kontQ P F.X.H F.X.Pt Q k (.exit id') a w
      by_cases e : id' = id
      · rw [if_pos e] at h ⊢; exact kont_Q hQ (k := k) hu h
      · rw [if_neg e] at h ⊢; exact kont_Q hQ (k := k) hu h
    | normal => exact kont_Q hQ (k := k) hu (e := .normal) h
    | ret => exact kont_Q hQ (k := k) hu (e := .ret) h
    | goto l => exact kont_Q hQ (k := k) hu (e := .goto l) h
    | panic ch => exact kont_Q hQ (k := k) hu (e := .panic ch) h
    | outgrown => exact kont_Q hQ (k := k) hu (e := .outgrown) h
  | .scp :: k, hu, e, a, w, h => by
    cases e with
    | goto l => exact h.elim
    | exit id => exact kont_Q hQ (k := k) hu (e := .exit id) h
    | normal => exact kont_Q hQ (k := k) hu (e := .normal) h
    | ret => exact kont_Q hQ (k := k) hu (e := .ret) h
    | panic ch => exact kont_Q hQ (k := k) hu (e := .panic ch) h
    | outgrown => exact kont_Q hQ (k := k) hu (e := .outgrown) h
  | .until G :: k, hu, _, _, _, _ => by cases hu
theorem aq_ar {R : St → Prop} (hu : noUntil k = true) (hQ : ∀ a w, (∃ σ, R σ ∧ StRel F σ a w) → Q .ret a w ∧ Q .normal a w) (h : AR P F R k σ) : AQ P F Q k σ := fun a w hS => kont_Q hQ hu (h a w hS)
/-- the same run, a call put off -/
def offX (X : Cx) (ds : List Deferred) : Cx := { X with ds := ds }
/-- the context from there on; the captured variables' values -/
structure Off (X X' : Cx) (ρ' : Env) (f : Nat) (caps : List (Option (Nat × Nat))) (vs : List Value) : Prop where
  eq : X' = offX X [{ target := .fn (.func f) vs.toArray, args := #[] }]
  caps : CapsRel ρ' caps vs
theorem off_reads (X : Cx) (ds : List Deferred) : Reads2 X (offX X ds) := ⟨fun _ _ h => h⟩
theorem off_back (X : Cx) (ds : List Deferred) : Reads2 (offX X ds) X := ⟨fun _ _ h => h⟩
theorem caps_off {bs : List Nat} {ρ : Env} : ∀ {l : List (Option (Nat × Nat))} {vs : List Value}, CapsRel ρ l vs → (∀ r j, some (r, j) ∈ l → r ∈ bs) → CapsRel (fun q => if q ∈ bs then ρ q else none) l vs
  | [], [], _, _ => trivial
  | none :: _, _ :: _, h, hb => ⟨h.1, caps_off h.2 (fun r j hm => hb r j (by simp [hm]))⟩
  | some (r, j) :: _, _ :: _, h, hb => by
    obtain ⟨⟨g, h1, h2⟩, h3⟩ := h
    exact ⟨⟨g, by show (if r ∈ bs then ρ r else none) = _; rw [if_pos (hb r j (by simp))]; exact h1, h2⟩, caps_off h3 (fun r j hm => hb r j (by simp [hm]))⟩
  | [], _ :: _, h, _ => h.elim
  | none :: _, [], h, _ => h.elim
  | some _ :: _, [], h, _ => h.elim
/-- THE CALL IS PUT OFF -/
theorem as_defer {all : List Oper} {o : Oper} {x f : Nat} {caps : List (Option (Nat × Nat))} {t : TL} {m : ML} {u bs : List Nat} {ty : Array TypeId} (ho : o.op = .defer { callee := .value (.tmp x), args := #[], argTypes := ty }) (hg : o.guard = none) (hd : o.dst = none) (hx : lk t x = some (.sv (.one (.fn f caps)))) (hds : F.X.ds = []) (hbs : ∀ q ∈ F.base, q ∈ bs) (hcb : ∀ r j, some (r, j) ∈ caps → r ∈ bs)
    (h : ∀ (X' : Cx) (ρ' : Env) (hb' : ∀ q y, ρ' q = some y → q ∈ bs) (vs : List Value), Off F.X X' ρ' f caps vs → Ext F.ρ0 ρ' → (∀ x, GlX F.X x → GlX X' x) → AQ P ⟨X', ρ', bs, F.n, hb'⟩ Q k ⟨t, m, u⟩) :
    AS P F (kontQ P F.X.H F.X.Pt Q k) all [o] [] t m u := by
  rintro a w ⟨ρ, hE, hA, hM, hU, hW⟩
  unfold Co.wpListK
  rw [if_pos (by simp [Region.wanted, hg])]
  obtain ⟨y, h1, vs, h2, h3⟩ := hA.at_ x _ hx
  have hev : a.eval (.tmp x) = .func (.func f) #[] vs := by
    show a.tmps.getD x undef = _
    simp [Array.getD_eq_getD_getElem?, h1, h2]
  refine Co.opK_defer (d := { target := .fn (.func f) vs, args := #[] }) fun w₁ h₁ => ⟨?_, ?_, ?_⟩
  · simp [execOp, ho, resolve, hev, Deferred.ofValue]
  · simp [execOp, ho, resolve, hev, Deferred.ofValue]
  · rw [hd]
    have hc : CapsRel (fun q => if q ∈ bs then ρ q else none) caps vs.toList := caps_off h3 hcb
    have hE' : Ext F.ρ0 (fun q => if q ∈ bs then ρ q else none) := fun q y hq => by
      show (if q ∈ bs then ρ q else none) = some y
      rw [if_pos (hbs q (F.hb q y hq))]; exact hE q y hq
    have hvs : vs.toList.toArray = vs := by rw [← Array.toList_inj]
    have := h (offX F.X [{ target := .fn (.func f) vs.toList.toArray, args := #[] }]) (fun q => if q ∈ bs then ρ q else none) (fun q y h => by
      by_cases e : q ∈ bs
      · exact e
      · simp [e] at h) vs.toList ⟨rfl, hc⟩ hE' (fun x hx => ⟨hx.at_, hx.fz, hx.nh⟩)
    rw [hvs] at this
    obtain ⟨B, hB⟩ := hM.aside h₁
    refine this _ _ ⟨ρ, fun q y hq => ?_, ⟨hA.size, ?_, fun s v hs => ?_⟩, ⟨B, fun r b hr => (hB.blk r b hr).mv (off_reads _ _), hB.nd, hB.nf, hB.dj⟩, hU, ?_⟩
    · have hq' : (if q ∈ bs then ρ q else none) = some y := hq
      by_cases e : q ∈ bs
      · rwa [if_pos e] at hq'
      · rw [if_neg e] at hq'; cases hq'
    · show _ :: a.defers = _
      rw [hA.defers, hds]; rfl
    · obtain ⟨x, k1, k2⟩ := hA.at_ s v hs
      exact ⟨x, k1, k2.mv (off_reads _ _)⟩
    · have := hW.aside h₁
      exact ⟨this.os, this.tape, this.output, this.size, this.frz⟩
def okD (P : Program) (X : Cx) : Ok := ⟨fun _ => True, GlX X, Mt P⟩
/-- the function's end: the call that was put off, then the results -/
def FinD (P : Program) (F : Fr) (tt : TT) (rs : List ResultVar) (c : CFD) (f : Nat) (caps : List (Option (Nat × Nat))) (σ : St) : Prop :=
  ∃ (cd : CFD) (s : Nat) (π : List (Nat × Nat)) (v : Option TV) (wr : ML) (al us : List Nat) (ob : List Prop), FnD P cd ∧ cd.f = f ∧ evCallG (okD P F.X) [] (capSVs caps) σ.m s none cd π = some ⟨v, wr, al, us, ob⟩ ∧ All ob ∧ disj al σ.u = true ∧ Fin tt rs c ⟨σ.t, app wr σ.m, app al σ.u⟩
end
section
variable {P : Program} {X : Cx} {ρ : Env} {w : World} {m : ML}
theorem callD {T : (Ending → World → Prop) → Prop} (hT : ∀ R R' : Ending → World → Prop, (∀ v w', R (.returned v) w' → R' (.returned v) w') → T R → T R') {ok : Ok} (hgl : ∀ x, ok.gl x → GlX X x) {s : Nat} {c : CFD} {vs : List SV} {o1 : List Prop} {π : List (Nat × Nat)} {xs : List Value} (hx : All o1 → SsRel X ρ vs xs) {e : Eff} (he : evCallG ok o1 vs m s none c π = some e) (hob : All e.ob) (hs : ∀ r ∈ e.al, ρ r = none) (hM : MRel X ρ w m) (hW : WRel X w)
    (hf : ∀ (Xc : Cx) (ρc : Env), Xc.w0 = w → Xc.H = X.H → Xc.Pt = X.Pt → Xc.ds = [] → GlAll (GlX Xc) c.gl → MRel Xc ρc Xc.w0 c.pre → (∀ q y, ρc q = some y → q ∈ keys c.pre) → SsRel Xc ρc c.args xs → T (CPost Xc ρc c)) :
    T (fun en w' => ∃ v ρ', en = .returned v ∧ (∀ tv, e.v = some tv → TRel X ρ' tv v) ∧ Ext ρ ρ' ∧ (∀ r y, ρ' r = some y → ρ r = some y ∨ r ∈ e.al) ∧ MRel X ρ' w' (app e.wr m) ∧ WRel X w') := by
  unfold evCallG at he
  split at he
  · rename_i o2 ros o3 h2 h3
    split at he
    · rename_i hn1 hin hd
      split at he
      · rename_i hro
        have hro' : ros = [] ∨ (noRoT c.res = true ∧ noRoM c.post = true) := by
          cases ros with
          | nil => exact .inl rfl
          | cons r l =>
            simp only [isNil] at hro
            split at hro
            · rename_i h1; exact .inr ⟨h1, hro⟩
            · cases hro
        obtain rfl := Option.some.inj he
        rw [All_app, All_app, All_app] at hob
        refine hT _ _ ?_ (call_coreT hT h2 hob.2.1 h3 hob.2.2.1 hn1 hin hd hro' hf (glAll_mono hgl hob.2.2.2.2.1) hs (hx hob.1) hM hW)
        rintro v w' ⟨v', ρn, e0, q1, q2, q3, q4, q5⟩
        exact ⟨v', ρn, e0, fun tv htv => by cases htv; exact q1, q2, q3, q4, q5⟩
      · cases he
    · cases he
  · cases he
end
section
variable {P : Program} {tt : TT}
/-- from the function's end to what its caller meets -/
theorem finD_ends (htt : TTok P tt) {c : CFD} {fn : Func} {X X' : Cx} {ρc ρ' : Env} {bs : List Nat} {n : Nat} {hb' : ∀ q y, ρ' q = some y → q ∈ bs} {rs : List ResultVar} {f : Nat} {caps : List (Option (Nat × Nat))} {vs : List Value} (hrs : fn.results = ⟨rs⟩) (hk : ∀ q y, ρc q = some y → q ∈ keys c.pre) (hds : X.ds = [])
    (ho : Off X X' ρ' f caps vs) (hE0 : Ext ρc ρ') {a : Act} {w : World}
    (h : ∃ σ, FinD P ⟨X', ρ', bs, n, hb'⟩ tt rs c f caps σ ∧ StRel ⟨X', ρ', bs, n, hb'⟩ σ a w) :
    Co.DefK P X.H X.Pt fn (CPost X ρc c) a w := by
  obtain ⟨rfl, hc⟩ := ho
  obtain rfl : rs = fn.results.toList := by rw [hrs]
  obtain ⟨σ, ⟨cd, s, π, v, wr, al, us, ob, hfd, rfl, hev, hob, hal, hfin⟩, ρ1, hE, hA, hM, hU, hW⟩ := h
  obtain ⟨π', rv, ob', k1, k2, k3, k4, k5, k6, k7, k8⟩ := hfin
  have hcaps : CapsRel ρ1 caps vs := hc.ext hE
  have hXs : WRel X w := ⟨hW.os, hW.tape, hW.output, hW.size, hW.frz⟩
  refine ⟨cd.f, vs.toArray, hA.defers, fun w₁ => ⟨hfd.call _ _, fun hl => hfd.ev hl _ _⟩, fun w₁ h₁ => ?_⟩
  have hfr : ∀ r ∈ al, ρ1 r = none := by
    intro r hr
    cases hq : ρ1 r with
    | none => rfl
    | some y => exact absurd (hU r y hq) (disj_sound hal r hr)
  have h := callD (T := fun R => Co.CallsD P X.H X.Pt cd.f vs.toArray w₁ R) (fun _ _ h hc => hc.mono h) (X := offX X [{ target := .fn (.func cd.f) vs.toArray, args := #[] }]) (ok := okD P (offX X [{ target := .fn (.func cd.f) vs.toArray, args := #[] }])) (fun x hx => hx) (xs := vs) (fun _ => capSVs_rel hcaps) hev hob hfr (hM.aside h₁) (hW.aside h₁) (fun Xc ρc' e1 e2 e3 e4 q1 q2 q3 q4 => by
    have := hfd.fn Xc ρc' vs e4 q1 q2 q3 q4
    rw [e1, e2, e3] at this
    exact this)
  refine h.mono ?_
  rintro v0 w' ⟨x, ρ2, _, _, q2, q3, q4, q5⟩ w₂ h₂
  have hA2 : ARel (offX X [{ target := .fn (.func cd.f) vs.toArray, args := #[] }]) ρ2 n σ.t a := hA.ext q2
  have hM2 := q4.aside h₂
  have hW2 := q5.aside h₂
  obtain ⟨x, g1, g2⟩ := results_sound htt hA2 hM2 k1 k2
  rw [k3] at g1
  have hM3 := unM hM2 k4 k6 k7
  obtain ⟨B, hB⟩ := hM3
  refine ⟨x, g2, x, under π' (app (keys c.pre) c.nm) ρ2, rfl, (unT g1 k5).mv (off_back X _), ?_, fun q y hq => ?_, ⟨B, fun r b hr => (hB.blk r b hr).mv (off_back X _), hB.nd, hB.nf, hB.dj⟩, ⟨hW2.os, hW2.tape, hW2.output, hW2.size, hW2.frz⟩⟩
  · intro q y hq
    have h1 := hk q y hq
    show (if q ∈ app (keys c.pre) c.nm then ρ2 (rn π' 0 q) else none) = some y
    rw [if_pos (by rw [app_eq, List.mem_append]; exact .inl h1), fixed_at k8 q h1]
    exact q2 q y (hE q y (hE0 q y hq))
  · have hq' : (if q ∈ app (keys c.pre) c.nm then ρ2 (rn π' 0 q) else none) = some y := hq
    by_cases e : q ∈ app (keys c.pre) c.nm
    · rw [app_eq, List.mem_append] at e; exact e
    · rw [if_neg e] at hq'; cases hq'
/-- A FUNCTION THAT PUTS A CALL OFF: its contract, out of its body -/
theorem fn_defers (htt : TTok P tt) {c : CFD} {fn : Func} {code : Code} {n : Nat} {base : List Nat} {t0 : TL} {m0 : ML} (hf : P.funcs[c.f]? = some fn) (hb : fn.body = some code) (hcall : ∀ args w, (callFunc c.f args).run P w = .ok (.enter c.f args) w) (hn0 : fn.ntmps = n) (hbase : keys c.pre = base) (hm0 : c.pre = m0) (ht0 : argT 0 c.args = t0) (hn : Nat.ble (lenL c.args) n = true)
    (h : ∀ (X : Cx) (ρ0 : Env) (hb : ∀ q y, ρ0 q = some y → q ∈ base), GlAll (GlX X) c.gl → X.ds = [] → AQ P ⟨X, ρ0, base, n, hb⟩ (Co.bodyD P X.H X.Pt fn (CPost X ρ0 c)) [.code code] ⟨t0, m0, base⟩) : Fn P c := by
  subst hn0 hbase hm0 ht0
  rw [lenL_eq] at hn
  refine ⟨fun X ρ xs hds hgl hM hk hx => Co.callsK_ofD hf hb ?_, hcall, fun _ args w => by
    unfold callFunc
    simp only [Sem.events_bind, run_program, Result.evThen_ok, events_program, hf, hb, Option.isNone_some, Bool.false_eq_true, if_false]
    split <;> rfl⟩
  have hlen := hx.len
  have hn' := Nat.le_of_ble_eq_true hn
  let F : Fr := ⟨X, ρ, keys c.pre, fn.ntmps, hk⟩
  have hS : StRel F ⟨argT 0 c.args, c.pre, keys c.pre⟩ { tmps := xs.toArray ++ Array.replicate (fn.ntmps - xs.toArray.size) undef, defers := [] } X.w0 := by
    refine ⟨ρ, Ext.refl ρ, ⟨?_, hds.symm, fun s v hs => ?_⟩, hM, hk, ⟨rfl, rfl, rfl, Nat.le_refl _, fun _ _ _ => rfl⟩⟩
    · show (xs.toArray ++ Array.replicate (fn.ntmps - xs.toArray.size) undef).size = fn.ntmps
      simp; omega
    · obtain ⟨x, _, h2, h3⟩ := argT_sound hx hs
      refine ⟨x, ?_, h3⟩
      rw [Nat.sub_zero] at h2
      have hsl : s < xs.length := by
        rcases Nat.lt_or_ge s xs.length with h | h
        · exact h
        · rw [List.getElem?_eq_none h] at h2; cases h2
      show (xs.toArray ++ Array.replicate (fn.ntmps - xs.toArray.size) undef)[s]? = some x
      rw [Array.getElem?_append_left (by simpa using hsl)]
      simpa using h2
  exact Co.wpK_mono (h X ρ hk hgl hds _ _ hS) fun e a w q => q
end
section
variable {P : Program} {F : Fr} {tt : TT} {rs : List ResultVar} {c cd : CFD} {k : List It} {σ : St} {f : Nat} {caps : List (Option (Nat × Nat))}
/-- the return of a function that has put a call off: that call's contract -/
theorem retd3 (s : Nat) {π : List (Nat × Nat)} {v : Option TV} {wr : ML} {al us : List Nat} {ob : List Prop} (hfd : FnD P cd) (ho : All ob) (hfin : Fin tt rs c ⟨σ.t, app wr σ.m, app al σ.u⟩) (hf : cd.f = f := by exact rfl) (hπ : mpM cd.pre σ.m (mpSs cd.args (capSVs caps) []) = π := by dsimp only [capSVs, mpCap, Nat.reduceAdd, Nat.reduceMul, Nat.zero_add, List.map, mpM, mpTL, mpO, mpB, lkO, mpT, mpSs, mpS, mpCs, mpC, mpN, lk, idN, keys, resT, ro] <;> exact rfl) (hev : evCallG (okD P F.X) [] (capSVs caps) σ.m s none cd π = some ⟨v, wr, al, us, ob⟩ := by exact rfl) (hal : disj al σ.u = true := by exact rfl) : AR P F (FinD P F tt rs c f caps) (.code .ret :: k) σ :=
  ar_ret ⟨cd, s, π, v, wr, al, us, ob, hfd, hf, hev, ho, hal, hfin⟩
theorem fin3 {vs : List SV} {π : List (Nat × Nat)} {ob o : List Prop} (ho : All (app ob o)) (h1 : resVs tt σ.t σ.m rs = some (vs, ob) := by exact rfl) (hπ : mpM c.post σ.m (mpT c.res (resT vs) (idN (keys c.pre))) = π := by dsimp only [mpCap, Nat.reduceAdd, Nat.reduceMul, Nat.zero_add, List.map, mpM, mpTL, mpO, mpB, lkO, mpT, mpSs, mpS, mpCs, mpC, mpN, lk, idN, keys, resT, ro] <;> exact rfl) (h2 : finOb c σ vs π = some o := by dsimp only [xCap, okCap, rnCap, Nat.reduceAdd, Nat.reduceMul, Nat.zero_add, List.map, wkOb, finOb, xTL, xM, xT, xSs, xS, xCs, xC, xB, okTL, okML, okT, okSs, okS, okCs, okC, okB, nodupN, rnN, allIn, fixed, rn, lk, hasN, app, SV.cells, ro, keys, resT] <;> exact rfl) : Fin tt rs c σ := fin_auto2 h1 hπ h2 ho
end
end Eng
end Go.Proofs.YtgeakpeodhhffaaGreatDoor
namespace Go.Proofs.YtgeakpeodhhffaaGreatDoor
open Go.RowKit
set_option linter.unusedVariables false
set_option linter.unusedSimpArgs false
set_option maxRecDepth 100000
namespace Eng
open Tr
/-- the function that is put off: the variables kernel, freed, list, waiting -/
def c_off (t : Tb) (k : GKernel) (ss : List GSpan) (l r : List GLate) : CFD := ⟨61, [.one (.box 500 0), .one (.box 510 0), .one (.box 520 0), .one (.box 530 0)],
  [(500, some (.box 35 [.hd 501, .hd 502, .hd 503, (CV.lit (.int .i64 (k.Calls))), .hd 504])), (501, some (.row 33 1 (k.Machine.Frames.Cells.map eIntS))), (502, some (.row 4 1 (k.Machine.Frames.Used.map Tr.eB))), (503, some (.row 47 2 (k.Machine.Table.Entries.map eEntry))), (504, some (.row 3 1 (k.Refuse.map Tr.eI))), (510, some (.box 36 [.hd 511])), (511, some (.row 41 3 (ss.map eSpan))), (520, some (.box 66 [ro 103 2 eLate l])), (530, some (.box 66 [.lit (.slice none 0 0)]))], .tup [],
  [(500, some (.box 35 [.hd 501, .hd 502, .hd 503, (CV.lit (.int .i64 (k.Calls))), .hd 504])), (501, some (.row 33 1 (k.Machine.Frames.Cells.map eIntS))), (502, some (.row 4 1 (k.Machine.Frames.Used.map Tr.eB))), (503, some (.row 47 2 (k.Machine.Table.Entries.map eEntry))), (504, some (.row 3 1 (k.Refuse.map Tr.eI))), (510, some (.box 36 [.hd 511])), (511, some (.row 41 3 (ss.map eSpan))), (520, some (.box 66 [ro 103 2 eLate l])), (530, some (.box 66 [.hd 540])), (540, some (.row 103 2 (r.map eLate)))], [540], t.both⟩
theorem fn_off (t : Tb) (k : GKernel) (ss : List GSpan) (l r : List GLate) (hs : szK8 k) (hl : l.length ≤ 1048576) (h : pStill k ss l = r) : FnD Tryz.prog (c_off t k ss l r) := by
  refine fnd_intro tt_ok Tryz.func61 rfl Tryz.call61 Tryz.ntmps61 Tryz.results61 rfl rfl rfl rfl ?_
  intro X ρ0 hb_ hgl_
  dsimp only [c_off]
  try refine nrm ?_
  repeat' (refine ar_id ?_; first | refine st1 ?_ | (first | ((first | refine ar_region (id := 0) tt_ok (inps := [.call (c_still t k ss l r)]) rfl ?_ ?_ | refine ar_region tt_ok (inps := []) rfl ?_ ?_); rotate_left; (try dsimp only [c_still]); (try refine nrm ?_); rotate_right) | refine ret3 ?_ | refine end3 ?_) | (refine ar_cond rfl trivial ?_ ?_ <;> intro hc_ <;> (try simp only [isNilI, inB, reduceCtorEq, cds] at hc_) <;> (try (first | contradiction | (exfalso; omega)))) | refine ar_until (And.intro ?_ (wk3 ?_)))
  all_goals (first | refine ar_id ?_ | (try (focus ((try refine nrmO ?_); (repeat' (first | exact True.intro | refine And.intro ?_ ?_)); all_goals (try (intro (hg_ : _ = true); (try simp only [isNilI, inB, reduceCtorEq, cds] at hg_); (repeat' (first | exact True.intro | refine And.intro ?_ ?_)))); all_goals (first | exact ob1 | exact fn_still16 _ _ _ _ _ hs hl h | exact hgl_.1 | exact hgl_.2.1 | exact hgl_.2.2.1 | exact hgl_.2.2.2.1 | exact hgl_.2.2.2.2.1 | exact hgl_.2.2.2.2.2.1 | exact hgl_.2.2.2.2.2.2.1 | exact hgl_.2.2.2.2.2.2.2.1 | exact hgl_ | exact rfl | exact one1 rfl | skip)))))
  all_goals trace_state
def c_LApI (t : Tb) (k : GKernel) (ss : List GSpan) (l : List GLate) (r : LSt) : CFD := ⟨24, [.agg [ro 33 1 eIntS k.Machine.Frames.Cells, ro 4 1 Tr.eB k.Machine.Frames.Used, ro 47 2 eEntry k.Machine.Table.Entries, (CV.lit (.int .i64 (k.Calls))), ro 3 1 Tr.eI k.Refuse], .one (ro 41 3 eSpan ss), .one (ro 103 2 eLate l)], [], .tup [.agg [.hd 0, .hd 1, .hd 2, (CV.lit (.int .i64 (r.k.Calls))), .hd 3], .one (.hd 4), .one (.hd 5)], [(0, some (.row 33 1 (r.k.Machine.Frames.Cells.map eIntS))), (1, some (.row 4 1 (r.k.Machine.Frames.Used.map Tr.eB))), (2, some (.row 47 2 (r.k.Machine.Table.Entries.map eEntry))), (3, some (.row 3 1 (r.k.Refuse.map Tr.eI))), (4, some (.row 41 3 (r.ss.map eSpan))), (5, some (.row 103 2 (r.w.map eLate)))], [0, 1, 2, 3, 4, 5], t.both⟩
set_option maxHeartbeats 4000000 in
theorem fn_LApI (t : Tb) (k : GKernel) (ss : List GSpan) (l : List GLate) (r : LSt) (hs : szK8 k) (hss : ss.length ≤ 1048576) (hl : l.length ≤ 1048576) (h : pLateApply k ss l = r) : Fn Tryz.prog (c_LApI t k ss l r) := by
  obtain ⟨T, hT⟩ : ∃ T : Nat → LSt, ∀ i, T i = lateRun ⟨k, ss, []⟩ (l.take i) := ⟨_, fun _ => rfl⟩
  have h0 : T 0 = ⟨k, ss, []⟩ := by rw [hT]; rfl
  have hN : T l.length = r := by rw [hT, List.take_length]; exact h
  have hsucc : ∀ i, i < l.length → T (i + 1) = lateStep (T i) (l.getD i noLt) := fun i hi => by rw [hT, hT]; exact lateRun_take _ hi
  have hinv : ∀ i, LInv k ss (T i) := fun i => by rw [hT]; exact linv_run _ (linv_start _ _ _)
  have hst : pStill r.k r.ss l = r.w := by rw [← h]; exact still_run k ss l
  have hsr := szK8_kept hs (hinv l.length).k
  rw [hN] at hsr
  have hoff := fn_off t r.k r.ss l r.w hsr hl hst
  clear hT
  refine fn_defers tt_ok Tryz.func24 rfl Tryz.call24 Tryz.ntmps24 rfl rfl rfl rfl ?_
  intro X ρ0 hb_ hgl_ hds_
  dsimp only [c_LApI]
  try refine nrm ?_
  refine aq_seq ?_
  refine aq_cut ?_
  repeat' (refine ar_id ?_; first | refine st1 ?_ | (first | ((first | refine ar_region tt_ok (inps := []) rfl ?_ ?_); rotate_left; (try refine nrm ?_); rotate_right) | refine ret3 ?_ | refine end3 ?_) | (refine ar_cond rfl trivial ?_ ?_ <;> intro hc_ <;> (try simp only [isNilI, inB, reduceCtorEq, cds] at hc_) <;> (try (first | contradiction | (exfalso; omega)))) | refine ar_until (And.intro ?_ (wk3 ?_)) | fail)
  all_goals (first | refine ar_id ?_ | (try (focus ((try refine nrmO ?_); (repeat' (first | exact True.intro | refine And.intro ?_ ?_)); all_goals (try (intro (hg_ : _ = true); (try simp only [isNilI, inB, reduceCtorEq, cds] at hg_); (repeat' (first | exact True.intro | refine And.intro ?_ ?_)))); all_goals (first | exact ob1 | skip)))))
  refine ar_until ?_
  refine aq_seq ?_
  refine aq_cut ?_
  repeat' (refine ar_id ?_; first | refine st1 ?_ | (first | ((first | refine ar_region (id := 1) tt_ok (inps := [.call (c_CopyKI k), .call (c_CloneSp ss)]) rfl ?_ ?_ | refine ar_region tt_ok (inps := []) rfl ?_ ?_); rotate_left; (try dsimp only [c_CloneSp, c_CopyKI]); (try refine nrm ?_); rotate_right) | refine ret3 ?_ | refine end3 ?_) | (refine ar_cond rfl trivial ?_ ?_ <;> intro hc_ <;> (try simp only [isNilI, inB, reduceCtorEq, cds] at hc_) <;> (try (first | contradiction | (exfalso; omega)))) | refine ar_until (And.intro ?_ (wk3 ?_)) | fail)
  all_goals (first | refine ar_id ?_ | (try (focus ((try refine nrmO ?_); (repeat' (first | exact True.intro | refine And.intro ?_ ?_)); all_goals (try (intro (hg_ : _ = true); (try simp only [isNilI, inB, reduceCtorEq, cds] at hg_); (repeat' (first | exact True.intro | refine And.intro ?_ ?_)))); all_goals (first | exact ob1 | exact fn_CopyKI _ (szK_from16 hs) | exact fn_CloneSp _ hss | exact hgl_.1 | exact hgl_.2.1 | exact hgl_.2.2.1 | exact hgl_.2.2.2.1 | exact hgl_.2.2.2.2.1 | exact hgl_.2.2.2.2.2.1 | exact hgl_.2.2.2.2.2.2.1 | exact hgl_.2.2.2.2.2.2.2.1 | exact hgl_ | exact rfl | exact one1 rfl | skip)))))
  refine ar_until ?_
  refine aq_seq ?_
  refine aq_run [] ?_
  refine as_cons3 tt_ok ?_ ?_
  · try refine nrm ?_
    refine as_defer (bs := [5, 6, 7, 8]) rfl rfl rfl rfl hds_ (fun q h => by cases h) (fun r j h => ?_) ?_
    · simp only [List.mem_cons, List.not_mem_nil, or_false, Option.some.injEq, Prod.mk.injEq] at h ⊢
      omega
    intro X' ρ' hb' vs ho_ hE_ hG_
    have hgl' := glAll_mono hG_ hgl_
    refine aq_ar (R := FinD Tryz.prog ⟨X', ρ', [5, 6, 7, 8], 45, hb'⟩ tt [.cell 6 35, .cell 7 36, .cell 8 66] (c_LApI t k ss l r) 61 _) rfl (fun a w hx => ⟨finD_ends tt_ok Tryz.results24 hb_ hds_ ho_ hE_ hx, finD_ends tt_ok Tryz.results24 hb_ hds_ ho_ hE_ hx⟩) ?_
    clear hgl_
    have hgl_ := hgl'
    repeat' (refine ar_id ?_; first | refine st1 ?_ | (first | ((first | refine ar_region tt_ok (inps := []) rfl ?_ ?_); rotate_left; (try refine nrm ?_); rotate_right) | refine ret3 ?_ | refine end3 ?_) | (refine ar_cond rfl trivial ?_ ?_ <;> intro hc_ <;> (try simp only [isNilI, inB, reduceCtorEq, cds] at hc_) <;> (try (first | contradiction | (exfalso; omega)))) | refine ar_until (And.intro ?_ (wk3 ?_)) | fail)
    all_goals (first | refine ar_id ?_ | (try (focus ((try refine nrmO ?_); (repeat' (first | exact True.intro | refine And.intro ?_ ?_)); all_goals (try (intro (hg_ : _ = true); (try simp only [isNilI, inB, reduceCtorEq, cds] at hg_); (repeat' (first | exact True.intro | refine And.intro ?_ ?_)))); all_goals (first | exact ob1 | exact hgl_.1 | exact hgl_.2.1 | exact hgl_.2.2.1 | exact hgl_.2.2.2.1 | exact hgl_.2.2.2.2.1 | exact hgl_.2.2.2.2.2.1 | exact hgl_.2.2.2.2.2.2.1 | exact hgl_.2.2.2.2.2.2.2.1 | exact hgl_ | exact rfl | exact one1 rfl | skip)))))
    unfold c_off at hoff
    refine ar_keep 460271 (by dsimp only [keepS] <;> exact rfl) ?_
    refine ar_forM (l.length) (fun i => True) (fun i => [(18, (TV.sv (.one (.lit (.int .i64 (i))))))]) (fun i => [(6, some (.box 35 [.hd 13000, .hd 13001, .hd 13002, (CV.lit (.int .i64 (((T i).k).Calls))), .hd 13003])), (13000, some (.row 33 1 (((T i).k).Machine.Frames.Cells.map eIntS))), (13001, some (.row 4 1 (((T i).k).Machine.Frames.Used.map Tr.eB))), (13002, some (.row 47 2 (((T i).k).Machine.Table.Entries.map eEntry))), (13003, some (.row 3 1 (((T i).k).Refuse.map Tr.eI))), (15000, some (.row 41 3 ((T i).ss.map eSpan)))]) ?_ ?_ ?_
    rotate_left
    · first | trivial | simp
    (dsimp only [rnCap, capSVs, Int.toNat_natCast, ro, Nat.reduceAdd, Nat.reduceMul, Nat.zero_add, List.map, putT, app, wrapG, gOb, argT, keys, slotOf, dropped, gAnd, wB, rnT, rnS, rnC, rnCs, rnSs, rnM, rnB, rnN, rn, lk, St.over, ded, delL, keepT, menT, menSs, menS, menCs, menC, hasN, resT, SV.cells]; refine wk3 ?_; (focus ((try refine nrmO ?_); (repeat' (first | exact True.intro | refine And.intro ?_ ?_)); all_goals (try (intro (hg_ : _ = true); (try simp only [isNilI, inB, reduceCtorEq, cds] at hg_); (repeat' (first | exact True.intro | refine And.intro ?_ ?_)))); all_goals (first | exact ob1 | exact rfl | skip))))
    rotate_right
    intro i hi_ hiI_
    dsimp only [rnCap, capSVs, Int.toNat_natCast, ro, Nat.reduceAdd, Nat.reduceMul, Nat.zero_add, List.map, putT, app, wrapG, gOb, argT, keys, slotOf, dropped, gAnd, wB, rnT, rnS, rnC, rnCs, rnSs, rnM, rnB, rnN, rn, lk, St.over, ded, delL, keepT, menT, menSs, menS, menCs, menC, hasN, resT, SV.cells]
    have hIi := hinv i
    have hsi := szK8_kept hs hIi.k
    have hni := hIi.n
    obtain ⟨x, hx⟩ : ∃ x, l.getD i noLt = x := ⟨_, rfl⟩
    by_cases hi : i < l.length
    · have hst := hsucc i hi
      rw [hx] at hst
      have hel : Elem (D.cat (l.map eLate)) 2 l.length ((i : Int)).toNat (eLate x) := elem_map (fun _ => rfl) (show l[i]? = some x by rw [← hx]; exact getD_at hi)
      by_cases hin : isIn x (T i).ss.length
      · obtain ⟨⟨k2, s2, e⟩, hr⟩ : ∃ r, pFreeSlot (T i).k ((T i).ss.getD x.Index.toNat noSp) x.Slot = r := ⟨_, rfl⟩
        unfold lateStep at hst
        rw [if_pos hin, hr] at hst
        have hes : ((T i).ss.map eSpan)[x.Index.toNat]? = some (eSpan ((T i).ss.getD x.Index.toNat noSp)) := map_at (by have := hin.1; have := hin.2; omega)
        have hk1 : (T (i + 1)).k = k2 := by rw [hst]
        have hs1 : (T (i + 1)).ss = (T i).ss.set x.Index.toNat s2 := by rw [hst]
        have hi1 := hin.1
        have hi2 := hin.2
        have hF := fn_FrI t _ _ _ _ _ _ hsi hr
        repeat' (refine ar_id ?_; first | refine st1 ?_ | (refine ar_drawS (id := 7) tt_ok (by kernel_rfl) [.elem (eSpan ((T i).ss.getD x.Index.toNat noSp)), .call (c_FrI t (T i).k ((T i).ss.getD x.Index.toNat noSp) x.Slot k2 s2 e), .elem (eSpan ((T i).ss.getD x.Index.toNat noSp))] ?_; refine ed_hide ?_; intro K_ hK_; repeat' (first | ((first | refine ed_call3 ?_ | refine ed_sure3 ?_ | refine ed_cons3 ?_); refine ed_hide ?_; intro K_ hK_; (try dsimp only [c_FrI, c_isIn]); (try refine nrmE ?_)) | (refine ed_nil ?_; (repeat subst hK_); dsimp only; refine Exists.intro _ (And.intro rfl (And.intro (by kernel_rfl) (And.intro ?_ ?_))); rotate_left; (try dsimp only [c_FrI, c_isIn]); (try refine nrm ?_); rotate_right))) | (first | ((first | refine ar_region (id := 5) tt_ok (inps := [.elem (eLate x)]) rfl ?_ ?_ | refine ar_region (id := 6) tt_ok (inps := [.call (c_isIn x (T i).ss)]) rfl ?_ ?_ | refine ar_region tt_ok (inps := []) rfl ?_ ?_); rotate_left; (try dsimp only [c_FrI, c_isIn]); (try refine nrm ?_); rotate_right) | refine ret3 ?_ | refine end3 ?_) | (refine ar_cond rfl trivial ?_ ?_ <;> intro hc_ <;> (try simp only [isNilI, inB, reduceCtorEq, cds] at hc_) <;> (try (first | contradiction | (exfalso; omega) | (exfalso; first | omega | (exact hc_ hin))))) | refine ar_until (And.intro ?_ (wk3 ?_)) | fail)
        all_goals (first | refine ar_id ?_ | (try (focus ((try refine nrmO ?_); (repeat' (first | exact True.intro | refine And.intro ?_ ?_)); all_goals (try (intro (hg_ : _ = true); (try simp only [isNilI, inB, reduceCtorEq, cds] at hg_); (repeat' (first | exact True.intro | refine And.intro ?_ ?_)))); all_goals (first | exact ob1 | exact hel | exact fn_isIn _ _ | exact hes | exact hF | exact hgl_.1 | exact hgl_.2.1 | exact hgl_.2.2.1 | exact hgl_.2.2.2.1 | exact hgl_.2.2.2.2.1 | exact hgl_.2.2.2.2.2.1 | exact hgl_.2.2.2.2.2.2.1 | exact hgl_.2.2.2.2.2.2.2.1 | exact hgl_ | exact rfl | exact one1 rfl | skip)))))
        all_goals first | (rw [hk1]; done) | (rw [hs1, List.map_set]; rfl) | trace_state
      · unfold lateStep at hst
        rw [if_neg hin] at hst
        repeat' (refine ar_id ?_; first | refine st1 ?_ | (first | ((first | refine ar_region (id := 5) tt_ok (inps := [.elem (eLate x)]) rfl ?_ ?_ | refine ar_region (id := 6) tt_ok (inps := [.call (c_isIn x (T i).ss)]) rfl ?_ ?_ | refine ar_region tt_ok (inps := []) rfl ?_ ?_); rotate_left; (try dsimp only [c_isIn]); (try refine nrm ?_); rotate_right) | refine ret3 ?_ | refine end3 ?_) | (refine ar_cond rfl trivial ?_ ?_ <;> intro hc_ <;> (try simp only [isNilI, inB, reduceCtorEq, cds] at hc_) <;> (try (first | contradiction | (exfalso; omega) | (exfalso; first | omega | (exact hin hc_))))) | refine ar_until (And.intro ?_ (wk3 ?_)) | fail)
        all_goals (first | refine ar_id ?_ | (try (focus ((try refine nrmO ?_); (repeat' (first | exact True.intro | refine And.intro ?_ ?_)); all_goals (try (intro (hg_ : _ = true); (try simp only [isNilI, inB, reduceCtorEq, cds] at hg_); (repeat' (first | exact True.intro | refine And.intro ?_ ?_)))); all_goals (first | exact ob1 | exact hel | exact fn_isIn _ _ | exact hgl_.1 | exact hgl_.2.1 | exact hgl_.2.2.1 | exact hgl_.2.2.2.1 | exact hgl_.2.2.2.2.1 | exact hgl_.2.2.2.2.2.1 | exact hgl_.2.2.2.2.2.2.1 | exact hgl_.2.2.2.2.2.2.2.1 | exact hgl_ | exact rfl | exact one1 rfl | skip)))))
        all_goals first | (rw [hst]; done) | trace_state
    · have hie : i = l.length := by omega
      subst hie
      rw [hN]
      repeat' (refine ar_id ?_; first | refine st1 ?_ | (refine ar_drawS (id := 9) tt_ok (by kernel_rfl) [] ?_; refine ed_hide ?_; intro K_ hK_; repeat' (first | ((first | refine ed_call3 ?_ | refine ed_sure3 ?_ | refine ed_cons3 ?_); refine ed_hide ?_; intro K_ hK_; (try refine nrmE ?_)) | (refine ed_nil ?_; (repeat subst hK_); dsimp only; refine Exists.intro _ (And.intro rfl (And.intro (by kernel_rfl) (And.intro ?_ ?_))); rotate_left; (try refine nrm ?_); rotate_right))) | (first | ((first | refine ar_region tt_ok (inps := []) rfl ?_ ?_); rotate_left; (try refine nrm ?_); rotate_right) | refine ret3 ?_ | refine end3 ?_) | (refine ar_cond rfl trivial ?_ ?_ <;> intro hc_ <;> (try simp only [isNilI, inB, reduceCtorEq, cds] at hc_) <;> (try (first | contradiction | (exfalso; omega) | (exfalso; omega)))) | refine ar_until (And.intro ?_ (wk3 ?_)) | fail)
      all_goals (first | refine ar_id ?_ | (try (focus ((try refine nrmO ?_); (repeat' (first | exact True.intro | refine And.intro ?_ ?_)); all_goals (try (intro (hg_ : _ = true); (try simp only [isNilI, inB, reduceCtorEq, cds] at hg_); (repeat' (first | exact True.intro | refine And.intro ?_ ?_)))); all_goals (first | exact ob1 | exact hgl_.1 | exact hgl_.2.1 | exact hgl_.2.2.1 | exact hgl_.2.2.2.1 | exact hgl_.2.2.2.2.1 | exact hgl_.2.2.2.2.2.1 | exact hgl_.2.2.2.2.2.2.1 | exact hgl_.2.2.2.2.2.2.2.1 | exact hgl_ | exact rfl | exact one1 rfl | skip)))))
      refine retd3 60 hoff ?_ ?_
      · dsimp only [okD]
        all_goals (try (focus ((try refine nrmO ?_); (repeat' (first | exact True.intro | refine And.intro ?_ ?_)); all_goals (try (intro (hg_ : _ = true); (try simp only [isNilI, inB, reduceCtorEq, cds] at hg_); (repeat' (first | exact True.intro | refine And.intro ?_ ?_)))); all_goals (first | exact ob1 | exact hgl_.1 | exact hgl_.2.1 | exact hgl_.2.2.1 | exact hgl_.2.2.2.1 | exact hgl_.2.2.2.2.1 | exact hgl_.2.2.2.2.2.1 | exact hgl_.2.2.2.2.2.2.1 | exact hgl_.2.2.2.2.2.2.2.1 | exact hgl_ | exact rfl | exact one1 rfl | skip))))
        all_goals trace_state
      · try refine nrm ?_
        refine fin3 ?_
        all_goals (try (focus ((try refine nrmO ?_); (repeat' (first | exact True.intro | refine And.intro ?_ ?_)); all_goals (try (intro (hg_ : _ = true); (try simp only [isNilI, inB, reduceCtorEq, cds] at hg_); (repeat' (first | exact True.intro | refine And.intro ?_ ?_)))); all_goals (first | exact ob1 | skip))))
        all_goals trace_state
    all_goals first | (rw [h0] <;> rfl) | trace_state
  all_goals exact ⟨⟩
end Eng
end Go.Proofs.YtgeakpeodhhffaaGreatDoor
namespace Go.Proofs.YtgeakpeodhhffaaGreatDoor
open Go.RowKit Go.ChangeShapes Go.WideShapes
namespace Tr
section
variable {H : Type} {enc : TypeId × Value → H} {w : World} {base : Nat} {spare : Nat → Bool} {held : Bool}
def okBoolS (l : List Bool) : Prop := ∀ x ∈ l, (fun _ => True) x
theorem opens_BoolS : Opens enc Tryz.prog w base spare held 25 eBoolS okBoolS := opens_slice Tryz.underlying25 (by kernel_rfl) (fun _ => rfl) (opens_bool Tryz.underlying4)
def okEntry (x : GEntry) : Prop := okI x.Mode ∧ okI x.Frame
theorem cells_Entry : Tryz.prog.cellsOf 194 = 2 := by kernel_rfl
set_option maxRecDepth 100000 in
theorem opens_Entry : Opens enc Tryz.prog w base spare held 194 eEntry okEntry := by
  intro fuel cs x h
  obtain ⟨ys, n, _, _, hl, hyl, hf⟩ := DataW.trod_struct Tryz.underlying194 h
  rw [cells_Entry] at hl
  match cs, hl, ys, hyl with
  | [c0, c1], _, [y0, y1], _ =>
  have h0 : DataW.trod enc Tryz.prog w base spare held n 3 ([c0, c1].drop 0 |>.take (Tryz.prog.cellsOf 3)) = some y0 := hf 0 _ rfl
  rw [show Tryz.prog.cellsOf 3 = 1 by kernel_rfl] at h0
  obtain ⟨a0, r0, k0⟩ := (opens_int Tryz.underlying3) _ _ _ h0
  have h1 : DataW.trod enc Tryz.prog w base spare held n 3 ([c0, c1].drop 1 |>.take (Tryz.prog.cellsOf 3)) = some y1 := hf 1 _ rfl
  rw [show Tryz.prog.cellsOf 3 = 1 by kernel_rfl] at h1
  obtain ⟨a1, r1, k1⟩ := (opens_int Tryz.underlying3) _ _ _ h1
  refine ⟨⟨a0, a1⟩, ?_, ⟨k0, k1⟩⟩
  exact (raw_app _ _).2 ⟨[c0], [c1], rfl, r0, r1⟩
def okEntryS (l : List GEntry) : Prop := ∀ x ∈ l, okEntry x
theorem opens_EntryS : Opens enc Tryz.prog w base spare held 54 eEntryS okEntryS := opens_slice Tryz.underlying54 (by kernel_rfl) (fun _ => rfl) opens_Entry
def okIntS (l : List Int) : Prop := ∀ x ∈ l, okI x
theorem opens_IntS : Opens enc Tryz.prog w base spare held 33 eIntS okIntS := opens_slice Tryz.underlying33 (by kernel_rfl) (fun _ => rfl) (opens_int Tryz.underlying3)
def okIntSS (l : List (List Int)) : Prop := ∀ x ∈ l, okIntS x
theorem opens_IntSS : Opens enc Tryz.prog w base spare held 24 eIntSS okIntSS := opens_slice Tryz.underlying24 (by kernel_rfl) (fun _ => rfl) opens_IntS
def okFrames (x : GFrames) : Prop := okIntSS x.Cells ∧ okBoolS x.Used
theorem cells_Frames : Tryz.prog.cellsOf 53 = 2 := by kernel_rfl
set_option maxRecDepth 100000 in
theorem opens_Frames : Opens enc Tryz.prog w base spare held 53 eFrames okFrames := by
  intro fuel cs x h
  obtain ⟨ys, n, _, _, hl, hyl, hf⟩ := DataW.trod_struct Tryz.underlying53 h
  rw [cells_Frames] at hl
  match cs, hl, ys, hyl with
  | [c0, c1], _, [y0, y1], _ =>
  have h0 : DataW.trod enc Tryz.prog w base spare held n 24 ([c0, c1].drop 0 |>.take (Tryz.prog.cellsOf 24)) = some y0 := hf 0 _ rfl
  rw [show Tryz.prog.cellsOf 24 = 1 by kernel_rfl] at h0
  obtain ⟨a0, r0, k0⟩ := opens_IntSS _ _ _ h0
  have h1 : DataW.trod enc Tryz.prog w base spare held n 25 ([c0, c1].drop 1 |>.take (Tryz.prog.cellsOf 25)) = some y1 := hf 1 _ rfl
  rw [show Tryz.prog.cellsOf 25 = 1 by kernel_rfl] at h1
  obtain ⟨a1, r1, k1⟩ := opens_BoolS _ _ _ h1
  refine ⟨⟨a0, a1⟩, ?_, ⟨k0, k1⟩⟩
  exact (raw_app _ _).2 ⟨[c0], [c1], rfl, r0, r1⟩
def okTable (x : GTable) : Prop := okEntryS x.Entries
theorem cells_Table : Tryz.prog.cellsOf 56 = 1 := by kernel_rfl
set_option maxRecDepth 100000 in
theorem opens_Table : Opens enc Tryz.prog w base spare held 56 eTable okTable := by
  intro fuel cs x h
  obtain ⟨ys, n, _, _, hl, hyl, hf⟩ := DataW.trod_struct Tryz.underlying56 h
  rw [cells_Table] at hl
  match cs, hl, ys, hyl with
  | [c0], _, [y0], _ =>
  have h0 : DataW.trod enc Tryz.prog w base spare held n 54 ([c0].drop 0 |>.take (Tryz.prog.cellsOf 54)) = some y0 := hf 0 _ rfl
  rw [show Tryz.prog.cellsOf 54 = 1 by kernel_rfl] at h0
  obtain ⟨a0, r0, k0⟩ := opens_EntryS _ _ _ h0
  refine ⟨⟨a0⟩, ?_, k0⟩
  exact r0
def okMachine (x : GMachine) : Prop := okFrames x.Frames ∧ okTable x.Table
theorem cells_Machine : Tryz.prog.cellsOf 58 = 3 := by kernel_rfl
set_option maxRecDepth 100000 in
theorem opens_Machine : Opens enc Tryz.prog w base spare held 58 eMachine okMachine := by
  intro fuel cs x h
  obtain ⟨ys, n, _, _, hl, hyl, hf⟩ := DataW.trod_struct Tryz.underlying58 h
  rw [cells_Machine] at hl
  match cs, hl, ys, hyl with
  | [c0, c1, c2], _, [y0, y1], _ =>
  have h0 : DataW.trod enc Tryz.prog w base spare held n 53 ([c0, c1, c2].drop 0 |>.take (Tryz.prog.cellsOf 53)) = some y0 := hf 0 _ rfl
  rw [show Tryz.prog.cellsOf 53 = 2 by kernel_rfl] at h0
  obtain ⟨a0, r0, k0⟩ := opens_Frames _ _ _ h0
  have h1 : DataW.trod enc Tryz.prog w base spare held n 56 ([c0, c1, c2].drop 2 |>.take (Tryz.prog.cellsOf 56)) = some y1 := hf 1 _ rfl
  rw [show Tryz.prog.cellsOf 56 = 1 by kernel_rfl] at h1
  obtain ⟨a1, r1, k1⟩ := opens_Table _ _ _ h1
  refine ⟨⟨a0, a1⟩, ?_, ⟨k0, k1⟩⟩
  exact (raw_app _ _).2 ⟨[c0, c1], [c2], rfl, r0, r1⟩
def okKernel (x : GKernel) : Prop := okMachine x.Machine ∧ okI x.Calls ∧ okIntS x.Refuse
theorem cells_Kernel : Tryz.prog.cellsOf 60 = 5 := by kernel_rfl
set_option maxRecDepth 100000 in
theorem opens_Kernel : Opens enc Tryz.prog w base spare held 60 eKernel okKernel := by
  intro fuel cs x h
  obtain ⟨ys, n, _, _, hl, hyl, hf⟩ := DataW.trod_struct Tryz.underlying60 h
  rw [cells_Kernel] at hl
  match cs, hl, ys, hyl with
  | [c0, c1, c2, c3, c4], _, [y0, y1, y2], _ =>
  have h0 : DataW.trod enc Tryz.prog w base spare held n 58 ([c0, c1, c2, c3, c4].drop 0 |>.take (Tryz.prog.cellsOf 58)) = some y0 := hf 0 _ rfl
  rw [show Tryz.prog.cellsOf 58 = 3 by kernel_rfl] at h0
  obtain ⟨a0, r0, k0⟩ := opens_Machine _ _ _ h0
  have h1 : DataW.trod enc Tryz.prog w base spare held n 3 ([c0, c1, c2, c3, c4].drop 3 |>.take (Tryz.prog.cellsOf 3)) = some y1 := hf 1 _ rfl
  rw [show Tryz.prog.cellsOf 3 = 1 by kernel_rfl] at h1
  obtain ⟨a1, r1, k1⟩ := (opens_int Tryz.underlying3) _ _ _ h1
  have h2 : DataW.trod enc Tryz.prog w base spare held n 33 ([c0, c1, c2, c3, c4].drop 4 |>.take (Tryz.prog.cellsOf 33)) = some y2 := hf 2 _ rfl
  rw [show Tryz.prog.cellsOf 33 = 1 by kernel_rfl] at h2
  obtain ⟨a2, r2, k2⟩ := opens_IntS _ _ _ h2
  refine ⟨⟨a0, a1, a2⟩, ?_, ⟨k0, k1, k2⟩⟩
  exact (raw_app _ _).2 ⟨[c0, c1, c2], [c3, c4], rfl, r0, (raw_app _ _).2 ⟨[c3], [c4], rfl, r1, r2⟩⟩
def okLate (x : GLate) : Prop := okI x.Index ∧ okI x.Slot
theorem cells_Late : Tryz.prog.cellsOf 112 = 2 := by kernel_rfl
set_option maxRecDepth 100000 in
theorem opens_Late : Opens enc Tryz.prog w base spare held 112 eLate okLate := by
  intro fuel cs x h
  obtain ⟨ys, n, _, _, hl, hyl, hf⟩ := DataW.trod_struct Tryz.underlying112 h
  rw [cells_Late] at hl
  match cs, hl, ys, hyl with
  | [c0, c1], _, [y0, y1], _ =>
  have h0 : DataW.trod enc Tryz.prog w base spare held n 3 ([c0, c1].drop 0 |>.take (Tryz.prog.cellsOf 3)) = some y0 := hf 0 _ rfl
  rw [show Tryz.prog.cellsOf 3 = 1 by kernel_rfl] at h0
  obtain ⟨a0, r0, k0⟩ := (opens_int Tryz.underlying3) _ _ _ h0
  have h1 : DataW.trod enc Tryz.prog w base spare held n 3 ([c0, c1].drop 1 |>.take (Tryz.prog.cellsOf 3)) = some y1 := hf 1 _ rfl
  rw [show Tryz.prog.cellsOf 3 = 1 by kernel_rfl] at h1
  obtain ⟨a1, r1, k1⟩ := (opens_int Tryz.underlying3) _ _ _ h1
  refine ⟨⟨a0, a1⟩, ?_, ⟨k0, k1⟩⟩
  exact (raw_app _ _).2 ⟨[c0], [c1], rfl, r0, r1⟩
def okLateS (l : List GLate) : Prop := ∀ x ∈ l, okLate x
theorem opens_LateS : Opens enc Tryz.prog w base spare held 62 eLateS okLateS := opens_slice Tryz.underlying62 (by kernel_rfl) (fun _ => rfl) opens_Late
def okSpan (x : GSpan) : Prop := okI x.Page ∧ okI x.Class ∧ okI x.Bits
theorem cells_Span : Tryz.prog.cellsOf 110 = 3 := by kernel_rfl
set_option maxRecDepth 100000 in
theorem opens_Span : Opens enc Tryz.prog w base spare held 110 eSpan okSpan := by
  intro fuel cs x h
  obtain ⟨ys, n, _, _, hl, hyl, hf⟩ := DataW.trod_struct Tryz.underlying110 h
  rw [cells_Span] at hl
  match cs, hl, ys, hyl with
  | [c0, c1, c2], _, [y0, y1, y2], _ =>
  have h0 : DataW.trod enc Tryz.prog w base spare held n 3 ([c0, c1, c2].drop 0 |>.take (Tryz.prog.cellsOf 3)) = some y0 := hf 0 _ rfl
  rw [show Tryz.prog.cellsOf 3 = 1 by kernel_rfl] at h0
  obtain ⟨a0, r0, k0⟩ := (opens_int Tryz.underlying3) _ _ _ h0
  have h1 : DataW.trod enc Tryz.prog w base spare held n 3 ([c0, c1, c2].drop 1 |>.take (Tryz.prog.cellsOf 3)) = some y1 := hf 1 _ rfl
  rw [show Tryz.prog.cellsOf 3 = 1 by kernel_rfl] at h1
  obtain ⟨a1, r1, k1⟩ := (opens_int Tryz.underlying3) _ _ _ h1
  have h2 : DataW.trod enc Tryz.prog w base spare held n 3 ([c0, c1, c2].drop 2 |>.take (Tryz.prog.cellsOf 3)) = some y2 := hf 2 _ rfl
  rw [show Tryz.prog.cellsOf 3 = 1 by kernel_rfl] at h2
  obtain ⟨a2, r2, k2⟩ := (opens_int Tryz.underlying3) _ _ _ h2
  refine ⟨⟨a0, a1, a2⟩, ?_, ⟨k0, k1, k2⟩⟩
  exact (raw_app _ _).2 ⟨[c0], [c1, c2], rfl, r0, (raw_app _ _).2 ⟨[c1], [c2], rfl, r1, r2⟩⟩
def okSpanS (l : List GSpan) : Prop := ∀ x ∈ l, okSpan x
theorem opens_SpanS : Opens enc Tryz.prog w base spare held 61 eSpanS okSpanS := opens_slice Tryz.underlying61 (by kernel_rfl) (fun _ => rfl) opens_Span
end
end Tr
end Go.Proofs.YtgeakpeodhhffaaGreatDoor
namespace Go.Proofs.YtgeakpeodhhffaaGreatDoor
open Go.RowKit
set_option linter.unusedVariables false
set_option linter.unusedSimpArgs false
namespace Eng
open Tr
theorem rarg_K {w : World} {x : GKernel} {c0 c1 c2 c4 : Value} (h : Raw w (eKernel x) [c0, c1, c2, .int .i64 x.Calls, c4]) : SRel (cxOf w) noEnv (.agg [ro 33 1 eIntS x.Machine.Frames.Cells, ro 4 1 Tr.eB x.Machine.Frames.Used, ro 194 2 eEntry x.Machine.Table.Entries, (CV.lit (.int .i64 (x.Calls))), ro 3 1 Tr.eI x.Refuse]) (.agg #[c0, c1, c2, .int .i64 x.Calls, c4]) ∧ mxK x := by
  have h0 := raw_head h
  have h1 := raw_head h0.2
  have h2 := raw_head h1.2
  have h3 := raw_tail h2.2
  have h4 := raw_head h3
  exact ⟨⟨_, rfl, raw_ro (by decide) (fun _ => kpos_row (by decide) (fun _ => trivial)) h0.1, raw_ro (by decide) (fun _ => trivial) h1.1, raw_ro (by decide) (fun _ => trivial) h2.1, raw_lit rfl, raw_ro (by decide) (fun _ => trivial) h4.1, trivial⟩,
    ⟨⟨⟨⟨raw_max h0.1, raw_max2 h0.1⟩, raw_max h1.1⟩, ⟨raw_max h2.1⟩⟩, raw_max h4.1⟩⟩
end Eng
end Go.Proofs.YtgeakpeodhhffaaGreatDoor
namespace Go.Proofs.YtgeakpeodhhffaaGreatDoor
open Go.RowKit
set_option linter.unusedVariables false
set_option linter.unusedSimpArgs false
set_option maxRecDepth 100000
namespace Eng
open Tr
def c_SLateApply (x0 : GKernel) (x1 : List GSpan) (x2 : List GLate) (r0 : GKernel) (r1 : List GSpan) (r2 : List GLate) : CFD := ⟨20, [.agg [ro 33 1 eIntS x0.Machine.Frames.Cells, ro 4 1 Tr.eB x0.Machine.Frames.Used, ro 47 2 eEntry x0.Machine.Table.Entries, (CV.lit (.int .i64 (x0.Calls))), ro 3 1 Tr.eI x0.Refuse], .one (ro 41 3 eSpan x1), .one (ro 103 2 eLate x2)], [], .tup [.agg [.hd 0, .hd 1, .hd 2, (CV.lit (.int .i64 (r0.Calls))), .hd 3], .one (.hd 4), .one (.hd 5)], [(0, some (.row 33 1 (r0.Machine.Frames.Cells.map eIntS))), (1, some (.row 4 1 (r0.Machine.Frames.Used.map Tr.eB))), (2, some (.row 47 2 (r0.Machine.Table.Entries.map eEntry))), (3, some (.row 3 1 (r0.Refuse.map Tr.eI))), (4, some (.row 41 3 (r1.map eSpan))), (5, some (.row 103 2 (r2.map eLate)))], [0, 1, 2, 3, 4, 5], []⟩
def c_ILateApply (gl : List Glb) (x0 : GKernel) (x1 : List GSpan) (x2 : List GLate) (r0 : GKernel) (r1 : List GSpan) (r2 : List GLate) : CFD := ⟨24, [.agg [ro 33 1 eIntS x0.Machine.Frames.Cells, ro 4 1 Tr.eB x0.Machine.Frames.Used, ro 47 2 eEntry x0.Machine.Table.Entries, (CV.lit (.int .i64 (x0.Calls))), ro 3 1 Tr.eI x0.Refuse], .one (ro 41 3 eSpan x1), .one (ro 103 2 eLate x2)], [], .tup [.agg [.hd 0, .hd 1, .hd 2, (CV.lit (.int .i64 (r0.Calls))), .hd 3], .one (.hd 4), .one (.hd 5)], [(0, some (.row 33 1 (r0.Machine.Frames.Cells.map eIntS))), (1, some (.row 4 1 (r0.Machine.Frames.Used.map Tr.eB))), (2, some (.row 47 2 (r0.Machine.Table.Entries.map eEntry))), (3, some (.row 3 1 (r0.Refuse.map Tr.eI))), (4, some (.row 41 3 (r1.map eSpan))), (5, some (.row 103 2 (r2.map eLate)))], [0, 1, 2, 3, 4, 5], gl⟩
def c_XLateApply (gl : List Glb) (x0 : GKernel) (x1 : List GSpan) (x2 : List GLate) : CFD := ⟨4, [.agg [ro 33 1 eIntS x0.Machine.Frames.Cells, ro 4 1 Tr.eB x0.Machine.Frames.Used, ro 194 2 eEntry x0.Machine.Table.Entries, (CV.lit (.int .i64 (x0.Calls))), ro 3 1 Tr.eI x0.Refuse], .one (ro 110 3 eSpan x1), .one (ro 112 2 eLate x2)], [], (TV.sv (.one (.lit (.bool (true))))), [], [], gl⟩
set_option maxHeartbeats 16000000 in
theorem fn_XLateApply (gl : List Glb) (x0 : GKernel) (x1 : List GSpan) (x2 : List GLate) (r0 : GKernel) (r1 : List GSpan) (r2 : List GLate) (hm_x0 : mxK x0) (hm_x1 : x1.length ≤ 9223372036854775807) (hm_x2 : x2.length ≤ 9223372036854775807) (hR : nK x0 + x1.length + x2.length ≤ 1048576 → smK r0 ∧ r1.length ≤ 1048576 ∧ r2.length ≤ 1048576 ∧ cK r0 + 3 * r1.length + 2 * r2.length ≤ 50000000 ∧ Fn Tryz.prog (c_SLateApply x0 x1 x2 r0 r1 r2) ∧ Fn Tryz.prog (c_ILateApply gl x0 x1 x2 r0 r1 r2)) : Fn Tryz.prog (c_XLateApply gl x0 x1 x2) := by
  by_cases hz_x0 : 1048576 - ((nK x0 : Nat) : Int) < 0
  · skip
    refine fn_intro tt_ok Tryz.func4 rfl Tryz.call4 Tryz.ntmps4 Tryz.results4 rfl rfl rfl rfl ?_
    intro X ρ0 hb_ hgl_
    dsimp only [c_XLateApply]
    try refine nrm ?_
    repeat' (refine ar_id ?_; first | refine st1 ?_ | (first | ((first | refine ar_region (id := 2) tt_ok (inps := [.call (c_szK x0 (1048576) (-1))]) rfl ?_ ?_ | refine ar_region tt_ok (inps := []) rfl ?_ ?_); rotate_left; (try dsimp only [c_szK]); (try refine nrm ?_); rotate_right) | refine ret3 ?_ | refine end3 ?_) | (refine ar_cond rfl trivial ?_ ?_ <;> intro hc_ <;> (try simp only [isNilI, inB, reduceCtorEq, cds] at hc_) <;> (try (first | contradiction | (exfalso; omega)))) | refine ar_until (And.intro ?_ (wk3 ?_)))
    all_goals (first | refine ar_id ?_ | (try (focus ((try refine nrmO ?_); (repeat' (first | exact True.intro | refine And.intro ?_ ?_)); all_goals (try (intro (hg_ : _ = true); (try simp only [isNilI, inB, reduceCtorEq, cds] at hg_); (repeat' (first | exact True.intro | refine And.intro ?_ ?_)))); all_goals (first | exact ob1 | exact fn_szK _ _ _ hm_x0 (by omega) (by rw [if_pos hz_x0]) | skip)))))
  by_cases hz_x1 : 1048576 - ((nK x0 : Nat) : Int) - ((x1.length : Nat) : Int) < 0
  · skip
    refine fn_intro tt_ok Tryz.func4 rfl Tryz.call4 Tryz.ntmps4 Tryz.results4 rfl rfl rfl rfl ?_
    intro X ρ0 hb_ hgl_
    dsimp only [c_XLateApply]
    try refine nrm ?_
    repeat' (refine ar_id ?_; first | refine st1 ?_ | (first | ((first | refine ar_region (id := 2) tt_ok (inps := [.call (c_szK x0 (1048576) (1048576 - ((nK x0 : Nat) : Int)))]) rfl ?_ ?_ | refine ar_region (id := 5) tt_ok (inps := [.call (c_szSS x1 (1048576 - ((nK x0 : Nat) : Int)) (-1))]) rfl ?_ ?_ | refine ar_region tt_ok (inps := []) rfl ?_ ?_); rotate_left; (try dsimp only [c_szK, c_szSS]); (try refine nrm ?_); rotate_right) | refine ret3 ?_ | refine end3 ?_) | (refine ar_cond rfl trivial ?_ ?_ <;> intro hc_ <;> (try simp only [isNilI, inB, reduceCtorEq, cds] at hc_) <;> (try (first | contradiction | (exfalso; omega)))) | refine ar_until (And.intro ?_ (wk3 ?_)))
    all_goals (first | refine ar_id ?_ | (try (focus ((try refine nrmO ?_); (repeat' (first | exact True.intro | refine And.intro ?_ ?_)); all_goals (try (intro (hg_ : _ = true); (try simp only [isNilI, inB, reduceCtorEq, cds] at hg_); (repeat' (first | exact True.intro | refine And.intro ?_ ?_)))); all_goals (first | exact ob1 | exact fn_szK _ _ _ hm_x0 (by omega) (by rw [if_neg hz_x0]) | exact fn_szSS _ _ _ hm_x1 (by omega) (by rw [if_pos hz_x1]) | skip)))))
  by_cases hz_x2 : 1048576 - ((nK x0 : Nat) : Int) - ((x1.length : Nat) : Int) - ((x2.length : Nat) : Int) < 0
  · skip
    refine fn_intro tt_ok Tryz.func4 rfl Tryz.call4 Tryz.ntmps4 Tryz.results4 rfl rfl rfl rfl ?_
    intro X ρ0 hb_ hgl_
    dsimp only [c_XLateApply]
    try refine nrm ?_
    repeat' (refine ar_id ?_; first | refine st1 ?_ | (first | ((first | refine ar_region (id := 2) tt_ok (inps := [.call (c_szK x0 (1048576) (1048576 - ((nK x0 : Nat) : Int)))]) rfl ?_ ?_ | refine ar_region (id := 5) tt_ok (inps := [.call (c_szSS x1 (1048576 - ((nK x0 : Nat) : Int)) (1048576 - ((nK x0 : Nat) : Int) - ((x1.length : Nat) : Int)))]) rfl ?_ ?_ | refine ar_region (id := 8) tt_ok (inps := [.call (c_szLS x2 (1048576 - ((nK x0 : Nat) : Int) - ((x1.length : Nat) : Int)) (-1))]) rfl ?_ ?_ | refine ar_region tt_ok (inps := []) rfl ?_ ?_); rotate_left; (try dsimp only [c_szK, c_szLS, c_szSS]); (try refine nrm ?_); rotate_right) | refine ret3 ?_ | refine end3 ?_) | (refine ar_cond rfl trivial ?_ ?_ <;> intro hc_ <;> (try simp only [isNilI, inB, reduceCtorEq, cds] at hc_) <;> (try (first | contradiction | (exfalso; omega)))) | refine ar_until (And.intro ?_ (wk3 ?_)))
    all_goals (first | refine ar_id ?_ | (try (focus ((try refine nrmO ?_); (repeat' (first | exact True.intro | refine And.intro ?_ ?_)); all_goals (try (intro (hg_ : _ = true); (try simp only [isNilI, inB, reduceCtorEq, cds] at hg_); (repeat' (first | exact True.intro | refine And.intro ?_ ?_)))); all_goals (first | exact ob1 | exact fn_szK _ _ _ hm_x0 (by omega) (by rw [if_neg hz_x0]) | exact fn_szSS _ _ _ hm_x1 (by omega) (by rw [if_neg hz_x1]) | exact fn_szLS _ _ _ hm_x2 (by omega) (by rw [if_pos hz_x2]) | skip)))))
  have hs_x0 : smK x0 := K_sm (by omega)
  have hn_x0 := K_cn x0
  have hs_x1 : x1.length ≤ 1048576 := by omega
  have hs_x2 : x2.length ≤ 1048576 := by omega
  obtain ⟨hs_r0, hs_r1, hs_r2, hc_r, hS, hI⟩ := hR (by omega)
  refine fn_intro tt_ok Tryz.func4 rfl Tryz.call4 Tryz.ntmps4 Tryz.results4 rfl rfl rfl rfl ?_
  intro X ρ0 hb_ hgl_
  dsimp only [c_XLateApply]
  try refine nrm ?_
  repeat' (refine ar_id ?_; first | refine st1 ?_ | (refine ar_drawS (id := 18) tt_ok (by kernel_rfl) [.call (c_toK x0), .call (c_eqK x0)] ?_; refine ed_hide ?_; intro K_ hK_; repeat' (first | ((first | refine ed_call3 ?_ | refine ed_sure3 ?_ | refine ed_cons3 ?_); refine ed_hide ?_; intro K_ hK_; (try dsimp only [c_ILateApply, c_SLateApply, c_eqK, c_eqLS, c_eqSS, c_heldK, c_heldLS, c_heldSS, c_markK, c_markLS, c_markSS, c_szK, c_szLS, c_szSS, c_toK, c_toLS, c_toSS]); (try refine nrmE ?_)) | (refine ed_nil ?_; (repeat subst hK_); dsimp only; refine Exists.intro _ (And.intro rfl (And.intro (by kernel_rfl) (And.intro ?_ ?_))); rotate_left; (try dsimp only [c_ILateApply, c_SLateApply, c_eqK, c_eqLS, c_eqSS, c_heldK, c_heldLS, c_heldSS, c_markK, c_markLS, c_markSS, c_szK, c_szLS, c_szSS, c_toK, c_toLS, c_toSS]); (try refine nrm ?_); rotate_right))) | (first | ((first | refine ar_region (id := 2) tt_ok (inps := [.call (c_szK x0 (1048576) (1048576 - ((nK x0 : Nat) : Int)))]) rfl ?_ ?_ | refine ar_region (id := 5) tt_ok (inps := [.call (c_szSS x1 (1048576 - ((nK x0 : Nat) : Int)) (1048576 - ((nK x0 : Nat) : Int) - ((x1.length : Nat) : Int)))]) rfl ?_ ?_ | refine ar_region (id := 8) tt_ok (inps := [.call (c_szLS x2 (1048576 - ((nK x0 : Nat) : Int) - ((x1.length : Nat) : Int)) (1048576 - ((nK x0 : Nat) : Int) - ((x1.length : Nat) : Int) - ((x2.length : Nat) : Int)))]) rfl ?_ ?_ | refine ar_region (id := 11) tt_ok (inps := [.call (c_toK x0), .call (c_toSS x1), .call (c_toLS x2), .call (c_SLateApply x0 x1 x2 r0 r1 r2)]) rfl ?_ ?_ | refine ar_region (id := 12) tt_ok (inps := [.call (c_toK x0)]) rfl ?_ ?_ | refine ar_region (id := 13) tt_ok (inps := [.call (c_toSS x1)]) rfl ?_ ?_ | refine ar_region (id := 14) tt_ok (inps := [.call (c_toLS x2)]) rfl ?_ ?_ | refine ar_region (id := 15) tt_ok (inps := [.call (c_ILateApply gl x0 x1 x2 r0 r1 r2)]) rfl ?_ ?_ | refine ar_region (id := 16) tt_ok (inps := [.call (c_eqK r0), .call (c_eqSS r1), .call (c_eqLS r2)]) rfl ?_ ?_ | refine ar_region (id := 20) tt_ok (inps := [.call (c_toSS x1), .call (c_eqSS x1)]) rfl ?_ ?_ | refine ar_region (id := 22) tt_ok (inps := [.call (c_toLS x2), .call (c_eqLS x2)]) rfl ?_ ?_ | refine ar_region (id := 25) tt_ok (inps := [.call (c_markK x0 (1))]) rfl ?_ ?_ | refine ar_region (id := 26) tt_ok (inps := [.call (c_markSS x1 (1 + cK x0))]) rfl ?_ ?_ | refine ar_region (id := 27) tt_ok (inps := [.call (c_markLS x2 (1 + cK x0 + 3 * x1.length))]) rfl ?_ ?_ | refine ar_region (id := 28) tt_ok (inps := [.call (c_eqK r0), .call (c_eqSS r1), .call (c_eqLS r2)]) rfl ?_ ?_ | refine ar_region (id := 31) tt_ok (inps := [.call (c_markK r0 (1))]) rfl ?_ ?_ | refine ar_region (id := 32) tt_ok (inps := [.call (c_markSS r1 (1 + cK r0))]) rfl ?_ ?_ | refine ar_region (id := 33) tt_ok (inps := [.call (c_markLS r2 (1 + cK r0 + 3 * r1.length))]) rfl ?_ ?_ | refine ar_region (id := 35) tt_ok (inps := [.call (c_heldK r0 (1))]) rfl ?_ ?_ | refine ar_region (id := 38) tt_ok (inps := [.call (c_heldSS r1.length (1 + cK r0))]) rfl ?_ ?_ | refine ar_region (id := 41) tt_ok (inps := [.call (c_heldLS r2.length (1 + cK r0 + 3 * r1.length))]) rfl ?_ ?_ | refine ar_region (id := 46) tt_ok (inps := [.call (c_toK x0), .call (c_toSS x1), .call (c_toLS x2), .call (c_ILateApply gl x0 x1 x2 r0 r1 r2)]) rfl ?_ ?_ | refine ar_region (id := 47) tt_ok (inps := [.call (c_eqK r0), .call (c_eqSS r1), .call (c_eqLS r2)]) rfl ?_ ?_ | refine ar_region (id := 50) tt_ok (inps := [.call (c_heldK r0 (1))]) rfl ?_ ?_ | refine ar_region (id := 53) tt_ok (inps := [.call (c_heldSS r1.length (1 + cK r0))]) rfl ?_ ?_ | refine ar_region (id := 56) tt_ok (inps := [.call (c_heldLS r2.length (1 + cK r0 + 3 * r1.length))]) rfl ?_ ?_ | refine ar_region tt_ok (inps := []) rfl ?_ ?_); rotate_left; (try dsimp only [c_ILateApply, c_SLateApply, c_eqK, c_eqLS, c_eqSS, c_heldK, c_heldLS, c_heldSS, c_markK, c_markLS, c_markSS, c_szK, c_szLS, c_szSS, c_toK, c_toLS, c_toSS]); (try refine nrm ?_); rotate_right) | refine ret3 ?_ | refine end3 ?_) | (refine ar_cond rfl trivial ?_ ?_ <;> intro hc_ <;> (try simp only [isNilI, inB, reduceCtorEq, cds] at hc_) <;> (try (first | contradiction | (exfalso; omega)))) | refine ar_until (And.intro ?_ (wk3 ?_)))
  all_goals (first | refine ar_id ?_ | (try (focus ((try refine nrmO ?_); (repeat' (first | exact True.intro | refine And.intro ?_ ?_)); all_goals (try (intro (hg_ : _ = true); (try simp only [isNilI, inB, reduceCtorEq, cds] at hg_); (repeat' (first | exact True.intro | refine And.intro ?_ ?_)))); all_goals (first | exact ob1 | exact fn_szK _ _ _ hm_x0 (by omega) (by rw [if_neg hz_x0]) | exact fn_szSS _ _ _ hm_x1 (by omega) (by rw [if_neg hz_x1]) | exact fn_szLS _ _ _ hm_x2 (by omega) (by rw [if_neg hz_x2]) | exact hS | exact hI | exact fn_toK _ hs_x0 | exact fn_toSS _ hs_x1 | exact fn_toLS _ hs_x2 | exact fn_eqK _ hs_x0 | exact fn_eqSS _ hs_x1 | exact fn_eqLS _ hs_x2 | exact fn_eqK _ hs_r0 | exact fn_eqSS _ hs_r1 | exact fn_eqLS _ hs_r2 | exact fn_markK _ _ hs_x0 (by omega) | exact fn_markSS _ _ hs_x1 (by omega) | exact fn_markLS _ _ hs_x2 (by omega) | exact fn_markK _ _ hs_r0 (by omega) | exact fn_markSS _ _ hs_r1 (by omega) | exact fn_markLS _ _ hs_r2 (by omega) | exact fn_heldK _ _ hs_r0 (by omega) | exact fn_heldSS _ _ (by omega) (by omega) | exact fn_heldLS _ _ (by omega) (by omega) | exact hgl_.1 | exact hgl_.2.1 | exact hgl_.2.2.1 | exact hgl_.2.2.2.1 | exact hgl_.2.2.2.2.1 | exact hgl_.2.2.2.2.2.1 | exact hgl_.2.2.2.2.2.2.1 | exact hgl_.2.2.2.2.2.2.2.1 | exact hgl_ | exact rfl | exact one1 rfl | skip)))))
  all_goals (exfalso; (try simp only [or_false, false_or, not_true_eq_false] at hc_); omega)
theorem fn_LLateApply (G : List Glb) (hI : ∀ k ss l r, szK8 k → ss.length ≤ 1048576 → l.length ≤ 1048576 → pLateApply k ss l = r → Fn Tryz.prog (c_ILateApply G k ss l r.k r.ss r.w)) (x0 : GKernel) (x1 : List GSpan) (x2 : List GLate) (hm0 : mxK x0) (hm1 : x1.length ≤ 9223372036854775807) (hm2 : x2.length ≤ 9223372036854775807) : Fn Tryz.prog (c_XLateApply G x0 x1 x2) := by
  obtain ⟨r, hr⟩ : ∃ r, pLateApply x0 x1 x2 = r := ⟨_, rfl⟩
  refine fn_XLateApply G x0 x1 x2 r.k r.ss r.w hm0 hm1 hm2 (fun hn => ?_)
  have hs0 : smK x0 := K_sm (by omega)
  have hi : LInv x0 x1 r := by rw [← hr]; exact linv_run _ (linv_start _ _ _)
  have hk := n_kept hi.k
  have hw : r.w.length ≤ x2.length := by
    have := run_len ⟨x0, x1, []⟩ x2
    rw [show lateRun ⟨x0, x1, []⟩ x2 = r from hr] at this
    have h0 : ([] : List GLate).length = 0 := rfl
    change r.w.length ≤ 0 + x2.length at this
    omega
  have c1 := K_cn r.k
  have hn1 := hi.n
  exact ⟨K_sm (by omega), by omega, by omega, by omega, fn_LApS x0 x1 x2 r (szK8_sm16 hs0) (by omega) (by omega) hr, hI x0 x1 x2 r (szK8_sm16 hs0) (by omega) (by omega) hr⟩
end Eng
end Go.Proofs.YtgeakpeodhhffaaGreatDoor
